/- Layer 1: the law on quotients. -/
import Derived.Test.YtlipemjidjjenaaDivF
import Derived.Test.YtlipemjidjjenaaKeep
namespace Go.Proofs.Ytlipemjidjjenaa.divG
open Go.ChangeShapes Go.WideShapes Go.ChangeAt Go.RowKit
open Go.Proofs.Ytlipemjidjjenaa.base Go.Proofs.Ytlipemjidjjenaa.wideA Go.Proofs.Ytlipemjidjjenaa.wideB Go.Proofs.Ytlipemjidjjenaa.wideC Go.Proofs.Ytlipemjidjjenaa.wideD Go.Proofs.Ytlipemjidjjenaa.divE Go.Proofs.Ytlipemjidjjenaa.divF
set_option linter.unusedVariables false

theorem less_div (p q : Int) : less128 (p / 18446744073709551616) (p % 18446744073709551616) (q / 18446744073709551616) (q % 18446744073709551616) = decide (p < q) := by
  unfold less128
  rw [Bool.eq_iff_iff]
  simp only [Bool.or_eq_true, Bool.and_eq_true, decide_eq_true_eq, beq_iff_eq]
  constructor
  · rintro (h | ⟨h, h2⟩) <;> omega
  · intro h
    by_cases h2 : p / 18446744073709551616 < q / 18446744073709551616
    · exact .inl h2
    · exact .inr (by omega)
theorem bel_call2 {W w w' : World} (h : Below W.heap.size W w) (hb : Below w.heap.size w w') : Below W.heap.size W w' := h.trans (hb.mono h.size)

set_option maxHeartbeats 1000000 in
theorem qZN (xh xl y n p : Int) (x0 : 0 ≤ xh) (x1 : xh < 18446744073709551616) (x2 : 0 ≤ xl) (x3 : xl < 18446744073709551616) (y1 : y < 18446744073709551616) (n0 : 0 ≤ n) (n1 : n < 18446744073709551616) (p0 : 0 ≤ p) (p1 : p < 18446744073709551616) (hy : y = 0) (hB : y ≤ n * p / 18446744073709551616) (w : World) :
    Calls Try.prog 5 #[.agg #[.int .u64 xh, .int .u64 xl], .int .u64 y, .int .u64 n, .int .u64 p] w fun e w' => e = .returned (.bool true) ∧ Below w.heap.size w w' := by
  have HM2 := Lib.hid (fun w => lawMul_any n p n0 n1 p0 p1 w)
  have P0 : 0 ≤ n * p := Int.mul_nonneg n0 p0
  subst hy
  have HD := Lib.hid (fun w => numDiv_no xh xl 0 (by omega) w)
  have HSH := Lib.hid (fun w => share_no n p 0 n0 n1 p0 p1 hB w)
  clear P0
  generalize n * p / 18446744073709551616 = ph at *
  generalize n * p % 18446744073709551616 = pl at *
  go_enter Try.func5, Try.ntmps5
  go_wp2_with fail
  refine (HD.out _).mono ?_
  rintro e w1 ⟨rfl, hb⟩
  have hx0 := kept ((Blk.new w 24 #[.int .u64 xh, .int .u64 xl]).cell 0) hb
  have hx1 := kept ((Blk.new w 24 #[.int .u64 xh, .int .u64 xl]).cell 1) hb
  have HB1 := Lib.hid (((Below.refl w.heap.size w).alloc (Nat.le_refl _) _).trans (hb.mono (by simp)))
  clear hb
  go_wp2_with fail
  have HBa := HB1
  refine (HM2.out _).mono ?_
  rintro e wb ⟨rfl, hb⟩
  have HBb := Lib.hid (bel_call2 HBa.out hb)
  have hsb := HBb.out.size
  clear hb
  go_wp2_with fail
  refine (HSH.out _).mono ?_
  rintro e wc ⟨rfl, hb⟩
  have hp0 := kept ((Blk.new wb 24 #[.int .u64 ph, .int .u64 pl]).cell 0) hb
  have hp1 := kept ((Blk.new wb 24 #[.int .u64 ph, .int .u64 pl]).cell 1) hb
  have HBc := Lib.hid (bel_call2 (HBb.out.alloc hsb _) hb)
  clear hb
  go_wp2_with fail
  refine (awake_any _).mono ?_
  rintro e wd ⟨rfl, hb⟩
  have HBd := Lib.hid (bel_call2 HBc.out hb)
  clear hb
  go_wp2_with fail
  go_ret
  exact ⟨rfl, HBd.out⟩

set_option maxHeartbeats 1000000 in
theorem qNN (xh xl y n p : Int) (x0 : 0 ≤ xh) (x1 : xh < 18446744073709551616) (x2 : 0 ≤ xl) (x3 : xl < 18446744073709551616) (y1 : y < 18446744073709551616) (n0 : 0 ≤ n) (n1 : n < 18446744073709551616) (p0 : 0 ≤ p) (p1 : p < 18446744073709551616) (hy : 0 < y) (hA : y ≤ xh) (hB : y ≤ n * p / 18446744073709551616) (w : World) :
    Calls Try.prog 5 #[.agg #[.int .u64 xh, .int .u64 xl], .int .u64 y, .int .u64 n, .int .u64 p] w fun e w' => e = .returned (.bool true) ∧ Below w.heap.size w w' := by
  have HM2 := Lib.hid (fun w => lawMul_any n p n0 n1 p0 p1 w)
  have P0 : 0 ≤ n * p := Int.mul_nonneg n0 p0
  have HD := Lib.hid (fun w => numDiv_no xh xl y hA w)
  have f1 : (y == 0) = false := by simp; omega
  have f2 : decide (y ≤ xh) = true := by simpa using hA
  have HSH := Lib.hid (fun w => share_no n p y n0 n1 p0 p1 hB w)
  have g1 : decide (y ≤ n * p / 18446744073709551616) = true := by simpa using hB
  clear P0
  generalize n * p / 18446744073709551616 = ph at *
  generalize n * p % 18446744073709551616 = pl at *
  go_enter Try.func5, Try.ntmps5
  go_wp2_with fail
  refine (HD.out _).mono ?_
  rintro e w1 ⟨rfl, hb⟩
  have hx0 := kept ((Blk.new w 24 #[.int .u64 xh, .int .u64 xl]).cell 0) hb
  have hx1 := kept ((Blk.new w 24 #[.int .u64 xh, .int .u64 xl]).cell 1) hb
  have HB1 := Lib.hid (((Below.refl w.heap.size w).alloc (Nat.le_refl _) _).trans (hb.mono (by simp)))
  clear hb
  go_wp2_with fail
  have HBa := HB1
  refine (HM2.out _).mono ?_
  rintro e wb ⟨rfl, hb⟩
  have HBb := Lib.hid (bel_call2 HBa.out hb)
  have hsb := HBb.out.size
  clear hb
  go_wp2_with fail
  refine (HSH.out _).mono ?_
  rintro e wc ⟨rfl, hb⟩
  have hp0 := kept ((Blk.new wb 24 #[.int .u64 ph, .int .u64 pl]).cell 0) hb
  have hp1 := kept ((Blk.new wb 24 #[.int .u64 ph, .int .u64 pl]).cell 1) hb
  have HBc := Lib.hid (bel_call2 (HBb.out.alloc hsb _) hb)
  clear hb
  go_wp2_with fail
  refine (awake_any _).mono ?_
  rintro e wd ⟨rfl, hb⟩
  have HBd := Lib.hid (bel_call2 HBc.out hb)
  clear hb
  go_wp2_with fail
  go_ret
  exact ⟨rfl, HBd.out⟩

set_option maxHeartbeats 1000000 in
theorem qNF (xh xl y n p : Int) (x0 : 0 ≤ xh) (x1 : xh < 18446744073709551616) (x2 : 0 ≤ xl) (x3 : xl < 18446744073709551616) (y1 : y < 18446744073709551616) (n0 : 0 ≤ n) (n1 : n < 18446744073709551616) (p0 : 0 ≤ p) (p1 : p < 18446744073709551616) (hy : 0 < y) (hA : y ≤ xh) (hB : n * p / 18446744073709551616 < y) (hF : n * p / y * y / 18446744073709551616 + 0 + (n * p / y * y % 18446744073709551616 + y) / 18446744073709551616 < 18446744073709551616) (w : World) :
    Calls Try.prog 5 #[.agg #[.int .u64 xh, .int .u64 xl], .int .u64 y, .int .u64 n, .int .u64 p] w fun e w' => e = .returned (.bool true) ∧ Below w.heap.size w w' := by
  have HM2 := Lib.hid (fun w => lawMul_any n p n0 n1 p0 p1 w)
  have P0 : 0 ≤ n * p := Int.mul_nonneg n0 p0
  have HD := Lib.hid (fun w => numDiv_no xh xl y hA w)
  have f1 : (y == 0) = false := by simp; omega
  have f2 : decide (y ≤ xh) = true := by simpa using hA
  have HSH := Lib.hid (fun w => share_ok n p y n0 n1 p0 p1 hB y1 w)
  have g1 : decide (y ≤ n * p / 18446744073709551616) = false := by simp; omega
  have s0 : 0 ≤ n * p / y := Int.ediv_nonneg P0 (by omega)
  have s9 : n * p / y < 18446744073709551616 := by
    rw [Int.ediv_lt_iff_lt_mul hy]
    generalize n * p = P at *
    omega
  have hsr := Int.emod_add_mul_ediv (n * p) y
  have t0 := Int.emod_nonneg (n * p) (show y ≠ 0 by omega)
  have t9 := Int.emod_lt_of_pos (n * p) hy
  rw [Int.mul_comm y] at hsr
  generalize n * p / y = s at *
  have HM3 := Lib.hid (fun w => lawMul_any s y s0 s9 (by omega) y1 w)
  have sy0 : 0 ≤ s * y := Int.mul_nonneg s0 (by omega)
  have HL1 : Hid (∀ w, Calls Try.prog 27 #[.agg #[.int .u64 (n * p / 18446744073709551616), .int .u64 (n * p % 18446744073709551616)], .agg #[.int .u64 (s * y / 18446744073709551616), .int .u64 (s * y % 18446744073709551616)]] w fun e w' => e = .returned (.bool false) ∧ Below w.heap.size w w') := Lib.hid (fun w => by
    have h := less_any (n * p / 18446744073709551616) (n * p % 18446744073709551616) (s * y / 18446744073709551616) (s * y % 18446744073709551616) w
    rw [less_div, show decide (n * p < s * y) = false by simp; omega] at h
    exact h)
  have HA2 := Lib.hid (fun w => lawAdd_ok (s * y / 18446744073709551616) (s * y % 18446744073709551616) 0 y (by omega) (by omega) (by omega) (by omega) (by omega) (by omega) (by omega) y1 hF w)
  have HL2 : Hid (∀ w, Calls Try.prog 27 #[.agg #[.int .u64 (n * p / 18446744073709551616), .int .u64 (n * p % 18446744073709551616)], .agg #[.int .u64 (s * y / 18446744073709551616 + 0 + (s * y % 18446744073709551616 + y) / 18446744073709551616), .int .u64 ((s * y % 18446744073709551616 + y) % 18446744073709551616)]] w fun e w' => e = .returned (.bool true) ∧ Below w.heap.size w w') := Lib.hid (fun w => by
    have h := less_any (n * p / 18446744073709551616) (n * p % 18446744073709551616) ((s * y + y) / 18446744073709551616) ((s * y + y) % 18446744073709551616) w
    rw [less_div, show decide (n * p < s * y + y) = true by simp; omega] at h
    have e1 : (s * y + y) / 18446744073709551616 = s * y / 18446744073709551616 + 0 + (s * y % 18446744073709551616 + y) / 18446744073709551616 := by generalize s * y = z at *; omega
    have e2 : (s * y + y) % 18446744073709551616 = (s * y % 18446744073709551616 + y) % 18446744073709551616 := by generalize s * y = z at *; omega
    rw [e1, e2] at h
    exact h)
  obtain ⟨hh, ehh⟩ : ∃ hh, hh = s * y / 18446744073709551616 + 0 + (s * y % 18446744073709551616 + y) / 18446744073709551616 := ⟨_, rfl⟩
  obtain ⟨hl, ehl⟩ : ∃ hl, hl = (s * y % 18446744073709551616 + y) % 18446744073709551616 := ⟨_, rfl⟩
  rw [← ehh, ← ehl] at HA2 HL2
  clear ehh ehl hF
  clear hsr t0 t9 sy0
  generalize s * y / 18446744073709551616 = lh at *
  generalize s * y % 18446744073709551616 = ll at *
  clear P0
  generalize n * p / 18446744073709551616 = ph at *
  generalize n * p % 18446744073709551616 = pl at *
  go_enter Try.func5, Try.ntmps5
  go_wp2_with fail
  refine (HD.out _).mono ?_
  rintro e w1 ⟨rfl, hb⟩
  have hx0 := kept ((Blk.new w 24 #[.int .u64 xh, .int .u64 xl]).cell 0) hb
  have hx1 := kept ((Blk.new w 24 #[.int .u64 xh, .int .u64 xl]).cell 1) hb
  have HB1 := Lib.hid (((Below.refl w.heap.size w).alloc (Nat.le_refl _) _).trans (hb.mono (by simp)))
  clear hb
  go_wp2_with fail
  have HBa := HB1
  refine (HM2.out _).mono ?_
  rintro e wb ⟨rfl, hb⟩
  have HBb := Lib.hid (bel_call2 HBa.out hb)
  have hsb := HBb.out.size
  clear hb
  go_wp2_with fail
  refine (HSH.out _).mono ?_
  rintro e wc ⟨rfl, hb⟩
  have hp0 := kept ((Blk.new wb 24 #[.int .u64 ph, .int .u64 pl]).cell 0) hb
  have hp1 := kept ((Blk.new wb 24 #[.int .u64 ph, .int .u64 pl]).cell 1) hb
  have HBc := Lib.hid (bel_call2 (HBb.out.alloc hsb _) hb)
  clear hb
  go_wp2_with fail
  refine (HM3.out _).mono ?_
  rintro e wd ⟨rfl, hb⟩
  have hp2 := kept hp0 hb
  have hp3 := kept hp1 hb
  have HBd := Lib.hid (bel_call2 HBc.out hb)
  have hsd := HBd.out.size
  clear hb hp0 hp1
  go_wp2_with fail
  refine (HA2.out _).mono ?_
  rintro e we ⟨rfl, hb⟩
  have hl0 := kept ((Blk.new wd 24 #[.int .u64 lh, .int .u64 ll]).cell 0) hb
  have hl1 := kept ((Blk.new wd 24 #[.int .u64 lh, .int .u64 ll]).cell 1) hb
  have hp0 := kept (kept hp2 ((Below.refl _ _).alloc (Nat.le_refl _) _)) hb
  have hp1 := kept (kept hp3 ((Below.refl _ _).alloc (Nat.le_refl _) _)) hb
  have HBe := Lib.hid (bel_call2 (HBd.out.alloc hsd _) hb)
  have hse := HBe.out.size
  have hn1 : wb.heap.size < we.heap.size := World.block_lt_of_cell? we _ hp0
  have hn2 : wd.heap.size < we.heap.size := World.block_lt_of_cell? we _ hl0
  clear hb hp2 hp3
  go_wp2_with fail
  refine (HL1.out _).mono ?_
  rintro e wf ⟨rfl, hb⟩
  have hh0 := kept ((Blk.new we 24 #[.int .u64 hh, .int .u64 hl]).cell 0) hb
  have hh1 := kept ((Blk.new we 24 #[.int .u64 hh, .int .u64 hl]).cell 1) hb
  have hp2 := kept (kept hp0 ((Below.refl _ _).alloc (Nat.le_refl _) _)) hb
  have hp3 := kept (kept hp1 ((Below.refl _ _).alloc (Nat.le_refl _) _)) hb
  have HBf := Lib.hid (bel_call2 (HBe.out.alloc hse _) hb)
  clear hb hp0 hp1 hl0 hl1
  go_wp2_with fail
  refine (HL2.out _).mono ?_
  rintro e wg ⟨rfl, hb⟩
  have HBg := Lib.hid (bel_call2 HBf.out hb)
  clear hb
  go_wp2_with fail
  refine (awake_any _).mono ?_
  rintro e wi ⟨rfl, hb⟩
  have HBi := Lib.hid (bel_call2 HBg.out hb)
  clear hb
  go_wp2_with fail
  go_ret
  exact ⟨rfl, HBi.out⟩

set_option maxHeartbeats 1000000 in
theorem qNO (xh xl y n p : Int) (x0 : 0 ≤ xh) (x1 : xh < 18446744073709551616) (x2 : 0 ≤ xl) (x3 : xl < 18446744073709551616) (y1 : y < 18446744073709551616) (n0 : 0 ≤ n) (n1 : n < 18446744073709551616) (p0 : 0 ≤ p) (p1 : p < 18446744073709551616) (hy : 0 < y) (hA : y ≤ xh) (hB : n * p / 18446744073709551616 < y) (hF : 18446744073709551616 ≤ n * p / y * y / 18446744073709551616 + 0 + (n * p / y * y % 18446744073709551616 + y) / 18446744073709551616) (w : World) :
    Calls Try.prog 5 #[.agg #[.int .u64 xh, .int .u64 xl], .int .u64 y, .int .u64 n, .int .u64 p] w fun e w' => e = .returned (.bool true) ∧ Below w.heap.size w w' := by
  have HM2 := Lib.hid (fun w => lawMul_any n p n0 n1 p0 p1 w)
  have P0 : 0 ≤ n * p := Int.mul_nonneg n0 p0
  have HD := Lib.hid (fun w => numDiv_no xh xl y hA w)
  have f1 : (y == 0) = false := by simp; omega
  have f2 : decide (y ≤ xh) = true := by simpa using hA
  have HSH := Lib.hid (fun w => share_ok n p y n0 n1 p0 p1 hB y1 w)
  have g1 : decide (y ≤ n * p / 18446744073709551616) = false := by simp; omega
  have s0 : 0 ≤ n * p / y := Int.ediv_nonneg P0 (by omega)
  have s9 : n * p / y < 18446744073709551616 := by
    rw [Int.ediv_lt_iff_lt_mul hy]
    generalize n * p = P at *
    omega
  have hsr := Int.emod_add_mul_ediv (n * p) y
  have t0 := Int.emod_nonneg (n * p) (show y ≠ 0 by omega)
  have t9 := Int.emod_lt_of_pos (n * p) hy
  rw [Int.mul_comm y] at hsr
  generalize n * p / y = s at *
  have HM3 := Lib.hid (fun w => lawMul_any s y s0 s9 (by omega) y1 w)
  have sy0 : 0 ≤ s * y := Int.mul_nonneg s0 (by omega)
  have HL1 : Hid (∀ w, Calls Try.prog 27 #[.agg #[.int .u64 (n * p / 18446744073709551616), .int .u64 (n * p % 18446744073709551616)], .agg #[.int .u64 (s * y / 18446744073709551616), .int .u64 (s * y % 18446744073709551616)]] w fun e w' => e = .returned (.bool false) ∧ Below w.heap.size w w') := Lib.hid (fun w => by
    have h := less_any (n * p / 18446744073709551616) (n * p % 18446744073709551616) (s * y / 18446744073709551616) (s * y % 18446744073709551616) w
    rw [less_div, show decide (n * p < s * y) = false by simp; omega] at h
    exact h)
  have HA2 := Lib.hid (fun w => lawAdd_no (s * y / 18446744073709551616) (s * y % 18446744073709551616) 0 y (by omega) (by generalize s * y = z at *; generalize n * p = P at *; omega) (by omega) (by omega) (by omega) (by omega) (by omega) y1 hF w)
  clear hF
  clear hsr t0 t9 sy0
  generalize s * y / 18446744073709551616 = lh at *
  generalize s * y % 18446744073709551616 = ll at *
  clear P0
  generalize n * p / 18446744073709551616 = ph at *
  generalize n * p % 18446744073709551616 = pl at *
  go_enter Try.func5, Try.ntmps5
  go_wp2_with fail
  refine (HD.out _).mono ?_
  rintro e w1 ⟨rfl, hb⟩
  have hx0 := kept ((Blk.new w 24 #[.int .u64 xh, .int .u64 xl]).cell 0) hb
  have hx1 := kept ((Blk.new w 24 #[.int .u64 xh, .int .u64 xl]).cell 1) hb
  have HB1 := Lib.hid (((Below.refl w.heap.size w).alloc (Nat.le_refl _) _).trans (hb.mono (by simp)))
  clear hb
  go_wp2_with fail
  have HBa := HB1
  refine (HM2.out _).mono ?_
  rintro e wb ⟨rfl, hb⟩
  have HBb := Lib.hid (bel_call2 HBa.out hb)
  have hsb := HBb.out.size
  clear hb
  go_wp2_with fail
  refine (HSH.out _).mono ?_
  rintro e wc ⟨rfl, hb⟩
  have hp0 := kept ((Blk.new wb 24 #[.int .u64 ph, .int .u64 pl]).cell 0) hb
  have hp1 := kept ((Blk.new wb 24 #[.int .u64 ph, .int .u64 pl]).cell 1) hb
  have HBc := Lib.hid (bel_call2 (HBb.out.alloc hsb _) hb)
  clear hb
  go_wp2_with fail
  refine (HM3.out _).mono ?_
  rintro e wd ⟨rfl, hb⟩
  have hp2 := kept hp0 hb
  have hp3 := kept hp1 hb
  have HBd := Lib.hid (bel_call2 HBc.out hb)
  have hsd := HBd.out.size
  clear hb hp0 hp1
  go_wp2_with fail
  refine (HA2.out _).mono ?_
  rintro e we ⟨rfl, hb⟩
  have hl0 := kept ((Blk.new wd 24 #[.int .u64 lh, .int .u64 ll]).cell 0) hb
  have hl1 := kept ((Blk.new wd 24 #[.int .u64 lh, .int .u64 ll]).cell 1) hb
  have hp0 := kept (kept hp2 ((Below.refl _ _).alloc (Nat.le_refl _) _)) hb
  have hp1 := kept (kept hp3 ((Below.refl _ _).alloc (Nat.le_refl _) _)) hb
  have HBe := Lib.hid (bel_call2 (HBd.out.alloc hsd _) hb)
  have hse := HBe.out.size
  have hn1 : wb.heap.size < we.heap.size := World.block_lt_of_cell? we _ hp0
  have hn2 : wd.heap.size < we.heap.size := World.block_lt_of_cell? we _ hl0
  clear hb hp2 hp3
  go_wp2_with fail
  refine (HL1.out _).mono ?_
  rintro e wf ⟨rfl, hb⟩
  have hh0 := kept ((Blk.new we 24 #[.int .u64 0, .int .u64 0]).cell 0) hb
  have hh1 := kept ((Blk.new we 24 #[.int .u64 0, .int .u64 0]).cell 1) hb
  have hp2 := kept (kept hp0 ((Below.refl _ _).alloc (Nat.le_refl _) _)) hb
  have hp3 := kept (kept hp1 ((Below.refl _ _).alloc (Nat.le_refl _) _)) hb
  have HBf := Lib.hid (bel_call2 (HBe.out.alloc hse _) hb)
  clear hb hp0 hp1 hl0 hl1
  go_wp2_with fail
  have HBg := HBf
  refine (awake_any _).mono ?_
  rintro e wi ⟨rfl, hb⟩
  have HBi := Lib.hid (bel_call2 HBg.out hb)
  clear hb
  go_wp2_with fail
  go_ret
  exact ⟨rfl, HBi.out⟩

set_option maxHeartbeats 1000000 in
theorem qYN (xh xl y n p : Int) (x0 : 0 ≤ xh) (x1 : xh < 18446744073709551616) (x2 : 0 ≤ xl) (x3 : xl < 18446744073709551616) (y1 : y < 18446744073709551616) (n0 : 0 ≤ n) (n1 : n < 18446744073709551616) (p0 : 0 ≤ p) (p1 : p < 18446744073709551616) (hy : 0 < y) (hA : xh < y) (hB : y ≤ n * p / 18446744073709551616) (w : World) :
    Calls Try.prog 5 #[.agg #[.int .u64 xh, .int .u64 xl], .int .u64 y, .int .u64 n, .int .u64 p] w fun e w' => e = .returned (.bool true) ∧ Below w.heap.size w w' := by
  have HM2 := Lib.hid (fun w => lawMul_any n p n0 n1 p0 p1 w)
  have P0 : 0 ≤ n * p := Int.mul_nonneg n0 p0
  have HD0 := Lib.hid (fun w => numDiv_ok xh xl y x0 hA x2 x3 y1 w)
  have f1 : (y == 0) = false := by simp; omega
  have f2 : decide (y ≤ xh) = false := by simp; omega
  have q0 : 0 ≤ (xh * 18446744073709551616 + xl) / y := Int.ediv_nonneg (by omega) (by omega)
  have q9 : (xh * 18446744073709551616 + xl) / y < 18446744073709551616 := by
    rw [Int.ediv_lt_iff_lt_mul hy]
    omega
  have hqr := Int.emod_add_mul_ediv (xh * 18446744073709551616 + xl) y
  have r0 := Int.emod_nonneg (xh * 18446744073709551616 + xl) (show y ≠ 0 by omega)
  have r9 := Int.emod_lt_of_pos (xh * 18446744073709551616 + xl) hy
  rw [Int.mul_comm y] at hqr
  generalize (xh * 18446744073709551616 + xl) / y = q at *
  generalize (xh * 18446744073709551616 + xl) % y = r at *
  have HD := HD0
  have HM1 := Lib.hid (fun w => lawMul_any q y q0 q9 (by omega) y1 w)
  have qy0 : 0 ≤ q * y := Int.mul_nonneg q0 (by omega)
  have HA1 : Hid (∀ w, Calls Try.prog 18 #[.agg #[.int .u64 (q * y / 18446744073709551616), .int .u64 (q * y % 18446744073709551616)], .agg #[.int .u64 0, .int .u64 r]] w fun e w' => e = .returned (.tuple #[.agg #[.int .u64 xh, .int .u64 xl], .bool true]) ∧ Below w.heap.size w w') := Lib.hid (fun w => by
    generalize q * y = z at *
    have h := lawAdd_ok (z / 18446744073709551616) (z % 18446744073709551616) 0 r (by omega) (by omega) (by omega) (by omega) (by omega) (by omega) r0 (by omega) (by omega) w
    have e1 : z / 18446744073709551616 + 0 + (z % 18446744073709551616 + r) / 18446744073709551616 = xh := by omega
    have e2 : (z % 18446744073709551616 + r) % 18446744073709551616 = xl := by omega
    rw [e1, e2] at h
    exact h)
  have f3 : decide (y ≤ r) = false := by simp; omega
  have f4 : (xh != xh) = false := by simp
  have f5 : (xl != xl) = false := by simp
  clear HD0 hqr qy0
  have HSH := Lib.hid (fun w => share_no n p y n0 n1 p0 p1 hB w)
  have g1 : decide (y ≤ n * p / 18446744073709551616) = true := by simpa using hB
  clear P0
  generalize n * p / 18446744073709551616 = ph at *
  generalize n * p % 18446744073709551616 = pl at *
  go_enter Try.func5, Try.ntmps5
  go_wp2_with fail
  refine (HD.out _).mono ?_
  rintro e w1 ⟨rfl, hb⟩
  have hx0 := kept ((Blk.new w 24 #[.int .u64 xh, .int .u64 xl]).cell 0) hb
  have hx1 := kept ((Blk.new w 24 #[.int .u64 xh, .int .u64 xl]).cell 1) hb
  have HB1 := Lib.hid (((Below.refl w.heap.size w).alloc (Nat.le_refl _) _).trans (hb.mono (by simp)))
  clear hb
  go_wp2_with fail
  refine (HM1.out _).mono ?_
  rintro e w2 ⟨rfl, hb⟩
  have hx0' := kept hx0 hb
  have hx1' := kept hx1 hb
  have HB2 := Lib.hid (bel_call2 HB1.out hb)
  clear hb hx0 hx1
  go_wp2_with fail
  refine (HA1.out _).mono ?_
  rintro e w3 ⟨rfl, hb⟩
  have hx0 := kept hx0' hb
  have hx1 := kept hx1' hb
  have HB3 := Lib.hid (bel_call2 HB2.out hb)
  have hs3 := HB3.out.size
  have hne : w.heap.size < w3.heap.size := World.block_lt_of_cell? w3 _ hx0
  clear hb hx0' hx1'
  go_wp2_with fail
  have HBa := Lib.hid (HB3.out.alloc hs3 (.cells #[.int .u64 xh, .int .u64 xl] 24))
  generalize w3.alloc (.cells #[.int .u64 xh, .int .u64 xl] 24) = wa at *
  refine (HM2.out _).mono ?_
  rintro e wb ⟨rfl, hb⟩
  have HBb := Lib.hid (bel_call2 HBa.out hb)
  have hsb := HBb.out.size
  clear hb
  go_wp2_with fail
  refine (HSH.out _).mono ?_
  rintro e wc ⟨rfl, hb⟩
  have hp0 := kept ((Blk.new wb 24 #[.int .u64 ph, .int .u64 pl]).cell 0) hb
  have hp1 := kept ((Blk.new wb 24 #[.int .u64 ph, .int .u64 pl]).cell 1) hb
  have HBc := Lib.hid (bel_call2 (HBb.out.alloc hsb _) hb)
  clear hb
  go_wp2_with fail
  refine (awake_any _).mono ?_
  rintro e wd ⟨rfl, hb⟩
  have HBd := Lib.hid (bel_call2 HBc.out hb)
  clear hb
  go_wp2_with fail
  go_ret
  exact ⟨rfl, HBd.out⟩

set_option maxHeartbeats 1000000 in
theorem qYF (xh xl y n p : Int) (x0 : 0 ≤ xh) (x1 : xh < 18446744073709551616) (x2 : 0 ≤ xl) (x3 : xl < 18446744073709551616) (y1 : y < 18446744073709551616) (n0 : 0 ≤ n) (n1 : n < 18446744073709551616) (p0 : 0 ≤ p) (p1 : p < 18446744073709551616) (hy : 0 < y) (hA : xh < y) (hB : n * p / 18446744073709551616 < y) (hF : n * p / y * y / 18446744073709551616 + 0 + (n * p / y * y % 18446744073709551616 + y) / 18446744073709551616 < 18446744073709551616) (w : World) :
    Calls Try.prog 5 #[.agg #[.int .u64 xh, .int .u64 xl], .int .u64 y, .int .u64 n, .int .u64 p] w fun e w' => e = .returned (.bool true) ∧ Below w.heap.size w w' := by
  have HM2 := Lib.hid (fun w => lawMul_any n p n0 n1 p0 p1 w)
  have P0 : 0 ≤ n * p := Int.mul_nonneg n0 p0
  have HD0 := Lib.hid (fun w => numDiv_ok xh xl y x0 hA x2 x3 y1 w)
  have f1 : (y == 0) = false := by simp; omega
  have f2 : decide (y ≤ xh) = false := by simp; omega
  have q0 : 0 ≤ (xh * 18446744073709551616 + xl) / y := Int.ediv_nonneg (by omega) (by omega)
  have q9 : (xh * 18446744073709551616 + xl) / y < 18446744073709551616 := by
    rw [Int.ediv_lt_iff_lt_mul hy]
    omega
  have hqr := Int.emod_add_mul_ediv (xh * 18446744073709551616 + xl) y
  have r0 := Int.emod_nonneg (xh * 18446744073709551616 + xl) (show y ≠ 0 by omega)
  have r9 := Int.emod_lt_of_pos (xh * 18446744073709551616 + xl) hy
  rw [Int.mul_comm y] at hqr
  generalize (xh * 18446744073709551616 + xl) / y = q at *
  generalize (xh * 18446744073709551616 + xl) % y = r at *
  have HD := HD0
  have HM1 := Lib.hid (fun w => lawMul_any q y q0 q9 (by omega) y1 w)
  have qy0 : 0 ≤ q * y := Int.mul_nonneg q0 (by omega)
  have HA1 : Hid (∀ w, Calls Try.prog 18 #[.agg #[.int .u64 (q * y / 18446744073709551616), .int .u64 (q * y % 18446744073709551616)], .agg #[.int .u64 0, .int .u64 r]] w fun e w' => e = .returned (.tuple #[.agg #[.int .u64 xh, .int .u64 xl], .bool true]) ∧ Below w.heap.size w w') := Lib.hid (fun w => by
    generalize q * y = z at *
    have h := lawAdd_ok (z / 18446744073709551616) (z % 18446744073709551616) 0 r (by omega) (by omega) (by omega) (by omega) (by omega) (by omega) r0 (by omega) (by omega) w
    have e1 : z / 18446744073709551616 + 0 + (z % 18446744073709551616 + r) / 18446744073709551616 = xh := by omega
    have e2 : (z % 18446744073709551616 + r) % 18446744073709551616 = xl := by omega
    rw [e1, e2] at h
    exact h)
  have f3 : decide (y ≤ r) = false := by simp; omega
  have f4 : (xh != xh) = false := by simp
  have f5 : (xl != xl) = false := by simp
  clear HD0 hqr qy0
  have HSH := Lib.hid (fun w => share_ok n p y n0 n1 p0 p1 hB y1 w)
  have g1 : decide (y ≤ n * p / 18446744073709551616) = false := by simp; omega
  have s0 : 0 ≤ n * p / y := Int.ediv_nonneg P0 (by omega)
  have s9 : n * p / y < 18446744073709551616 := by
    rw [Int.ediv_lt_iff_lt_mul hy]
    generalize n * p = P at *
    omega
  have hsr := Int.emod_add_mul_ediv (n * p) y
  have t0 := Int.emod_nonneg (n * p) (show y ≠ 0 by omega)
  have t9 := Int.emod_lt_of_pos (n * p) hy
  rw [Int.mul_comm y] at hsr
  generalize n * p / y = s at *
  have HM3 := Lib.hid (fun w => lawMul_any s y s0 s9 (by omega) y1 w)
  have sy0 : 0 ≤ s * y := Int.mul_nonneg s0 (by omega)
  have HL1 : Hid (∀ w, Calls Try.prog 27 #[.agg #[.int .u64 (n * p / 18446744073709551616), .int .u64 (n * p % 18446744073709551616)], .agg #[.int .u64 (s * y / 18446744073709551616), .int .u64 (s * y % 18446744073709551616)]] w fun e w' => e = .returned (.bool false) ∧ Below w.heap.size w w') := Lib.hid (fun w => by
    have h := less_any (n * p / 18446744073709551616) (n * p % 18446744073709551616) (s * y / 18446744073709551616) (s * y % 18446744073709551616) w
    rw [less_div, show decide (n * p < s * y) = false by simp; omega] at h
    exact h)
  have HA2 := Lib.hid (fun w => lawAdd_ok (s * y / 18446744073709551616) (s * y % 18446744073709551616) 0 y (by omega) (by omega) (by omega) (by omega) (by omega) (by omega) (by omega) y1 hF w)
  have HL2 : Hid (∀ w, Calls Try.prog 27 #[.agg #[.int .u64 (n * p / 18446744073709551616), .int .u64 (n * p % 18446744073709551616)], .agg #[.int .u64 (s * y / 18446744073709551616 + 0 + (s * y % 18446744073709551616 + y) / 18446744073709551616), .int .u64 ((s * y % 18446744073709551616 + y) % 18446744073709551616)]] w fun e w' => e = .returned (.bool true) ∧ Below w.heap.size w w') := Lib.hid (fun w => by
    have h := less_any (n * p / 18446744073709551616) (n * p % 18446744073709551616) ((s * y + y) / 18446744073709551616) ((s * y + y) % 18446744073709551616) w
    rw [less_div, show decide (n * p < s * y + y) = true by simp; omega] at h
    have e1 : (s * y + y) / 18446744073709551616 = s * y / 18446744073709551616 + 0 + (s * y % 18446744073709551616 + y) / 18446744073709551616 := by generalize s * y = z at *; omega
    have e2 : (s * y + y) % 18446744073709551616 = (s * y % 18446744073709551616 + y) % 18446744073709551616 := by generalize s * y = z at *; omega
    rw [e1, e2] at h
    exact h)
  obtain ⟨hh, ehh⟩ : ∃ hh, hh = s * y / 18446744073709551616 + 0 + (s * y % 18446744073709551616 + y) / 18446744073709551616 := ⟨_, rfl⟩
  obtain ⟨hl, ehl⟩ : ∃ hl, hl = (s * y % 18446744073709551616 + y) % 18446744073709551616 := ⟨_, rfl⟩
  rw [← ehh, ← ehl] at HA2 HL2
  clear ehh ehl hF
  clear hsr t0 t9 sy0
  generalize s * y / 18446744073709551616 = lh at *
  generalize s * y % 18446744073709551616 = ll at *
  clear P0
  generalize n * p / 18446744073709551616 = ph at *
  generalize n * p % 18446744073709551616 = pl at *
  go_enter Try.func5, Try.ntmps5
  go_wp2_with fail
  refine (HD.out _).mono ?_
  rintro e w1 ⟨rfl, hb⟩
  have hx0 := kept ((Blk.new w 24 #[.int .u64 xh, .int .u64 xl]).cell 0) hb
  have hx1 := kept ((Blk.new w 24 #[.int .u64 xh, .int .u64 xl]).cell 1) hb
  have HB1 := Lib.hid (((Below.refl w.heap.size w).alloc (Nat.le_refl _) _).trans (hb.mono (by simp)))
  clear hb
  go_wp2_with fail
  refine (HM1.out _).mono ?_
  rintro e w2 ⟨rfl, hb⟩
  have hx0' := kept hx0 hb
  have hx1' := kept hx1 hb
  have HB2 := Lib.hid (bel_call2 HB1.out hb)
  clear hb hx0 hx1
  go_wp2_with fail
  refine (HA1.out _).mono ?_
  rintro e w3 ⟨rfl, hb⟩
  have hx0 := kept hx0' hb
  have hx1 := kept hx1' hb
  have HB3 := Lib.hid (bel_call2 HB2.out hb)
  have hs3 := HB3.out.size
  have hne : w.heap.size < w3.heap.size := World.block_lt_of_cell? w3 _ hx0
  clear hb hx0' hx1'
  go_wp2_with fail
  have HBa := Lib.hid (HB3.out.alloc hs3 (.cells #[.int .u64 xh, .int .u64 xl] 24))
  generalize w3.alloc (.cells #[.int .u64 xh, .int .u64 xl] 24) = wa at *
  refine (HM2.out _).mono ?_
  rintro e wb ⟨rfl, hb⟩
  have HBb := Lib.hid (bel_call2 HBa.out hb)
  have hsb := HBb.out.size
  clear hb
  go_wp2_with fail
  refine (HSH.out _).mono ?_
  rintro e wc ⟨rfl, hb⟩
  have hp0 := kept ((Blk.new wb 24 #[.int .u64 ph, .int .u64 pl]).cell 0) hb
  have hp1 := kept ((Blk.new wb 24 #[.int .u64 ph, .int .u64 pl]).cell 1) hb
  have HBc := Lib.hid (bel_call2 (HBb.out.alloc hsb _) hb)
  clear hb
  go_wp2_with fail
  refine (HM3.out _).mono ?_
  rintro e wd ⟨rfl, hb⟩
  have hp2 := kept hp0 hb
  have hp3 := kept hp1 hb
  have HBd := Lib.hid (bel_call2 HBc.out hb)
  have hsd := HBd.out.size
  clear hb hp0 hp1
  go_wp2_with fail
  refine (HA2.out _).mono ?_
  rintro e we ⟨rfl, hb⟩
  have hl0 := kept ((Blk.new wd 24 #[.int .u64 lh, .int .u64 ll]).cell 0) hb
  have hl1 := kept ((Blk.new wd 24 #[.int .u64 lh, .int .u64 ll]).cell 1) hb
  have hp0 := kept (kept hp2 ((Below.refl _ _).alloc (Nat.le_refl _) _)) hb
  have hp1 := kept (kept hp3 ((Below.refl _ _).alloc (Nat.le_refl _) _)) hb
  have HBe := Lib.hid (bel_call2 (HBd.out.alloc hsd _) hb)
  have hse := HBe.out.size
  have hn1 : wb.heap.size < we.heap.size := World.block_lt_of_cell? we _ hp0
  have hn2 : wd.heap.size < we.heap.size := World.block_lt_of_cell? we _ hl0
  clear hb hp2 hp3
  go_wp2_with fail
  refine (HL1.out _).mono ?_
  rintro e wf ⟨rfl, hb⟩
  have hh0 := kept ((Blk.new we 24 #[.int .u64 hh, .int .u64 hl]).cell 0) hb
  have hh1 := kept ((Blk.new we 24 #[.int .u64 hh, .int .u64 hl]).cell 1) hb
  have hp2 := kept (kept hp0 ((Below.refl _ _).alloc (Nat.le_refl _) _)) hb
  have hp3 := kept (kept hp1 ((Below.refl _ _).alloc (Nat.le_refl _) _)) hb
  have HBf := Lib.hid (bel_call2 (HBe.out.alloc hse _) hb)
  clear hb hp0 hp1 hl0 hl1
  go_wp2_with fail
  refine (HL2.out _).mono ?_
  rintro e wg ⟨rfl, hb⟩
  have HBg := Lib.hid (bel_call2 HBf.out hb)
  clear hb
  go_wp2_with fail
  refine (awake_any _).mono ?_
  rintro e wi ⟨rfl, hb⟩
  have HBi := Lib.hid (bel_call2 HBg.out hb)
  clear hb
  go_wp2_with fail
  go_ret
  exact ⟨rfl, HBi.out⟩

set_option maxHeartbeats 1000000 in
theorem qYO (xh xl y n p : Int) (x0 : 0 ≤ xh) (x1 : xh < 18446744073709551616) (x2 : 0 ≤ xl) (x3 : xl < 18446744073709551616) (y1 : y < 18446744073709551616) (n0 : 0 ≤ n) (n1 : n < 18446744073709551616) (p0 : 0 ≤ p) (p1 : p < 18446744073709551616) (hy : 0 < y) (hA : xh < y) (hB : n * p / 18446744073709551616 < y) (hF : 18446744073709551616 ≤ n * p / y * y / 18446744073709551616 + 0 + (n * p / y * y % 18446744073709551616 + y) / 18446744073709551616) (w : World) :
    Calls Try.prog 5 #[.agg #[.int .u64 xh, .int .u64 xl], .int .u64 y, .int .u64 n, .int .u64 p] w fun e w' => e = .returned (.bool true) ∧ Below w.heap.size w w' := by
  have HM2 := Lib.hid (fun w => lawMul_any n p n0 n1 p0 p1 w)
  have P0 : 0 ≤ n * p := Int.mul_nonneg n0 p0
  have HD0 := Lib.hid (fun w => numDiv_ok xh xl y x0 hA x2 x3 y1 w)
  have f1 : (y == 0) = false := by simp; omega
  have f2 : decide (y ≤ xh) = false := by simp; omega
  have q0 : 0 ≤ (xh * 18446744073709551616 + xl) / y := Int.ediv_nonneg (by omega) (by omega)
  have q9 : (xh * 18446744073709551616 + xl) / y < 18446744073709551616 := by
    rw [Int.ediv_lt_iff_lt_mul hy]
    omega
  have hqr := Int.emod_add_mul_ediv (xh * 18446744073709551616 + xl) y
  have r0 := Int.emod_nonneg (xh * 18446744073709551616 + xl) (show y ≠ 0 by omega)
  have r9 := Int.emod_lt_of_pos (xh * 18446744073709551616 + xl) hy
  rw [Int.mul_comm y] at hqr
  generalize (xh * 18446744073709551616 + xl) / y = q at *
  generalize (xh * 18446744073709551616 + xl) % y = r at *
  have HD := HD0
  have HM1 := Lib.hid (fun w => lawMul_any q y q0 q9 (by omega) y1 w)
  have qy0 : 0 ≤ q * y := Int.mul_nonneg q0 (by omega)
  have HA1 : Hid (∀ w, Calls Try.prog 18 #[.agg #[.int .u64 (q * y / 18446744073709551616), .int .u64 (q * y % 18446744073709551616)], .agg #[.int .u64 0, .int .u64 r]] w fun e w' => e = .returned (.tuple #[.agg #[.int .u64 xh, .int .u64 xl], .bool true]) ∧ Below w.heap.size w w') := Lib.hid (fun w => by
    generalize q * y = z at *
    have h := lawAdd_ok (z / 18446744073709551616) (z % 18446744073709551616) 0 r (by omega) (by omega) (by omega) (by omega) (by omega) (by omega) r0 (by omega) (by omega) w
    have e1 : z / 18446744073709551616 + 0 + (z % 18446744073709551616 + r) / 18446744073709551616 = xh := by omega
    have e2 : (z % 18446744073709551616 + r) % 18446744073709551616 = xl := by omega
    rw [e1, e2] at h
    exact h)
  have f3 : decide (y ≤ r) = false := by simp; omega
  have f4 : (xh != xh) = false := by simp
  have f5 : (xl != xl) = false := by simp
  clear HD0 hqr qy0
  have HSH := Lib.hid (fun w => share_ok n p y n0 n1 p0 p1 hB y1 w)
  have g1 : decide (y ≤ n * p / 18446744073709551616) = false := by simp; omega
  have s0 : 0 ≤ n * p / y := Int.ediv_nonneg P0 (by omega)
  have s9 : n * p / y < 18446744073709551616 := by
    rw [Int.ediv_lt_iff_lt_mul hy]
    generalize n * p = P at *
    omega
  have hsr := Int.emod_add_mul_ediv (n * p) y
  have t0 := Int.emod_nonneg (n * p) (show y ≠ 0 by omega)
  have t9 := Int.emod_lt_of_pos (n * p) hy
  rw [Int.mul_comm y] at hsr
  generalize n * p / y = s at *
  have HM3 := Lib.hid (fun w => lawMul_any s y s0 s9 (by omega) y1 w)
  have sy0 : 0 ≤ s * y := Int.mul_nonneg s0 (by omega)
  have HL1 : Hid (∀ w, Calls Try.prog 27 #[.agg #[.int .u64 (n * p / 18446744073709551616), .int .u64 (n * p % 18446744073709551616)], .agg #[.int .u64 (s * y / 18446744073709551616), .int .u64 (s * y % 18446744073709551616)]] w fun e w' => e = .returned (.bool false) ∧ Below w.heap.size w w') := Lib.hid (fun w => by
    have h := less_any (n * p / 18446744073709551616) (n * p % 18446744073709551616) (s * y / 18446744073709551616) (s * y % 18446744073709551616) w
    rw [less_div, show decide (n * p < s * y) = false by simp; omega] at h
    exact h)
  have HA2 := Lib.hid (fun w => lawAdd_no (s * y / 18446744073709551616) (s * y % 18446744073709551616) 0 y (by omega) (by generalize s * y = z at *; generalize n * p = P at *; omega) (by omega) (by omega) (by omega) (by omega) (by omega) y1 hF w)
  clear hF
  clear hsr t0 t9 sy0
  generalize s * y / 18446744073709551616 = lh at *
  generalize s * y % 18446744073709551616 = ll at *
  clear P0
  generalize n * p / 18446744073709551616 = ph at *
  generalize n * p % 18446744073709551616 = pl at *
  go_enter Try.func5, Try.ntmps5
  go_wp2_with fail
  refine (HD.out _).mono ?_
  rintro e w1 ⟨rfl, hb⟩
  have hx0 := kept ((Blk.new w 24 #[.int .u64 xh, .int .u64 xl]).cell 0) hb
  have hx1 := kept ((Blk.new w 24 #[.int .u64 xh, .int .u64 xl]).cell 1) hb
  have HB1 := Lib.hid (((Below.refl w.heap.size w).alloc (Nat.le_refl _) _).trans (hb.mono (by simp)))
  clear hb
  go_wp2_with fail
  refine (HM1.out _).mono ?_
  rintro e w2 ⟨rfl, hb⟩
  have hx0' := kept hx0 hb
  have hx1' := kept hx1 hb
  have HB2 := Lib.hid (bel_call2 HB1.out hb)
  clear hb hx0 hx1
  go_wp2_with fail
  refine (HA1.out _).mono ?_
  rintro e w3 ⟨rfl, hb⟩
  have hx0 := kept hx0' hb
  have hx1 := kept hx1' hb
  have HB3 := Lib.hid (bel_call2 HB2.out hb)
  have hs3 := HB3.out.size
  have hne : w.heap.size < w3.heap.size := World.block_lt_of_cell? w3 _ hx0
  clear hb hx0' hx1'
  go_wp2_with fail
  have HBa := Lib.hid (HB3.out.alloc hs3 (.cells #[.int .u64 xh, .int .u64 xl] 24))
  generalize w3.alloc (.cells #[.int .u64 xh, .int .u64 xl] 24) = wa at *
  refine (HM2.out _).mono ?_
  rintro e wb ⟨rfl, hb⟩
  have HBb := Lib.hid (bel_call2 HBa.out hb)
  have hsb := HBb.out.size
  clear hb
  go_wp2_with fail
  refine (HSH.out _).mono ?_
  rintro e wc ⟨rfl, hb⟩
  have hp0 := kept ((Blk.new wb 24 #[.int .u64 ph, .int .u64 pl]).cell 0) hb
  have hp1 := kept ((Blk.new wb 24 #[.int .u64 ph, .int .u64 pl]).cell 1) hb
  have HBc := Lib.hid (bel_call2 (HBb.out.alloc hsb _) hb)
  clear hb
  go_wp2_with fail
  refine (HM3.out _).mono ?_
  rintro e wd ⟨rfl, hb⟩
  have hp2 := kept hp0 hb
  have hp3 := kept hp1 hb
  have HBd := Lib.hid (bel_call2 HBc.out hb)
  have hsd := HBd.out.size
  clear hb hp0 hp1
  go_wp2_with fail
  refine (HA2.out _).mono ?_
  rintro e we ⟨rfl, hb⟩
  have hl0 := kept ((Blk.new wd 24 #[.int .u64 lh, .int .u64 ll]).cell 0) hb
  have hl1 := kept ((Blk.new wd 24 #[.int .u64 lh, .int .u64 ll]).cell 1) hb
  have hp0 := kept (kept hp2 ((Below.refl _ _).alloc (Nat.le_refl _) _)) hb
  have hp1 := kept (kept hp3 ((Below.refl _ _).alloc (Nat.le_refl _) _)) hb
  have HBe := Lib.hid (bel_call2 (HBd.out.alloc hsd _) hb)
  have hse := HBe.out.size
  have hn1 : wb.heap.size < we.heap.size := World.block_lt_of_cell? we _ hp0
  have hn2 : wd.heap.size < we.heap.size := World.block_lt_of_cell? we _ hl0
  clear hb hp2 hp3
  go_wp2_with fail
  refine (HL1.out _).mono ?_
  rintro e wf ⟨rfl, hb⟩
  have hh0 := kept ((Blk.new we 24 #[.int .u64 0, .int .u64 0]).cell 0) hb
  have hh1 := kept ((Blk.new we 24 #[.int .u64 0, .int .u64 0]).cell 1) hb
  have hp2 := kept (kept hp0 ((Below.refl _ _).alloc (Nat.le_refl _) _)) hb
  have hp3 := kept (kept hp1 ((Below.refl _ _).alloc (Nat.le_refl _) _)) hb
  have HBf := Lib.hid (bel_call2 (HBe.out.alloc hse _) hb)
  clear hb hp0 hp1 hl0 hl1
  go_wp2_with fail
  have HBg := HBf
  refine (awake_any _).mono ?_
  rintro e wi ⟨rfl, hb⟩
  have HBi := Lib.hid (bel_call2 HBg.out hb)
  clear hb
  go_wp2_with fail
  go_ret
  exact ⟨rfl, HBi.out⟩
end Go.Proofs.Ytlipemjidjjenaa.divG
