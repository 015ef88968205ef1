/- Layer 1: the law on products. -/
import Derived.Test.YtlipemjidjjenaaWideC
import Derived.Deep.RegionHeld3
import Derived.BigQuiet
namespace Go.Proofs.Ytlipemjidjjenaa.wideD
open Go.ChangeShapes Go.WideShapes Go.ChangeAt Go.RowKit
open Go.Proofs.Ytlipemjidjjenaa.base Go.Proofs.Ytlipemjidjjenaa.wideA Go.Proofs.Ytlipemjidjjenaa.wideB Go.Proofs.Ytlipemjidjjenaa.wideC
set_option linter.unusedVariables false

theorem bcell {W w1 : World} (hb : Below W.heap.size W w1) : (∀ b o, b < W.heap.size → w1.cell? ⟨b, o, none⟩ = W.cell? ⟨b, o, none⟩) ∧ (∀ b o, b < W.heap.size → w1.frozen? ⟨b, o, none⟩ = W.frozen? ⟨b, o, none⟩) :=
  ⟨fun b o h => hb.cell (p := ⟨b, o, none⟩) h, fun b o h => hb.frozen (p := ⟨b, o, none⟩) h⟩

theorem lawCmp_any (xh xl yh yl : Int) (w : World) :
    Calls Try.prog 22 #[.agg #[.int .u64 xh, .int .u64 xl], .agg #[.int .u64 yh, .int .u64 yl]] w fun e w' => e = .returned (.int .i64 (cmp128 xh xl yh yl)) ∧ Below w.heap.size w w' := by
  cases h : less128 xh xl yh yl
  · have H := Lib.hid h
    cases h2 : less128 yh yl xh xl
    · have H2 := Lib.hid h2
      have e : cmp128 xh xl yh yl = 0 := by
        simp only [less128, Bool.or_eq_false_iff, Bool.and_eq_false_iff, decide_eq_false_iff_not, beq_eq_false_iff_ne] at h h2
        unfold cmp128 cmpI
        split <;> (split <;> (try split)) <;> omega
      rw [e]
      clear h h2 e
      go_enter Try.func22, Try.ntmps22
      go_wp2_with fail
      refine (less_any _ _ _ _ _).mono ?_
      rintro e w1 ⟨rfl, hb⟩
      obtain ⟨hc, hf⟩ := bcell hb
      have HB := Lib.hid hb
      have hs := hb.size
      simp at hs
      clear hb
      rw [H.out]
      go_wp2_with fail
      refine (less_any _ _ _ _ _).mono ?_
      rintro e w2 ⟨rfl, hb2⟩
      have HB2 := Lib.hid hb2
      clear hb2
      rw [H2.out]
      go_wp2
      go_ret
      exact ⟨rfl, (((Below.refl _ _).alloc (Nat.le_refl _) _).alloc (by simp) _).trans ((HB.out.mono (by simp; omega)).trans (HB2.out.mono (by omega)))⟩
    · have e : cmp128 xh xl yh yl = 1 := by
        simp only [less128, Bool.or_eq_false_iff, Bool.and_eq_false_iff, Bool.or_eq_true, Bool.and_eq_true, decide_eq_true_eq, beq_iff_eq, decide_eq_false_iff_not, beq_eq_false_iff_ne] at h h2
        unfold cmp128 cmpI
        split <;> (split <;> (try split)) <;> omega
      have H2 := Lib.hid h2
      rw [e]
      clear h h2 e
      go_enter Try.func22, Try.ntmps22
      go_wp2_with fail
      refine (less_any _ _ _ _ _).mono ?_
      rintro e w1 ⟨rfl, hb⟩
      obtain ⟨hc, hf⟩ := bcell hb
      have HB := Lib.hid hb
      have hs := hb.size
      simp at hs
      clear hb
      rw [H.out]
      go_wp2_with fail
      refine (less_any _ _ _ _ _).mono ?_
      rintro e w2 ⟨rfl, hb2⟩
      have HB2 := Lib.hid hb2
      clear hb2
      rw [H2.out]
      go_wp2
      go_ret
      exact ⟨rfl, (((Below.refl _ _).alloc (Nat.le_refl _) _).alloc (by simp) _).trans ((HB.out.mono (by simp; omega)).trans (HB2.out.mono (by omega)))⟩
  · have e : cmp128 xh xl yh yl = -1 := by
      simp only [less128, Bool.or_eq_true, Bool.and_eq_true, decide_eq_true_eq, beq_iff_eq] at h
      unfold cmp128 cmpI
      split <;> (split <;> (try split)) <;> omega
    have H := Lib.hid h
    rw [e]
    clear h e
    go_enter Try.func22, Try.ntmps22
    go_wp2_with fail
    refine (less_any _ _ _ _ _).mono ?_
    rintro e w1 ⟨rfl, hb⟩
    have HB := Lib.hid hb
    clear hb
    rw [H.out]
    go_wp2
    go_ret
    exact ⟨rfl, (((Below.refl _ _).alloc (Nat.le_refl _) _).alloc (by simp) _).trans (HB.out.mono (by simp; omega))⟩

theorem keep1 {w w' : World} {p : Addr} {v : Value} (h : w.cell? p = some v) (hb : Below w.heap.size w w') : w'.cell? p = some v :=
  (hb.cell (World.block_lt_of_cell? w p h)).trans h
theorem keep8 {W w w' : World} {p1 p2 p3 p4 p5 p6 p7 p8 : Addr} {v1 v2 v3 v4 v5 v6 v7 v8 : Value}
    (h : Below W.heap.size W w ∧ w.cell? p1 = some v1 ∧ w.cell? p2 = some v2 ∧ w.cell? p3 = some v3 ∧ w.cell? p4 = some v4 ∧ w.cell? p5 = some v5 ∧ w.cell? p6 = some v6 ∧ w.cell? p7 = some v7 ∧ w.cell? p8 = some v8) (hb : Below w.heap.size w w') :
    Below W.heap.size W w' ∧ w'.cell? p1 = some v1 ∧ w'.cell? p2 = some v2 ∧ w'.cell? p3 = some v3 ∧ w'.cell? p4 = some v4 ∧ w'.cell? p5 = some v5 ∧ w'.cell? p6 = some v6 ∧ w'.cell? p7 = some v7 ∧ w'.cell? p8 = some v8 := by
  obtain ⟨h0, h1, h2, h3, h4, h5, h6, h7, h8⟩ := h
  exact ⟨h0.trans (hb.mono h0.size), keep1 h1 hb, keep1 h2 hb, keep1 h3 hb, keep1 h4 hb, keep1 h5 hb, keep1 h6 hb, keep1 h7 hb, keep1 h8 hb⟩

theorem wideProducts_core (a b xh xl yh yl : Int) (p1 : 0 ≤ a) (p2 : a < 18446744073709551616) (q1 : 0 ≤ b) (q2 : b < 18446744073709551616) (a1 : 0 ≤ xh) (a2 : xh < 18446744073709551616) (b1 : 0 ≤ xl) (b2 : xl < 18446744073709551616) (c1 : 0 ≤ yh) (c2 : yh < 18446744073709551616) (d1 : 0 ≤ yl) (d2 : yl < 18446744073709551616)
    (sh sl : Int) (okb : Bool) (hA : ∀ w : World, Calls Try.prog 17 #[.agg #[.int .u64 xh, .int .u64 xl], .agg #[.int .u64 yh, .int .u64 yl]] w fun e w' => e = .returned (.tuple #[.agg #[.int .u64 sh, .int .u64 sl], .bool okb]) ∧ Below w.heap.size w w')
    (hL : ∀ w : World, Calls Try.prog 18 #[.agg #[.int .u64 xh, .int .u64 xl], .agg #[.int .u64 yh, .int .u64 yl]] w fun e w' => e = .returned (.tuple #[.agg #[.int .u64 sh, .int .u64 sl], .bool okb]) ∧ Below w.heap.size w w') (w : World) :
    Calls Try.prog 3 #[.int .u64 a, .int .u64 b, .agg #[.int .u64 xh, .int .u64 xl], .agg #[.int .u64 yh, .int .u64 yl]] w fun e w' => e = .returned (.bool true) ∧ Below w.heap.size w w' := by
  have HA := Lib.hid hA
  have HL := Lib.hid hL
  clear hA hL
  go_enter Try.func3, Try.ntmps3
  go_wp2_with fail
  refine (HA.out _).mono ?_
  rintro e w1 ⟨rfl, hb⟩
  obtain ⟨hc, hf⟩ := bcell hb
  have HB := Lib.hid hb
  have hs : w.heap.size + 1 < w1.heap.size := by have := hb.size; simp at this; omega
  have hs0 : w.heap.size < w1.heap.size := by omega
  clear hb
  go_wp2_with fail
  refine (HL.out _).mono ?_
  rintro e w2 ⟨rfl, hb⟩
  obtain ⟨hc2, hf2⟩ := bcell hb
  have HB2 := Lib.hid hb
  have hs2 : w1.heap.size < w2.heap.size := by have := hb.size; simp at this; omega
  have hs3 : w.heap.size + 1 < w2.heap.size := by omega
  have hs4 : w.heap.size < w2.heap.size := by omega
  clear hb
  go_wp2_with fail
  have hbel : Below w.heap.size w (w2.alloc (.cells #[.int .u64 sh, .int .u64 sl] 24)) :=
    ((((((Below.refl _ _).alloc (Nat.le_refl _) _).alloc (by simp) _).trans (HB.out.mono (by simp; omega))).alloc (by omega) _).trans (HB2.out.mono (by simp; omega))).alloc (by omega) _
  have k : ∀ W, W = w2.alloc (.cells #[.int .u64 sh, .int .u64 sl] 24) →
      Below W.heap.size W W.drew ∧ W.drew.cell? ⟨w.heap.size, 0, none⟩ = some (.int .u64 xh) ∧ W.drew.cell? ⟨w.heap.size, 1, none⟩ = some (.int .u64 xl) ∧ W.drew.cell? ⟨w.heap.size + 1, 0, none⟩ = some (.int .u64 yh) ∧ W.drew.cell? ⟨w.heap.size + 1, 1, none⟩ = some (.int .u64 yl) ∧
        W.drew.cell? ⟨w1.heap.size, 0, none⟩ = some (.int .u64 sh) ∧ W.drew.cell? ⟨w1.heap.size, 1, none⟩ = some (.int .u64 sl) ∧ W.drew.cell? ⟨w2.heap.size, 0, none⟩ = some (.int .u64 sh) ∧ W.drew.cell? ⟨w2.heap.size, 1, none⟩ = some (.int .u64 sl) := by
    intro W hW
    subst hW
    refine ⟨(Below.refl _ _).drew, ?_, ?_, ?_, ?_, ?_, ?_, ?_, ?_⟩ <;> simp [go_sem, *]
  clear hc hf hc2 hf2
  generalize w2.alloc (.cells #[.int .u64 sh, .int .u64 sl] 24) = W at *
  have h0 := k W rfl
  clear k
  have HBel := Lib.hid hbel
  clear hbel hs hs0 hs2 hs3 hs4
  go_region_held3 (fun w' => Below W.heap.size W w' ∧ w'.cell? ⟨w.heap.size, 0, none⟩ = some (.int .u64 xh) ∧ w'.cell? ⟨w.heap.size, 1, none⟩ = some (.int .u64 xl) ∧ w'.cell? ⟨w.heap.size + 1, 0, none⟩ = some (.int .u64 yh) ∧ w'.cell? ⟨w.heap.size + 1, 1, none⟩ = some (.int .u64 yl) ∧ w'.cell? ⟨w1.heap.size, 0, none⟩ = some (.int .u64 sh) ∧ w'.cell? ⟨w1.heap.size, 1, none⟩ = some (.int .u64 sl) ∧ w'.cell? ⟨w2.heap.size, 0, none⟩ = some (.int .u64 sh) ∧ w'.cell? ⟨w2.heap.size, 1, none⟩ = some (.int .u64 sl))
    (first | exact h0 | (refine keep8 ?_ hb; assumption))
    (first
      | (go_at_call 19; refine (mul_any _ _ p1 p2 q1 q2 _).mono ?_; rintro e w' ⟨rfl, hb⟩)
      | (go_at_call 20; refine (lawMul_any _ _ p1 p2 q1 q2 _).mono ?_; rintro e w' ⟨rfl, hb⟩)
      | (go_at_call 21; refine (numCmp_any _ _ _ _ _).mono ?_; rintro e w' ⟨rfl, hb⟩)
      | (go_at_call 22; refine (lawCmp_any _ _ _ _ _).mono ?_; rintro e w' ⟨rfl, hb⟩)
      | (go_at_call 23; refine (awake_any _).mono ?_; rintro e w' ⟨rfl, hb⟩))
  go_wp2
  go_ret
  refine ⟨rfl, HBel.out.trans (Below.mono (B := W.heap.size) ?_ HBel.out.size)⟩
  rename_i hH
  exact hH.1

theorem wideProducts_any (a b xh xl yh yl : Int) (p1 : 0 ≤ a) (p2 : a < 18446744073709551616) (q1 : 0 ≤ b) (q2 : b < 18446744073709551616) (a1 : 0 ≤ xh) (a2 : xh < 18446744073709551616) (b1 : 0 ≤ xl) (b2 : xl < 18446744073709551616) (c1 : 0 ≤ yh) (c2 : yh < 18446744073709551616) (d1 : 0 ≤ yl) (d2 : yl < 18446744073709551616) (w : World) :
    Calls Try.prog 3 #[.int .u64 a, .int .u64 b, .agg #[.int .u64 xh, .int .u64 xl], .agg #[.int .u64 yh, .int .u64 yl]] w fun e w' => e = .returned (.bool true) ∧ Below w.heap.size w w' := by
  rcases Int.lt_or_le (xh + yh + (xl + yl) / 18446744073709551616) 18446744073709551616 with h | h
  · exact wideProducts_core a b xh xl yh yl p1 p2 q1 q2 a1 a2 b1 b2 c1 c2 d1 d2 _ _ true (fun w => numAdd_ok _ _ _ _ a1 a2 b1 b2 c1 c2 d1 d2 h w) (fun w => lawAdd_ok _ _ _ _ a1 a2 b1 b2 c1 c2 d1 d2 h w) w
  · exact wideProducts_core a b xh xl yh yl p1 p2 q1 q2 a1 a2 b1 b2 c1 c2 d1 d2 0 0 false (fun w => numAdd_no _ _ _ _ a1 a2 b1 b2 c1 c2 d1 d2 h w) (fun w => lawAdd_no _ _ _ _ a1 a2 b1 b2 c1 c2 d1 d2 h w) w
end Go.Proofs.Ytlipemjidjjenaa.wideD
