/- Layer 1: sums. -/
import Derived.Test.YtlipemjidjjenaaWideD
import Derived.Test.YtlipemjidjjenaaMixD
import Derived.Test.YtlipemjidjjenaaKeep
namespace Go.Proofs.Ytlipemjidjjenaa.wideE
open Go.ChangeShapes Go.WideShapes Go.ChangeAt Go.RowKit
open Go.Proofs.Ytlipemjidjjenaa.base Go.Proofs.Ytlipemjidjjenaa.wideA Go.Proofs.Ytlipemjidjjenaa.wideB Go.Proofs.Ytlipemjidjjenaa.wideC Go.Proofs.Ytlipemjidjjenaa.wideD
set_option linter.unusedVariables false

theorem addLo_any (s x : Int) (s0 : 0 ≤ s) (s1 : s < 1208925819614629174706176) (x0 : 0 ≤ x) (x1 : x < 18446744073709551616) (w : World) :
    Calls Try.prog 17 #[.agg #[.int .u64 (s / 18446744073709551616), .int .u64 (s % 18446744073709551616)], .agg #[.int .u64 0, .int .u64 x]] w fun e w' => e = .returned (.tuple #[.agg #[.int .u64 ((s + x) / 18446744073709551616), .int .u64 ((s + x) % 18446744073709551616)], .bool true]) ∧ Below w.heap.size w w' := by
  have h := numAdd_ok (s / 18446744073709551616) (s % 18446744073709551616) 0 x (by omega) (by omega) (by omega) (by omega) (by omega) (by omega) x0 x1 (by omega) w
  have e1 : s / 18446744073709551616 + 0 + (s % 18446744073709551616 + x) / 18446744073709551616 = (s + x) / 18446744073709551616 := by omega
  have e2 : (s % 18446744073709551616 + x) % 18446744073709551616 = (s + x) % 18446744073709551616 := by omega
  rw [e1, e2] at h
  exact h
theorem lawAddLo_any (s x : Int) (s0 : 0 ≤ s) (s1 : s < 1208925819614629174706176) (x0 : 0 ≤ x) (x1 : x < 18446744073709551616) (w : World) :
    Calls Try.prog 18 #[.agg #[.int .u64 (s / 18446744073709551616), .int .u64 (s % 18446744073709551616)], .agg #[.int .u64 0, .int .u64 x]] w fun e w' => e = .returned (.tuple #[.agg #[.int .u64 ((s + x) / 18446744073709551616), .int .u64 ((s + x) % 18446744073709551616)], .bool true]) ∧ Below w.heap.size w w' := by
  have h := lawAdd_ok (s / 18446744073709551616) (s % 18446744073709551616) 0 x (by omega) (by omega) (by omega) (by omega) (by omega) (by omega) x0 x1 (by omega) w
  have e1 : s / 18446744073709551616 + 0 + (s % 18446744073709551616 + x) / 18446744073709551616 = (s + x) / 18446744073709551616 := by omega
  have e2 : (s % 18446744073709551616 + x) % 18446744073709551616 = (s + x) % 18446744073709551616 := by omega
  rw [e1, e2] at h
  exact h

theorem sum_snoc (l : List Int) (x : Int) : (l ++ [x]).sum = l.sum + x := by simp
theorem sum_bound (l : List Int) (h : ∀ x ∈ l, 0 ≤ x ∧ x < 18446744073709551616) : 0 ≤ l.sum ∧ l.sum ≤ l.length * 18446744073709551615 := by
  induction l with
  | nil => simp
  | cons a l ih =>
    have h1 := h a (by simp)
    have h2 := ih (fun x hx => h x (by simp [hx]))
    simp only [List.sum_cons, List.length_cons]
    omega

theorem sum_any (A : Option Addr) (n c : Nat) (l : List Int) (w : World) (hn : l.length = n) (hl : n ≤ 40) (hb : ∀ x ∈ l, 0 ≤ x ∧ x < 18446744073709551616) (hr : Row w w.heap.size A (l.map (.int .u64))) :
    Calls Try.prog 24 #[.slice A n c] w fun e w' => e = .returned (.tuple #[.agg #[.int .u64 (l.sum / 18446744073709551616), .int .u64 (l.sum % 18446744073709551616)], .bool true]) ∧ Below w.heap.size w w' := by
  have HR := Lib.hid hr
  have HN := Lib.hid hn
  have HB := Lib.hid hb
  clear hr hn hb
  go_enter Try.func24, Try.ntmps24
  go_wp2_with fail
  go_loopw [12, 6, 7, 8] (fun i a b d wr => ∃ (k : Nat) (s : Int), k ≤ n ∧ i = .int .i64 k ∧ Hid (s = (l.take k).sum) ∧ 0 ≤ s ∧ s < 1208925819614629174706176 ∧ Blk wr w.heap.size 24 #[.int .u64 0, .int .u64 0] ∧ Blk wr (w.heap.size + 1) 24 #[.int .u64 (s / 18446744073709551616), .int .u64 (s % 18446744073709551616)] ∧ Below w.heap.size w wr) (fun i _ _ _ _ => n - (intOf i).toNat)
  case atStart =>
    refine ⟨0, 0, by omega, rfl, rfl, by omega, by omega, ?_, ?_, ((Below.refl _ _).alloc (Nat.le_refl _) _).alloc (by simp) _⟩
    · exact (Blk.new w _ _).alloc _
    · have := Blk.new (w.alloc (.cells #[.int .u64 0, .int .u64 0] 24)) 24 #[.int .u64 0, .int .u64 0]
      simpa using this
  case round =>
    obtain ⟨k, s, hk, rfl, HS, s0, s1, hb0, hb1, hbel⟩ := hrel
    by_cases hlt : k < n
    · have hkl : k < l.length := by rw [HN.out]; exact hlt
      obtain ⟨b, off, rfl, hbl, hc⟩ := HR.out.at_ (by intro h; simp at h; rw [h] at hkl; simp at hkl)
      have hcell : wr.cell? ⟨b, off + k, none⟩ = some (.int .u64 (l[k])) := by rw [hbel.cell hbl]; exact hc k _ (by simp [hkl])
      have hs : (l.take (k + 1)).sum = s + l[k] := by rw [mixD.take_snoc l k hkl, sum_snoc, HS.out]
      have hx := HB.out l[k] (List.getElem_mem hkl)
      have HS2 := Lib.hid hs
      have hsb := sum_bound (l.take (k + 1)) (fun x hx => HB.out x (List.mem_of_mem_take hx))
      rw [hs] at hsb
      have hsl : (l.take (k + 1)).length ≤ 40 := by rw [List.length_take]; omega
      clear hs hc
      generalize l[k] = x at *
      obtain ⟨x0, x1⟩ := hx
      have hs2 : s + x < 1208925819614629174706176 := by omega
      have hs3 : 0 ≤ s + x := by omega
      clear hsb hsl
      have ha0 : wr.cell? ⟨w.heap.size + 1, 0, none⟩ = some (.int .u64 (s / 18446744073709551616)) := hb1.cell 0
      have ha1 : wr.cell? ⟨w.heap.size + 1, 1, none⟩ = some (.int .u64 (s % 18446744073709551616)) := hb1.cell 1
      have hbs := hb1.lt
      have HB0 := Lib.hid hb0
      have HB1 := Lib.hid hb1
      have HBel := Lib.hid hbel
      clear hb0 hb1 hbel
      go_wp2_with fail
      refine (addLo_any s x s0 s1 x0 x1 _).mono ?_
      rintro e w1 ⟨rfl, hbw⟩
      have HBW := Lib.hid hbw
      have hbs1 : w.heap.size + 1 < w1.heap.size := by have := hbw.size; omega
      have hf0 : w1.frozen? ⟨w.heap.size + 1, 0, none⟩ = false := (HB1.out.below hbw hbs).frozen 0
      have hf1 : w1.frozen? ⟨w.heap.size + 1, 1, none⟩ = false := (HB1.out.below hbw hbs).frozen 1
      have hg0 : w1.cell? ⟨w.heap.size + 1, 0, none⟩ = some (.int .u64 (s / 18446744073709551616)) := (HB1.out.below hbw hbs).cell 0
      have hg1 : w1.cell? ⟨w.heap.size + 1, 1, none⟩ = some (.int .u64 (s % 18446744073709551616)) := (HB1.out.below hbw hbs).cell 1
      clear hbw
      go_wp2_with fail
      go_roundw
      case rel =>
        refine ⟨k + 1, s + x, by omega, by go_num, HS2.out.symm, hs3, hs2, ?_, ?_, ?_⟩
        · exact ((((HB0.out.below HBW.out (by omega)).far (p := ⟨_, 0, none⟩) (by simp) _).far (p := ⟨_, 1, none⟩) (by simp) _).alloc _)
        · have := (((HB1.out.below HBW.out hbs).set_ 0 (.int .u64 ((s + x) / 18446744073709551616))).set_ 1 (.int .u64 ((s + x) % 18446744073709551616)))
          exact (by simpa using this : Blk _ _ _ _).alloc _
        · exact (((HBel.out.trans (HBW.out.mono (by omega))).setCell (p := ⟨_, 0, none⟩) (by simp) _).setCell (p := ⟨_, 1, none⟩) (by simp) _).alloc (by simp; omega) _
      case measure => simp [intOf]; omega
    · have hfin : s = l.sum := by rw [HS.out, List.take_of_length_le (by rw [HN.out]; omega)]
      have ha0 : wr.cell? ⟨w.heap.size + 1, 0, none⟩ = some (.int .u64 (s / 18446744073709551616)) := hb1.cell 0
      have ha1 : wr.cell? ⟨w.heap.size + 1, 1, none⟩ = some (.int .u64 (s % 18446744073709551616)) := hb1.cell 1
      have hc0 : wr.cell? ⟨w.heap.size, 0, none⟩ = some (.int .u64 0) := hb0.cell 0
      have hc1 : wr.cell? ⟨w.heap.size, 1, none⟩ = some (.int .u64 0) := hb0.cell 1
      have hf0 : wr.frozen? ⟨w.heap.size, 0, none⟩ = false := hb0.frozen 0
      have hf1 : wr.frozen? ⟨w.heap.size, 1, none⟩ = false := hb0.frozen 1
      have HBel := Lib.hid hbel
      have HF := Lib.hid hfin
      clear hb0 hb1 hbel hfin
      go_wp2
      refine bodyPost_ret (v := .tuple #[.agg #[.int .u64 (s / 18446744073709551616), .int .u64 (s % 18446744073709551616)], .bool true]) (by simp [results, Try.results24, go_sem, hc0, hc1]) rfl ?_
      exact ⟨by rw [← HF.out], (HBel.out.setCell (p := ⟨_, 0, none⟩) (by simp) _).setCell (p := ⟨_, 1, none⟩) (by simp) _⟩

theorem wideSums_any (A : Option Addr) (n c : Nat) (zs : List Int) (w : World) (hz : n ≤ zs.length) (hzc : zs.length = c) (hc : c ≤ maxLen) (hb : ∀ x ∈ zs, 0 ≤ x ∧ x < 18446744073709551616)
    (hr : Row w w.heap.size A (zs.map (.int .u64))) :
    Calls Try.prog 4 #[.slice A n c] w fun e w' => e = .returned (.bool true) ∧ Below w.heap.size w w' := by
  unfold maxLen at hc
  have hzc' : n ≤ c := by omega
  obtain ⟨m, l, A', hm, hm40, hl, hlb, hrow, hA⟩ : ∃ (m : Nat) (l : List Int) (A' : Option Addr), m = min n 40 ∧ m ≤ 40 ∧ l.length = m ∧ (∀ x ∈ l, 0 ≤ x ∧ x < 18446744073709551616) ∧ Row w w.heap.size A' (l.map (.int .u64)) ∧ A' = A :=
    ⟨min n 40, zs.take (min n 40), A, rfl, by omega, by rw [List.length_take]; omega, fun x hx => hb x (List.mem_of_mem_take hx), by rw [List.map_take]; exact hr.take _, rfl⟩
  subst hA
  have HR := Lib.hid hrow
  have HL := Lib.hid hl
  have HLB := Lib.hid hlb
  clear hr hz hzc hb hl hlb hrow
  by_cases hn : n ≤ 40
  · obtain rfl : n = m := by omega
    clear hm
    have hd : decide ((40 : Int) < (n : Int)) = false := by simp; omega
    go_enter Try.func4, Try.ntmps4
    go_wp2_with fail
    go_loopw [4, 5, 6] (fun i a b wr => ∃ (k : Nat) (s : Int), k ≤ n ∧ i = .int .i64 k ∧ Hid (s = (l.take k).sum) ∧ 0 ≤ s ∧ s < 1208925819614629174706176 ∧ Blk wr w.heap.size 24 #[.int .u64 (s / 18446744073709551616), .int .u64 (s % 18446744073709551616)] ∧ Below w.heap.size w wr) (fun i _ _ _ => n - (intOf i).toNat)
    case atStart =>
      exact ⟨0, 0, by omega, rfl, rfl, by omega, by omega, Blk.new w _ _, (Below.refl _ _).alloc (Nat.le_refl _) _⟩
    case round =>
      obtain ⟨k, s, hk, rfl, HS, s0, s1, hb1, hbel⟩ := hrel
      by_cases hlt : k < n
      · have hkl : k < l.length := by rw [HL.out]; exact hlt
        obtain ⟨b, off, rfl, hbl, hc⟩ := HR.out.at_ (by intro h; simp at h; rw [h] at hkl; simp at hkl)
        have hcell : wr.cell? ⟨b, off + k, none⟩ = some (.int .u64 (l[k])) := by rw [hbel.cell hbl]; exact hc k _ (by simp [hkl])
        have hs : (l.take (k + 1)).sum = s + l[k] := by rw [mixD.take_snoc l k hkl, sum_snoc, HS.out]
        have hx := HLB.out l[k] (List.getElem_mem hkl)
        have HS2 := Lib.hid hs
        have hsb := sum_bound (l.take (k + 1)) (fun x hx => HLB.out x (List.mem_of_mem_take hx))
        rw [hs] at hsb
        have hsl : (l.take (k + 1)).length ≤ 40 := by rw [List.length_take]; omega
        clear hs hc
        generalize l[k] = x at *
        obtain ⟨x0, x1⟩ := hx
        have hs2 : s + x < 1208925819614629174706176 := by omega
        have hs3 : 0 ≤ s + x := by omega
        clear hsb hsl
        have ha0 : wr.cell? ⟨w.heap.size, 0, none⟩ = some (.int .u64 (s / 18446744073709551616)) := hb1.cell 0
        have ha1 : wr.cell? ⟨w.heap.size, 1, none⟩ = some (.int .u64 (s % 18446744073709551616)) := hb1.cell 1
        have kk : ∀ X, Below wr.heap.size wr X → Below wr.heap.size wr X ∧ X.cell? ⟨w.heap.size, 0, none⟩ = some (.int .u64 (s / 18446744073709551616)) ∧ X.cell? ⟨w.heap.size, 1, none⟩ = some (.int .u64 (s % 18446744073709551616)) ∧ X.cell? ⟨b, off + k, none⟩ = some (.int .u64 x) :=
          fun X h => ⟨h, kept ha0 h, kept ha1 h, kept hcell h⟩
        have KK := Lib.hid kk
        clear kk
        have hbs := hb1.lt
        have HB1 := Lib.hid hb1
        have HBel := Lib.hid hbel
        clear hb1 hbel
        go_wp2_with fail
        go_region_held3 (fun w' => Below wr.heap.size wr w' ∧ w'.cell? ⟨w.heap.size, 0, none⟩ = some (.int .u64 (s / 18446744073709551616)) ∧ w'.cell? ⟨w.heap.size, 1, none⟩ = some (.int .u64 (s % 18446744073709551616)) ∧ w'.cell? ⟨b, off + k, none⟩ = some (.int .u64 x))
          ((refine KK.out _ ?_; repeat' (first | (with_reducible exact Below.refl _ _) | (with_reducible refine bel_alloc ?_ _) | (with_reducible refine bel_drew ?_) | (with_reducible refine bel_set ?_ ?_ _) | (with_reducible refine bel_call ?_ hb) | (with_reducible exact Nat.le_refl _) | (with_reducible exact And.left (by assumption)) | (simp; done) | (simp; omega))))
          (first
            | (go_at_call 18; (with_reducible refine (lawAddLo_any s x s0 s1 x0 x1 ((wr.alloc (.cells #[.int .u64 0, .int .u64 0] 24)).drew)).mono ?_); rintro e w' ⟨rfl, hb⟩; have hn := (((Blk.new wr 24 #[.int .u64 0, .int .u64 0]).drew).below hb (by simp)); have f0 := hn.cell 0; have f1 := hn.cell 1; have f2 := hn.frozen 0; have f3 := hn.frozen 1; clear hn)
            | (go_at_call 18; refine (lawAddLo_any s x s0 s1 x0 x1 _).mono ?_; rintro e w' ⟨rfl, hb⟩))
        all_goals
          rename_i hH
          obtain ⟨hB, hq0, hq1, hq2⟩ := hH
          have hbX := HB1.out.below hB hbs
          have hfr0 := hbX.frozen 0
          have hfr1 := hbX.frozen 1
          have HBX := Lib.hid hbX
          have HBB := Lib.hid hB
          clear hbX hB hq2
          go_wp2_with fail
          go_roundw
          case rel =>
            refine ⟨k + 1, s + x, by omega, by go_num, HS2.out.symm, hs3, hs2, ?_, ?_⟩
            · have := ((HBX.out.set_ 0 (.int .u64 ((s + x) / 18446744073709551616))).set_ 1 (.int .u64 ((s + x) % 18446744073709551616)))
              simpa using this
            · exact ((HBel.out.trans (HBB.out.mono (by omega))).setCell (p := ⟨_, 0, none⟩) (Nat.le_refl _) _).setCell (p := ⟨_, 1, none⟩) (Nat.le_refl _) _
          case measure => simp [intOf]; omega
      · have hfin : s = l.sum := by rw [HS.out, List.take_of_length_le (by rw [HL.out]; omega)]
        have HF := Lib.hid hfin
        have ha0 : wr.cell? ⟨w.heap.size, 0, none⟩ = some (.int .u64 (s / 18446744073709551616)) := hb1.cell 0
        have ha1 : wr.cell? ⟨w.heap.size, 1, none⟩ = some (.int .u64 (s % 18446744073709551616)) := hb1.cell 1
        have hbs := hb1.lt
        have HBel := Lib.hid hbel
        have hr2 := HR.out.below hbel
        have hr3 := hr2.more hbel.size
        clear hb1 hbel hfin hr2
        go_wp2_with fail
        refine (sum_any A' _ c l wr HL.out hm40 HLB.out hr3).mono ?_
        rintro e w1 ⟨rfl, hb⟩
        rw [← HF.out]
        have hc0 := kept ha0 hb
        have hc1 := kept ha1 hb
        have HB := Lib.hid hb
        have hs2 : w.heap.size < w1.heap.size := by have := hb.size; omega
        clear hb ha0 ha1 hr3
        go_wp2_with (go_at_call 23; refine (awake_any _).mono ?_; rintro e w2 ⟨rfl, hb2⟩; have HB2 := Lib.hid hb2; clear hb2)
        go_ret
        exact ⟨rfl, (((HBel.out.trans (HB.out.mono (by omega))).alloc (by omega) _).trans (HB2.out.mono (by simp; omega)))⟩
  · obtain rfl : m = 40 := by omega
    clear hm
    obtain ⟨b, off, rfl, hbl, hc⟩ := HR.out.at_ (by intro h; have h2 := congrArg List.length h; rw [List.length_map, HL.out] at h2; simp at h2)
    clear hbl hc
    have hd : decide ((40 : Int) < (n : Int)) = true := by simp; omega
    go_enter Try.func4, Try.ntmps4
    go_wp2_with fail
    go_loopw [4, 5, 6] (fun i a b wr => ∃ (k : Nat) (s : Int), k ≤ 40 ∧ i = .int .i64 k ∧ Hid (s = (l.take k).sum) ∧ 0 ≤ s ∧ s < 1208925819614629174706176 ∧ Blk wr w.heap.size 24 #[.int .u64 (s / 18446744073709551616), .int .u64 (s % 18446744073709551616)] ∧ Below w.heap.size w wr) (fun i _ _ _ => 40 - (intOf i).toNat)
    case atStart =>
      exact ⟨0, 0, by omega, rfl, rfl, by omega, by omega, Blk.new w _ _, (Below.refl _ _).alloc (Nat.le_refl _) _⟩
    case round =>
      obtain ⟨k, s, hk, rfl, HS, s0, s1, hb1, hbel⟩ := hrel
      by_cases hlt : k < 40
      · have hkl : k < l.length := by rw [HL.out]; exact hlt
        obtain ⟨b2, off2, hA, hbl, hc⟩ := HR.out.at_ (by intro h; simp at h; rw [h] at hkl; simp at hkl)
        obtain ⟨rfl, rfl⟩ : b = b2 ∧ off = off2 := by injection hA with hA; injection hA with e1 e2; exact ⟨e1, e2⟩
        clear hA
        have hcell : wr.cell? ⟨b, off + k, none⟩ = some (.int .u64 (l[k])) := by rw [hbel.cell hbl]; exact hc k _ (by simp [hkl])
        have hs : (l.take (k + 1)).sum = s + l[k] := by rw [mixD.take_snoc l k hkl, sum_snoc, HS.out]
        have hx := HLB.out l[k] (List.getElem_mem hkl)
        have HS2 := Lib.hid hs
        have hsb := sum_bound (l.take (k + 1)) (fun x hx => HLB.out x (List.mem_of_mem_take hx))
        rw [hs] at hsb
        have hsl : (l.take (k + 1)).length ≤ 40 := by rw [List.length_take]; omega
        clear hs hc
        generalize l[k] = x at *
        obtain ⟨x0, x1⟩ := hx
        have hs2 : s + x < 1208925819614629174706176 := by omega
        have hs3 : 0 ≤ s + x := by omega
        clear hsb hsl
        have ha0 : wr.cell? ⟨w.heap.size, 0, none⟩ = some (.int .u64 (s / 18446744073709551616)) := hb1.cell 0
        have ha1 : wr.cell? ⟨w.heap.size, 1, none⟩ = some (.int .u64 (s % 18446744073709551616)) := hb1.cell 1
        have kk : ∀ X, Below wr.heap.size wr X → Below wr.heap.size wr X ∧ X.cell? ⟨w.heap.size, 0, none⟩ = some (.int .u64 (s / 18446744073709551616)) ∧ X.cell? ⟨w.heap.size, 1, none⟩ = some (.int .u64 (s % 18446744073709551616)) ∧ X.cell? ⟨b, off + k, none⟩ = some (.int .u64 x) :=
          fun X h => ⟨h, kept ha0 h, kept ha1 h, kept hcell h⟩
        have KK := Lib.hid kk
        clear kk
        have hbs := hb1.lt
        have HB1 := Lib.hid hb1
        have HBel := Lib.hid hbel
        clear hb1 hbel
        go_wp2_with fail
        go_region_held3 (fun w' => Below wr.heap.size wr w' ∧ w'.cell? ⟨w.heap.size, 0, none⟩ = some (.int .u64 (s / 18446744073709551616)) ∧ w'.cell? ⟨w.heap.size, 1, none⟩ = some (.int .u64 (s % 18446744073709551616)) ∧ w'.cell? ⟨b, off + k, none⟩ = some (.int .u64 x))
          ((refine KK.out _ ?_; repeat' (first | (with_reducible exact Below.refl _ _) | (with_reducible refine bel_alloc ?_ _) | (with_reducible refine bel_drew ?_) | (with_reducible refine bel_set ?_ ?_ _) | (with_reducible refine bel_call ?_ hb) | (with_reducible exact Nat.le_refl _) | (with_reducible exact And.left (by assumption)) | (simp; done) | (simp; omega))))
          (first
            | (go_at_call 18; (with_reducible refine (lawAddLo_any s x s0 s1 x0 x1 ((wr.alloc (.cells #[.int .u64 0, .int .u64 0] 24)).drew)).mono ?_); rintro e w' ⟨rfl, hb⟩; have hn := (((Blk.new wr 24 #[.int .u64 0, .int .u64 0]).drew).below hb (by simp)); have f0 := hn.cell 0; have f1 := hn.cell 1; have f2 := hn.frozen 0; have f3 := hn.frozen 1; clear hn)
            | (go_at_call 18; refine (lawAddLo_any s x s0 s1 x0 x1 _).mono ?_; rintro e w' ⟨rfl, hb⟩))
        all_goals
          rename_i hH
          obtain ⟨hB, hq0, hq1, hq2⟩ := hH
          have hbX := HB1.out.below hB hbs
          have hfr0 := hbX.frozen 0
          have hfr1 := hbX.frozen 1
          have HBX := Lib.hid hbX
          have HBB := Lib.hid hB
          clear hbX hB hq2
          go_wp2_with fail
          go_roundw
          case rel =>
            refine ⟨k + 1, s + x, by omega, by go_num, HS2.out.symm, hs3, hs2, ?_, ?_⟩
            · have := ((HBX.out.set_ 0 (.int .u64 ((s + x) / 18446744073709551616))).set_ 1 (.int .u64 ((s + x) % 18446744073709551616)))
              simpa using this
            · exact ((HBel.out.trans (HBB.out.mono (by omega))).setCell (p := ⟨_, 0, none⟩) (Nat.le_refl _) _).setCell (p := ⟨_, 1, none⟩) (Nat.le_refl _) _
          case measure => simp [intOf]; omega
      · have hfin : s = l.sum := by rw [HS.out, List.take_of_length_le (by rw [HL.out]; omega)]
        have HF := Lib.hid hfin
        have ha0 : wr.cell? ⟨w.heap.size, 0, none⟩ = some (.int .u64 (s / 18446744073709551616)) := hb1.cell 0
        have ha1 : wr.cell? ⟨w.heap.size, 1, none⟩ = some (.int .u64 (s % 18446744073709551616)) := hb1.cell 1
        have hbs := hb1.lt
        have HBel := Lib.hid hbel
        have hr2 := HR.out.below hbel
        have hr3 := hr2.more hbel.size
        clear hb1 hbel hfin hr2
        go_wp2_with fail
        refine (sum_any _ _ c l wr HL.out hm40 HLB.out hr3).mono ?_
        rintro e w1 ⟨rfl, hb⟩
        rw [← HF.out]
        have hc0 := kept ha0 hb
        have hc1 := kept ha1 hb
        have HB := Lib.hid hb
        have hs2 : w.heap.size < w1.heap.size := by have := hb.size; omega
        clear hb ha0 ha1 hr3
        go_wp2_with (go_at_call 23; refine (awake_any _).mono ?_; rintro e w2 ⟨rfl, hb2⟩; have HB2 := Lib.hid hb2; clear hb2)
        go_ret
        exact ⟨rfl, (((HBel.out.trans (HB.out.mono (by omega))).alloc (by omega) _).trans (HB2.out.mono (by simp; omega)))⟩
end Go.Proofs.Ytlipemjidjjenaa.wideE
