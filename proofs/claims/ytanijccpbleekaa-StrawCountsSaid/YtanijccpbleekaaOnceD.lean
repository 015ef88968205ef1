/- Layer 3: what any draw is, with a table and without. -/
import Derived.Test.YtanijccpbleekaaOnceC
import Derived.Test.YtanijccpbleekaaLogD
namespace Go.Proofs.Ytanijccpbleekaa.onceD
open Go.ChangeShapes Go.WideShapes Go.ChangeAt Go.RowKit
open Go.Proofs.Ytanijccpbleekaa.base Go.Proofs.Ytanijccpbleekaa.onceB Go.Proofs.Ytanijccpbleekaa.onceC Go.Proofs.Ytanijccpbleekaa.logA Go.Proofs.Ytanijccpbleekaa.logC Go.Proofs.Ytanijccpbleekaa.logD
set_option linter.unusedVariables false

theorem refof_any (d : Int) (w : World) : Calls Try.prog 8 #[.int .i64 d] w fun e w' => e = .returned (.int .u64 (ofZ d)) ∧ w = w' := by
  have hb := heldN_bd d
  have hl := logZ_top hb.1 hb.2
  have he : 268435456 - logZ (heldN d) = ofZ d := rfl
  have hn : heldN d = if d < 1 then 1 else if 65536 < d then 65536 else d.toNat := rfl
  generalize heldN d = n at *
  have HR := Lib.hid (fun W => reflog2_any n (by omega) W)
  have HE := Lib.hid he
  by_cases h1 : d < 1
  · rw [if_pos h1] at hn
    subst hn
    have t1 : decide (d < 1) = true := decide_eq_true h1
    clear he h1
    go_enter Try.func8, Try.ntmps8
    go_wp2_with (go_at_call 20; refine (HR.out _).mono ?_; rintro e w' ⟨rfl, rfl⟩)
    go_ret
    exact ⟨by rw [← HE.out]; rfl, rfl⟩
  · rw [if_neg h1] at hn
    have t1 : decide (d < 1) = false := decide_eq_false h1
    by_cases h2 : 65536 < d
    · rw [if_pos h2] at hn
      subst hn
      have t2 : decide (65536 < d) = true := decide_eq_true h2
      clear he h1 h2
      go_enter Try.func8, Try.ntmps8
      go_wp2_with (go_at_call 20; refine (HR.out _).mono ?_; rintro e w' ⟨rfl, rfl⟩)
      go_ret
      exact ⟨by rw [← HE.out]; rfl, rfl⟩
    · rw [if_neg h2] at hn
      have hd : d = (n : Int) := by omega
      subst hd
      have t2 : decide (65536 < (n : Int)) = false := decide_eq_false h2
      clear he h1 h2 hn
      go_enter Try.func8, Try.ntmps8
      go_wp2_with (go_at_call 20; refine (HR.out _).mono ?_; rintro e w' ⟨rfl, rfl⟩)
      go_ret
      exact ⟨by rw [← HE.out]; rfl, rfl⟩
theorem at_nil (d : Int) (w : World) : Calls Try.prog 9 #[.pointer none, .int .i64 d] w fun e w' => e = .returned (.int .u64 0) ∧ w = w' := by
  go_enter Try.func9, Try.ntmps9
  go_wp2
  go_ret
  exact ⟨rfl, rfl⟩
set_option maxRecDepth 100000 in
set_option maxHeartbeats 4000000 in
theorem draws_any (a b : Int) (w : World) : Calls Try.prog 3 #[.int .i64 a, .int .i64 b] w fun e w' => e = .returned (.bool true) ∧ Below w.heap.size w w' := by
  have HOF := Lib.hid (fun d W => of_any d W)
  have HRF := Lib.hid (fun d W => refof_any d W)
  have HNI := Lib.hid (fun d W => at_nil d W)
  have HAW := Lib.hid (fun W => awake_any W)
  obtain ⟨x, hx⟩ : ∃ x, x = ofZ a := ⟨_, rfl⟩
  obtain ⟨y, hy⟩ : ∃ y, y = ofZ b := ⟨_, rfl⟩
  have HX := Lib.hid hx
  have HY := Lib.hid hy
  have tx : (x == x) = true := by simp
  have ty : (y == y) = true := by simp
  obtain ⟨w1, hw1⟩ : ∃ w1, w1 = w.alloc (.cells (TabC 0 0 (.slice none 0 0)) 37) := ⟨_, rfl⟩
  have HW1 := Lib.hid hw1
  have HB1 := Lib.hid (show Below w.heap.size w w1 from hw1 ▸ (Below.refl w.heap.size w).alloc (Nat.le_refl _) _)
  have HT := Lib.hid (at_any w.heap.size 37 a w1 (.inl (hw1 ▸ Blk.new w _ _)))
  clear hx hy hw1
  go_enter Try.func3, Try.ntmps3
  go_wp2_with fail
  refine (HOF.out _ _).mono ?_
  rintro e w' ⟨rfl, rfl⟩
  rw [← HX.out]
  go_wp2_with fail
  refine (HRF.out _ _).mono ?_
  rintro e w' ⟨rfl, rfl⟩
  rw [← HX.out]
  go_wp2_with fail
  rw [show (w.alloc (.cells #[.int .u32 0, .int .i32 0, .int .u32 0, .slice none 0 0] 37)) = w1 from HW1.out.symm]
  refine HT.out.mono ?_
  rintro e w2 ⟨rfl, hf, ha⟩
  have HB2 := Lib.hid (ha.from HB1.out (Nat.le_refl _) (Nat.le_refl _))
  have HT2 := Lib.hid (at_any w.heap.size 37 b w2 (.inr hf))
  clear hf ha
  rw [← HX.out]
  go_wp2_with fail
  refine (HRF.out _ _).mono ?_
  rintro e w' ⟨rfl, rfl⟩
  rw [← HX.out]
  go_wp2_with fail
  refine HT2.out.mono ?_
  rintro e w3 ⟨rfl, hf, ha⟩
  have HB3 := Lib.hid (ha.from HB2.out (Nat.le_refl _) (Nat.le_refl _))
  clear hf ha
  rw [← HY.out]
  go_wp2_with fail
  refine (HRF.out _ _).mono ?_
  rintro e w' ⟨rfl, rfl⟩
  rw [← HY.out]
  go_wp2_with fail
  refine (HNI.out _ _).mono ?_
  rintro e w' ⟨rfl, rfl⟩
  go_wp2_with fail
  refine (HAW.out _).mono ?_
  rintro e w' ⟨rfl, rfl⟩
  go_wp2_with fail
  go_ret
  exact ⟨rfl, HB3.out⟩
end Go.Proofs.Ytanijccpbleekaa.onceD
