/- Layer 31: limits. -/
import Derived.Test.YtpgodmcpdgbhaaaRow
import Derived.Test.YtpgodmcpdgbhaaaKeep
import Derived.Laws.LoneSync
namespace Go.Proofs.Ytpgodmcpdgbhaaa.countA
open Go.ChangeShapes Go.WideShapes Go.ChangeAt Go.RowKit
open Go.Proofs.Ytpgodmcpdgbhaaa.base
set_option linter.unusedVariables false

theorem load_any (g o : Nat) (x : Int) (w : World) (hc : w.cell? ⟨g, o, none⟩ = some (.int .i64 x)) :
    Calls Try.prog 26 #[.pointer (some ⟨g, o, none⟩)] w fun e w' => e = .returned (.int .i64 x) ∧ w = w' := by
  have hl := run_call_load (P := Try.prog) Try.func42 (by kernel_rfl) (by kernel_rfl) (by kernel_rfl) .i64 (by kernel_rfl) hc
  go_enter Try.func26, Try.ntmps26
  go_wp2
  go_ret
  exact ⟨rfl, rfl⟩
theorem cas_any (g o : Nat) (x y : Int) (w : World) (hc : w.cell? ⟨g, o, none⟩ = some (.int .i64 x)) (hz : w.frozen? ⟨g, o, none⟩ = false) :
    Calls Try.prog 44 #[.pointer (some ⟨g, o, none⟩), .int .i64 x, .int .i64 y] w fun e w' => e = .returned (.bool true) ∧ w.setCell ⟨g, o, none⟩ (.int .i64 y) = w' := by
  have hl := run_call_cas_hit (P := Try.prog) Try.func49 (by kernel_rfl) (by kernel_rfl) (by kernel_rfl) .i64 (by kernel_rfl) (y := y) hc hz
  go_enter Try.func44, Try.ntmps44
  go_wp2
  go_ret
  exact ⟨rfl, rfl⟩
theorem new_any (m : Int) (w : World) :
    Calls Try.prog 29 #[.int .i64 m] w fun e w' => e = .returned (.pointer (some ⟨w.heap.size, 0, none⟩)) ∧ w.alloc (.cells #[.int .i64 (max m 0), .int .i64 0] 66) = w' := by
  rcases Int.lt_or_le m 0 with h | h
  · have hm : max m 0 = 0 := by omega
    rw [hm]
    clear hm
    go_enter Try.func29, Try.ntmps29
    go_wp2
    go_ret
    exact ⟨rfl, rfl⟩
  · have hm : max m 0 = m := by omega
    rw [hm]
    clear hm
    go_enter Try.func29, Try.ntmps29
    go_wp2
    go_ret
    exact ⟨rfl, rfl⟩
theorem taken_any (g : Nat) (x : Int) (w : World) (hc : w.cell? ⟨g, 1, none⟩ = some (.int .i64 x)) :
    Calls Try.prog 15 #[.pointer (some ⟨g, 0, none⟩)] w fun e w' => e = .returned (.int .i64 x) ∧ w = w' := by
  go_enter Try.func15, Try.ntmps15
  go_wp2_with fail
  refine (load_any g 1 x _ hc).mono ?_
  rintro e w' ⟨rfl, rfl⟩
  go_wp2_with fail
  go_ret
  exact ⟨rfl, rfl⟩
theorem taken_nil (w : World) :
    Calls Try.prog 15 #[.pointer none] w fun e w' => e = .returned (.int .i64 0) ∧ w = w' := by
  go_enter Try.func15, Try.ntmps15
  go_wp2
  go_ret
  exact ⟨rfl, rfl⟩
theorem move_nil (s : Int) (w : World) :
    Calls Try.prog 28 #[.pointer none, .int .i64 s] w fun e w' => e = .returned (.bool false) ∧ w = w' := by
  go_enter Try.func28, Try.ntmps28
  go_wp2
  go_ret
  exact ⟨rfl, rfl⟩
theorem move_no (g : Nat) (m t s : Int) (w : World) (h0 : w.cell? ⟨g, 0, none⟩ = some (.int .i64 m)) (h1 : w.cell? ⟨g, 1, none⟩ = some (.int .i64 t)) (t0 : 0 ≤ t) (t1 : t ≤ 1000) (s0 : -1 ≤ s) (s1 : s ≤ 1) (hno : t + s < 0 ∨ m < t + s) :
    Calls Try.prog 28 #[.pointer (some ⟨g, 0, none⟩), .int .i64 s] w fun e w' => e = .returned (.bool false) ∧ w = w' := by
  have hno2 : t + s < 0 ∨ (0 ≤ t + s ∧ m < t + s) := by omega
  clear hno
  rcases hno2 with h | ⟨h, h2⟩
  all_goals
    go_enter Try.func28, Try.ntmps28
    go_wp2_with fail
    go_loop [] (True) (0)
    case atStart => trivial
    case round =>
      go_wp2_with fail
      refine (load_any g 1 t _ h1).mono ?_
      rintro e w' ⟨rfl, rfl⟩
      go_wp2_with fail
      go_ret
      exact ⟨rfl, rfl⟩
theorem move_yes (g : Nat) (m t s : Int) (w : World) (h0 : w.cell? ⟨g, 0, none⟩ = some (.int .i64 m)) (h1 : w.cell? ⟨g, 1, none⟩ = some (.int .i64 t)) (hz : w.frozen? ⟨g, 1, none⟩ = false) (t0 : 0 ≤ t) (t1 : t ≤ 1000) (s0 : -1 ≤ s) (s1 : s ≤ 1) (h : 0 ≤ t + s) (h2 : t + s ≤ m) :
    Calls Try.prog 28 #[.pointer (some ⟨g, 0, none⟩), .int .i64 s] w fun e w' => e = .returned (.bool true) ∧ w.setCell ⟨g, 1, none⟩ (.int .i64 (t + s)) = w' := by
  go_enter Try.func28, Try.ntmps28
  go_wp2_with fail
  go_loop [] (True) (0)
  case atStart => trivial
  case round =>
    go_wp2_with fail
    refine (load_any g 1 t _ h1).mono ?_
    rintro e w' ⟨rfl, rfl⟩
    go_wp2_with fail
    refine (cas_any g 1 t (t + s) _ h1 hz).mono ?_
    rintro e w' ⟨rfl, rfl⟩
    go_wp2_with fail
    go_ret
    exact ⟨rfl, rfl⟩
theorem take_yes (g : Nat) (m t : Int) (w : World) (h0 : w.cell? ⟨g, 0, none⟩ = some (.int .i64 m)) (h1 : w.cell? ⟨g, 1, none⟩ = some (.int .i64 t)) (hz : w.frozen? ⟨g, 1, none⟩ = false) (t0 : 0 ≤ t) (t1 : t ≤ 1000) (h2 : t + 1 ≤ m) :
    Calls Try.prog 13 #[.pointer (some ⟨g, 0, none⟩)] w fun e w' => e = .returned (.bool true) ∧ w.setCell ⟨g, 1, none⟩ (.int .i64 (t + 1)) = w' := by
  go_enter Try.func13, Try.ntmps13
  go_wp2_with fail
  refine (move_yes g m t 1 _ h0 h1 hz t0 t1 (by omega) (by omega) (by omega) h2).mono ?_
  rintro e w' ⟨rfl, rfl⟩
  go_wp2_with fail
  go_ret
  exact ⟨rfl, rfl⟩
theorem take_no (g : Nat) (m t : Int) (w : World) (h0 : w.cell? ⟨g, 0, none⟩ = some (.int .i64 m)) (h1 : w.cell? ⟨g, 1, none⟩ = some (.int .i64 t)) (t0 : 0 ≤ t) (t1 : t ≤ 1000) (h2 : m < t + 1) :
    Calls Try.prog 13 #[.pointer (some ⟨g, 0, none⟩)] w fun e w' => e = .returned (.bool false) ∧ w = w' := by
  go_enter Try.func13, Try.ntmps13
  go_wp2_with fail
  refine (move_no g m t 1 _ h0 h1 t0 t1 (by omega) (by omega) (.inr h2)).mono ?_
  rintro e w' ⟨rfl, rfl⟩
  go_wp2_with fail
  go_ret
  exact ⟨rfl, rfl⟩
theorem take_nil (w : World) :
    Calls Try.prog 13 #[.pointer none] w fun e w' => e = .returned (.bool false) ∧ w = w' := by
  go_enter Try.func13, Try.ntmps13
  go_wp2_with fail
  refine (move_nil 1 _).mono ?_
  rintro e w' ⟨rfl, rfl⟩
  go_wp2_with fail
  go_ret
  exact ⟨rfl, rfl⟩
theorem give_yes (g : Nat) (m t : Int) (w : World) (h0 : w.cell? ⟨g, 0, none⟩ = some (.int .i64 m)) (h1 : w.cell? ⟨g, 1, none⟩ = some (.int .i64 t)) (hz : w.frozen? ⟨g, 1, none⟩ = false) (t0 : 0 < t) (t1 : t ≤ 1000) (h2 : t ≤ m) :
    Calls Try.prog 14 #[.pointer (some ⟨g, 0, none⟩)] w fun e w' => e = .returned (.bool true) ∧ w.setCell ⟨g, 1, none⟩ (.int .i64 (t + -1)) = w' := by
  go_enter Try.func14, Try.ntmps14
  go_wp2_with fail
  refine (move_yes g m t (-1) _ h0 h1 hz (by omega) t1 (by omega) (by omega) (by omega) (by omega)).mono ?_
  rintro e w' ⟨rfl, rfl⟩
  go_wp2_with fail
  go_ret
  exact ⟨rfl, rfl⟩
theorem give_no (g : Nat) (m : Int) (w : World) (h0 : w.cell? ⟨g, 0, none⟩ = some (.int .i64 m)) (h1 : w.cell? ⟨g, 1, none⟩ = some (.int .i64 0)) :
    Calls Try.prog 14 #[.pointer (some ⟨g, 0, none⟩)] w fun e w' => e = .returned (.bool false) ∧ w = w' := by
  go_enter Try.func14, Try.ntmps14
  go_wp2_with fail
  refine (move_no g m 0 (-1) _ h0 h1 (by omega) (by omega) (by omega) (by omega) (.inl (by omega))).mono ?_
  rintro e w' ⟨rfl, rfl⟩
  go_wp2_with fail
  go_ret
  exact ⟨rfl, rfl⟩
theorem give_nil (w : World) :
    Calls Try.prog 14 #[.pointer none] w fun e w' => e = .returned (.bool false) ∧ w = w' := by
  go_enter Try.func14, Try.ntmps14
  go_wp2_with fail
  refine (move_nil (-1) _).mono ?_
  rintro e w' ⟨rfl, rfl⟩
  go_wp2_with fail
  go_ret
  exact ⟨rfl, rfl⟩
theorem awake_any (w : World) :
    Calls Try.prog 16 #[] w fun e w' => e = .returned (.bool true) ∧ Below w.heap.size w w' := by
  go_enter Try.func16, Try.ntmps16
  go_wp2_with fail
  refine (new_any 1 _).mono ?_
  rintro e w' ⟨rfl, rfl⟩
  have hb := Blk.new w 66 #[.int .i64 (max 1 0), .int .i64 0]
  have hbel : Below w.heap.size w (w.alloc (.cells #[.int .i64 (max 1 0), .int .i64 0] 66)) := (Below.refl _ _).alloc (Nat.le_refl _) _
  rw [show max (1 : Int) 0 = 1 by decide] at hb hbel ⊢
  generalize w.alloc (.cells #[.int .i64 1, .int .i64 0] 66) = w1 at *
  go_wp2_with fail
  refine (take_yes _ 1 0 _ (hb.cell 0) (hb.cell 1) (hb.frozen 1) (by omega) (by omega) (by omega)).mono ?_
  rintro e w' ⟨rfl, rfl⟩
  have hb2 := hb.set_ 1 (.int .i64 (0 + 1))
  have hbel2 := bel_set hbel (p := ⟨w.heap.size, 1, none⟩) (Nat.le_refl _) (.int .i64 (0 + 1))
  generalize w1.setCell ⟨w.heap.size, 1, none⟩ (.int .i64 (0 + 1)) = w2 at *
  clear hb hbel
  go_wp2_with fail
  refine (take_no _ 1 1 _ (hb2.cell 0) (hb2.cell 1) (by omega) (by omega) (by omega)).mono ?_
  rintro e w' ⟨rfl, rfl⟩
  go_wp2_with fail
  refine (taken_any _ 1 _ (hb2.cell 1)).mono ?_
  rintro e w' ⟨rfl, rfl⟩
  go_wp2_with fail
  go_ret
  exact ⟨rfl, hbel2⟩
end Go.Proofs.Ytpgodmcpdgbhaaa.countA
