/- Layer 24: the example; the law on health. -/
import Derived.Test.YtiagepmfajpbpaaLoadD
namespace Go.Proofs.Ytiagepmfajpbpaa.loadE
open Go.ChangeShapes Go.WideShapes Go.ChangeAt Go.RowKit
open Go.Proofs.Ytiagepmfajpbpaa.base Go.Proofs.Ytiagepmfajpbpaa.loadA Go.Proofs.Ytiagepmfajpbpaa.loadB Go.Proofs.Ytiagepmfajpbpaa.loadC Go.Proofs.Ytiagepmfajpbpaa.loadD
set_option linter.unusedVariables false

theorem awake_any (w : World) :
    Calls Try.prog 13 #[] w fun e w' => e = .returned (.bool true) ∧ Below w.heap.size w w' := by
  have v0 : ofZ [5, 10] 2 (capZ (sumF (heaZ [5, 10] [10, 10] 140) 2)) (heaZ [5, 10] [10, 10] 140) 0 = 7000 := by decide
  have v1 : ofZ [5, 10] 2 (capZ (sumF (heaZ [5, 10] [10, 10] 140) 2)) (heaZ [5, 10] [10, 10] 140) 1 = 3000 := by decide
  have hp : rightP [5, 10] [10, 10] 140 := by
    refine ⟨rfl, by decide, by decide, by decide, ?_⟩
    intro i hi
    match i, hi with
    | 0, _ => decide
    | 1, _ => decide
  have HP := Lib.hid hp
  have HOF := Lib.hid (fun (a b : Nat) (w : World) (h1 : Row w w.heap.size (some ⟨a, 0, none⟩) (([5, 10] : List Int).map (.int .i64))) (h2 : Row w w.heap.size (some ⟨b, 0, none⟩) (([10, 10] : List Int).map (.int .i64))) => of_yes (some ⟨a, 0, none⟩) (some ⟨b, 0, none⟩) 2 2 2 2 [5, 10] [10, 10] 140 w rfl rfl h1 h2 HP.out)
  have HV0 := Lib.hid v0
  have HV1 := Lib.hid v1
  clear hp v0 v1
  generalize ofZ [5, 10] 2 (capZ (sumF (heaZ [5, 10] [10, 10] 140) 2)) (heaZ [5, 10] [10, 10] 140) = v at *
  go_enter Try.func13, Try.ntmps13
  go_wp2_with fail
  refine (HOF.out _ _ _ (.inr ⟨_, 0, rfl, by simp; try omega, fun i u hu => ?_⟩) (.inr ⟨_, 0, rfl, by simp; try omega, fun i u hu => ?_⟩)).mono ?_
  · rw [Nat.zero_add]
    rw [((Blk.new w 3 #[.int .i64 5, .int .i64 10]).alloc _).cell i]
    simpa using hu
  · rw [Nat.zero_add]
    have e : (w.alloc (.cells #[.int .i64 5, .int .i64 10] 3)).heap.size = w.heap.size + 1 := by simp
    rw [← e, (Blk.new (w.alloc (.cells #[.int .i64 5, .int .i64 10] 3)) 3 #[.int .i64 10, .int .i64 10]).cell i]
    simpa using hu
  rintro e w1 ⟨g, rfl, hg, hb, hbel⟩
  have c0 : w1.cell? ⟨g, 0, none⟩ = some (.int .i64 7000) := by rw [hb.cell 0, tab_get _ _ _ (by omega), HV0.out]
  have c1 : w1.cell? ⟨g, 1, none⟩ = some (.int .i64 3000) := by rw [hb.cell 1, tab_get _ _ _ (by omega), HV1.out]
  have HBel := Lib.hid hbel
  clear hb hbel
  go_wp2_with fail
  go_ret
  exact ⟨rfl, (((Below.refl _ _).alloc (Nat.le_refl _) _).alloc (by simp) _).trans (HBel.out.mono (by simp; try omega))⟩

end Go.Proofs.Ytiagepmfajpbpaa.loadE
