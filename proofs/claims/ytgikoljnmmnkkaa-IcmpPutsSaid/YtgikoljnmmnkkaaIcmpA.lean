/- Layer 12: a flow the other way round. -/
import Derived.Test.YtgikoljnmmnkkaaLeaf
import Derived.Test.YtgikoljnmmnkkaaKeep
import Derived.Deep.RegionHeld3
import Derived.BigQuiet
namespace Go.Proofs.Ytgikoljnmmnkkaa.icmpA
open Go.ChangeShapes Go.WideShapes Go.ChangeAt Go.RowKit
open Go.Proofs.Ytgikoljnmmnkkaa.base
set_option linter.unusedVariables false

theorem error_any (v : Bool) (k : Int) (r : Bool) (hr : r = if v = true then decide (1 ≤ k ∧ k ≤ 4) else decide (3 ≤ k ∧ k ≤ 5 ∨ k = 11 ∨ k = 12)) (w : World) (hk : (v = false ∧ k = 3) ∨ (v = true ∧ k = 3) ∨ (v = true ∧ k = 8)) :
    Calls Try.prog 20 #[.bool v, .int .i64 k] w fun e w' => e = .returned (.bool r) ∧ w = w' := by
  rcases hk with ⟨rfl, rfl⟩ | ⟨rfl, rfl⟩ | ⟨rfl, rfl⟩ <;>
    (simp at hr; subst hr; go_enter Try.func20, Try.ntmps20; go_wp2; go_ret; exact ⟨rfl, rfl⟩)
theorem awake_any (w : World) :
    Calls Try.prog 14 #[] w fun e w' => e = .returned (.bool true) ∧ w = w' := by
  go_enter Try.func14, Try.ntmps14
  go_wp2_with fail
  refine (error_any false 3 true (by decide) _ (by simp)).mono ?_
  rintro e w' ⟨rfl, rfl⟩
  go_wp2_with fail
  refine (error_any true 3 true (by decide) _ (by simp)).mono ?_
  rintro e w' ⟨rfl, rfl⟩
  go_wp2_with fail
  refine (error_any true 8 false (by decide) _ (by simp)).mono ?_
  rintro e w' ⟨rfl, rfl⟩
  go_wp2_with fail
  go_ret
  exact ⟨rfl, rfl⟩

end Go.Proofs.Ytgikoljnmmnkkaa.icmpA
