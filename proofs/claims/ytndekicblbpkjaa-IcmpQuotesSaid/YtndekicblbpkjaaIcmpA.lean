/- Layer 12: a flow the other way round. -/
import Derived.Test.YtndekicblbpkjaaLeaf
import Derived.Test.YtndekicblbpkjaaKeep
import Derived.Deep.RegionHeld3
import Derived.BigQuiet
namespace Go.Proofs.Ytndekicblbpkjaa.icmpA
open Go.ChangeShapes Go.WideShapes Go.ChangeAt Go.RowKit
open Go.Proofs.Ytndekicblbpkjaa.base
set_option linter.unusedVariables false

theorem error_any (v : Bool) (k : Int) (r : Bool) (hr : r = if v = true then decide (1 ≤ k ∧ k ≤ 4) else decide (3 ≤ k ∧ k ≤ 5 ∨ k = 11 ∨ k = 12)) (w : World) (hk : (v = false ∧ k = 3) ∨ (v = true ∧ k = 3) ∨ (v = true ∧ k = 8)) :
    Calls Try.prog 23 #[.bool v, .int .i64 k] w fun e w' => e = .returned (.bool r) ∧ w = w' := by
  rcases hk with ⟨rfl, rfl⟩ | ⟨rfl, rfl⟩ | ⟨rfl, rfl⟩ <;>
    (simp at hr; subst hr; go_enter Try.func23, Try.ntmps23; go_wp2; go_ret; exact ⟨rfl, rfl⟩)
theorem awake_any (w : World) :
    Calls Try.prog 24 #[] w fun e w' => e = .returned (.bool true) ∧ w = w' := by
  go_enter Try.func24, Try.ntmps24
  go_wp2_with fail
  refine (error_any false 3 true (by decide) _ (by simp)).mono ?_
  rintro e w' ⟨rfl, rfl⟩
  go_wp2_with fail
  refine (error_any true 3 true (by decide) _ (by simp)).mono ?_
  rintro e w' ⟨rfl, rfl⟩
  go_wp2_with fail
  refine (error_any true 8 false (by decide) _ (by simp)).mono ?_
  rintro e w' ⟨rfl, rfl⟩
  go_wp2_with fail
  go_ret
  exact ⟨rfl, rfl⟩

theorem back_any (p : Int) (s6 : Bool) (sh sl : Int) (d6 : Bool) (dh dl sp dp : Int) (w : World) :
    Calls Try.prog 37 #[.agg #[.int .i64 p, .bool s6, .int .u64 sh, .int .u64 sl, .bool d6, .int .u64 dh, .int .u64 dl, .int .i64 sp, .int .i64 dp]] w
      fun e w' => e = .returned (.agg #[.int .i64 p, .bool d6, .int .u64 dh, .int .u64 dl, .bool s6, .int .u64 sh, .int .u64 sl, .int .i64 dp, .int .i64 sp]) ∧ Below w.heap.size w w' := by
  go_enter Try.func37, Try.ntmps37
  go_wp2_with fail
  exact bodyPost_ret (v := .agg #[.int .i64 p, .bool d6, .int .u64 dh, .int .u64 dl, .bool s6, .int .u64 sh, .int .u64 sl, .int .i64 dp, .int .i64 sp]) (by simp [results, Try.results37, go_sem]) rfl ⟨rfl, ((Below.refl _ _).alloc (Nat.le_refl _) _).alloc (by simp) _⟩
end Go.Proofs.Ytndekicblbpkjaa.icmpA
