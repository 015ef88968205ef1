/- Layer 1: numbers of 128 bits compared. -/
import Derived.Test.YtanijccpbleekaaWideB
namespace Go.Proofs.Ytanijccpbleekaa.wideC
open Go.ChangeShapes Go.WideShapes Go.ChangeAt Go.RowKit
open Go.Proofs.Ytanijccpbleekaa.base
set_option linter.unusedVariables false

def cmpI (x y : Int) : Int := if x < y then -1 else if y < x then 1 else 0
theorem compare_any (x y : Int) (w : World) :
    Calls Try.prog 41 #[.int .u64 x, .int .u64 y] w fun e w' => e = .returned (.int .i64 (cmpI x y)) ∧ w = w' := by
  by_cases h : x < y
  · go_enter Try.func41, Try.ntmps41
    go_wp2
    go_ret
    exact ⟨ret_int (by simp [cmpI, h]), rfl⟩
  · by_cases h2 : y < x
    · go_enter Try.func41, Try.ntmps41
      go_wp2
      go_ret
      exact ⟨ret_int (by simp [cmpI, h2]; omega), rfl⟩
    · go_enter Try.func41, Try.ntmps41
      go_wp2
      go_ret
      exact ⟨ret_int (by simp [cmpI]; omega), rfl⟩

def cmp128 (xh xl yh yl : Int) : Int := if xh = yh then cmpI xl yl else cmpI xh yh
theorem numCmp_any (xh xl yh yl : Int) (w : World) :
    Calls Try.prog 32 #[.agg #[.int .u64 xh, .int .u64 xl], .agg #[.int .u64 yh, .int .u64 yl]] w fun e w' => e = .returned (.int .i64 (cmp128 xh xl yh yl)) ∧ Below w.heap.size w w' := by
  by_cases h : xh = yh
  · subst h
    have e : cmpI xl yl = cmp128 xh xl xh yl := by simp [cmp128]
    go_enter Try.func32, Try.ntmps32
    go_wp2_with (go_at_call 41; refine (compare_any _ _ _).mono ?_; rintro e w' ⟨rfl, rfl⟩)
    go_ret
    exact ⟨rfl, by go_grown⟩
  · have e : cmpI xh yh = cmp128 xh xl yh yl := by simp [cmp128, h]
    have hb : (xh != yh) = true := by simpa using h
    go_enter Try.func32, Try.ntmps32
    go_wp2_with (go_at_call 41; refine (compare_any _ _ _).mono ?_; rintro e w' ⟨rfl, rfl⟩)
    go_ret
    exact ⟨rfl, by go_grown⟩

def less128 (xh xl yh yl : Int) : Bool := decide (xh < yh) || ((xh == yh) && decide (xl < yl))
end Go.Proofs.Ytanijccpbleekaa.wideC
