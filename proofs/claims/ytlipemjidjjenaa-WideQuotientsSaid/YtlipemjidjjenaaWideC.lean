/- Layer 1: numbers of 128 bits compared. -/
import Derived.Test.YtlipemjidjjenaaWideB
namespace Go.Proofs.Ytlipemjidjjenaa.wideC
open Go.ChangeShapes Go.WideShapes Go.ChangeAt Go.RowKit
open Go.Proofs.Ytlipemjidjjenaa.base
set_option linter.unusedVariables false

def cmpI (x y : Int) : Int := if x < y then -1 else if y < x then 1 else 0
theorem compare_any (x y : Int) (w : World) :
    Calls Try.prog 63 #[.int .u64 x, .int .u64 y] w fun e w' => e = .returned (.int .i64 (cmpI x y)) ∧ w = w' := by
  by_cases h : x < y
  · go_enter Try.func63, Try.ntmps63
    go_wp2
    go_ret
    exact ⟨ret_int (by simp [cmpI, h]), rfl⟩
  · by_cases h2 : y < x
    · go_enter Try.func63, Try.ntmps63
      go_wp2
      go_ret
      exact ⟨ret_int (by simp [cmpI, h2]; omega), rfl⟩
    · go_enter Try.func63, Try.ntmps63
      go_wp2
      go_ret
      exact ⟨ret_int (by simp [cmpI]; omega), rfl⟩

def cmp128 (xh xl yh yl : Int) : Int := if xh = yh then cmpI xl yl else cmpI xh yh
theorem numCmp_any (xh xl yh yl : Int) (w : World) :
    Calls Try.prog 21 #[.agg #[.int .u64 xh, .int .u64 xl], .agg #[.int .u64 yh, .int .u64 yl]] w fun e w' => e = .returned (.int .i64 (cmp128 xh xl yh yl)) ∧ Below w.heap.size w w' := by
  by_cases h : xh = yh
  · subst h
    have e : cmpI xl yl = cmp128 xh xl xh yl := by simp [cmp128]
    go_enter Try.func21, Try.ntmps21
    go_wp2_with (go_at_call 63; refine (compare_any _ _ _).mono ?_; rintro e w' ⟨rfl, rfl⟩)
    go_ret
    exact ⟨rfl, by go_grown⟩
  · have e : cmpI xh yh = cmp128 xh xl yh yl := by simp [cmp128, h]
    have hb : (xh != yh) = true := by simpa using h
    go_enter Try.func21, Try.ntmps21
    go_wp2_with (go_at_call 63; refine (compare_any _ _ _).mono ?_; rintro e w' ⟨rfl, rfl⟩)
    go_ret
    exact ⟨rfl, by go_grown⟩

def less128 (xh xl yh yl : Int) : Bool := decide (xh < yh) || ((xh == yh) && decide (xl < yl))
theorem less_any (xh xl yh yl : Int) (w : World) :
    Calls Try.prog 27 #[.agg #[.int .u64 xh, .int .u64 xl], .agg #[.int .u64 yh, .int .u64 yl]] w fun e w' => e = .returned (.bool (less128 xh xl yh yl)) ∧ Below w.heap.size w w' := by
  by_cases h : xh < yh
  · go_enter Try.func27, Try.ntmps27
    go_wp2
    go_ret
    exact ⟨ret_bool (by simp [less128, h]), by go_grown⟩
  · by_cases h2 : xh = yh
    · subst h2
      go_enter Try.func27, Try.ntmps27
      go_wp2
      go_ret
      exact ⟨ret_bool (by simp [less128]), by go_grown⟩
    · have hb : (xh == yh) = false := by simpa using h2
      go_enter Try.func27, Try.ntmps27
      go_wp2
      go_ret
      exact ⟨ret_bool (by simp [less128, h2]; omega), by go_grown⟩
end Go.Proofs.Ytlipemjidjjenaa.wideC
