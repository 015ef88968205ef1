/- Layer 1: numbers of 128 bits. -/
import Derived.Test.YtpgodmcpdgbhaaaMixB
import Derived.Test.YtpgodmcpdgbhaaaBase
import Derived.Handy
namespace Go.Proofs.Ytpgodmcpdgbhaaa.wideA
open Go.ChangeShapes Go.WideShapes Go.ChangeAt Go.RowKit
open Go.Proofs.Ytpgodmcpdgbhaaa.base
set_option linter.unusedVariables false

theorem add64_run (x y c : Int) (hx : 0 ≤ x) (hy : 0 ≤ y) (hc0 : 0 ≤ c) (hc : c ≤ 1) (w : World) :
    (callFunc 50 #[.int .u64 x, .int .u64 y, .int .u64 c]).run Try.prog w = .ok (.value (.tuple #[.int .u64 ((x + y + c) % 18446744073709551616), .int .u64 ((x + y + c) / 18446744073709551616)])) w := by
  rw [run_callFunc_extern Try.func50 (by kernel_rfl) (by kernel_rfl) (by kernel_rfl) (e := add64Entry) (by kernel_rfl), run_add64 x y c hx hy hc0 hc]
  rfl

theorem numAdd_no (xh xl yh yl : Int) (a1 : 0 ≤ xh) (a2 : xh < 18446744073709551616) (b1 : 0 ≤ xl) (b2 : xl < 18446744073709551616) (c1 : 0 ≤ yh) (c2 : yh < 18446744073709551616) (d1 : 0 ≤ yl) (d2 : yl < 18446744073709551616)
    (h : 18446744073709551616 ≤ xh + yh + (xl + yl) / 18446744073709551616) (w : World) :
    Calls Try.prog 46 #[.agg #[.int .u64 xh, .int .u64 xl], .agg #[.int .u64 yh, .int .u64 yl]] w fun e w' => e = .returned (.tuple #[.agg #[.int .u64 0, .int .u64 0], .bool false]) ∧ Below w.heap.size w w' := by
  have ea := add64_run xl yl 0 b1 d1 (by omega) (by omega)
  have eb := add64_run xh yh ((xl + yl) / 18446744073709551616) a1 c1 (by omega) (by omega)
  have h1 : ((xh + yh + (xl + yl) / 18446744073709551616) / 18446744073709551616 != 0) = true := by rw [bne_iff_ne]; omega
  go_enter Try.func46, Try.ntmps46
  go_wp2
  go_returns
  exact ⟨rfl, by go_grown⟩

theorem numAdd_ok (xh xl yh yl : Int) (a1 : 0 ≤ xh) (a2 : xh < 18446744073709551616) (b1 : 0 ≤ xl) (b2 : xl < 18446744073709551616) (c1 : 0 ≤ yh) (c2 : yh < 18446744073709551616) (d1 : 0 ≤ yl) (d2 : yl < 18446744073709551616)
    (h : xh + yh + (xl + yl) / 18446744073709551616 < 18446744073709551616) (w : World) :
    Calls Try.prog 46 #[.agg #[.int .u64 xh, .int .u64 xl], .agg #[.int .u64 yh, .int .u64 yl]] w fun e w' => e = .returned (.tuple #[.agg #[.int .u64 (xh + yh + (xl + yl) / 18446744073709551616), .int .u64 ((xl + yl) % 18446744073709551616)], .bool true]) ∧ Below w.heap.size w w' := by
  have ea := add64_run xl yl 0 b1 d1 (by omega) (by omega)
  have eb := add64_run xh yh ((xl + yl) / 18446744073709551616) a1 c1 (by omega) (by omega)
  have h1 : ((xh + yh + (xl + yl) / 18446744073709551616) / 18446744073709551616 != 0) = false := by simp; omega
  have h2 : (xh + yh + (xl + yl) / 18446744073709551616) % 18446744073709551616 = xh + yh + (xl + yl) / 18446744073709551616 := by omega
  go_enter Try.func46, Try.ntmps46
  go_wp2
  go_returns
  exact ⟨rfl, by go_grown⟩

end Go.Proofs.Ytpgodmcpdgbhaaa.wideA
