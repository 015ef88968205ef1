/- math/bits.Div64. -/
import Derived.Test.YtpgodmcpdgbhaaaDivB
import Derived.Test.YtpgodmcpdgbhaaaShelf
namespace Go.Proofs.Ytpgodmcpdgbhaaa.divC
open Go.ChangeShapes Go.WideShapes Go.ChangeAt Go.RowKit
open Go.Proofs.Ytpgodmcpdgbhaaa.base Go.Proofs.Ytpgodmcpdgbhaaa.divA Go.Proofs.Ytpgodmcpdgbhaaa.divB Go.Proofs.Ytpgodmcpdgbhaaa.mixB
set_option linter.unusedVariables false

theorem div64_small (lo y : Int) (l0 : 0 ≤ lo) (l1 : lo < 18446744073709551616) (y0 : 0 < y) (y1 : y < 18446744073709551616) (w : World) :
    Calls Try.prog 48 #[.int .u64 0, .int .u64 lo, .int .u64 y] w fun e w' => e = .returned (.tuple #[.int .u64 (lo / y), .int .u64 (lo % y)]) ∧ Below w.heap.size w w' := by
  have f1 : (y == 0) = false := by simp; omega
  have f2 : decide (y ≤ 0) = false := by simp; omega
  go_enter Try.func48, Try.ntmps48
  go_wp2_with fail
  go_region
  go_wp2_with fail
  go_returns
  exact ⟨rfl, by go_grown⟩

end Go.Proofs.Ytpgodmcpdgbhaaa.divC
