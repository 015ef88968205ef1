/- Layer 1: numbers of 128 bits compared. -/
import Derived.Test.YtpgodmcpdgbhaaaWideB
namespace Go.Proofs.Ytpgodmcpdgbhaaa.wideC
open Go.ChangeShapes Go.WideShapes Go.ChangeAt Go.RowKit
open Go.Proofs.Ytpgodmcpdgbhaaa.base
set_option linter.unusedVariables false

def cmpI (x y : Int) : Int := if x < y then -1 else if y < x then 1 else 0
def cmp128 (xh xl yh yl : Int) : Int := if xh = yh then cmpI xl yl else cmpI xh yh
def less128 (xh xl yh yl : Int) : Bool := decide (xh < yh) || ((xh == yh) && decide (xl < yl))
end Go.Proofs.Ytpgodmcpdgbhaaa.wideC
