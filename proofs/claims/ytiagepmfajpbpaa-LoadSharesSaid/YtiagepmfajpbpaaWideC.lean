/- Layer 1: numbers of 128 bits compared. -/
import Derived.Test.YtiagepmfajpbpaaWideB
namespace Go.Proofs.Ytiagepmfajpbpaa.wideC
open Go.ChangeShapes Go.WideShapes Go.ChangeAt Go.RowKit
open Go.Proofs.Ytiagepmfajpbpaa.base
set_option linter.unusedVariables false

def cmpI (x y : Int) : Int := if x < y then -1 else if y < x then 1 else 0
def cmp128 (xh xl yh yl : Int) : Int := if xh = yh then cmpI xl yl else cmpI xh yh
def less128 (xh xl yh yl : Int) : Bool := decide (xh < yh) || ((xh == yh) && decide (xl < yl))
end Go.Proofs.Ytiagepmfajpbpaa.wideC
