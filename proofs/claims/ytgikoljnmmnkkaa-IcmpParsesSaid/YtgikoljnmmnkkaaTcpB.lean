/- Layer 10: the law on flags. -/
import Derived.Test.YtgikoljnmmnkkaaTcpA
namespace Go.Proofs.Ytgikoljnmmnkkaa.tcpB
open Go.ChangeShapes Go.WideShapes Go.ChangeAt Go.RowKit
open Go.Proofs.Ytgikoljnmmnkkaa.base Go.Proofs.Ytgikoljnmmnkkaa.connA Go.Proofs.Ytgikoljnmmnkkaa.tcpA
set_option linter.unusedVariables false

def opensB (f : Int) : Bool := hasB f 2 && (bits .and .i64 f 21 == 0)
end Go.Proofs.Ytgikoljnmmnkkaa.tcpB
