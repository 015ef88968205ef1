/- Layer 10: the law on segments that are put, walked where a header may be. -/
import Derived.Test.YtgikoljnmmnkkaaTcpN
namespace Go.Proofs.Ytgikoljnmmnkkaa.tcpO
open Go.ChangeShapes Go.WideShapes Go.ChangeAt Go.RowKit
open Go.Proofs.Ytgikoljnmmnkkaa.base Go.Proofs.Ytgikoljnmmnkkaa.sumA Go.Proofs.Ytgikoljnmmnkkaa.sumB Go.Proofs.Ytgikoljnmmnkkaa.octA Go.Proofs.Ytgikoljnmmnkkaa.octB Go.Proofs.Ytgikoljnmmnkkaa.octC Go.Proofs.Ytgikoljnmmnkkaa.octE Go.Proofs.Ytgikoljnmmnkkaa.octF Go.Proofs.Ytgikoljnmmnkkaa.octK Go.Proofs.Ytgikoljnmmnkkaa.rdrA Go.Proofs.Ytgikoljnmmnkkaa.udpA Go.Proofs.Ytgikoljnmmnkkaa.udpE Go.Proofs.Ytgikoljnmmnkkaa.tcpC Go.Proofs.Ytgikoljnmmnkkaa.tcpD Go.Proofs.Ytgikoljnmmnkkaa.tcpE Go.Proofs.Ytgikoljnmmnkkaa.tcpI Go.Proofs.Ytgikoljnmmnkkaa.tcpJ Go.Proofs.Ytgikoljnmmnkkaa.tcpF Go.Proofs.Ytgikoljnmmnkkaa.tcpK Go.Proofs.Ytgikoljnmmnkkaa.tcpL Go.Proofs.Ytgikoljnmmnkkaa.tcpM Go.Proofs.Ytgikoljnmmnkkaa.tcpN
set_option linter.unusedVariables false

end Go.Proofs.Ytgikoljnmmnkkaa.tcpO
