/- Layer 11: the law on bytes that are parsed, walked where all is right, or the sum is not. -/
import Derived.Test.YtgikoljnmmnkkaaUdpF
namespace Go.Proofs.Ytgikoljnmmnkkaa.udpG
open Go.ChangeShapes Go.WideShapes Go.ChangeAt Go.RowKit
open Go.Proofs.Ytgikoljnmmnkkaa.base Go.Proofs.Ytgikoljnmmnkkaa.sumA Go.Proofs.Ytgikoljnmmnkkaa.sumB Go.Proofs.Ytgikoljnmmnkkaa.octA Go.Proofs.Ytgikoljnmmnkkaa.octB Go.Proofs.Ytgikoljnmmnkkaa.octC Go.Proofs.Ytgikoljnmmnkkaa.octE Go.Proofs.Ytgikoljnmmnkkaa.octF Go.Proofs.Ytgikoljnmmnkkaa.rdrA Go.Proofs.Ytgikoljnmmnkkaa.udpA Go.Proofs.Ytgikoljnmmnkkaa.udpB Go.Proofs.Ytgikoljnmmnkkaa.udpD Go.Proofs.Ytgikoljnmmnkkaa.udpE Go.Proofs.Ytgikoljnmmnkkaa.udpF
set_option linter.unusedVariables false

end Go.Proofs.Ytgikoljnmmnkkaa.udpG
