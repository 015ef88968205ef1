/- Layer 2: numbers of a generator, one by one. -/
import Derived.Test.YtmlfpfmpoigfiaaMixB
import Derived.Test.YtmlfpfmpoigfiaaBase
namespace Go.Proofs.Ytmlfpfmpoigfiaa.mixC
open Go.ChangeShapes Go.WideShapes Go.ChangeAt Go.RowKit
open Go.Proofs.Ytmlfpfmpoigfiaa.mixA Go.Proofs.Ytmlfpfmpoigfiaa.base
set_option linter.unusedVariables false

end Go.Proofs.Ytmlfpfmpoigfiaa.mixC
