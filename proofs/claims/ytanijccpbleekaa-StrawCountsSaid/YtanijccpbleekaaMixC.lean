/- Layer 2: numbers of a generator, one by one. -/
import Derived.Test.YtanijccpbleekaaMixB
import Derived.Test.YtanijccpbleekaaBase
namespace Go.Proofs.Ytanijccpbleekaa.mixC
open Go.ChangeShapes Go.WideShapes Go.ChangeAt Go.RowKit
open Go.Proofs.Ytanijccpbleekaa.mixA Go.Proofs.Ytanijccpbleekaa.base
set_option linter.unusedVariables false

end Go.Proofs.Ytanijccpbleekaa.mixC
