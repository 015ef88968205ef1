/- Layer 1: numbers of 128 bits. -/
import Derived.Test.YtanijccpbleekaaMixB
import Derived.Test.YtanijccpbleekaaBase
import Derived.Handy
namespace Go.Proofs.Ytanijccpbleekaa.wideA
open Go.ChangeShapes Go.WideShapes Go.ChangeAt Go.RowKit
open Go.Proofs.Ytanijccpbleekaa.base
set_option linter.unusedVariables false

end Go.Proofs.Ytanijccpbleekaa.wideA
