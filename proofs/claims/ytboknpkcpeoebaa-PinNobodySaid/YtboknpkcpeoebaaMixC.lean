/- Layer 2: numbers of a generator, one by one. -/
import Derived.Test.YtboknpkcpeoebaaMixB
import Derived.Test.YtboknpkcpeoebaaBase
namespace Go.Proofs.Ytboknpkcpeoebaa.mixC
open Go.ChangeShapes Go.WideShapes Go.ChangeAt Go.RowKit
open Go.Proofs.Ytboknpkcpeoebaa.mixA Go.Proofs.Ytboknpkcpeoebaa.base
set_option linter.unusedVariables false

end Go.Proofs.Ytboknpkcpeoebaa.mixC
