/- Layer 2: numbers of a generator, one by one. -/
import Derived.Test.YtjlochieddhmpaaMixB
import Derived.Test.YtjlochieddhmpaaBase
namespace Go.Proofs.Ytjlochieddhmpaa.mixC
open Go.ChangeShapes Go.WideShapes Go.ChangeAt Go.RowKit
open Go.Proofs.Ytjlochieddhmpaa.mixA Go.Proofs.Ytjlochieddhmpaa.base
set_option linter.unusedVariables false

end Go.Proofs.Ytjlochieddhmpaa.mixC
