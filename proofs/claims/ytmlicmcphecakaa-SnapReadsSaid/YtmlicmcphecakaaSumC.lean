/- Layer 4: checks, and the law on sums of two words. -/
import Derived.Test.YtmlicmcphecakaaSumB
import Derived.Test.YtmlicmcphecakaaKeep
namespace Go.Proofs.Ytmlicmcphecakaa.sumC
open Go.ChangeShapes Go.WideShapes Go.ChangeAt Go.RowKit
open Go.Proofs.Ytmlicmcphecakaa.base Go.Proofs.Ytmlicmcphecakaa.sumA Go.Proofs.Ytmlicmcphecakaa.sumB
set_option linter.unusedVariables false

theorem row_blk {w : World} {g : Nat} {t : TypeId} {cs : Array Value} (h : Blk w g t cs) : Row w w.heap.size (some ⟨g, 0, none⟩) cs.toList :=
  .inr ⟨g, 0, rfl, h.lt, fun i u hu => by rw [Nat.zero_add, h.cell i]; simpa using hu⟩

end Go.Proofs.Ytmlicmcphecakaa.sumC
