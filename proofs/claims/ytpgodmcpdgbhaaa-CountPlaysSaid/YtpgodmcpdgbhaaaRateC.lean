/- Layer 37: the document's bucket; a step of both. -/
import Derived.Test.YtpgodmcpdgbhaaaRateB
namespace Go.Proofs.Ytpgodmcpdgbhaaa.rateC
open Go.ChangeShapes Go.WideShapes Go.ChangeAt Go.RowKit
open Go.Proofs.Ytpgodmcpdgbhaaa.base Go.Proofs.Ytpgodmcpdgbhaaa.rateA Go.Proofs.Ytpgodmcpdgbhaaa.rateB
set_option linter.unusedVariables false

section
variable {w w' : World} {g : Nat} {E M H N : Int}
end
theorem grown_one {w a : World} {g : Nat} (h : Below w.heap.size w a) (i : Nat) (v : Value) : w.grownBy (a.setCell ⟨g, i, none⟩ v) (some g) := by
  refine ⟨h.os, h.tape, h.output, by simpa using h.size, fun k hk hne => ?_⟩
  exact (Below.heap_setCell _ ⟨g, i, none⟩ v k (fun e => hne (by rw [e]))).trans (h.block k hk)
theorem grown_none {w a : World} {g : Nat} (h : Below w.heap.size w a) : w.grownBy a (some g) := ⟨h.os, h.tape, h.output, h.size, fun k hk _ => h.block k hk⟩
end Go.Proofs.Ytpgodmcpdgbhaaa.rateC
