/- Layer 37: a bucket: what it has, what may go by. -/
import Derived.Test.YtpgodmcpdgbhaaaWideD
import Derived.Test.YtpgodmcpdgbhaaaKeep
import Derived.Test.YtpgodmcpdgbhaaaRow
import Derived.Deep.QuietTactic
import Derived.BigQuiet
namespace Go.Proofs.Ytpgodmcpdgbhaaa.rateA
open Go.ChangeShapes Go.WideShapes Go.ChangeAt Go.RowKit
open Go.Proofs.Ytpgodmcpdgbhaaa.base
set_option linter.unusedVariables false

section
variable {w w' : World} {g : Nat} {E M H N : Int}
end

theorem bcell {W w1 : World} (hb : Below W.heap.size W w1) : (∀ b o, b < W.heap.size → w1.cell? ⟨b, o, none⟩ = W.cell? ⟨b, o, none⟩) ∧ (∀ b o, b < W.heap.size → w1.frozen? ⟨b, o, none⟩ = W.frozen? ⟨b, o, none⟩) :=
  ⟨fun b o h => hb.cell (p := ⟨b, o, none⟩) h, fun b o h => hb.frozen (p := ⟨b, o, none⟩) h⟩
def rightB (E M : Int) : Bool := decide (0 ≤ E ∧ E ≤ 1099511627776 ∧ 1 ≤ M ∧ M ≤ 1099511627776)
end Go.Proofs.Ytpgodmcpdgbhaaa.rateA
