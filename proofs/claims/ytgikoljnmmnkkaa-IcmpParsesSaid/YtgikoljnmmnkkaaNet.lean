/- What the packages over octet and sum share: facts carried over a step. -/
import Derived.Test.YtgikoljnmmnkkaaTcpC
import Derived.Test.YtgikoljnmmnkkaaUdpJ
import Derived.Test.YtgikoljnmmnkkaaOctK
import Derived.Test.YtgikoljnmmnkkaaTcpL
import Derived.Test.YtgikoljnmmnkkaaTcpN
import Derived.Test.YtgikoljnmmnkkaaTcpR
import Derived.Test.YtgikoljnmmnkkaaUdpH
import Derived.Test.YtgikoljnmmnkkaaSumI
namespace Go.Proofs.Ytgikoljnmmnkkaa.net
open Go.ChangeShapes Go.WideShapes Go.ChangeAt Go.RowKit
open Go.Proofs.Ytgikoljnmmnkkaa.base Go.Proofs.Ytgikoljnmmnkkaa.octA Go.Proofs.Ytgikoljnmmnkkaa.octB Go.Proofs.Ytgikoljnmmnkkaa.octC Go.Proofs.Ytgikoljnmmnkkaa.octE Go.Proofs.Ytgikoljnmmnkkaa.octF Go.Proofs.Ytgikoljnmmnkkaa.rdrA Go.Proofs.Ytgikoljnmmnkkaa.udpA Go.Proofs.Ytgikoljnmmnkkaa.udpE Go.Proofs.Ytgikoljnmmnkkaa.tcpC
set_option linter.unusedVariables false

section
variable {w w' : World}
theorem Rdr_keep {B g : Nat} {l : List Int} (h : Rdr w B g l) (hB : B ≤ w.heap.size) (hb : Below w.heap.size w w') : Rdr w' B g l := h.below hb hB h.lt
theorem only_own {g n base : Nat} {e : TypeId} {v : Value} {xs : List Value} (h : Only g w w') (ho : w.ownsRow base e 1 v n xs) (hg : g < base) : w'.ownsRow base e 1 v n xs := by
  obtain ⟨u, rfl⟩ := h
  exact own_far ho ⟨g, 0, none⟩ hg u
end
end Go.Proofs.Ytgikoljnmmnkkaa.net
