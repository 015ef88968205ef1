/- Layer 11: the example, the law's bytes of a datagram. -/
import Derived.Test.YtgikoljnmmnkkaaUdpC
import Derived.Test.YtgikoljnmmnkkaaSumH
namespace Go.Proofs.Ytgikoljnmmnkkaa.udpD
open Go.ChangeShapes Go.WideShapes Go.ChangeAt Go.RowKit
open Go.Proofs.Ytgikoljnmmnkkaa.base Go.Proofs.Ytgikoljnmmnkkaa.sumA Go.Proofs.Ytgikoljnmmnkkaa.sumB Go.Proofs.Ytgikoljnmmnkkaa.octA Go.Proofs.Ytgikoljnmmnkkaa.octB Go.Proofs.Ytgikoljnmmnkkaa.octC Go.Proofs.Ytgikoljnmmnkkaa.octE Go.Proofs.Ytgikoljnmmnkkaa.octF Go.Proofs.Ytgikoljnmmnkkaa.rdrA Go.Proofs.Ytgikoljnmmnkkaa.udpA Go.Proofs.Ytgikoljnmmnkkaa.udpB
set_option linter.unusedVariables false

theorem pb_two (x : Int) (h0 : 0 ≤ x) (h1 : x ≤ 65535) : pb x 2 2 = [x / 256, x % 256] := by
  show [byteZ x (2 - 1 - 0), byteZ x (2 - 1 - 1)] = _
  unfold byteZ
  have a : x / 2 ^ (8 * (2 - 1 - 0)) = x / 256 := rfl
  have b : x / 2 ^ (8 * (2 - 1 - 1)) = x := by show x / 1 = x; omega
  rw [a, b]
  congr 1
  omega
theorem ub_eight (sp dp : Int) (pl : List Int) (h : ports sp dp) (hn : pl.length ≤ 65527) : ub sp dp pl 0 = [sp / 256, sp % 256, dp / 256, dp % 256, ((8 + pl.length : Nat) : Int) / 256, ((8 + pl.length : Nat) : Int) % 256, 0, 0] ++ pl := by
  obtain ⟨h1, h2, h3, h4⟩ := h
  rw [ub_zero]
  simp only [allb, List.flatMap_cons, List.flatMap_nil]
  rw [pb_two sp h1 h2, pb_two dp h3 h4, pb_two _ (by omega) (by omega)]
  rfl
def LBPost (w : World) (n : Nat) (l : List Int) (e : Ending) (w' : World) : Prop :=
  ∃ v, e = .returned v ∧ w'.ownsRow w.heap.size 5 1 v n (l.map (.int .u8)) ∧ Below w.heap.size w w'
end Go.Proofs.Ytgikoljnmmnkkaa.udpD
