/- Layer 10: the law on segments that are put: what its walk wants, and headers that may not be. -/
import Derived.Test.YtgikoljnmmnkkaaTcpM
import Derived.Test.YtgikoljnmmnkkaaTcpH
namespace Go.Proofs.Ytgikoljnmmnkkaa.tcpN
open Go.ChangeShapes Go.WideShapes Go.ChangeAt Go.RowKit
open Go.Proofs.Ytgikoljnmmnkkaa.base Go.Proofs.Ytgikoljnmmnkkaa.sumA Go.Proofs.Ytgikoljnmmnkkaa.sumB Go.Proofs.Ytgikoljnmmnkkaa.octA Go.Proofs.Ytgikoljnmmnkkaa.octB Go.Proofs.Ytgikoljnmmnkkaa.octC Go.Proofs.Ytgikoljnmmnkkaa.octE Go.Proofs.Ytgikoljnmmnkkaa.octF Go.Proofs.Ytgikoljnmmnkkaa.octK Go.Proofs.Ytgikoljnmmnkkaa.rdrA Go.Proofs.Ytgikoljnmmnkkaa.udpA Go.Proofs.Ytgikoljnmmnkkaa.udpE Go.Proofs.Ytgikoljnmmnkkaa.tcpC Go.Proofs.Ytgikoljnmmnkkaa.tcpD Go.Proofs.Ytgikoljnmmnkkaa.tcpE Go.Proofs.Ytgikoljnmmnkkaa.tcpI Go.Proofs.Ytgikoljnmmnkkaa.tcpJ Go.Proofs.Ytgikoljnmmnkkaa.tcpF Go.Proofs.Ytgikoljnmmnkkaa.tcpK Go.Proofs.Ytgikoljnmmnkkaa.tcpL Go.Proofs.Ytgikoljnmmnkkaa.tcpM
set_option linter.unusedVariables false

theorem lies_own {w : World} {base g n c : Nat} {l : List Int} (h : w.ownsRow base 5 1 (.slice (some ⟨g, 0, none⟩) n c) n (l.map (.int .u8))) (hl : l.length = n) : Lies w g 0 l := fun i hi => by
  rw [Nat.zero_add, h.cellAt i (by omega), List.getElem?_map, List.getElem?_eq_getElem hi, List.getD_eq_getElem?_getD, List.getElem?_eq_getElem hi]
  rfl
theorem tk_in (sp dp sq ak fl wn ur : Int) (ck : Int) (os pl : List Int) (h1 : 0 ≤ sp) (h2 : sp ≤ 65535) (h3 : 0 ≤ dp) (h4 : dp ≤ 65535) (h5 : 0 ≤ sq) (h6 : sq ≤ 4294967295) (h7 : 0 ≤ ak) (h8 : ak ≤ 4294967295) (h9 : 0 ≤ fl) (h10 : fl ≤ 255) (h11 : 0 ≤ wn) (h12 : wn ≤ 65535) (h13 : 0 ≤ ur) (h14 : ur ≤ 65535) (c0 : 0 ≤ ck) (c1 : ck ≤ 65535) (ho : os.length ≤ 40) (b1 : ∀ x ∈ os, 0 ≤ x ∧ x ≤ 255) (b2 : ∀ x ∈ pl, 0 ≤ x ∧ x ≤ 255) :
    ∀ x ∈ tk sp dp sq ak fl wn ur ck os pl, 0 ≤ x ∧ x ≤ 255 := by
  intro x hx
  unfold tk at hx
  rcases List.mem_append.1 hx with hx | hx
  · clear b1 b2
    simp only [List.mem_cons, List.not_mem_nil, or_false] at hx
    rcases hx with rfl | rfl | rfl | rfl | rfl | rfl | rfl | rfl | rfl | rfl | rfl | rfl | rfl | rfl | rfl | rfl | rfl | rfl | rfl | rfl <;> omega
  · exact (List.mem_append.1 hx).elim (b1 x) (b2 x)
end Go.Proofs.Ytgikoljnmmnkkaa.tcpN
