/- Layer 10: a segment as bytes. -/
import Derived.Test.YtgikoljnmmnkkaaTcpI
import Derived.Test.YtgikoljnmmnkkaaSumI
namespace Go.Proofs.Ytgikoljnmmnkkaa.tcpJ
open Go.ChangeShapes Go.WideShapes Go.ChangeAt Go.RowKit
open Go.Proofs.Ytgikoljnmmnkkaa.base Go.Proofs.Ytgikoljnmmnkkaa.sumA Go.Proofs.Ytgikoljnmmnkkaa.sumB Go.Proofs.Ytgikoljnmmnkkaa.octA Go.Proofs.Ytgikoljnmmnkkaa.octB Go.Proofs.Ytgikoljnmmnkkaa.octC Go.Proofs.Ytgikoljnmmnkkaa.octE Go.Proofs.Ytgikoljnmmnkkaa.octF Go.Proofs.Ytgikoljnmmnkkaa.octK Go.Proofs.Ytgikoljnmmnkkaa.rdrA Go.Proofs.Ytgikoljnmmnkkaa.udpA Go.Proofs.Ytgikoljnmmnkkaa.udpE Go.Proofs.Ytgikoljnmmnkkaa.tcpC Go.Proofs.Ytgikoljnmmnkkaa.tcpD Go.Proofs.Ytgikoljnmmnkkaa.tcpE Go.Proofs.Ytgikoljnmmnkkaa.tcpI
set_option linter.unusedVariables false

/-- A header, its check 0, with its options. -/
def hd0 (sp dp sq ak fl wn ur : Int) (os : List Int) : List Int :=
  allb 2 [sp, dp] ++ allb 4 [sq, ak] ++ allb 1 [(20 + (os.length : Int)) / 4 * 16, fl] ++ allb 2 [wn, 0, ur] ++ os
theorem hd0_len (sp dp sq ak fl wn ur : Int) (os : List Int) : (hd0 sp dp sq ak fl wn ur os).length = 20 + os.length := by
  simp only [hd0, List.length_append, allb_len, List.length_cons, List.length_nil]
theorem hd0_in (sp dp sq ak fl wn ur : Int) (os : List Int) (h : ∀ x ∈ os, 0 ≤ x ∧ x ≤ 255) : ∀ x ∈ hd0 sp dp sq ak fl wn ur os, 0 ≤ x ∧ x ≤ 255 := by
  intro x hx
  unfold hd0 at hx
  rw [List.mem_append, List.mem_append, List.mem_append, List.mem_append] at hx
  rcases hx with (((hx | hx) | hx) | hx) | hx
  · exact allb_in _ _ x hx
  · exact allb_in _ _ x hx
  · exact allb_in _ _ x hx
  · exact allb_in _ _ x hx
  · exact h x hx
def BPost (w : World) (l : List Int) (e : Ending) (w' : World) : Prop :=
  ∃ v, e = .returned (.tuple #[v, .int .i64 0]) ∧ w'.ownsRow w.heap.size 5 1 v l.length (l.map (.int .u8)) ∧ Below w.heap.size w w'
end Go.Proofs.Ytgikoljnmmnkkaa.tcpJ
