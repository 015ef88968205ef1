/- Layer 10: headers that may not be. -/
import Derived.Test.YtgikoljnmmnkkaaTcpJ
namespace Go.Proofs.Ytgikoljnmmnkkaa.tcpK
open Go.ChangeShapes Go.WideShapes Go.ChangeAt Go.RowKit
open Go.Proofs.Ytgikoljnmmnkkaa.base Go.Proofs.Ytgikoljnmmnkkaa.sumA Go.Proofs.Ytgikoljnmmnkkaa.sumB Go.Proofs.Ytgikoljnmmnkkaa.octA Go.Proofs.Ytgikoljnmmnkkaa.octB Go.Proofs.Ytgikoljnmmnkkaa.octC Go.Proofs.Ytgikoljnmmnkkaa.octE Go.Proofs.Ytgikoljnmmnkkaa.octF Go.Proofs.Ytgikoljnmmnkkaa.octK Go.Proofs.Ytgikoljnmmnkkaa.rdrA Go.Proofs.Ytgikoljnmmnkkaa.udpA Go.Proofs.Ytgikoljnmmnkkaa.udpE Go.Proofs.Ytgikoljnmmnkkaa.tcpC Go.Proofs.Ytgikoljnmmnkkaa.tcpD Go.Proofs.Ytgikoljnmmnkkaa.tcpE Go.Proofs.Ytgikoljnmmnkkaa.tcpI Go.Proofs.Ytgikoljnmmnkkaa.tcpJ
set_option linter.unusedVariables false

/-- May a header be? -/
def okH (sp dp wn ur fl : Int) (no : Nat) : Prop := (0 ≤ sp ∧ sp ≤ 65535) ∧ (0 ≤ dp ∧ dp ≤ 65535) ∧ (0 ≤ wn ∧ wn ≤ 65535) ∧ (0 ≤ ur ∧ ur ≤ 65535) ∧ (0 ≤ fl ∧ fl ≤ 255) ∧ no ≤ 40 ∧ no % 4 = 0
theorem not_ok (sp dp wn ur fl : Int) (no : Nat) (h : ¬ okH sp dp wn ur fl no) : (sp < 0) ∨ (0 ≤ sp ∧ 65535 < sp) ∨ ((0 ≤ sp ∧ sp ≤ 65535) ∧ dp < 0) ∨ ((0 ≤ sp ∧ sp ≤ 65535) ∧ 0 ≤ dp ∧ 65535 < dp) ∨ ((0 ≤ sp ∧ sp ≤ 65535) ∧ (0 ≤ dp ∧ dp ≤ 65535) ∧ wn < 0) ∨ ((0 ≤ sp ∧ sp ≤ 65535) ∧ (0 ≤ dp ∧ dp ≤ 65535) ∧ 0 ≤ wn ∧ 65535 < wn) ∨ ((0 ≤ sp ∧ sp ≤ 65535) ∧ (0 ≤ dp ∧ dp ≤ 65535) ∧ (0 ≤ wn ∧ wn ≤ 65535) ∧ ur < 0) ∨ ((0 ≤ sp ∧ sp ≤ 65535) ∧ (0 ≤ dp ∧ dp ≤ 65535) ∧ (0 ≤ wn ∧ wn ≤ 65535) ∧ 0 ≤ ur ∧ 65535 < ur) ∨ ((0 ≤ sp ∧ sp ≤ 65535) ∧ (0 ≤ dp ∧ dp ≤ 65535) ∧ (0 ≤ wn ∧ wn ≤ 65535) ∧ (0 ≤ ur ∧ ur ≤ 65535) ∧ fl < 0) ∨ ((0 ≤ sp ∧ sp ≤ 65535) ∧ (0 ≤ dp ∧ dp ≤ 65535) ∧ (0 ≤ wn ∧ wn ≤ 65535) ∧ (0 ≤ ur ∧ ur ≤ 65535) ∧ 0 ≤ fl ∧ 255 < fl) ∨ ((0 ≤ sp ∧ sp ≤ 65535) ∧ (0 ≤ dp ∧ dp ≤ 65535) ∧ (0 ≤ wn ∧ wn ≤ 65535) ∧ (0 ≤ ur ∧ ur ≤ 65535) ∧ (0 ≤ fl ∧ fl ≤ 255) ∧ 40 < no) ∨ ((0 ≤ sp ∧ sp ≤ 65535) ∧ (0 ≤ dp ∧ dp ≤ 65535) ∧ (0 ≤ wn ∧ wn ≤ 65535) ∧ (0 ≤ ur ∧ ur ≤ 65535) ∧ (0 ≤ fl ∧ fl ≤ 255) ∧ no ≤ 40 ∧ no % 4 ≠ 0) := by
  have H := Lib.hid h
  clear h
  by_cases a0 : sp < 0
  · exact .inl a0
  by_cases b0 : 65535 < sp
  · exact .inr (.inl ⟨Int.not_lt.1 a0, b0⟩)
  by_cases a1 : dp < 0
  · exact .inr (.inr (.inl ⟨⟨Int.not_lt.1 a0, Int.not_lt.1 b0⟩, a1⟩))
  by_cases b1 : 65535 < dp
  · exact .inr (.inr (.inr (.inl ⟨⟨Int.not_lt.1 a0, Int.not_lt.1 b0⟩, Int.not_lt.1 a1, b1⟩)))
  by_cases a2 : wn < 0
  · exact .inr (.inr (.inr (.inr (.inl ⟨⟨Int.not_lt.1 a0, Int.not_lt.1 b0⟩, ⟨Int.not_lt.1 a1, Int.not_lt.1 b1⟩, a2⟩))))
  by_cases b2 : 65535 < wn
  · exact .inr (.inr (.inr (.inr (.inr (.inl ⟨⟨Int.not_lt.1 a0, Int.not_lt.1 b0⟩, ⟨Int.not_lt.1 a1, Int.not_lt.1 b1⟩, Int.not_lt.1 a2, b2⟩)))))
  by_cases a3 : ur < 0
  · exact .inr (.inr (.inr (.inr (.inr (.inr (.inl ⟨⟨Int.not_lt.1 a0, Int.not_lt.1 b0⟩, ⟨Int.not_lt.1 a1, Int.not_lt.1 b1⟩, ⟨Int.not_lt.1 a2, Int.not_lt.1 b2⟩, a3⟩))))))
  by_cases b3 : 65535 < ur
  · exact .inr (.inr (.inr (.inr (.inr (.inr (.inr (.inl ⟨⟨Int.not_lt.1 a0, Int.not_lt.1 b0⟩, ⟨Int.not_lt.1 a1, Int.not_lt.1 b1⟩, ⟨Int.not_lt.1 a2, Int.not_lt.1 b2⟩, Int.not_lt.1 a3, b3⟩)))))))
  by_cases a4 : fl < 0
  · exact .inr (.inr (.inr (.inr (.inr (.inr (.inr (.inr (.inl ⟨⟨Int.not_lt.1 a0, Int.not_lt.1 b0⟩, ⟨Int.not_lt.1 a1, Int.not_lt.1 b1⟩, ⟨Int.not_lt.1 a2, Int.not_lt.1 b2⟩, ⟨Int.not_lt.1 a3, Int.not_lt.1 b3⟩, a4⟩))))))))
  by_cases b4 : 255 < fl
  · exact .inr (.inr (.inr (.inr (.inr (.inr (.inr (.inr (.inr (.inl ⟨⟨Int.not_lt.1 a0, Int.not_lt.1 b0⟩, ⟨Int.not_lt.1 a1, Int.not_lt.1 b1⟩, ⟨Int.not_lt.1 a2, Int.not_lt.1 b2⟩, ⟨Int.not_lt.1 a3, Int.not_lt.1 b3⟩, Int.not_lt.1 a4, b4⟩)))))))))
  by_cases c0 : 40 < no
  · exact .inr (.inr (.inr (.inr (.inr (.inr (.inr (.inr (.inr (.inr (.inl ⟨⟨Int.not_lt.1 a0, Int.not_lt.1 b0⟩, ⟨Int.not_lt.1 a1, Int.not_lt.1 b1⟩, ⟨Int.not_lt.1 a2, Int.not_lt.1 b2⟩, ⟨Int.not_lt.1 a3, Int.not_lt.1 b3⟩, ⟨Int.not_lt.1 a4, Int.not_lt.1 b4⟩, c0⟩))))))))))
  exact .inr (.inr (.inr (.inr (.inr (.inr (.inr (.inr (.inr (.inr (.inr (⟨⟨Int.not_lt.1 a0, Int.not_lt.1 b0⟩, ⟨Int.not_lt.1 a1, Int.not_lt.1 b1⟩, ⟨Int.not_lt.1 a2, Int.not_lt.1 b2⟩, ⟨Int.not_lt.1 a3, Int.not_lt.1 b3⟩, ⟨Int.not_lt.1 a4, Int.not_lt.1 b4⟩, Nat.not_lt.1 c0, fun e => H.out ⟨⟨Int.not_lt.1 a0, Int.not_lt.1 b0⟩, ⟨Int.not_lt.1 a1, Int.not_lt.1 b1⟩, ⟨Int.not_lt.1 a2, Int.not_lt.1 b2⟩, ⟨Int.not_lt.1 a3, Int.not_lt.1 b3⟩, ⟨Int.not_lt.1 a4, Int.not_lt.1 b4⟩, Nat.not_lt.1 c0, e⟩⟩)))))))))))
end Go.Proofs.Ytgikoljnmmnkkaa.tcpK
