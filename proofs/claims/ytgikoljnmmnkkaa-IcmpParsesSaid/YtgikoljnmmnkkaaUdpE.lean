/- Layer 11: the law on bytes that are parsed, walked. -/
import Derived.Test.YtgikoljnmmnkkaaUdpD
namespace Go.Proofs.Ytgikoljnmmnkkaa.udpE
open Go.ChangeShapes Go.WideShapes Go.ChangeAt Go.RowKit
open Go.Proofs.Ytgikoljnmmnkkaa.base Go.Proofs.Ytgikoljnmmnkkaa.sumA Go.Proofs.Ytgikoljnmmnkkaa.sumB Go.Proofs.Ytgikoljnmmnkkaa.octA Go.Proofs.Ytgikoljnmmnkkaa.octB Go.Proofs.Ytgikoljnmmnkkaa.octC Go.Proofs.Ytgikoljnmmnkkaa.octE Go.Proofs.Ytgikoljnmmnkkaa.octF Go.Proofs.Ytgikoljnmmnkkaa.rdrA Go.Proofs.Ytgikoljnmmnkkaa.udpA Go.Proofs.Ytgikoljnmmnkkaa.udpB Go.Proofs.Ytgikoljnmmnkkaa.udpD
set_option linter.unusedVariables false

theorem own_keep {w w' : World} {base n : Nat} {e : TypeId} {v : Value} {xs : List Value} (h : w.ownsRow base e 1 v n xs) (hb : Below w.heap.size w w') : w'.ownsRow base e 1 v n xs := by
  refine ⟨h.1, ?_⟩
  rcases h.2 with hn | ⟨g, cap, cur, rfl, hg, hgg, rest⟩
  · exact .inl hn
  · exact .inr ⟨g, cap, cur, rfl, hg, (hb.block g (Array.getElem?_eq_some_iff.1 hgg).1).trans hgg, rest⟩
theorem bneT {a b : Int} (h : a ≠ b) : (a != b) = true := by simpa using h
theorem bneF {a b : Int} (h : a = b) : (a != b) = false := by subst h; simp
theorem eqT {a b : Int} (h : a = b) : (a == b) = true := by simpa using h
theorem eqF {a b : Int} (h : a ≠ b) : (a == b) = false := by simpa using h
theorem getD_ub (l : List Int) (h8 : 8 ≤ l.length) (hx : ∀ x ∈ l, 0 ≤ x ∧ x ≤ 255) (hn : l.length ≤ 65535) (h4 : w16 l 4 = l.length) (i : Nat) (hi : i < l.length) (h6 : i ≠ 6) (h7 : i ≠ 7) :
    (ub (w16 l 0) (w16 l 2) (l.drop 8) 0).getD i 0 = l.getD i 0 := by
  have b : ∀ j, 0 ≤ l.getD j 0 ∧ l.getD j 0 ≤ 255 := fun j => getD_in l hx j
  have k0 := w16_in l hx 0
  have k2 := w16_in l hx 2
  have e8 : ((8 + (l.drop 8).length : Nat) : Int) = w16 l 4 := by rw [h4, List.length_drop]; omega
  rw [ub_eight _ _ _ ⟨k0.1, k0.2, k2.1, k2.2⟩ (by rw [List.length_drop]; omega), e8]
  rcases Nat.lt_or_ge i 8 with g | g
  · have b0 := b 0
    have b1 := b 1
    have b2 := b 2
    have b3 := b 3
    have b4 := b 4
    have b5 := b 5
    rw [List.getD_eq_getElem?_getD, List.getElem?_append_left (by simpa using g)]
    unfold w16
    match i, g, h6, h7 with
    | 0, _, _, _ => show (l.getD 0 0 * 256 + l.getD 1 0) / 256 = _; omega
    | 1, _, _, _ => show (l.getD 0 0 * 256 + l.getD 1 0) % 256 = _; omega
    | 2, _, _, _ => show (l.getD 2 0 * 256 + l.getD 3 0) / 256 = _; omega
    | 3, _, _, _ => show (l.getD 2 0 * 256 + l.getD 3 0) % 256 = _; omega
    | 4, _, _, _ => show (l.getD 4 0 * 256 + l.getD 5 0) / 256 = _; omega
    | 5, _, _, _ => show (l.getD 4 0 * 256 + l.getD 5 0) % 256 = _; omega
    | 6, _, h, _ => exact absurd rfl h
    | 7, _, _, h => exact absurd rfl h
  · rw [List.getD_eq_getElem?_getD, List.getElem?_append_right (by simpa using g), List.getElem?_drop, List.getD_eq_getElem?_getD]
    congr 2
    show 8 + (i - 8) = i
    omega
theorem w16_zero (l : List Int) (hx : ∀ x ∈ l, 0 ≤ x ∧ x ≤ 255) : w16 l 6 = 0 ↔ l.getD 6 0 = 0 ∧ l.getD 7 0 = 0 := by
  have a := getD_in l hx 6
  have b := getD_in l hx 7
  show l.getD 6 0 * 256 + l.getD 7 0 = 0 ↔ _
  omega
end Go.Proofs.Ytgikoljnmmnkkaa.udpE
