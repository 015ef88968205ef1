/- Layer 10: which headers may be, by the law; what came in, cut. -/
import Derived.Test.YtgikoljnmmnkkaaTcpE
import Derived.Test.YtgikoljnmmnkkaaTcpB
import Derived.Test.YtgikoljnmmnkkaaSumH
namespace Go.Proofs.Ytgikoljnmmnkkaa.tcpF
open Go.ChangeShapes Go.WideShapes Go.ChangeAt Go.RowKit
open Go.Proofs.Ytgikoljnmmnkkaa.base Go.Proofs.Ytgikoljnmmnkkaa.sumA Go.Proofs.Ytgikoljnmmnkkaa.sumB Go.Proofs.Ytgikoljnmmnkkaa.octA Go.Proofs.Ytgikoljnmmnkkaa.octB Go.Proofs.Ytgikoljnmmnkkaa.octC Go.Proofs.Ytgikoljnmmnkkaa.octE Go.Proofs.Ytgikoljnmmnkkaa.octF Go.Proofs.Ytgikoljnmmnkkaa.rdrA Go.Proofs.Ytgikoljnmmnkkaa.udpA Go.Proofs.Ytgikoljnmmnkkaa.udpE Go.Proofs.Ytgikoljnmmnkkaa.tcpC Go.Proofs.Ytgikoljnmmnkkaa.tcpD Go.Proofs.Ytgikoljnmmnkkaa.tcpE
set_option linter.unusedVariables false

def fourF (a b c d : Int) : Nat → Int
  | 0 => a
  | 1 => b
  | 2 => c
  | _ => d
theorem join_drop (l : List Int) (s : Nat) (h : 20 ≤ s) (hs : s ≤ l.length) : (l.take s).drop 20 ++ l.drop s = l.drop 20 := by
  have e : l.drop 20 = (l.take s ++ l.drop s).drop 20 := by rw [List.take_append_drop]
  rw [e, List.drop_append_of_le_length (by rw [List.length_take]; omega)]
theorem tb_len (l : List Int) (s : Nat) (h : 20 ≤ s) (hs : s ≤ l.length) (sp dp sq ak fl wn ur : Int) : (tb sp dp sq ak fl wn ur ((l.take s).drop 20) (l.drop s)).length = l.length := by
  simp [tb]
  omega
theorem getD_tb (l : List Int) (s : Nat) (h : 20 ≤ s) (hs : s ≤ l.length) (hx : ∀ x ∈ l, 0 ≤ x ∧ x ≤ 255) (h1 : l.getD 12 0 / 16 * 4 = (s : Int)) (h3 : l.getD 12 0 % 16 = 0) (i : Nat) (hi : i < l.length) (h6 : i ≠ 16) (h7 : i ≠ 17) :
    (tb (w16 l 0) (w16 l 2) (w32 l 4) (w32 l 8) (l.getD 13 0) (w16 l 14) (w16 l 18) ((l.take s).drop 20) (l.drop s)).getD i 0 = l.getD i 0 := by
  have b : ∀ j, 0 ≤ l.getD j 0 ∧ l.getD j 0 ≤ 255 := fun j => getD_in l hx j
  have hol : ((l.take s).drop 20).length = s - 20 := by rw [List.length_drop, List.length_take]; omega
  unfold tb
  rw [List.append_assoc, join_drop l s h hs, hol]
  rcases Nat.lt_or_ge i 20 with g | g
  · rw [List.getD_eq_getElem?_getD, List.getElem?_append_left (by simpa using g)]
    have b0 := b 0
    have b1 := b 1
    have b2 := b 2
    have b3 := b 3
    have b4 := b 4
    have b5 := b 5
    have b6 := b 6
    have b7 := b 7
    have b8 := b 8
    have b9 := b 9
    have b10 := b 10
    have b11 := b 11
    have b12 := b 12
    have b13 := b 13
    have b14 := b 14
    have b15 := b 15
    have b16 := b 16
    have b17 := b 17
    have b18 := b 18
    have b19 := b 19
    unfold w32 w16
    match i, g, h6, h7 with
    | 0, _, _, _ => show (l.getD 0 0 * 256 + l.getD 1 0) / 256 = _; omega
    | 1, _, _, _ => show (l.getD 0 0 * 256 + l.getD 1 0) % 256 = _; omega
    | 2, _, _, _ => show (l.getD 2 0 * 256 + l.getD 3 0) / 256 = _; omega
    | 3, _, _, _ => show (l.getD 2 0 * 256 + l.getD 3 0) % 256 = _; omega
    | 4, _, _, _ => show ((l.getD 4 0 * 256 + l.getD 5 0) * 65536 + (l.getD 6 0 * 256 + l.getD 7 0)) / 65536 / 256 = _; omega
    | 5, _, _, _ => show ((l.getD 4 0 * 256 + l.getD 5 0) * 65536 + (l.getD 6 0 * 256 + l.getD 7 0)) / 65536 % 256 = _; omega
    | 6, _, _, _ => show ((l.getD 4 0 * 256 + l.getD 5 0) * 65536 + (l.getD 6 0 * 256 + l.getD 7 0)) % 65536 / 256 = _; omega
    | 7, _, _, _ => show ((l.getD 4 0 * 256 + l.getD 5 0) * 65536 + (l.getD 6 0 * 256 + l.getD 7 0)) % 65536 % 256 = _; omega
    | 8, _, _, _ => show ((l.getD 8 0 * 256 + l.getD 9 0) * 65536 + (l.getD 10 0 * 256 + l.getD 11 0)) / 65536 / 256 = _; omega
    | 9, _, _, _ => show ((l.getD 8 0 * 256 + l.getD 9 0) * 65536 + (l.getD 10 0 * 256 + l.getD 11 0)) / 65536 % 256 = _; omega
    | 10, _, _, _ => show ((l.getD 8 0 * 256 + l.getD 9 0) * 65536 + (l.getD 10 0 * 256 + l.getD 11 0)) % 65536 / 256 = _; omega
    | 11, _, _, _ => show ((l.getD 8 0 * 256 + l.getD 9 0) * 65536 + (l.getD 10 0 * 256 + l.getD 11 0)) % 65536 % 256 = _; omega
    | 12, _, _, _ => show (5 + ((s - 20 : Nat) : Int) / 4) * 16 = _; omega
    | 13, _, _, _ => rfl
    | 14, _, _, _ => show (l.getD 14 0 * 256 + l.getD 15 0) / 256 = _; omega
    | 15, _, _, _ => show (l.getD 14 0 * 256 + l.getD 15 0) % 256 = _; omega
    | 16, _, h, _ => exact absurd rfl h
    | 17, _, _, h => exact absurd rfl h
    | 18, _, _, _ => show (l.getD 18 0 * 256 + l.getD 19 0) / 256 = _; omega
    | 19, _, _, _ => show (l.getD 18 0 * 256 + l.getD 19 0) % 256 = _; omega
    | m + 20, g, _, _ => omega
  · rw [List.getD_eq_getElem?_getD, List.getElem?_append_right (by simpa using g), List.getElem?_drop, List.getD_eq_getElem?_getD]
    congr 2
    show 20 + (i - 20) = i
    omega
end Go.Proofs.Ytgikoljnmmnkkaa.tcpF
