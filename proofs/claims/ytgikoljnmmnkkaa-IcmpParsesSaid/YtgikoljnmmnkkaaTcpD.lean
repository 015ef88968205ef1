/- Layer 10: bytes as the segment that they are. -/
import Derived.Test.YtgikoljnmmnkkaaTcpC
import Derived.Test.YtgikoljnmmnkkaaUdpE
namespace Go.Proofs.Ytgikoljnmmnkkaa.tcpD
open Go.ChangeShapes Go.WideShapes Go.ChangeAt Go.RowKit
open Go.Proofs.Ytgikoljnmmnkkaa.base Go.Proofs.Ytgikoljnmmnkkaa.sumA Go.Proofs.Ytgikoljnmmnkkaa.sumB Go.Proofs.Ytgikoljnmmnkkaa.octA Go.Proofs.Ytgikoljnmmnkkaa.octB Go.Proofs.Ytgikoljnmmnkkaa.octC Go.Proofs.Ytgikoljnmmnkkaa.octF Go.Proofs.Ytgikoljnmmnkkaa.rdrA Go.Proofs.Ytgikoljnmmnkkaa.udpA Go.Proofs.Ytgikoljnmmnkkaa.udpE Go.Proofs.Ytgikoljnmmnkkaa.tcpC
set_option linter.unusedVariables false

theorem and15 (y : Int) (h0 : 0 ≤ y) (h1 : y ≤ 255) : bits .and .u8 y 15 = y % 16 := by
  obtain ⟨n, rfl⟩ := Int.eq_ofNat_of_zero_le h0
  have hn : n < 256 := by omega
  have h : ∀ n : Fin 256, bits .and .u8 ((n.val : Nat) : Int) 15 = ((n.val : Nat) : Int) % 16 := by decide +kernel
  exact h ⟨n, hn⟩
def errt (k : Int) : Value := .tuple #[.agg #[.int .i64 0, .int .i64 0, .int .u32 0, .int .u32 0, .int .i64 0, .int .i64 0, .int .i64 0, .slice none 0 0], .slice none 0 0, .int .i64 k]
def OkPost (w : World) (l : List Int) (s : Nat) (e : Ending) (w' : World) : Prop :=
  ∃ A c v, e = .returned (.tuple #[.agg #[.int .i64 (w16 l 0), .int .i64 (w16 l 2), .int .u32 (w32 l 4), .int .u32 (w32 l 8), .int .i64 (l.getD 13 0), .int .i64 (w16 l 14), .int .i64 (w16 l 18), .slice A (s - 20) c], v, .int .i64 0]) ∧ (A = none → c = 0) ∧ w'.ownsRow w.heap.size 5 1 (.slice A (s - 20) c) (s - 20) (((l.take s).drop 20).map (.int .u8)) ∧ w'.ownsRow w.heap.size 5 1 v (l.length - s) ((l.drop s).map (.int .u8)) ∧ Below w.heap.size w w'
theorem getD_take (l : List Int) (s i : Nat) (h : i < s) : (l.take s).getD i 0 = l.getD i 0 := by
  rw [List.getD_eq_getElem?_getD, List.getD_eq_getElem?_getD, List.getElem?_take, if_pos h]
theorem w16_take (l : List Int) (s i : Nat) (h : i + 1 < s) : w16 (l.take s) i = w16 l i := by
  unfold w16
  rw [getD_take l s i (by omega), getD_take l s (i + 1) h]
theorem w32_take (l : List Int) (s i : Nat) (h : i + 3 < s) : w32 (l.take s) i = w32 l i := by
  unfold w32
  rw [w16_take l s i (by omega), w16_take l s (i + 2) (by omega)]
theorem take_u8 {l : List Int} (h : ∀ x ∈ l, 0 ≤ x ∧ x ≤ 255) (k : Nat) : ∀ x ∈ l.take k, 0 ≤ x ∧ x ≤ 255 := fun x hx => h x (List.mem_of_mem_take hx)
end Go.Proofs.Ytgikoljnmmnkkaa.tcpD
