/- Layer 11: bytes as a datagram. -/
import Derived.Test.YtmlicmcphecakaaRdrA
import Derived.Test.YtmlicmcphecakaaOctF
import Derived.Test.YtmlicmcphecakaaSumC
import Derived.Deep.RegionHeld3
namespace Go.Proofs.Ytmlicmcphecakaa.udpA
open Go.ChangeShapes Go.WideShapes Go.ChangeAt Go.RowKit
open Go.Proofs.Ytmlicmcphecakaa.base Go.Proofs.Ytmlicmcphecakaa.sumA Go.Proofs.Ytmlicmcphecakaa.sumB Go.Proofs.Ytmlicmcphecakaa.octA Go.Proofs.Ytmlicmcphecakaa.octB Go.Proofs.Ytmlicmcphecakaa.octC Go.Proofs.Ytmlicmcphecakaa.octF Go.Proofs.Ytmlicmcphecakaa.rdrA
set_option linter.unusedVariables false

def w16 (l : List Int) (i : Nat) : Int := l.getD i 0 * 256 + l.getD (i + 1) 0
theorem atN_two (l : List Int) (i : Nat) : atN (l.drop i) 0 2 = w16 l i := by
  have e : ∀ j, (l.drop i).getD j 0 = l.getD (i + j) 0 := fun j => by
    rw [List.getD_eq_getElem?_getD, List.getD_eq_getElem?_getD, List.getElem?_drop]
  show (0 * 256 + (l.drop i).getD (0 + 0) 0) * 256 + (l.drop i).getD (0 + 1) 0 = _
  rw [e, e]
  simp [w16]
theorem w16_in (l : List Int) (hb : ∀ x ∈ l, 0 ≤ x ∧ x ≤ 255) (i : Nat) : 0 ≤ w16 l i ∧ w16 l i ≤ 65535 := by
  have a := getD_in l hb i
  have b := getD_in l hb (i + 1)
  unfold w16
  omega
theorem row2 {w : World} {g : Nat} {t : TypeId} {a b : Value} (h : Blk w g t #[a, b]) : Row w w.heap.size (some ⟨g, 0, none⟩) [a, b] := Go.Proofs.Ytmlicmcphecakaa.sumC.row_blk h
theorem two {w W : World} {A1 A2 : Option Addr} {n1 n2 c1 c2 : Nat} {l1 l2 : List Int} (h1 : l1.length = n1) (h2 : l2.length = n2)
    (r1 : Row w w.heap.size A1 (l1.map (.int .u8))) (r2 : Row w w.heap.size A2 (l2.map (.int .u8)))
    (b1 : ∀ x ∈ l1, 0 ≤ x ∧ x ≤ 255) (b2 : ∀ x ∈ l2, 0 ≤ x ∧ x ≤ 255) (hb : Below w.heap.size w W) (t : TypeId) :
    Row (W.alloc (.cells #[.slice A1 n1 c1, .slice A2 n2 c2] t)) (W.heap.size + 1) (some ⟨W.heap.size, 0, none⟩) (([⟨A1, c1, l1⟩, ⟨A2, c2, l2⟩] : List Part).map Part.val) ∧
      ∀ p ∈ ([⟨A1, c1, l1⟩, ⟨A2, c2, l2⟩] : List Part), p.ok (W.alloc (.cells #[.slice A1 n1 c1, .slice A2 n2 c2] t)) (W.heap.size + 1) := by
  subst h1 h2
  have hs := hb.size
  refine ⟨(row2 (Blk.new W t _)).more (by simp), fun p hp => ?_⟩
  have hb2 := hb.alloc hs (.cells #[.slice A1 l1.length c1, .slice A2 l2.length c2] t)
  simp only [List.mem_cons, List.not_mem_nil, or_false] at hp
  rcases hp with rfl | rfl
  · exact ⟨(r1.below hb2).more (by omega), b1⟩
  · exact ⟨(r2.below hb2).more (by omega), b2⟩
theorem drop_u8 {l : List Int} (h : ∀ x ∈ l, 0 ≤ x ∧ x ≤ 255) (k : Nat) : ∀ x ∈ l.drop k, 0 ≤ x ∧ x ≤ 255 := fun x hx => h x (List.mem_of_mem_drop hx)
/-- The next number of two bytes, at the place i of all bytes. -/
def TwoPost (w : World) (B g i : Nat) (l : List Int) (e : Ending) (w' : World) : Prop :=
  e = .returned (.int .u64 (w16 l i)) ∧ Rdr w' B g (l.drop (i + 2)) ∧ Only g w w'
theorem num_two (B g i : Nat) (l : List Int) (w : World) (hB : B ≤ g) (h : Rdr w B g (l.drop i)) (hk : i + 2 ≤ l.length) (hb : ∀ x ∈ l, 0 ≤ x ∧ x ≤ 255) :
    Calls Try.prog 18 #[.pointer (some ⟨g, 0, none⟩), .int .i64 2] w (TwoPost w B g i l) := by
  refine (num_any B g 2 (l.drop i) w hB h (by rw [List.length_drop]; omega) (by omega) (drop_u8 hb i)).mono ?_
  rintro e w' ⟨rfl, h1, h2⟩
  exact ⟨by rw [atN_two], by rwa [List.drop_drop] at h1, h2⟩
def errv (k : Int) : Value := .tuple #[.agg #[.int .i64 0, .int .i64 0, .bool false], .slice none 0 0, .int .i64 k]
def bad (l ps : List Int) (bare : Bool) : Prop := (w16 l 6 = 0 ∧ bare = false) ∨ (w16 l 6 ≠ 0 ∧ fo (wsum (ps ++ l)) ≠ 65535)
def ParsePost (w : World) (l ps : List Int) (bare : Bool) (e : Ending) (w' : World) : Prop :=
  (w16 l 4 ≠ l.length → e = .returned (errv 12) ∧ Below w.heap.size w w') ∧
  (w16 l 4 = l.length → bad l ps bare → e = .returned (errv 13) ∧ Below w.heap.size w w') ∧
  (w16 l 4 = l.length → ¬ bad l ps bare → ∃ v, e = .returned (.tuple #[.agg #[.int .i64 (w16 l 0), .int .i64 (w16 l 2), .bool (w16 l 6 == 0)], v, .int .i64 0]) ∧ w'.ownsRow w.heap.size 5 1 v (l.length - 8) ((l.drop 8).map (.int .u8)) ∧ Below w.heap.size w w')
theorem keepK {w w' : World} {p1 p2 p3 : Addr} {v1 v2 v3 : Value} (h : w.cell? p1 = some v1 ∧ w.cell? p2 = some v2 ∧ w.cell? p3 = some v3) (hb : Below w.heap.size w w') : w'.cell? p1 = some v1 ∧ w'.cell? p2 = some v2 ∧ w'.cell? p3 = some v3 :=
  ⟨kept h.1 hb, kept h.2.1 hb, kept h.2.2 hb⟩
theorem far1 {w : World} {x g : Nat} (hx : ¬ x = g) (i j : Nat) (u : Value) : (w.setCell ⟨g, j, none⟩ u).cell? ⟨x, i, none⟩ = w.cell? ⟨x, i, none⟩ := World.cell?_setCell_far w ⟨g, j, none⟩ ⟨x, i, none⟩ u (fun e => hx e.symm)
theorem farK {w : World} {x g : Nat} {v1 v2 v3 : Value} (hx : ¬ x = g) (h : w.cell? ⟨x, 0, none⟩ = some v1 ∧ w.cell? ⟨x, 1, none⟩ = some v2 ∧ w.cell? ⟨x, 2, none⟩ = some v3) (a b c : Value) :
    (((w.setCell ⟨g, 0, none⟩ a).setCell ⟨g, 1, none⟩ b).setCell ⟨g, 2, none⟩ c).cell? ⟨x, 0, none⟩ = some v1 ∧ (((w.setCell ⟨g, 0, none⟩ a).setCell ⟨g, 1, none⟩ b).setCell ⟨g, 2, none⟩ c).cell? ⟨x, 1, none⟩ = some v2 ∧ (((w.setCell ⟨g, 0, none⟩ a).setCell ⟨g, 1, none⟩ b).setCell ⟨g, 2, none⟩ c).cell? ⟨x, 2, none⟩ = some v3 := by
  rw [far1 hx, far1 hx, far1 hx, far1 hx, far1 hx, far1 hx, far1 hx, far1 hx, far1 hx]
  exact h
end Go.Proofs.Ytmlicmcphecakaa.udpA
