/- Slices of nodes that came in. -/
import Derived.Test.YtamndmlaikgogaaOpenRows
import Derived.Test.YtamndmlaikgogaaDfA
namespace Go.Proofs.Ytamndmlaikgogaa.base
open Go.RowKit Go.WideShapes Go.ChangeShapes Go.Joins Go.Deep
open Go.Proofs.Ytamndmlaikgogaa.dfA
set_option linter.unusedVariables false
section
variable {H : Type} {enc : TypeId × Value → H} {P : Program} {w : World} {base b0 : Nat} {held : Bool} {spare : Nat → Bool}
def nodeLeafs : List Leaf := [.str, .int .i64, .int .i64, .int .i64, .bool, .int .u64, .int .u64]
theorem node_of {ls : List Leaf} {z : List Value} (h : Leaves enc P w base spare held (nodeLeafs ++ ls) z) : ∃ (x : Nd) (z' : List Value), z = x.cells.toList ++ z' ∧ Leaves enc P w base spare held ls z' := by
  obtain ⟨_, _, rfl, ⟨s, rfl, _⟩, h⟩ := h
  obtain ⟨_, _, rfl, ⟨p, rfl, _⟩, h⟩ := h
  obtain ⟨_, _, rfl, ⟨a, rfl, _⟩, h⟩ := h
  obtain ⟨_, _, rfl, ⟨b, rfl, _⟩, h⟩ := h
  obtain ⟨_, _, rfl, ⟨c, rfl⟩, h⟩ := h
  obtain ⟨_, _, rfl, ⟨d, rfl, _⟩, h⟩ := h
  obtain ⟨_, z', rfl, ⟨f, rfl, _⟩, h⟩ := h
  exact ⟨⟨s, p, a, b, c, d, f⟩, z', rfl, h⟩
instance : Inhabited Nd := ⟨⟨⟨#[]⟩, 0, 0, 0, false, 0, 0⟩⟩
theorem open_nodes {r : Reach} {t e : TypeId} {v : Value} {d : DataW H} {p : List MemPlace} (q : Nat) (ht : P.underlying t = some (.slice e)) (he : leafs P q e = some nodeLeafs) (hc : P.cellsOf e = 7)
    (hv : Value.okWide P w r b0 t v) (h : DataW.Trod enc P w base (fun _ => true) held t v d p) :
    ∃ (A : Option Addr) (n c : Nat) (f : Nat → Nd), v = .slice A n c ∧ n ≤ c ∧ c ≤ maxLen ∧ RowsOf w A n 7 (fun j => (f j).cells.toList) := by
  obtain ⟨A, n, c, g, h1, h2, h3, _, h5, h6⟩ := open_rows q 7 nodeLeafs ht he hc (by omega) hv h
  have key : ∀ j, j < n → ∃ x : Nd, g j = x.cells.toList := fun j hj => by
    obtain ⟨x, z', e1, e2⟩ := node_of (ls := []) (h5 j hj).1
    simp only [Leaves] at e2
    subst e2
    exact ⟨x, by rw [e1, List.append_nil]⟩
  obtain ⟨f, hf⟩ := choose_lt key
  refine ⟨A, n, c, f, h1, h2, h3, ?_⟩
  rcases h6 with h0 | ⟨b, off, k1, k2, k3⟩
  · exact .inl h0
  · refine .inr ⟨b, off, k1, k2, fun j hj i hi => ?_⟩
    rw [k3 j hj i hi, hf j hj]
/-- The same, with how long the names are. -/
theorem node_of2 {ls : List Leaf} {z : List Value} (h : Leaves enc P w base spare held (nodeLeafs ++ ls) z) : ∃ (x : Nd) (z' : List Value), z = x.cells.toList ++ z' ∧ x.nm.size ≤ maxLen ∧ Leaves enc P w base spare held ls z' := by
  obtain ⟨_, _, rfl, ⟨s, rfl, hs⟩, h⟩ := h
  obtain ⟨_, _, rfl, ⟨p, rfl, _⟩, h⟩ := h
  obtain ⟨_, _, rfl, ⟨a, rfl, _⟩, h⟩ := h
  obtain ⟨_, _, rfl, ⟨b, rfl, _⟩, h⟩ := h
  obtain ⟨_, _, rfl, ⟨c, rfl⟩, h⟩ := h
  obtain ⟨_, _, rfl, ⟨d, rfl, _⟩, h⟩ := h
  obtain ⟨_, z', rfl, ⟨f, rfl, _⟩, h⟩ := h
  exact ⟨⟨s, p, a, b, c, d, f⟩, z', rfl, hs, h⟩
theorem open_nodes2 {r : Reach} {t e : TypeId} {v : Value} {d : DataW H} {p : List MemPlace} (q : Nat) (ht : P.underlying t = some (.slice e)) (he : leafs P q e = some nodeLeafs) (hc : P.cellsOf e = 7)
    (hv : Value.okWide P w r b0 t v) (h : DataW.Trod enc P w base (fun _ => true) held t v d p) :
    ∃ (A : Option Addr) (n c : Nat) (f : Nat → Nd), v = .slice A n c ∧ n ≤ c ∧ c ≤ maxLen ∧ (∀ j, j < n → (f j).nm.size ≤ maxLen) ∧ RowsOf w A n 7 (fun j => (f j).cells.toList) := by
  obtain ⟨A, n, c, g, h1, h2, h3, _, h5, h6⟩ := open_rows q 7 nodeLeafs ht he hc (by omega) hv h
  have key : ∀ j, j < n → ∃ x : Nd, g j = x.cells.toList ∧ x.nm.size ≤ maxLen := fun j hj => by
    obtain ⟨x, z', e1, e3, e2⟩ := node_of2 (ls := []) (h5 j hj).1
    simp only [Leaves] at e2
    subst e2
    exact ⟨x, by rw [e1, List.append_nil], e3⟩
  obtain ⟨f, hf⟩ := choose_lt key
  refine ⟨A, n, c, f, h1, h2, h3, fun j hj => (hf j hj).2, ?_⟩
  rcases h6 with h0 | ⟨b, off, k1, k2, k3⟩
  · exact .inl h0
  · refine .inr ⟨b, off, k1, k2, fun j hj i hi => ?_⟩
    rw [k3 j hj i hi, (hf j hj).1]
/-- What came in reads as a list, as long as one likes. -/
theorem rdN_of {A : Option Addr} {n : Nat} {f : Nat → Nd} (h : RowsOf w A n 7 (fun j => (f j).cells.toList)) (m : Nat) (hm : m ≤ n) : RdN w A ((List.range m).map f) := by
  rcases h with h0 | ⟨b, off, h1, h2, h3⟩
  · refine .inl ?_
    have : m = 0 := by omega
    subst this
    rfl
  · refine .inr ⟨b, off, h1, h2, fun j hj i hi => ?_⟩
    have hj2 : j < m := by simpa using hj
    rw [h3 j (by omega) i hi]
    simp
end
end Go.Proofs.Ytamndmlaikgogaa.base
