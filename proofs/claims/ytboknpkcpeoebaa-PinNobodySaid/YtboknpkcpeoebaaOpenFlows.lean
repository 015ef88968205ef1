/- Slices of flows that came in. -/
import Derived.Test.YtboknpkcpeoebaaOpenRows
import Derived.Test.YtboknpkcpeoebaaFlowE
namespace Go.Proofs.Ytboknpkcpeoebaa.base
open Go.RowKit Go.WideShapes Go.ChangeShapes Go.Joins Go.Deep
open Go.Proofs.Ytboknpkcpeoebaa.flowE
set_option linter.unusedVariables false
section
variable {H : Type} {enc : TypeId × Value → H} {P : Program} {w : World} {base b0 : Nat} {held : Bool} {spare : Nat → Bool}
def tupLeafs : List Leaf := [.int .i64, .bool, .int .u64, .int .u64, .bool, .int .u64, .int .u64, .int .i64, .int .i64]
theorem tup_of {ls : List Leaf} {z : List Value} (h : Leaves enc P w base spare held (tupLeafs ++ ls) z) : ∃ (x : Tup) (z' : List Value), z = x.cells.toList ++ z' ∧ Leaves enc P w base spare held ls z' := by
  obtain ⟨_, _, rfl, ⟨p, rfl, _⟩, h⟩ := h
  obtain ⟨_, _, rfl, ⟨a, rfl⟩, h⟩ := h
  obtain ⟨_, _, rfl, ⟨b, rfl, _⟩, h⟩ := h
  obtain ⟨_, _, rfl, ⟨c, rfl, _⟩, h⟩ := h
  obtain ⟨_, _, rfl, ⟨d, rfl⟩, h⟩ := h
  obtain ⟨_, _, rfl, ⟨f, rfl, _⟩, h⟩ := h
  obtain ⟨_, _, rfl, ⟨g, rfl, _⟩, h⟩ := h
  obtain ⟨_, _, rfl, ⟨i, rfl, _⟩, h⟩ := h
  obtain ⟨_, z', rfl, ⟨j, rfl, _⟩, h⟩ := h
  exact ⟨⟨p, a, b, c, d, f, g, i, j⟩, z', rfl, h⟩
instance : Inhabited Tup := ⟨⟨0, false, 0, 0, false, 0, 0, 0, 0⟩⟩
theorem open_tups {r : Reach} {t e : TypeId} {v : Value} {d : DataW H} {p : List MemPlace} (q : Nat) (ht : P.underlying t = some (.slice e)) (he : leafs P q e = some tupLeafs) (hc : P.cellsOf e = 9)
    (hv : Value.okWide P w r b0 t v) (h : DataW.Trod enc P w base (fun _ => true) held t v d p) :
    ∃ (A : Option Addr) (n c : Nat) (f : Nat → Tup), v = .slice A n c ∧ n ≤ c ∧ c ≤ maxLen ∧ RowsOf w A n 9 (fun j => (f j).cells.toList) := by
  obtain ⟨A, n, c, g, h1, h2, h3, _, h5, h6⟩ := open_rows q 9 tupLeafs ht he hc (by omega) hv h
  have key : ∀ j, j < n → ∃ x : Tup, g j = x.cells.toList := fun j hj => by
    obtain ⟨x, z', e1, e2⟩ := tup_of (ls := []) (h5 j hj).1
    simp only [Leaves] at e2
    subst e2
    exact ⟨x, by rw [e1, List.append_nil]⟩
  obtain ⟨f, hf⟩ := choose_lt key
  refine ⟨A, n, c, f, h1, h2, h3, ?_⟩
  rcases h6 with h0 | ⟨b, off, k1, k2, k3⟩
  · exact .inl h0
  · refine .inr ⟨b, off, k1, k2, fun j hj i hi => ?_⟩
    rw [k3 j hj i hi, hf j hj]
end
end Go.Proofs.Ytboknpkcpeoebaa.base
