/- A slice of structs that came in: what its cells are. -/
import Derived.Test.YtamndmlaikgogaaLeaf
import Derived.Test.YtamndmlaikgogaaOpen
namespace Go.Proofs.Ytamndmlaikgogaa.base
open Go.RowKit Go.WideShapes Go.ChangeShapes Go.Joins Go.Deep
set_option linter.unusedVariables false
/-- Structs of k cells each, side by side. -/
def RowsOf (w : World) (A : Option Addr) (n k : Nat) (f : Nat → List Value) : Prop := n = 0 ∨ ∃ b off, A = some ⟨b, off, none⟩ ∧ b < w.heap.size ∧ ∀ j, j < n → ∀ i, i < k → w.cell? ⟨b, off + j * k + i, none⟩ = (f j)[i]?
section
variable {H : Type} {enc : TypeId × Value → H} {P : Program} {w : World} {base b0 : Nat} {held : Bool}
theorem open_rows {r : Reach} {t e : TypeId} {v : Value} {d : DataW H} {p : List MemPlace} (q k : Nat) (ls : List Leaf) (ht : P.underlying t = some (.slice e)) (he : leafs P q e = some ls) (hc : P.cellsOf e = k) (hk : 0 < k)
    (hv : Value.okWide P w r b0 t v) (h : DataW.Trod enc P w base (fun _ => true) held t v d p) :
    ∃ (A : Option Addr) (n c : Nat) (f : Nat → List Value), v = .slice A n c ∧ n ≤ c ∧ c ≤ maxLen ∧ (A = none → c = 0) ∧ (∀ j, j < n → Leaves enc P w base (fun _ => true) held ls (f j) ∧ (f j).length = k) ∧ RowsOf w A n k f := by
  obtain ⟨a, len, cap, rfl⟩ := okWide_slice ht hv
  obtain ⟨n, hn⟩ := h
  rcases open_slice ht hn with ⟨hcs, _⟩ | ⟨ad, len', cap', m, k', D, PL, hcs, hb, hl, hm, hmm, _, hV⟩
  · simp only [Value.cells, List.cons.injEq, and_true] at hcs
    injection hcs with h1 h2 h3
    subst h1 h2 h3
    exact ⟨none, 0, 0, fun _ => [], rfl, Nat.le_refl _, by unfold maxLen; omega, fun _ => rfl, fun i hi => by omega, .inl rfl⟩
  · simp only [Value.cells, List.cons.injEq, and_true] at hcs
    injection hcs with h1 h2 h3
    subst h1 h2 h3
    have key : ∀ i, i < len → ∃ z : List Value, (Leaves enc P w base (fun _ => true) held ls z ∧ z.length = k) ∧ ∀ j, j < k → w.cell? ((ad.add (i * k)).add j) = z[j]? := by
      intro i hi
      obtain ⟨cs', h1, h2⟩ := hV i (by rw [hmm]; split <;> omega)
      have hL := leaves_of q _ _ _ _ _ he h2
      rw [hc] at h1
      obtain ⟨_, hlen, hcell⟩ := World.cells?_some h1
      refine ⟨_, ⟨hL, by simpa using hlen⟩, fun j hj => ?_⟩
      have := hcell j (by omega)
      simpa using this
    obtain ⟨Z, hZ⟩ := choose_lt key
    refine ⟨some ad, len, cap, Z, rfl, hl, hm, (fun e => (by cases e)), fun i hi => (hZ i hi).1, ?_⟩
    rcases Nat.eq_zero_or_pos len with h0 | h0
    · exact .inl h0
    · have hc0 := (hZ 0 h0).2 0 hk
      have hs0 : (Z 0)[0]? = some ((Z 0)[0]'(by rw [(hZ 0 h0).1.2]; exact hk)) := List.getElem?_eq_getElem _
      rw [hs0] at hc0
      obtain ⟨blk, off, spot⟩ := ad
      have hs : spot = none := by simpa [Addr.add] using World.cell?_spot hc0
      subst hs
      refine .inr ⟨blk, off, rfl, ?_, fun j hj i hi => ?_⟩
      · have := World.block_lt_of_cell? w _ hc0
        simpa [Addr.add] using this
      · have := (hZ j hj).2 i hi
        rw [Addr.add_lit, Addr.add_lit] at this
        exact this
end
end Go.Proofs.Ytamndmlaikgogaa.base
