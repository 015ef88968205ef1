/- A slice of bools that came in. -/
import Derived.Test.YthbmgeggnkeejaaLeaf
namespace Go.Proofs.Ythbmgeggnkeejaa.base
open Go.RowKit Go.WideShapes Go.ChangeShapes Go.Joins Go.Deep
set_option linter.unusedVariables false
section
variable {H : Type} {enc : TypeId × Value → H} {P : Program} {w : World} {base b0 : Nat} {held : Bool}
theorem open_bools {r : Reach} {t e : TypeId} {v : Value} {d : DataW H} {p : List MemPlace} (ht : P.underlying t = some (.slice e)) (he : P.underlying e = some .bool) (hc : P.cellsOf e = 1)
    (hv : Value.okWide P w r b0 t v) (h : DataW.Trod enc P w base (fun _ => true) held t v d p) :
    ∃ (A : Option Addr) (n c : Nat) (l : List Bool), v = .slice A n c ∧ l.length = n ∧ n ≤ c ∧ c ≤ maxLen ∧ (A = none → c = 0) ∧ Row w w.heap.size A (l.map .bool) := by
  obtain ⟨a, len, cap, rfl⟩ := okWide_slice ht hv
  obtain ⟨n, hn⟩ := h
  rcases open_slice1 ht hc hn with ⟨hcs, _⟩ | ⟨ad, len', cap', m, k, V, D, Pl, hcs, hb, hl, hm, hmm, _, hV⟩
  · simp only [Value.cells, List.cons.injEq, and_true] at hcs
    injection hcs with h1 h2 h3
    subst h1 h2 h3
    exact ⟨none, 0, 0, [], rfl, rfl, Nat.le_refl _, by unfold maxLen; omega, fun _ => rfl, .inl rfl⟩
  · simp only [Value.cells, List.cons.injEq, and_true] at hcs
    injection hcs with h1 h2 h3
    subst h1 h2 h3
    obtain ⟨B, hB⟩ := choose_lt (α := Bool) (n := len) (p := fun i b => V i = .bool b) (fun i hi => by
      obtain ⟨b, hb, _⟩ := DataW.trod_bool he (hV i (by rw [hmm]; split <;> omega)).2
      exact ⟨b, by simpa using hb⟩)
    refine ⟨some ad, len, cap, (List.range len).map B, rfl, by simp, hl, hm, fun h => (by cases h), ?_⟩
    rcases Nat.eq_zero_or_pos len with h0 | h0
    · exact .inl (by simp [h0])
    · have hc0 := (hV 0 (by rw [hmm]; split <;> omega)).1
      obtain ⟨blk, off, spot⟩ := ad
      have hs : spot = none := by simpa [Addr.add] using World.cell?_spot hc0
      subst hs
      refine .inr ⟨blk, off, rfl, ?_, fun i u hu => ?_⟩
      · have := block_lt hc0
        simpa [Addr.add] using this
      · simp only [List.getElem?_map, Option.map_eq_some_iff] at hu
        obtain ⟨b, ⟨j, hj, rfl⟩, rfl⟩ := hu
        have hi : i < len := by
          have := (List.getElem?_eq_some_iff.1 hj).1
          simpa using this
        rw [List.getElem?_range hi] at hj
        simp only [Option.some.injEq] at hj
        subst hj
        have := (hV i (by rw [hmm]; split <;> omega)).1
        rw [hB i hi, Addr.add_lit] at this
        exact this
end
end Go.Proofs.Ythbmgeggnkeejaa.base
