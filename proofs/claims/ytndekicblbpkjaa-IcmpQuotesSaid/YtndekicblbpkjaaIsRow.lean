/- A slice of integers that came in, as a row. -/
import Derived.Test.YtndekicblbpkjaaRow
namespace Go.Proofs.Ytndekicblbpkjaa.base
open Go.RowKit Go.WideShapes Go.ChangeShapes
set_option linter.unusedVariables false
theorem isrow {k : IntKind} {w : World} {a : Option Addr} {len cap : Nat} {zs : List Int}
    (h : (a = none ∧ len = 0 ∧ cap = 0 ∧ zs = []) ∨ ∃ x, a = some x ∧ len ≤ cap ∧ cap ≤ maxLen ∧ zs.length = cap ∧ (∀ i, i < zs.length → w.cell? (x.add i) = some (.int k (zs.getD i 0))) ∧ ∀ n ∈ zs, (Lit.int k n).wf = true) :
    ∃ l : List Int, l.length = len ∧ Row w w.heap.size a (l.map (.int k)) ∧ (∀ x ∈ l, (Lit.int k x).wf = true) ∧ len ≤ cap ∧ cap ≤ 9223372036854775807 := by
  rcases h with ⟨rfl, rfl, rfl, rfl⟩ | ⟨x, rfl, hle, hcm, hzl, hcell, hwf⟩
  · exact ⟨[], rfl, .inl rfl, by simp, Nat.le_refl _, by omega⟩
  · unfold maxLen at hcm
    refine ⟨zs.take len, by rw [List.length_take]; omega, row_of_cells hcell len, fun x hx => hwf x (List.mem_of_mem_take hx), hle, by omega⟩
/-- The first m of them. -/
theorem row_cut {k : IntKind} {w : World} {B : Nat} {a : Option Addr} {l : List Int} (h : Row w B a (l.map (.int k))) (m : Nat) (hm : m ≤ l.length) (h0 : 0 < m) :
    ∃ b off, a = some ⟨b, off, none⟩ ∧ (l.take m).length = m ∧ Row w B (some ⟨b, off, none⟩) ((l.take m).map (.int k)) := by
  have hr := h.take m
  rw [← List.map_take] at hr
  have hl : (l.take m).length = m := by rw [List.length_take]; omega
  obtain ⟨b, off, rfl, _⟩ := hr.at_ (by intro e; have e2 := congrArg List.length e; rw [List.length_map, hl] at e2; simp at e2; omega)
  exact ⟨b, off, rfl, hl, hr⟩
end Go.Proofs.Ytndekicblbpkjaa.base
