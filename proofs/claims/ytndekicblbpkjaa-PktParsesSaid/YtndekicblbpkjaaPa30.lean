/- Slices of integers that came in, as rows. -/
import Derived.Test.YtndekicblbpkjaaPa01
namespace Go.Proofs.Ytndekicblbpkjaa.base
open Go.RowKit Go.WideShapes Go.ChangeShapes Go.ChangeAt
set_option linter.unusedVariables false
theorem block_lt {w : World} {p : Addr} {v : Value} (h : w.cell? p = some v) : p.block < w.heap.size := by
  rcases Nat.lt_or_ge p.block w.heap.size with hlt | hge
  · exact hlt
  · simp [World.cell?, Array.getElem?_eq_none hge] at h
theorem row_of_cells {w : World} {k : IntKind} {x : Addr} {zs : List Int} (h : ∀ i, i < zs.length → w.cell? (x.add i) = some (.int k (zs.getD i 0))) (n : Nat) :
    Row w w.heap.size (some x) ((zs.take n).map (.int k)) := by
  rcases Nat.eq_zero_or_pos zs.length with h0 | h0
  · exact .inl (by rw [List.eq_nil_of_length_eq_zero h0]; simp)
  · obtain ⟨b, off, rfl, hc⟩ := ints_at h h0
    refine .inr ⟨b, off, rfl, ?_, fun i u hu => ?_⟩
    · exact block_lt (hc 0 h0)
    · simp only [List.getElem?_map, Option.map_eq_some_iff] at hu
      obtain ⟨z, hz, rfl⟩ := hu
      rw [List.getElem?_take] at hz
      split at hz
      · have hl := (List.getElem?_eq_some_iff.1 hz).1
        rw [hc i hl, List.getD_eq_getElem?_getD, hz]; rfl
      · cases hz
theorem isrow {k : IntKind} {w : World} {a : Option Addr} {len cap : Nat} {zs : List Int}
    (h : (a = none ∧ len = 0 ∧ cap = 0 ∧ zs = []) ∨ ∃ x, a = some x ∧ len ≤ cap ∧ cap ≤ maxLen ∧ zs.length = cap ∧ (∀ i, i < zs.length → w.cell? (x.add i) = some (.int k (zs.getD i 0))) ∧ ∀ n ∈ zs, (Lit.int k n).wf = true) :
    ∃ l : List Int, l.length = len ∧ Row w w.heap.size a (l.map (.int k)) ∧ (∀ x ∈ l, (Lit.int k x).wf = true) ∧ len ≤ cap ∧ cap ≤ 9223372036854775807 := by
  rcases h with ⟨rfl, rfl, rfl, rfl⟩ | ⟨x, rfl, hle, hcm, hzl, hcell, hwf⟩
  · exact ⟨[], rfl, .inl rfl, by simp, Nat.le_refl _, by omega⟩
  · unfold maxLen at hcm
    refine ⟨zs.take len, by rw [List.length_take]; omega, row_of_cells hcell len, fun x hx => hwf x (List.mem_of_mem_take hx), hle, by omega⟩
end Go.Proofs.Ytndekicblbpkjaa.base
