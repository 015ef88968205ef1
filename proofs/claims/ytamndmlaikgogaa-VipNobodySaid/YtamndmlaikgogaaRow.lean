/- Slices that read as lists of values. -/
import Derived.Test.YtamndmlaikgogaaBase
namespace Go.Proofs.Ytamndmlaikgogaa.base
open Go.RowKit Go.WideShapes Go.ChangeShapes
set_option linter.unusedVariables false

/-- The slice at A reads as these values, in blocks below B (an empty one reads as nothing). -/
def Row (w : World) (B : Nat) (A : Option Addr) (xs : List Value) : Prop :=
  xs = [] ∨ ∃ b off, A = some ⟨b, off, none⟩ ∧ b < B ∧ ∀ i u, xs[i]? = some u → w.cell? ⟨b, off + i, none⟩ = some u
section
variable {w w' : World} {B B' : Nat} {A : Option Addr} {xs : List Value}
theorem Row.below (h : Row w B A xs) (hb : Below B w w') : Row w' B A xs := by
  rcases h with h | ⟨b, off, rfl, hlt, hc⟩
  · exact .inl h
  · exact .inr ⟨b, off, rfl, hlt, fun i u hu => (hb.cell (p := ⟨b, off + i, none⟩) hlt).trans (hc i u hu)⟩
theorem Row.more (h : Row w B A xs) (hB : B ≤ B') : Row w B' A xs := by
  rcases h with h | ⟨b, off, rfl, hlt, hc⟩
  · exact .inl h
  · exact .inr ⟨b, off, rfl, by omega, hc⟩
theorem Row.at_ (h : Row w B A xs) (hne : xs ≠ []) : ∃ b off, A = some ⟨b, off, none⟩ ∧ b < B ∧ ∀ i u, xs[i]? = some u → w.cell? ⟨b, off + i, none⟩ = some u := by
  rcases h with h | h
  · exact absurd h hne
  · exact h
theorem Row.take (h : Row w B A xs) (n : Nat) : Row w B A (xs.take n) := by
  rcases h with h | ⟨b, off, rfl, hlt, hc⟩
  · exact .inl (by simp [h])
  · refine .inr ⟨b, off, rfl, hlt, fun i u hu => hc i u ?_⟩
    rw [List.getElem?_take] at hu
    split at hu
    · exact hu
    · cases hu
end
theorem block_lt {w : World} {p : Addr} {v : Value} (h : w.cell? p = some v) : p.block < w.heap.size := by
  rcases Nat.lt_or_ge p.block w.heap.size with hlt | hge
  · exact hlt
  · simp [World.cell?, Array.getElem?_eq_none hge] at h
/-- A slice of integers that came in, as a row of values: its first len numbers. -/
theorem row_of_cells {w : World} {k : IntKind} {x : Addr} {zs : List Int} (h : ∀ i, i < zs.length → w.cell? (x.add i) = some (.int k (zs.getD i 0))) (n : Nat) :
    Row w w.heap.size (some x) ((zs.take n).map (.int k)) := by
  rcases Nat.eq_zero_or_pos zs.length with h0 | h0
  · exact .inl (by rw [List.eq_nil_of_length_eq_zero h0]; simp)
  · obtain ⟨b, off, rfl, hc⟩ := ints_at h h0
    refine .inr ⟨b, off, rfl, ?_, fun i u hu => ?_⟩
    · exact block_lt (hc 0 h0)
    · simp only [List.getElem?_map, Option.map_eq_some_iff] at hu
      obtain ⟨z, hz, rfl⟩ := hu
      rw [List.getElem?_take] at hz
      split at hz
      · have hl := (List.getElem?_eq_some_iff.1 hz).1
        rw [hc i hl, List.getD_eq_getElem?_getD, hz]; rfl
      · cases hz
end Go.Proofs.Ytamndmlaikgogaa.base
