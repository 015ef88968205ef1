/- Slices of ops with texts that came in. -/
import Derived.Test.YtmlicmcphecakaaOpenRows
import Derived.Test.YtmlicmcphecakaaSnH
namespace Go.Proofs.Ytmlicmcphecakaa.base
open Go.RowKit Go.WideShapes Go.ChangeShapes Go.Joins Go.Deep
open Go.Proofs.Ytmlicmcphecakaa.snA Go.Proofs.Ytmlicmcphecakaa.snH
set_option linter.unusedVariables false
section
variable {H : Type} {enc : TypeId × Value → H} {w : World} {base b0 : Nat} {held : Bool} {P : Program}
theorem bytes_of {t e : TypeId} {z : Value} {n : Nat} {y : DataW H × List MemPlace} (ht : P.underlying t = some (.slice e)) (he : P.underlying e = some (.int .u8)) (hc : P.cellsOf e = 1)
    (hf : DataW.trod enc P w base (fun _ => true) held n t [z] = some y) : ∃ (A : Option Addr) (m cc : Nat) (bs : List Int), z = .slice A m cc ∧ bs.length = m ∧ m ≤ cc ∧ cc ≤ 9223372036854775807 ∧ (A = none → cc = 0) ∧ Row w w.heap.size A (bs.map (.int .u8)) ∧ (∀ x ∈ bs, 0 ≤ x ∧ x ≤ 255) := by
  rcases open_ints ht he hc hf with ⟨hcs, _⟩ | ⟨x, l, c, zs, hcs, _, hl, hm, hz, _, hcell, hwz⟩
  · simp at hcs
    subst hcs
    exact ⟨none, 0, 0, [], rfl, rfl, Nat.le_refl _, by omega, fun _ => rfl, .inl rfl, fun x hx => by simp at hx⟩
  · simp at hcs
    subst hcs
    unfold maxLen at hm
    have hzl : zs.length = c := by simpa using hz
    refine ⟨some x, l, c, zs.take l, rfl, by rw [List.length_take]; omega, hl, by omega, (fun h => (by cases h)), row_of_cells (fun i hi => hcell i (by omega)) l, fun v hv => ?_⟩
    have := hwz v (List.mem_of_mem_take hv)
    have h2 : IntKind.u8.min ≤ v ∧ v ≤ IntKind.u8.max := by simpa [Lit.wf] using this
    have e1 : IntKind.u8.min = 0 := by decide
    have e2 : IntKind.u8.max = 255 := by decide
    omega
instance : Inhabited Ob := ⟨⟨0, none, 0, [], ⟨#[]⟩, 0, 0, false⟩⟩
theorem sop_leafs : leafs Try.prog 3 27 = some [.int .i64, .sl 25, .str, .int .i64, .int .i64, .bool] := by kernel_rfl
theorem open_snaps {r : Reach} {v : Value} {d : DataW H} {p : List MemPlace} (hv : Value.okWide Try.prog w r b0 22 v) (h : DataW.Trod enc Try.prog w base (fun _ => true) held 22 v d p) :
    ∃ (A : Option Addr) (c : Nat) (l : List Ob), v = .slice A l.length c ∧ l.length ≤ c ∧ c ≤ 9223372036854775807 ∧ RdO w A l ∧ NilC l := by
  obtain ⟨A, len, c, f, rfl, h1, h2, _, h3, h4⟩ := open_rows 3 6 _ Try.underlying22 sop_leafs (by kernel_rfl) (by omega) hv h
  unfold maxLen at h2
  have key : ∀ j, j < len → ∃ e : Ob, f j = e.cells.toList ∧ (Row w w.heap.size e.A (e.bs.map (.int .u8)) ∧ e.bs.length ≤ e.c ∧ e.c ≤ 9223372036854775807 ∧ e.nm.size ≤ 9223372036854775807 ∧ ∀ x ∈ e.bs, 0 ≤ x ∧ x ≤ 255) ∧ (e.A = none → e.c = 0) := fun j hj => by
    obtain ⟨_, z0, e0, ⟨kd, rfl, _⟩, hL⟩ := (h3 j hj).1
    obtain ⟨_, z1, rfl, ⟨n', y, hy⟩, hL⟩ := hL
    obtain ⟨_, z2, rfl, ⟨nm, rfl, hnm⟩, hL⟩ := hL
    obtain ⟨_, z3, rfl, ⟨ho, rfl, _⟩, hL⟩ := hL
    obtain ⟨_, z4, rfl, ⟨nn, rfl, _⟩, hL⟩ := hL
    obtain ⟨_, z5, rfl, ⟨up, rfl⟩, hL⟩ := hL
    have hz5 : z5 = [] := hL
    subst hz5
    obtain ⟨A', m', cc', bs, rfl, k1, k2, k3, k4, k5, k6⟩ := bytes_of Try.underlying25 Try.underlying5 (by kernel_rfl) hy
    subst k1
    unfold maxLen at hnm
    exact ⟨⟨kd, A', cc', bs, nm, ho, nn, up⟩, e0, ⟨k5, k2, k3, by omega, k6⟩, k4⟩
  obtain ⟨g, hg⟩ := choose_lt key
  refine ⟨A, c, (List.range len).map g, by simp, by simpa using h1, by omega, ⟨?_, ?_⟩, ?_⟩
  · rcases h4 with h0 | ⟨b, off, k1, k2, k3⟩
    · left; rw [h0]; rfl
    · right
      refine ⟨b, off, k1, k2, fun j hj i hi => ?_⟩
      have hj2 : j < len := by simpa using hj
      rw [k3 j hj2 i hi, (hg j hj2).1]
      simp
  · intro e he
    rw [List.mem_map] at he
    obtain ⟨j, hj, rfl⟩ := he
    exact (hg j (by simpa using hj)).2.1
  · intro e he
    rw [List.mem_map] at he
    obtain ⟨j, hj, rfl⟩ := he
    exact (hg j (by simpa using hj)).2.2
end
end Go.Proofs.Ytmlicmcphecakaa.base
