/- The script of calls that comes in. -/
import Derived.Test.YtmlfpfmpoigfiaaOpenFlows
import Derived.Test.YtmlfpfmpoigfiaaFlowPi
namespace Go.Proofs.Ytmlfpfmpoigfiaa.base
open Go.RowKit Go.WideShapes Go.ChangeShapes Go.Joins Go.Deep
open Go.Proofs.Ytmlfpfmpoigfiaa.flowE Go.Proofs.Ytmlfpfmpoigfiaa.flowG Go.Proofs.Ytmlfpfmpoigfiaa.flowPc Go.Proofs.Ytmlfpfmpoigfiaa.flowPi
set_option linter.unusedVariables false
section
variable {H : Type} {enc : TypeId × Value → H} {P : Program} {w : World} {base b0 : Nat} {held : Bool}
def fopLeafs (t : TypeId) : List Leaf := .int .i64 :: (tupLeafs ++ [.int .i64, .int .i64, .int .i64, .sl t])
theorem hosts_of {t e : TypeId} {z : Value} {n : Nat} {y : DataW H × List MemPlace} (ht : P.underlying t = some (.slice e)) (he : P.underlying e = some (.int .i64)) (hc : P.cellsOf e = 1)
    (hf : DataW.trod enc P w base (fun _ => true) held n t [z] = some y) : ∃ A m cc hs, z = .slice A m cc ∧ hs.length = m ∧ m ≤ cc ∧ cc ≤ 9223372036854775807 ∧ RdI w w.heap.size A hs := by
  rcases open_ints ht he hc hf with ⟨hcs, _⟩ | ⟨x, l, c, zs, hcs, _, hl, hm, hz, _, hcell, hwz⟩
  · simp at hcs
    subst hcs
    exact ⟨none, 0, 0, [], rfl, rfl, Nat.le_refl _, by omega, .inl rfl⟩
  · simp at hcs
    subst hcs
    unfold maxLen at hm
    have hzl : zs.length = c := by simpa using hz
    refine ⟨some x, l, c, zs.take l, rfl, by rw [List.length_take]; omega, hl, by omega, ?_⟩
    rcases Nat.eq_zero_or_pos l with h0 | h0
    · exact .inl (by rw [h0]; simp)
    · have hc0 := hcell 0 (by omega)
      obtain ⟨b, off, spot⟩ := x
      have hs : spot = none := by simpa [Addr.add] using World.cell?_spot hc0
      subst hs
      refine .inr ⟨b, off, rfl, ?_, fun j hj => ?_⟩
      · have := World.block_lt_of_cell? w _ hc0
        simpa [Addr.add] using this
      · rw [List.length_take] at hj
        have h1 := hcell j (by omega)
        rw [Addr.add_lit] at h1
        rw [h1, List.getElem_take, List.getD_eq_getElem?_getD, List.getElem?_eq_getElem (by omega)]
        rfl
instance : Inhabited OpR := ⟨⟨0, ⟨⟨0, false, 0, 0, false, 0, 0, 0, 0⟩, 0, 0, 0⟩, none, 0, 0, []⟩⟩
theorem open_fops {r : Reach} {t e ti : TypeId} {ei : TypeId} {v : Value} {d : DataW H} {p : List MemPlace} (q : Nat) (ht : P.underlying t = some (.slice e)) (he : leafs P q e = some (fopLeafs ti)) (hc : P.cellsOf e = 14)
    (hti : P.underlying ti = some (.slice ei)) (hei : P.underlying ei = some (.int .i64)) (hci : P.cellsOf ei = 1)
    (hv : Value.okWide P w r b0 t v) (h : DataW.Trod enc P w base (fun _ => true) held t v d p) :
    ∃ (A : Option Addr) (n c : Nat) (fo : Nat → OpR), v = .slice A n c ∧ n ≤ c ∧ c ≤ maxLen ∧ RowsOf w A n 14 (fun j => (fo j).cells.toList) ∧ ∀ j, j < n → (fo j).good w := by
  obtain ⟨A, n, c, g, h1, h2, h3, _, h5, h6⟩ := open_rows q 14 (fopLeafs ti) ht he hc (by omega) hv h
  have key : ∀ j, j < n → ∃ o : OpR, g j = o.cells.toList ∧ o.good w := fun j hj => by
    obtain ⟨_, z0, e0, ⟨kd, rfl, _⟩, hL⟩ := (h5 j hj).1
    obtain ⟨x, z1, rfl, hL1⟩ := tup_of hL
    obtain ⟨_, z2, rfl, ⟨ho, rfl, _⟩, hL2⟩ := hL1
    obtain ⟨_, z3, rfl, ⟨st, rfl, _⟩, hL3⟩ := hL2
    obtain ⟨_, z4, rfl, ⟨ti', rfl, _⟩, hL4⟩ := hL3
    obtain ⟨cv, z5, rfl, ⟨n', y, hy⟩, hL5⟩ := hL4
    have hz : z5 = [] := hL5
    subst hz
    obtain ⟨A', m', cc', hs', rfl, k1, k2, k3, k4⟩ := hosts_of hti hei hci hy
    exact ⟨⟨kd, ⟨x, ho, st, ti'⟩, A', m', cc', hs'⟩, e0, k1, k2, k3, k4⟩
  obtain ⟨f, hf⟩ := choose_lt key
  refine ⟨A, n, c, f, h1, h2, h3, ?_, fun j hj => (hf j hj).2⟩
  rcases h6 with h0 | ⟨b, off, k1, k2, k3⟩
  · exact .inl h0
  · refine .inr ⟨b, off, k1, k2, fun j hj i hi => ?_⟩
    rw [k3 j hj i hi, (hf j hj).1]
end
end Go.Proofs.Ytmlfpfmpoigfiaa.base
