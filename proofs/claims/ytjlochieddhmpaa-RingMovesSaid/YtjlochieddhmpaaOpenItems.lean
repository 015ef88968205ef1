/- A slice of items (a number without a sign, a weight) that came in. -/
import Derived.Test.YtjlochieddhmpaaLeaf
import Derived.Test.YtjlochieddhmpaaOpen
import Derived.Test.YtjlochieddhmpaaRingF
namespace Go.Proofs.Ytjlochieddhmpaa.base
open Go.RowKit Go.WideShapes Go.ChangeShapes Go.Joins Go.Deep
open Go.Proofs.Ytjlochieddhmpaa.ringE Go.Proofs.Ytjlochieddhmpaa.ringF
set_option linter.unusedVariables false
section
variable {H : Type} {enc : TypeId × Value → H} {P : Program} {w : World} {base b0 : Nat} {held : Bool}
theorem open_items {r : Reach} {t e : TypeId} {v : Value} {d : DataW H} {p : List MemPlace} (q : Nat) (ht : P.underlying t = some (.slice e)) (he : leafs P q e = some [.int .u64, .int .i64]) (hc : P.cellsOf e = 2)
    (hv : Value.okWide P w r b0 t v) (h : DataW.Trod enc P w base (fun _ => true) held t v d p) :
    ∃ (A : Option Addr) (n c : Nat) (ids ws : Nat → Int), v = .slice A n c ∧ n ≤ c ∧ c ≤ maxLen ∧ (∀ j, j < n → 0 ≤ ids j ∧ ids j < 18446744073709551616) ∧ ItemsIn w w.heap.size A n ids ws := by
  obtain ⟨a, len, cap, rfl⟩ := okWide_slice ht hv
  obtain ⟨n, hn⟩ := h
  rcases open_slice ht hn with ⟨hcs, _⟩ | ⟨ad, len', cap', m, k, D, PL, hcs, hb, hl, hm, hmm, _, hV⟩
  · simp only [Value.cells, List.cons.injEq, and_true] at hcs
    injection hcs with h1 h2 h3
    subst h1 h2 h3
    exact ⟨none, 0, 0, fun _ => 0, fun _ => 0, rfl, Nat.le_refl _, by unfold maxLen; omega, fun i hi => by omega, .inl rfl⟩
  · simp only [Value.cells, List.cons.injEq, and_true] at hcs
    injection hcs with h1 h2 h3
    subst h1 h2 h3
    have key : ∀ i, i < len → ∃ z : Int × Int, w.cell? (ad.add (i * 2)) = some (.int .u64 z.1) ∧ w.cell? ((ad.add (i * 2)).add 1) = some (.int .i64 z.2) ∧ 0 ≤ z.1 ∧ z.1 < 18446744073709551616 := by
      intro i hi
      obtain ⟨cs', h1, h2⟩ := hV i (by rw [hmm]; split <;> omega)
      obtain ⟨_, _, rfl, ⟨x, rfl, wx⟩, hl2⟩ := leaves_of q _ _ _ _ _ he h2
      obtain ⟨_, _, rfl, ⟨y, rfl, wy⟩, hl3⟩ := hl2
      simp only [Leaves] at hl3
      subst hl3
      rw [hc] at h1
      obtain ⟨_, hlen, hcell⟩ := World.cells?_some h1
      have g0 := hcell 0 (by omega)
      have g1 := hcell 1 (by omega)
      have bx := bounds_u64 wx
      refine ⟨(x, y), ?_, by simpa using g1, bx.1, by dsimp only; omega⟩
      have e0 : (ad.add (i * 2)).add 0 = ad.add (i * 2) := add_add ad (i * 2) 0
      rw [e0] at g0
      simpa using g0
    obtain ⟨Z, hZ⟩ := choose_lt key
    refine ⟨some ad, len, cap, fun i => (Z i).1, fun i => (Z i).2, rfl, hl, hm, fun i hi => (hZ i hi).2.2, ?_⟩
    rcases Nat.eq_zero_or_pos len with h0 | h0
    · exact .inl h0
    · have hc0 := (hZ 0 h0).1
      obtain ⟨blk, off, spot⟩ := ad
      have hs : spot = none := by simpa [Addr.add] using World.cell?_spot hc0
      subst hs
      refine .inr ⟨blk, off, rfl, ?_, fun i hi => ?_⟩
      · have := World.block_lt_of_cell? w _ hc0
        simpa [Addr.add] using this
      · obtain ⟨g0, g1, _⟩ := hZ i hi
        rw [Addr.add_lit] at g0 g1
        rw [Addr.add_lit] at g1
        exact ⟨g0, g1⟩
end
end Go.Proofs.Ytjlochieddhmpaa.base
