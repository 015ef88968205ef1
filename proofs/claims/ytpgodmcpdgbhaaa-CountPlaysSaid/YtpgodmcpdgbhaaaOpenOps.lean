/- A slice of structs of two whole numbers that came in. -/
import Derived.Test.YtpgodmcpdgbhaaaLeaf
import Derived.Test.YtpgodmcpdgbhaaaRateE
namespace Go.Proofs.Ytpgodmcpdgbhaaa.base
open Go.RowKit Go.WideShapes Go.ChangeShapes Go.Joins Go.Deep
open Go.Proofs.Ytpgodmcpdgbhaaa.rateE
set_option linter.unusedVariables false
section
variable {H : Type} {enc : TypeId × Value → H} {P : Program} {w : World} {base b0 : Nat} {held : Bool}
theorem open_ops {r : Reach} {t e : TypeId} {v : Value} {d : DataW H} {p : List MemPlace} (q : Nat) (ht : P.underlying t = some (.slice e)) (he : leafs P q e = some [.int .i64, .int .i64]) (hc : P.cellsOf e = 2)
    (hv : Value.okWide P w r b0 t v) (h : DataW.Trod enc P w base (fun _ => true) held t v d p) :
    ∃ (A : Option Addr) (n c : Nat) (l : List (Int × Int)), v = .slice A n c ∧ l.length = n ∧ n ≤ c ∧ c ≤ maxLen ∧ ok64 l ∧ RowP w w.heap.size A l := by
  obtain ⟨a, len, cap, rfl⟩ := okWide_slice ht hv
  obtain ⟨n, hn⟩ := h
  rcases open_slice ht hn with ⟨hcs, _⟩ | ⟨ad, len', cap', m, k, D, PL, hcs, hb, hl, hm, hmm, _, hV⟩
  · simp only [Value.cells, List.cons.injEq, and_true] at hcs
    injection hcs with h1 h2 h3
    subst h1 h2 h3
    exact ⟨none, 0, 0, [], rfl, rfl, Nat.le_refl _, by unfold maxLen; omega, fun i hi => absurd hi (by simp), .inl rfl⟩
  · simp only [Value.cells, List.cons.injEq, and_true] at hcs
    injection hcs with h1 h2 h3
    subst h1 h2 h3
    have key : ∀ i, i < len → ∃ z : Int × Int, w.cell? (ad.add (i * 2)) = some (.int .i64 z.1) ∧ w.cell? ((ad.add (i * 2)).add 1) = some (.int .i64 z.2) ∧ -9223372036854775808 ≤ z.2 ∧ z.2 < 9223372036854775808 := by
      intro i hi
      obtain ⟨cs', h1, h2⟩ := hV i (by rw [hmm]; split <;> omega)
      obtain ⟨_, _, rfl, ⟨x, rfl, wx⟩, hl2⟩ := leaves_of q _ _ _ _ _ he h2
      obtain ⟨_, _, rfl, ⟨y, rfl, wy⟩, hl3⟩ := hl2
      simp only [Leaves] at hl3
      subst hl3
      rw [hc] at h1
      obtain ⟨_, hlen, hcell⟩ := World.cells?_some h1
      have g0 := hcell 0 (by omega)
      have g1 := hcell 1 (by omega)
      have bx := bounds_i64 wy
      refine ⟨(x, y), ?_, by simpa using g1, bx.1, by dsimp only; omega⟩
      have e0 : (ad.add (i * 2)).add 0 = ad.add (i * 2) := add_add ad (i * 2) 0
      rw [e0] at g0
      simpa using g0
    obtain ⟨Z, hZ⟩ := choose_lt key
    have hget : ∀ i, i < len → ((List.range len).map Z).getD i (0, 0) = Z i := fun i hi => by simp [List.getD, hi]
    refine ⟨some ad, len, cap, (List.range len).map Z, rfl, by simp, hl, hm, fun i hi => ?_, ?_⟩
    · have hi' : i < len := by simpa using hi
      rw [hget i hi']
      exact (hZ i hi').2.2
    · rcases Nat.eq_zero_or_pos len with h0 | h0
      · exact .inl (by simp [h0])
      · have hc0 := (hZ 0 h0).1
        obtain ⟨blk, off, spot⟩ := ad
        have hs : spot = none := by simpa [Addr.add] using World.cell?_spot hc0
        subst hs
        refine .inr ⟨blk, off, rfl, ?_, fun i hi => ?_⟩
        · have := block_lt hc0
          simpa [Addr.add] using this
        · have hi' : i < len := by simpa using hi
          rw [hget i hi']
          obtain ⟨g0, g1, _⟩ := hZ i hi'
          rw [Addr.add_lit] at g0 g1
          rw [Addr.add_lit] at g1
          exact ⟨g0, g1⟩
end
section
variable {H : Type} {enc : TypeId × Value → H} {w : World} {base b0 : Nat} {spare : Nat → Bool} {held : Bool}
end
end Go.Proofs.Ytpgodmcpdgbhaaa.base
