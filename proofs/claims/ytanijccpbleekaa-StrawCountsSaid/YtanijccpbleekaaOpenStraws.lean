/- Slices of items (two numbers without a sign) that came in. -/
import Derived.Test.YtanijccpbleekaaOpenRows
import Derived.Test.YtanijccpbleekaaStrB
namespace Go.Proofs.Ytanijccpbleekaa.base
open Go.RowKit Go.WideShapes Go.ChangeShapes Go.Joins Go.Deep
open Go.Proofs.Ytanijccpbleekaa.wideG Go.Proofs.Ytanijccpbleekaa.wideH
set_option linter.unusedVariables false
section
variable {H : Type} {enc : TypeId × Value → H} {P : Program} {w : World} {base b0 : Nat} {held : Bool} {spare : Nat → Bool}
theorem two_of {z : List Value} (h : Leaves enc P w base spare held [.int .u64, .int .u64] z) : ∃ x : Int × Int, z = [.int .u64 x.1, .int .u64 x.2] ∧ good x := by
  obtain ⟨_, _, rfl, ⟨p, rfl, wp⟩, h⟩ := h
  obtain ⟨_, _, rfl, ⟨a, rfl, wa⟩, h⟩ := h
  simp only [Leaves] at h
  subst h
  have b1 := bounds_u64 wp
  have b2 := bounds_u64 wa
  exact ⟨(p, a), rfl, ⟨by omega, by omega⟩, by omega, by omega⟩
theorem open_straws {r : Reach} {t e : TypeId} {v : Value} {d : DataW H} {p : List MemPlace} (q : Nat) (ht : P.underlying t = some (.slice e)) (he : leafs P q e = some [.int .u64, .int .u64]) (hc : P.cellsOf e = 2)
    (hv : Value.okWide P w r b0 t v) (h : DataW.Trod enc P w base (fun _ => true) held t v d p) :
    ∃ (A : Option Addr) (n c : Nat) (f : Nat → Int × Int), v = .slice A n c ∧ n ≤ c ∧ c ≤ maxLen ∧ (∀ j, j < n → good (f j)) ∧ RowsOf w A n 2 (fun j => [.int .u64 (f j).1, .int .u64 (f j).2]) := by
  obtain ⟨A, n, c, g, h1, h2, h3, _, h5, h6⟩ := open_rows q 2 [.int .u64, .int .u64] ht he hc (by omega) hv h
  have key : ∀ j, j < n → ∃ x : Int × Int, g j = [.int .u64 x.1, .int .u64 x.2] ∧ good x := fun j hj => two_of (h5 j hj).1
  obtain ⟨f, hf⟩ := choose_lt key
  refine ⟨A, n, c, f, h1, h2, h3, fun j hj => (hf j hj).2, ?_⟩
  rcases h6 with h0 | ⟨b, off, k1, k2, k3⟩
  · exact .inl h0
  · refine .inr ⟨b, off, k1, k2, fun j hj i hi => ?_⟩
    rw [k3 j hj i hi, (hf j hj).1]
theorem row2_of {A : Option Addr} {n : Nat} {f : Nat → Int × Int} (h : RowsOf w A n 2 (fun j => [.int .u64 (f j).1, .int .u64 (f j).2])) (m : Nat) (hm : m ≤ n) : Row2 w w.heap.size A ((List.range m).map f) := by
  rcases h with h0 | ⟨b, off, h1, h2, h3⟩
  · refine .inl ?_
    have : m = 0 := by omega
    subst this
    rfl
  · refine .inr ⟨b, off, h1, h2, fun j hj => ?_⟩
    have hj2 : j < m := by simpa using hj
    have e : ((List.range m).map f).getD j (0, 0) = f j := by rw [List.getD_eq_getElem?_getD]; simp [hj2]
    rw [e]
    exact ⟨h3 j (by omega) 0 (by omega), h3 j (by omega) 1 (by omega)⟩
theorem good_of {n : Nat} {f : Nat → Int × Int} (h : ∀ j, j < n → good (f j)) (m : Nat) (hm : m ≤ n) : ∀ i, good (((List.range m).map f).getD i (0, 0)) := fun i => by
  rw [List.getD_eq_getElem?_getD]
  by_cases hi : i < m
  · simp only [List.getElem?_map, List.getElem?_range hi, Option.map_some, Option.getD_some]
    exact h i (by omega)
  · rw [List.getElem?_eq_none (by simpa using hi)]
    exact ⟨⟨by decide, by decide⟩, by decide, by decide⟩
end
/-- What came in, cut to 30. -/
theorem straws_cut {w : World} {A : Option Addr} {n c : Nat} {f : Nat → Int × Int} (h1 : n ≤ c) (h2 : c ≤ maxLen) (hg : ∀ j, j < n → good (f j)) (hr : RowsOf w A n 2 (fun j => [.int .u64 (f j).1, .int .u64 (f j).2])) :
    ∃ l : List (Int × Int), l.length ≤ 30 ∧ l.length ≤ c ∧ c ≤ 9223372036854775807 ∧ (∀ i, good (l.getD i (0, 0))) ∧ Row2 w w.heap.size A l ∧ ∀ W, Calls Try.prog 11 #[.slice A n c] W fun o w' => o = .returned (.slice A l.length c) ∧ W = w' := by
  unfold maxLen at h2
  by_cases hn : n ≤ 30
  · refine ⟨(List.range n).map f, by simpa using hn, by simpa using h1, by omega, good_of hg n (Nat.le_refl _), row2_of hr n (Nat.le_refl _), fun W => ?_⟩
    rw [List.length_map, List.length_range]
    exact Go.Proofs.Ytanijccpbleekaa.strB.few_small A n c W hn
  · refine ⟨(List.range 30).map f, by simp, by simp; omega, by omega, good_of hg 30 (by omega), row2_of hr 30 (by omega), fun W => ?_⟩
    rw [List.length_map, List.length_range]
    rcases hr with h0 | ⟨b, off, hA, _, _⟩
    · omega
    · subst hA
      exact Go.Proofs.Ytanijccpbleekaa.strB.few_big b off n c W (by omega) h1 (by omega)
end Go.Proofs.Ytanijccpbleekaa.base
