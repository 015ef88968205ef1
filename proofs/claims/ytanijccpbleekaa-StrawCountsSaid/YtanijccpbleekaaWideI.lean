/- Layer 1: the law on fractions. -/
import Derived.Test.YtanijccpbleekaaWideH
namespace Go.Proofs.Ytanijccpbleekaa.wideI
open Go.ChangeShapes Go.WideShapes Go.ChangeAt Go.RowKit
open Go.Proofs.Ytanijccpbleekaa.base Go.Proofs.Ytanijccpbleekaa.wideB Go.Proofs.Ytanijccpbleekaa.wideC Go.Proofs.Ytanijccpbleekaa.wideD Go.Proofs.Ytanijccpbleekaa.wideF Go.Proofs.Ytanijccpbleekaa.wideG Go.Proofs.Ytanijccpbleekaa.wideH
set_option linter.unusedVariables false

theorem Row2.more {w : World} {B B' : Nat} {A : Option Addr} {xs : List (Int × Int)} (h : Row2 w B A xs) (hB : B ≤ B') : Row2 w B' A xs := by
  rcases h with h | ⟨b, off, rfl, hlt, hc⟩
  · exact .inl h
  · exact .inr ⟨b, off, rfl, by omega, hc⟩
/-- Is none of the first k ahead of i? -/
def firstTo (l : List (Int × Int)) (i : Nat) : Nat → Bool
  | 0 => true
  | k + 1 => firstTo l i k && !(decide (cf (l.getD k (0, 0)) (l.getD i (0, 0)) < 0) || (cf (l.getD k (0, 0)) (l.getD i (0, 0)) == 0 && decide (k < i)))
theorem firstTo_all (l : List (Int × Int)) (i : Nat) : ∀ n, firstTo l i n = true ↔ ∀ k, k < n → cf (l.getD i (0, 0)) (l.getD k (0, 0)) ≤ 0 ∧ (k < i → cf (l.getD i (0, 0)) (l.getD k (0, 0)) < 0)
  | 0 => by simp [firstTo]
  | n + 1 => by
    have ih := firstTo_all l i n
    have h4 := cf_neg (l.getD n (0, 0)) (l.getD i (0, 0))
    have e : (!(decide (cf (l.getD n (0, 0)) (l.getD i (0, 0)) < 0) || (cf (l.getD n (0, 0)) (l.getD i (0, 0)) == 0 && decide (n < i)))) = true ↔ (cf (l.getD i (0, 0)) (l.getD n (0, 0)) ≤ 0 ∧ (n < i → cf (l.getD i (0, 0)) (l.getD n (0, 0)) < 0)) := by
      rw [h4]
      generalize cf (l.getD n (0, 0)) (l.getD i (0, 0)) = z
      simp only [Bool.not_eq_true', Bool.or_eq_false_iff, Bool.and_eq_false_iff, decide_eq_false_iff_not, beq_eq_false_iff_ne]
      constructor
      · rintro ⟨h1, h2⟩
        refine ⟨by omega, fun h => ?_⟩
        rcases h2 with h2 | h2
        · omega
        · exact absurd h h2
      · rintro ⟨h1, h2⟩
        refine ⟨by omega, ?_⟩
        by_cases h : n < i
        · have := h2 h; exact .inl (by omega)
        · exact .inr h
    unfold firstTo
    rw [Bool.and_eq_true, ih, e]
    constructor
    · rintro ⟨h1, h2⟩ k hk
      rcases Nat.lt_or_ge k n with h | h
      · exact h1 k h
      · have : k = n := by omega
        subst this
        exact h2
    · intro h
      exact ⟨fun k hk => h k (by omega), h n (by omega)⟩
theorem least_some {l : List (Int × Int)} {n : Nat} (h : 0 < n) : ∃ j, least l n = some j := by
  cases hm : least l n with
  | none => have := least_none hm; omega
  | some j => exact ⟨j, rfl⟩
def bestAt (L : Option Nat) (i : Nat) : Int := match L with
  | none => -1
  | some j => if j < i then j else -1
theorem best_next {l : List (Int × Int)} (hg : ∀ i, good (l.getD i (0, 0))) {n i : Nat} (hi : i < n) : bestAt (least l n) (i + 1) = if firstTo l i n = true then (i : Int) else bestAt (least l n) i := by
  obtain ⟨j, hj⟩ := least_some (l := l) (n := n) (by omega)
  have h1 := least_is l hg n j hj
  rw [hj]
  by_cases h : firstTo l i n = true
  · rw [if_pos h]
    have h2 : isLeast l n i := ⟨hi, (firstTo_all l i n).1 h⟩
    have := least_one h1 h2
    subst this
    simp [bestAt]
  · rw [if_neg h]
    have hne : j ≠ i := by
      rintro rfl
      exact h ((firstTo_all l j n).2 h1.2)
    unfold bestAt
    simp only
    by_cases h3 : j < i
    · rw [if_pos h3, if_pos (by omega)]
    · rw [if_neg h3, if_neg (by omega)]
theorem best_end {l : List (Int × Int)} (hg : ∀ i, good (l.getD i (0, 0))) (n : Nat) : bestAt (least l n) n = place (least l n) := by
  cases hm : least l n with
  | none => rfl
  | some j =>
    have h1 := (least_is l hg n j hm).1
    simp [bestAt, place, h1]
theorem elems {W : World} {p1 p2 p3 p4 : Addr} {x y u v : Value} (h1 : W.cell? p1 = some x) (h2 : W.cell? p2 = some y) (h3 : W.cell? p3 = some u) (h4 : W.cell? p4 = some v) :
    Below W.heap.size W W.drew ∧ W.drew.cell? p1 = some x ∧ W.drew.cell? p2 = some y ∧ W.drew.cell? p3 = some u ∧ W.drew.cell? p4 = some v := ⟨(Below.refl _ _).drew, h1, h2, h3, h4⟩

end Go.Proofs.Ytanijccpbleekaa.wideI
