/- Layer 24: the sums of what each level gets. -/
import Derived.Test.YtiagepmfajpbpaaLoadD
namespace Go.Proofs.Ytiagepmfajpbpaa.loadL
open Go.ChangeShapes Go.WideShapes Go.ChangeAt Go.RowKit
open Go.Proofs.Ytiagepmfajpbpaa.base Go.Proofs.Ytiagepmfajpbpaa.loadA Go.Proofs.Ytiagepmfajpbpaa.loadB Go.Proofs.Ytiagepmfajpbpaa.loadC Go.Proofs.Ytiagepmfajpbpaa.loadD
set_option linter.unusedVariables false

theorem sumF_mono (h : Nat → Int) (h0 : ∀ i, 0 ≤ h i) (a m : Nat) : sumF h a ≤ sumF h (a + m) := by
  induction m with
  | zero => exact Int.le_refl _
  | succ m ih =>
    have := h0 (a + m)
    rw [← Nat.add_assoc, sumF]
    omega
theorem left_full (h : Nat → Int) (h0 : ∀ i, 0 ≤ h i) (k : Nat) : leftZ 10000 h k = max 0 (10000 - sumF h k) := by
  induction k with
  | zero => simp only [leftZ, sumF]; omega
  | succ k ih =>
    have a := h0 k
    have e : h k * 10000 / 10000 = h k := Int.mul_ediv_cancel _ (by decide)
    rw [leftZ, partZ, if_pos (by decide), e, ih, sumF]
    omega
theorem cap_full (h : Nat → Int) (h0 : ∀ i, 0 ≤ h i) (i n : Nat) (hi : i ≤ n) (hs : 10000 ≤ sumF h i) : capZ (sumF h n) = 10000 := by
  have := sumF_mono h h0 i (n - i)
  rw [Nat.add_sub_cancel' hi] at this
  unfold capZ
  omega
/-- nothing behind levels that are well enough -/
theorem ofZ_behind (xs : List Int) (n : Nat) (h : Nat → Int) (h0 : ∀ i, 0 ≤ h i) (i : Nat) (hi : i < n) (hs : 10000 ≤ sumF h i) : ofZ xs n (capZ (sumF h n)) h i = 0 := by
  rw [cap_full h h0 i n (by omega) hs, ofZ, left_full h h0 n, left_full h h0 i]
  have m := sumF_mono h h0 i (n - i)
  rw [Nat.add_sub_cancel' (by omega : i ≤ n)] at m
  have e1 : max 0 (10000 - sumF h i) = 0 := by omega
  have e2 : max 0 (10000 - sumF h n) = 0 := by omega
  rw [e1, e2]
  have := part_in 10000 (h i) 0 (by omega)
  simp
  omega
/-- nothing without a host -/
theorem ofZ_bare (xs : List Int) (n : Nat) (S : Int) (h : Nat → Int) (i : Nat) (hh : h i = 0) (hx : xs.getD i 0 = 0) : ofZ xs n S h i = 0 := by
  rw [ofZ, hh, partZ]
  have l0 := (left_in S h i).1
  have hf : ¬ firstP xs n = some i := fun e => by have := (firstP_lt xs n i e).2; omega
  rw [if_neg hf, Int.zero_mul, Int.zero_ediv]
  split <;> omega
theorem firstP_none (xs : List Int) (n : Nat) (h : firstP xs n = none) (i : Nat) (hi : i < n) : ¬ 0 < xs.getD i 0 := by
  induction n with
  | zero => omega
  | succ n ih =>
    rw [firstP] at h
    cases hk : firstP xs n with
    | some j => rw [hk] at h; cases h
    | none =>
      rw [hk] at h
      simp only at h
      split at h
      · cases h
      · rcases Nat.lt_or_ge i n with g | g
        · exact ih hk g
        · obtain rfl : i = n := by omega
          assumption
theorem sumF_zero (v : Nat → Int) (n : Nat) (h : ∀ i, i < n → v i = 0) : sumF v n = 0 := by
  induction n with
  | zero => rfl
  | succ n ih => rw [sumF, ih fun i hi => h i (by omega), h n (by omega)]; rfl
theorem sum_of (xs : List Int) (n : Nat) (S : Int) (h : Nat → Int) (q : Nat) (hq : firstP xs n = some q) (k : Nat) :
    sumF (ofZ xs n S h) k = 10000 - leftZ S h k + if q < k then leftZ S h n else 0 := by
  induction k with
  | zero => simp [sumF, leftZ]
  | succ k ih =>
    rw [sumF, ih, leftZ, ofZ, hq]
    by_cases e : q = k
    · subst e
      simp
      omega
    · have e' : ¬ some q = some k := by simpa using e
      rw [if_neg e']
      by_cases g : q < k
      · rw [if_pos g, if_pos (by omega)]; omega
      · rw [if_neg g, if_neg (by omega)]; omega
/-- all of it together -/
theorem sum_all (xs : List Int) (n : Nat) (S : Int) (h : Nat → Int) (q : Nat) (hq : firstP xs n = some q) : sumF (ofZ xs n S h) n = 10000 := by
  rw [sum_of xs n S h q hq n, if_pos (firstP_lt xs n q hq).1]
  omega
theorem ofZ_first (xs : List Int) (n : Nat) (h : Nat → Int) (h0 : ∀ i, 0 ≤ h i) (hn : 0 < n) (hh : h 0 = 10000) (hx : 0 < xs.getD 0 0) : ofZ xs n (capZ (sumF h n)) h 0 = 10000 := by
  have h1 : sumF h 1 = 10000 := by simp [sumF, hh]
  have m := sumF_mono h h0 1 (n - 1)
  rw [Nat.add_sub_cancel' (by omega : 1 ≤ n)] at m
  rw [cap_full h h0 1 n (by omega) (by omega), ofZ, left_full h h0 n, hh]
  have e2 : max 0 (10000 - sumF h n) = 0 := by omega
  rw [e2]
  simp [partZ, leftZ]
  omega
theorem health_full (x a f : Int) (hx : 0 < x) (ha : x ≤ a) (hf : 100 ≤ f) (hp : 100 * a ≤ f * x) : healthZ x a f = 10000 := by
  unfold healthZ
  rw [if_neg (by omega)]
  have : (10000 : Int) ≤ f * 100 * x / a := by
    apply Int.le_ediv_of_mul_le (by omega)
    have e : f * 100 * x = 100 * (f * x) := by rw [Int.mul_comm f 100, Int.mul_assoc]
    omega
  omega
theorem health_none (a f : Int) : healthZ 0 a f = 0 := by simp [healthZ]
/-- what a level gets, less what is left at the end -/
theorem ofZ_in (xs : List Int) (n : Nat) (S : Int) (h : Nat → Int) (i : Nat) : 0 ≤ ofZ xs n S h i ∧ ofZ xs n S h i ≤ 20000 := by
  have a := left_in S h i
  have b := part_in S (h i) (leftZ S h i) a.1
  have c := left_in S h n
  unfold ofZ
  split <;> omega
end Go.Proofs.Ytiagepmfajpbpaa.loadL
