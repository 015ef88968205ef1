/- Layer 39: primes. -/
import Derived.Test.YtboknpkcpeoebaaBase
namespace Go.Proofs.Ytboknpkcpeoebaa.ringA
open Go.ChangeShapes Go.WideShapes Go.ChangeAt Go.RowKit
open Go.Proofs.Ytboknpkcpeoebaa.base
set_option linter.unusedVariables false

/-- A prime. -/
def Pr (n : Nat) : Prop := 2 ≤ n ∧ ∀ k, 2 ≤ k → k * k ≤ n → n % k ≠ 0
/-- No number from 2 on below k divides n. -/
def NoDiv (n k : Nat) : Prop := ∀ j, 2 ≤ j → j < k → n % j ≠ 0
theorem noDiv_two (n : Nat) : NoDiv n 2 := fun j h1 h2 => by omega
theorem noDiv_next {n k : Nat} (h : NoDiv n k) (h2 : n % k ≠ 0) : NoDiv n (k + 1) := by
  intro j h3 h4
  by_cases e : j = k
  · subst e; exact h2
  · exact h j h3 (by omega)
theorem pr_of {n k : Nat} (h2 : 2 ≤ n) (h : NoDiv n k) (hk : n < k * k) : Pr n := by
  refine ⟨h2, fun j h3 h4 => h j h3 ?_⟩
  rcases Nat.lt_or_ge j k with hlt | hge
  · exact hlt
  · have := Nat.mul_le_mul hge hge
    omega
theorem not_pr {n k : Nat} (h2 : 2 ≤ k) (hk : k * k ≤ n) (h0 : n % k = 0) : ¬ Pr n := fun h => h.2 k h2 hk h0
def prB (n : Nat) : Bool := decide (2 ≤ n) && (List.range (n + 1)).all fun k => decide (k < 2) || decide (n < k * k) || n % k != 0
theorem prB_iff (n : Nat) : prB n = true ↔ Pr n := by
  unfold prB Pr
  rw [Bool.and_eq_true, decide_eq_true_iff, List.all_eq_true]
  constructor
  · rintro ⟨h, h2⟩
    refine ⟨h, fun k hk hkn => ?_⟩
    have hk1 : k ≤ k * k := Nat.le_mul_of_pos_left k (by omega)
    have := h2 k (List.mem_range.mpr (by omega))
    simp at this
    omega
  · rintro ⟨h, h2⟩
    refine ⟨h, fun k hk => ?_⟩
    by_cases a : k < 2
    · simp [a]
    · by_cases b : n < k * k
      · simp [b]
      · have := h2 k (by omega) (by omega)
        simp [this]
theorem prB_true {n : Nat} (h : Pr n) : prB n = true := (prB_iff n).mpr h
theorem prB_false {n : Nat} (h : ¬ Pr n) : prB n = false := by
  cases e : prB n
  · rfl
  · exact absurd ((prB_iff n).mp e) h
/-- Odd numbers have no even ones among their divisors. -/
theorem odd_step {n by_ : Nat} (hn : n % 2 = 1) (hb : by_ % 2 = 1) (h : NoDiv n by_) (h0 : n % by_ ≠ 0) : NoDiv n (by_ + 2) := by
  have h1 := noDiv_next h h0
  refine noDiv_next h1 fun e => ?_
  have hd : by_ + 1 ∣ n := Nat.dvd_of_mod_eq_zero e
  obtain ⟨c, hc⟩ := hd
  have h2 : 2 ∣ by_ + 1 := ⟨(by_ + 1) / 2, by omega⟩
  have : 2 ∣ n := by rw [hc]; exact Nat.dvd_trans h2 (Nat.dvd_mul_right _ _)
  omega
theorem noDiv_three {n : Nat} (hn : n % 2 = 1) : NoDiv n 3 := noDiv_next (noDiv_two n) (by omega)
theorem even_not {n : Nat} (h : n % 2 = 0) (h2 : n ≠ 2) : ¬ Pr n := by
  intro hp
  by_cases e : n < 4
  · have := hp.1; omega
  · exact hp.2 2 (by omega) (by omega) h
theorem two_pr : Pr 2 := ⟨by omega, fun k hk hk2 => by have := Nat.mul_le_mul hk hk; omega⟩
theorem few_not {n : Nat} (h : n < 2) : ¬ Pr n := fun hp => by have := hp.1; omega
theorem root_bound (k b n : Nat) (h : k * k ≤ n) (hb : n < b * b) : k < b := by
  rcases Nat.lt_or_ge k b with hlt | hge
  · exact hlt
  · have := Nat.mul_le_mul hge hge; omega
theorem div_lt_iff (n k : Nat) (hk : 0 < k) : n / k < k ↔ n < k * k := Nat.div_lt_iff_lt_mul hk
theorem div_mul_eq (n k : Nat) (hk : 0 < k) : n / k * k = n ↔ n % k = 0 := by
  constructor
  · intro h; rw [← h]; exact Nat.mul_mod_left _ _
  · intro h; exact Nat.div_mul_cancel (Nat.dvd_of_mod_eq_zero h)
end Go.Proofs.Ytboknpkcpeoebaa.ringA
