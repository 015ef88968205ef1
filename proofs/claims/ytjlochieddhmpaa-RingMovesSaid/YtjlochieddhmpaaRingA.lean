/- Layer 39: primes. -/
import Derived.Test.YtjlochieddhmpaaBase
namespace Go.Proofs.Ytjlochieddhmpaa.ringA
open Go.ChangeShapes Go.WideShapes Go.ChangeAt Go.RowKit
open Go.Proofs.Ytjlochieddhmpaa.base
set_option linter.unusedVariables false

/-- A prime. -/
def Pr (n : Nat) : Prop := 2 ≤ n ∧ ∀ k, 2 ≤ k → k * k ≤ n → n % k ≠ 0
/-- No number from 2 on below k divides n. -/
def NoDiv (n k : Nat) : Prop := ∀ j, 2 ≤ j → j < k → n % j ≠ 0
theorem noDiv_two (n : Nat) : NoDiv n 2 := fun j h1 h2 => by omega
theorem noDiv_next {n k : Nat} (h : NoDiv n k) (h2 : n % k ≠ 0) : NoDiv n (k + 1) := by
  intro j h3 h4
  by_cases e : j = k
  · subst e; exact h2
  · exact h j h3 (by omega)
theorem pr_of {n k : Nat} (h2 : 2 ≤ n) (h : NoDiv n k) (hk : n < k * k) : Pr n := by
  refine ⟨h2, fun j h3 h4 => h j h3 ?_⟩
  rcases Nat.lt_or_ge j k with hlt | hge
  · exact hlt
  · have := Nat.mul_le_mul hge hge
    omega
theorem not_pr {n k : Nat} (h2 : 2 ≤ k) (hk : k * k ≤ n) (h0 : n % k = 0) : ¬ Pr n := fun h => h.2 k h2 hk h0
def prB (n : Nat) : Bool := decide (2 ≤ n) && (List.range (n + 1)).all fun k => decide (k < 2) || decide (n < k * k) || n % k != 0
theorem prB_iff (n : Nat) : prB n = true ↔ Pr n := by
  unfold prB Pr
  rw [Bool.and_eq_true, decide_eq_true_iff, List.all_eq_true]
  constructor
  · rintro ⟨h, h2⟩
    refine ⟨h, fun k hk hkn => ?_⟩
    have hk1 : k ≤ k * k := Nat.le_mul_of_pos_left k (by omega)
    have := h2 k (List.mem_range.mpr (by omega))
    simp at this
    omega
  · rintro ⟨h, h2⟩
    refine ⟨h, fun k hk => ?_⟩
    by_cases a : k < 2
    · simp [a]
    · by_cases b : n < k * k
      · simp [b]
      · have := h2 k (by omega) (by omega)
        simp [this]
theorem prB_true {n : Nat} (h : Pr n) : prB n = true := (prB_iff n).mpr h
theorem prB_false {n : Nat} (h : ¬ Pr n) : prB n = false := by
  cases e : prB n
  · rfl
  · exact absurd ((prB_iff n).mp e) h
/-- Odd numbers have no even ones among their divisors. -/
theorem odd_step {n by_ : Nat} (hn : n % 2 = 1) (hb : by_ % 2 = 1) (h : NoDiv n by_) (h0 : n % by_ ≠ 0) : NoDiv n (by_ + 2) := by
  have h1 := noDiv_next h h0
  refine noDiv_next h1 fun e => ?_
  have hd : by_ + 1 ∣ n := Nat.dvd_of_mod_eq_zero e
  obtain ⟨c, hc⟩ := hd
  have h2 : 2 ∣ by_ + 1 := ⟨(by_ + 1) / 2, by omega⟩
  have : 2 ∣ n := by rw [hc]; exact Nat.dvd_trans h2 (Nat.dvd_mul_right _ _)
  omega
theorem noDiv_three {n : Nat} (hn : n % 2 = 1) : NoDiv n 3 := noDiv_next (noDiv_two n) (by omega)
theorem even_not {n : Nat} (h : n % 2 = 0) (h2 : n ≠ 2) : ¬ Pr n := by
  intro hp
  by_cases e : n < 4
  · have := hp.1; omega
  · exact hp.2 2 (by omega) (by omega) h
theorem two_pr : Pr 2 := ⟨by omega, fun k hk hk2 => by have := Nat.mul_le_mul hk hk; omega⟩
theorem few_not {n : Nat} (h : n < 2) : ¬ Pr n := fun hp => by have := hp.1; omega
theorem root_bound (k b n : Nat) (h : k * k ≤ n) (hb : n < b * b) : k < b := by
  rcases Nat.lt_or_ge k b with hlt | hge
  · exact hlt
  · have := Nat.mul_le_mul hge hge; omega
theorem div_lt_iff (n k : Nat) (hk : 0 < k) : n / k < k ↔ n < k * k := Nat.div_lt_iff_lt_mul hk
theorem div_mul_eq (n k : Nat) (hk : 0 < k) : n / k * k = n ↔ n % k = 0 := by
  constructor
  · intro h; rw [← h]; exact Nat.mul_mod_left _ _
  · intro h; exact Nat.div_mul_cancel (Nat.dvd_of_mod_eq_zero h)
theorem lawprime_few (n : Int) (h : n < 2) (w : World) :
    Calls Try.prog 7 #[.int .i64 n] w fun e w' => e = .returned (.bool false) ∧ w = w' := by
  have q0 : decide (n < 2) = true := decide_eq_true h
  clear h
  go_enter Try.func7, Try.ntmps7
  go_wp2
  go_ret
  exact ⟨rfl, rfl⟩
theorem lawprime_any (n : Nat) (h2 : 2 ≤ n) (hn : n ≤ 2097152) (w : World) :
    Calls Try.prog 7 #[.int .i64 n] w fun e w' => e = .returned (.bool (prB n)) ∧ w = w' := by
  have q0 : decide ((n : Int) < 2) = false := decide_eq_false (by omega)
  obtain ⟨r, hr⟩ : ∃ r, r = prB n := ⟨_, rfl⟩
  have HR := Lib.hid (show (Pr n → r = true) ∧ (¬ Pr n → r = false) from ⟨fun h => by rw [hr]; exact prB_true h, fun h => by rw [hr]; exact prB_false h⟩)
  rw [← hr]
  clear hr
  go_enter Try.func7, Try.ntmps7
  go_wp2_with fail
  go_loop [3] (fun i => ∃ k : Nat, 2 ≤ k ∧ k ≤ 1500 ∧ k ≤ n + 1 ∧ i = .int .i64 k ∧ Hid (NoDiv n k)) (fun i => n + 2 - (intOf i).toNat)
  case atStart => exact ⟨2, by omega, by omega, by omega, rfl, noDiv_two n⟩
  case round =>
    obtain ⟨k, k2, kb, kn, rfl, HD⟩ := hrel
    have kk : (k : Int) * (k : Int) = ((k * k : Nat) : Int) := by rw [Int.natCast_mul]
    have kb2 : k * k ≤ 1500 * 1500 := Nat.mul_le_mul kb kb
    have e1 : IntKind.i64.wrap ((k : Int) * (k : Int)) = ((k * k : Nat) : Int) := by rw [kk]; exact IntWalk.i64_in _ (by omega)
    by_cases hlt : k * k ≤ n
    · have q1 : decide (((k * k : Nat) : Int) ≤ (n : Int)) = true := decide_eq_true (by omega)
      have hb := root_bound k 1449 n hlt (by omega)
      have hkn : k ≤ n := Nat.le_trans (Nat.le_mul_of_pos_left k (by omega)) hlt
      by_cases h0 : n % k = 0
      · have q2 : ((n : Int) % (k : Int) == 0) = true := by simp; omega
        have HF := Lib.hid (HR.out.2 (not_pr k2 hlt h0))
        have q4 : decide (k * k ≤ n) = true := decide_eq_true hlt
        have q5 : (n % k == 0) = true := by simpa using h0
        clear kk kb2 hb
        generalize k * k = s at *
        go_wp2_with fail
        go_ret
        exact ⟨by rw [HF.out]; rfl, rfl⟩
      · have q2 : ((n : Int) % (k : Int) == 0) = false := by simp; omega
        have HN := Lib.hid (noDiv_next HD h0)
        have q4 : decide (k * k ≤ n) = true := decide_eq_true hlt
        have q5 : (n % k == 0) = false := by simpa using h0
        clear kk kb2
        generalize k * k = s at *
        go_wp2_with fail
        go_round
        case rel => exact ⟨k + 1, by omega, by omega, by omega, by go_num, HN.out⟩
        case measure => simp [intOf]; omega
    · have q1 : decide (((k * k : Nat) : Int) ≤ (n : Int)) = false := decide_eq_false (by omega)
      have HF := Lib.hid (HR.out.1 (pr_of h2 HD (by omega)))
      have q4 : decide (k * k ≤ n) = false := decide_eq_false hlt
      clear kk kb2
      generalize k * k = s at *
      go_wp2_with fail
      go_ret
      exact ⟨by rw [HF.out]; rfl, rfl⟩
theorem prime_few (n : Int) (h : n < 2) (w : World) :
    Calls Try.prog 6 #[.int .i64 n] w fun e w' => e = .returned (.bool false) ∧ w = w' := by
  have q0 : decide (n < 2) = true := decide_eq_true h
  have q1 : (n == 2) = false := by simp; omega
  clear h
  go_enter Try.func6, Try.ntmps6
  go_wp2
  go_ret
  exact ⟨rfl, rfl⟩
theorem prime_any (n : Nat) (h2 : 2 ≤ n) (hn : n ≤ 2097152) (w : World) :
    Calls Try.prog 6 #[.int .i64 n] w fun e w' => e = .returned (.bool (prB n)) ∧ w = w' := by
  have q0 : decide ((n : Int) < 2) = false := decide_eq_false (by omega)
  obtain ⟨r, hr⟩ : ∃ r, r = prB n := ⟨_, rfl⟩
  have HR := Lib.hid (show (Pr n → r = true) ∧ (¬ Pr n → r = false) from ⟨fun h => by rw [hr]; exact prB_true h, fun h => by rw [hr]; exact prB_false h⟩)
  rw [← hr]
  clear hr
  by_cases hev : n % 2 = 0
  · have q1 : ((n : Int) % 2 == 0) = true := by simp; omega
    by_cases e2 : n = 2
    · subst e2
      have HF := Lib.hid (HR.out.1 two_pr)
      go_enter Try.func6, Try.ntmps6
      go_wp2
      go_ret
      exact ⟨by rw [HF.out]; rfl, rfl⟩
    · have HF := Lib.hid (HR.out.2 (even_not hev e2))
      have q2 : ((n : Int) == 2) = false := by simp; omega
      go_enter Try.func6, Try.ntmps6
      go_wp2
      go_ret
      exact ⟨by rw [HF.out]; rfl, rfl⟩
  · have q1 : ((n : Int) % 2 == 0) = false := by simp; omega
    have hodd : n % 2 = 1 := by omega
    have HO := Lib.hid hodd
    clear hev
    go_enter Try.func6, Try.ntmps6
    go_wp2_with fail
    go_loop [3, 4] (fun i _ => ∃ k : Nat, 3 ≤ k ∧ k ≤ 1500 ∧ k ≤ n + 2 ∧ i = .int .i64 k ∧ k % 2 = 1 ∧ Hid (NoDiv n k)) (fun i _ => n + 3 - (intOf i).toNat)
    case atStart => exact ⟨3, by omega, by omega, by omega, rfl, by omega, noDiv_three hodd⟩
    case round =>
      obtain ⟨k, k3, kb, kn, rfl, ko, HD⟩ := hrel
      have ed : (n : Int) / (k : Int) = ((n / k : Nat) : Int) := by rw [Int.natCast_ediv]
      have et : (n : Int).tdiv (k : Int) = ((n / k : Nat) : Int) := by rw [Int.tdiv_eq_ediv_of_nonneg (by omega), ed]
      have hds := Nat.div_le_self n k
      have e3 : IntKind.i64.wrap ((n / k : Nat) : Int) = ((n / k : Nat) : Int) := IntWalk.i64_in _ (by generalize n / k = d at *; omega)
      clear hds
      by_cases hlt : n / k < k
      · have q2 : decide (((n / k : Nat) : Int) < (k : Int)) = true := decide_eq_true (by omega)
        have HF := Lib.hid (HR.out.1 (pr_of h2 HD ((div_lt_iff n k (by omega)).mp hlt)))
        have q4 : decide (n / k < k) = true := decide_eq_true hlt
        clear ed
        generalize n / k = d at *
        go_wp2_with fail
        go_ret
        exact ⟨by rw [HF.out]; rfl, rfl⟩
      · have q2 : decide (((n / k : Nat) : Int) < (k : Int)) = false := decide_eq_false (by omega)
        have hle : k * k ≤ n := by
          rcases Nat.lt_or_ge n (k * k) with h | h
          · exact absurd ((div_lt_iff n k (by omega)).mpr h) hlt
          · exact h
        have hb := root_bound k 1449 n hle (by omega)
        have hkn : k ≤ n := Nat.le_trans (Nat.le_mul_of_pos_left k (by omega)) hle
        have hdm : n / k * k ≤ n := Nat.div_mul_le_self n k
        have em : ((n / k : Nat) : Int) * (k : Int) = ((n / k * k : Nat) : Int) := by rw [Int.natCast_mul]
        have e4 : IntKind.i64.wrap (((n / k : Nat) : Int) * (k : Int)) = ((n / k * k : Nat) : Int) := by rw [em]; exact IntWalk.i64_in _ (by omega)
        by_cases h0 : n / k * k = n
        · have q3 : (((n / k * k : Nat) : Int) == (n : Int)) = true := by rw [h0]; simp
          have HF := Lib.hid (HR.out.2 (not_pr (by omega) hle ((div_mul_eq n k (by omega)).mp h0)))
          clear ed em hle hdm
          generalize n / k * k = m at *
          generalize n / k = d at *
          go_wp2_with fail
          go_ret
          exact ⟨by rw [HF.out]; rfl, rfl⟩
        · have q3 : (((n / k * k : Nat) : Int) == (n : Int)) = false := by rw [beq_eq_false_iff_ne]; exact fun h => h0 (Int.ofNat.inj h)
          have HN := Lib.hid (odd_step HO.out ko HD (fun h => h0 ((div_mul_eq n k (by omega)).mpr h)))
          clear ed em hle hdm
          generalize n / k * k = m at *
          generalize n / k = d at *
          go_wp2_with fail
          go_round
          case rel => exact ⟨k + 2, by omega, by omega, by omega, by go_num, by omega, HN.out⟩
          case measure => simp [intOf]; omega
end Go.Proofs.Ytjlochieddhmpaa.ringA
