/- Layer 10: flags. -/
import Derived.Test.YtgikoljnmmnkkaaConnA
import Derived.Test.YtgikoljnmmnkkaaKeep
import Derived.Deep.RegionHeld3
import Derived.BigQuiet
namespace Go.Proofs.Ytgikoljnmmnkkaa.tcpA
open Go.ChangeShapes Go.WideShapes Go.ChangeAt Go.RowKit
open Go.Proofs.Ytgikoljnmmnkkaa.base Go.Proofs.Ytgikoljnmmnkkaa.connA
set_option linter.unusedVariables false

def halfN (x : Int) : Nat → Int
  | 0 => x
  | k + 1 => halfN x k / 2
theorem halfN_in (x : Int) (h0 : 0 ≤ x) (h1 : x < 9223372036854775808) (k : Nat) : 0 ≤ halfN x k ∧ halfN x k < 9223372036854775808 := by
  induction k with
  | zero => exact ⟨h0, h1⟩
  | succ k ih => unfold halfN; omega
theorem halfN_eq (n k : Nat) : halfN (n : Int) k = ((n / 2 ^ k : Nat) : Int) := by
  induction k with
  | zero => simp [halfN]
  | succ k ih => rw [halfN, ih, Nat.pow_succ, ← Nat.div_div_eq_div_mul]; omega
/-- have the first k bits of y theirs in x? -/
def allB (x y : Int) : Nat → Bool
  | 0 => true
  | k + 1 => if halfN y k % 2 = 1 ∧ halfN x k % 2 = 0 then false else allB x y k
theorem allB_iff (x y n : Nat) : allB (x : Int) (y : Int) n = true ↔ ∀ k, k < n → y.testBit k = true → x.testBit k = true := by
  induction n with
  | zero => simp [allB]
  | succ n ih =>
    unfold allB
    rw [halfN_eq, halfN_eq]
    have tx := Nat.testBit_eq_decide_div_mod_eq (x := x) (i := n)
    have ty := Nat.testBit_eq_decide_div_mod_eq (x := y) (i := n)
    generalize y / 2 ^ n = p at *
    generalize x / 2 ^ n = q at *
    split
    · rename_i h
      simp only [Bool.false_eq_true, false_iff]
      intro h2
      have := h2 n (by omega) (by rw [ty]; simp; omega)
      rw [tx] at this
      simp at this
      omega
    · rename_i h
      rw [ih]
      constructor
      · intro h2 k hk
        rcases Nat.lt_or_ge k n with hlt | hge
        · exact h2 k hlt
        · obtain rfl : k = n := by omega
          intro hy
          rw [ty] at hy
          rw [tx]
          simp at hy ⊢
          omega
      · intro h2 k hk
        exact h2 k (by omega)
theorem has_all (x y : Int) (hx0 : 0 ≤ x) (hx : x < 9223372036854775808) (hy0 : 0 ≤ y) (hy : y < 9223372036854775808) : hasB x y = allB x y 63 := by
  obtain ⟨a, rfl⟩ := Int.eq_ofNat_of_zero_le hx0
  obtain ⟨b, rfl⟩ := Int.eq_ofNat_of_zero_le hy0
  unfold hasB
  rw [i64_and_nat a b (by omega) (by omega), Bool.eq_iff_iff, allB_iff]
  simp only [beq_iff_eq]
  constructor
  · intro h k hk hb
    have h' : a &&& b = b := by omega
    have := congrArg (fun z => z.testBit k) h'
    simp only [Nat.testBit_and, hb, Bool.and_true] at this
    exact this
  · intro h
    have : a &&& b = b := by
      apply Nat.eq_of_testBit_eq
      intro k
      rw [Nat.testBit_and]
      cases hb : b.testBit k with
      | false => simp
      | true =>
        have hk : k < 63 := by
          rcases Nat.lt_or_ge k 63 with hlt | hge
          · exact hlt
          · exfalso
            have h63 : (2 : Nat) ^ 63 ≤ 2 ^ k := Nat.pow_le_pow_right (by decide) hge
            have := Nat.testBit_lt_two_pow (x := b) (i := k) (by omega)
            rw [this] at hb
            cases hb
        simp [h k hk hb]
    omega
/-- and with 21 -/
theorem and21 (f : Int) (h0 : 0 ≤ f) (h1 : f < 9223372036854775808) : (bits .and .i64 f 21 == 0) = (!hasB f 1 && !hasB f 4 && !hasB f 16) := by
  obtain ⟨n, rfl⟩ := Int.eq_ofNat_of_zero_le h0
  have e := i64_and_nat n 21 (by omega) (by omega)
  have a1 := has_pow (n : Int) 0 (by decide) h0 h1
  have a4 := has_pow (n : Int) 2 (by decide) h0 h1
  have a16 := has_pow (n : Int) 4 (by decide) h0 h1
  simp only [Nat.reducePow, Int.cast_ofNat_Int] at a1 a4 a16 e
  have q : bits .and .i64 (n : Int) 21 = ((n &&& 21 : Nat) : Int) := e
  have hand : (n &&& 21) = n % 32 &&& 21 := by
    have h32 : (32 : Nat) = 2 ^ 5 := rfl
    apply Nat.eq_of_testBit_eq
    intro k
    rw [Nat.testBit_and, Nat.testBit_and, h32, Nat.testBit_mod_two_pow]
    by_cases hk : k < 5
    · simp [hk]
    · have : Nat.testBit 21 k = false := Nat.testBit_lt_two_pow (Nat.lt_of_lt_of_le (by decide) (Nat.pow_le_pow_right (by decide) (by omega : 5 ≤ k)))
      simp [this]
  have fin : ∀ m : Nat, m < 32 → ((m &&& 21 == 0) = (!(m % 2 == 1) && !(m / 4 % 2 == 1) && !(m / 16 % 2 == 1))) := by decide
  have f32 := fin (n % 32) (by omega)
  rw [q, hand]
  have b1 : hasB (n : Int) 1 = (n % 32 % 2 == 1) := by
    refine a1.trans ?_
    rw [Bool.eq_iff_iff]; simp; omega
  have b4 : hasB (n : Int) 4 = (n % 32 / 4 % 2 == 1) := by
    refine a4.trans ?_
    rw [Bool.eq_iff_iff]; simp; omega
  have b16 : hasB (n : Int) 16 = (n % 32 / 16 % 2 == 1) := by
    refine a16.trans ?_
    rw [Bool.eq_iff_iff]; simp; omega
  rw [b1, b4, b16, ← f32, Bool.eq_iff_iff]
  simp only [beq_iff_eq]
  omega
end Go.Proofs.Ytgikoljnmmnkkaa.tcpA
