/- Layer 1: the order of fractions, and the least of any (no walk). -/
import Derived.Test.YtanijccpbleekaaWideF
namespace Go.Proofs.Ytanijccpbleekaa.wideG
open Go.ChangeShapes Go.WideShapes Go.ChangeAt Go.RowKit
open Go.Proofs.Ytanijccpbleekaa.base Go.Proofs.Ytanijccpbleekaa.wideC Go.Proofs.Ytanijccpbleekaa.wideF
set_option linter.unusedVariables false

def cf (a b : Int × Int) : Int := cmpF a.1 a.2 b.1 b.2
def good (a : Int × Int) : Prop := (0 ≤ a.1 ∧ a.1 < 18446744073709551616) ∧ 0 ≤ a.2 ∧ a.2 < 18446744073709551616
theorem cf_neg (a b : Int × Int) : cf b a = - cf a b := cmpF_neg _ _ _ _
theorem cf_le (a b : Int × Int) : cf a b ≤ 0 ↔ (b.2 = 0 ∨ (a.2 ≠ 0 ∧ a.1 * b.2 ≤ b.1 * a.2)) := by
  unfold cf cmpF cmpI
  generalize a.1 * b.2 = p
  generalize b.1 * a.2 = q
  by_cases h : a.2 = 0 <;> by_cases h2 : b.2 = 0
  · simp [h, h2]
  · have h3 : ¬ (0 = b.2) := fun e => h2 e.symm
    simp [h, h2, h3]
  · simp [h, h2]
  · simp only [h, h2, or_self, if_false, false_or, not_false_eq_true, true_and, ne_eq]
    split
    · constructor <;> intro <;> omega
    · split
      · constructor <;> intro <;> omega
      · constructor <;> intro <;> omega
theorem cf_trans {a b c : Int × Int} (ha : good a) (hb : good b) (hc : good c) (h1 : cf a b ≤ 0) (h2 : cf b c ≤ 0) : cf a c ≤ 0 := by
  rw [cf_le] at h1 h2 ⊢
  by_cases hc0 : c.2 = 0
  · exact .inl hc0
  · obtain h2 | ⟨hb0, h2⟩ := h2
    · exact absurd h2 hc0
    · obtain h1 | ⟨ha0, h1⟩ := h1
      · exact absurd h1 hb0
      · refine .inr ⟨ha0, ?_⟩
        have pb : 0 < b.2 := by have := hb.2.1; omega
        have e1 : a.1 * b.2 * c.2 ≤ b.1 * a.2 * c.2 := Int.mul_le_mul_of_nonneg_right h1 hc.2.1
        have e2 : b.1 * c.2 * a.2 ≤ c.1 * b.2 * a.2 := Int.mul_le_mul_of_nonneg_right h2 ha.2.1
        have e3 : a.1 * c.2 * b.2 ≤ c.1 * a.2 * b.2 := by
          have x1 : a.1 * c.2 * b.2 = a.1 * b.2 * c.2 := by rw [Int.mul_assoc, Int.mul_comm c.2, ← Int.mul_assoc]
          have x2 : c.1 * a.2 * b.2 = c.1 * b.2 * a.2 := by rw [Int.mul_assoc, Int.mul_comm a.2, ← Int.mul_assoc]
          have x3 : b.1 * a.2 * c.2 = b.1 * c.2 * a.2 := by rw [Int.mul_assoc, Int.mul_comm a.2, ← Int.mul_assoc]
          omega
        exact Int.le_of_mul_le_mul_right e3 pb
theorem cf_self {a : Int × Int} : cf a a = 0 := by
  have := cf_neg a a
  omega

/-- The place of the least of the first k. -/
def least (l : List (Int × Int)) : Nat → Option Nat
  | 0 => none
  | k + 1 => match least l k with
    | none => some k
    | some j => if cf (l.getD k (0, 0)) (l.getD j (0, 0)) < 0 then some k else some j
def isLeast (l : List (Int × Int)) (n j : Nat) : Prop := j < n ∧ ∀ k, k < n → cf (l.getD j (0, 0)) (l.getD k (0, 0)) ≤ 0 ∧ (k < j → cf (l.getD j (0, 0)) (l.getD k (0, 0)) < 0)
theorem least_none {l : List (Int × Int)} {n : Nat} (h : least l n = none) : n = 0 := by
  cases n with
  | zero => rfl
  | succ k =>
    unfold least at h
    split at h
    · cases h
    · split at h <;> cases h
theorem least_is (l : List (Int × Int)) (hg : ∀ i, good (l.getD i (0, 0))) : ∀ (n j : Nat), least l n = some j → isLeast l n j
  | 0, j, h => by cases h
  | n + 1, j, h => by
    unfold least at h
    split at h
    · rename_i h0
      have hn := least_none h0
      subst hn
      injection h with h
      subst h
      refine ⟨by omega, fun k hk => ?_⟩
      have : k = 0 := by omega
      subst this
      exact ⟨by rw [cf_self]; omega, fun h => absurd h (by omega)⟩
    · rename_i i hi
      obtain ⟨hin, ih⟩ := least_is l hg n i hi
      split at h
      · rename_i hc
        injection h with h
        subst h
        refine ⟨by omega, fun k hk => ?_⟩
        have lt : k < n → cf (l.getD n (0, 0)) (l.getD k (0, 0)) < 0 := by
          intro hkn
          have h1 := (ih k hkn).1
          rcases Int.lt_or_le (cf (l.getD n (0, 0)) (l.getD k (0, 0))) 0 with h | h
          · exact h
          · have h2 := cf_neg (l.getD n (0, 0)) (l.getD k (0, 0))
            have h3 := cf_trans (hg i) (hg k) (hg n) h1 (by omega)
            have h4 := cf_neg (l.getD n (0, 0)) (l.getD i (0, 0))
            omega
        refine ⟨?_, fun h => lt h⟩
        rcases Nat.lt_or_ge k n with hkn | hkn
        · have := lt hkn; omega
        · have : k = n := by omega
          subst this
          rw [cf_self]; omega
      · rename_i hc
        injection h with h
        subst h
        refine ⟨by omega, fun k hk => ?_⟩
        rcases Nat.lt_or_ge k n with hkn | hkn
        · exact ih k hkn
        · have : k = n := by omega
          subst this
          have h4 := cf_neg (l.getD k (0, 0)) (l.getD i (0, 0))
          exact ⟨by omega, fun h => absurd h (by omega)⟩
theorem least_one {l : List (Int × Int)} {n i j : Nat} (hi : isLeast l n i) (hj : isLeast l n j) : i = j := by
  have a := (hi.2 j hj.1)
  have b := (hj.2 i hi.1)
  have c := cf_neg (l.getD i (0, 0)) (l.getD j (0, 0))
  rcases Nat.lt_trichotomy i j with h | h | h
  · have := b.2 h; omega
  · exact h
  · have := a.2 h; omega
/-- As a number: -1 where there is none. -/
def place : Option Nat → Int
  | none => -1
  | some j => j
end Go.Proofs.Ytanijccpbleekaa.wideG
