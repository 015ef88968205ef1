/- Layer 25: the item that is picked, in plain words. -/
import Derived.Test.YtanijccpbleekaaStrA
namespace Go.Proofs.Ytanijccpbleekaa.strG
open Go.Proofs.Ytanijccpbleekaa.base Go.Proofs.Ytanijccpbleekaa.wideC Go.Proofs.Ytanijccpbleekaa.wideF Go.Proofs.Ytanijccpbleekaa.wideG Go.Proofs.Ytanijccpbleekaa.strA
set_option linter.unusedVariables false

def rk (key : Int) (x : Int × Int) : Int × Int := (lenZ key x.1, x.2)
theorem rk_good {key : Int} {x : Int × Int} (h : good x) : good (rk key x) := by
  have h1 := lenZ_in key x.1
  unfold rk
  generalize lenZ key x.1 = y at *
  exact ⟨h1, h.2⟩
theorem cmp_cf (key : Int) (a b : Int × Int) (ha : 0 < a.2) (hb : 0 < b.2) : cmpI (lenZ key a.1 * b.2) (lenZ key b.1 * a.2) = cf (rk key a) (rk key b) := by
  unfold cf cmpF rk
  simp only
  rw [if_neg (by omega)]
/-- Not longer, and of one length not the greater number. -/
def LE (key : Int) (a b : Int × Int) : Prop := cf (rk key a) (rk key b) < 0 ∨ (cf (rk key a) (rk key b) = 0 ∧ a.1 ≤ b.1)
theorem LE.le {key : Int} {a b : Int × Int} (h : LE key a b) : cf (rk key a) (rk key b) ≤ 0 := by
  rcases h with h | ⟨h, _⟩ <;> omega
theorem LE.trans {key : Int} {a b c : Int × Int} (ga : good a) (gb : good b) (gc : good c) (h1 : LE key a b) (h2 : LE key b c) : LE key a c := by
  have e1 := cf_trans (rk_good (key := key) ga) (rk_good (key := key) gb) (rk_good (key := key) gc) h1.le h2.le
  by_cases h0 : cf (rk key a) (rk key c) < 0
  · exact .inl h0
  · have h3 : cf (rk key a) (rk key c) = 0 := by omega
    have n1 := cf_neg (rk key a) (rk key c)
    have n2 := cf_neg (rk key b) (rk key c)
    have n3 := cf_neg (rk key a) (rk key b)
    have h4 : cf (rk key c) (rk key a) ≤ 0 := by omega
    have h5 := cf_trans (rk_good (key := key) gc) (rk_good (key := key) ga) (rk_good (key := key) gb) h4 h1.le
    have h6 := cf_trans (rk_good (key := key) gb) (rk_good (key := key) gc) (rk_good (key := key) ga) h2.le h4
    refine .inr ⟨h3, ?_⟩
    rcases h1 with h1 | ⟨_, h1⟩
    · omega
    · rcases h2 with h2 | ⟨_, h2⟩
      · omega
      · omega
theorem LE.self (key : Int) (a : Int × Int) : LE key a a := .inr ⟨cf_self, Int.le_refl _⟩
theorem LE.both {key : Int} {a b : Int × Int} (h1 : LE key a b) (h2 : LE key b a) : a.1 = b.1 := by
  have n := cf_neg (rk key a) (rk key b)
  rcases h1 with h1 | ⟨e1, h1⟩ <;> rcases h2 with h2 | ⟨e2, h2⟩ <;> omega
theorem sh_yes {key : Int} {a b : Int × Int} (ha : 0 < a.2) (hb : 0 < b.2) (h : shB key a b = true) : LE key a b := by
  unfold shB at h
  rw [cmp_cf key a b ha hb] at h
  simp only [Bool.or_eq_true, Bool.and_eq_true, decide_eq_true_eq, beq_iff_eq] at h
  rcases h with h | ⟨h, h2⟩
  · exact .inl h
  · exact .inr ⟨h, by omega⟩
theorem sh_no {key : Int} {a b : Int × Int} (ha : 0 < a.2) (hb : 0 < b.2) (h : ¬ shB key a b = true) : LE key b a := by
  unfold shB at h
  rw [cmp_cf key a b ha hb] at h
  simp only [Bool.or_eq_true, Bool.and_eq_true, decide_eq_true_eq, beq_iff_eq] at h
  have n := cf_neg (rk key a) (rk key b)
  by_cases h1 : cf (rk key a) (rk key b) < 0
  · exact absurd (.inl h1) h
  · by_cases h2 : cf (rk key a) (rk key b) = 0
    · refine .inr ⟨by omega, ?_⟩
      rcases Int.lt_or_le a.1 b.1 with h3 | h3
      · exact absurd (.inr ⟨h2, h3⟩) h
      · exact h3
    · exact .inl (by omega)
theorem none_zero (key : Int) (l : List (Int × Int)) : ∀ k, pk key l k = none → ∀ i, i < k → ¬ 0 < (l.getD i (0, 0)).2
  | 0, h, i, hi => by omega
  | k + 1, h, i, hi => by
    have ih := none_zero key l k
    unfold pk at h
    by_cases hk : 0 < (l.getD k (0, 0)).2
    · rw [if_pos hk] at h
      cases hm : pk key l k with
      | none => rw [hm] at h; cases h
      | some q =>
        rw [hm] at h
        simp only at h
        split at h <;> cases h
    · rw [if_neg hk] at h
      rcases Nat.lt_or_ge i k with h2 | h2
      · exact ih h i h2
      · have : i = k := by omega
        subst this
        exact hk
theorem pk_best (key : Int) (l : List (Int × Int)) (hg : ∀ i, good (l.getD i (0, 0))) : ∀ k j, pk key l k = some j → ∀ i, i < k → 0 < (l.getD i (0, 0)).2 → LE key (l.getD j (0, 0)) (l.getD i (0, 0))
  | 0, j, h, i, hi, hw => by omega
  | k + 1, j, h, i, hi, hw => by
    have ih := pk_best key l hg k
    have hlt := pk_lt key l k
    unfold pk at h
    by_cases hk : 0 < (l.getD k (0, 0)).2
    · rw [if_pos hk] at h
      cases hm : pk key l k with
      | none =>
        rw [hm] at h
        injection h with h
        subst h
        rcases Nat.lt_or_ge i k with h2 | h2
        · exact absurd (none_zero key l k hm i h2) (by omega)
        · have : i = k := by omega
          subst this
          exact LE.self key _
      | some q =>
        rw [hm] at h
        simp only at h
        by_cases hs : shB key (l.getD k (0, 0)) (l.getD q (0, 0)) = true
        · rw [if_pos hs] at h
          injection h with h
          subst h
          rcases Nat.lt_or_ge i k with h2 | h2
          · exact (sh_yes hk (hlt q hm).2 hs).trans (hg k) (hg q) (hg i) (ih q hm i h2 hw)
          · have : i = k := by omega
            subst this
            exact LE.self key _
        · rw [if_neg hs] at h
          injection h with h
          subst h
          rcases Nat.lt_or_ge i k with h2 | h2
          · exact ih q hm i h2 hw
          · have : i = k := by omega
            subst this
            exact sh_no hk (hlt q hm).2 hs
    · rw [if_neg hk] at h
      rcases Nat.lt_or_ge i k with h2 | h2
      · exact ih j h i h2 hw
      · have : i = k := by omega
        subst this
        exact absurd hw hk
theorem pk_some (key : Int) (l : List (Int × Int)) (k i : Nat) (hi : i < k) (hw : 0 < (l.getD i (0, 0)).2) : ∃ j, pk key l k = some j := by
  cases h : pk key l k with
  | none => exact absurd hw (none_zero key l k h i hi)
  | some j => exact ⟨j, rfl⟩
/-- One that weighs more is not longer. -/
theorem LE.more {key i w w' : Int} {b : Int × Int} (h0 : 0 < w) (h1 : w ≤ w') (hb : 0 < b.2) (h : LE key (i, w) b) : LE key (i, w') b := by
  have e1 := cmp_cf key (i, w) b h0 hb
  have e2 := cmp_cf key (i, w') b (by simp only; omega) hb
  unfold LE at h ⊢
  rw [← e1] at h
  rw [← e2]
  simp only at h ⊢
  have h2 := lenZ_in key b.1
  have h3 : lenZ key b.1 * w ≤ lenZ key b.1 * w' := Int.mul_le_mul_of_nonneg_left h1 h2.1
  generalize lenZ key i * b.2 = p at *
  generalize lenZ key b.1 * w = q at *
  generalize lenZ key b.1 * w' = r at *
  unfold cmpI at h ⊢
  rcases h with h | ⟨h, h4⟩
  · left
    have : p < q := by
      by_cases hpq : p < q
      · exact hpq
      · rw [if_neg hpq] at h
        split at h <;> omega
    rw [if_pos (by omega)]
    omega
  · have : p = q := by
      by_cases hpq : p < q
      · rw [if_pos hpq] at h; omega
      · rw [if_neg hpq] at h
        split at h <;> omega
    by_cases hr : p < r
    · left
      rw [if_pos hr]
      omega
    · right
      rw [if_neg hr, if_neg (by omega)]
      exact ⟨rfl, h4⟩
theorem moves {key : Int} {l m : List (Int × Int)} (n at' : Nat) (hat : at' < n) (wt : Int) (gl : ∀ i, good (l.getD i (0, 0))) (gm : ∀ i, good (m.getD i (0, 0)))
    (h0 : 0 < (l.getD at' (0, 0)).2) (h1 : 0 < wt) (he : m.getD at' (0, 0) = ((l.getD at' (0, 0)).1, wt)) (ho : ∀ i, i ≠ at' → m.getD i (0, 0) = l.getD i (0, 0))
    (hd : ∀ i k, i < n → k < i → (l.getD i (0, 0)).1 ≠ (l.getD k (0, 0)).1) (a b : Nat) (ha : pk key l n = some a) (hb : pk key m n = some b) (hab : a ≠ b) :
    (((l.getD at' (0, 0)).2 < wt → b = at') ∧ (wt ≤ (l.getD at' (0, 0)).2 → a = at')) := by
  have pa := pk_lt key l n a ha
  have pb := pk_lt key m n b hb
  have dd : ∀ i k, i < n → k < n → i ≠ k → (l.getD i (0, 0)).1 ≠ (l.getD k (0, 0)).1 := fun i k hi hk hik => by
    rcases Nat.lt_or_ge k i with h | h
    · exact hd i k hi h
    · exact fun e => hd k i hk (by omega) e.symm
  have la : ∀ i, i < n → 0 < (l.getD i (0, 0)).2 → LE key (l.getD a (0, 0)) (l.getD i (0, 0)) := pk_best key l gl n a ha
  have lb : ∀ i, i < n → 0 < (m.getD i (0, 0)).2 → LE key (m.getD b (0, 0)) (m.getD i (0, 0)) := pk_best key m gm n b hb
  constructor
  · intro hw
    by_cases hbat : b = at'
    · exact hbat
    exfalso
    have hmb := ho b hbat
    rw [hmb] at pb
    have h2 := la b pb.1 pb.2
    by_cases haat : a = at'
    · subst haat
      have h3 := lb a pa.1 (by rw [he]; exact h1)
      rw [hmb, he] at h3
      have h4 : LE key ((l.getD a (0, 0)).1, wt) (l.getD b (0, 0)) := LE.more (w := (l.getD a (0, 0)).2) h0 (by omega) pb.2 h2
      have h5 := LE.both h4 h3
      exact dd a b pa.1 pb.1 hab h5
    · have h3 := lb a pa.1 (by rw [ho a haat]; exact pa.2)
      rw [hmb, ho a haat] at h3
      exact dd a b pa.1 pb.1 hab (LE.both h2 h3)
  · intro hw
    by_cases haat : a = at'
    · exact haat
    exfalso
    have h3 := lb a pa.1 (by rw [ho a haat]; exact pa.2)
    rw [ho a haat] at h3
    by_cases hbat : b = at'
    · subst hbat
      rw [he] at h3
      have h4 : LE key (l.getD b (0, 0)) (l.getD a (0, 0)) := LE.more (w := wt) (w' := (l.getD b (0, 0)).2) h1 hw pa.2 h3
      have h5 := la b hat h0
      have h6 := LE.both h5 h4
      exact dd a b pa.1 hat hab h6
    · rw [ho b hbat] at h3 pb
      have h2 := la b pb.1 pb.2
      exact dd a b pa.1 pb.1 hab (LE.both h2 h3)
end Go.Proofs.Ytanijccpbleekaa.strG
