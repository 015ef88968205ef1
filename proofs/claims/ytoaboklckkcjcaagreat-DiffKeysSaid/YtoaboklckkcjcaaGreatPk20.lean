/- 5 texts in one. -/
import Derived.Test.YtoaboklckkcjcaaGreatPk03
import Derived.Test.YtoaboklckkcjcaaGreatPk10
import Derived.Test.YtoaboklckkcjcaaGreatPk17
import Derived.Test.YtoaboklckkcjcaaGreatPk18
/- Layer 25: the item that is picked, in plain words. -/
namespace Go.Proofs.YtoaboklckkcjcaaGreat.strG
open Go.Proofs.YtoaboklckkcjcaaGreat.base Go.Proofs.YtoaboklckkcjcaaGreat.wideC Go.Proofs.YtoaboklckkcjcaaGreat.wideF Go.Proofs.YtoaboklckkcjcaaGreat.wideG Go.Proofs.YtoaboklckkcjcaaGreat.strA
set_option linter.unusedVariables false

def rk (key : Int) (x : Int × Int) : Int × Int := (lenZ key x.1, x.2)
theorem rk_good {key : Int} {x : Int × Int} (h : good x) : good (rk key x) := by
  have h1 := lenZ_in key x.1
  unfold rk
  generalize lenZ key x.1 = y at *
  exact ⟨h1, h.2⟩
theorem cmp_cf (key : Int) (a b : Int × Int) (ha : 0 < a.2) (hb : 0 < b.2) : cmpI (lenZ key a.1 * b.2) (lenZ key b.1 * a.2) = cf (rk key a) (rk key b) := by
  unfold cf cmpF rk
  simp only
  rw [if_neg (by omega)]
/-- Not longer, and of one length not the greater number. -/
def LE (key : Int) (a b : Int × Int) : Prop := cf (rk key a) (rk key b) < 0 ∨ (cf (rk key a) (rk key b) = 0 ∧ a.1 ≤ b.1)
theorem LE.le {key : Int} {a b : Int × Int} (h : LE key a b) : cf (rk key a) (rk key b) ≤ 0 := by
  rcases h with h | ⟨h, _⟩ <;> omega
theorem LE.trans {key : Int} {a b c : Int × Int} (ga : good a) (gb : good b) (gc : good c) (h1 : LE key a b) (h2 : LE key b c) : LE key a c := by
  have e1 := cf_trans (rk_good (key := key) ga) (rk_good (key := key) gb) (rk_good (key := key) gc) h1.le h2.le
  by_cases h0 : cf (rk key a) (rk key c) < 0
  · exact .inl h0
  · have h3 : cf (rk key a) (rk key c) = 0 := by omega
    have n1 := cf_neg (rk key a) (rk key c)
    have n2 := cf_neg (rk key b) (rk key c)
    have n3 := cf_neg (rk key a) (rk key b)
    have h4 : cf (rk key c) (rk key a) ≤ 0 := by omega
    have h5 := cf_trans (rk_good (key := key) gc) (rk_good (key := key) ga) (rk_good (key := key) gb) h4 h1.le
    have h6 := cf_trans (rk_good (key := key) gb) (rk_good (key := key) gc) (rk_good (key := key) ga) h2.le h4
    refine .inr ⟨h3, ?_⟩
    rcases h1 with h1 | ⟨_, h1⟩
    · omega
    · rcases h2 with h2 | ⟨_, h2⟩
      · omega
      · omega
theorem LE.self (key : Int) (a : Int × Int) : LE key a a := .inr ⟨cf_self, Int.le_refl _⟩
theorem LE.both {key : Int} {a b : Int × Int} (h1 : LE key a b) (h2 : LE key b a) : a.1 = b.1 := by
  have n := cf_neg (rk key a) (rk key b)
  rcases h1 with h1 | ⟨e1, h1⟩ <;> rcases h2 with h2 | ⟨e2, h2⟩ <;> omega
theorem sh_yes {key : Int} {a b : Int × Int} (ha : 0 < a.2) (hb : 0 < b.2) (h : shB key a b = true) : LE key a b := by
  unfold shB at h
  rw [cmp_cf key a b ha hb] at h
  simp only [Bool.or_eq_true, Bool.and_eq_true, decide_eq_true_eq, beq_iff_eq] at h
  rcases h with h | ⟨h, h2⟩
  · exact .inl h
  · exact .inr ⟨h, by omega⟩
theorem sh_no {key : Int} {a b : Int × Int} (ha : 0 < a.2) (hb : 0 < b.2) (h : ¬ shB key a b = true) : LE key b a := by
  unfold shB at h
  rw [cmp_cf key a b ha hb] at h
  simp only [Bool.or_eq_true, Bool.and_eq_true, decide_eq_true_eq, beq_iff_eq] at h
  have n := cf_neg (rk key a) (rk key b)
  by_cases h1 : cf (rk key a) (rk key b) < 0
  · exact absurd (.inl h1) h
  · by_cases h2 : cf (rk key a) (rk key b) = 0
    · refine .inr ⟨by omega, ?_⟩
      rcases Int.lt_or_le a.1 b.1 with h3 | h3
      · exact absurd (.inr ⟨h2, h3⟩) h
      · exact h3
    · exact .inl (by omega)
theorem none_zero (key : Int) (l : List (Int × Int)) : ∀ k, pk key l k = none → ∀ i, i < k → ¬ 0 < (l.getD i (0, 0)).2
  | 0, h, i, hi => by omega
  | k + 1, h, i, hi => by
    have ih := none_zero key l k
    unfold pk at h
    by_cases hk : 0 < (l.getD k (0, 0)).2
    · rw [if_pos hk] at h
      cases hm : pk key l k with
      | none => rw [hm] at h; cases h
      | some q =>
        rw [hm] at h
        simp only at h
        split at h <;> cases h
    · rw [if_neg hk] at h
      rcases Nat.lt_or_ge i k with h2 | h2
      · exact ih h i h2
      · have : i = k := by omega
        subst this
        exact hk
theorem pk_best (key : Int) (l : List (Int × Int)) (hg : ∀ i, good (l.getD i (0, 0))) : ∀ k j, pk key l k = some j → ∀ i, i < k → 0 < (l.getD i (0, 0)).2 → LE key (l.getD j (0, 0)) (l.getD i (0, 0))
  | 0, j, h, i, hi, hw => by omega
  | k + 1, j, h, i, hi, hw => by
    have ih := pk_best key l hg k
    have hlt := pk_lt key l k
    unfold pk at h
    by_cases hk : 0 < (l.getD k (0, 0)).2
    · rw [if_pos hk] at h
      cases hm : pk key l k with
      | none =>
        rw [hm] at h
        injection h with h
        subst h
        rcases Nat.lt_or_ge i k with h2 | h2
        · exact absurd (none_zero key l k hm i h2) (by omega)
        · have : i = k := by omega
          subst this
          exact LE.self key _
      | some q =>
        rw [hm] at h
        simp only at h
        by_cases hs : shB key (l.getD k (0, 0)) (l.getD q (0, 0)) = true
        · rw [if_pos hs] at h
          injection h with h
          subst h
          rcases Nat.lt_or_ge i k with h2 | h2
          · exact (sh_yes hk (hlt q hm).2 hs).trans (hg k) (hg q) (hg i) (ih q hm i h2 hw)
          · have : i = k := by omega
            subst this
            exact LE.self key _
        · rw [if_neg hs] at h
          injection h with h
          subst h
          rcases Nat.lt_or_ge i k with h2 | h2
          · exact ih q hm i h2 hw
          · have : i = k := by omega
            subst this
            exact sh_no hk (hlt q hm).2 hs
    · rw [if_neg hk] at h
      rcases Nat.lt_or_ge i k with h2 | h2
      · exact ih j h i h2 hw
      · have : i = k := by omega
        subst this
        exact absurd hw hk
theorem pk_some (key : Int) (l : List (Int × Int)) (k i : Nat) (hi : i < k) (hw : 0 < (l.getD i (0, 0)).2) : ∃ j, pk key l k = some j := by
  cases h : pk key l k with
  | none => exact absurd hw (none_zero key l k h i hi)
  | some j => exact ⟨j, rfl⟩
/-- One that weighs more is not longer. -/
theorem LE.more {key i w w' : Int} {b : Int × Int} (h0 : 0 < w) (h1 : w ≤ w') (hb : 0 < b.2) (h : LE key (i, w) b) : LE key (i, w') b := by
  have e1 := cmp_cf key (i, w) b h0 hb
  have e2 := cmp_cf key (i, w') b (by simp only; omega) hb
  unfold LE at h ⊢
  rw [← e1] at h
  rw [← e2]
  simp only at h ⊢
  have h2 := lenZ_in key b.1
  have h3 : lenZ key b.1 * w ≤ lenZ key b.1 * w' := Int.mul_le_mul_of_nonneg_left h1 h2.1
  generalize lenZ key i * b.2 = p at *
  generalize lenZ key b.1 * w = q at *
  generalize lenZ key b.1 * w' = r at *
  unfold cmpI at h ⊢
  rcases h with h | ⟨h, h4⟩
  · left
    have : p < q := by
      by_cases hpq : p < q
      · exact hpq
      · rw [if_neg hpq] at h
        split at h <;> omega
    rw [if_pos (by omega)]
    omega
  · have : p = q := by
      by_cases hpq : p < q
      · rw [if_pos hpq] at h; omega
      · rw [if_neg hpq] at h
        split at h <;> omega
    by_cases hr : p < r
    · left
      rw [if_pos hr]
      omega
    · right
      rw [if_neg hr, if_neg (by omega)]
      exact ⟨rfl, h4⟩
theorem moves {key : Int} {l m : List (Int × Int)} (n at' : Nat) (hat : at' < n) (wt : Int) (gl : ∀ i, good (l.getD i (0, 0))) (gm : ∀ i, good (m.getD i (0, 0)))
    (h0 : 0 < (l.getD at' (0, 0)).2) (h1 : 0 < wt) (he : m.getD at' (0, 0) = ((l.getD at' (0, 0)).1, wt)) (ho : ∀ i, i ≠ at' → m.getD i (0, 0) = l.getD i (0, 0))
    (hd : ∀ i k, i < n → k < i → (l.getD i (0, 0)).1 ≠ (l.getD k (0, 0)).1) (a b : Nat) (ha : pk key l n = some a) (hb : pk key m n = some b) (hab : a ≠ b) :
    (((l.getD at' (0, 0)).2 < wt → b = at') ∧ (wt ≤ (l.getD at' (0, 0)).2 → a = at')) := by
  have pa := pk_lt key l n a ha
  have pb := pk_lt key m n b hb
  have dd : ∀ i k, i < n → k < n → i ≠ k → (l.getD i (0, 0)).1 ≠ (l.getD k (0, 0)).1 := fun i k hi hk hik => by
    rcases Nat.lt_or_ge k i with h | h
    · exact hd i k hi h
    · exact fun e => hd k i hk (by omega) e.symm
  have la : ∀ i, i < n → 0 < (l.getD i (0, 0)).2 → LE key (l.getD a (0, 0)) (l.getD i (0, 0)) := pk_best key l gl n a ha
  have lb : ∀ i, i < n → 0 < (m.getD i (0, 0)).2 → LE key (m.getD b (0, 0)) (m.getD i (0, 0)) := pk_best key m gm n b hb
  constructor
  · intro hw
    by_cases hbat : b = at'
    · exact hbat
    exfalso
    have hmb := ho b hbat
    rw [hmb] at pb
    have h2 := la b pb.1 pb.2
    by_cases haat : a = at'
    · subst haat
      have h3 := lb a pa.1 (by rw [he]; exact h1)
      rw [hmb, he] at h3
      have h4 : LE key ((l.getD a (0, 0)).1, wt) (l.getD b (0, 0)) := LE.more (w := (l.getD a (0, 0)).2) h0 (by omega) pb.2 h2
      have h5 := LE.both h4 h3
      exact dd a b pa.1 pb.1 hab h5
    · have h3 := lb a pa.1 (by rw [ho a haat]; exact pa.2)
      rw [hmb, ho a haat] at h3
      exact dd a b pa.1 pb.1 hab (LE.both h2 h3)
  · intro hw
    by_cases haat : a = at'
    · exact haat
    exfalso
    have h3 := lb a pa.1 (by rw [ho a haat]; exact pa.2)
    rw [ho a haat] at h3
    by_cases hbat : b = at'
    · subst hbat
      rw [he] at h3
      have h4 : LE key (l.getD b (0, 0)) (l.getD a (0, 0)) := LE.more (w := wt) (w' := (l.getD b (0, 0)).2) h1 hw pa.2 h3
      have h5 := la b hat h0
      have h6 := LE.both h5 h4
      exact dd a b pa.1 hat hab h6
    · rw [ho b hbat] at h3 pb
      have h2 := la b pb.1 pb.2
      exact dd a b pa.1 pb.1 hab (LE.both h2 h3)
end Go.Proofs.YtoaboklckkcjcaaGreat.strG
/- Layer 26: nodes of which one host weighs otherwise, in plain words. -/
namespace Go.Proofs.YtoaboklckkcjcaaGreat.walkS
open Go.ChangeShapes Go.WideShapes Go.ChangeAt Go.RowKit
open Go.Proofs.YtoaboklckkcjcaaGreat.base Go.Proofs.YtoaboklckkcjcaaGreat.dfA Go.Proofs.YtoaboklckkcjcaaGreat.treB Go.Proofs.YtoaboklckkcjcaaGreat.treD Go.Proofs.YtoaboklckkcjcaaGreat.treG Go.Proofs.YtoaboklckkcjcaaGreat.treM Go.Proofs.YtoaboklckkcjcaaGreat.treW Go.Proofs.YtoaboklckkcjcaaGreat.eliW Go.Proofs.YtoaboklckkcjcaaGreat.strA Go.Proofs.YtoaboklckkcjcaaGreat.strG Go.Proofs.YtoaboklckkcjcaaGreat.wideG Go.Proofs.YtoaboklckkcjcaaGreat.eliB Go.Proofs.YtoaboklckkcjcaaGreat.walkA Go.Proofs.YtoaboklckkcjcaaGreat.walkC Go.Proofs.YtoaboklckkcjcaaGreat.walkE Go.Proofs.YtoaboklckkcjcaaGreat.walkN
set_option linter.unusedVariables false

/-- The same nodes, but for what the node h weighs. -/
structure Like (h : Nat) (m n : List Nd) : Prop where
  len : n.length = m.length
  kind : ∀ i : Int, (ndAt n i).kind = (ndAt m i).kind
  ab : ∀ i : Int, (ndAt n i).ab = (ndAt m i).ab
  wt : ∀ i : Int, i ≠ (h : Int) → (ndAt n i).wt = (ndAt m i).wt
theorem Like.symm {h : Nat} {m n : List Nd} (L : Like h m n) : Like h n m := ⟨L.len.symm, fun i => (L.kind i).symm, fun i => (L.ab i).symm, fun i e => (L.wt i e).symm⟩
section
variable {h : Nat} {m n : List Nd}
theorem upW_like (L : Like h m n) (kd : Int) : ∀ f i, upW n kd f i = upW m kd f i
  | 0, _ => rfl
  | f + 1, i => by
    unfold upW
    rw [L.len, L.kind, L.ab, upW_like L kd f]
theorem upF_like (L : Like h m n) (kd i : Int) : upF n kd i = upF m kd i := upW_like L kd 4 i
theorem belU_like (L : Like h m n) (x a : Nat) : belU n x a = belU m x a := by
  unfold belU
  rw [L.kind, upF_like L]
theorem getD_at {l : List Nd} {b : Nat} (hb : b < l.length) : l.getD b zNd = ndAt l (b : Int) := by
  rw [treW.ndAt_nat hb, List.getD_eq_getElem?_getD, List.getElem?_eq_getElem hb]; rfl
theorem kidsL_like (L : Like h m n) (a : Nat) : ∀ k, k ≤ m.length → kidsL n k a = kidsL m k a
  | 0, _ => rfl
  | k + 1, hk => by
    unfold kidsL
    rw [kidsL_like L a k (by omega)]
    have e : kidB (n.getD k zNd) a = kidB (m.getD k zNd) a := by
      rw [getD_at (l := n) (by rw [L.len]; omega), getD_at (l := m) (by omega)]
      unfold kidB
      rw [L.kind, L.ab]
    rw [e]
theorem kidsP_like (L : Like h m n) (i : Int) : kidsP n i = kidsP m i := by
  unfold kidsP
  rw [L.len, kidsL_like L _ _ (Nat.le_refl _)]
theorem ofK_like (L : Like h m n) (kd : Int) : ofK n kd n.length = ofK m kd m.length := by
  unfold ofK
  rw [L.len]
  congr 1
  apply List.filter_congr
  intro x hx
  have hx2 := List.mem_range.mp hx
  rw [getD_at (l := n) (by rw [L.len]; omega), getD_at (l := m) hx2, L.kind]
theorem pkB_like (L : Like h m n) (hx : (ndAt m h).wt ≠ 0) (hy : (ndAt n h).wt ≠ 0) (H : List Int) (k : Nat) : pkB n H k = pkB m H k := by
  unfold pkB
  rw [L.kind]
  by_cases e : k = h
  · subst e
    have h1 : ((ndAt n (k : Int)).wt == 0) = false := beq_false_of_ne hy
    have h2 : ((ndAt m (k : Int)).wt == 0) = false := beq_false_of_ne hx
    rw [h1, h2]
  · rw [L.wt _ (by omega)]
theorem hasP_like (L : Like h m n) (hx : (ndAt m h).wt ≠ 0) (hy : (ndAt n h).wt ≠ 0) (H : List Int) (i : Nat) : hasP n H i ↔ hasP m H i := by
  unfold hasP
  constructor
  · rintro ⟨k, h1, h2, h3⟩
    exact ⟨k, L.len ▸ h1, by rw [← pkB_like L hx hy]; exact h2, by rw [← belU_like L]; exact h3⟩
  · rintro ⟨k, h1, h2, h3⟩
    exact ⟨k, by rw [L.len]; exact h1, by rw [pkB_like L hx hy]; exact h2, by rw [belU_like L]; exact h3⟩
theorem zero_like (hf : Fine m) (hn : Fine n) (hh : Heavy m) (hg : Heavy n) (L : Like h m n) (hx : (ndAt m h).wt ≠ 0) (hy : (ndAt n h).wt ≠ 0) (H : List Int) {i : Nat} (hi : i < m.length) : F n H i ≠ 0 ↔ F m H i ≠ 0 := by
  rw [F_has hn hg H n.length i (by rw [L.len]; exact hi) (by omega), F_has hf hh H m.length i hi (by omega)]
  exact hasP_like L hx hy H i
theorem SF_zero (hf : Fine m) (hn : Fine n) (hh : Heavy m) (hg : Heavy n) (L : Like h m n) (hx : (ndAt m h).wt ≠ 0) (hy : (ndAt n h).wt ≠ 0) (H : List Int) {i : Nat} (hi : i < m.length) : SF n H i ≠ 0 ↔ SF m H i ≠ 0 := by
  unfold SF
  rw [sumF_ne (fun q => gF_lo hg H i q), sumF_ne (fun q => gF_lo hh H i q), L.len]
  constructor
  · rintro ⟨k, h1, h2⟩
    refine ⟨k, h1, ?_⟩
    unfold gF at h2 ⊢
    rw [L.ab] at h2
    split at h2
    · rename_i e
      rw [if_pos e]
      exact (zero_like hf hn hh hg L hx hy H h1).mp h2
    · exact absurd rfl h2
  · rintro ⟨k, h1, h2⟩
    refine ⟨k, h1, ?_⟩
    unfold gF at h2 ⊢
    rw [L.ab]
    split at h2
    · rename_i e
      rw [if_pos e]
      exact (zero_like hf hn hh hg L hx hy H h1).mpr h2
    · exact absurd rfl h2
/-- Nodes that are not above the host weigh what they did. -/
theorem F_same (hf : Fine m) (hn : Fine n) (L : Like h m n) (hx : (ndAt m h).wt ≠ 0) (hy : (ndAt n h).wt ≠ 0) (hm : h < m.length) (H : List Int) : ∀ d i, i < m.length → m.length - i ≤ d → belU m h i = false → F n H i = F m H i := by
  intro d
  induction d with
  | zero => intro i hi hd; omega
  | succ d ih =>
    intro i hi hd hb
    have hne : i ≠ h := fun e => by subst e; rw [belU_self hi] at hb; cases hb
    have hs : SF n H i = SF m H i := by
      unfold SF
      rw [L.len]
      refine sumF_congr _ fun q hq => ?_
      unfold gF
      rw [L.ab]
      by_cases hab : (ndAt m q).ab = (i : Int)
      · rw [if_pos hab, if_pos hab]
        have hk := kid_kind hf hq hab
        refine ih q hq (by omega) ?_
        cases hbq : belU m h q with
        | false => rfl
        | true => rw [belU_kid hf hm hq hab hbq] at hb; cases hb
      · rw [if_neg hab, if_neg hab]
    rw [F_eq hn H (by rw [L.len]; exact hi), F_eq hf H hi, L.kind, L.wt _ (by omega), hs]
    unfold hw0
    rw [pkB_like L hx hy, L.wt _ (by omega)]
theorem sumF_le {g k : Nat → Int} : ∀ n, (∀ q, q < n → g q ≤ k q) → sumF g n ≤ sumF k n
  | 0, _ => Int.le_refl _
  | n + 1, e => by
    have h1 := sumF_le n (fun q hq => e q (by omega))
    have h2 := e n (by omega)
    show sumF g n + g n ≤ sumF k n + k n
    omega
/-- As the host weighs more, no node weighs less. -/
theorem F_mono (hf : Fine m) (hn : Fine n) (hh : Heavy m) (hg : Heavy n) (L : Like h m n) (hx : (ndAt m h).wt ≠ 0) (hy : (ndAt n h).wt ≠ 0) (h4 : (ndAt m h).kind = 4) (hle : (ndAt m h).wt ≤ (ndAt n h).wt) (H : List Int) : ∀ d i, i < m.length → m.length - i ≤ d → F m H i ≤ F n H i := by
  intro d
  induction d with
  | zero => intro i hi hd; omega
  | succ d ih =>
    intro i hi hd
    rw [F_eq hn H (by rw [L.len]; exact hi), F_eq hf H hi, L.kind]
    by_cases hk : (ndAt m i).kind = 4
    · rw [if_pos hk, if_pos hk]
      unfold hw0
      rw [pkB_like L hx hy]
      by_cases e : i = h
      · subst e
        split <;> omega
      · rw [L.wt _ (by omega)]
        exact Int.le_refl _
    · rw [if_neg hk, if_neg hk]
      have hne : i ≠ h := fun e => by subst e; exact hk h4
      rw [L.wt _ (by omega)]
      have hs : SF m H i ≤ SF n H i := by
        unfold SF
        rw [L.len]
        refine sumF_le _ fun q hq => ?_
        unfold gF
        rw [L.ab]
        by_cases hab : (ndAt m q).ab = (i : Int)
        · rw [if_pos hab, if_pos hab]
          have hk := kid_kind hf hq hab
          exact ih q hq (by omega)
        · rw [if_neg hab, if_neg hab]
          exact Int.le_refl _
      have hz := SF_zero hf hn hh hg L hx hy H hi
      by_cases h1 : (ndAt m (i : Int)).wt ≠ 0 ∧ SF m H i ≠ 0
      · rw [if_pos h1, if_pos ⟨h1.1, hz.mpr h1.2⟩]
        exact Int.le_refl _
      · rw [if_neg h1, if_neg (fun h2 => h1 ⟨h2.1, hz.mp h2.2⟩)]
        exact hs
/-- What has a fixed weight weighs what it did. -/
theorem F_fixed (hf : Fine m) (hn : Fine n) (hh : Heavy m) (hg : Heavy n) (L : Like h m n) (hx : (ndAt m h).wt ≠ 0) (hy : (ndAt n h).wt ≠ 0) (h4 : (ndAt m h).kind = 4) (H : List Int) {i : Nat} (hi : i < m.length) (hk : (ndAt m i).kind ≠ 4) (hw : (ndAt m i).wt ≠ 0) : F n H i = F m H i := by
  have hne : i ≠ h := fun e => by subst e; exact hk h4
  rw [F_eq hn H (by rw [L.len]; exact hi), F_eq hf H hi, L.kind, if_neg hk, if_neg hk, L.wt _ (by omega)]
  have hz := SF_zero hf hn hh hg L hx hy H hi
  by_cases h1 : SF m H i ≠ 0
  · rw [if_pos (show (ndAt m (i : Int)).wt ≠ 0 ∧ SF n H i ≠ 0 from ⟨hw, hz.mpr h1⟩), if_pos (show (ndAt m (i : Int)).wt ≠ 0 ∧ SF m H i ≠ 0 from ⟨hw, h1⟩)]
  · have h2 : ¬ SF n H i ≠ 0 := fun e => h1 (hz.mp e)
    rw [if_neg (show ¬ ((ndAt m (i : Int)).wt ≠ 0 ∧ SF n H i ≠ 0) from fun e => h2 e.2), if_neg (show ¬ ((ndAt m (i : Int)).wt ≠ 0 ∧ SF m H i ≠ 0) from fun e => h1 e.2)]
    rw [Decidable.not_not.mp h1, Decidable.not_not.mp h2]
theorem step_like (L : Like h m n) {W W' : Nat → Int} (seed key a : Int) (e : ∀ x ∈ kidsP m a, wtOf n W' x = wtOf m W x) : stepW n W' seed key a = stepW m W seed key a := by
  have hi : itemsW n W' a = itemsW m W a := by
    unfold itemsW
    rw [kidsP_like L]
    exact List.map_congr_left fun x hx => by rw [e x hx]
  unfold stepW
  rw [hi, kidsP_like L]
theorem kidsL_sorted (m : List Nd) (a : Nat) : ∀ k, (kidsL m k a).Pairwise (· < ·)
  | 0 => List.Pairwise.nil
  | k + 1 => by
    unfold kidsL
    split
    · refine List.pairwise_append.mpr ⟨kidsL_sorted m a k, List.pairwise_singleton _ _, fun x hx y hy => ?_⟩
      have := kidsL_in m k a x hx
      rw [List.mem_singleton.mp hy]
      omega
    · exact kidsL_sorted m a k
theorem kids_ne {m : List Nd} {a : Nat} (ha : a < m.length) {i j : Nat} (hi : i < (kidsP m (a : Int)).length) (hj : j < i) : (kidsP m (a : Int))[j]'(by omega) < (kidsP m (a : Int))[i] := by
  have h1 := kidsL_sorted m a m.length
  rw [← kidsP_nat ha] at h1
  exact List.pairwise_iff_getElem.mp h1 j i _ _ hj
end
end Go.Proofs.YtoaboklckkcjcaaGreat.walkS
/- Layer 26: where ways part as one host weighs otherwise, in plain words. -/
namespace Go.Proofs.YtoaboklckkcjcaaGreat.walkT
open Go.ChangeShapes Go.WideShapes Go.ChangeAt Go.RowKit
open Go.Proofs.YtoaboklckkcjcaaGreat.base Go.Proofs.YtoaboklckkcjcaaGreat.dfA Go.Proofs.YtoaboklckkcjcaaGreat.treB Go.Proofs.YtoaboklckkcjcaaGreat.treD Go.Proofs.YtoaboklckkcjcaaGreat.treG Go.Proofs.YtoaboklckkcjcaaGreat.treM Go.Proofs.YtoaboklckkcjcaaGreat.treW Go.Proofs.YtoaboklckkcjcaaGreat.eliW Go.Proofs.YtoaboklckkcjcaaGreat.strA Go.Proofs.YtoaboklckkcjcaaGreat.strG Go.Proofs.YtoaboklckkcjcaaGreat.wideG Go.Proofs.YtoaboklckkcjcaaGreat.eliB Go.Proofs.YtoaboklckkcjcaaGreat.walkA Go.Proofs.YtoaboklckkcjcaaGreat.walkC Go.Proofs.YtoaboklckkcjcaaGreat.walkE Go.Proofs.YtoaboklckkcjcaaGreat.walkN Go.Proofs.YtoaboklckkcjcaaGreat.walkS
set_option linter.unusedVariables false

theorem items_good {m : List Nd} (hf : Fine m) (hh : Heavy m) (hm60 : m.length ≤ 60) (H : List Int) (a : Int) (i : Nat) : good ((itemsW m (F m H) a).getD i (0, 0)) := by
  by_cases hi : i < (kidsP m a).length
  · rw [items_at m _ a i hi]
    have h1 := kidsP_in (List.getElem_mem hi)
    obtain ⟨b, hb⟩ : ∃ b : Nat, (kidsP m a)[i] = (b : Int) := ⟨((kidsP m a)[i]).toNat, by omega⟩
    rw [hb] at h1 ⊢
    rw [wt_nat (by omega)]
    have h2 := walkK.F_in hf hh hm60 H b
    exact ⟨⟨by simp only; omega, by simp only; omega⟩, h2.1, h2.2⟩
  · rw [List.getD_eq_getElem?_getD, List.getElem?_eq_none (by rw [items_len]; omega)]
    exact ⟨⟨by decide, by decide⟩, by decide, by decide⟩
/-- What two steps come to that differ: n's host weighs more. -/
structure Fork (m : List Nd) (h a : Nat) (s s' : Int) : Prop where
  up : belU m h a = true
  ex : ∃ q r : Nat, q < m.length ∧ r < m.length ∧ s' = (q : Int) ∧ s = (r : Int) ∧ (ndAt m q).ab = (a : Int) ∧ (ndAt m r).ab = (a : Int) ∧ belU m h q = true ∧ belU m h r = false ∧ ((ndAt m q).kind ≠ 4 → (ndAt m q).wt = 0)
section
variable {h : Nat} {m n : List Nd}
theorem step_fork (hf : Fine m) (hn : Fine n) (hh : Heavy m) (hg : Heavy n) (hm60 : m.length ≤ 60) (L : Like h m n) (hm : h < m.length) (h4 : (ndAt m h).kind = 4) (hx : (ndAt m h).wt ≠ 0) (hy : (ndAt n h).wt ≠ 0) (hle : (ndAt m h).wt ≤ (ndAt n h).wt) (H : List Int) (hp : F m H h ≠ 0) (seed key : Int) {a : Nat} (ha : a < m.length) (hk4 : (ndAt m a).kind ≠ 4)
    (hne : stepW n (F n H) seed key a ≠ stepW m (F m H) seed key a) : Fork m h a (stepW m (F m H) seed key a) (stepW n (F n H) seed key a) := by
  have hmn : n.length = m.length := L.len
  have kid : ∀ i (hi : i < (kidsP m (a : Int)).length), ∃ b : Nat, (kidsP m (a : Int))[i] = (b : Int) ∧ b < m.length ∧ (ndAt m b).ab = (a : Int) := fun i hi => by
    have hmem : (kidsP m (a : Int))[i] ∈ kidsL m m.length a := by
      have h1 := List.getElem_mem hi
      generalize (kidsP m (a : Int))[i] = x at *
      rwa [kidsP_nat ha] at h1
    obtain ⟨b, e, hb, hkb⟩ := kidsL_ab m _ _ _ hmem
    exact ⟨b, e, hb, kid_ab hb hkb⟩
  have hup : belU m h a = true := by
    cases hb : belU m h a with
    | true => rfl
    | false =>
      exfalso
      refine hne (step_like L seed key a fun x hx2 => ?_)
      obtain ⟨i, hi, rfl⟩ := List.getElem_of_mem hx2
      obtain ⟨b, e, hbl, hab⟩ := kid i hi
      rw [e, wt_nat (by omega), wt_nat hbl]
      refine F_same hf hn L hx hy hm H m.length b hbl (by omega) ?_
      cases hbb : belU m h b with
      | false => rfl
      | true => rw [belU_kid hf hm hbl hab hbb] at hb; cases hb
  obtain ⟨q, hq, hqa, hqb⟩ := belU_via hf hm ha h4 hk4 hup
  have hqk := kid_kind hf hq hqa
  have other : ∀ b, b < m.length → (ndAt m b).ab = (a : Int) → b ≠ q → belU m h b = false := fun b hb hab hbq => by
    cases hbb : belU m h b with
    | false => rfl
    | true =>
      exfalso
      have hbk := kid_kind hf hb hab
      unfold belU at hbb hqb
      have e1 : upF m (ndAt m b).kind (h : Int) = (b : Int) := by simpa using hbb
      have e2 : upF m (ndAt m q).kind (h : Int) = (q : Int) := by simpa using hqb
      rw [hbk.2.2.1, ← hqk.2.2.1] at e1
      rw [e1] at e2
      omega
  have diff : ¬ F n H q = F m H q := fun e => by
    refine hne (step_like L seed key a fun x hx2 => ?_)
    obtain ⟨i, hi, rfl⟩ := List.getElem_of_mem hx2
    obtain ⟨b, eb, hbl, hab⟩ := kid i hi
    rw [eb, wt_nat (by omega), wt_nat hbl]
    by_cases hbq : b = q
    · subst hbq; exact e
    · exact F_same hf hn L hx hy hm H m.length b hbl (by omega) (other b hbl hab hbq)
  have hqle := F_mono hf hn hh hg L hx hy h4 hle H m.length q hq (by omega)
  have hqz : F m H q ≠ 0 := by
    rw [F_has hf hh H m.length q hq (by omega)]
    obtain ⟨k, hk, hpk, hbk⟩ := (F_has hf hh H m.length h hm (by omega)).mp hp
    refine ⟨h, hm, ?_, hqb⟩
    have e1 := F_eq hf H hm
    rw [if_pos h4] at e1
    unfold hw0 at e1
    by_cases e : pkB m H h = true
    · exact e
    · rw [if_neg e] at e1; exact absurd e1 hp
  have hqp := F_lo hh H q
  have hmem : (q : Int) ∈ kidsP m (a : Int) := by
    rw [kidsP_nat ha]
    exact kidsL_mem m a q (kid_b hf hq hqa) m.length hq
  obtain ⟨j, hj, hjq⟩ := List.getElem_of_mem hmem
  have hkl := kidsP_like L (a : Int)
  obtain ⟨K, hK⟩ : ∃ K, K = mixD.ofZ seed [key, IntKind.u64.wrap (a : Int)] := ⟨_, rfl⟩
  have l1 := items_len m (F m H) (a : Int)
  have l2 := items_len n (F n H) (a : Int)
  have hl2 : (itemsW n (F n H) (a : Int)).length = (itemsW m (F m H) (a : Int)).length := by rw [l1, l2, hkl]
  have i1 : (itemsW m (F m H) (a : Int)).getD j (0, 0) = ((q : Int), F m H q) := by rw [items_at m _ _ j hj, hjq, wt_nat hq]
  have at2 : ∀ i (hi : i < (kidsP m (a : Int)).length), (itemsW n (F n H) (a : Int)).getD i (0, 0) = ((kidsP m (a : Int))[i], wtOf n (F n H) (kidsP m (a : Int))[i]) := fun i hi => by
    have := items_at n (F n H) (a : Int) i (by rw [hkl]; exact hi)
    rw [this]
    simp only [hkl]
  have i2 : (itemsW n (F n H) (a : Int)).getD j (0, 0) = ((q : Int), F n H q) := by rw [at2 j hj, hjq, wt_nat (by omega)]
  have io : ∀ i, i ≠ j → (itemsW n (F n H) (a : Int)).getD i (0, 0) = (itemsW m (F m H) (a : Int)).getD i (0, 0) := fun i hij => by
    by_cases hi : i < (kidsP m (a : Int)).length
    · rw [at2 i hi, items_at m _ _ i hi]
      obtain ⟨b, eb, hbl, hab⟩ := kid i hi
      rw [eb, wt_nat (by omega), wt_nat hbl]
      have hbq : b ≠ q := fun e => by
        subst e
        rcases Nat.lt_or_gt_of_ne hij with h1 | h1
        · have := kids_ne ha hj h1
          rw [hjq, eb] at this
          omega
        · have := kids_ne ha hi h1
          rw [hjq, eb] at this
          omega
      rw [F_same hf hn L hx hy hm H m.length b hbl (by omega) (other b hbl hab hbq)]
    · rw [List.getD_eq_getElem?_getD, List.getD_eq_getElem?_getD, List.getElem?_eq_none (by rw [l2, hkl]; omega), List.getElem?_eq_none (by rw [l1]; omega)]
  have hd : ∀ i k, i < (itemsW m (F m H) (a : Int)).length → k < i → ((itemsW m (F m H) (a : Int)).getD i (0, 0)).1 ≠ ((itemsW m (F m H) (a : Int)).getD k (0, 0)).1 := fun i k hi hki => by
    rw [l1] at hi
    rw [items_at m _ _ i hi, items_at m _ _ k (by omega)]
    have := kids_ne ha hi hki
    show (kidsP m (a : Int))[i] ≠ (kidsP m (a : Int))[k]
    omega
  have gl := items_good hf hh hm60 H (a : Int)
  have gm := items_good hn hg (by rw [hmn]; exact hm60) H (a : Int)
  obtain ⟨pa, hpa⟩ := pk_some K (itemsW m (F m H) (a : Int)) (itemsW m (F m H) (a : Int)).length j (by omega) (by rw [i1]; show 0 < F m H q; omega)
  obtain ⟨pb, hpb⟩ := pk_some K (itemsW n (F n H) (a : Int)) (itemsW m (F m H) (a : Int)).length j (by omega) (by rw [i2]; show 0 < F n H q; omega)
  have e1 : stepW m (F m H) seed key (a : Int) = (kidsP m (a : Int)).getD pa 0 := by
    unfold stepW
    rw [← hK, hpa]
    rfl
  have e2 : stepW n (F n H) seed key (a : Int) = (kidsP m (a : Int)).getD pb 0 := by
    unfold stepW
    rw [← hK, hl2, hpb, hkl]
    rfl
  have pal := (pk_lt _ _ _ _ hpa).1
  have pbl := (pk_lt _ _ _ _ hpb).1
  have hab : pa ≠ pb := fun e => by subst e; exact hne (by rw [e1, e2])
  have hmv := moves (key := K) (l := itemsW m (F m H) (a : Int)) (m := itemsW n (F n H) (a : Int)) (itemsW m (F m H) (a : Int)).length j (by omega) (F n H q) gl gm (by rw [i1]; show 0 < F m H q; omega) (by omega) (by rw [i1, i2]) io hd pa pb hpa hpb hab
  have hbj : pb = j := hmv.1 (by rw [i1]; show F m H q < F n H q; omega)
  subst hbj
  have es : stepW n (F n H) seed key (a : Int) = (q : Int) := by
    rw [e2, List.getD_eq_getElem?_getD, List.getElem?_eq_getElem hj, hjq]; rfl
  obtain ⟨r, er, hrl, hra⟩ := kid pa (by omega)
  have es2 : stepW m (F m H) seed key (a : Int) = (r : Int) := by
    rw [e1, List.getD_eq_getElem?_getD, List.getElem?_eq_getElem (by omega), ← er]; rfl
  have hrq : r ≠ q := fun e => hne (by rw [es, es2, e])
  refine ⟨hup, q, r, hq, hrl, es, es2, hqa, hra, hqb, other r hrl hra hrq, fun hk => ?_⟩
  by_cases hw : (ndAt m (q : Int)).wt = 0
  · exact hw
  · exact absurd (F_fixed hf hn hh hg L hx hy h4 H hq hk hw) diff
theorem step_some (hf : Fine m) (hh : Heavy m) (H : List Int) (seed key : Int) {a : Nat} (ha : a < m.length) (h4 : (ndAt m a).kind ≠ 4) (hz : F m H a ≠ 0) : ∃ c : Nat, stepW m (F m H) seed key (a : Int) = (c : Int) ∧ c < m.length ∧ (ndAt m c).ab = (a : Int) ∧ F m H c ≠ 0 := by
  have hS : SF m H a ≠ 0 := fun h0 => by
    have h1 := F_eq hf H ha
    rw [if_neg h4, h0, if_neg (by simp)] at h1
    exact hz h1
  obtain ⟨b, hb, hg⟩ := (sumF_ne (g := gF m H a) (fun q => gF_lo hh H a q) m.length).mp hS
  have hab : (ndAt m b).ab = (a : Int) := by
    unfold gF at hg
    by_cases e : (ndAt m b).ab = (a : Int)
    · exact e
    · rw [if_neg e] at hg; exact absurd rfl hg
  have hFb : F m H b ≠ 0 := by unfold gF at hg; rwa [if_pos hab] at hg
  have hmem : (b : Int) ∈ kidsP m (a : Int) := by
    rw [kidsP_nat ha]
    exact kidsL_mem m a b (kid_b hf hb hab) m.length hb
  obtain ⟨i, hi, hix⟩ := List.getElem_of_mem hmem
  unfold stepW
  rcases hp : pk (mixD.ofZ seed [key, IntKind.u64.wrap (a : Int)]) (itemsW m (F m H) a) (itemsW m (F m H) a).length with _ | j
  · have h1 := pk_none _ _ _ hp i (by rw [items_len]; exact hi)
    rw [items_at m (F m H) a i hi, hix] at h1
    have h2 := F_lo hh H b
    have h3 : ¬ 0 < wtOf m (F m H) (b : Int) := h1
    rw [wt_nat hb] at h3
    omega
  · have h1 := pk_lt _ _ _ j hp
    rw [items_len] at h1
    rw [items_at m (F m H) a j h1.1] at h1
    have h2 : 0 < wtOf m (F m H) (kidsP m a)[j] := h1.2
    have hm := List.getElem_mem h1.1
    have hin := kidsP_in hm
    obtain ⟨c, hc⟩ : ∃ c : Nat, (kidsP m (a : Int))[j] = (c : Int) := ⟨((kidsP m (a : Int))[j]).toNat, by omega⟩
    rw [hc] at h2 hm hin
    rw [wt_nat (by omega)] at h2
    refine ⟨c, ?_, by omega, ?_, by omega⟩
    · show (kidsP m (a : Int)).getD j 0 = _
      rw [List.getD_eq_getElem?_getD, List.getElem?_eq_getElem h1.1]
      exact hc
    · rw [kidsP_nat ha] at hm
      obtain ⟨c', e, hc', hkb⟩ := kidsL_ab m _ _ _ hm
      have : c' = c := by omega
      subst this
      exact kid_ab hc' hkb
theorem way_head {W : Nat → Int} {seed key a : Int} {f : Nat} {l : List Int} (e : wayF m W seed key f a = some l) : l[0]? = some a := by
  cases f with
  | zero => cases e
  | succ f =>
    unfold wayF at e
    split at e
    · injection e with e; subst e; rfl
    · split at e
      · cases e
      · rw [Option.map_eq_some_iff] at e
        obtain ⟨x, _, rfl⟩ := e
        rfl
theorem way_len (hf : Fine m) {W : Nat → Int} {seed key : Int} : ∀ (f : Nat) (a : Int) (l : List Int), wayF m W seed key f a = some l → (l.length : Int) + (ndAt m a).kind = 5
  | 0, a, l, e => by cases e
  | f + 1, a, l, e => by
    unfold wayF at e
    split at e
    · rename_i hk
      injection e with e; subst e
      have : (ndAt m a).kind = 4 := by simpa using hk
      simp [this]
    · split at e
      · cases e
      · rename_i hs
        rw [Option.map_eq_some_iff] at e
        obtain ⟨x, hx, rfl⟩ := e
        have h1 := way_len hf f _ x hx
        have h2 := (step_kind hf hs).2.2
        rw [List.length_cons]
        omega
/-- Two ways are the same, or part above the host, and only the second one goes on towards it. -/
def Parted (m : List Nd) (h : Nat) (l l' : List Int) : Prop := l = l' ∨ ∃ k p q r : Nat, 1 ≤ k ∧ k < l.length ∧ p < m.length ∧ q < m.length ∧ r < m.length ∧ (∀ i, i < k → l[i]? = l'[i]?) ∧ l'[k - 1]? = some (p : Int) ∧ l[k - 1]? = some (p : Int) ∧ l'[k]? = some (q : Int) ∧ l[k]? = some (r : Int) ∧ (q ≠ r ∧ (ndAt m q).kind ≠ 1) ∧ belU m h p = true ∧ belU m h q = true ∧ belU m h r = false ∧ ((ndAt m q).kind ≠ 4 → (ndAt m q).wt = 0) ∧ ((ndAt m q).kind = 4 → l'.getLast? = some (q : Int))
theorem Parted.cons {l l' : List Int} (h1 : Parted m h l l') (a : Int) : Parted m h (a :: l) (a :: l') := by
  rcases h1 with rfl | ⟨k, p, q, r, a1, a2, a3, a4, a5, a6, a7, a8, a9, a10, a11, a12, a13, a14, a15, a16⟩
  · exact .inl rfl
  · refine .inr ⟨k + 1, p, q, r, by omega, by rw [List.length_cons]; omega, a3, a4, a5, fun i hi => ?_, ?_, ?_, ?_, ?_, a11, a12, a13, a14, a15, fun hk => ?_⟩
    · cases i with
      | zero => rfl
      | succ i => rw [List.getElem?_cons_succ, List.getElem?_cons_succ]; exact a6 i (by omega)
    · obtain ⟨k, rfl⟩ : ∃ j, k = j + 1 := ⟨k - 1, by omega⟩
      exact a7
    · obtain ⟨k, rfl⟩ : ∃ j, k = j + 1 := ⟨k - 1, by omega⟩
      exact a8
    · exact a9
    · exact a10
    · rw [List.getLast?_cons, a16 hk]; rfl
theorem ways (hf : Fine m) (hn : Fine n) (hh : Heavy m) (hg : Heavy n) (hm60 : m.length ≤ 60) (L : Like h m n) (hm : h < m.length) (h4 : (ndAt m h).kind = 4) (hx : (ndAt m h).wt ≠ 0) (hy : (ndAt n h).wt ≠ 0) (hle : (ndAt m h).wt ≤ (ndAt n h).wt) (H : List Int) (hp : F m H h ≠ 0) (seed key : Int) :
    ∀ (f a : Nat), a < m.length → 5 ≤ (f : Int) + (ndAt m a).kind → F m H a ≠ 0 → ∃ l l', wayF m (F m H) seed key f (a : Int) = some l ∧ wayF n (F n H) seed key f (a : Int) = some l' ∧ Parted m h l l'
  | 0, a, ha, hk, hz => by
    rw [treW.ndAt_nat ha] at hk
    have := hf.hi a ha
    omega
  | f + 1, a, ha, hk, hz => by
    unfold wayF
    rw [L.kind]
    by_cases hk4 : (ndAt m a).kind = 4
    · rw [if_pos (by simpa using hk4), if_pos (by simpa using hk4)]
      exact ⟨_, _, rfl, rfl, .inl rfl⟩
    · have hk5 : ¬ ((ndAt m (a : Int)).kind == 4) = true := by simpa using hk4
      rw [if_neg hk5, if_neg hk5]
      have hk4' : (ndAt n a).kind ≠ 4 := by rw [L.kind]; exact hk4
      have hz' : F n H a ≠ 0 := (zero_like hf hn hh hg L hx hy H ha).mpr hz
      obtain ⟨c, ec, hc, hca, hcz⟩ := step_some hf hh H seed key ha hk4 hz
      obtain ⟨d, ed, hd, hda, hdz⟩ := step_some hn hg H seed key (by rw [L.len]; exact ha) hk4' hz'
      rw [L.len] at hd
      rw [L.ab] at hda
      have hck := (kid_kind hf hc hca).2.2.1
      have hdk := (kid_kind hf hd hda).2.2.1
      rw [ec, ed, if_neg (show ¬ (c : Int) = -1 by omega), if_neg (show ¬ (d : Int) = -1 by omega)]
      by_cases hcd : d = c
      · subst hcd
        obtain ⟨l, l', e1, e2, hP⟩ := ways hf hn hh hg hm60 L hm h4 hx hy hle H hp seed key f d hd (by omega) hcz
        rw [e1, e2]
        exact ⟨_, _, rfl, rfl, hP.cons _⟩
      · have hF := step_fork hf hn hh hg hm60 L hm h4 hx hy hle H hp seed key ha hk4 (by rw [ec, ed]; omega)
        obtain ⟨hup, q, r, hq, hr, eq1, er1, hqa, hra, hqb, hrb, hqw⟩ := hF
        have e1 : d = q := by omega
        have e2 : c = r := by omega
        subst e1 e2
        obtain ⟨l, _, w1, _⟩ := some_way hf hh H seed key f c hc (by omega) hcz
        obtain ⟨l', _, w2, _⟩ := some_way hn hg H seed key f d (by rw [L.len]; exact hd) (by rw [L.kind]; omega) hdz
        rw [w1, w2]
        have n1 := way_head w1
        have n2 := way_head w2
        have l1 := way_len hf _ _ _ w1
        refine ⟨_, _, rfl, rfl, .inr ⟨1, a, d, c, Nat.le_refl _, ?_, ha, hd, hc, fun i hi => ?_, rfl, rfl, n2, n1, ⟨hcd, (kid_kind hf hd hda).2.2.2⟩, hup, hqb, hrb, hqw, fun hk9 => ?_⟩⟩
        · rw [List.length_cons]
          have := (hf.hi c hc)
          rw [← treW.ndAt_nat hc] at this
          omega
        · have : i = 0 := by omega
          subst this
          rfl
        · have hl' : l' = [(d : Int)] := by
            cases f with
            | zero => cases w2
            | succ f =>
              unfold wayF at w2
              rw [if_pos (by rw [L.kind]; simpa using hk9)] at w2
              injection w2 with w2
              exact w2.symm
          rw [hl']
          rfl
end
end Go.Proofs.YtoaboklckkcjcaaGreat.walkT
/- Layer 26: ways from a level, and hosts, as one host weighs otherwise, in plain words. -/
namespace Go.Proofs.YtoaboklckkcjcaaGreat.walkV
open Go.ChangeShapes Go.WideShapes Go.ChangeAt Go.RowKit
open Go.Proofs.YtoaboklckkcjcaaGreat.base Go.Proofs.YtoaboklckkcjcaaGreat.dfA Go.Proofs.YtoaboklckkcjcaaGreat.treB Go.Proofs.YtoaboklckkcjcaaGreat.treD Go.Proofs.YtoaboklckkcjcaaGreat.treG Go.Proofs.YtoaboklckkcjcaaGreat.treH Go.Proofs.YtoaboklckkcjcaaGreat.treE Go.Proofs.YtoaboklckkcjcaaGreat.treC Go.Proofs.YtoaboklckkcjcaaGreat.treM Go.Proofs.YtoaboklckkcjcaaGreat.treW Go.Proofs.YtoaboklckkcjcaaGreat.eliW Go.Proofs.YtoaboklckkcjcaaGreat.eliB Go.Proofs.YtoaboklckkcjcaaGreat.eliG Go.Proofs.YtoaboklckkcjcaaGreat.walkA Go.Proofs.YtoaboklckkcjcaaGreat.walkC Go.Proofs.YtoaboklckkcjcaaGreat.walkE Go.Proofs.YtoaboklckkcjcaaGreat.walkD Go.Proofs.YtoaboklckkcjcaaGreat.walkG Go.Proofs.YtoaboklckkcjcaaGreat.walkL Go.Proofs.YtoaboklckkcjcaaGreat.walkM Go.Proofs.YtoaboklckkcjcaaGreat.walkN Go.Proofs.YtoaboklckkcjcaaGreat.walkS Go.Proofs.YtoaboklckkcjcaaGreat.walkT
set_option linter.unusedVariables false

/-- All that is asked of nodes and of the same nodes with another weight of the host h. -/
structure Two (h : Nat) (m n : List Nd) (H : List Int) : Prop where
  hf : Fine m
  hn : Fine n
  hh : Heavy m
  hg : Heavy n
  m60 : m.length ≤ 60
  L : Like h m n
  hm : h < m.length
  h4 : (ndAt m h).kind = 4
  hx : (ndAt m h).wt ≠ 0
  hy : (ndAt n h).wt ≠ 0
  hp : F m H h ≠ 0
section
variable {h : Nat} {m n : List Nd} {H : List Int}
theorem Two.symm (t : Two h m n H) : Two h n m H := ⟨t.hn, t.hf, t.hg, t.hh, by rw [t.L.len]; exact t.m60, t.L.symm, by rw [t.L.len]; exact t.hm, by rw [t.L.kind]; exact t.h4, t.hy, t.hx, (zero_like t.hf t.hn t.hh t.hg t.L t.hx t.hy H t.hm).mpr t.hp⟩
theorem Two.zero (t : Two h m n H) {i : Nat} (hi : i < m.length) : F n H i ≠ 0 ↔ F m H i ≠ 0 := zero_like t.hf t.hn t.hh t.hg t.L t.hx t.hy H hi
theorem Two.wtz (t : Two h m n H) (i : Int) : (wtOf n (F n H) i != 0) = (wtOf m (F m H) i != 0) := by
  unfold wtOf
  rw [t.L.len]
  cases hq : isB i m.length with
  | false => rfl
  | true =>
    obtain ⟨b, rfl, hb⟩ := isB_of hq
    rw [if_pos rfl, if_pos rfl, Int.toNat_natCast]
    have := t.zero hb
    by_cases e : F m H b = 0
    · have e2 : F n H b = 0 := Decidable.not_not.mp fun x => (this.mp x) e
      rw [e, e2]
    · have e2 : F n H b ≠ 0 := this.mpr e
      rw [bne_iff_ne.mpr e, bne_iff_ne.mpr e2]
theorem way_two (t : Two h m n H) (hle : (ndAt m h).wt ≤ (ndAt n h).wt) (seed key : Int) (f : Nat) {a : Nat} (ha : a < m.length) (hk : 5 ≤ (f : Int) + (ndAt m a).kind) (hz : F m H a ≠ 0) :
    ((wayF m (F m H) seed key f a).getD []).length = ((wayF n (F n H) seed key f a).getD []).length ∧ Parted m h ((wayF m (F m H) seed key f a).getD []) ((wayF n (F n H) seed key f a).getD []) := by
  obtain ⟨l, l', e1, e2, hP⟩ := walkT.ways t.hf t.hn t.hh t.hg t.m60 t.L t.hm t.h4 t.hx t.hy hle H t.hp seed key f a ha hk hz
  have l1 := way_len t.hf _ _ _ e1
  have l2 := way_len t.hn _ _ _ e2
  rw [t.L.kind] at l2
  rw [e1, e2, Option.getD_some, Option.getD_some]
  exact ⟨by omega, hP⟩
theorem down_f (m : List Nd) (W : Nat → Int) (seed key a : Int) (f : Nat) (hf : f = 4) : downW m W seed key a = if (wtOf m W a != 0) = true then (wayF m W seed key f a).getD [] else [] := by
  subst hf
  rfl
theorem ite_two {x : Bool} {l l' : List Int} {P : List Int → List Int → Prop} (h0 : P [] []) (h1 : x = true → P l l') : P (if x = true then l else []) (if x = true then l' else []) := by
  cases x with
  | false => exact h0
  | true => exact h1 rfl
theorem down_two (t : Two h m n H) (hle : (ndAt m h).wt ≤ (ndAt n h).wt) (seed key : Int) {a : Nat} (ha : a < m.length) (hk : (ndAt m a).kind = 1) :
    (downW m (F m H) seed key a).length = (downW n (F n H) seed key a).length ∧ Parted m h (downW m (F m H) seed key a) (downW n (F n H) seed key a) := by
  obtain ⟨f, hf⟩ : ∃ f : Nat, f = 4 := ⟨4, rfl⟩
  have hz := t.wtz (a : Int)
  rw [down_f m (F m H) seed key a f hf, down_f n (F n H) seed key a f hf, hz]
  refine ite_two (P := fun l l' => l.length = l'.length ∧ Parted m h l l') ⟨rfl, .inl rfl⟩ fun hq => ?_
  rw [wt_nat ha] at hq
  exact way_two t hle seed key f ha (by omega) (bne_iff_ne.mp hq)
theorem parted_like (t : Two h m n H) {l l' : List Int} (hP : Parted n h l l') : Parted m h l l' := by
  rcases hP with e | ⟨k, p, q, r, a1, a2, a3, a4, a5, a6, a7, a8, a9, a10, a11, a12, a13, a14, a15, a16⟩
  · exact .inl e
  · rw [t.L.len] at a3 a4 a5
    rw [belU_like t.L] at a12 a13 a14
    rw [t.L.kind] at a11 a15 a16
    refine .inr ⟨k, p, q, r, a1, a2, a3, a4, a5, a6, a7, a8, a9, a10, a11, a12, a13, a14, fun hk => ?_, a16⟩
    have hne : q ≠ h := fun e => by subst e; exact hk t.h4
    rw [← t.L.wt _ (by omega)]
    exact a15 hk
/-- The way that goes on towards the host, and the other one. -/
def toL (m n : List Nd) (h : Nat) (l l' : List Int) : List Int := if (ndAt n h).wt < (ndAt m h).wt then l else l'
theorem down_way (t : Two h m n H) (seed key : Int) {a : Nat} (ha : a < m.length) (hk : (ndAt m a).kind = 1) :
    (downW m (F m H) seed key a).length = (downW n (F n H) seed key a).length ∧ Parted m h (toL m n h (downW n (F n H) seed key a) (downW m (F m H) seed key a)) (toL m n h (downW m (F m H) seed key a) (downW n (F n H) seed key a)) := by
  unfold toL
  by_cases e : (ndAt n h).wt < (ndAt m h).wt
  · rw [if_pos e, if_pos e]
    have h1 := down_two t.symm (by omega) seed key (a := a) (by rw [t.L.len]; exact ha) (by rw [t.L.kind]; exact hk)
    exact ⟨h1.1.symm, parted_like t h1.2⟩
  · rw [if_neg e, if_neg e]
    exact down_two t (by omega) seed key ha hk
/-- What two ways tell that have their first k in common, and no more. -/
theorem parted_at {l l' : List Int} {k : Nat} (hP : Parted m h l l') (hl : l.length = l'.length) (hs : IsSpl l l' k ∨ IsSpl l' l k) (hk : k ≠ l.length) :
    ∃ p q r : Nat, 1 ≤ k ∧ k < l.length ∧ p < m.length ∧ q < m.length ∧ r < m.length ∧ l'[k - 1]? = some (p : Int) ∧ l'[k]? = some (q : Int) ∧ l[k]? = some (r : Int) ∧ (q ≠ r ∧ (ndAt m q).kind ≠ 1) ∧ belU m h p = true ∧ belU m h q = true ∧ belU m h r = false ∧ ((ndAt m q).kind ≠ 4 → (ndAt m q).wt = 0) := by
  have hs2 : IsSpl l l' k := by
    rcases hs with hs | hs
    · exact hs
    · exact ⟨hs.lb, hs.la, fun i ha hb hi => (hs.eq i hb ha hi).symm, fun ha hb e => hs.ne hb ha e.symm⟩
  have hkl : k < l.length := by have := hs2.la; omega
  rcases hP with e | ⟨j, p, q, r, a1, a2, a3, a4, a5, a6, a7, a8, a9, a10, a11, a12, a13, a14, a15, a16⟩
  · subst e
    exact absurd rfl (hs2.ne hkl hkl)
  · have hjl' : j < l'.length := by omega
    have hkj : k = j := by
      rcases Nat.lt_trichotomy k j with h1 | h1 | h1
      · exfalso
        have h2 := a6 k h1
        rw [List.getElem?_eq_getElem hkl, List.getElem?_eq_getElem (by omega)] at h2
        exact hs2.ne hkl (by omega) (Option.some.inj h2)
      · exact h1
      · exfalso
        have h2 := hs2.eq j a2 hjl' h1
        rw [List.getElem?_eq_getElem hjl'] at a9
        rw [List.getElem?_eq_getElem a2, h2] at a10
        have h3 := Option.some.inj a9
        have h4 := Option.some.inj a10
        have : (q : Int) = r := h3.symm.trans h4
        exact a11.1 (by omega)
    subst hkj
    exact ⟨p, q, r, a1, a2, a3, a4, a5, a7, a9, a10, a11, a12, a13, a14, a15⟩
/-- The host's rack and zone. -/
theorem rack_of (hf : Fine m) (hm : h < m.length) (h4 : (ndAt m h).kind = 4) : ∃ a b : Nat, a < m.length ∧ b < m.length ∧ (ndAt m h).ab = (a : Int) ∧ (ndAt m a).ab = (b : Int) ∧ (ndAt m a).kind = 3 ∧ (ndAt m b).kind = 2 := by
  rw [treW.ndAt_nat hm] at h4 ⊢
  obtain ⟨a, ha, e1, _, k1⟩ := hf.sub h hm (by omega)
  obtain ⟨b, hb, e2, _, k2⟩ := hf.sub a ha (by omega)
  exact ⟨a, b, ha, hb, e1, by rw [treW.ndAt_nat ha]; exact e2, by rw [treW.ndAt_nat ha]; omega, by rw [treW.ndAt_nat hb]; omega⟩
theorem bel_is (hf : Fine m) (hm : h < m.length) (h4 : (ndAt m h).kind = 4) {a b q : Nat} (ha : a < m.length) (hb : b < m.length) (e1 : (ndAt m h).ab = (a : Int)) (e2 : (ndAt m a).ab = (b : Int)) (k1 : (ndAt m a).kind = 3) (k2 : (ndAt m b).kind = 2) (hq : q < m.length) (hb' : belU m h q = true) (hk : (ndAt m q).kind ≠ 1) : q = h ∨ q = a ∨ q = b := by
  unfold belU at hb'
  have hu : upF m (ndAt m q).kind (h : Int) = (q : Int) := by simpa using hb'
  have hlo := hf.lo q hq
  have hhi := hf.hi q hq
  rw [← treW.ndAt_nat hq] at hlo hhi
  rw [treW.ndAt_nat hm] at h4 e1
  rw [treW.ndAt_nat ha] at k1 e2
  rw [treW.ndAt_nat hb] at k2
  by_cases c4 : (ndAt m q).kind = 4
  · rw [c4, upF_here 4 hm (by simp [h4])] at hu
    left; omega
  · rw [upF_step hf _ hm (beq_false_of_ne (by omega)), e1] at hu
    by_cases c3 : (ndAt m q).kind = 3
    · rw [c3, upF_here 3 ha (by simp [k1])] at hu
      right; left; omega
    · rw [upF_step hf _ ha (beq_false_of_ne (by omega)), e2] at hu
      have c2 : (ndAt m q).kind = 2 := by omega
      rw [c2, upF_here 2 hb (by simp [k2])] at hu
      right; right; omega
/-! The same nodes with another weight of one. -/
def setWt (m : List Nd) (h : Nat) (wt : Int) : List Nd := m.set h { ndAt m h with wt := wt }
theorem setWt_len (wt : Int) : (setWt m h wt).length = m.length := by unfold setWt; rw [List.length_set]
theorem setWt_at (hm : h < m.length) (wt : Int) : ndAt (setWt m h wt) (h : Int) = { ndAt m h with wt := wt } := by
  rw [treW.ndAt_nat (by rw [setWt_len]; exact hm)]
  unfold setWt
  rw [List.getElem_set_self]
theorem setWt_ne (wt : Int) {i : Int} (hi : i ≠ (h : Int)) : ndAt (setWt m h wt) i = ndAt m i := by
  unfold ndAt
  rw [setWt_len]
  cases hq : isB i m.length with
  | false => rfl
  | true =>
    obtain ⟨b, rfl, hb⟩ := isB_of hq
    rw [if_pos rfl, if_pos rfl, Int.toNat_natCast]
    unfold setWt
    rw [List.getD_eq_getElem?_getD, List.getD_eq_getElem?_getD, List.getElem?_set_ne (by omega)]
theorem setWt_like (hm : h < m.length) (wt : Int) : Like h m (setWt m h wt) := by
  refine ⟨setWt_len wt, fun i => ?_, fun i => ?_, fun i hi => by rw [setWt_ne wt hi]⟩
  · by_cases e : i = (h : Int)
    · subst e; rw [setWt_at hm]
    · rw [setWt_ne wt e]
  · by_cases e : i = (h : Int)
    · subst e; rw [setWt_at hm]
    · rw [setWt_ne wt e]
end
/-! What may be may be with another weight, too. -/
def strip (e : Nd) : Nd := { e with wt := 0 }
theorem setWt_strip (m : List Nd) (h : Nat) (wt : Int) (hm : h < m.length) : (setWt m h wt).map strip = m.map strip := by
  unfold setWt
  rw [List.map_set]
  have e : strip { ndAt m (h : Int) with wt := wt } = (m.map strip)[h]'(by rw [List.length_map]; exact hm) := by
    rw [List.getElem_map, treW.ndAt_nat hm]
    rfl
  rw [e, List.set_getElem_self]
theorem ndAt_strip (P : List Nd) (i : Int) : ndAt (P.map strip) i = strip (ndAt P i) := by
  unfold ndAt
  rw [List.length_map]
  split
  · rw [List.getD_eq_getElem?_getD, List.getD_eq_getElem?_getD, List.getElem?_map]
    cases P[i.toNat]? <;> rfl
  · rfl
theorem hasB_strip (P : List Nd) (n : Nd) : hasB (P.map strip) n = hasB P n := by
  unfold hasB
  rw [List.any_map]
  rfl
theorem ofK_strip (P : List Nd) (kd : Int) (k : Nat) : ofK (P.map strip) kd k = ofK P kd k := by
  unfold ofK
  congr 1
  apply List.filter_congr
  intro x _
  have e : ((P.map strip).getD x zNd).kind = (P.getD x zNd).kind := by
    rw [List.getD_eq_getElem?_getD, List.getD_eq_getElem?_getD, List.getElem?_map]
    cases P[x]? <;> rfl
  rw [e]
theorem whyF_strip (P : List Nd) (n : Nd) : whyF (P.map strip) n = whyF P n := by
  unfold whyF whyZ fullB
  rw [ndAt_strip, hasB_strip, ofK_strip, ofK_strip, List.length_map]
  rfl
theorem whyF_same {P P' : List Nd} (e : P'.map strip = P.map strip) (n : Nd) : whyF P' n = whyF P n := by rw [← whyF_strip P', e, whyF_strip]
theorem whyF_wt {P : List Nd} {n : Nd} (h0 : whyF P n = 0) (h4 : n.kind = 4) (wt : Int) (w0 : 0 ≤ wt) (w1 : wt ≤ 65535) : whyF P { n with wt := wt } = 0 := by
  obtain ⟨nm, kind, ab, wt0, v6, hi, lo⟩ := n
  simp only at h4
  subst h4
  have hh : hasB P ⟨nm, 4, ab, wt, v6, hi, lo⟩ = hasB P ⟨nm, 4, ab, wt0, v6, hi, lo⟩ := rfl
  have e1 : (decide (wt < 0) || decide (65535 < wt) || ((4 : Int) == 1 && !(wt == 0))) = false := by
    rw [decide_eq_false (show ¬ wt < 0 by omega), decide_eq_false (show ¬ 65535 < wt by omega)]
    rfl
  have key : whyZ P ⟨nm, 4, ab, wt, v6, hi, lo⟩ = 0 ∧ ¬ fullB P 4 = true := by
    unfold whyF at h0
    simp only at h0
    by_cases hz : whyZ P ⟨nm, 4, ab, wt0, v6, hi, lo⟩ = 0
    · rw [if_pos hz] at h0
      refine ⟨?_, fun hc => by rw [if_pos hc] at h0; cases h0⟩
      unfold whyZ at hz ⊢
      simp only at hz ⊢
      rw [e1, hh]
      split at hz
      · cases hz
      · rename_i c1
        rw [if_neg c1]
        split at hz
        · cases hz
        · rw [if_neg (by decide)]
          exact hz
    · rw [if_neg hz] at h0
      exact absurd h0 hz
  show (if whyZ P ⟨nm, 4, ab, wt, v6, hi, lo⟩ = 0 then (if fullB P 4 = true then 6 else 0) else whyZ P ⟨nm, 4, ab, wt, v6, hi, lo⟩) = 0
  rw [if_pos key.1, if_neg key.2]
theorem setWt_good {m : List Nd} {h : Nat} (hg : GoodTo m m.length) (hm : h < m.length) (h4 : (ndAt m h).kind = 4) (wt : Int) (w0 : 0 ≤ wt) (w1 : wt ≤ 65535) : GoodTo (setWt m h wt) (setWt m h wt).length := fun j hj hjk => by
  rw [setWt_len] at hj
  have h0 := hg j hj hj
  have ht : ((setWt m h wt).take j).map strip = (m.take j).map strip := by rw [List.map_take, List.map_take, setWt_strip m h wt hm]
  rw [whyF_same ht]
  by_cases e : j = h
  · subst e
    have e2 : (setWt m j wt)[j]'(by rw [setWt_len]; exact hm) = { m[j] with wt := wt } := by
      unfold setWt
      rw [List.getElem_set_self, treW.ndAt_nat hm]
    rw [e2]
    rw [treW.ndAt_nat hm] at h4
    exact whyF_wt h0 h4 wt w0 w1
  · have e2 : (setWt m h wt)[j]'(by rw [setWt_len]; exact hj) = m[j] := by
      unfold setWt
      rw [List.getElem_set_ne (by omega)]
    rw [e2]
    exact h0
theorem setWt_two {m : List Nd} {h : Nat} {H : List Int} (hg : GoodTo m m.length) (m60 : m.length ≤ 60) (hm : h < m.length) (h4 : (ndAt m h).kind = 4) (hp : F m H h ≠ 0) (wt : Int) (w0 : 0 < wt) (w1 : wt ≤ 65535) : Two h m (setWt m h wt) H := by
  have hs := setWt_good hg hm h4 wt (by omega) w1
  refine ⟨fine_of hg, fine_of hs, heavy_of hg, heavy_of hs, m60, setWt_like hm wt, hm, h4, fun e => ?_, by rw [setWt_at hm]; show wt ≠ 0; omega, hp⟩
  have e1 := F_eq (fine_of hg) H hm
  rw [if_pos h4] at e1
  unfold hw0 pkB at e1
  rw [e] at e1
  simp at e1
  exact hp e1
end Go.Proofs.YtoaboklckkcjcaaGreat.walkV
/- Layer 26: the law's above. -/
namespace Go.Proofs.YtoaboklckkcjcaaGreat.walkU
open Go.ChangeShapes Go.WideShapes Go.ChangeAt Go.RowKit
open Go.Proofs.YtoaboklckkcjcaaGreat.base Go.Proofs.YtoaboklckkcjcaaGreat.dfA Go.Proofs.YtoaboklckkcjcaaGreat.treB Go.Proofs.YtoaboklckkcjcaaGreat.treG Go.Proofs.YtoaboklckkcjcaaGreat.treM Go.Proofs.YtoaboklckkcjcaaGreat.treW Go.Proofs.YtoaboklckkcjcaaGreat.treP Go.Proofs.YtoaboklckkcjcaaGreat.eliW Go.Proofs.YtoaboklckkcjcaaGreat.eliA Go.Proofs.YtoaboklckkcjcaaGreat.eliB Go.Proofs.YtoaboklckkcjcaaGreat.eliC
set_option linter.unusedVariables false

set_option maxHeartbeats 8000000 in
theorem above_x {m : List Nd} {A : Option Addr} {c : Nat} {w : World} (hr : RdN w A m) (hcap : m.length ≤ c) (hcap2 : c ≤ 9223372036854775807) (hf : Fine m) {x a : Nat} (hx : x < m.length) (ha : a < m.length) :
    Calls Tryz.prog 33 #[.slice A m.length c, .int .i64 (a : Int), .int .i64 (x : Int)] w fun o w' => o = .returned (.bool (belU m x a)) ∧ w' = w := by
  have HF := Lib.hid hf
  have HR := Lib.hid hr
  have HB := Lib.hid (belF_U hf ha hx)
  obtain ⟨n, hn⟩ : ∃ n, n = m.length := ⟨_, rfl⟩
  have HN := Lib.hid hn
  rw [← hn] at hcap ⊢
  obtain ⟨r, hr2⟩ : ∃ r, r = belU m x a := ⟨_, rfl⟩
  have HRR := Lib.hid hr2
  rw [← hr2] at HB ⊢
  clear hf hr hn hr2
  go_enter Tryz.func33, Tryz.ntmps33
  go_wp2_with fail
  go_loopw [2, 7] (fun i' k' wr => ∃ (y : Int) (k : Nat), i' = .int .i64 y ∧ k' = .int .i64 k ∧ k ≤ 4 ∧ Hid (belF m (a : Int) (4 - k) y = r) ∧ wr = w) (fun _ k' _ => 4 - (intOf k').toNat)
  case atStart => exact ⟨x, 0, rfl, rfl, by omega, HB, rfl⟩
  case round =>
    obtain ⟨y, k, rfl, rfl, hk4, HX, rfl⟩ := hrel
    by_cases hk : k < 4
    · have t1 : decide ((k : Int) < 4) = true := decide_eq_true (by omega)
      cases hq : isB y m.length with
      | false =>
        have HU := Lib.hid (belF_out (m := m) (a := (a : Int)) hq (4 - k))
        rcases isB_not hq with hx0 | hx0
        · have t2 : decide (0 ≤ y) = false := decide_eq_false (by omega)
          clear hq
          go_wp2_with fail
          go_ret
          exact ⟨by rw [← HX.out, HU.out]; rfl, rfl⟩
        · have t2 : decide (0 ≤ y) = true := decide_eq_true (by omega)
          have t3 : decide (y < (n : Int)) = false := decide_eq_false (by have := HN.out; omega)
          clear hq
          go_wp2_with fail
          go_ret
          exact ⟨by rw [← HX.out, HU.out]; rfl, rfl⟩
      | true =>
        obtain ⟨b, rfl, hb⟩ := isB_of hq
        obtain ⟨bl, off, hA, hbl, hC⟩ := HR.out.at_ b hb
        subst hA
        have HA := Lib.hid (show belF m (a : Int) (4 - k) (b : Int) = if ((b : Int) == (a : Int)) = true then true else belF m (a : Int) (4 - (k + 1)) (m[b]).ab from by
          rw [show 4 - k = (4 - (k + 1)) + 1 by omega]
          show (if isB (b : Int) m.length = true then (if ((b : Int) == (a : Int)) = true then true else belF m (a : Int) (4 - (k + 1)) (ndAt m (b : Int)).ab) else false) = _
          rw [isB_nat hb, if_pos rfl, ndAt_nat hb])
        obtain ⟨e, he⟩ : ∃ e, e = m[b] := ⟨_, rfl⟩
        rw [← he] at hC HA
        have d2 : wr.cell? ⟨bl, off + b * 7 + 2, none⟩ = some (.int .i64 e.ab) := hC 2 (by omega)
        have j0 : (0 : Int) ≤ b := by omega
        have j1 : (b : Int) < n := by have := HN.out; omega
        have t2 : decide ((0 : Int) ≤ b) = true := decide_eq_true j0
        have t3 : decide ((b : Int) < n) = true := decide_eq_true j1
        clear hC he hq
        by_cases hba : b = a
        · subst hba
          rw [if_pos (by simp)] at HA
          have x1 : ((b : Int) == (b : Int)) = true := by simp
          go_wp2_with fail
          go_ret
          exact ⟨by rw [← HX.out, HA.out]; rfl, rfl⟩
        · have hkd : ((b : Int) == (a : Int)) = false := beq_false_of_ne (by omega)
          have hkd2 : (b == a) = false := beq_false_of_ne hba
          rw [hkd, if_neg (by decide)] at HA
          clear hba
          go_wp2_with fail
          go_roundw
          case rel => exact ⟨e.ab, k + 1, rfl, by go_num, by omega, Lib.hid (HA.out.symm.trans HX.out), trivial⟩
          case measure => simp [intOf]; omega
    · have t1 : decide ((k : Int) < 4) = false := decide_eq_false (by omega)
      have HU := Lib.hid (show r = false from by rw [← HX.out, show 4 - k = 0 by omega]; rfl)
      go_wp2_with fail
      go_ret
      exact ⟨by rw [HU.out]; rfl, rfl⟩
end Go.Proofs.YtoaboklckkcjcaaGreat.walkU
