/- Layer 38: what numbers say, what is sorted, in plain words. -/
import Derived.Test.YtpgodmcpdgbhaaaHistE
import Derived.Test.YtpgodmcpdgbhaaaHistA
namespace Go.Proofs.Ytpgodmcpdgbhaaa.histF
open Go.ChangeShapes Go.WideShapes Go.ChangeAt Go.RowKit
open Go.Proofs.Ytpgodmcpdgbhaaa.base Go.Proofs.Ytpgodmcpdgbhaaa.histD
set_option linter.unusedVariables false

/-- How many of these numbers have q bits. -/
def bl (x : Int) : Nat := Lib.bitLen x.toNat
def cntB (L : List Int) (q : Nat) : Int := ((L.countP fun x => bl x == q : Nat) : Int)
def U64 (L : List Int) : Prop := ∀ x ∈ L, 0 ≤ x ∧ x < 18446744073709551616
/-- The cells of a histogram say what these numbers say. -/
structure IsStat (f : Nat → Int) (L : List Int) : Prop where
  cnt : ∀ q, q < 65 → f q = cntB L q
  len : f 65 = L.length
  hi : f 66 = L.sum / 18446744073709551616
  lo : f 67 = L.sum % 18446744073709551616
  emp : L = [] → f 68 = 0 ∧ f 69 = 0
  few : L ≠ [] → f 68 ∈ L ∧ (∀ x ∈ L, f 68 ≤ x) ∧ f 69 ∈ L ∧ ∀ x ∈ L, x ≤ f 69
theorem cntB_app (A B : List Int) (q : Nat) : cntB (A ++ B) q = cntB A q + cntB B q := by
  unfold cntB
  rw [List.countP_append]
  omega
theorem cntB_bd (A : List Int) (q : Nat) : 0 ≤ cntB A q ∧ cntB A q ≤ A.length := by
  unfold cntB
  have := List.countP_le_length (p := fun x => bl x == q) (l := A)
  omega
theorem sum_perm {A B : List Int} (h : A.Perm B) : A.sum = B.sum := by
  induction h with
  | nil => rfl
  | cons x _ ih => simp [ih]
  | swap x y l => simp; omega
  | trans _ _ a b => exact a.trans b
theorem IsStat.perm {f : Nat → Int} {A B : List Int} (h : IsStat f A) (p : A.Perm B) : IsStat f B := by
  refine ⟨fun q hq => ?_, ?_, ?_, ?_, fun e => ?_, fun e => ?_⟩
  · rw [h.cnt q hq]; unfold cntB; rw [p.countP_eq]
  · rw [h.len, p.length_eq]
  · rw [h.hi, sum_perm p]
  · rw [h.lo, sum_perm p]
  · exact h.emp (by rw [e] at p; exact p.eq_nil)
  · obtain ⟨a, b, c, d⟩ := h.few (by intro e2; rw [e2] at p; exact e p.symm.eq_nil)
    exact ⟨p.mem_iff.mp a, fun x hx => b x (p.mem_iff.mpr hx), p.mem_iff.mp c, fun x hx => d x (p.mem_iff.mpr hx)⟩
theorem sum_bound (l : List Int) (h : U64 l) : 0 ≤ l.sum ∧ l.sum ≤ l.length * 18446744073709551615 := by
  induction l with
  | nil => simp
  | cons a l ih =>
    have h1 := h a (by simp)
    have h2 := ih (fun x hx => h x (by simp [hx]))
    simp only [List.sum_cons, List.length_cons]
    omega
theorem U64.app {A B : List Int} (a : U64 A) (b : U64 B) : U64 (A ++ B) := by
  intro x hx
  rw [List.mem_append] at hx
  rcases hx with hx | hx
  · exact a x hx
  · exact b x hx
theorem U64.perm {A B : List Int} (a : U64 A) (p : A.Perm B) : U64 B := fun x hx => a x (p.mem_iff.mpr hx)
theorem IsStat.join {f g : Nat → Int} {A B : List Int} (hf : IsStat f A) (hg : IsStat g B) (ne : B ≠ []) (ua : U64 A) (ub : U64 B) : IsStat (joinZ f g) (A ++ B) := by
  obtain ⟨a, b, c, d⟩ := hg.few ne
  have sa := sum_bound A ua
  have sb := sum_bound B ub
  refine ⟨fun q hq => ?_, ?_, ?_, ?_, fun e => ?_, fun _ => ?_⟩
  · unfold joinZ; rw [if_pos hq, hf.cnt q hq, hg.cnt q hq, cntB_app]
  · show f 65 + g 65 = _
    rw [hf.len, hg.len, List.length_append]; omega
  · show f 66 + g 66 + (f 67 + g 67) / 18446744073709551616 = _
    rw [hf.hi, hg.hi, hf.lo, hg.lo, List.sum_append]; omega
  · show (f 67 + g 67) % 18446744073709551616 = _
    rw [hf.lo, hg.lo, List.sum_append]; omega
  · simp at e; exact absurd e.2 ne
  · have j8 : joinZ f g 68 = leastZ (f 65) (f 68) (g 68) := rfl
    have j9 : joinZ f g 69 = max (f 69) (g 69) := rfl
    rw [j8, j9]
    by_cases hA : A = []
    · subst hA
      have e0 := hf.len
      have e1 := (hf.emp rfl).2
      have e8 : leastZ (f 65) (f 68) (g 68) = g 68 := by unfold leastZ; rw [if_pos (by rw [e0]; rfl)]
      have e9 : max (f 69) (g 69) = g 69 := by rw [e1]; have := (ub _ c).1; omega
      rw [e8, e9, List.nil_append]
      exact ⟨a, b, c, d⟩
    · obtain ⟨a', b', c', d'⟩ := hf.few hA
      have l0 : ¬ f 65 = 0 := by
        rw [hf.len]
        have := List.length_pos_iff.mpr hA
        omega
      unfold leastZ
      rw [if_neg l0]
      refine ⟨?_, fun x hx => ?_, ?_, fun x hx => ?_⟩
      · split
        · exact List.mem_append_right _ a
        · exact List.mem_append_left _ a'
      · rw [List.mem_append] at hx
        rcases hx with hx | hx
        · have := b' x hx; split <;> omega
        · have := b x hx; split <;> omega
      · rcases Int.le_total (f 69) (g 69) with h | h
        · rw [Int.max_eq_right h]; exact List.mem_append_right _ c
        · rw [Int.max_eq_left h]; exact List.mem_append_left _ c'
      · rw [List.mem_append] at hx
        rcases hx with hx | hx
        · have := d' x hx; omega
        · have := d x hx; omega
/-- What join_at asks. -/
theorem IsStat.fits {f g : Nat → Int} {A B : List Int} (hf : IsStat f A) (hg : IsStat g B) (ua : U64 A) (ub : U64 B) (la : A.length ≤ 1000) (lb : B.length ≤ 1000) :
    (0 ≤ f 65 + g 65 ∧ f 65 + g 65 < 18446744073709551616) ∧ ((0 ≤ f 66 ∧ f 66 < 18446744073709551616) ∧ (0 ≤ f 67 ∧ f 67 < 18446744073709551616) ∧ (0 ≤ g 66 ∧ g 66 < 18446744073709551616) ∧ (0 ≤ g 67 ∧ g 67 < 18446744073709551616) ∧ f 66 + g 66 + (f 67 + g 67) / 18446744073709551616 < 18446744073709551616) ∧ ∀ q, q < 65 → 0 ≤ f q + g q ∧ f q + g q < 18446744073709551616 := by
  have sa := sum_bound A ua
  have sb := sum_bound B ub
  rw [hf.len, hg.len, hf.hi, hf.lo, hg.hi, hg.lo]
  refine ⟨by omega, ⟨by omega, by omega, by omega, by omega, by omega⟩, fun q hq => ?_⟩
  rw [hf.cnt q hq, hg.cnt q hq]
  have := cntB_bd A q
  have := cntB_bd B q
  omega
/-- The least of a sorted list, and the greatest. -/
theorem IsStat.ends {f : Nat → Int} {S : List Int} (h : IsStat f S) (hs : S.Pairwise (· ≤ ·)) (n : Nat) (hn : S.length = n + 1) : S[0]? = some (f 68) ∧ S[n]? = some (f 69) := by
  have ne : S ≠ [] := by intro e; rw [e] at hn; simp at hn
  obtain ⟨a, b, c, d⟩ := h.few ne
  rw [List.pairwise_iff_getElem] at hs
  obtain ⟨i, hi, ei⟩ := List.getElem_of_mem a
  obtain ⟨j, hj, ej⟩ := List.getElem_of_mem c
  have h0 : 0 < S.length := by omega
  have hN : n < S.length := by omega
  rw [List.getElem?_eq_getElem h0, List.getElem?_eq_getElem hN]
  have x1 := b _ (List.getElem_mem h0)
  have x2 := d _ (List.getElem_mem hN)
  have y1 : S[0] ≤ f 68 := by
    by_cases e : i = 0
    · subst e; omega
    · have := hs 0 i h0 hi (by omega); omega
  have y2 : f 69 ≤ S[n] := by
    by_cases e : j = n
    · subst e; omega
    · have := hs j n hj hN (by omega); omega
  exact ⟨by rw [Int.le_antisymm y1 x1], by rw [Int.le_antisymm x2 y2]⟩
/-- A sorted list: which place has fewer bits. -/
theorem sorted_count (p : Int → Bool) (S : List Int) (hs : S.Pairwise (· ≤ ·)) (hp : ∀ x ∈ S, ∀ y ∈ S, x ≤ y → p y = true → p x = true) : ∀ i, (hi : i < S.length) → (p S[i] = true ↔ i < S.countP p) := by
  induction S with
  | nil => intro i hi; cases hi
  | cons a T ih =>
    intro i hi
    rw [List.pairwise_cons] at hs
    have ih := ih hs.2 (fun x hx y hy => hp x (by simp [hx]) y (by simp [hy]))
    by_cases ha : p a = true
    · rw [List.countP_cons_of_pos ha]
      cases i with
      | zero => simp [ha]
      | succ i =>
        have := ih i (by simpa using hi)
        simp only [List.getElem_cons_succ]
        rw [this]; omega
    · have hz : T.countP p = 0 := by
        rw [List.countP_eq_zero]
        intro x hx hpx
        exact ha (hp a (by simp) x (by simp [hx]) (hs.1 x hx) hpx)
      rw [List.countP_cons_of_neg ha, hz]
      constructor
      · intro hpi
        exfalso
        have hm : (a :: T)[i] ∈ a :: T := List.getElem_mem hi
        refine ha (hp a (by simp) _ hm ?_ hpi)
        rcases List.mem_cons.mp hm with e | e
        · rw [e]; exact Int.le_refl _
        · exact hs.1 _ e
      · intro h; omega
def below (S : List Int) (k : Nat) : Nat := S.countP fun x => decide (bl x < k)
theorem below_next (S : List Int) (k : Nat) : (below S (k + 1) : Int) = below S k + cntB S k := by
  unfold below cntB
  induction S with
  | nil => rfl
  | cons a T ih =>
    simp only [List.countP_cons]
    have e1 : (decide (bl a < k + 1) = true) ↔ bl a < k + 1 := by simp
    have e2 : (decide (bl a < k) = true) ↔ bl a < k := by simp
    have e3 : ((bl a == k) = true) ↔ bl a = k := by simp
    simp only [e1, e2, e3]
    split <;> split <;> split <;> omega
theorem below_zero (S : List Int) : below S 0 = 0 := by unfold below; simp
theorem bl_bd (x : Int) (h0 : 0 ≤ x) (h1 : x < 18446744073709551616) (H : ∀ n : Nat, n < 18446744073709551616 → Lib.bitLen n ≤ 64) : bl x ≤ 64 := H _ (by omega)
theorem below_all (S : List Int) (h : ∀ x ∈ S, bl x ≤ 64) : below S 65 = S.length := by
  unfold below
  rw [List.countP_eq_length]
  intro x hx
  have := h x hx
  simp; omega
/-- The place's number has so many bits. -/
theorem quant (S : List Int) (hs : S.Pairwise (· ≤ ·)) (mono : ∀ x ∈ S, ∀ y ∈ S, x ≤ y → bl x ≤ bl y) (i k : Nat) (hi : i < S.length) (h0 : below S k ≤ i) (h1 : i < below S (k + 1)) : bl S[i] = k := by
  have a := sorted_count (fun x => decide (bl x < k)) S hs (fun x hx y hy h hp => by have := mono x hx y hy h; simp at hp ⊢; omega) i hi
  have b := sorted_count (fun x => decide (bl x < k + 1)) S hs (fun x hx y hy h hp => by have := mono x hx y hy h; simp at hp ⊢; omega) i hi
  simp only [decide_eq_true_eq] at a b
  have hb := b.mpr h1
  have ha : ¬ bl S[i] < k := fun h => by have := a.mp h; unfold below at h0; omega
  omega
/-- Which place comes aheadZ of which. -/
def aheadZ (X : Nat → Int) (k i : Nat) : Bool := decide (X k < X i) || (X k == X i && decide (k < i))
def rank (X : Nat → Int) (i : Nat) : Nat → Nat
  | 0 => 0
  | m + 1 => rank X i m + if aheadZ X m i then 1 else 0
theorem rank_le (X : Nat → Int) (i m : Nat) : rank X i m ≤ m := by
  induction m with
  | zero => exact Nat.le_refl _
  | succ m ih => unfold rank; split <;> omega
theorem aheadZ_iff (X : Nat → Int) (k i : Nat) : aheadZ X k i = true ↔ (X k < X i ∨ (X k = X i ∧ k < i)) := by unfold aheadZ; simp
theorem rank_lt (X : Nat → Int) (i m : Nat) (h : i < m) : rank X i m < m := by
  induction m with
  | zero => omega
  | succ m ih =>
    unfold rank
    by_cases e : i = m
    · subst e
      have : ¬ aheadZ X i i = true := by rw [aheadZ_iff]; omega
      rw [if_neg this]
      have := rank_le X i i
      omega
    · have := ih (by omega)
      split <;> omega
theorem rank_mono (X : Nat → Int) (i j m : Nat) (h : ∀ k, k < m → aheadZ X k i = true → aheadZ X k j = true) : rank X i m ≤ rank X j m := by
  induction m with
  | zero => exact Nat.le_refl _
  | succ m ih =>
    have h1 := ih (fun k hk => h k (by omega))
    have h2 := h m (by omega)
    unfold rank
    by_cases e : aheadZ X m i = true
    · rw [if_pos e, if_pos (h2 e)]; omega
    · rw [if_neg e]; omega
theorem rank_strict (X : Nat → Int) (i j m : Nat) (hi : i < m) (h : aheadZ X i j = true) : rank X i m < rank X j m := by
  have tr : ∀ k, aheadZ X k i = true → aheadZ X k j = true := by
    intro k hk
    rw [aheadZ_iff] at *
    omega
  induction m with
  | zero => omega
  | succ m ih =>
    unfold rank
    by_cases e : i = m
    · subst e
      have n1 : ¬ aheadZ X i i = true := by rw [aheadZ_iff]; omega
      rw [if_neg n1, if_pos h]
      have := rank_mono X i j i (fun k _ => tr k)
      omega
    · have h1 := ih (by omega)
      by_cases e : aheadZ X m i = true
      · rw [if_pos e, if_pos (tr m e)]; omega
      · rw [if_neg e]; omega
theorem rank_inj (X : Nat → Int) (i j m : Nat) (hi : i < m) (hj : j < m) (h : rank X i m = rank X j m) : i = j := by
  by_cases e : i = j
  · exact e
  · have : aheadZ X i j = true ∨ aheadZ X j i = true := by
      rw [aheadZ_iff, aheadZ_iff]
      omega
    rcases this with a | a
    · have := rank_strict X i j m hi a; omega
    · have := rank_strict X j i m hj a; omega
theorem range_perm (n : Nat) (r : Nat → Nat) (hl : ∀ i, i < n → r i < n) (hi : ∀ i j, i < n → j < n → r i = r j → i = j) : ((List.range n).map r).Perm (List.range n) := by
  have nd : ((List.range n).map r).Nodup := by
    rw [List.nodup_iff_pairwise_ne, List.pairwise_map]
    refine List.Pairwise.imp_of_mem ?_ (List.nodup_range (n := n))
    intro a b ha hb hne e
    exact hne (hi a b (List.mem_range.mp ha) (List.mem_range.mp hb) e)
  have sub : ∀ x, x ∈ (List.range n).map r → x < n := by
    intro x hx
    rw [List.mem_map] at hx
    obtain ⟨i, h, rfl⟩ := hx
    exact hl i (List.mem_range.mp h)
  rw [List.perm_ext_iff_of_nodup nd List.nodup_range]
  intro a
  refine ⟨fun h => List.mem_range.mpr (sub a h), fun h => ?_⟩
  refine Classical.byContradiction fun hc => ?_
  have h2 : (a :: (List.range n).map r).Nodup := List.nodup_cons.mpr ⟨hc, nd⟩
  have h3 := List.Nodup.length_le_of_subset h2 (l₂ := List.range n) (by
    intro x hx
    rcases List.mem_cons.mp hx with e | e
    · rw [e]; exact h
    · exact List.mem_range.mpr (sub x e))
  simp at h3
  omega
/-- What is put where it belongs is sorted, and the same numbers. -/
theorem sorted_of (n : Nat) (X O : Nat → Int) (h : ∀ i, i < n → O (rank X i n) = X i) : ((List.range n).map O).Perm ((List.range n).map X) ∧ ((List.range n).map O).Pairwise (· ≤ ·) := by
  have hp := range_perm n (fun i => rank X i n) (fun i hi => rank_lt X i n hi) (fun i j hi hj e => rank_inj X i j n hi hj e)
  constructor
  · have h1 := hp.map O
    rw [List.map_map] at h1
    have e : (List.range n).map (O ∘ fun i => rank X i n) = (List.range n).map X := List.map_congr_left fun i hi => h i (List.mem_range.mp hi)
    rw [e] at h1
    exact h1.symm
  · rw [List.pairwise_map]
    refine List.Pairwise.imp_of_mem ?_ (List.pairwise_lt_range (n := n))
    intro a b ha hb hab
    have ma := hp.mem_iff.mpr ha
    have mb := hp.mem_iff.mpr hb
    rw [List.mem_map] at ma mb
    obtain ⟨i, hi, rfl⟩ := ma
    obtain ⟨j, hj, rfl⟩ := mb
    rw [List.mem_range] at hi hj
    rw [h i hi, h j hj]
    rcases Int.lt_or_le (X j) (X i) with c | c
    · have : aheadZ X j i = true := by rw [aheadZ_iff]; exact .inl c
      have := rank_strict X j i n hj this
      omega
    · exact c
theorem bl_le (x : Int) (h0 : 0 ≤ x) (h1 : x < 18446744073709551616) : bl x ≤ 64 := (Go.Proofs.Ytpgodmcpdgbhaaa.histA.bl_in 64 x.toNat (by omega) (by omega)).2.2.1
theorem bl_mono (x y : Int) (h0 : 0 ≤ x) (h1 : y < 18446744073709551616) (h : x ≤ y) : bl x ≤ bl y := by
  unfold bl
  obtain ⟨a, b, _, d⟩ := Go.Proofs.Ytpgodmcpdgbhaaa.histA.bl_in 64 x.toNat (by omega) (by omega)
  obtain ⟨a', _, _, _⟩ := Go.Proofs.Ytpgodmcpdgbhaaa.histA.bl_in 64 y.toNat (by omega) (by omega)
  by_cases e : x.toNat = 0
  · rw [e, Go.Proofs.Ytpgodmcpdgbhaaa.histA.bl_zero]; omega
  · have b := b e
    have d := d e
    rcases Nat.lt_or_ge (Lib.bitLen y.toNat) (Lib.bitLen x.toNat) with hlt | hge
    · have hp : 2 ^ Lib.bitLen y.toNat ≤ 2 ^ (Lib.bitLen x.toNat - 1) := Nat.pow_le_pow_right (by decide) (by omega)
      omega
    · exact hge
/-- The cells of one number. -/
def oneZ (v : Int) : Nat → Int := put (put (put (put (put (put (fun _ => 0) 65 1) 66 0) 67 v) 68 v) 69 v) (bl v) 1
theorem one_stat (v : Int) (h0 : 0 ≤ v) (h1 : v < 18446744073709551616) : IsStat (oneZ v) [v] := by
  have hb := bl_le v h0 h1
  have far : ∀ q, 65 ≤ q → oneZ v q = put (put (put (put (put (fun _ => 0) 65 1) 66 0) 67 v) 68 v) 69 v q := fun q hq => by unfold oneZ; rw [put_far (by omega)]
  have near : ∀ q, q < 65 → put (put (put (put (put (fun _ => 0) 65 1) 66 0) 67 v) 68 v) 69 v q = 0 := fun q hq => by rw [put_far (by omega), put_far (by omega), put_far (by omega), put_far (by omega), put_far (by omega)]
  refine ⟨fun q hq => ?_, ?_, ?_, ?_, fun e => (by cases e), fun _ => ?_⟩
  · unfold cntB
    by_cases e : q = bl v
    · subst e
      unfold oneZ
      rw [put_here, List.countP_cons_of_pos (by simp)]
      rfl
    · unfold oneZ
      rw [put_far e, near q hq, List.countP_cons_of_neg (by simp; omega)]
      rfl
  · rw [far 65 (by omega)]; simp [put]
  · rw [far 66 (by omega)]; simp [put]; omega
  · rw [far 67 (by omega)]; simp [put]; omega
  · rw [far 68 (by omega), far 69 (by omega)]
    simp [put]
def Z70 : Array Value := (List.replicate 70 (Value.int .u64 0)).toArray
theorem z70_at : At70 Z70 (fun _ => 0) := by
  have e : Z70.toList = List.replicate 70 (Value.int .u64 0) := rfl
  refine ⟨by rw [← Array.length_toList, e, List.length_replicate], fun i hi => ?_⟩
  rw [← Array.getElem?_toList, e, List.getElem?_replicate, if_pos hi]
theorem empty_stat : IsStat (fun _ => 0) [] := by
  refine ⟨fun q _ => rfl, rfl, rfl, rfl, fun _ => ⟨rfl, rfl⟩, fun h => absurd rfl h⟩
theorem zero70 : (Try.prog.info? 56).map (fun i => (i.zero, i.size)) = some (some (.agg Z70), 70) := by kernel_rfl
theorem at70_one {cs : Array Value} {f : Nat → Int} (h : At70 cs f) : cs.all (·.oneCell') = true := by
  rw [Array.all_eq_true]
  intro i hi
  have := h.2 i (by rw [h.1] at hi; exact hi)
  rw [Array.getElem?_eq_getElem hi] at this
  injection this with e
  rw [e]
  rfl
end Go.Proofs.Ytpgodmcpdgbhaaa.histF
