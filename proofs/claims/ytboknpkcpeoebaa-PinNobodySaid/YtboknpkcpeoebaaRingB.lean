/- Layer 39: a table that is filled, in plain words. -/
import Derived.Test.YtboknpkcpeoebaaRingA
namespace Go.Proofs.Ytboknpkcpeoebaa.ringB
open Go.Proofs.Ytboknpkcpeoebaa.ringA
set_option linter.unusedVariables false

/-- A table that is being filled: its places, each item's next one, what each is due, how many are free. -/
structure Rs where
  P : Nat → Int
  nx : Nat → Nat
  due : Nat → Int
  free : Nat
def upd {α : Type} (f : Nat → α) (k : Nat) (x : α) : Nat → α := fun i => if i = k then x else f i
theorem upd_here {α : Type} (f : Nat → α) (k : Nat) (x : α) : upd f k x k = x := by unfold upd; rw [if_pos rfl]
theorem upd_far {α : Type} (f : Nat → α) (k i : Nat) (x : α) (h : i ≠ k) : upd f k x i = f i := by unfold upd; rw [if_neg h]
theorem upd_upd {α : Type} (f : Nat → α) (k : Nat) (x y : α) : upd (upd f k x) k y = upd f k y := by
  funext i
  unfold upd
  split <;> rfl
/-- The first place that is free, of so many, from one on. -/
def srch (P : Nat → Int) (sk size : Nat) : Nat → Nat → Nat
  | 0, p => p
  | f + 1, p => if P p < 0 then p else srch P sk size f ((p + sk) % size)
def FreeP (P : Nat → Int) (sk size f p : Nat) : Prop := p < size ∧ ∃ k, k < f ∧ P ((p + k * sk) % size) < 0
theorem free_step {P : Nat → Int} {sk size f p : Nat} (h : FreeP P sk size (f + 1) p) (hn : ¬ P p < 0) : FreeP P sk size f ((p + sk) % size) := by
  obtain ⟨hp, k, hk, hP⟩ := h
  have hs : 0 < size := by omega
  refine ⟨Nat.mod_lt _ hs, k - 1, ?_, ?_⟩
  · by_cases e : k = 0
    · subst e
      rw [Nat.zero_mul, Nat.add_zero, Nat.mod_eq_of_lt hp] at hP
      exact absurd hP hn
    · omega
  · by_cases e : k = 0
    · subst e
      rw [Nat.zero_mul, Nat.add_zero, Nat.mod_eq_of_lt hp] at hP
      exact absurd hP hn
    · rw [Nat.mod_add_mod]
      obtain ⟨j, rfl⟩ : ∃ j, k = j + 1 := ⟨k - 1, by omega⟩
      rw [Nat.add_sub_cancel, show p + sk + j * sk = p + (j + 1) * sk by rw [Nat.add_mul]; omega]
      exact hP
theorem srch_stop {P : Nat → Int} {sk size f p : Nat} (h : FreeP P sk size f p) (hp : P p < 0) : srch P sk size f p = p := by
  obtain ⟨_, k, hk, _⟩ := h
  obtain ⟨g, rfl⟩ : ∃ g, f = g + 1 := ⟨f - 1, by omega⟩
  unfold srch
  rw [if_pos hp]
theorem srch_go {P : Nat → Int} {sk size f p : Nat} (hp : ¬ P p < 0) : srch P sk size (f + 1) p = srch P sk size f ((p + sk) % size) := by
  show (if P p < 0 then p else srch P sk size f ((p + sk) % size)) = _
  rw [if_neg hp]
theorem srch_free {P : Nat → Int} {sk size : Nat} : ∀ f p, FreeP P sk size f p → srch P sk size f p < size ∧ P (srch P sk size f p) < 0 := by
  intro f
  induction f with
  | zero => intro p h; obtain ⟨_, k, hk, _⟩ := h; omega
  | succ f ih =>
    intro p h
    by_cases hp : P p < 0
    · rw [srch_stop h hp]; exact ⟨h.1, hp⟩
    · rw [srch_go hp]; exact ih _ (free_step h hp)
theorem range_perm (n : Nat) (r : Nat → Nat) (hl : ∀ i, i < n → r i < n) (hi : ∀ i j, i < n → j < n → r i = r j → i = j) : ((List.range n).map r).Perm (List.range n) := by
  have nd : ((List.range n).map r).Nodup := by
    rw [List.nodup_iff_pairwise_ne, List.pairwise_map]
    refine List.Pairwise.imp_of_mem ?_ (List.nodup_range (n := n))
    intro a b ha hb hne e
    exact hne (hi a b (List.mem_range.mp ha) (List.mem_range.mp hb) e)
  have sub : ∀ x, x ∈ (List.range n).map r → x < n := by
    intro x hx
    rw [List.mem_map] at hx
    obtain ⟨i, h, rfl⟩ := hx
    exact hl i (List.mem_range.mp h)
  rw [List.perm_ext_iff_of_nodup nd List.nodup_range]
  intro a
  refine ⟨fun h => List.mem_range.mpr (sub a h), fun h => ?_⟩
  refine Classical.byContradiction fun hc => ?_
  have h2 : (a :: (List.range n).map r).Nodup := List.nodup_cons.mpr ⟨hc, nd⟩
  have h3 := List.Nodup.length_le_of_subset h2 (l₂ := List.range n) (by
    intro x hx
    rcases List.mem_cons.mp hx with e | e
    · rw [e]; exact h
    · exact List.mem_range.mpr (sub x e))
  simp at h3
  omega
theorem pr_dvd {p d : Nat} (h : Pr p) (hd : d ∣ p) (h1 : d ≠ 1) : d = p := by
  obtain ⟨e, he⟩ := hd
  by_cases e1 : e = 1
  · rw [he, e1, Nat.mul_one]
  · exfalso
    have hp := h.1
    have d0 : d ≠ 0 := by intro h0; rw [h0, Nat.zero_mul] at he; omega
    have e0 : e ≠ 0 := by intro h0; rw [h0, Nat.mul_zero] at he; omega
    rcases Nat.le_total d e with hle | hle
    · refine h.2 d (by omega) (by rw [he]; exact Nat.mul_le_mul (Nat.le_refl d) hle) ?_
      rw [he]; exact Nat.mul_mod_right _ _
    · refine h.2 e (by omega) (by rw [he]; exact Nat.mul_le_mul hle (Nat.le_refl e)) ?_
      rw [he]; exact Nat.mul_mod_left _ _
theorem orbit_inj {p sk : Nat} (h : Pr p) (h0 : 1 ≤ sk) (h1 : sk < p) (a i j : Nat) (hi : i < j) (hj : j < p) : (a + i * sk) % p ≠ (a + j * sk) % p := by
  intro e
  have hm := Nat.sub_mod_eq_zero_of_mod_eq e.symm
  have e2 : a + j * sk - (a + i * sk) = (j - i) * sk := by rw [Nat.sub_mul]; omega
  rw [e2] at hm
  have hd : p ∣ (j - i) * sk := Nat.dvd_of_mod_eq_zero hm
  have hg : Nat.gcd p sk = 1 := by
    refine Classical.byContradiction fun hne => ?_
    have := pr_dvd h (Nat.gcd_dvd_left p sk) hne
    have h3 := Nat.le_of_dvd (by omega) (Nat.gcd_dvd_right p sk)
    omega
  have h4 := Nat.Coprime.dvd_of_dvd_mul_right (show Nat.Coprime p sk from hg) hd
  have h5 := Nat.le_of_dvd (by omega) h4
  omega
theorem orbit {p sk : Nat} (h : Pr p) (h0 : 1 ≤ sk) (h1 : sk < p) (a q : Nat) (hq : q < p) : ∃ k, k < p ∧ (a + k * sk) % p = q := by
  have hp := range_perm p (fun k => (a + k * sk) % p) (fun i hi => Nat.mod_lt _ (by omega)) (fun i j hi hj e => by
    by_cases e2 : i = j
    · exact e2
    · rcases Nat.lt_or_gt_of_ne e2 with h2 | h2
      · exact absurd e (orbit_inj h h0 h1 a i j h2 hj)
      · exact absurd e.symm (orbit_inj h h0 h1 a j i h2 hi))
  have := hp.mem_iff.mpr (List.mem_range.mpr hq)
  rw [List.mem_map] at this
  obtain ⟨k, hk, e⟩ := this
  exact ⟨k, List.mem_range.mp hk, e⟩
/-- How many places are free. -/
def cfree (P : Nat → Int) : Nat → Nat
  | 0 => 0
  | q + 1 => cfree P q + if P q < 0 then 1 else 0
theorem cf_some (P : Nat → Int) (n : Nat) (h : 0 < cfree P n) : ∃ q, q < n ∧ P q < 0 := by
  induction n with
  | zero => simp [cfree] at h
  | succ n ih =>
    by_cases e : P n < 0
    · exact ⟨n, by omega, e⟩
    · unfold cfree at h
      rw [if_neg e] at h
      obtain ⟨q, hq, hP⟩ := ih (by omega)
      exact ⟨q, by omega, hP⟩
theorem cf_far (P : Nat → Int) (n p : Nat) (x : Int) (h : n ≤ p) : cfree (upd P p x) n = cfree P n := by
  induction n with
  | zero => rfl
  | succ n ih =>
    unfold cfree
    rw [ih (by omega), upd_far _ _ _ _ (by omega)]
theorem cf_upd (P : Nat → Int) (n p : Nat) (x : Int) (h : p < n) (hP : P p < 0) (hx : 0 ≤ x) : cfree (upd P p x) n + 1 = cfree P n := by
  induction n with
  | zero => omega
  | succ n ih =>
    unfold cfree
    by_cases e : p = n
    · subst e
      rw [cf_far P p p x (Nat.le_refl _), upd_here, if_neg (by omega), if_pos hP]
    · have := ih (by omega)
      rw [upd_far _ _ _ _ (by omega : n ≠ p)]
      omega
theorem cf_all (P : Nat → Int) (n : Nat) (h : ∀ q, q < n → P q < 0) : cfree P n = n := by
  induction n with
  | zero => rfl
  | succ n ih =>
    unfold cfree
    rw [ih (fun q hq => h q (by omega)), if_pos (h n (by omega))]
theorem free_of {P : Nat → Int} {p sk : Nat} (h : Pr p) (h0 : 1 ≤ sk) (h1 : sk < p) (a : Nat) (ha : a < p) (hf : 0 < cfree P p) : FreeP P sk p p a := by
  obtain ⟨q, hq, hP⟩ := cf_some P p hf
  obtain ⟨k, hk, e⟩ := orbit h h0 h1 a q hq
  exact ⟨ha, k, hk, by rw [e]; exact hP⟩
/-- What is between two items' turns. -/
structure OkR (size m : Nat) (most : Int) (s : Rs) : Prop where
  pv : ∀ q, q < size → s.P q = -1 ∨ (0 ≤ s.P q ∧ s.P q < m)
  nv : ∀ i, i < m → s.nx i < size
  dv : ∀ i, i < m → 0 ≤ s.due i ∧ s.due i < most
  fv : cfree s.P size = s.free
def takeS (size sk : Nat) (s : Rs) (i : Nat) : Rs := ⟨upd s.P (srch s.P sk size size (s.nx i)) (i : Int), upd s.nx i (srch s.P sk size size (s.nx i)), s.due, s.free - 1⟩
def stepI (size : Nat) (sk : Nat → Nat) (ws : Nat → Int) (most : Int) (s : Rs) (i : Nat) : Rs :=
  if s.due i + ws i < most then ⟨s.P, s.nx, upd s.due i (s.due i + ws i), s.free⟩ else takeS size (sk i) ⟨s.P, s.nx, upd s.due i (s.due i + ws i - most), s.free⟩ i
theorem OkR.step {size m : Nat} {sk : Nat → Nat} {ws : Nat → Int} {most : Int} {s : Rs} (h : OkR size m most s) (hp : Pr size) (i : Nat) (hi : i < m) (h0 : 1 ≤ sk i) (h1 : sk i < size) (w0 : 0 ≤ ws i) (w1 : ws i ≤ most) (hf : 0 < s.free) : OkR size m most (stepI size sk ws most s i) := by
  have hd := h.dv i hi
  unfold stepI
  by_cases e : s.due i + ws i < most
  · rw [if_pos e]
    refine ⟨h.pv, h.nv, fun j hj => ?_, h.fv⟩
    show 0 ≤ upd s.due i (s.due i + ws i) j ∧ upd s.due i (s.due i + ws i) j < most
    by_cases ej : j = i
    · rw [ej, upd_here]; omega
    · rw [upd_far _ _ _ _ ej]; exact h.dv j hj
  · rw [if_neg e]
    have hF := free_of hp h0 h1 (s.nx i) (h.nv i hi) (by rw [h.fv]; exact hf)
    obtain ⟨a, b⟩ := srch_free _ _ hF
    refine ⟨fun q hq => ?_, fun j hj => ?_, fun j hj => ?_, ?_⟩
    · show upd s.P (srch s.P (sk i) size size (s.nx i)) (i : Int) q = -1 ∨ _
      by_cases eq : q = srch s.P (sk i) size size (s.nx i)
      · right
        show 0 ≤ upd s.P (srch s.P (sk i) size size (s.nx i)) (i : Int) q ∧ upd s.P (srch s.P (sk i) size size (s.nx i)) (i : Int) q < m
        rw [eq, upd_here]; omega
      · show upd s.P (srch s.P (sk i) size size (s.nx i)) (i : Int) q = -1 ∨ (0 ≤ upd s.P (srch s.P (sk i) size size (s.nx i)) (i : Int) q ∧ upd s.P (srch s.P (sk i) size size (s.nx i)) (i : Int) q < m)
        rw [upd_far _ _ _ _ eq]; exact h.pv q hq
    · show upd s.nx i (srch s.P (sk i) size size (s.nx i)) j < size
      by_cases ej : j = i
      · rw [ej, upd_here]; exact a
      · rw [upd_far _ _ _ _ ej]; exact h.nv j hj
    · show 0 ≤ upd s.due i (s.due i + ws i - most) j ∧ upd s.due i (s.due i + ws i - most) j < most
      by_cases ej : j = i
      · rw [ej, upd_here]; omega
      · rw [upd_far _ _ _ _ ej]; exact h.dv j hj
    · show cfree (upd s.P (srch s.P (sk i) size size (s.nx i)) (i : Int)) size = s.free - 1
      have := cf_upd s.P size _ (i : Int) a b (by omega)
      have := h.fv
      omega
def runs (size : Nat) (sk : Nat → Nat) (ws : Nat → Int) (most : Int) (s : Rs) : Nat → Rs
  | 0 => s
  | j + 1 => if (runs size sk ws most s j).free = 0 then runs size sk ws most s j else stepI size sk ws most (runs size sk ws most s j) j
def rnd (size m : Nat) (sk : Nat → Nat) (ws : Nat → Int) (most : Int) (s : Rs) : Nat → Rs
  | 0 => s
  | k + 1 => runs size sk ws most (rnd size m sk ws most s k) m
/-- What items are. -/
structure ItemsR (size m : Nat) (sk : Nat → Nat) (ws : Nat → Int) (most : Int) : Prop where
  pr : Pr size
  s0 : ∀ i, i < m → 1 ≤ sk i
  s1 : ∀ i, i < m → sk i < size
  w0 : ∀ i, i < m → 0 ≤ ws i
  w1 : ∀ i, i < m → ws i ≤ most
  top : ∃ i, i < m ∧ ws i = most
theorem runs_ok {size m : Nat} {sk : Nat → Nat} {ws : Nat → Int} {most : Int} {s : Rs} (I : ItemsR size m sk ws most) (h : OkR size m most s) (j : Nat) (hj : j ≤ m) : OkR size m most (runs size sk ws most s j) := by
  induction j with
  | zero => exact h
  | succ j ih =>
    unfold runs
    split
    · exact ih (by omega)
    · rename_i e
      exact (ih (by omega)).step I.pr j (by omega) (I.s0 j (by omega)) (I.s1 j (by omega)) (I.w0 j (by omega)) (I.w1 j (by omega)) (by omega)
theorem step_free {size : Nat} {sk : Nat → Nat} {ws : Nat → Int} {most : Int} {s : Rs} (i : Nat) : (stepI size sk ws most s i).free ≤ s.free := by
  unfold stepI
  split
  · exact Nat.le_refl _
  · show s.free - 1 ≤ s.free
    omega
theorem runs_free {size m : Nat} {sk : Nat → Nat} {ws : Nat → Int} {most : Int} {s : Rs} (I : ItemsR size m sk ws most) (h : OkR size m most s) (hf : 0 < s.free) (j : Nat) (hj : j ≤ m) : (runs size sk ws most s j).free ≤ s.free ∧ ∀ i, i < j → ws i = most → (runs size sk ws most s j).free < s.free := by
  induction j with
  | zero => exact ⟨Nat.le_refl _, fun i hi => by omega⟩
  | succ j ih =>
    obtain ⟨a, b⟩ := ih (by omega)
    have hk := runs_ok I h j (by omega)
    unfold runs
    split
    · rename_i e
      exact ⟨a, fun i hi hw => by omega⟩
    · rename_i e
      have hs := step_free (size := size) (sk := sk) (ws := ws) (most := most) (s := runs size sk ws most s j) j
      refine ⟨by omega, fun i hi hw => ?_⟩
      by_cases ei : i = j
      · subst ei
        have hd := (hk.dv i (by omega)).1
        have : (stepI size sk ws most (runs size sk ws most s i) i).free = (runs size sk ws most s i).free - 1 := by
          unfold stepI
          rw [if_neg (by omega)]
          rfl
        omega
      · have := b i (by omega) hw
        omega
theorem rnd_ok {size m : Nat} {sk : Nat → Nat} {ws : Nat → Int} {most : Int} {s : Rs} (I : ItemsR size m sk ws most) (h : OkR size m most s) (k : Nat) : OkR size m most (rnd size m sk ws most s k) := by
  induction k with
  | zero => exact h
  | succ k ih => exact runs_ok I ih m (Nat.le_refl _)
theorem runs_done {size : Nat} {sk : Nat → Nat} {ws : Nat → Int} {most : Int} {s : Rs} (h : s.free = 0) (j : Nat) : runs size sk ws most s j = s := by
  induction j with
  | zero => rfl
  | succ j ih =>
    unfold runs
    rw [ih, if_pos h]
theorem rnd_done {size m : Nat} {sk : Nat → Nat} {ws : Nat → Int} {most : Int} {s : Rs} (k d : Nat) (h : (rnd size m sk ws most s k).free = 0) : rnd size m sk ws most s (k + d) = rnd size m sk ws most s k := by
  induction d with
  | zero => rfl
  | succ d ih =>
    show runs size sk ws most (rnd size m sk ws most s (k + d)) m = _
    rw [ih, runs_done h]
theorem rnd_free {size m : Nat} {sk : Nat → Nat} {ws : Nat → Int} {most : Int} {s : Rs} (I : ItemsR size m sk ws most) (h : OkR size m most s) (hf : s.free ≤ size) (k : Nat) : (rnd size m sk ws most s k).free = 0 ∨ (rnd size m sk ws most s k).free + k ≤ size := by
  induction k with
  | zero => right; exact hf
  | succ k ih =>
    have hk := rnd_ok I h k
    show (runs size sk ws most (rnd size m sk ws most s k) m).free = 0 ∨ (runs size sk ws most (rnd size m sk ws most s k) m).free + (k + 1) ≤ size
    by_cases e : (rnd size m sk ws most s k).free = 0
    · left; rw [runs_done e]; exact e
    · obtain ⟨i, hi, hw⟩ := I.top
      have := (runs_free I hk (by omega) m (Nat.le_refl _)).2 i hi hw
      rcases ih with a | a
      · omega
      · omega
/-- The table that is full. -/
def finR (size m : Nat) (sk : Nat → Nat) (ws : Nat → Int) (most : Int) (s : Rs) : Rs := rnd size m sk ws most s size
theorem fin_of {size m : Nat} {sk : Nat → Nat} {ws : Nat → Int} {most : Int} {s : Rs} (I : ItemsR size m sk ws most) (h : OkR size m most s) (hf : s.free ≤ size) (k : Nat) (hk : (rnd size m sk ws most s k).free = 0) : rnd size m sk ws most s k = finR size m sk ws most s := by
  unfold finR
  rcases Nat.le_total k size with hle | hle
  · obtain ⟨d, rfl⟩ := Nat.exists_eq_add_of_le hle
    exact (rnd_done k d hk).symm
  · obtain ⟨d, rfl⟩ := Nat.exists_eq_add_of_le hle
    have := rnd_free I h hf size
    exact rnd_done size d (by omega)
end Go.Proofs.Ytboknpkcpeoebaa.ringB
