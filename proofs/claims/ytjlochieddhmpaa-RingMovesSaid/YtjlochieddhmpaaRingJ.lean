/- Layer 39: how many places each item has. -/
import Derived.Test.YtjlochieddhmpaaRingH
namespace Go.Proofs.Ytjlochieddhmpaa.ringJ
open Go.Proofs.Ytjlochieddhmpaa.ringA Go.Proofs.Ytjlochieddhmpaa.ringB Go.Proofs.Ytjlochieddhmpaa.ringE Go.Proofs.Ytjlochieddhmpaa.ringG Go.Proofs.Ytjlochieddhmpaa.ringH
set_option linter.unusedVariables false

def cntI (P : Nat → Int) (i : Nat) : Nat → Nat
  | 0 => 0
  | q + 1 => cntI P i q + if P q = (i : Int) then 1 else 0
theorem cntI_far (P : Nat → Int) (i n p : Nat) (x : Int) (h : n ≤ p) : cntI (upd P p x) i n = cntI P i n := by
  induction n with
  | zero => rfl
  | succ n ih =>
    unfold cntI
    rw [ih (by omega), upd_far _ _ _ _ (by omega)]
theorem cntI_upd (P : Nat → Int) (i j n p : Nat) (h : p < n) (hP : P p < 0) : cntI (upd P p (j : Int)) i n = cntI P i n + if i = j then 1 else 0 := by
  induction n with
  | zero => omega
  | succ n ih =>
    unfold cntI
    by_cases e : p = n
    · subst e
      rw [cntI_far P i p p _ (Nat.le_refl _), upd_here, if_neg (show ¬ P p = (i : Int) by omega)]
      by_cases ij : i = j
      · rw [if_pos ij, if_pos (by rw [ij])]
      · rw [if_neg ij, if_neg (by omega)]
    · have := ih (by omega)
      rw [upd_far _ _ _ _ (by omega : n ≠ p), this]
      omega
theorem cntI_none (P : Nat → Int) (i n : Nat) (h : ∀ q, q < n → P q < 0) : cntI P i n = 0 := by
  induction n with
  | zero => rfl
  | succ n ih =>
    unfold cntI
    rw [ih (fun q hq => h q (by omega)), if_neg (by have := h n (by omega); omega)]
theorem cntI_le (P : Nat → Int) (i n : Nat) : cntI P i n ≤ n := by
  induction n with
  | zero => exact Nat.le_refl _
  | succ n ih => unfold cntI; split <;> omega
/-- What each item got, and is due, is what it weighs, so often. -/
def Tally (n m : Nat) (ws : Nat → Int) (most : Int) (s : Rs) (rr : Nat → Nat) : Prop := ∀ i, i < m → (cntI s.P i n : Int) * most + s.due i = (rr i : Int) * ws i
theorem tally_step {n m : Nat} {sk : Nat → Nat} {ws : Nat → Int} {most : Int} {s : Rs} {rr : Nat → Nat} (I : ItemsR n m sk ws most) (h : OkR n m most s) (T : Tally n m ws most s rr) (i : Nat) (hi : i < m) (hf : 0 < s.free) :
    Tally n m ws most (stepI n sk ws most s i) (fun q => rr q + if q = i then 1 else 0) := by
  intro q hq
  have hT := T q hq
  show (cntI (stepI n sk ws most s i).P q n : Int) * most + (stepI n sk ws most s i).due q = ((rr q + if q = i then 1 else 0 : Nat) : Int) * ws q
  unfold stepI
  by_cases hc : s.due i + ws i < most
  · rw [if_pos hc]
    show (cntI s.P q n : Int) * most + upd s.due i (s.due i + ws i) q = _
    by_cases e : q = i
    · subst e
      rw [upd_here, if_pos rfl, Int.natCast_add, Int.add_mul]
      show (cntI s.P q n : Int) * most + (s.due q + ws q) = rr q * ws q + 1 * ws q
      rw [Int.one_mul, ← hT]
      omega
    · rw [upd_far _ _ _ _ e, if_neg e, Nat.add_zero]
      exact hT
  · rw [if_neg hc]
    have hF := free_of I.pr (I.s0 i hi) (I.s1 i hi) (s.nx i) (h.nv i hi) (by rw [h.fv]; exact hf)
    obtain ⟨a, b⟩ := srch_free _ _ hF
    show (cntI (upd s.P (srch s.P (sk i) n n (s.nx i)) (i : Int)) q n : Int) * most + upd s.due i (s.due i + ws i - most) q = _
    rw [cntI_upd s.P q i n _ a b]
    by_cases e : q = i
    · subst e
      rw [upd_here, if_pos rfl, Int.natCast_add, Int.add_mul, Int.natCast_add, Int.add_mul]
      show (cntI s.P q n : Int) * most + 1 * most + (s.due q + ws q - most) = rr q * ws q + 1 * ws q
      rw [Int.one_mul, Int.one_mul, ← hT]
      omega
    · rw [upd_far _ _ _ _ e, if_neg e, Nat.add_zero, Nat.add_zero]
      exact hT
def ahead (k j : Nat) : Nat → Nat := fun i => k + if i < j then 1 else 0
theorem tally_ext {n m : Nat} {ws : Nat → Int} {most : Int} {s : Rs} {r1 r2 : Nat → Nat} (h : Tally n m ws most s r1) (e : ∀ i, i < m → r1 i = r2 i) : Tally n m ws most s r2 := by
  intro i hi
  rw [← e i hi]
  exact h i hi
theorem tally_runs {n m : Nat} {sk : Nat → Nat} {ws : Nat → Int} {most : Int} {s : Rs} (I : ItemsR n m sk ws most) (h : OkR n m most s) (k : Nat) (T : Tally n m ws most s (fun _ => k)) (j : Nat) (hj : j ≤ m) :
    ∃ jj, Tally n m ws most (runs n sk ws most s j) (ahead k jj) ∧ ((runs n sk ws most s j).free ≠ 0 → jj = j) := by
  induction j with
  | zero => exact ⟨0, tally_ext T fun i hi => by unfold ahead; rw [if_neg (by omega)]; rfl, fun _ => rfl⟩
  | succ j ih =>
    obtain ⟨jj, h1, h2⟩ := ih (by omega)
    unfold runs
    split
    · rename_i e
      exact ⟨jj, h1, fun h => absurd e h⟩
    · rename_i e
      have ej := h2 e
      rw [ej] at h1
      refine ⟨j + 1, tally_ext (tally_step I (runs_ok I h j (by omega)) h1 j (by omega) (by omega)) fun i hi => ?_, fun _ => rfl⟩
      show ahead k j i + (if i = j then 1 else 0) = ahead k (j + 1) i
      unfold ahead
      by_cases e1 : i < j
      · rw [if_pos e1, if_neg (by omega), if_pos (by omega)]
      · by_cases e2 : i = j
        · rw [if_neg e1, if_pos e2, if_pos (by omega)]
        · rw [if_neg e1, if_neg e2, if_neg (by omega)]
theorem tally_rnd {n m : Nat} {sk : Nat → Nat} {ws : Nat → Int} {most : Int} {s : Rs} (I : ItemsR n m sk ws most) (h : OkR n m most s) (T : Tally n m ws most s (fun _ => 0)) (k : Nat) :
    (∃ r jj, Tally n m ws most (rnd n m sk ws most s k) (ahead r jj)) ∧ ((rnd n m sk ws most s k).free ≠ 0 → Tally n m ws most (rnd n m sk ws most s k) (fun _ => k)) := by
  induction k with
  | zero => exact ⟨⟨0, 0, tally_ext T fun i hi => by unfold ahead; rw [if_neg (by omega)]⟩, fun _ => T⟩
  | succ k ih =>
    by_cases e : (rnd n m sk ws most s k).free = 0
    · have e2 : rnd n m sk ws most s (k + 1) = rnd n m sk ws most s k := rnd_done k 1 e
      rw [e2]
      exact ⟨ih.1, fun h => absurd e h⟩
    · obtain ⟨jj, h1, h2⟩ := tally_runs I (rnd_ok I h k) k (ih.2 e) m (Nat.le_refl _)
      refine ⟨⟨k, jj, h1⟩, fun hf => ?_⟩
      have ej := h2 hf
      rw [ej] at h1
      exact tally_ext h1 fun i hi => by unfold ahead; rw [if_pos hi]
theorem start_tally (seed : Int) (n m : Nat) (ids ws : Nat → Int) (most : Int) : Tally n m ws most (startS seed n ids) (fun _ => 0) := by
  intro i hi
  rw [cntI_none _ _ _ (fun q hq => by show (-1 : Int) < 0; omega)]
  show ((0 : Nat) : Int) * most + 0 = ((0 : Nat) : Int) * ws i
  simp
/-- Of two that weigh otherwise. -/
theorem fair_of (a b r1 r2 : Nat) (M d1 d2 w1 w2 : Int) (hM : 0 < M) (h1 : (a : Int) * M + d1 = r1 * w1) (h2 : (b : Int) * M + d2 = r2 * w2) (hr : r1 ≤ r2 + 1) (d10 : 0 ≤ d1) (d21 : d2 < M) (w10 : 0 ≤ w1) (w12 : w1 < w2) (w2M : w2 ≤ M) : (a : Int) - 1 ≤ b := by
  refine Classical.byContradiction fun hc => ?_
  have hab : (b : Int) + 2 ≤ a := by omega
  have p1 := Int.mul_le_mul_of_nonneg_right hab (Int.le_of_lt hM)
  rw [Int.add_mul] at p1
  by_cases hr0 : r1 = 0
  · rw [hr0] at h1
    have p3 : (0 : Int) ≤ (b : Int) * M := Int.mul_nonneg (by omega) (by omega)
    have e0 : ((0 : Nat) : Int) * w1 = 0 := by simp
    rw [e0] at h1
    omega
  · have p2 : ((r1 : Int) - 1) * w1 ≤ ((r1 : Int) - 1) * w2 := Int.mul_le_mul_of_nonneg_left (Int.le_of_lt w12) (by omega)
    have p3 : ((r1 : Int) - 1) * w2 ≤ (r2 : Int) * w2 := Int.mul_le_mul_of_nonneg_right (by omega) (by omega)
    rw [Int.sub_mul, Int.one_mul] at p2
    generalize (a : Int) * M = x at *
    generalize (b : Int) * M = y at *
    generalize (r1 : Int) * w1 = z at *
    generalize (r2 : Int) * w2 = u at *
    omega
/-- What the law asks of the places. -/
theorem end_fair (seed : Int) (n m : Nat) (ids ws : Nat → Int) (hp : Pr n) (hw : ∀ j, j < m → 0 ≤ ws j ∧ ws j ≤ 65535) (i k : Nat) (hi : i < m) (hk : k < m) :
    (ws i = 0 → cntI (endS seed n m ids ws).P i n = 0) ∧ (ws i < ws k → (cntI (endS seed n m ids ws).P i n : Int) - 1 ≤ cntI (endS seed n m ids ws).P k n) := by
  obtain ⟨mw0, mw1, mw2, _⟩ := maxW_in ws m hw
  by_cases h0 : 0 < maxW ws m
  · have hO := start_ok seed n m ids ws hp.1 h0
    have hI := items_ok seed n m ids ws hp hw h0
    have hE := rnd_ok hI hO n
    obtain ⟨⟨r, jj, hT⟩, _⟩ := tally_rnd hI hO (start_tally seed n m ids ws (maxW ws m)) n
    have e : endS seed n m ids ws = rnd n m (fun i => skZ seed n (ids i)) ws (maxW ws m) (startS seed n ids) n := by unfold endS; rw [if_pos h0]; rfl
    rw [e]
    have t1 := hT i hi
    have t2 := hT k hk
    have d1 := hE.dv i hi
    have d2 := hE.dv k hk
    refine ⟨fun hz => ?_, fun hlt => ?_⟩
    · rw [hz, Int.mul_zero] at t1
      refine Classical.byContradiction fun hc => ?_
      have : (1 : Int) * maxW ws m ≤ (cntI (rnd n m (fun i => skZ seed n (ids i)) ws (maxW ws m) (startS seed n ids) n).P i n : Int) * maxW ws m := Int.mul_le_mul_of_nonneg_right (by omega) mw0
      omega
    · exact fair_of _ _ _ _ _ _ _ _ _ h0 t1 t2 (by unfold ahead; split <;> split <;> omega) d1.1 d2.2 (hw i hi).1 hlt (mw2 k hk)
  · have e : endS seed n m ids ws = startS seed n ids := by unfold endS; rw [if_neg h0]
    rw [e]
    have c : ∀ q, cntI (startS seed n ids).P q n = 0 := fun q => cntI_none _ _ _ (fun q hq => by show (-1 : Int) < 0; omega)
    rw [c, c]
    refine ⟨fun _ => rfl, fun hlt => by omega⟩
end Go.Proofs.Ytjlochieddhmpaa.ringJ
