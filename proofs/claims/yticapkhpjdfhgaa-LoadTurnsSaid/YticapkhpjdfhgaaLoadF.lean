/- Layer 24: levels drawn. -/
import Derived.Test.YticapkhpjdfhgaaLoadE
namespace Go.Proofs.Yticapkhpjdfhgaa.loadF
open Go.ChangeShapes Go.WideShapes Go.ChangeAt Go.RowKit
open Go.Proofs.Yticapkhpjdfhgaa.base Go.Proofs.Yticapkhpjdfhgaa.loadB Go.Proofs.Yticapkhpjdfhgaa.loadC
set_option linter.unusedVariables false

def pre (l : List Int) : Nat → Int
  | 0 => 0
  | k + 1 => pre l k + max (l.getD k 0) 0
theorem pre_step (l : List Int) (k : Nat) : pre l k ≤ pre l (k + 1) := by rw [pre]; omega
theorem pre_le (l : List Int) (k m : Nat) : pre l k ≤ pre l (k + m) := by
  induction m with
  | zero => exact Int.le_refl _
  | succ m ih => have := pre_step l (k + m); rw [← Nat.add_assoc]; omega
theorem pre_mono (l : List Int) {k m : Nat} (h : k ≤ m) : pre l k ≤ pre l m := by
  have := pre_le l k (m - k)
  rwa [Nat.add_sub_cancel' h] at this
theorem pre_in (l : List Int) (k : Nat) (h : ∀ i, i < k → l.getD i 0 ≤ 1048576) : 0 ≤ pre l k ∧ pre l k ≤ k * 1048576 := by
  induction k with
  | zero => simp [pre]
  | succ k ih =>
    have h1 := ih (fun i hi => h i (by omega))
    have h2 := h k (by omega)
    rw [pre]
    omega
def lev (l : List Int) (d : Int) : Nat → Int
  | 0 => -1
  | k + 1 => if pre l k ≤ d ∧ d < pre l (k + 1) then (k : Int) else lev l d k
theorem lev_far (l : List Int) (d : Int) (k m : Nat) (h : d < pre l k) : lev l d (k + m) = lev l d k := by
  induction m with
  | zero => rfl
  | succ m ih =>
    have := pre_le l k m
    rw [← Nat.add_assoc, lev, if_neg (by omega), ih]
theorem lev_none (l : List Int) (d : Int) (k : Nat) (h : pre l k ≤ d) : lev l d k = -1 := by
  induction k with
  | zero => rfl
  | succ k ih =>
    have := pre_step l k
    rw [lev, if_neg (by omega), ih (by omega)]
theorem lev_low (l : List Int) (d : Int) (k : Nat) (h : d < 0) : lev l d k = -1 := by
  have := lev_far l d 0 k h
  rw [Nat.zero_add] at this
  exact this
theorem lev_at (l : List Int) (d : Int) (k n : Nat) (hk : k < n) (h1 : pre l k ≤ d) (h2 : d < pre l (k + 1)) : lev l d n = k := by
  have := lev_far l d (k + 1) (n - (k + 1)) h2
  rw [Nat.add_sub_cancel' (by omega : k + 1 ≤ n)] at this
  rw [this, lev, if_pos ⟨h1, h2⟩]
theorem lev_some (l : List Int) (d : Int) (n : Nat) (h0 : 0 ≤ d) (h : d < pre l n) : ∃ k, k < n ∧ pre l k ≤ d ∧ d < pre l (k + 1) := by
  induction n with
  | zero => simp [pre] at h; omega
  | succ n ih =>
    rcases Int.lt_or_le d (pre l n) with hd | hd
    · obtain ⟨k, hk, h1, h2⟩ := ih hd
      exact ⟨k, by omega, h1, h2⟩
    · exact ⟨n, by omega, hd, h⟩
def cnt (l : List Int) (j : Int) (i : Nat) : Int := max 0 (min j (pre l (i + 1)) - pre l i)
theorem cnt_zero (l : List Int) (i : Nat) : cnt l 0 i = 0 := by
  have := pre_mono l (Nat.zero_le i)
  rw [show pre l 0 = 0 from rfl] at this
  unfold cnt; omega
theorem cnt_step (l : List Int) (j : Int) (k : Nat) (h1 : pre l k ≤ j) (h2 : j < pre l (k + 1)) (i : Nat) : cnt l (j + 1) i = if i = k then cnt l j k + 1 else cnt l j i := by
  unfold cnt
  split
  · rename_i h; subst h; omega
  · rename_i h
    rcases Nat.lt_or_ge i k with hik | hik
    · have := pre_mono l (show i + 1 ≤ k by omega)
      omega
    · have := pre_mono l (show k + 1 ≤ i by omega)
      omega
theorem cnt_full (l : List Int) (n i : Nat) (h : i < n) : cnt l (pre l n) i = max (l.getD i 0) 0 := by
  have := pre_mono l (show i + 1 ≤ n by omega)
  have e : pre l (i + 1) = pre l i + max (l.getD i 0) 0 := rfl
  unfold cnt; omega

theorem level_any (A : Option Addr) (n c : Nat) (l : List Int) (d : Int) (w : World) (hl : l.length = n) (hn : n ≤ 4) (hb : ∀ i, i < n → -9223372036854775808 ≤ l.getD i 0 ∧ l.getD i 0 ≤ 1048576) (hr : Row w w.heap.size A (l.map (.int .i64))) (d0 : -9223372036854775808 ≤ d) (d1 : d < 9223372036854775808) :
    Calls Try.prog 21 #[.slice A n c, .int .i64 d] w fun e w' => e = .returned (.int .i64 (lev l d n)) ∧ w = w' := by
  by_cases hd : d < 0
  · have hv := lev_low l d n hd
    rw [hv]
    clear hv hb hr
    go_enter Try.func21, Try.ntmps21
    go_wp2
    go_ret
    exact ⟨rfl, rfl⟩
  have HH := Lib.hid hl
  have HR := Lib.hid hr
  have HBD := Lib.hid hb
  clear hl hr hb
  go_enter Try.func21, Try.ntmps21
  go_wp2_with fail
  go_loop [1, 11] (fun x i => ∃ k : Nat, k ≤ n ∧ i = .int .i64 k ∧ x = .int .i64 (d - pre l k) ∧ pre l k ≤ d) (fun _ i => n - (intOf i).toNat)
  case atStart => exact ⟨0, by omega, rfl, by rw [pre, Int.sub_zero], by rw [pre]; omega⟩
  case round =>
    obtain ⟨k, hk, rfl, rfl, hle⟩ := hrel
    by_cases hlt : k < n
    · obtain ⟨b, off, rfl, _, hc⟩ := row_get HR.out (by rw [HH.out]; omega)
      have c1 := hc k (by rw [HH.out]; exact hlt)
      have hbk := HBD.out k hlt
      have hpin := pre_in l k (fun i hi => (HBD.out i (by omega)).2)
      have hst : pre l (k + 1) = pre l k + max (l.getD k 0) 0 := rfl
      have HST := Lib.hid hst
      have HLE := Lib.hid hle
      have hpin0 := hpin.1
      clear hc hst hpin
      generalize hx : l.getD k 0 = x at *
      have HX := Lib.hid hx
      clear hx
      obtain ⟨b0, b1⟩ := hbk
      by_cases hgt : d - pre l k < max x 0
      · have hv := lev_at l d k n hlt hle (by rw [HST.out]; omega)
        have HV := Lib.hid hv
        have q : decide (d - pre l k < max x 0) = true := by simpa using hgt
        clear hv
        generalize pre l k = p at *
        go_wp2_with fail
        go_ret
        exact ⟨by rw [HV.out]; rfl, rfl⟩
      · have q : decide (d - pre l k < max x 0) = false := by simpa using hgt
        have hm0 : 0 ≤ max x 0 := by omega
        have hm1 : max x 0 ≤ d - pre l k := by omega
        have hnext : d - pre l k - max x 0 = d - pre l (k + 1) := by rw [HST.out]; omega
        have hle2 : pre l (k + 1) ≤ d := by rw [HST.out]; omega
        have HN := Lib.hid hnext
        have HL2 := Lib.hid hle2
        clear hnext hle2 hgt
        generalize pre l k = p at *
        go_wp2_with fail
        go_round
        case rel => exact ⟨k + 1, by omega, by go_num, by rw [← HN.out], HL2.out⟩
        case measure => simp [intOf]; omega
    · obtain rfl : k = n := by omega
      have hv := lev_none l d k hle
      have HV := Lib.hid hv
      clear hv hle
      generalize pre l k = p at *
      go_wp2_with fail
      go_ret
      exact ⟨by rw [HV.out]; rfl, rfl⟩
end Go.Proofs.Yticapkhpjdfhgaa.loadF
