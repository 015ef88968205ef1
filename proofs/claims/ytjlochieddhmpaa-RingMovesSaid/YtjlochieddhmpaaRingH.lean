/- Layer 39: where a key goes; the law on primes. -/
import Derived.Test.YtjlochieddhmpaaRingG
import Derived.Deep.RegionWith
namespace Go.Proofs.Ytjlochieddhmpaa.ringH
open Go.ChangeShapes Go.WideShapes Go.ChangeAt Go.RowKit
open Go.Proofs.Ytjlochieddhmpaa.base Go.Proofs.Ytjlochieddhmpaa.ringA Go.Proofs.Ytjlochieddhmpaa.ringB Go.Proofs.Ytjlochieddhmpaa.ringC Go.Proofs.Ytjlochieddhmpaa.ringD Go.Proofs.Ytjlochieddhmpaa.ringE Go.Proofs.Ytjlochieddhmpaa.ringF Go.Proofs.Ytjlochieddhmpaa.ringG
set_option linter.unusedVariables false

theorem cf_none (P : Nat → Int) (n : Nat) (h : cfree P n = 0) : ∀ q, q < n → ¬ P q < 0 := by
  induction n with
  | zero => intro q hq; omega
  | succ n ih =>
    unfold cfree at h
    intro q hq
    by_cases e : q = n
    · subst e
      intro hP
      rw [if_pos hP] at h
      omega
    · exact ih (by omega) q (by omega)
theorem end_full (seed : Int) (n m : Nat) (ids ws : Nat → Int) (hp : Pr n) (hw : ∀ j, j < m → 0 ≤ ws j ∧ ws j ≤ 65535) (h0 : 0 < maxW ws m) : ∀ q, q < n → 0 ≤ (endS seed n m ids ws).P q ∧ (endS seed n m ids ws).P q < m := by
  have hO := start_ok seed n m ids ws hp.1 h0
  have hI := items_ok seed n m ids ws hp hw h0
  have hE := rnd_ok hI hO n
  have hF := rnd_free hI hO (Nat.le_refl n) n
  have e : endS seed n m ids ws = rnd n m (fun i => skZ seed n (ids i)) ws (maxW ws m) (startS seed n ids) n := by unfold endS; rw [if_pos h0]; rfl
  rw [e]
  intro q hq
  have hc := cf_none _ n (by rw [hE.fv]; omega) q hq
  rcases hE.pv q hq with h | h
  · omega
  · exact h
theorem size_at (ra g n : Nat) (w : World) (h : w.cell? ⟨ra, 0, none⟩ = some (.slice (some ⟨g, 0, none⟩) n n)) :
    Calls Try.prog 13 #[.pointer (some ⟨ra, 0, none⟩)] w fun e w' => e = .returned (.int .i64 n) ∧ w = w' := by
  go_enter Try.func13, Try.ntmps13
  go_wp2
  go_ret
  exact ⟨rfl, rfl⟩
theorem RingAt.below {w w' : World} {ra n : Nat} {P : Nat → Int} (h : RingAt w ra n P) (hb : Below w.heap.size w w') : RingAt w' ra n P := by
  obtain ⟨g, cs, h1, h2, h3⟩ := h
  exact ⟨g, cs, h1.below hb h1.lt, h2.below hb h2.lt, h3⟩
theorem pick_at (ra n k : Nat) (P : Nat → Int) (w : World) (h : RingAt w ra n P) (hn : 1 ≤ n) (hn2 : n ≤ 65537) (hk : k < 18446744073709551616) :
    Calls Try.prog 16 #[.pointer (some ⟨ra, 0, none⟩), .int .u64 k] w fun e w' => e = .returned (.int .i64 (P (k % n))) ∧ Below w.heap.size w w' := by
  obtain ⟨g, cs, h1, h2, h3⟩ := h
  have c0 : w.cell? ⟨ra, 0, none⟩ = some (.slice (some ⟨g, 0, none⟩) n n) := h1.cell 0
  have c1 : w.drew.cell? ⟨ra, 0, none⟩ = some (.slice (some ⟨g, 0, none⟩) n n) := c0
  have hr : k % n < n := Nat.mod_lt _ (by omega)
  have c2 : w.cell? ⟨g, k % n, none⟩ = some (.int .i64 (P (k % n))) := (h2.cell _).trans (h3.2 _ hr)
  have c3 : w.drew.cell? ⟨g, k % n, none⟩ = some (.int .i64 (P (k % n))) := c2
  have HS := Lib.hid (fun W h => size_at ra g n W h)
  have e1 : IntKind.u64.wrap (n : Int) = (n : Int) := by rw [IntKind.wrap_u64]; omega
  have e2 : (k : Int) % (n : Int) = ((k % n : Nat) : Int) := by rw [Int.natCast_emod]
  have t1 : ((n : Int) == 0) = false := by simp; omega
  clear h1 h2 h3
  generalize k % n = r at *
  generalize P r = p at *
  go_enter Try.func16, Try.ntmps16
  go_wp2_with (go_at_call 13; (with_reducible refine (HS.out _ c0).mono ?_); rintro e w' ⟨rfl, rfl⟩)
  go_region_with (go_at_call 13; (with_reducible refine (HS.out _ c1).mono ?_); rintro e w' ⟨rfl, rfl⟩)
  all_goals
    go_wp2_with fail
    go_ret
    exact ⟨rfl, (Below.refl _ _).drew⟩
theorem prime7 : prB 7 = true := by decide
theorem prime9 : prB 9 = false := by decide
theorem right1 : RightP (7 : Nat) 1 (fun _ => 5) (fun _ => 2) :=
  ⟨by omega, by omega, (prB_iff 7).mp prime7, by omega, fun j _ => by omega, fun i hi j hj => by omega⟩
theorem one_item (W : World) : ItemsIn (W.alloc (.cells #[.int .u64 5, .int .i64 2] 38)) (W.alloc (.cells #[.int .u64 5, .int .i64 2] 38)).heap.size (some ⟨W.heap.size, 0, none⟩) 1 (fun _ => 5) (fun _ => 2) := by
  refine .inr ⟨W.heap.size, 0, rfl, by simp, fun j hj => ?_⟩
  obtain rfl : j = 0 := by omega
  exact ⟨(Blk.new W _ _).cell 0, (Blk.new W _ _).cell 1⟩
set_option maxRecDepth 100000 in
theorem awake_any (w : World) :
    Calls Try.prog 8 #[] w fun e w' => e = .returned (.bool true) ∧ Below w.heap.size w w' := by
  have HNEW := Lib.hid (new_ok 1 7 (some ⟨w.heap.size, 0, none⟩) 1 1 (fun _ => 5) (fun _ => 2) _ (by omega) (one_item w) (fun j _ => by omega) right1)
  have HF := Lib.hid (end_full 1 7 1 (fun _ => 5) (fun _ => 2) ((prB_iff 7).mp prime7) (fun j _ => by omega) (by decide) 1 (by omega))
  have H7 := Lib.hid (show ∀ w, Calls Try.prog 6 #[.int .i64 7] w fun e w' => e = .returned (.bool true) ∧ w = w' from fun w => by
    have := prime_any 7 (by omega) (by omega) w
    rw [prime7] at this
    exact this)
  have H9 := Lib.hid (show ∀ w, Calls Try.prog 6 #[.int .i64 9] w fun e w' => e = .returned (.bool false) ∧ w = w' from fun w => by
    have := prime_any 9 (by omega) (by omega) w
    rw [prime9] at this
    exact this)
  go_enter Try.func8, Try.ntmps8
  go_wp2_with fail
  refine HNEW.out.mono ?_
  rintro e w1 ⟨ra, rfl, hr, hb⟩
  have HB := Lib.hid (((Below.refl _ _).alloc (Nat.le_refl _) _).trans (hb.mono (by simp)))
  have e0 : (endS 1 7 1 (fun _ => 5) (fun _ => 2)).P (99 % 7) = 0 := by have := HF.out; show (endS 1 7 1 (fun _ => 5) (fun _ => 2)).P 1 = 0; omega
  have HP := Lib.hid (show Calls Try.prog 16 #[.pointer (some ⟨ra, 0, none⟩), .int .u64 99] w1 fun e w' => e = .returned (.int .i64 0) ∧ Below w1.heap.size w1 w' by
    have := pick_at ra 7 99 _ w1 hr (by omega) (by omega) (by omega)
    rw [e0] at this
    exact this)
  clear hr hb e0
  go_wp2_with (first
    | (go_at_call 16; (with_reducible refine HP.out.mono ?_); rintro e w2 ⟨rfl, hb2⟩; have HB2 := Lib.hid (HB.out.trans (hb2.mono HB.out.size)); clear hb2)
    | (go_at_call 6; (first | (with_reducible refine (H7.out _).mono ?_) | (with_reducible refine (H9.out _).mono ?_)); rintro e w' ⟨rfl, rfl⟩))
  go_ret
  exact ⟨rfl, HB2.out⟩
theorem primes_any (n : Int) (h0 : -9223372036854775808 ≤ n) (w : World) :
    Calls Try.prog 3 #[.int .i64 n] w fun e w' => e = .returned (.bool true) ∧ Below w.heap.size w w' := by
  by_cases hb : 1048576 < n
  · have q0 : decide (1048576 < n) = true := decide_eq_true hb
    clear hb
    go_enter Try.func3, Try.ntmps3
    go_wp2_with (go_at_call 8; refine (awake_any _).mono ?_; rintro e w1 ⟨rfl, hb⟩; have HB := Lib.hid hb; clear hb)
    go_ret
    exact ⟨rfl, HB.out⟩
  · have q0 : decide (1048576 < n) = false := decide_eq_false hb
    obtain ⟨b, H1, H2⟩ : ∃ b : Bool, (∀ w, Calls Try.prog 6 #[.int .i64 n] w fun e w' => e = .returned (.bool b) ∧ w = w') ∧ (∀ w, Calls Try.prog 7 #[.int .i64 n] w fun e w' => e = .returned (.bool b) ∧ w = w') := by
      by_cases h2 : n < 2
      · exact ⟨false, fun w => prime_few n h2 w, fun w => lawprime_few n h2 w⟩
      · obtain ⟨k, rfl⟩ : ∃ k : Nat, n = k := ⟨n.toNat, by omega⟩
        exact ⟨prB k, fun w => prime_any k (by omega) (by omega) w, fun w => lawprime_any k (by omega) (by omega) w⟩
    have K1 := Lib.hid H1
    have K2 := Lib.hid H2
    clear hb H1 H2
    cases b
    all_goals
      go_enter Try.func3, Try.ntmps3
      go_wp2_with (first
        | (go_at_call 6; (with_reducible refine (K1.out _).mono ?_); rintro e w' ⟨rfl, rfl⟩)
        | (go_at_call 7; (with_reducible refine (K2.out _).mono ?_); rintro e w' ⟨rfl, rfl⟩)
        | (go_at_call 8; refine (awake_any _).mono ?_; rintro e w1 ⟨rfl, hb⟩; have HB := Lib.hid hb; clear hb))
      go_ret
      exact ⟨rfl, HB.out⟩
end Go.Proofs.Ytjlochieddhmpaa.ringH
