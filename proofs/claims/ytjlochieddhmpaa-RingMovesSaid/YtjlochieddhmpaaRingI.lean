/- Layer 39: which tables may be, by the law. -/
import Derived.Test.YtjlochieddhmpaaRingF
import Derived.Deep.RegionHeld3
namespace Go.Proofs.Ytjlochieddhmpaa.ringI
open Go.ChangeShapes Go.WideShapes Go.ChangeAt Go.RowKit
open Go.Proofs.Ytjlochieddhmpaa.base Go.Proofs.Ytjlochieddhmpaa.ringA Go.Proofs.Ytjlochieddhmpaa.ringB Go.Proofs.Ytjlochieddhmpaa.ringE Go.Proofs.Ytjlochieddhmpaa.ringF
set_option linter.unusedVariables false

theorem lawright_few (size : Int) (A : Option Addr) (m c : Nat) (ids ws : Nat → Int) (w : World) (h : size < 2 ∨ 65537 < size) :
    Calls Try.prog 12 #[.int .i64 size, .slice A m c] w (RPost size m ids ws w) := by
  have HF := Lib.hid (show ¬ RightP size m ids ws from fun hp => by have := hp.lo; have := hp.hi; omega)
  by_cases h1 : size < 2
  · have q0 : decide (size < 2) = true := decide_eq_true h1
    clear h
    go_enter Try.func12, Try.ntmps12
    go_wp2
    go_ret
    exact ⟨false, rfl, ⟨fun h => (by cases h), fun h => absurd h HF.out⟩, Below.refl _ _⟩
  · have q0 : decide (size < 2) = false := decide_eq_false h1
    have q1 : decide (65537 < size) = true := decide_eq_true (by omega)
    clear h
    go_enter Try.func12, Try.ntmps12
    go_wp2
    go_ret
    exact ⟨false, rfl, ⟨fun h => (by cases h), fun h => absurd h HF.out⟩, Below.refl _ _⟩
theorem lawright_np (n : Nat) (A : Option Addr) (m c : Nat) (ids ws : Nat → Int) (w : World) (h2 : 2 ≤ n) (h3 : n ≤ 65537) (h : ¬ Pr n ∨ n < m) (hm : m ≤ 500) :
    Calls Try.prog 12 #[.int .i64 n, .slice A m c] w (RPost n m ids ws w) := by
  have HF := Lib.hid (show ¬ RightP n m ids ws from fun hp => by
    have h4 := hp.pr
    have h5 := hp.len
    rw [Int.toNat_natCast] at h4
    rcases h with h | h
    · exact h h4
    · omega)
  have q0 : decide ((n : Int) < 2) = false := decide_eq_false (by omega)
  have q1 : decide (65537 < (n : Int)) = false := decide_eq_false (by omega)
  by_cases hp : Pr n
  · have HP := Lib.hid (show ∀ w, _ from fun w => lawprime_any n h2 (by omega) w)
    rw [prB_true hp] at HP
    have hmn : n < m := by rcases h with h | h; exact absurd hp h; exact h
    have q2 : decide ((n : Int) < (m : Int)) = true := decide_eq_true (by omega)
    have q3 : decide (n < m) = true := decide_eq_true hmn
    clear h hp
    go_enter Try.func12, Try.ntmps12
    go_wp2_with (go_at_call 7; refine (HP.out _).mono ?_; rintro e w' ⟨rfl, rfl⟩)
    go_ret
    exact ⟨false, rfl, ⟨fun h => (by cases h), fun h => absurd h HF.out⟩, Below.refl _ _⟩
  · have HP := Lib.hid (show ∀ w, _ from fun w => lawprime_any n h2 (by omega) w)
    rw [prB_false hp] at HP
    clear h hp
    go_enter Try.func12, Try.ntmps12
    go_wp2_with (go_at_call 7; refine (HP.out _).mono ?_; rintro e w' ⟨rfl, rfl⟩)
    go_ret
    exact ⟨false, rfl, ⟨fun h => (by cases h), fun h => absurd h HF.out⟩, Below.refl _ _⟩
set_option maxRecDepth 100000 in
set_option maxHeartbeats 1000000 in
theorem lawright_go (n : Nat) (A : Option Addr) (m c : Nat) (ids ws : Nat → Int) (w : World) (h2 : 2 ≤ n) (h3 : n ≤ 65537) (hp : Pr n) (hmn : m ≤ n) (hm : m ≤ 500) (hit : ItemsIn w w.heap.size A m ids ws) :
    Calls Try.prog 12 #[.int .i64 n, .slice A m c] w (RPost n m ids ws w) := by
  have q0 : decide ((n : Int) < 2) = false := decide_eq_false (by omega)
  have q1 : decide (65537 < (n : Int)) = false := decide_eq_false (by omega)
  have HP := Lib.hid (show ∀ w, _ from fun w => lawprime_any n h2 (by omega) w)
  rw [prB_true hp] at HP
  have HPR := Lib.hid hp
  have q2 : decide ((n : Int) < (m : Int)) = false := decide_eq_false (by omega)
  have q3 : decide (n < m) = false := decide_eq_false (by omega)
  have q4 : ¬ n < m := by omega
  have HIT := Lib.hid hit
  clear hit hp
  go_enter Try.func12, Try.ntmps12
  go_wp2_with (go_at_call 7; refine (HP.out _).mono ?_; rintro e w' ⟨rfl, rfl⟩)
  go_loopw [5, 6] (fun i _ wr => ∃ j : Nat, j ≤ m ∧ i = .int .i64 j ∧ Below w.heap.size w wr ∧ Hid (∀ q, q < j → 0 ≤ ws q ∧ ws q ≤ 65535) ∧ Hid (Uniq ids j)) (fun i _ _ => m - (intOf i).toNat)
  case atStart => exact ⟨0, by omega, rfl, Below.refl _ _, fun q hq => by omega, fun i hi => by omega⟩
  case round =>
    obtain ⟨j, hj, rfl, hbel, hws, huq⟩ := hrel
    have KB := Lib.hid hbel
    by_cases hlt : j < m
    · have p1 : decide ((j : Int) < (m : Int)) = true := decide_eq_true (by omega)
      rcases HIT.out with h0 | ⟨b, off, rfl, hbl, hcs⟩
      · omega
      · have HCS := Lib.hid (show ∀ W, Below w.heap.size w W → ItemsAt W b off m ids ws from fun W hb => hcs.below hb hbl)
        obtain ⟨c1, c2⟩ := HCS.out _ KB.out j hlt
        have KW := Lib.hid hws.out
        have KU := Lib.hid huq.out
        clear hcs hbel hws huq c1
        by_cases hv0 : ws j < 0
        · have r0 : decide (ws j < 0) = true := decide_eq_true hv0
          have HF := Lib.hid (show ¬ RightP n m ids ws from fun hp => by have := (hp.ws j hlt).1; omega)
          go_wp2_with fail
          go_ret
          exact ⟨false, rfl, ⟨fun h => (by cases h), fun h => absurd h HF.out⟩, KB.out⟩
        · have r0 : decide (ws j < 0) = false := decide_eq_false hv0
          by_cases hv1 : 65535 < ws j
          · have r1 : decide (65535 < ws j) = true := decide_eq_true hv1
            have HF := Lib.hid (show ¬ RightP n m ids ws from fun hp => by have := (hp.ws j hlt).2; omega)
            go_wp2_with fail
            go_ret
            exact ⟨false, rfl, ⟨fun h => (by cases h), fun h => absurd h HF.out⟩, KB.out⟩
          · have r1 : decide (65535 < ws j) = false := decide_eq_false hv1
            have HWN := Lib.hid (show ∀ q, q < j + 1 → 0 ≤ ws q ∧ ws q ≤ 65535 from fun q hq => by
              by_cases e : q = j
              · rw [e]; omega
              · exact KW.out q (by omega))
            go_wp2_with fail
            go_loopw [6] (fun i wx => ∃ k : Nat, k ≤ j ∧ i = .int .i64 k ∧ Below w.heap.size w wx ∧ Hid (∀ q, q < k → ids q ≠ ids j)) (fun i _ => j - (intOf i).toNat)
            case atStart => exact ⟨0, by omega, rfl, KB.out, fun q hq => by omega⟩
            case round =>
              obtain ⟨k, hk, rfl, hbel, hne⟩ := hrel
              have LB := Lib.hid hbel
              have LN := Lib.hid hne.out
              clear hbel hne
              by_cases hlk : k < j
              · have p2 : decide ((k : Int) < (j : Int)) = true := decide_eq_true (by omega)
                have p3 : decide (k < j) = true := decide_eq_true hlk
                have d1 := (HCS.out _ LB.out j hlt).1
                have d2 := (HCS.out _ LB.out k (by omega)).1
                by_cases he : ids k = ids j
                · have r2 : (ids k == ids j) = true := by simpa using he
                  have HF := Lib.hid (show ¬ RightP n m ids ws from fun hp => hp.ids j hlt k hlk he)
                  clear he c2
                  generalize ids k = x at *
                  generalize ids j = y at *
                  go_wp2_with fail
                  go_region
                  all_goals
                    go_wp2_with fail
                    go_ret
                    exact ⟨false, rfl, ⟨fun h => (by cases h), fun h => absurd h HF.out⟩, below_drewN LB.out _⟩
                · have r2 : (ids k == ids j) = false := by simpa using he
                  have LN2 := Lib.hid (show ∀ q, q < k + 1 → ids q ≠ ids j from fun q hq => by
                    by_cases e : q = k
                    · rw [e]; exact he
                    · exact LN.out q (by omega))
                  clear he c2
                  generalize hx : ids k = x at *
                  generalize hy : ids j = y at *
                  have HX := Lib.hid hx
                  have HY := Lib.hid hy
                  clear hx hy
                  go_wp2_with fail
                  go_region
                  all_goals
                    go_wp2_with fail
                    go_roundw
                    case rel => exact ⟨k + 1, by omega, by go_num, below_drewN LB.out _, by have := LN2.out; exact this⟩
                    case measure => simp [intOf]; omega
              · obtain rfl : k = j := by omega
                have p2 : decide ((k : Int) < (k : Int)) = false := decide_eq_false (by omega)
                have HUN := Lib.hid (show Uniq ids (k + 1) from fun i hi q hq => by
                  by_cases e : i = k
                  · rw [e] at hq ⊢; exact LN.out q hq
                  · exact KU.out i (by omega) q hq)
                go_wp2_with fail
                go_roundw
                case rel => exact ⟨k + 1, by omega, by go_num, LB.out, HWN.out, HUN.out⟩
                case measure => simp [intOf]; omega
    · obtain rfl : j = m := by omega
      have p1 : decide ((j : Int) < (j : Int)) = false := decide_eq_false (by omega)
      have KW := Lib.hid hws.out
      have KU := Lib.hid huq.out
      clear HIT hbel hws huq
      go_wp2_with fail
      go_ret
      exact ⟨true, rfl, ⟨fun _ => ⟨by omega, by omega, by rw [Int.toNat_natCast]; exact HPR.out, by omega, KW.out, KU.out⟩, fun _ => rfl⟩, KB.out⟩
theorem lawright_any (size : Int) (A : Option Addr) (m c : Nat) (ids ws : Nat → Int) (w : World) (hm : m ≤ 500) (hit : ItemsIn w w.heap.size A m ids ws) :
    Calls Try.prog 12 #[.int .i64 size, .slice A m c] w (RPost size m ids ws w) := by
  by_cases h : size < 2 ∨ 65537 < size
  · exact lawright_few size A m c ids ws w h
  · obtain ⟨n, rfl⟩ : ∃ n : Nat, size = n := ⟨size.toNat, by omega⟩
    by_cases hp : ¬ Pr n ∨ n < m
    · exact lawright_np n A m c ids ws w (by omega) (by omega) hp hm
    · have hpr : Pr n := Classical.byContradiction fun h => hp (.inl h)
      exact lawright_go n A m c ids ws w (by omega) (by omega) hpr (by rcases Nat.lt_or_ge n m with h | h; exact absurd (.inr h) hp; exact h) hm hit
end Go.Proofs.Ytjlochieddhmpaa.ringI
