/- Layer 39: how many places have other items. -/
import Derived.Test.YtjlochieddhmpaaRingL
namespace Go.Proofs.Ytjlochieddhmpaa.ringN
open Go.ChangeShapes Go.WideShapes Go.ChangeAt Go.RowKit
open Go.Proofs.Ytjlochieddhmpaa.base Go.Proofs.Ytjlochieddhmpaa.ringA Go.Proofs.Ytjlochieddhmpaa.ringB Go.Proofs.Ytjlochieddhmpaa.ringC Go.Proofs.Ytjlochieddhmpaa.ringD Go.Proofs.Ytjlochieddhmpaa.ringE Go.Proofs.Ytjlochieddhmpaa.ringF Go.Proofs.Ytjlochieddhmpaa.ringG Go.Proofs.Ytjlochieddhmpaa.ringH
set_option linter.unusedVariables false

def numZ (ids : Nat → Int) (v : Int) : Int := if v < 0 then 0 else ids v.toNat
def partB (P Q : Nat → Int) (idx idy : Nat → Int) (q : Nat) : Bool := (decide (P q < 0) != decide (Q q < 0)) || (decide (0 ≤ P q) && decide (0 ≤ Q q) && (idx (P q).toNat != idy (Q q).toNat))
def mvN (P Q : Nat → Int) (idx idy : Nat → Int) : Nat → Nat
  | 0 => 0
  | q + 1 => mvN P Q idx idy q + if partB P Q idx idy q = true then 1 else 0
theorem mvN_le (P Q : Nat → Int) (idx idy : Nat → Int) (q : Nat) : mvN P Q idx idy q ≤ q := by
  induction q with
  | zero => exact Nat.le_refl _
  | succ q ih => unfold mvN; split <;> omega
theorem mvN_same (P : Nat → Int) (idx : Nat → Int) (q : Nat) : mvN P P idx idx q = 0 := by
  induction q with
  | zero => rfl
  | succ q ih =>
    unfold mvN
    have : partB P P idx idx q = false := by unfold partB; simp
    rw [this, ih]
    rfl
/-- What the two lists say of one place. -/
theorem part_num (P Q idx idy : Nat → Int) (q : Nat) : ((decide (0 ≤ P q) != decide (0 ≤ Q q)) || (numZ idx (P q) != numZ idy (Q q))) = partB P Q idx idy q := by
  unfold partB numZ
  by_cases h1 : P q < 0
  · by_cases h2 : Q q < 0
    · have a1 : ¬ 0 ≤ P q := by omega
      have a2 : ¬ 0 ≤ Q q := by omega
      simp [h1, h2, a1, a2]
    · have a1 : ¬ 0 ≤ P q := by omega
      have a2 : 0 ≤ Q q := by omega
      simp [h1, h2, a1, a2]
  · by_cases h2 : Q q < 0
    · have a1 : 0 ≤ P q := by omega
      have a2 : ¬ 0 ≤ Q q := by omega
      simp [h1, h2, a1, a2]
    · have a1 : 0 ≤ P q := by omega
      have a2 : 0 ≤ Q q := by omega
      simp [h1, h2, a1, a2]
theorem number_any (v : Int) (A : Option Addr) (m c B : Nat) (ids ws : Nat → Int) (w : World) (hit : ItemsIn w B A m ids ws) (hv : v < 0 ∨ (0 ≤ v ∧ v < m)) :
    Calls Try.prog 24 #[.int .i64 v, .slice A m c] w fun e w' => e = .returned (.tuple #[.int .u64 (numZ ids v), .bool (decide (0 ≤ v))]) ∧ w = w' := by
  by_cases h : v < 0
  · have q0 : decide (v < 0) = true := decide_eq_true h
    have e0 : numZ ids v = 0 := by unfold numZ; rw [if_pos h]
    have e1 : decide (0 ≤ v) = false := decide_eq_false (by omega)
    rw [e0, e1]
    clear hv h e0 e1
    go_enter Try.func24, Try.ntmps24
    go_wp2
    exact bodyPost_ret (v := .tuple #[.int .u64 0, .bool false]) (by simp [results, Try.results24, go_sem]) rfl ⟨rfl, rfl⟩
  · obtain ⟨k, rfl⟩ : ∃ k : Nat, v = k := ⟨v.toNat, by omega⟩
    have km : k < m := by omega
    have q0 : decide ((k : Int) < 0) = false := decide_eq_false h
    have q1 : decide ((m : Int) ≤ (k : Int)) = false := decide_eq_false (by omega)
    have q2 : decide (m ≤ k) = false := decide_eq_false (by omega)
    have e0 : numZ ids (k : Int) = ids k := by unfold numZ; rw [if_neg h, Int.toNat_natCast]
    have e1 : decide (0 ≤ (k : Int)) = true := decide_eq_true (by omega)
    rw [e0, e1]
    rcases hit with hz | ⟨b, off, rfl, hbl, hcs⟩
    · omega
    · have c1 := (hcs k km).1
      clear hcs hv h e0 e1
      generalize ids k = x at *
      go_enter Try.func24, Try.ntmps24
      go_wp2
      exact bodyPost_ret (v := .tuple #[.int .u64 x, .bool true]) (by simp [results, Try.results24, go_sem]) rfl ⟨rfl, rfl⟩
theorem moved_no (ra rb n k : Nat) (P Q : Nat → Int) (v1 v2 : Value) (w : World) (ha : RingAt w ra n P) (hb : RingAt w rb k Q) (hne : n ≠ k) :
    Calls Try.prog 17 #[.pointer (some ⟨ra, 0, none⟩), v1, .pointer (some ⟨rb, 0, none⟩), v2] w fun e w' => e = .returned (.int .i64 (-1)) ∧ w = w' := by
  obtain ⟨g1, _, h1, _, _⟩ := ha
  obtain ⟨g2, _, h2, _, _⟩ := hb
  have H1 := Lib.hid (size_at ra g1 n w (h1.cell 0))
  have H2 := Lib.hid (size_at rb g2 k w (h2.cell 0))
  have q0 : ((n : Int) != (k : Int)) = true := by simp; omega
  have q1 : (n != k) = true := by simpa using hne
  clear h1 h2
  go_enter Try.func17, Try.ntmps17
  go_wp2_with (go_at_call 13; (first | (with_reducible refine H1.out.mono ?_) | (with_reducible refine H2.out.mono ?_)); rintro e w' ⟨rfl, rfl⟩)
  go_ret
  exact ⟨rfl, rfl⟩
set_option maxHeartbeats 1000000 in
theorem moved_at (ra rb n : Nat) (P Q : Nat → Int) (A1 A2 : Option Addr) (m1 c1 m2 c2 B : Nat) (idx wx idy wy : Nat → Int) (w : World) (ha : RingAt w ra n P) (hb : RingAt w rb n Q) (hn : n ≤ 65537) (hx : ItemsIn w B A1 m1 idx wx) (hy : ItemsIn w B A2 m2 idy wy)
    (hP : ∀ q, q < n → P q < 0 ∨ (0 ≤ P q ∧ P q < m1)) (hQ : ∀ q, q < n → Q q < 0 ∨ (0 ≤ Q q ∧ Q q < m2)) :
    Calls Try.prog 17 #[.pointer (some ⟨ra, 0, none⟩), .slice A1 m1 c1, .pointer (some ⟨rb, 0, none⟩), .slice A2 m2 c2] w fun e w' => e = .returned (.int .i64 (mvN P Q idx idy n)) ∧ w = w' := by
  obtain ⟨g1, cs1, h1, h2, h3⟩ := ha
  obtain ⟨g2, cs2, h4, h5, h6⟩ := hb
  have ca : w.cell? ⟨ra, 0, none⟩ = some (.slice (some ⟨g1, 0, none⟩) n n) := h1.cell 0
  have cb : w.cell? ⟨rb, 0, none⟩ = some (.slice (some ⟨g2, 0, none⟩) n n) := h4.cell 0
  have CP := Lib.hid (show ∀ q, q < n → w.cell? ⟨g1, q, none⟩ = some (.int .i64 (P q)) from fun q hq => (h2.cell q).trans (h3.2 q hq))
  have CQ := Lib.hid (show ∀ q, q < n → w.cell? ⟨g2, q, none⟩ = some (.int .i64 (Q q)) from fun q hq => (h5.cell q).trans (h6.2 q hq))
  have H1 := Lib.hid (size_at ra g1 n w ca)
  have H2 := Lib.hid (size_at rb g2 n w cb)
  have N1 := Lib.hid (fun q hq => number_any (P q) A1 m1 c1 B idx wx w hx (hP q hq))
  have N2 := Lib.hid (fun q hq => number_any (Q q) A2 m2 c2 B idy wy w hy (hQ q hq))
  have HPN := Lib.hid (fun q => part_num P Q idx idy q)
  clear h1 h2 h3 h4 h5 h6 hx hy hP hQ
  go_enter Try.func17, Try.ntmps17
  go_wp2_with (go_at_call 13; (first | (with_reducible refine H1.out.mono ?_) | (with_reducible refine H2.out.mono ?_)); rintro e w' ⟨rfl, rfl⟩)
  go_loop [22, 9, 10, 11, 12, 13, 14] (fun i mv _ _ _ _ _ => ∃ j : Nat, j ≤ n ∧ i = .int .i64 j ∧ mv = .int .i64 (mvN P Q idx idy j)) (fun i _ _ _ _ _ _ => n - (intOf i).toNat)
  case atStart => exact ⟨0, by omega, rfl, rfl⟩
  case round =>
    obtain ⟨j, hj, rfl, rfl⟩ := hrel
    by_cases hlt : j < n
    · have p1 : decide ((j : Int) < (n : Int)) = true := decide_eq_true (by omega)
      have d1 := CP.out j hlt
      have d2 := CQ.out j hlt
      have K1 := Lib.hid (N1.out j hlt)
      have K2 := Lib.hid (N2.out j hlt)
      have hpn := HPN.out j
      have cl := mvN_le P Q idx idy j
      have HS := Lib.hid (show mvN P Q idx idy (j + 1) = mvN P Q idx idy j + if partB P Q idx idy j = true then 1 else 0 from rfl)
      generalize partB P Q idx idy j = pb at *
      generalize mvN P Q idx idy j = mv at *
      generalize numZ idx (P j) = x1 at *
      generalize numZ idy (Q j) = x2 at *
      generalize hb1 : decide (0 ≤ P j) = b1 at *
      generalize hb2 : decide (0 ≤ Q j) = b2 at *
      generalize P j = v1 at *
      generalize Q j = v2 at *
      clear hb1 hb2
      have e1 : IntKind.i64.wrap ((mv : Int) + 1) = (mv : Int) + 1 := IntWalk.i64_in _ (by omega)
      by_cases hx : x1 = x2
      · have q1 : (x1 != x2) = false := by simpa using hx
        rw [q1, Bool.or_false] at hpn
        clear hx
        cases b1 <;> cases b2
        all_goals
          first
          | (have HF := Lib.hid (show pb = false from hpn.symm)
             clear hpn
             go_wp2_with (go_at_call 24; (first | (with_reducible refine K1.out.mono ?_) | (with_reducible refine K2.out.mono ?_)); rintro e w' ⟨rfl, rfl⟩)
             go_round
             case rel => exact ⟨j + 1, by omega, by go_num, by rw [HS.out, HF.out]; rfl⟩
             case measure => simp [intOf]; omega)
          | (have HF := Lib.hid (show pb = true from hpn.symm)
             clear hpn
             go_wp2_with (go_at_call 24; (first | (with_reducible refine K1.out.mono ?_) | (with_reducible refine K2.out.mono ?_)); rintro e w' ⟨rfl, rfl⟩)
             go_round
             case rel => exact ⟨j + 1, by omega, by go_num, by rw [HS.out, HF.out]; rfl⟩
             case measure => simp [intOf]; omega)
      · have q1 : (x1 != x2) = true := by simpa using hx
        rw [q1, Bool.or_true] at hpn
        have HF := Lib.hid (show pb = true from hpn.symm)
        clear hpn hx
        cases b1 <;> cases b2
        all_goals
          go_wp2_with (go_at_call 24; (first | (with_reducible refine K1.out.mono ?_) | (with_reducible refine K2.out.mono ?_)); rintro e w' ⟨rfl, rfl⟩)
          go_round
          case rel => exact ⟨j + 1, by omega, by go_num, by rw [HS.out, HF.out]; rfl⟩
          case measure => simp [intOf]; omega
    · obtain rfl : n = j := by omega
      have p1 : decide ((n : Int) < (n : Int)) = false := decide_eq_false (by omega)
      go_wp2_with fail
      go_ret
      exact ⟨rfl, rfl⟩
end Go.Proofs.Ytjlochieddhmpaa.ringN
