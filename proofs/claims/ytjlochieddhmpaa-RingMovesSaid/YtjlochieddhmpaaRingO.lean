/- Layer 39: the law on places that have other items. -/
import Derived.Test.YtjlochieddhmpaaRingN
import Derived.Test.YtjlochieddhmpaaRingM
namespace Go.Proofs.Ytjlochieddhmpaa.ringO
open Go.ChangeShapes Go.WideShapes Go.ChangeAt Go.RowKit
open Go.Proofs.Ytjlochieddhmpaa.base Go.Proofs.Ytjlochieddhmpaa.ringA Go.Proofs.Ytjlochieddhmpaa.ringB Go.Proofs.Ytjlochieddhmpaa.ringC Go.Proofs.Ytjlochieddhmpaa.ringD Go.Proofs.Ytjlochieddhmpaa.ringE Go.Proofs.Ytjlochieddhmpaa.ringF Go.Proofs.Ytjlochieddhmpaa.ringG Go.Proofs.Ytjlochieddhmpaa.ringH Go.Proofs.Ytjlochieddhmpaa.ringK Go.Proofs.Ytjlochieddhmpaa.ringL Go.Proofs.Ytjlochieddhmpaa.ringM Go.Proofs.Ytjlochieddhmpaa.ringN
set_option linter.unusedVariables false

/-- New, whether it is right or not. -/
def NewAny (seed size : Int) (m : Nat) (ids ws : Nat → Int) (w : World) (e : Ending) (w' : World) : Prop := Below w.heap.size w w' ∧ ((¬ RightP size m ids ws ∧ e = .returned (.tuple #[.pointer none, .int .i64 1])) ∨ (RightP size m ids ws ∧ ∃ ra, e = .returned (.tuple #[.pointer (some ⟨ra, 0, none⟩), .int .i64 0]) ∧ RingAt w' ra size.toNat (endS seed size.toNat m ids ws).P))
theorem new_any (seed size : Int) (A : Option Addr) (m c : Nat) (ids ws : Nat → Int) (w : World) (hm : m ≤ 500) (hit : ItemsIn w w.heap.size A m ids ws) (hid : ∀ j, j < m → 0 ≤ ids j ∧ ids j < 18446744073709551616) :
    Calls Try.prog 10 #[.int .u64 seed, .int .i64 size, .slice A m c] w (NewAny seed size m ids ws w) := by
  by_cases R : RightP size m ids ws
  · obtain ⟨n, rfl⟩ : ∃ n : Nat, size = n := ⟨size.toNat, by have := R.lo; omega⟩
    exact (new_ok seed n A m c ids ws w hm hit hid R).mono fun e w' ⟨ra, h1, h2, h3⟩ => ⟨h3, .inr ⟨R, ra, h1, by rw [Int.toNat_natCast]; exact h2⟩⟩
  · exact (new_no seed size A m c ids ws w hm hit hid R).mono fun e w' ⟨h1, h2⟩ => ⟨h2, .inl ⟨R, h1⟩⟩
set_option maxRecDepth 100000 in
set_option maxHeartbeats 4000000 in
theorem moves_any (seed size other : Int) (A1 : Option Addr) (n1 c1 : Nat) (ids1 ws1 : Nat → Int) (A2 : Option Addr) (n2 c2 : Nat) (ids2 ws2 : Nat → Int) (w : World)
    (hc1 : n1 ≤ c1) (hm1 : c1 ≤ 9223372036854775807) (hit1 : ItemsIn w w.heap.size A1 n1 ids1 ws1) (hid1 : ∀ j, j < n1 → 0 ≤ ids1 j ∧ ids1 j < 18446744073709551616)
    (hc2 : n2 ≤ c2) (hm2 : c2 ≤ 9223372036854775807) (hit2 : ItemsIn w w.heap.size A2 n2 ids2 ws2) (hid2 : ∀ j, j < n2 → 0 ≤ ids2 j ∧ ids2 j < 18446744073709551616) :
    Calls Try.prog 5 #[.int .u64 seed, .int .i64 size, .slice A1 n1 c1, .slice A2 n2 c2, .int .i64 other] w fun e w' => e = .returned (.bool true) ∧ Below w.heap.size w w' := by
  have HF1 := Lib.hid (few_any A1 n1 c1 w.heap.size ids1 ws1 w hc1 hm1 hit1)
  have HF2 := Lib.hid (few_any A2 n2 c2 w.heap.size ids2 ws2 w hc2 hm2 hit2)
  have HD1 := Lib.hid hid1
  have HD2 := Lib.hid hid2
  clear hc1 hm1 hit1 hid1 hc2 hm2 hit2 hid2
  go_enter Try.func5, Try.ntmps5
  go_wp2_with fail
  refine HF1.out.mono ?_
  rintro e w' ⟨m1, rfl, rfl, hm1, hmn1, hit1⟩
  go_wp2_with fail
  refine HF2.out.mono ?_
  rintro e w' ⟨m2, rfl, rfl, hm2, hmn2, hit2⟩
  have HI1 := Lib.hid hit1
  have HI2 := Lib.hid hit2
  have HN1 := Lib.hid (show ∀ W size, Below w.heap.size w W → Calls Try.prog 10 #[.int .u64 seed, .int .i64 size, .slice A1 m1 c1] W (NewAny seed size m1 ids1 ws1 W) from fun W size hb =>
    new_any seed size A1 m1 c1 ids1 ws1 W (by omega) (itemsOn hit1 hb) fun j hj => HD1.out j (by omega))
  have HN2 := Lib.hid (show ∀ W size, Below w.heap.size w W → Calls Try.prog 10 #[.int .u64 seed, .int .i64 size, .slice A2 m2 c2] W (NewAny seed size m2 ids2 ws2 W) from fun W size hb =>
    new_any seed size A2 m2 c2 ids2 ws2 W (by omega) (itemsOn hit2 hb) fun j hj => HD2.out j (by omega))
  clear hit1 hit2 HF1 HF2 HD1 HD2
  by_cases hs : 600 < size
  · have q0 : decide (600 < size) = true := decide_eq_true hs
    go_wp2_with (go_at_call 8; (with_reducible refine (awake_any _).mono ?_); rintro e w1 ⟨rfl, hb⟩; have HB := Lib.hid hb; clear hb)
    go_ret
    exact ⟨rfl, HB.out⟩
  have q0 : decide (600 < size) = false := decide_eq_false hs
  by_cases ho : 600 < other
  · have q1 : decide (600 < other) = true := decide_eq_true ho
    go_wp2_with (go_at_call 8; (with_reducible refine (awake_any _).mono ?_); rintro e w1 ⟨rfl, hb⟩; have HB := Lib.hid hb; clear hb)
    go_ret
    exact ⟨rfl, HB.out⟩
  have q1 : decide (600 < other) = false := decide_eq_false ho
  go_wp2_with fail
  refine (HN1.out w size (Below.refl _ _)).mono ?_
  rintro e w1 ⟨hb1, h1⟩
  have B1 := Lib.hid hb1
  clear hb1
  rcases h1 with ⟨R1, rfl⟩ | ⟨R1, ra, rfl, hra⟩
  · go_wp2_with fail
    refine (HN2.out w1 size B1.out).mono ?_
    rintro e w2 ⟨hb2, h2⟩
    have B2 := Lib.hid (B1.out.trans (hb2.mono B1.out.size))
    clear hb2
    rcases h2 with ⟨R2, rfl⟩ | ⟨R2, rb, rfl, hrb⟩
    all_goals
      go_wp2_with (go_at_call 8; (with_reducible refine (awake_any _).mono ?_); rintro e w3 ⟨rfl, hb⟩; have B3 := Lib.hid (B2.out.trans (hb.mono B2.out.size)); clear hb)
      go_ret
      exact ⟨rfl, B3.out⟩
  obtain ⟨nn, rfl⟩ : ∃ nn : Nat, size = nn := ⟨size.toNat, by have := R1.lo; omega⟩
  rw [Int.toNat_natCast] at hra
  have RA1 := Lib.hid hra
  clear hra
  go_wp2_with fail
  refine (HN2.out w1 nn B1.out).mono ?_
  rintro e w2 ⟨hb2, h2⟩
  have B2 := Lib.hid (B1.out.trans (hb2.mono B1.out.size))
  have RA2 := Lib.hid (RingAt.below RA1.out hb2)
  clear hb2
  rcases h2 with ⟨R2, rfl⟩ | ⟨R2, rb, rfl, hrb⟩
  · go_wp2_with (go_at_call 8; (with_reducible refine (awake_any _).mono ?_); rintro e w3 ⟨rfl, hb⟩; have B3 := Lib.hid (B2.out.trans (hb.mono B2.out.size)); clear hb)
    go_ret
    exact ⟨rfl, B3.out⟩
  rw [Int.toNat_natCast] at hrb
  have RB2 := Lib.hid hrb
  clear hrb
  have hpr : Pr nn := by have := R1.pr; rw [Int.toNat_natCast] at this; exact this
  have n2 : 2 ≤ nn := hpr.1
  have n6 : nn ≤ 600 := by omega
  have HPL1 := Lib.hid (show ∀ W, Below w.heap.size w W → Calls Try.prog 14 #[.int .u64 seed, .int .i64 nn, .slice A1 m1 c1] W (PlPost seed nn m1 ids1 ws1 W) from fun W hb =>
    places_any seed nn A1 m1 c1 ids1 ws1 W (by omega) (itemsOn HI1.out hb) R1)
  have HPL2 := Lib.hid (show ∀ W, Below w.heap.size w W → Calls Try.prog 14 #[.int .u64 seed, .int .i64 nn, .slice A2 m2 c2] W (PlPost seed nn m2 ids2 ws2 W) from fun W hb =>
    places_any seed nn A2 m2 c2 ids2 ws2 W (by omega) (itemsOn HI2.out hb) R2)
  have HP1 := Lib.hid (end_places seed nn m1 ids1 ws1 hpr R1.ws)
  have HP2 := Lib.hid (end_places seed nn m2 ids2 ws2 hpr R2.ws)
  unfold PlPost at HPL1 HPL2
  obtain ⟨P, hP⟩ : ∃ P, P = (endS seed nn m1 ids1 ws1).P := ⟨_, rfl⟩
  have HPE := Lib.hid hP
  rw [← hP] at HPL1 HP1 RA2
  generalize (endS seed nn m2 ids2 ws2).P = Q at *
  clear R2 hP RA1
  go_wp2_with fail
  refine (HPL1.out _ B2.out).mono ?_
  rintro e w3 ⟨gp, cp, rfl, hcp, hap, hb⟩
  have B3 := Lib.hid (B2.out.trans (hb.mono B2.out.size))
  have RA3 := Lib.hid (RingAt.below RA2.out hb)
  have RB3 := Lib.hid (RingAt.below RB2.out hb)
  have P3 := Lib.hid hcp
  have AP := Lib.hid hap
  clear hb hcp hap
  go_wp2_with fail
  refine (HPL2.out _ B3.out).mono ?_
  rintro e w4 ⟨gq, cq, rfl, hcq, haq, hb⟩
  have B4 := Lib.hid (B3.out.trans (hb.mono B3.out.size))
  have RA4 := Lib.hid (RingAt.below RA3.out hb)
  have RB4 := Lib.hid (RingAt.below RB3.out hb)
  have P4 := Lib.hid (P3.out.below hb P3.out.lt)
  have Q4 := Lib.hid hcq
  have AQ := Lib.hid haq
  clear hb hcq haq RA2 RA3 RB2 RB3 P3 B1 B2 B3 HPL1 HPL2
  go_wp2_with fail
  go_loopw [18, 17] (fun i mv wr => ∃ j : Nat, j ≤ nn ∧ i = .int .i64 j ∧ mv = .int .i64 (mvN P Q ids1 ids2 j) ∧ Below w4.heap.size w4 wr) (fun i _ _ => nn - (intOf i).toNat)
  case atStart => exact ⟨0, by omega, rfl, rfl, Below.refl _ _⟩
  case round =>
    obtain ⟨j, hj, rfl, rfl, hbel⟩ := hrel
    have KB := Lib.hid hbel
    clear hbel
    by_cases hlt : j < nn
    · have p1 : decide ((j : Int) < (nn : Int)) = true := decide_eq_true (by omega)
      have d1 := ((P4.out.below KB.out P4.out.lt).cell j).trans (AP.out.2 j hlt)
      have d2 := ((Q4.out.below KB.out Q4.out.lt).cell j).trans (AQ.out.2 j hlt)
      have cl := mvN_le P Q ids1 ids2 j
      have e1 : IntKind.i64.wrap ((mvN P Q ids1 ids2 j : Int) + 1) = (mvN P Q ids1 ids2 j : Int) + 1 := IntWalk.i64_in _ (by omega)
      have HS := Lib.hid (show mvN P Q ids1 ids2 (j + 1) = mvN P Q ids1 ids2 j + if partB P Q ids1 ids2 j = true then 1 else 0 from rfl)
      have HB := Lib.hid (show partB P Q ids1 ids2 j = ((decide (P j < 0) != decide (Q j < 0)) || (decide (0 ≤ P j) && decide (0 ≤ Q j) && (ids1 (P j).toNat != ids2 (Q j).toNat))) from rfl)
      have V1 := Lib.hid (HP1.out j hlt)
      have V2 := Lib.hid (HP2.out j hlt)
      generalize partB P Q ids1 ids2 j = pb at *
      generalize mvN P Q ids1 ids2 j = mv at *
      generalize P j = v1 at *
      generalize Q j = v2 at *
      rcases V1.out with h1 | ⟨h1, h1'⟩
      · have a1 : decide (v1 < 0) = true := decide_eq_true h1
        have a2 : decide (0 ≤ v1) = false := decide_eq_false (by omega)
        rcases V2.out with h2 | ⟨h2, h2'⟩
        · have a3 : decide (v2 < 0) = true := decide_eq_true h2
          have a4 : decide (0 ≤ v2) = false := decide_eq_false (by omega)
          have HF := Lib.hid (show pb = false by rw [HB.out, a1, a2, a3, a4]; rfl)
          clear h1 h2
          go_wp2_with fail
          go_region
          all_goals
            go_wp2_with fail
            go_roundw
            case rel => exact ⟨j + 1, by omega, by go_num, by rw [HS.out, HF.out]; rfl, by first | exact KB.out.drew | exact below_drewN KB.out _⟩
            case measure => simp [intOf]; omega
        · have a3 : decide (v2 < 0) = false := decide_eq_false (by omega)
          have a4 : decide (0 ≤ v2) = true := decide_eq_true h2
          have HF := Lib.hid (show pb = true by rw [HB.out, a1, a2, a3, a4]; rfl)
          clear h1 h2 h2'
          go_wp2_with fail
          go_region
          all_goals
            go_wp2_with fail
            go_roundw
            case rel => exact ⟨j + 1, by omega, by go_num, by rw [HS.out, HF.out]; rfl, by first | exact KB.out.drew | exact below_drewN KB.out _⟩
            case measure => simp [intOf]; omega
      · have a1 : decide (v1 < 0) = false := decide_eq_false (by omega)
        have a2 : decide (0 ≤ v1) = true := decide_eq_true h1
        rcases V2.out with h2 | ⟨h2, h2'⟩
        · have a3 : decide (v2 < 0) = true := decide_eq_true h2
          have a4 : decide (0 ≤ v2) = false := decide_eq_false (by omega)
          have HF := Lib.hid (show pb = true by rw [HB.out, a1, a2, a3, a4]; rfl)
          clear h1 h2 h1'
          go_wp2_with fail
          go_region
          all_goals
            go_wp2_with fail
            go_roundw
            case rel => exact ⟨j + 1, by omega, by go_num, by rw [HS.out, HF.out]; rfl, by first | exact KB.out.drew | exact below_drewN KB.out _⟩
            case measure => simp [intOf]; omega
        · obtain ⟨k1, rfl⟩ : ∃ k : Nat, v1 = k := ⟨v1.toNat, by omega⟩
          obtain ⟨k2, rfl⟩ : ∃ k : Nat, v2 = k := ⟨v2.toNat, by omega⟩
          have km1 : k1 < m1 := by omega
          have km2 : k2 < m2 := by omega
          have a3 : decide ((k2 : Int) < 0) = false := decide_eq_false (by omega)
          have a4 : decide (0 ≤ (k2 : Int)) = true := decide_eq_true h2
          have hbw := B4.out.trans (KB.out.mono B4.out.size)
          rcases HI1.out with hz | ⟨b1, o1, rfl, hl1, hi1⟩
          · omega
          rcases HI2.out with hz | ⟨b2, o2, rfl, hl2, hi2⟩
          · omega
          have g1 := ((hi1.below hbw hl1) k1 km1).1
          have g2 := ((hi2.below hbw hl2) k2 km2).1
          have HBE := Lib.hid (show pb = (ids1 k1 != ids2 k2) by rw [HB.out, a1, a2, a3, a4, Int.toNat_natCast, Int.toNat_natCast]; rfl)
          clear hi1 hi2 hbw h1 h2 h1' h2' hl1 hl2
          generalize ids1 k1 = x1 at *
          generalize ids2 k2 = x2 at *
          by_cases hx : x1 = x2
          · have a5 : (x1 != x2) = false := by simpa using hx
            have HF := Lib.hid (show pb = false by rw [HBE.out]; exact a5)
            clear hx
            go_wp2_with fail
            go_region
            all_goals
              go_wp2_with fail
              go_roundw
              case rel => exact ⟨j + 1, by omega, by go_num, by rw [HS.out, HF.out]; rfl, by first | exact KB.out.drew | exact below_drewN KB.out _⟩
              case measure => simp [intOf]; omega
          · have a5 : (x1 != x2) = true := by simpa using hx
            have HF := Lib.hid (show pb = true by rw [HBE.out]; exact a5)
            clear hx
            go_wp2_with fail
            go_region
            all_goals
              go_wp2_with fail
              go_roundw
              case rel => exact ⟨j + 1, by omega, by go_num, by rw [HS.out, HF.out]; rfl, by first | exact KB.out.drew | exact below_drewN KB.out _⟩
              case measure => simp [intOf]; omega
    · obtain rfl : nn = j := by omega
      have p1 : decide ((nn : Int) < (nn : Int)) = false := decide_eq_false (by omega)
      have B5 := Lib.hid (B4.out.trans (KB.out.mono B4.out.size))
      have RA5 := Lib.hid (RingAt.below RA4.out KB.out)
      have RB5 := Lib.hid (RingAt.below RB4.out KB.out)
      have HMX := Lib.hid (show ∀ W, Below wr.heap.size wr W → (Calls Try.prog 17 #[.pointer (some ⟨ra, 0, none⟩), .slice A1 m1 c1, .pointer (some ⟨rb, 0, none⟩), .slice A2 m2 c2] W fun e w' => e = .returned (.int .i64 (mvN P Q ids1 ids2 nn)) ∧ W = w') ∧ (Calls Try.prog 17 #[.pointer (some ⟨ra, 0, none⟩), .slice A1 m1 c1, .pointer (some ⟨ra, 0, none⟩), .slice A1 m1 c1] W fun e w' => e = .returned (.int .i64 0) ∧ W = w') from fun W hb => by
        have hbw := B5.out.trans (hb.mono B5.out.size)
        refine ⟨moved_at ra rb nn P Q A1 A2 m1 c1 m2 c2 w.heap.size ids1 ws1 ids2 ws2 W (RingAt.below RA5.out hb) (RingAt.below RB5.out hb) (by omega) (HI1.out.below hbw) (HI2.out.below hbw) HP1.out HP2.out, ?_⟩
        have := moved_at ra ra nn P P A1 A1 m1 c1 m1 c1 w.heap.size ids1 ws1 ids1 ws1 W (RingAt.below RA5.out hb) (RingAt.below RA5.out hb) (by omega) (HI1.out.below hbw) (HI1.out.below hbw) HP1.out HP1.out
        rw [mvN_same] at this
        exact this)
      have HNE := Lib.hid (HN1.out wr other B5.out)
      have HMC := Lib.hid (show ∀ W rc k, Below wr.heap.size wr W → RingAt W rc k (endS seed k m1 ids1 ws1).P → k ≠ nn → Calls Try.prog 17 #[.pointer (some ⟨ra, 0, none⟩), .slice A1 m1 c1, .pointer (some ⟨rc, 0, none⟩), .slice A1 m1 c1] W fun e w' => e = .returned (.int .i64 (-1)) ∧ W = w' from fun W rc k hb hr hne =>
        moved_no ra rc nn k P _ _ _ W (RingAt.below RA5.out hb) hr (Ne.symm hne))
      have HMD := Lib.hid (show ∀ W rc, Below wr.heap.size wr W → RingAt W rc nn (endS seed nn m1 ids1 ws1).P → Calls Try.prog 17 #[.pointer (some ⟨ra, 0, none⟩), .slice A1 m1 c1, .pointer (some ⟨rc, 0, none⟩), .slice A1 m1 c1] W fun e w' => e = .returned (.int .i64 0) ∧ W = w' from fun W rc hb hr => by
        rw [← HPE.out] at hr
        have hbw := B5.out.trans (hb.mono B5.out.size)
        have := moved_at ra rc nn P P A1 A1 m1 c1 m1 c1 w.heap.size ids1 ws1 ids1 ws1 W (RingAt.below RA5.out hb) hr (by omega) (HI1.out.below hbw) (HI1.out.below hbw) HP1.out HP1.out
        rw [mvN_same] at this
        exact this)
      generalize mvN P Q ids1 ids2 nn = mv at *
      have a0 : ((mv : Int) == (mv : Int)) = true := by simp
      go_wp2_with fail
      refine HNE.out.mono ?_
      rintro e w5 ⟨hb5, h5⟩
      have KB5 := Lib.hid hb5
      have HQ1 := Lib.hid (HMX.out _ hb5).1
      have HQ2 := Lib.hid (HMX.out _ hb5).2
      have B6 := Lib.hid (B5.out.trans (hb5.mono B5.out.size))
      clear hb5 HMX HNE
      rcases h5 with ⟨R3, rfl⟩ | ⟨R3, rc, rfl, hrc⟩
      · go_wp2_with (first
          | (go_at_call 17; (first | (with_reducible refine HQ1.out.mono ?_) | (with_reducible refine HQ2.out.mono ?_)); rintro e w' ⟨rfl, rfl⟩)
          | (go_at_call 8; (with_reducible refine (awake_any _).mono ?_); rintro e w6 ⟨rfl, hb⟩; have B7 := Lib.hid (B6.out.trans (hb.mono B6.out.size)); clear hb))
        go_ret
        exact ⟨rfl, B7.out⟩
      · obtain ⟨k, rfl⟩ : ∃ k : Nat, other = k := ⟨other.toNat, by have := R3.lo; omega⟩
        rw [Int.toNat_natCast] at hrc
        by_cases hk : k = nn
        · subst hk
          have HQ3 := Lib.hid (HMD.out _ rc KB5.out hrc)
          have a1 : ((k : Int) != (k : Int)) = false := by simp
          clear hrc R3
          go_wp2_with (first
            | (go_at_call 17; (first | (with_reducible refine HQ1.out.mono ?_) | (with_reducible refine HQ2.out.mono ?_) | (with_reducible refine HQ3.out.mono ?_)); rintro e w' ⟨rfl, rfl⟩)
            | (go_at_call 8; (with_reducible refine (awake_any _).mono ?_); rintro e w6 ⟨rfl, hb⟩; have B7 := Lib.hid (B6.out.trans (hb.mono B6.out.size)); clear hb))
          go_ret
          exact ⟨rfl, B7.out⟩
        · have HQ3 := Lib.hid (HMC.out _ rc k KB5.out hrc hk)
          have a1 : ((k : Int) != (nn : Int)) = true := by simp; omega
          have a2 : (k != nn) = true := by simpa using hk
          clear hrc R3
          go_wp2_with (first
            | (go_at_call 17; (first | (with_reducible refine HQ1.out.mono ?_) | (with_reducible refine HQ2.out.mono ?_) | (with_reducible refine HQ3.out.mono ?_)); rintro e w' ⟨rfl, rfl⟩)
            | (go_at_call 8; (with_reducible refine (awake_any _).mono ?_); rintro e w6 ⟨rfl, hb⟩; have B7 := Lib.hid (B6.out.trans (hb.mono B6.out.size)); clear hb))
          go_ret
          exact ⟨rfl, B7.out⟩
end Go.Proofs.Ytjlochieddhmpaa.ringO
