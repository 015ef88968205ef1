/- Layer 24: the law on draws. -/
import Derived.Test.YticapkhpjdfhgaaLoadF
namespace Go.Proofs.Yticapkhpjdfhgaa.loadG
open Go.ChangeShapes Go.WideShapes Go.ChangeAt Go.RowKit
open Go.Proofs.Yticapkhpjdfhgaa.base Go.Proofs.Yticapkhpjdfhgaa.loadB Go.Proofs.Yticapkhpjdfhgaa.loadC Go.Proofs.Yticapkhpjdfhgaa.loadE Go.Proofs.Yticapkhpjdfhgaa.loadF
set_option linter.unusedVariables false

set_option maxHeartbeats 1000000 in
theorem drawsSmall (A : Option Addr) (n c : Nat) (l : List Int) (draw : Int) (w : World) (hl : l.length = n) (hn : n ≤ 4) (hc0 : n ≤ c) (hcm : c ≤ 9223372036854775807) (hw : ∀ i, i < n → -9223372036854775808 ≤ l.getD i 0 ∧ l.getD i 0 < 9223372036854775808) (hr : Row w w.heap.size A (l.map (.int .i64))) (d0 : -9223372036854775808 ≤ draw) (d1 : draw < 9223372036854775808) :
    Calls Try.prog 5 #[.slice A n c, .int .i64 draw] w fun e w' => e = .returned (.bool true) ∧ Below w.heap.size w w' := by
  obtain ⟨i0, hi0, hz0, hz1, hz2⟩ := info_parts info_int
  have hmk := fun (W : World) => run_make_one (P := Try.prog) 25 3 i0 _ Try.underlying25 hi0 hz0 hz1 rfl .i64 .i64 (n : Int) (by omega) (by rw [hz2]; omega) (by omega) W
  have hmH := Lib.hid hmk
  have HR := Lib.hid hr
  have HN := Lib.hid hl
  have HW := Lib.hid hw
  clear hr hl hw hmk hz0 hz1 hz2 hi0
  have hd0 : decide ((4 : Int) < (n : Int)) = false := by simp; omega
  go_enter Try.func5, Try.ntmps5
  go_wp2_with fail
  go_loop [5, 6, 7] (fun s x i => ∃ k : Nat, k ≤ n ∧ i = .int .i64 k ∧ s = .int .i64 (pre l k) ∧ x = .int .i64 (lev l draw k) ∧ ∀ j, j < k → l.getD j 0 ≤ 1048576) (fun _ _ i => n - (intOf i).toNat)
  case atStart => exact ⟨0, by omega, rfl, rfl, rfl, fun j hj => absurd hj (by omega)⟩
  case round =>
    obtain ⟨k, hk, rfl, rfl, rfl, hall⟩ := hrel
    have hpin := pre_in l k hall
    have hpin0 := hpin.1
    have hpin1 : pre l k ≤ 4194304 := by omega
    have HALL := Lib.hid hall
    clear hpin hall
    by_cases hlt : k < n
    · have hwk := HW.out k hlt
      have hst : pre l (k + 1) = pre l k + max (l.getD k 0) 0 := rfl
      have hlv : lev l draw (k + 1) = if pre l k ≤ draw ∧ draw < pre l (k + 1) then (k : Int) else lev l draw k := rfl
      rw [hst] at hlv
      obtain ⟨b, off, rfl, _, hc⟩ := row_get (HR.out.below (Below.refl _ _)) (by rw [HN.out]; omega)
      have c1 := hc k (by rw [HN.out]; exact hlt)
      clear hc
      have hnext : ∀ z, l.getD k 0 = z → z ≤ 1048576 → ∀ j, j < k + 1 → l.getD j 0 ≤ 1048576 := by
        intro z hz hz2 j hj
        rcases Nat.lt_or_ge j k with h | h
        · exact HALL.out j h
        · obtain rfl : j = k := by omega
          omega
      generalize hx : l.getD k 0 = x at *
      have HX := Lib.hid hx
      have HNX := Lib.hid hnext
      obtain ⟨w0, w1⟩ := hwk
      clear hx hnext
      by_cases hbig : 1048576 < x
      · clear hst hlv
        generalize pre l k = p at *
        generalize lev l draw k = v at *
        go_wp2_with fail
        refine (awake_any _).mono ?_
        rintro e w1 ⟨rfl, hb⟩
        go_wp2_with fail
        go_ret
        exact ⟨rfl, hb⟩
      · have hle : x ≤ 1048576 := by omega
        rcases Int.lt_or_le x 0 with hneg | hneg
        · have hst2 : pre l (k + 1) = pre l k := by rw [hst]; omega
          have hlv2 : lev l draw (k + 1) = lev l draw k := by rw [hlv, if_neg (by omega)]
          have HST := Lib.hid hst2
          have HLV := Lib.hid hlv2
          clear hst hst2 hlv hlv2
          generalize pre l k = p at *
          generalize lev l draw k = v at *
          rcases Int.lt_or_le draw p with g | g
          all_goals
            go_wp2_with fail
            go_round
            case rel => exact ⟨k + 1, by omega, by go_num, by rw [HST.out], by rw [HLV.out], HNX.out x rfl hle⟩
            case measure => simp [intOf]; omega
        · have hst2 : pre l (k + 1) = pre l k + x := by rw [hst]; omega
          have hmx : max x 0 = x := by omega
          rw [hmx] at hlv
          have HST := Lib.hid hst2
          clear hst hst2 hmx
          rcases Int.lt_or_le draw (pre l k) with g | g
          · have hlv2 : lev l draw (k + 1) = lev l draw k := by rw [hlv, if_neg (by omega)]
            have HLV := Lib.hid hlv2
            clear hlv hlv2
            generalize pre l k = p at *
            generalize lev l draw k = v at *
            go_wp2_with fail
            go_round
            case rel => exact ⟨k + 1, by omega, by go_num, by rw [HST.out], by rw [HLV.out], HNX.out x rfl hle⟩
            case measure => simp [intOf]; omega
          · rcases Int.lt_or_le draw (pre l k + x) with g2 | g2
            · have hlv2 : lev l draw (k + 1) = (k : Int) := by rw [hlv, if_pos ⟨g, g2⟩]
              have HLV := Lib.hid hlv2
              clear hlv hlv2
              generalize pre l k = p at *
              generalize lev l draw k = v at *
              go_wp2_with fail
              go_round
              case rel => exact ⟨k + 1, by omega, by go_num, by rw [HST.out], by rw [HLV.out], HNX.out x rfl hle⟩
              case measure => simp [intOf]; omega
            · have hlv2 : lev l draw (k + 1) = lev l draw k := by rw [hlv, if_neg (by omega)]
              have HLV := Lib.hid hlv2
              clear hlv hlv2
              generalize pre l k = p at *
              generalize lev l draw k = v at *
              go_wp2_with fail
              go_round
              case rel => exact ⟨k + 1, by omega, by go_num, by rw [HST.out], by rw [HLV.out], HNX.out x rfl hle⟩
              case measure => simp [intOf]; omega
    · obtain rfl : k = n := by omega
      have hb4 : ∀ i, i < k → -9223372036854775808 ≤ l.getD i 0 ∧ l.getD i 0 ≤ 1048576 := fun i hi => ⟨(HW.out i hi).1, HALL.out i hi⟩
      have HB4 := Lib.hid hb4
      have HROW := HR
      have o1 : (lev l draw k != lev l draw k) = false := by simp
      clear hb4
      by_cases hs : 10000 < pre l k
      · go_wp2_with fail
        refine (level_any _ k _ l draw _ HN.out (by omega) HB4.out HROW.out (by omega) (by omega)).mono ?_
        rintro e w' ⟨rfl, rfl⟩
        generalize lev l draw k = v at *
        generalize pre l k = p at *
        go_wp2_with fail
        refine (awake_any _).mono ?_
        rintro e w1 ⟨rfl, hb⟩
        go_wp2_with fail
        go_ret
        exact ⟨rfl, hb⟩
      · have hsum : pre l k ≤ 10000 := by omega
        have HSUM := Lib.hid hsum
        clear hs
        go_wp2_with fail
        refine (level_any _ k _ l draw _ HN.out (by omega) HB4.out HROW.out (by omega) (by omega)).mono ?_
        rintro e w' ⟨rfl, rfl⟩
        generalize lev l draw k = v at *
        have hps : ∃ p, p = pre l k := ⟨_, rfl⟩
        obtain ⟨p, hp⟩ := hps
        rw [← hp] at hpin0 hpin1 hsum ⊢
        have HPP := Lib.hid hp
        clear hp
        have hm := hmH.out
        go_wp2_with fail
        clear hm
        go_loopw [10] (fun d wr => ∃ j : Nat, (j : Int) ≤ p ∧ d = .int .i64 j ∧ Blk wr w.heap.size 3 (tab k (cnt l j)) ∧ Below w.heap.size w wr) (fun d _ => 10000 - (intOf d).toNat)
        case atStart => exact ⟨0, by omega, rfl, by have := Blk.new w 3 (zeros k (.int .i64 0)); rw [tab_congr (g := cnt l ((0 : Nat) : Int)) (g' := fun _ => 0) (fun i hi => cnt_zero l i), ← tab_zero]; exact this, (Below.refl _ _).alloc (Nat.le_refl _) _⟩
        case round =>
          obtain ⟨j, hj, rfl, hblk, hbel⟩ := hrel
          have hrow := (HR.out.below hbel).more hbel.size
          have HROW2 := Lib.hid hrow
          have HBel := Lib.hid hbel
          have HBlk := Lib.hid hblk
          by_cases hjl : (j : Int) < p
          · obtain ⟨q, hq, q1, q2⟩ := lev_some l j k (by omega) (by rw [← HPP.out]; exact hjl)
            have hv := lev_at l j q k hq q1 q2
            have hcnt := cnt_step l j q q1 q2
            have cb : 0 ≤ cnt l j q ∧ cnt l j q ≤ 10000 := by
              have h1 := pre_mono l (Nat.zero_le q)
              rw [show pre l 0 = 0 from rfl] at h1
              unfold cnt; omega
            have c1 : wr.cell? ⟨w.heap.size, q, none⟩ = some (.int .i64 (cnt l j q)) := by rw [hblk.cell q, tab_get _ _ _ hq]
            have c3 : wr.frozen? ⟨w.heap.size, q, none⟩ = false := hblk.frozen q
            have HV := Lib.hid hv
            have HC := Lib.hid hcnt
            have q3 : (q : Int) < ((k : Nat) : Int) := by omega
            clear hv hcnt q1 q2 hrow hblk hbel
            obtain ⟨cb0, cb1⟩ := cb
            generalize hcc : cnt l j q = z at *
            have HCC := Lib.hid hcc
            clear hcc
            go_wp2_with fail
            refine (level_any _ k _ l j _ HN.out (by omega) HB4.out HROW2.out (by omega) (by omega)).mono ?_
            rintro e w' ⟨rfl, rfl⟩
            rw [HV.out]
            go_wp2_with fail
            go_roundw
            case rel =>
              refine ⟨j + 1, by omega, by go_num, ?_, bel_set HBel.out (Nat.le_refl _) _⟩
              have hnew := HBlk.out.set_ q (.int .i64 (z + 1))
              rw [tab_set] at hnew
              have e : ((j + 1 : Nat) : Int) = (j : Int) + 1 := by omega
              rw [e, tab_congr (g' := fun i => if i = q then z + 1 else cnt l j i) (fun i hi => HC.out i)]
              exact hnew
            case measure => simp [intOf]; omega
          · have hjp : (j : Int) = p := by omega
            have hfull : ∀ i, i < k → cnt l j i = max (l.getD i 0) 0 := fun i hi => by rw [hjp, HPP.out]; exact cnt_full l k i hi
            rw [tab_congr (g' := fun i => max (l.getD i 0) 0) hfull] at hblk
            have HBlk2 := Lib.hid hblk
            have hlast : lev l p k = -1 := lev_none l p k (by rw [HPP.out]; omega)
            have HLAST := Lib.hid hlast
            clear hjp hfull hblk hrow hbel HBlk hlast
            go_wp2_with fail
            obtain ⟨wa, rfl⟩ : ∃ wa, wa = wr := ⟨_, rfl⟩
            go_loopw [12] (fun d wr => ∃ k : Nat, k ≤ k ∧ d = .int .i64 k ∧ ∃ m, wr = wa.drewN m) (fun d _ => k - (intOf d).toNat)
            case atStart => exact ⟨0, by omega, rfl, 0, rfl⟩
            case round =>
              obtain ⟨i, hi, rfl, m, rfl⟩ := hrel
              by_cases hlt : i < k
              · have hb1 : Below wa.heap.size wa (wa.drewN m) := below_drewN (Below.refl _ _) m
                have c3 : wa.cell? ⟨w.heap.size, i, none⟩ = some (.int .i64 (max (l.getD i 0) 0)) := (HBlk2.out.cell i).trans (tab_get _ _ _ hlt)
                have hrow := HROW2.out
                have hwk := HB4.out i hlt
                obtain ⟨b, off, rfl, _, hc⟩ := row_get hrow (by rw [HN.out]; omega)
                have c1 := hc i (by rw [HN.out]; exact hlt)
                clear hc
                clear hb1 hrow
                have y0 : (0 : Int) ≤ (i : Int) := by omega
                have y1 : (i : Int) < ((k : Nat) : Int) := by omega
                generalize l.getD i 0 = x at *
                obtain ⟨w0, w1⟩ := hwk
                rcases Int.lt_or_le x 0 with hneg | hneg
                · have hmx : max x 0 = 0 := by omega
                  rw [hmx] at c3
                  have z1 : decide (0 ≤ x) = false := by simp; omega
                  have z2 : decide (x < 0) = true := by simp; omega
                  have z3 : ((0 : Int) != 0) = false := by simp
                  clear hmx
                  go_wp2_with fail
                  go_quiet (fail)
                  go_wp2_with fail
                  go_roundw
                  case rel => exact ⟨i + 1, by omega, by go_num, _, rfl⟩
                  case measure => simp [intOf]; omega
                · have hmx : max x 0 = x := by omega
                  rw [hmx] at c3
                  have z1 : decide (0 ≤ x) = true := by simp; omega
                  have z2 : decide (x < 0) = false := by simp; omega
                  have z3 : (x != x) = false := by simp
                  clear hmx
                  go_wp2_with fail
                  go_quiet (fail)
                  go_wp2_with fail
                  go_roundw
                  case rel => exact ⟨i + 1, by omega, by go_num, _, rfl⟩
                  case measure => simp [intOf]; omega
              · have hrow := HROW2.out.below (below_drewN (Below.refl _ wa) m)
                have HROW3 := Lib.hid hrow
                clear hrow
                go_wp2_with fail
                refine (level_any _ k _ l p _ HN.out (by omega) HB4.out HROW3.out (by omega) (by omega)).mono ?_
                rintro e w' ⟨rfl, rfl⟩
                rw [HLAST.out]
                go_wp2_with fail
                refine (awake_any _).mono ?_
                rintro e w1 ⟨rfl, hb⟩
                go_wp2_with fail
                go_ret
                exact ⟨rfl, bel_call (below_drewN HBel.out m) hb⟩

set_option maxHeartbeats 1000000 in
theorem drawsBig (b0 off0 n0 c : Nat) (l : List Int) (draw : Int) (w : World) (hl : l.length = 4) (hn0 : 4 < n0) (hc0 : n0 ≤ c) (hcm : c ≤ 9223372036854775807) (hw : ∀ i, i < 4 → -9223372036854775808 ≤ l.getD i 0 ∧ l.getD i 0 < 9223372036854775808) (hr : Row w w.heap.size (some ⟨b0, off0, none⟩) (l.map (.int .i64))) (d0 : -9223372036854775808 ≤ draw) (d1 : draw < 9223372036854775808) :
    Calls Try.prog 5 #[.slice (some ⟨b0, off0, none⟩) n0 c, .int .i64 draw] w fun e w' => e = .returned (.bool true) ∧ Below w.heap.size w w' := by
  obtain ⟨i0, hi0, hz0, hz1, hz2⟩ := info_parts info_int
  have hmk := fun (W : World) => run_make_one (P := Try.prog) 25 3 i0 _ Try.underlying25 hi0 hz0 hz1 rfl .i64 .i64 (4 : Int) (by omega) (by rw [hz2]; omega) (by omega) W
  have hmH := Lib.hid hmk
  have HR := Lib.hid hr
  have HN := Lib.hid hl
  have HW := Lib.hid hw
  clear hr hl hw hmk hz0 hz1 hz2 hi0
  have hd0 : decide ((4 : Int) < (n0 : Int)) = true := by simp; omega
  go_enter Try.func5, Try.ntmps5
  go_wp2_with fail
  go_loop [5, 6, 7] (fun s x i => ∃ k : Nat, k ≤ 4 ∧ i = .int .i64 k ∧ s = .int .i64 (pre l k) ∧ x = .int .i64 (lev l draw k) ∧ ∀ j, j < k → l.getD j 0 ≤ 1048576) (fun _ _ i => 4 - (intOf i).toNat)
  case atStart => exact ⟨0, by omega, rfl, rfl, rfl, fun j hj => absurd hj (by omega)⟩
  case round =>
    obtain ⟨k, hk, rfl, rfl, rfl, hall⟩ := hrel
    have hpin := pre_in l k hall
    have hpin0 := hpin.1
    have hpin1 : pre l k ≤ 4194304 := by omega
    have HALL := Lib.hid hall
    clear hpin hall
    by_cases hlt : k < 4
    · have hwk := HW.out k hlt
      have hst : pre l (k + 1) = pre l k + max (l.getD k 0) 0 := rfl
      have hlv : lev l draw (k + 1) = if pre l k ≤ draw ∧ draw < pre l (k + 1) then (k : Int) else lev l draw k := rfl
      rw [hst] at hlv
      obtain ⟨b1, off1, hA, _, hc⟩ := row_get (HR.out.below (Below.refl _ _)) (by rw [HN.out]; omega)
      obtain ⟨rfl, rfl⟩ : b0 = b1 ∧ off0 = off1 := by injection hA with hA; injection hA with h1 h2; exact ⟨h1, h2⟩
      have c1 := hc k (by rw [HN.out]; exact hlt)
      clear hc
      have hnext : ∀ z, l.getD k 0 = z → z ≤ 1048576 → ∀ j, j < k + 1 → l.getD j 0 ≤ 1048576 := by
        intro z hz hz2 j hj
        rcases Nat.lt_or_ge j k with h | h
        · exact HALL.out j h
        · obtain rfl : j = k := by omega
          omega
      generalize hx : l.getD k 0 = x at *
      have HX := Lib.hid hx
      have HNX := Lib.hid hnext
      obtain ⟨w0, w1⟩ := hwk
      clear hx hnext
      by_cases hbig : 1048576 < x
      · clear hst hlv
        generalize pre l k = p at *
        generalize lev l draw k = v at *
        go_wp2_with fail
        refine (awake_any _).mono ?_
        rintro e w1 ⟨rfl, hb⟩
        go_wp2_with fail
        go_ret
        exact ⟨rfl, hb⟩
      · have hle : x ≤ 1048576 := by omega
        rcases Int.lt_or_le x 0 with hneg | hneg
        · have hst2 : pre l (k + 1) = pre l k := by rw [hst]; omega
          have hlv2 : lev l draw (k + 1) = lev l draw k := by rw [hlv, if_neg (by omega)]
          have HST := Lib.hid hst2
          have HLV := Lib.hid hlv2
          clear hst hst2 hlv hlv2
          generalize pre l k = p at *
          generalize lev l draw k = v at *
          rcases Int.lt_or_le draw p with g | g
          all_goals
            go_wp2_with fail
            go_round
            case rel => exact ⟨k + 1, by omega, by go_num, by rw [HST.out], by rw [HLV.out], HNX.out x rfl hle⟩
            case measure => simp [intOf]; omega
        · have hst2 : pre l (k + 1) = pre l k + x := by rw [hst]; omega
          have hmx : max x 0 = x := by omega
          rw [hmx] at hlv
          have HST := Lib.hid hst2
          clear hst hst2 hmx
          rcases Int.lt_or_le draw (pre l k) with g | g
          · have hlv2 : lev l draw (k + 1) = lev l draw k := by rw [hlv, if_neg (by omega)]
            have HLV := Lib.hid hlv2
            clear hlv hlv2
            generalize pre l k = p at *
            generalize lev l draw k = v at *
            go_wp2_with fail
            go_round
            case rel => exact ⟨k + 1, by omega, by go_num, by rw [HST.out], by rw [HLV.out], HNX.out x rfl hle⟩
            case measure => simp [intOf]; omega
          · rcases Int.lt_or_le draw (pre l k + x) with g2 | g2
            · have hlv2 : lev l draw (k + 1) = (k : Int) := by rw [hlv, if_pos ⟨g, g2⟩]
              have HLV := Lib.hid hlv2
              clear hlv hlv2
              generalize pre l k = p at *
              generalize lev l draw k = v at *
              go_wp2_with fail
              go_round
              case rel => exact ⟨k + 1, by omega, by go_num, by rw [HST.out], by rw [HLV.out], HNX.out x rfl hle⟩
              case measure => simp [intOf]; omega
            · have hlv2 : lev l draw (k + 1) = lev l draw k := by rw [hlv, if_neg (by omega)]
              have HLV := Lib.hid hlv2
              clear hlv hlv2
              generalize pre l k = p at *
              generalize lev l draw k = v at *
              go_wp2_with fail
              go_round
              case rel => exact ⟨k + 1, by omega, by go_num, by rw [HST.out], by rw [HLV.out], HNX.out x rfl hle⟩
              case measure => simp [intOf]; omega
    · obtain rfl : k = 4 := by omega
      have hb4 : ∀ i, i < 4 → -9223372036854775808 ≤ l.getD i 0 ∧ l.getD i 0 ≤ 1048576 := fun i hi => ⟨(HW.out i hi).1, HALL.out i hi⟩
      have HB4 := Lib.hid hb4
      have HROW := HR
      have o1 : (lev l draw 4 != lev l draw 4) = false := by simp
      clear hb4
      by_cases hs : 10000 < pre l 4
      · go_wp2_with fail
        refine (level_any _ 4 _ l draw _ HN.out (by omega) HB4.out HROW.out (by omega) (by omega)).mono ?_
        rintro e w' ⟨rfl, rfl⟩
        generalize lev l draw 4 = v at *
        generalize pre l 4 = p at *
        go_wp2_with fail
        refine (awake_any _).mono ?_
        rintro e w1 ⟨rfl, hb⟩
        go_wp2_with fail
        go_ret
        exact ⟨rfl, hb⟩
      · have hsum : pre l 4 ≤ 10000 := by omega
        have HSUM := Lib.hid hsum
        clear hs
        go_wp2_with fail
        refine (level_any _ 4 _ l draw _ HN.out (by omega) HB4.out HROW.out (by omega) (by omega)).mono ?_
        rintro e w' ⟨rfl, rfl⟩
        generalize lev l draw 4 = v at *
        have hps : ∃ p, p = pre l 4 := ⟨_, rfl⟩
        obtain ⟨p, hp⟩ := hps
        rw [← hp] at hpin0 hpin1 hsum ⊢
        have HPP := Lib.hid hp
        clear hp
        have hm := hmH.out
        go_wp2_with fail
        clear hm
        go_loopw [10] (fun d wr => ∃ j : Nat, (j : Int) ≤ p ∧ d = .int .i64 j ∧ Blk wr w.heap.size 3 (tab 4 (cnt l j)) ∧ Below w.heap.size w wr) (fun d _ => 10000 - (intOf d).toNat)
        case atStart => exact ⟨0, by omega, rfl, by have := Blk.new w 3 (zeros 4 (.int .i64 0)); rw [tab_congr (g := cnt l ((0 : Nat) : Int)) (g' := fun _ => 0) (fun i hi => cnt_zero l i), ← tab_zero]; exact this, (Below.refl _ _).alloc (Nat.le_refl _) _⟩
        case round =>
          obtain ⟨j, hj, rfl, hblk, hbel⟩ := hrel
          have hrow := (HR.out.below hbel).more hbel.size
          have HROW2 := Lib.hid hrow
          have HBel := Lib.hid hbel
          have HBlk := Lib.hid hblk
          by_cases hjl : (j : Int) < p
          · obtain ⟨q, hq, q1, q2⟩ := lev_some l j 4 (by omega) (by rw [← HPP.out]; exact hjl)
            have hv := lev_at l j q 4 hq q1 q2
            have hcnt := cnt_step l j q q1 q2
            have cb : 0 ≤ cnt l j q ∧ cnt l j q ≤ 10000 := by
              have h1 := pre_mono l (Nat.zero_le q)
              rw [show pre l 0 = 0 from rfl] at h1
              unfold cnt; omega
            have c1 : wr.cell? ⟨w.heap.size, q, none⟩ = some (.int .i64 (cnt l j q)) := by rw [hblk.cell q, tab_get _ _ _ hq]
            have c3 : wr.frozen? ⟨w.heap.size, q, none⟩ = false := hblk.frozen q
            have HV := Lib.hid hv
            have HC := Lib.hid hcnt
            have q3 : (q : Int) < 4 := by omega
            clear hv hcnt q1 q2 hrow hblk hbel
            obtain ⟨cb0, cb1⟩ := cb
            generalize hcc : cnt l j q = z at *
            have HCC := Lib.hid hcc
            clear hcc
            go_wp2_with fail
            refine (level_any _ 4 _ l j _ HN.out (by omega) HB4.out HROW2.out (by omega) (by omega)).mono ?_
            rintro e w' ⟨rfl, rfl⟩
            rw [HV.out]
            go_wp2_with fail
            go_roundw
            case rel =>
              refine ⟨j + 1, by omega, by go_num, ?_, bel_set HBel.out (Nat.le_refl _) _⟩
              have hnew := HBlk.out.set_ q (.int .i64 (z + 1))
              rw [tab_set] at hnew
              have e : ((j + 1 : Nat) : Int) = (j : Int) + 1 := by omega
              rw [e, tab_congr (g' := fun i => if i = q then z + 1 else cnt l j i) (fun i hi => HC.out i)]
              exact hnew
            case measure => simp [intOf]; omega
          · have hjp : (j : Int) = p := by omega
            have hfull : ∀ i, i < 4 → cnt l j i = max (l.getD i 0) 0 := fun i hi => by rw [hjp, HPP.out]; exact cnt_full l 4 i hi
            rw [tab_congr (g' := fun i => max (l.getD i 0) 0) hfull] at hblk
            have HBlk2 := Lib.hid hblk
            have hlast : lev l p 4 = -1 := lev_none l p 4 (by rw [HPP.out]; omega)
            have HLAST := Lib.hid hlast
            clear hjp hfull hblk hrow hbel HBlk hlast
            go_wp2_with fail
            obtain ⟨wa, rfl⟩ : ∃ wa, wa = wr := ⟨_, rfl⟩
            go_loopw [12] (fun d wr => ∃ k : Nat, k ≤ 4 ∧ d = .int .i64 k ∧ ∃ m, wr = wa.drewN m) (fun d _ => 4 - (intOf d).toNat)
            case atStart => exact ⟨0, by omega, rfl, 0, rfl⟩
            case round =>
              obtain ⟨i, hi, rfl, m, rfl⟩ := hrel
              by_cases hlt : i < 4
              · have hb1 : Below wa.heap.size wa (wa.drewN m) := below_drewN (Below.refl _ _) m
                have c3 : wa.cell? ⟨w.heap.size, i, none⟩ = some (.int .i64 (max (l.getD i 0) 0)) := (HBlk2.out.cell i).trans (tab_get _ _ _ hlt)
                have hrow := HROW2.out
                have hwk := HB4.out i hlt
                obtain ⟨b1, off1, hA, _, hc⟩ := row_get hrow (by rw [HN.out]; omega)
                obtain ⟨rfl, rfl⟩ : b0 = b1 ∧ off0 = off1 := by injection hA with hA; injection hA with h1 h2; exact ⟨h1, h2⟩
                have c1 := hc i (by rw [HN.out]; exact hlt)
                clear hc
                clear hb1 hrow
                have y0 : (0 : Int) ≤ (i : Int) := by omega
                have y1 : (i : Int) < 4 := by omega
                generalize l.getD i 0 = x at *
                obtain ⟨w0, w1⟩ := hwk
                rcases Int.lt_or_le x 0 with hneg | hneg
                · have hmx : max x 0 = 0 := by omega
                  rw [hmx] at c3
                  have z1 : decide (0 ≤ x) = false := by simp; omega
                  have z2 : decide (x < 0) = true := by simp; omega
                  have z3 : ((0 : Int) != 0) = false := by simp
                  clear hmx
                  go_wp2_with fail
                  go_quiet (fail)
                  go_wp2_with fail
                  go_roundw
                  case rel => exact ⟨i + 1, by omega, by go_num, _, rfl⟩
                  case measure => simp [intOf]; omega
                · have hmx : max x 0 = x := by omega
                  rw [hmx] at c3
                  have z1 : decide (0 ≤ x) = true := by simp; omega
                  have z2 : decide (x < 0) = false := by simp; omega
                  have z3 : (x != x) = false := by simp
                  clear hmx
                  go_wp2_with fail
                  go_quiet (fail)
                  go_wp2_with fail
                  go_roundw
                  case rel => exact ⟨i + 1, by omega, by go_num, _, rfl⟩
                  case measure => simp [intOf]; omega
              · have hrow := HROW2.out.below (below_drewN (Below.refl _ wa) m)
                have HROW3 := Lib.hid hrow
                clear hrow
                go_wp2_with fail
                refine (level_any _ 4 _ l p _ HN.out (by omega) HB4.out HROW3.out (by omega) (by omega)).mono ?_
                rintro e w' ⟨rfl, rfl⟩
                rw [HLAST.out]
                go_wp2_with fail
                refine (awake_any _).mono ?_
                rintro e w1 ⟨rfl, hb⟩
                go_wp2_with fail
                go_ret
                exact ⟨rfl, bel_call (below_drewN HBel.out m) hb⟩
end Go.Proofs.Yticapkhpjdfhgaa.loadG
