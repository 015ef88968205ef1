/- Layer 24: the law on shares, where counts may be. -/
import Derived.Test.YtiagepmfajpbpaaLoadN
import Derived.Test.YtiagepmfajpbpaaQuiet
import Derived.StillTailTactics
namespace Go.Proofs.Ytiagepmfajpbpaa.loadP
open Go.ChangeShapes Go.WideShapes Go.ChangeAt Go.RowKit
open Go.Proofs.Ytiagepmfajpbpaa.base Go.Proofs.Ytiagepmfajpbpaa.loadA Go.Proofs.Ytiagepmfajpbpaa.loadB Go.Proofs.Ytiagepmfajpbpaa.loadC Go.Proofs.Ytiagepmfajpbpaa.loadD Go.Proofs.Ytiagepmfajpbpaa.loadL Go.Proofs.Ytiagepmfajpbpaa.loadM Go.Proofs.Ytiagepmfajpbpaa.loadN
set_option linter.unusedVariables false

set_option maxRecDepth 100000 in
set_option maxHeartbeats 40000000 in
theorem shares_under (A B : Option Addr) (n c m d : Nat) (xs ys : List Int) (f : Int) (w : World) (hl : xs.length = n) (al : ys.length = m) (hr : Row w w.heap.size A (xs.map (.int .i64))) (ar : Row w w.heap.size B (ys.map (.int .i64)))
    (hn : n ≤ 9223372036854775807) (hm : m ≤ 9223372036854775807) (hp : rightP xs ys f) (hs : sumF (heaZ xs ys f) n ≤ 10000) :
    Calls Try.prog 3 #[.slice A n c, .slice B m d, .int .i64 f] w fun e w' => e = .returned (.bool true) ∧ Below w.heap.size w w' := by
  obtain ⟨p1, p2, p3, p4, p5⟩ := id hp
  obtain ⟨i0, hi0, hz0, hz1, hz2⟩ := info_parts info_int
  have hmk := fun (W : World) => run_make_one (P := Try.prog) 22 3 i0 _ Try.underlying22 hi0 hz0 hz1 rfl .i64 .i64 (n : Int) (by omega) (by rw [hz2]; omega) (by omega) W
  have HMK := Lib.hid hmk
  have HO := Lib.hid (of_yes A B n c m d xs ys f w hl al hr ar hp)
  have HRY := Lib.hid (fun w hr ar => right_yes A B n c m d xs ys f w hl al hr ar hp)
  have HLY := Lib.hid (fun w hr ar => lawright_yes A B n c m d xs ys f w hl al hr ar hn hm hp)
  have HAW := Lib.hid Go.Proofs.Ytiagepmfajpbpaa.loadE.awake_any
  have HF := Lib.hid (facts xs ys n f hl hp)
  have HOK := Lib.hid (show ∀ i, i < n → 0 ≤ xs.getD i 0 ∧ xs.getD i 0 ≤ ys.getD i 0 ∧ ys.getD i 0 ≤ 1048576 from fun i hi => by
    have := p5 i (by rw [hl]; exact hi)
    simpa [okp] using this)
  have HLH := Lib.hid (show ∀ i, i < n → ∀ w : World, Calls Try.prog 14 #[.int .i64 (xs.getD i 0), .int .i64 (ys.getD i 0), .int .i64 f] w fun e w' => e = .returned (.int .i64 (heaZ xs ys f i)) ∧ w = w' from fun i hi w => by
    have := p5 i (by rw [hl]; exact hi)
    have ok : 0 ≤ xs.getD i 0 ∧ xs.getD i 0 ≤ ys.getD i 0 ∧ ys.getD i 0 ≤ 1048576 := by simpa [okp] using this
    exact lawhealth_any _ _ _ (by omega) (by omega) (by omega) w)
  have HH := Lib.hid hl
  have HA := Lib.hid al
  have R1 := Lib.hid hr
  have R2 := Lib.hid ar
  have HPL := Lib.hid (place_step xs)
  have HPI := Lib.hid (place_in xs)
  have hp0 : placeZ (firstP xs 0) = -1 := rfl
  have HP0 := Lib.hid hp0
  have n4 : n ≤ 4 := by omega
  obtain rfl : m = n := by omega
  have hcap : capZ (sumF (heaZ xs ys f) m) = sumF (heaZ xs ys f) m := by
    have := sumF_mono (heaZ xs ys f) (fun i => (healthZ_in _ _ _).1) 0 m
    rw [Nat.zero_add] at this
    have e0 : sumF (heaZ xs ys f) 0 = 0 := rfl
    unfold capZ
    omega
  rw [hcap] at HO HF
  have HSS := Lib.hid hs
  clear hl al hr ar hp hn hm hmk hz0 hz1 hz2 hi0 p1 p2 p5 hp0 hcap hs
  generalize hvv : ofZ xs m (sumF (heaZ xs ys f) m) (heaZ xs ys f) = v at *
  clear hvv
  generalize heaZ xs ys f = h at *
  go_enter Try.func3, Try.ntmps3
  go_wp2_with fail
  refine HO.out.mono ?_
  rintro e w1 ⟨g, rfl, hg, hblk, hbel⟩
  have HB1 := Lib.hid hbel
  have hs1 := hbel.size
  have gl := hblk.lt
  have HG := Lib.hid hblk
  clear hblk hbel
  go_wp2_with fail
  refine (HRY.out _ ((R1.out.below HB1.out).more hs1) ((R2.out.below HB1.out).more hs1)).mono ?_
  rintro e w2 ⟨rfl, hb⟩
  have HB2 := Lib.hid hb
  clear hb
  go_wp2_with fail
  have HC2 := Lib.hid (bel_call HB1.out HB2.out)
  refine (HLY.out _ ((R1.out.below HC2.out).more HC2.out.size) ((R2.out.below HC2.out).more HC2.out.size)).mono ?_
  rintro e w3 ⟨rfl, hb⟩
  have HB3 := Lib.hid (bel_call HB2.out hb)
  clear hb
  go_wp2_with fail
  have HC3 := Lib.hid (bel_call HB1.out HB3.out)
  refine (HLY.out _ ((R1.out.below HC3.out).more HC3.out.size) ((R2.out.below HC3.out).more HC3.out.size)).mono ?_
  rintro e w4 ⟨rfl, hb⟩
  have HB4 := Lib.hid (bel_call HB3.out hb)
  clear hb HB2 HB3 HC2 HC3
  have S1 := Lib.hid (R1.out.below HB1.out)
  have S2 := Lib.hid (R2.out.below HB1.out)
  go_wp2_with fail
  go_loopw [8, 9, 10] (fun t s i wr => ∃ k : Nat, k ≤ m ∧ i = .int .i64 k ∧ t = .int .i64 (sumF h k) ∧ s = .int .i64 (placeZ (firstP xs k)) ∧ Below w1.heap.size w1 wr) (fun _ _ i _ => m - (intOf i).toNat)
  case atStart => exact ⟨0, by omega, rfl, rfl, by rw [HP0.out], HB4.out⟩
  case round =>
    obtain ⟨k, hk, rfl, rfl, rfl, hbel⟩ := hrel
    have hsum := sumF_in h 10000 HF.out.hin k
    have hsum2 : sumF h k ≤ 40000 := by have : (k : Int) * 10000 ≤ 4 * 10000 := by omega
                                        omega
    have hsum1 := hsum.1
    have hpi := HPI.out k
    clear hsum
    by_cases hlt : k < m
    · obtain ⟨b, off, rfl, _, hc⟩ := row_get ((S1.out.below (hbel.mono hs1)).more (Nat.le_trans hs1 hbel.size)) (by rw [HH.out]; omega)
      obtain ⟨b2, off2, rfl, _, hc2⟩ := row_get ((S2.out.below (hbel.mono hs1)).more (Nat.le_trans hs1 hbel.size)) (by rw [HA.out]; omega)
      have c1 := hc k (by rw [HH.out]; exact hlt)
      have c2 := hc2 k (by rw [HA.out]; omega)
      have hin := HF.out.hin k
      have hst : sumF h (k + 1) = sumF h k + h k := rfl
      have HST := Lib.hid hst
      have HPK := Lib.hid (HPL.out k)
      have HBel := Lib.hid hbel
      have HC := Lib.hid (HLH.out k hlt)
      clear hc hc2 hbel hst
      generalize xs.getD k 0 = x at *
      generalize ys.getD k 0 = y at *
      generalize h k = hv at *
      generalize sumF h k = s at *
      generalize placeZ (firstP xs k) = P at *
      have x1 : (0 : Int) ≤ (k : Int) := by omega
      have x2 : (k : Int) < (m : Int) := by omega
      have e1 : IntKind.i64.wrap (s + hv) = s + hv := IntWalk.i64_in _ (by omega)
      go_wp2_with fail
      go_quiet ((go_at_call 14; exact quiet_left (HC.out _)))
      clear e1
      by_cases hx : 0 < x
      · by_cases hP : P < 0
        · rw [if_pos ⟨hx, hP⟩] at HPK
          have q1 : decide (0 < x) = true := by simpa using hx
          have q2 : decide (P < 0) = true := by simpa using hP
          clear hx hP
          go_wp2_with fail
          go_roundw
          case rel => exact ⟨k + 1, by omega, by go_num, by rw [HST.out], by rw [HPK.out], below_drewN HBel.out _⟩
          case measure => simp [intOf]; omega
        · rw [if_neg (fun h => hP h.2)] at HPK
          have q1 : decide (0 < x) = true := by simpa using hx
          have q2 : decide (P < 0) = false := by simpa using hP
          clear hx hP
          go_wp2_with fail
          go_roundw
          case rel => exact ⟨k + 1, by omega, by go_num, by rw [HST.out], by rw [HPK.out], below_drewN HBel.out _⟩
          case measure => simp [intOf]; omega
      · rw [if_neg (fun h => hx h.1)] at HPK
        have q1 : decide (0 < x) = false := by simpa using hx
        clear hx
        go_wp2_with fail
        go_roundw
        case rel => exact ⟨k + 1, by omega, by go_num, by rw [HST.out], by rw [HPK.out], below_drewN HBel.out _⟩
        case measure => simp [intOf]; omega
    · obtain rfl : k = m := by omega
      have hss := HSS.out
      have HBel := Lib.hid hbel
      have hs4 := hbel.size
      clear hbel HPL HPI HP0 HRY HLY hpi
      generalize placeZ (firstP xs k) = P at *
      have hpin := HF.out.pin
      have hS0 : 0 ≤ sumF h k := hsum1
      generalize sumF h k = S at *
      have hmk := HMK.out
      have qs : decide (10000 < S) = false := by simp; omega
      go_wp2_with fail
      clear hmk
      obtain ⟨wa, rfl⟩ : ∃ wa, wa = wr := ⟨_, rfl⟩
      go_loopw [11, 15, 16, 17] (fun t i _ _ wq => ∃ j : Nat, j ≤ k ∧ i = .int .i64 j ∧ t = .int .i64 (leftZ S h j) ∧ Blk wq wa.heap.size 3 (tab k fun i => if i < j then partZ S (h i) (leftZ S h i) else 0) ∧ Below w1.heap.size w1 wq) (fun _ i _ _ _ => k - (intOf i).toNat)
      case atStart => exact ⟨0, by omega, rfl, rfl, by have := Blk.new wa 3 (zeros k (.int .i64 0)); simpa [tab_zero] using this, HBel.out.alloc hs4 _⟩
      case round =>
        obtain ⟨j, hj, rfl, rfl, hb2, hbel⟩ := hrel
        have hleft := left_in S h j
        by_cases hlt : j < k
        · obtain ⟨b, off, rfl, _, hc⟩ := row_get ((S1.out.below (hbel.mono hs1)).more (Nat.le_trans hs1 hbel.size)) (by rw [HH.out]; omega)
          obtain ⟨b2, off2, rfl, _, hc2⟩ := row_get ((S2.out.below (hbel.mono hs1)).more (Nat.le_trans hs1 hbel.size)) (by rw [HA.out]; omega)
          have c1 := hc j (by rw [HH.out]; exact hlt)
          have c2 := hc2 j (by rw [HA.out]; omega)
          have c3 : wr.cell? ⟨wa.heap.size, j, none⟩ = some (.int .i64 0) := by rw [hb2.cell j, tab_get _ _ _ hlt]; simp
          have c4 : wr.frozen? ⟨wa.heap.size, j, none⟩ = false := hb2.frozen j
          have hin := HF.out.hin j
          have hp0 := part_in S (h j) (leftZ S h j) hleft.1
          have HB2 := Lib.hid hb2
          have HBel2 := Lib.hid hbel
          have hst : leftZ S h (j + 1) = leftZ S h j - partZ S (h j) (leftZ S h j) := rfl
          have HST := Lib.hid hst
          have HC := Lib.hid (HLH.out j hlt)
          have hpart : partZ S (h j) (leftZ S h j) = if 0 < S then (if leftZ S h j < h j * 10000 / S then leftZ S h j else h j * 10000 / S) else 0 := by
            unfold partZ
            by_cases g0 : 0 < S
            · rw [if_pos g0, if_pos g0]
              have : 0 ≤ h j * 10000 / S := Int.ediv_nonneg (by omega) (by omega)
              generalize h j * 10000 / S = q at *
              split <;> omega
            · rw [if_neg g0, if_neg g0]
          have HPART := Lib.hid hpart
          clear hb2 hbel hst hc hc2 hpart
          generalize xs.getD j 0 = x at *
          generalize ys.getD j 0 = y at *
          generalize hp : partZ S (h j) (leftZ S h j) = p at *
          have HPV := Lib.hid hp
          clear hp
          generalize hv : h j = u at *
          have HV := Lib.hid hv
          clear hv
          generalize hlf : leftZ S h j = left at *
          have HLF := Lib.hid hlf
          clear hlf
          have x1 : (0 : Int) ≤ (j : Int) := by omega
          have x2 : (j : Int) < (k : Int) := by omega
          have HREL := Lib.hid (show ∀ wr' : World, Blk wr' wa.heap.size 3 (tab k fun i => if i < j then partZ S (h i) (leftZ S h i) else 0) → Blk (wr'.setCell ⟨wa.heap.size, j, none⟩ (.int .i64 p)) wa.heap.size 3 (tab k fun i => if i < j + 1 then partZ S (h i) (leftZ S h i) else 0) from fun wr' hb => by
            have hnew := hb.set_ j (.int .i64 p)
            rw [tab_set] at hnew
            rw [tab_congr (g' := fun i => if i = j then p else if i < j then partZ S (h i) (leftZ S h i) else 0) (fun i hi => by
              by_cases hij : i = j
              · subst hij; rw [if_pos (by omega), if_pos rfl, HV.out, HLF.out]; exact HPV.out
              · rw [if_neg hij]; by_cases h3 : i < j
                · rw [if_pos h3, if_pos (by omega)]
                · rw [if_neg h3, if_neg (by omega)])]
            exact hnew)
          go_wp2_with fail
          go_quiet ((go_at_call 14; exact quiet_left (HC.out _)))
          by_cases hSp : 0 < S
          · have hp2 := HPART.out
            rw [if_pos hSp] at hp2
            have hq0 : 0 ≤ u * 10000 / S := Int.ediv_nonneg (by omega) (by omega)
            have hq1 : u * 10000 / S ≤ u * 10000 := Int.ediv_le_self _ (by omega)
            have hqu : u * 10000 ≤ 100000000 := by omega
            have hq2 : u * 10000 / S ≤ 100000000 := Int.le_trans hq1 hqu
            clear hq1
            by_cases hlq : left < u * 10000 / S
            · rw [if_pos hlq] at hp2
              subst hp2
              go_wp2_with fail
              go_roundw
              case rel => exact ⟨j + 1, by omega, by go_num, by (first | (rw [HST.out]; done) | (rw [HST.out]; go_num)), by first | exact HREL.out _ (HB2.out.drewN _) | exact HREL.out _ HB2.out, bel_set (below_drewN HBel2.out _) (by simp; omega) _⟩
              case measure => simp [intOf]; omega
            · rw [if_neg hlq] at hp2
              subst hp2
              go_wp2_with fail
              go_roundw
              case rel => exact ⟨j + 1, by omega, by go_num, by (first | (rw [HST.out]; done) | (rw [HST.out]; go_num)), by first | exact HREL.out _ (HB2.out.drewN _) | exact HREL.out _ HB2.out, bel_set (below_drewN HBel2.out _) (by simp; omega) _⟩
              case measure => simp [intOf]; omega
          · have hp2 := HPART.out
            rw [if_neg hSp] at hp2
            subst hp2
            go_wp2_with fail
            go_roundw
            case rel => exact ⟨j + 1, by omega, by go_num, by (first | (rw [HST.out]; done) | (rw [HST.out]; go_num)), by first | exact HREL.out _ (HB2.out.drewN _) | exact HREL.out _ HB2.out, bel_set (below_drewN HBel2.out _) (by simp; omega) _⟩
            case measure => simp [intOf]; omega
        · obtain rfl : j = k := by omega
          rw [tab_congr (g' := fun i => partZ S (h i) (leftZ S h i)) (fun i hi => by rw [if_pos hi])] at hb2
          have HB2 := Lib.hid hb2
          have HBel2 := Lib.hid hbel
          have lg : wa.heap.size < wr.heap.size := hb2.lt
          clear hb2 hbel
          have hL := hleft
          clear hleft
          generalize hLd : leftZ S h j = L at *
          have HLD := Lib.hid hLd
          clear hLd
          go_wp2_with fail
          obtain ⟨wb, rfl⟩ : ∃ wb, wb = wr := ⟨_, rfl⟩
          go_loopw [12, 13, 18, 19] (fun a s i _ wq => ∃ i' : Nat, i' ≤ j ∧ i = .int .i64 i' ∧ a = .int .i64 (sumF h i') ∧ s = .int .i64 (sumF v i') ∧ Below wb.heap.size wb wq) (fun _ _ i _ _ => j - (intOf i).toNat)
          case atStart => exact ⟨0, by omega, rfl, rfl, rfl, Below.refl _ _⟩
          case round =>
            obtain ⟨r, hr, rfl, rfl, rfl, hbw⟩ := hrel
            have hB5 := bel_call HBel2.out hbw
            have hsv := sumF_in v 20000 HF.out.part r
            have hsv2 : sumF v r ≤ 80000 := by have : (r : Int) * 20000 ≤ 4 * 20000 := by omega
                                               omega
            have hsv1 := hsv.1
            have hsh := sumF_in h 10000 HF.out.hin r
            have hsh2 : sumF h r ≤ 40000 := by have : (r : Int) * 10000 ≤ 4 * 10000 := by omega
                                               omega
            have hsh1 := hsh.1
            clear hsv hsh
            by_cases hlt : r < j
            · obtain ⟨b, off, rfl, _, hc⟩ := row_get ((S1.out.below (hB5.mono hs1)).more (Nat.le_trans hs1 hB5.size)) (by rw [HH.out]; omega)
              obtain ⟨b2, off2, rfl, _, hc2⟩ := row_get ((S2.out.below (hB5.mono hs1)).more (Nat.le_trans hs1 hB5.size)) (by rw [HA.out]; omega)
              have c1 := hc r (by rw [HH.out]; exact hlt)
              have c2 := hc2 r (by rw [HA.out]; omega)
              have c3 : wr.cell? ⟨wa.heap.size, r, none⟩ = some (.int .i64 (partZ S (h r) (leftZ S h r))) := by rw [(HB2.out.below hbw lg).cell r, tab_get _ _ _ hlt]
              have c5 : wr.cell? ⟨g, r, none⟩ = some (.int .i64 (v r)) := by rw [(HG.out.below hB5 gl).cell r, tab_get _ _ _ hlt]
              have hin := HF.out.hin r
              have hpv := HF.out.part r
              have hleft := left_in S h r
              have hp0 := part_in S (h r) (leftZ S h r) hleft.1
              have hval := HF.out.val r
              have hb0 := HF.out.bare r hlt
              have hb1 := HF.out.behind r hlt
              have HST1 := Lib.hid (show sumF h (r + 1) = sumF h r + h r from rfl)
              have HST2 := Lib.hid (show sumF v (r + 1) = sumF v r + v r from rfl)
              have HC := Lib.hid (HLH.out r hlt)
              have HBW := Lib.hid hbw
              clear hc hc2 hbw hB5
              rw [HLD.out] at hval
              generalize xs.getD r 0 = x at *
              generalize ys.getD r 0 = y at *
              generalize partZ S (h r) (leftZ S h r) = p at *
              generalize leftZ S h r = left at *
              generalize h r = u at *
              generalize v r = V at *
              generalize sumF h r = s at *
              generalize sumF v r = t at *
              have x1 : (0 : Int) ≤ (r : Int) := by omega
              have x2 : (r : Int) < (j : Int) := by omega
              have e1 : IntKind.i64.wrap (s + u) = s + u := IntWalk.i64_in _ (by omega)
              have HV0 := Lib.hid hb0
              have HV1 := Lib.hid hb1
              clear hb0 hb1
              have hcases : (((r : Int) = P ∧ V = p + L) ∨ (¬ (r : Int) = P ∧ V = p)) ∧ (x = 0 ∧ V = 0 ∨ ¬ x = 0) ∧ (10000 ≤ s ∧ V = 0 ∨ s < 10000) := by
                refine ⟨?_, ?_, ?_⟩
                · by_cases g : (r : Int) = P
                  · rw [if_pos g] at hval; exact .inl ⟨g, hval⟩
                  · rw [if_neg g, Int.add_zero] at hval; exact .inr ⟨g, hval⟩
                · by_cases g : x = 0
                  · exact .inl ⟨g, HV0.out g⟩
                  · exact .inr g
                · by_cases g : 10000 ≤ s
                  · exact .inl ⟨g, HV1.out g⟩
                  · exact .inr (by omega)
              clear hval HV0 HV1
              obtain ⟨ha, hb, hd⟩ := hcases
              rcases ha with ⟨ha, rfl⟩ | ⟨ha, rfl⟩
              all_goals
                first
                  | have q1 : ((r : Int) == P) = true := by simpa using ha
                  | have q1 : ((r : Int) == P) = false := by simpa using ha
                clear ha
                rcases hb with ⟨hb, hb'⟩ | hb
                all_goals
                  rcases hd with ⟨hd, hd'⟩ | hd
                  all_goals
                    first
                      | (have q2 : (x == 0) = true := by simpa using hb)
                      | (have q2 : (x == 0) = false := by simpa using hb)
                    first
                      | (have q3 : decide (10000 ≤ s) = true := by simpa using hd)
                      | (have q3 : decide (10000 ≤ s) = false := by simp; omega)
                    clear hb hd
                    first
                      | (have z2 := bne_zero hb'; clear hb'; try clear hd')
                      | (have z2 := bne_zero hd'; clear hd')
                      | skip
                    go_wp2_with fail
                    go_quiet ((go_at_call 14; exact quiet_left (HC.out _)))
                    clear e1
                    go_wp2_with fail
                    go_roundw
                    case rel => exact ⟨r + 1, by omega, by go_num, by rw [HST1.out], by rw [HST2.out], below_drewN HBW.out _⟩
                    case measure => simp [intOf]; omega
            · obtain rfl : r = j := by omega
              have HB5 := Lib.hid hB5
              have hno := HF.out.none
              have hal := HF.out.all
              have hfi := HF.out.first
              by_cases hP : P < 0
              · have hz := hno hP
                clear hno hal hfi hbw hB5
                rw [hz]
                have q1 : decide (P < 0) = true := by simpa using hP
                go_wp2_with fail
                refine (HAW.out _).mono ?_
                rintro e w9 ⟨rfl, hb9⟩
                go_wp2_with fail
                go_ret
                exact ⟨rfl, bel_call HB1.out (bel_call HB5.out hb9)⟩
              · have hz := hal (by omega)
                have h0 : 0 < r := by omega
                have hf := hfi h0
                rw [hz]
                obtain ⟨b, off, rfl, _, hc⟩ := row_get ((S1.out.below (hB5.mono hs1)).more (Nat.le_trans hs1 hB5.size)) (by rw [HH.out]; omega)
                obtain ⟨b2, off2, rfl, _, hc2⟩ := row_get ((S2.out.below (hB5.mono hs1)).more (Nat.le_trans hs1 hB5.size)) (by rw [HA.out]; omega)
                have c1 := hc 0 (by rw [HH.out]; exact h0)
                have c2 := hc2 0 (by rw [HA.out]; omega)
                rw [Nat.add_zero] at c1 c2
                have c5 : wr.cell? ⟨g, 0, none⟩ = some (.int .i64 (v 0)) := by rw [(HG.out.below hB5 gl).cell 0, tab_get _ _ _ h0]
                have ok := HOK.out 0 h0
                clear hno hal hfi hbw hB5 hc hc2 hz
                generalize xs.getD 0 0 = x at *
                generalize ys.getD 0 0 = y at *
                generalize v 0 = V at *
                obtain ⟨o1, o2, o3⟩ := ok
                have q1 : decide (P < 0) = false := by simpa using hP
                have x0 : 0 ≤ f * x := Int.mul_nonneg (by omega) o1
                have x3 : f * x ≤ 1000 * 1048576 := Int.mul_le_mul p4 (by omega) o1 (by omega)
                have e1 : IntKind.i64.wrap (f * x) = f * x := IntWalk.i64_in _ (by omega)
                have e2 : IntKind.i64.wrap (100 * y) = 100 * y := IntWalk.i64_in _ (by omega)
                have h0I : (0 : Int) < (r : Int) := by omega
                have hcs : f * x < 100 * y ∨ (¬ f * x < 100 * y ∧ x = 0) ∨ (¬ f * x < 100 * y ∧ ¬ x = 0 ∧ V = 10000) := by
                  by_cases g1 : f * x < 100 * y
                  · exact .inl g1
                  · by_cases g2 : x = 0
                    · exact .inr (.inl ⟨g1, g2⟩)
                    · rcases hf with h | h | h
                      · exact absurd h g1
                      · exact absurd h g2
                      · exact .inr (.inr ⟨g1, g2, h⟩)
                clear hf
                have HK := Lib.hid (show Below w1.heap.size w1 wr.drew ∧ wr.drew.cell? ⟨b, off, none⟩ = some (.int .i64 x) ∧ wr.drew.cell? ⟨b2, off2, none⟩ = some (.int .i64 y) ∧ wr.drew.cell? ⟨g, 0, none⟩ = some (.int .i64 V) from ⟨HB5.out.drew, c1, c2, c5⟩)
                rcases hcs with g1 | ⟨g1, g2⟩ | ⟨g1, g2, g3⟩
                · have q2 : decide (f * x < 100 * y) = true := by simpa using g1
                  clear g1
                  go_wp2_with fail
                  go_still_tail 27, (by kernel_rfl)
                  change wpList _ _ _ _ _ wr.drew
                  have HBD := Lib.hid HB5.out.drew
                  generalize wr.drew = wz at *
                  go_wp2_with fail
                  refine (HAW.out _).mono ?_
                  rintro e w9 ⟨rfl, hb9⟩
                  go_wp2_with fail
                  go_ret
                  exact ⟨rfl, bel_call HB1.out (bel_call HBD.out hb9)⟩
                · subst g2
                  obtain rfl : y = 0 := by simp at g1; omega
                  clear g1 e1 e2 x0 x3
                  have z1 : IntKind.i64.wrap (f * 0) = 0 := by rw [Int.mul_zero]; rfl
                  have z2 : IntKind.i64.wrap 0 = 0 := rfl
                  have z3 : IntKind.i64.wrap (100 * 0) = 0 := rfl
                  go_wp2_with fail
                  go_still_tail 27, (by kernel_rfl)
                  change wpList _ _ _ _ _ wr.drew
                  have HBD := Lib.hid HB5.out.drew
                  generalize wr.drew = wz at *
                  go_wp2_with fail
                  refine (HAW.out _).mono ?_
                  rintro e w9 ⟨rfl, hb9⟩
                  go_wp2_with fail
                  go_ret
                  exact ⟨rfl, bel_call HB1.out (bel_call HBD.out hb9)⟩
                · have q2 : decide (f * x < 100 * y) = false := by simp; omega
                  have q3 : (x == 0) = false := by simpa using g2
                  have q4 : (V == 10000) = true := by simpa using g3
                  clear g1 g2 g3
                  go_wp2_with fail
                  go_region_held3 (fun w' => w'.cell? ⟨b, off, none⟩ = some (.int .i64 x) ∧ w'.cell? ⟨b2, off2, none⟩ = some (.int .i64 y) ∧ w'.cell? ⟨g, 0, none⟩ = some (.int .i64 V)) (first | assumption | exact HK9.out | exact HK.out.2) (first | (go_at_call 13; refine (HAW.out _).mono ?_; rintro e w9 ⟨rfl, hb9⟩; have HB9 := Lib.hid hb9; have HK9 := Lib.hid (keep3 HK.out.2 hb9); clear hb9))
                  go_wp2_with fail
                  go_ret
                  exact ⟨rfl, bel_call HB1.out (bel_call HB5.out.drew HB9.out)⟩
end Go.Proofs.Ytiagepmfajpbpaa.loadP
