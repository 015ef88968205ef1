/- Layer 24: the law on lists turned, walked. -/
import Derived.Test.YticapkhpjdfhgaaLoadJ
namespace Go.Proofs.Yticapkhpjdfhgaa.loadK
open Go.ChangeShapes Go.WideShapes Go.ChangeAt Go.RowKit
open Go.Proofs.Yticapkhpjdfhgaa.base Go.Proofs.Yticapkhpjdfhgaa.loadC Go.Proofs.Yticapkhpjdfhgaa.loadH Go.Proofs.Yticapkhpjdfhgaa.loadI Go.Proofs.Yticapkhpjdfhgaa.loadJ
set_option linter.unusedVariables false

set_option maxRecDepth 100000 in
set_option maxHeartbeats 2000000 in
theorem small_same (A : Option Addr) (n c : Nat) (l : List Int) (f : Int) (v : Int) (w : World) (hl : l.length = n) (hn : n ≤ 40) (hnc : n ≤ c) (hcm : c ≤ 9223372036854775807) (hr : Row w w.heap.size A (l.map (.int .i64))) (hz : A = none → c = 0) (f0 : -9223372036854775808 ≤ f) (f1 : f < 9223372036854775808) (hf : f < 0 ∨ (n : Int) ≤ f) (v0 : -9223372036854775808 ≤ v) (v1 : v < 9223372036854775808) :
    Calls Try.prog 6 #[.slice A n c, .int .i64 f, .int .i64 v] w fun e w' => e = .returned (.bool true) ∧ Below w.heap.size w w' := by
  have HT : Hid (Calls Try.prog 22 #[.slice A n c, .int .i64 f] w (ClonePost w n (l))) := Lib.hid (turn_same A n c l f w hl (by omega) hz hr hf)
  have HAW := Lib.hid Go.Proofs.Yticapkhpjdfhgaa.loadE.awake_any
  have R1 := Lib.hid hr
  have LL := Lib.hid hl
  clear hr hl
  have hd0 : decide ((40 : Int) < (n : Int)) = false := by simp; omega
  rcases hf with hf | hf
  all_goals
    go_enter Try.func6, Try.ntmps6
    go_wp2_with fail
    refine HT.out.mono ?_
    rintro e w3 ⟨x, rfl, hown, hbel, hsz⟩
    obtain ⟨A3, c3, rfl⟩ := own_slice hown
    have RX := Lib.hid (own_row hown)
    have HB := Lib.hid hbel
    have LY := Lib.hid (show (l).length = n by have := hown.1; simpa using this)
    have R13 := Lib.hid (R1.out.below hbel)
    clear hown hbel
    go_wp2_with fail
    go_loopw [8] (fun i wr => ∃ j : Nat, j ≤ n ∧ i = .int .i64 j ∧ Below w3.heap.size w3 wr) (fun i _ => n - (intOf i).toNat)
    case atStart => exact ⟨0, by omega, rfl, Below.refl _ _⟩
    case round =>
      obtain ⟨j, hj, rfl, hbw⟩ := hrel
      have HBW := Lib.hid hbw
      by_cases hlt : j < n
      · have hjl : j < l.length := by rw [LL.out]; exact hlt
        have hys : l.getD j 0 = l.getD j 0 := rfl
        have hKn : j < n := by omega
        have hbk : backZ (j : Int) f (n : Nat) = (j : Int) := by
          unfold backZ
          rw [if_pos (by omega)]
        have hc1 := (R13.out.below (hbw.mono hsz))
        obtain ⟨b1, off1, hA1, hb1, hcc1⟩ := hc1.at_ (by intro h; simp at h; rw [h] at hjl; simp at hjl)
        obtain ⟨b3, off3, hA3, hb3, hcc3⟩ := (RX.out.below hbw).at_ (by intro h; have := congrArg List.length h; rw [List.length_map, LY.out] at this; simp at this <;> omega)
        obtain rfl := hA3
        obtain rfl := hA1
        have g1 : wr.cell? ⟨b1, off1 + j, none⟩ = some (.int .i64 (l.getD j 0)) := hcc1 j _ (by rw [List.getElem?_map, List.getElem?_eq_getElem (by rw [LL.out]; exact hKn), List.getD_eq_getElem?_getD, List.getElem?_eq_getElem (by rw [LL.out]; exact hKn)]; rfl)
        have g3 : wr.cell? ⟨b3, off3 + j, none⟩ = some (.int .i64 (l.getD j 0)) := hcc3 j _ (by rw [List.getElem?_map, ← hys, List.getD_eq_getElem?_getD, List.getElem?_eq_getElem (by rw [LY.out]; exact hlt)]; rfl)
        clear hcc1 hcc3 hys hbw hjl
        generalize l.getD j 0 = y at *
        have kI : (j : Int) < (n : Int) := by omega
        have kI0 : (0 : Int) ≤ (j : Int) := by omega
        have jI : (j : Int) < (n : Int) := by omega
        have jI0 : (0 : Int) ≤ (j : Int) := by omega
        have o2 : (y != y) = false := by simp
        have HBK := Lib.hid (fun w => back_any (j : Int) f n (by omega) (by omega) (by omega) w)
        rw [hbk] at HBK
        clear hbk
        go_wp2_with fail
        have HS3 := Lib.hid (show Below w3.heap.size w3 wr.drew ∧ wr.drew.cell? ⟨b1, off1 + j, none⟩ = some (.int .i64 y) ∧ wr.drew.cell? ⟨b3, off3 + j, none⟩ = some (.int .i64 y) from ⟨HBW.out.drew, g1, g3⟩)
        go_region_held3 (fun w' => Below w3.heap.size w3 w' ∧ w'.cell? ⟨b1, off1 + j, none⟩ = some (.int .i64 y) ∧ w'.cell? ⟨b3, off3 + j, none⟩ = some (.int .i64 y)) (first | assumption | exact HS3.out) (first | (go_at_call 23; refine (HBK.out _).mono ?_; rintro e w' ⟨rfl, rfl⟩))
        go_wp2_with fail
        go_roundw
        case rel => exact ⟨j + 1, by omega, by go_num, HBW.out.drew⟩
        case measure => simp [intOf]; omega
      · obtain rfl : n = j := by omega
        clear hbw
        by_cases w1 : v < 0
        · have HBV := Lib.hid (fun w => back_any v f n (by omega) v0 v1 w)
          rw [show backZ v f (n : Nat) = v by unfold backZ; rw [if_pos (by omega)]] at HBV
          have o3 : (v == v) = true := by simp
          go_wp2_with fail
          refine (HBV.out _).mono ?_
          rintro e w' ⟨rfl, rfl⟩
          go_wp2_with fail
          refine (HAW.out _).mono ?_
          rintro e w5 ⟨rfl, hb5⟩
          go_wp2_with fail
          go_ret
          exact ⟨rfl, bel_call (bel_call HB.out HBW.out) hb5⟩
        by_cases w2 : (n : Int) ≤ v
        · have HBV := Lib.hid (fun w => back_any v f n (by omega) v0 v1 w)
          rw [show backZ v f (n : Nat) = v by unfold backZ; rw [if_pos (by omega)]] at HBV
          have o3 : (v == v) = true := by simp
          go_wp2_with fail
          refine (HBV.out _).mono ?_
          rintro e w' ⟨rfl, rfl⟩
          go_wp2_with fail
          refine (HAW.out _).mono ?_
          rintro e w5 ⟨rfl, hb5⟩
          go_wp2_with fail
          go_ret
          exact ⟨rfl, bel_call (bel_call HB.out HBW.out) hb5⟩
        go_wp2_with fail
        refine (HAW.out _).mono ?_
        rintro e w5 ⟨rfl, hb5⟩
        go_wp2_with fail
        go_ret
        exact ⟨rfl, bel_call (bel_call HB.out HBW.out) hb5⟩
set_option maxRecDepth 100000 in
set_option maxHeartbeats 2000000 in
theorem small_far (b off : Nat) (n c : Nat) (l : List Int) (q : Nat) (v : Int) (w : World) (hl : l.length = n) (hn : n ≤ 40) (hnc : n ≤ c) (hcm : c ≤ 9223372036854775807) (hr : Row w w.heap.size (some ⟨b, off, none⟩) (l.map (.int .i64))) (hbl : b < w.heap.size) (hq : q < n) (v0 : -9223372036854775808 ≤ v) (v1 : v < 9223372036854775808) :
    Calls Try.prog 6 #[.slice (some ⟨b, off, none⟩) n c, .int .i64 (q : Int), .int .i64 v] w fun e w' => e = .returned (.bool true) ∧ Below w.heap.size w w' := by
  have HT : Hid (Calls Try.prog 22 #[.slice (some ⟨b, off, none⟩) n c, .int .i64 (q : Int)] w (ClonePost w n (l.drop q ++ l.take q))) := Lib.hid (turn_far b off n c l q w hl (by omega) (by omega) hcm hr hbl hq)
  have HAW := Lib.hid Go.Proofs.Yticapkhpjdfhgaa.loadE.awake_any
  have R1 := Lib.hid hr
  have LL := Lib.hid hl
  clear hr hl
  have hd0 : decide ((40 : Int) < (n : Int)) = false := by simp; omega
  go_enter Try.func6, Try.ntmps6
  go_wp2_with fail
  refine HT.out.mono ?_
  rintro e w3 ⟨x, rfl, hown, hbel, hsz⟩
  obtain ⟨A3, c3, rfl⟩ := own_slice hown
  have RX := Lib.hid (own_row hown)
  have HB := Lib.hid hbel
  have LY := Lib.hid (show (l.drop q ++ l.take q).length = n by have := hown.1; simpa using this)
  have R13 := Lib.hid (R1.out.below hbel)
  clear hown hbel
  go_wp2_with fail
  go_loopw [8] (fun i wr => ∃ j : Nat, j ≤ n ∧ i = .int .i64 j ∧ Below w3.heap.size w3 wr) (fun i _ => n - (intOf i).toNat)
  case atStart => exact ⟨0, by omega, rfl, Below.refl _ _⟩
  case round =>
    obtain ⟨j, hj, rfl, hbw⟩ := hrel
    have HBW := Lib.hid hbw
    by_cases hlt : j < n
    · have hjl : j < l.length := by rw [LL.out]; exact hlt
      obtain ⟨K, hK⟩ : ∃ K : Nat, K = (j + q) % n := ⟨_, rfl⟩
      have hK2 : K = if j < n - q then q + j else j - (n - q) := by
        rw [hK]
        split
        · rw [Nat.mod_eq_of_lt (by omega)]; omega
        · rw [Nat.mod_eq_sub_mod (by omega), Nat.mod_eq_of_lt (by omega)]; omega
      have hKn : K < n := by split at hK2 <;> omega
      have hys : (l.drop q ++ l.take q).getD j 0 = l.getD K 0 := by
        have hd : (l.drop q).length = n - q := by rw [List.length_drop, LL.out]
        rw [List.getD_eq_getElem?_getD, List.getD_eq_getElem?_getD]
        by_cases hj2 : j < n - q
        · rw [if_pos hj2] at hK2
          rw [List.getElem?_append_left (by omega), List.getElem?_drop, hK2]
        · rw [if_neg hj2] at hK2
          rw [List.getElem?_append_right (by omega), hd, List.getElem?_take, if_pos (by omega), hK2]
      have hbk : backZ (j : Int) (q : Int) (n : Nat) = (K : Int) := by
        unfold backZ
        split at hK2
        · rw [if_neg (by omega), if_neg (by omega)]; omega
        · rw [if_neg (by omega), if_pos (by omega)]; omega
      have et : ((j : Int) + (q : Int)) % (n : Int) = (K : Int) := by
        first
          | omega
          | (rw [hK, show (j : Int) + (q : Int) = ((j + q : Nat) : Int) by omega]; exact (Int.natCast_emod _ _).symm)
      have HKK := Lib.hid hK
      clear hK hK2
      have hc1 := (R13.out.below (hbw.mono hsz))
      obtain ⟨b1, off1, hA1, hb1, hcc1⟩ := hc1.at_ (by intro h; simp at h; rw [h] at hjl; simp at hjl)
      obtain ⟨b3, off3, hA3, hb3, hcc3⟩ := (RX.out.below hbw).at_ (by intro h; have := congrArg List.length h; rw [List.length_map, LY.out] at this; simp at this <;> omega)
      obtain rfl := hA3
      injection hA1 with hA1; injection hA1 with hA1 hA2; subst hA1 hA2
      have g1 : wr.cell? ⟨b, off + K, none⟩ = some (.int .i64 (l.getD K 0)) := hcc1 K _ (by rw [List.getElem?_map, List.getElem?_eq_getElem (by rw [LL.out]; exact hKn), List.getD_eq_getElem?_getD, List.getElem?_eq_getElem (by rw [LL.out]; exact hKn)]; rfl)
      have g3 : wr.cell? ⟨b3, off3 + j, none⟩ = some (.int .i64 (l.getD K 0)) := hcc3 j _ (by rw [List.getElem?_map, ← hys, List.getD_eq_getElem?_getD, List.getElem?_eq_getElem (by rw [LY.out]; exact hlt)]; rfl)
      clear hcc1 hcc3 hys hbw hjl
      generalize l.getD K 0 = y at *
      have kI : (K : Int) < (n : Int) := by omega
      have kI0 : (0 : Int) ≤ (K : Int) := by omega
      have jI : (j : Int) < (n : Int) := by omega
      have jI0 : (0 : Int) ≤ (j : Int) := by omega
      have o2 : (y != y) = false := by simp
      have HBK := Lib.hid (fun w => back_any (j : Int) (q : Int) n (by omega) (by omega) (by omega) w)
      rw [hbk] at HBK
      clear hbk
      go_wp2_with fail
      have HS3 := Lib.hid (show Below w3.heap.size w3 wr.drew ∧ wr.drew.cell? ⟨b, off + K, none⟩ = some (.int .i64 y) ∧ wr.drew.cell? ⟨b3, off3 + j, none⟩ = some (.int .i64 y) from ⟨HBW.out.drew, g1, g3⟩)
      go_region_held3 (fun w' => Below w3.heap.size w3 w' ∧ w'.cell? ⟨b, off + K, none⟩ = some (.int .i64 y) ∧ w'.cell? ⟨b3, off3 + j, none⟩ = some (.int .i64 y)) (first | assumption | exact HS3.out) (first | (go_at_call 23; refine (HBK.out _).mono ?_; rintro e w' ⟨rfl, rfl⟩))
      go_wp2_with fail
      go_roundw
      case rel => exact ⟨j + 1, by omega, by go_num, HBW.out.drew⟩
      case measure => simp [intOf]; omega
    · obtain rfl : n = j := by omega
      clear hbw
      by_cases w1 : v < 0
      · have HBV := Lib.hid (fun w => back_any v (q : Int) n (by omega) v0 v1 w)
        rw [show backZ v (q : Int) (n : Nat) = v by unfold backZ; rw [if_pos (by omega)]] at HBV
        have o3 : (v == v) = true := by simp
        go_wp2_with fail
        refine (HBV.out _).mono ?_
        rintro e w' ⟨rfl, rfl⟩
        go_wp2_with fail
        refine (HAW.out _).mono ?_
        rintro e w5 ⟨rfl, hb5⟩
        go_wp2_with fail
        go_ret
        exact ⟨rfl, bel_call (bel_call HB.out HBW.out) hb5⟩
      by_cases w2 : (n : Int) ≤ v
      · have HBV := Lib.hid (fun w => back_any v (q : Int) n (by omega) v0 v1 w)
        rw [show backZ v (q : Int) (n : Nat) = v by unfold backZ; rw [if_pos (by omega)]] at HBV
        have o3 : (v == v) = true := by simp
        go_wp2_with fail
        refine (HBV.out _).mono ?_
        rintro e w' ⟨rfl, rfl⟩
        go_wp2_with fail
        refine (HAW.out _).mono ?_
        rintro e w5 ⟨rfl, hb5⟩
        go_wp2_with fail
        go_ret
        exact ⟨rfl, bel_call (bel_call HB.out HBW.out) hb5⟩
      go_wp2_with fail
      refine (HAW.out _).mono ?_
      rintro e w5 ⟨rfl, hb5⟩
      go_wp2_with fail
      go_ret
      exact ⟨rfl, bel_call (bel_call HB.out HBW.out) hb5⟩
set_option maxRecDepth 100000 in
set_option maxHeartbeats 2000000 in
theorem big_same (b off : Nat) (n0 c : Nat) (l : List Int) (f : Int) (v : Int) (w : World) (hl : l.length = 40) (hn0 : 40 < n0) (hnc : n0 ≤ c) (hcm : c ≤ 9223372036854775807) (hr : Row w w.heap.size (some ⟨b, off, none⟩) (l.map (.int .i64))) (hbl : b < w.heap.size) (f0 : -9223372036854775808 ≤ f) (f1 : f < 9223372036854775808) (hf : f < 0 ∨ (40 : Int) ≤ f) (v0 : -9223372036854775808 ≤ v) (v1 : v < 9223372036854775808) :
    Calls Try.prog 6 #[.slice (some ⟨b, off, none⟩) n0 c, .int .i64 f, .int .i64 v] w fun e w' => e = .returned (.bool true) ∧ Below w.heap.size w w' := by
  have HT : Hid (Calls Try.prog 22 #[.slice (some ⟨b, off, none⟩) 40 c, .int .i64 f] w (ClonePost w 40 (l))) := Lib.hid (turn_same (some ⟨b, off, none⟩) 40 c l f w hl (by omega) (by intro h; cases h) hr hf)
  have HAW := Lib.hid Go.Proofs.Yticapkhpjdfhgaa.loadE.awake_any
  have R1 := Lib.hid hr
  have LL := Lib.hid hl
  clear hr hl
  have hd0 : decide ((40 : Int) < (n0 : Int)) = true := by simp; omega
  rcases hf with hf | hf
  all_goals
    go_enter Try.func6, Try.ntmps6
    go_wp2_with fail
    refine HT.out.mono ?_
    rintro e w3 ⟨x, rfl, hown, hbel, hsz⟩
    obtain ⟨A3, c3, rfl⟩ := own_slice hown
    have RX := Lib.hid (own_row hown)
    have HB := Lib.hid hbel
    have LY := Lib.hid (show (l).length = 40 by have := hown.1; simpa using this)
    have R13 := Lib.hid (R1.out.below hbel)
    clear hown hbel
    go_wp2_with fail
    go_loopw [8] (fun i wr => ∃ j : Nat, j ≤ 40 ∧ i = .int .i64 j ∧ Below w3.heap.size w3 wr) (fun i _ => 40 - (intOf i).toNat)
    case atStart => exact ⟨0, by omega, rfl, Below.refl _ _⟩
    case round =>
      obtain ⟨j, hj, rfl, hbw⟩ := hrel
      have HBW := Lib.hid hbw
      by_cases hlt : j < 40
      · have hjl : j < l.length := by rw [LL.out]; exact hlt
        have hys : l.getD j 0 = l.getD j 0 := rfl
        have hKn : j < 40 := by omega
        have hbk : backZ (j : Int) f (40 : Nat) = (j : Int) := by
          unfold backZ
          rw [if_pos (by omega)]
        have hc1 := (R13.out.below (hbw.mono hsz))
        obtain ⟨b1, off1, hA1, hb1, hcc1⟩ := hc1.at_ (by intro h; simp at h; rw [h] at hjl; simp at hjl)
        obtain ⟨b3, off3, hA3, hb3, hcc3⟩ := (RX.out.below hbw).at_ (by intro h; have := congrArg List.length h; rw [List.length_map, LY.out] at this; simp at this <;> omega)
        obtain rfl := hA3
        injection hA1 with hA1; injection hA1 with hA1 hA2; subst hA1 hA2
        have g1 : wr.cell? ⟨b, off + j, none⟩ = some (.int .i64 (l.getD j 0)) := hcc1 j _ (by rw [List.getElem?_map, List.getElem?_eq_getElem (by rw [LL.out]; exact hKn), List.getD_eq_getElem?_getD, List.getElem?_eq_getElem (by rw [LL.out]; exact hKn)]; rfl)
        have g3 : wr.cell? ⟨b3, off3 + j, none⟩ = some (.int .i64 (l.getD j 0)) := hcc3 j _ (by rw [List.getElem?_map, ← hys, List.getD_eq_getElem?_getD, List.getElem?_eq_getElem (by rw [LY.out]; exact hlt)]; rfl)
        clear hcc1 hcc3 hys hbw hjl
        generalize l.getD j 0 = y at *
        have kI : (j : Int) < (40 : Int) := by omega
        have kI0 : (0 : Int) ≤ (j : Int) := by omega
        have jI : (j : Int) < (40 : Int) := by omega
        have jI0 : (0 : Int) ≤ (j : Int) := by omega
        have o2 : (y != y) = false := by simp
        have HBK := Lib.hid (fun w => back_any (j : Int) f 40 (by omega) (by omega) (by omega) w)
        rw [hbk] at HBK
        clear hbk
        go_wp2_with fail
        have HS3 := Lib.hid (show Below w3.heap.size w3 wr.drew ∧ wr.drew.cell? ⟨b, off + j, none⟩ = some (.int .i64 y) ∧ wr.drew.cell? ⟨b3, off3 + j, none⟩ = some (.int .i64 y) from ⟨HBW.out.drew, g1, g3⟩)
        go_region_held3 (fun w' => Below w3.heap.size w3 w' ∧ w'.cell? ⟨b, off + j, none⟩ = some (.int .i64 y) ∧ w'.cell? ⟨b3, off3 + j, none⟩ = some (.int .i64 y)) (first | assumption | exact HS3.out) (first | (go_at_call 23; refine (HBK.out _).mono ?_; rintro e w' ⟨rfl, rfl⟩))
        go_wp2_with fail
        go_roundw
        case rel => exact ⟨j + 1, by omega, by go_num, HBW.out.drew⟩
        case measure => simp [intOf]; omega
      · obtain rfl : 40 = j := by omega
        clear hbw
        by_cases w1 : v < 0
        · have HBV := Lib.hid (fun w => back_any v f 40 (by omega) v0 v1 w)
          rw [show backZ v f (40 : Nat) = v by unfold backZ; rw [if_pos (by omega)]] at HBV
          have o3 : (v == v) = true := by simp
          go_wp2_with fail
          refine (HBV.out _).mono ?_
          rintro e w' ⟨rfl, rfl⟩
          go_wp2_with fail
          refine (HAW.out _).mono ?_
          rintro e w5 ⟨rfl, hb5⟩
          go_wp2_with fail
          go_ret
          exact ⟨rfl, bel_call (bel_call HB.out HBW.out) hb5⟩
        by_cases w2 : (40 : Int) ≤ v
        · have HBV := Lib.hid (fun w => back_any v f 40 (by omega) v0 v1 w)
          rw [show backZ v f (40 : Nat) = v by unfold backZ; rw [if_pos (by omega)]] at HBV
          have o3 : (v == v) = true := by simp
          go_wp2_with fail
          refine (HBV.out _).mono ?_
          rintro e w' ⟨rfl, rfl⟩
          go_wp2_with fail
          refine (HAW.out _).mono ?_
          rintro e w5 ⟨rfl, hb5⟩
          go_wp2_with fail
          go_ret
          exact ⟨rfl, bel_call (bel_call HB.out HBW.out) hb5⟩
        go_wp2_with fail
        refine (HAW.out _).mono ?_
        rintro e w5 ⟨rfl, hb5⟩
        go_wp2_with fail
        go_ret
        exact ⟨rfl, bel_call (bel_call HB.out HBW.out) hb5⟩
set_option maxRecDepth 100000 in
set_option maxHeartbeats 2000000 in
theorem big_far (b off : Nat) (n0 c : Nat) (l : List Int) (q : Nat) (v : Int) (w : World) (hl : l.length = 40) (hn0 : 40 < n0) (hnc : n0 ≤ c) (hcm : c ≤ 9223372036854775807) (hr : Row w w.heap.size (some ⟨b, off, none⟩) (l.map (.int .i64))) (hbl : b < w.heap.size) (hq : q < 40) (v0 : -9223372036854775808 ≤ v) (v1 : v < 9223372036854775808) :
    Calls Try.prog 6 #[.slice (some ⟨b, off, none⟩) n0 c, .int .i64 (q : Int), .int .i64 v] w fun e w' => e = .returned (.bool true) ∧ Below w.heap.size w w' := by
  have HT : Hid (Calls Try.prog 22 #[.slice (some ⟨b, off, none⟩) 40 c, .int .i64 (q : Int)] w (ClonePost w 40 (l.drop q ++ l.take q))) := Lib.hid (turn_far b off 40 c l q w hl (by omega) (by omega) hcm hr hbl hq)
  have HAW := Lib.hid Go.Proofs.Yticapkhpjdfhgaa.loadE.awake_any
  have R1 := Lib.hid hr
  have LL := Lib.hid hl
  clear hr hl
  have hd0 : decide ((40 : Int) < (n0 : Int)) = true := by simp; omega
  go_enter Try.func6, Try.ntmps6
  go_wp2_with fail
  refine HT.out.mono ?_
  rintro e w3 ⟨x, rfl, hown, hbel, hsz⟩
  obtain ⟨A3, c3, rfl⟩ := own_slice hown
  have RX := Lib.hid (own_row hown)
  have HB := Lib.hid hbel
  have LY := Lib.hid (show (l.drop q ++ l.take q).length = 40 by have := hown.1; simpa using this)
  have R13 := Lib.hid (R1.out.below hbel)
  clear hown hbel
  go_wp2_with fail
  go_loopw [8] (fun i wr => ∃ j : Nat, j ≤ 40 ∧ i = .int .i64 j ∧ Below w3.heap.size w3 wr) (fun i _ => 40 - (intOf i).toNat)
  case atStart => exact ⟨0, by omega, rfl, Below.refl _ _⟩
  case round =>
    obtain ⟨j, hj, rfl, hbw⟩ := hrel
    have HBW := Lib.hid hbw
    by_cases hlt : j < 40
    · have hjl : j < l.length := by rw [LL.out]; exact hlt
      obtain ⟨K, hK⟩ : ∃ K : Nat, K = (j + q) % 40 := ⟨_, rfl⟩
      have hK2 : K = if j < 40 - q then q + j else j - (40 - q) := by
        rw [hK]
        split
        · rw [Nat.mod_eq_of_lt (by omega)]; omega
        · rw [Nat.mod_eq_sub_mod (by omega), Nat.mod_eq_of_lt (by omega)]; omega
      have hKn : K < 40 := by split at hK2 <;> omega
      have hys : (l.drop q ++ l.take q).getD j 0 = l.getD K 0 := by
        have hd : (l.drop q).length = 40 - q := by rw [List.length_drop, LL.out]
        rw [List.getD_eq_getElem?_getD, List.getD_eq_getElem?_getD]
        by_cases hj2 : j < 40 - q
        · rw [if_pos hj2] at hK2
          rw [List.getElem?_append_left (by omega), List.getElem?_drop, hK2]
        · rw [if_neg hj2] at hK2
          rw [List.getElem?_append_right (by omega), hd, List.getElem?_take, if_pos (by omega), hK2]
      have hbk : backZ (j : Int) (q : Int) (40 : Nat) = (K : Int) := by
        unfold backZ
        split at hK2
        · rw [if_neg (by omega), if_neg (by omega)]; omega
        · rw [if_neg (by omega), if_pos (by omega)]; omega
      have et : ((j : Int) + (q : Int)) % (40 : Int) = (K : Int) := by
        first
          | omega
          | (rw [hK, show (j : Int) + (q : Int) = ((j + q : Nat) : Int) by omega]; exact (Int.natCast_emod _ _).symm)
      have HKK := Lib.hid hK
      clear hK hK2
      have hc1 := (R13.out.below (hbw.mono hsz))
      obtain ⟨b1, off1, hA1, hb1, hcc1⟩ := hc1.at_ (by intro h; simp at h; rw [h] at hjl; simp at hjl)
      obtain ⟨b3, off3, hA3, hb3, hcc3⟩ := (RX.out.below hbw).at_ (by intro h; have := congrArg List.length h; rw [List.length_map, LY.out] at this; simp at this <;> omega)
      obtain rfl := hA3
      injection hA1 with hA1; injection hA1 with hA1 hA2; subst hA1 hA2
      have g1 : wr.cell? ⟨b, off + K, none⟩ = some (.int .i64 (l.getD K 0)) := hcc1 K _ (by rw [List.getElem?_map, List.getElem?_eq_getElem (by rw [LL.out]; exact hKn), List.getD_eq_getElem?_getD, List.getElem?_eq_getElem (by rw [LL.out]; exact hKn)]; rfl)
      have g3 : wr.cell? ⟨b3, off3 + j, none⟩ = some (.int .i64 (l.getD K 0)) := hcc3 j _ (by rw [List.getElem?_map, ← hys, List.getD_eq_getElem?_getD, List.getElem?_eq_getElem (by rw [LY.out]; exact hlt)]; rfl)
      clear hcc1 hcc3 hys hbw hjl
      generalize l.getD K 0 = y at *
      have kI : (K : Int) < (40 : Int) := by omega
      have kI0 : (0 : Int) ≤ (K : Int) := by omega
      have jI : (j : Int) < (40 : Int) := by omega
      have jI0 : (0 : Int) ≤ (j : Int) := by omega
      have o2 : (y != y) = false := by simp
      have HBK := Lib.hid (fun w => back_any (j : Int) (q : Int) 40 (by omega) (by omega) (by omega) w)
      rw [hbk] at HBK
      clear hbk
      go_wp2_with fail
      have HS3 := Lib.hid (show Below w3.heap.size w3 wr.drew ∧ wr.drew.cell? ⟨b, off + K, none⟩ = some (.int .i64 y) ∧ wr.drew.cell? ⟨b3, off3 + j, none⟩ = some (.int .i64 y) from ⟨HBW.out.drew, g1, g3⟩)
      go_region_held3 (fun w' => Below w3.heap.size w3 w' ∧ w'.cell? ⟨b, off + K, none⟩ = some (.int .i64 y) ∧ w'.cell? ⟨b3, off3 + j, none⟩ = some (.int .i64 y)) (first | assumption | exact HS3.out) (first | (go_at_call 23; refine (HBK.out _).mono ?_; rintro e w' ⟨rfl, rfl⟩))
      go_wp2_with fail
      go_roundw
      case rel => exact ⟨j + 1, by omega, by go_num, HBW.out.drew⟩
      case measure => simp [intOf]; omega
    · obtain rfl : 40 = j := by omega
      clear hbw
      by_cases w1 : v < 0
      · have HBV := Lib.hid (fun w => back_any v (q : Int) 40 (by omega) v0 v1 w)
        rw [show backZ v (q : Int) (40 : Nat) = v by unfold backZ; rw [if_pos (by omega)]] at HBV
        have o3 : (v == v) = true := by simp
        go_wp2_with fail
        refine (HBV.out _).mono ?_
        rintro e w' ⟨rfl, rfl⟩
        go_wp2_with fail
        refine (HAW.out _).mono ?_
        rintro e w5 ⟨rfl, hb5⟩
        go_wp2_with fail
        go_ret
        exact ⟨rfl, bel_call (bel_call HB.out HBW.out) hb5⟩
      by_cases w2 : (40 : Int) ≤ v
      · have HBV := Lib.hid (fun w => back_any v (q : Int) 40 (by omega) v0 v1 w)
        rw [show backZ v (q : Int) (40 : Nat) = v by unfold backZ; rw [if_pos (by omega)]] at HBV
        have o3 : (v == v) = true := by simp
        go_wp2_with fail
        refine (HBV.out _).mono ?_
        rintro e w' ⟨rfl, rfl⟩
        go_wp2_with fail
        refine (HAW.out _).mono ?_
        rintro e w5 ⟨rfl, hb5⟩
        go_wp2_with fail
        go_ret
        exact ⟨rfl, bel_call (bel_call HB.out HBW.out) hb5⟩
      go_wp2_with fail
      refine (HAW.out _).mono ?_
      rintro e w5 ⟨rfl, hb5⟩
      go_wp2_with fail
      go_ret
      exact ⟨rfl, bel_call (bel_call HB.out HBW.out) hb5⟩
end Go.Proofs.Yticapkhpjdfhgaa.loadK
