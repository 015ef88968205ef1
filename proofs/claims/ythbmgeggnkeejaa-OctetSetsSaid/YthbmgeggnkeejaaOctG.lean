/- Layer 7: the law on bytes with another number in them. -/
import Derived.Test.YthbmgeggnkeejaaOctF
namespace Go.Proofs.Ythbmgeggnkeejaa.octG
open Go.ChangeShapes Go.WideShapes Go.ChangeAt Go.RowKit
open Go.Proofs.Ythbmgeggnkeejaa.base Go.Proofs.Ythbmgeggnkeejaa.octA Go.Proofs.Ythbmgeggnkeejaa.octB Go.Proofs.Ythbmgeggnkeejaa.octC Go.Proofs.Ythbmgeggnkeejaa.octD Go.Proofs.Ythbmgeggnkeejaa.octE Go.Proofs.Ythbmgeggnkeejaa.octF
set_option linter.unusedVariables false

set_option maxRecDepth 100000 in
set_option maxHeartbeats 2000000 in
theorem sets_f (v1 : Value) (A1 : Option Addr) (n c1 : Nat) (l1 : List Int) (f z s : Int) (w : World)
    (h1 : l1.length = n) (k1 : n ≤ 100) (hnc : n ≤ c1) (hcm : c1 ≤ 9223372036854775807) (z1 : A1 = none → c1 = 0) (r1 : Row w w.heap.size A1 (l1.map (.int .u8))) (b1 : ∀ x ∈ l1, 0 ≤ x ∧ x ≤ 255)
    (C1 : Hid (∀ w : World, Calls Try.prog 15 #[v1] w fun e w' => e = .returned (.slice A1 n c1) ∧ w = w'))
    (f0 : -9223372036854775808 ≤ f) (f1 : f < 9223372036854775808) (s0 : -9223372036854775808 ≤ s) (s1 : s < 9223372036854775808) (zz0 : 0 ≤ z) (zz1 : z < 18446744073709551616) (hf : f < 0) :
    Calls Try.prog 4 #[v1, .int .i64 f, .int .u64 z, .int .i64 s] w fun e w' => e = .returned (.bool true) ∧ Below w.heap.size w w' := by
  have HS : Hid (Calls Try.prog 21 #[.slice A1 n c1, .int .i64 f, .int .u64 z, .int .i64 s] w (ClonePost w n (l1))) := Lib.hid (set_no A1 n c1 l1 f z s w h1 (by omega) z1 r1 (by omega))
  have HA : Hid (∀ w' : World, Below w.heap.size w w' → w.heap.size ≤ w'.heap.size → Calls Try.prog 18 #[.slice A1 n c1, .int .i64 f, .int .i64 s] w' fun e w'' => e = .returned (.int .u64 (atZ l1 f s)) ∧ w' = w'') := fun w' hb hs => at_any A1 n c1 l1 f s w' h1 (by omega) hnc hcm z1 ((r1.below hb).more hs) b1 (by omega)
  have HL : Hid (∀ w' : World, Below w.heap.size w w' → w.heap.size ≤ w'.heap.size → Calls Try.prog 20 #[.slice A1 n c1, .int .i64 f, .int .i64 (hs s : Nat)] w' fun e w'' => e = .returned (.int .u64 (atZ l1 f s)) ∧ w' = w'') := fun w' hb hs' => lawat_any A1 n c1 l1 f (hs s) w' h1 (by omega) (hs_le _) ((r1.below hb).more hs') b1
  have HH := Lib.hid (fun w => lawheld_any s w)
  have R1 := Lib.hid r1
  have L1 := Lib.hid h1
  clear z1 r1 b1 h1 hcm
  generalize atZ l1 f s = Y at *
  generalize hs s = K at *
  have o1 : (Y != Y) = false := by simp
  go_enter Try.func4, Try.ntmps4
  go_wp2_with fail
  refine (C1.out _).mono ?_
  rintro e w' ⟨rfl, rfl⟩
  go_wp2_with fail
  refine (HA.out _ (Below.refl _ _) (Nat.le_refl _)).mono ?_
  rintro e w' ⟨rfl, rfl⟩
  go_wp2_with fail
  refine (HH.out _).mono ?_
  rintro e w' ⟨rfl, rfl⟩
  go_wp2_with fail
  refine (HL.out _ (Below.refl _ _) (Nat.le_refl _)).mono ?_
  rintro e w' ⟨rfl, rfl⟩
  go_wp2_with fail
  refine HS.out.mono ?_
  rintro e w3 ⟨x, rfl, hown, hbel, hsz⟩
  obtain ⟨A3, c3, rfl⟩ := own_slice hown
  have RX := Lib.hid (own_row hown)
  have HB := Lib.hid hbel
  have hr13 := R1.out.below hbel
  have R13 := Lib.hid hr13
  have hly := hown.1
  have LY := Lib.hid (show (l1).length = n by simpa using hly)
  clear hown hbel hr13 hly
  go_wp2_with fail
  go_loop [11] (fun i => ∃ j : Nat, j ≤ n ∧ i = .int .i64 j) (fun i => n - (intOf i).toNat)
  case atStart => exact ⟨0, by omega, rfl⟩
  case round =>
    obtain ⟨i, hi, rfl⟩ := hrel
    by_cases hlt : i < n
    · obtain ⟨b, off, rfl, hbl, hc⟩ := slice_from R13.out i (by rw [L1.out]; exact hlt)
      obtain ⟨b3, off3, rfl, hbl3, hc3⟩ := slice_from RX.out i (by rw [LY.out]; exact hlt)
      have g1 := hc i (by rw [L1.out]; exact hlt)
      have g3 := hc3 i (by rw [LY.out]; exact hlt)
      clear hc hc3
      generalize l1.getD i 0 = y at *
      have o2 : (y != y) = false := by simp
      go_wp2_with fail
      go_round
      case rel => exact ⟨i + 1, by omega, by go_num⟩
      case measure => simp [intOf]; omega
    · go_wp2_with fail
      refine (awake_any _).mono ?_
      rintro e w4 ⟨rfl, hb4⟩
      go_wp2_with fail
      go_ret
      exact ⟨rfl, bel_call HB.out hb4⟩
set_option maxRecDepth 100000 in
set_option maxHeartbeats 2000000 in
theorem sets_s (v1 : Value) (A1 : Option Addr) (n c1 : Nat) (l1 : List Int) (f z s : Int) (w : World)
    (h1 : l1.length = n) (k1 : n ≤ 100) (hnc : n ≤ c1) (hcm : c1 ≤ 9223372036854775807) (z1 : A1 = none → c1 = 0) (r1 : Row w w.heap.size A1 (l1.map (.int .u8))) (b1 : ∀ x ∈ l1, 0 ≤ x ∧ x ≤ 255)
    (C1 : Hid (∀ w : World, Calls Try.prog 15 #[v1] w fun e w' => e = .returned (.slice A1 n c1) ∧ w = w'))
    (f0 : -9223372036854775808 ≤ f) (f1 : f < 9223372036854775808) (s0 : -9223372036854775808 ≤ s) (s1 : s < 9223372036854775808) (zz0 : 0 ≤ z) (zz1 : z < 18446744073709551616) (hf : 0 ≤ f) (hs0 : s < 0) :
    Calls Try.prog 4 #[v1, .int .i64 f, .int .u64 z, .int .i64 s] w fun e w' => e = .returned (.bool true) ∧ Below w.heap.size w w' := by
  have HS : Hid (Calls Try.prog 21 #[.slice A1 n c1, .int .i64 f, .int .u64 z, .int .i64 s] w (ClonePost w n (l1))) := Lib.hid (set_no A1 n c1 l1 f z s w h1 (by omega) z1 r1 (by omega))
  have HA : Hid (∀ w' : World, Below w.heap.size w w' → w.heap.size ≤ w'.heap.size → Calls Try.prog 18 #[.slice A1 n c1, .int .i64 f, .int .i64 s] w' fun e w'' => e = .returned (.int .u64 (atZ l1 f s)) ∧ w' = w'') := fun w' hb hs => at_any A1 n c1 l1 f s w' h1 (by omega) hnc hcm z1 ((r1.below hb).more hs) b1 (by omega)
  have HL : Hid (∀ w' : World, Below w.heap.size w w' → w.heap.size ≤ w'.heap.size → Calls Try.prog 20 #[.slice A1 n c1, .int .i64 f, .int .i64 (hs s : Nat)] w' fun e w'' => e = .returned (.int .u64 (atZ l1 f s)) ∧ w' = w'') := fun w' hb hs' => lawat_any A1 n c1 l1 f (hs s) w' h1 (by omega) (hs_le _) ((r1.below hb).more hs') b1
  have HH := Lib.hid (fun w => lawheld_any s w)
  have R1 := Lib.hid r1
  have L1 := Lib.hid h1
  clear z1 r1 b1 h1 hcm
  generalize atZ l1 f s = Y at *
  generalize hs s = K at *
  have o1 : (Y != Y) = false := by simp
  go_enter Try.func4, Try.ntmps4
  go_wp2_with fail
  refine (C1.out _).mono ?_
  rintro e w' ⟨rfl, rfl⟩
  go_wp2_with fail
  refine (HA.out _ (Below.refl _ _) (Nat.le_refl _)).mono ?_
  rintro e w' ⟨rfl, rfl⟩
  go_wp2_with fail
  refine (HH.out _).mono ?_
  rintro e w' ⟨rfl, rfl⟩
  go_wp2_with fail
  refine (HL.out _ (Below.refl _ _) (Nat.le_refl _)).mono ?_
  rintro e w' ⟨rfl, rfl⟩
  go_wp2_with fail
  refine HS.out.mono ?_
  rintro e w3 ⟨x, rfl, hown, hbel, hsz⟩
  obtain ⟨A3, c3, rfl⟩ := own_slice hown
  have RX := Lib.hid (own_row hown)
  have HB := Lib.hid hbel
  have hr13 := R1.out.below hbel
  have R13 := Lib.hid hr13
  have hly := hown.1
  have LY := Lib.hid (show (l1).length = n by simpa using hly)
  clear hown hbel hr13 hly
  go_wp2_with fail
  go_loop [11] (fun i => ∃ j : Nat, j ≤ n ∧ i = .int .i64 j) (fun i => n - (intOf i).toNat)
  case atStart => exact ⟨0, by omega, rfl⟩
  case round =>
    obtain ⟨i, hi, rfl⟩ := hrel
    by_cases hlt : i < n
    · obtain ⟨b, off, rfl, hbl, hc⟩ := slice_from R13.out i (by rw [L1.out]; exact hlt)
      obtain ⟨b3, off3, rfl, hbl3, hc3⟩ := slice_from RX.out i (by rw [LY.out]; exact hlt)
      have g1 := hc i (by rw [L1.out]; exact hlt)
      have g3 := hc3 i (by rw [LY.out]; exact hlt)
      clear hc hc3
      generalize l1.getD i 0 = y at *
      have o2 : (y != y) = false := by simp
      go_wp2_with fail
      go_round
      case rel => exact ⟨i + 1, by omega, by go_num⟩
      case measure => simp [intOf]; omega
    · go_wp2_with fail
      refine (awake_any _).mono ?_
      rintro e w4 ⟨rfl, hb4⟩
      go_wp2_with fail
      go_ret
      exact ⟨rfl, bel_call HB.out hb4⟩
set_option maxRecDepth 100000 in
set_option maxHeartbeats 2000000 in
theorem sets_8 (v1 : Value) (A1 : Option Addr) (n c1 : Nat) (l1 : List Int) (f z s : Int) (w : World)
    (h1 : l1.length = n) (k1 : n ≤ 100) (hnc : n ≤ c1) (hcm : c1 ≤ 9223372036854775807) (z1 : A1 = none → c1 = 0) (r1 : Row w w.heap.size A1 (l1.map (.int .u8))) (b1 : ∀ x ∈ l1, 0 ≤ x ∧ x ≤ 255)
    (C1 : Hid (∀ w : World, Calls Try.prog 15 #[v1] w fun e w' => e = .returned (.slice A1 n c1) ∧ w = w'))
    (f0 : -9223372036854775808 ≤ f) (f1 : f < 9223372036854775808) (s0 : -9223372036854775808 ≤ s) (s1 : s < 9223372036854775808) (zz0 : 0 ≤ z) (zz1 : z < 18446744073709551616) (hf : 0 ≤ f) (hs0 : 0 ≤ s) (hs8 : 8 < s) :
    Calls Try.prog 4 #[v1, .int .i64 f, .int .u64 z, .int .i64 s] w fun e w' => e = .returned (.bool true) ∧ Below w.heap.size w w' := by
  have HS : Hid (Calls Try.prog 21 #[.slice A1 n c1, .int .i64 f, .int .u64 z, .int .i64 s] w (ClonePost w n (l1))) := Lib.hid (set_no A1 n c1 l1 f z s w h1 (by omega) z1 r1 (by omega))
  have HA : Hid (∀ w' : World, Below w.heap.size w w' → w.heap.size ≤ w'.heap.size → Calls Try.prog 18 #[.slice A1 n c1, .int .i64 f, .int .i64 s] w' fun e w'' => e = .returned (.int .u64 (atZ l1 f s)) ∧ w' = w'') := fun w' hb hs => at_any A1 n c1 l1 f s w' h1 (by omega) hnc hcm z1 ((r1.below hb).more hs) b1 (by omega)
  have HL : Hid (∀ w' : World, Below w.heap.size w w' → w.heap.size ≤ w'.heap.size → Calls Try.prog 20 #[.slice A1 n c1, .int .i64 f, .int .i64 (hs s : Nat)] w' fun e w'' => e = .returned (.int .u64 (atZ l1 f s)) ∧ w' = w'') := fun w' hb hs' => lawat_any A1 n c1 l1 f (hs s) w' h1 (by omega) (hs_le _) ((r1.below hb).more hs') b1
  have HH := Lib.hid (fun w => lawheld_any s w)
  have R1 := Lib.hid r1
  have L1 := Lib.hid h1
  clear z1 r1 b1 h1 hcm
  generalize atZ l1 f s = Y at *
  generalize hs s = K at *
  have dd : ¬ s ≤ 8 := by omega
  have o1 : (Y != Y) = false := by simp
  go_enter Try.func4, Try.ntmps4
  go_wp2_with fail
  refine (C1.out _).mono ?_
  rintro e w' ⟨rfl, rfl⟩
  go_wp2_with fail
  refine (HA.out _ (Below.refl _ _) (Nat.le_refl _)).mono ?_
  rintro e w' ⟨rfl, rfl⟩
  go_wp2_with fail
  refine (HH.out _).mono ?_
  rintro e w' ⟨rfl, rfl⟩
  go_wp2_with fail
  refine (HL.out _ (Below.refl _ _) (Nat.le_refl _)).mono ?_
  rintro e w' ⟨rfl, rfl⟩
  go_wp2_with fail
  refine HS.out.mono ?_
  rintro e w3 ⟨x, rfl, hown, hbel, hsz⟩
  obtain ⟨A3, c3, rfl⟩ := own_slice hown
  have RX := Lib.hid (own_row hown)
  have HB := Lib.hid hbel
  have hr13 := R1.out.below hbel
  have R13 := Lib.hid hr13
  have hly := hown.1
  have LY := Lib.hid (show (l1).length = n by simpa using hly)
  clear hown hbel hr13 hly
  go_wp2_with fail
  go_loop [11] (fun i => ∃ j : Nat, j ≤ n ∧ i = .int .i64 j) (fun i => n - (intOf i).toNat)
  case atStart => exact ⟨0, by omega, rfl⟩
  case round =>
    obtain ⟨i, hi, rfl⟩ := hrel
    by_cases hlt : i < n
    · obtain ⟨b, off, rfl, hbl, hc⟩ := slice_from R13.out i (by rw [L1.out]; exact hlt)
      obtain ⟨b3, off3, rfl, hbl3, hc3⟩ := slice_from RX.out i (by rw [LY.out]; exact hlt)
      have g1 := hc i (by rw [L1.out]; exact hlt)
      have g3 := hc3 i (by rw [LY.out]; exact hlt)
      clear hc hc3
      generalize l1.getD i 0 = y at *
      have o2 : (y != y) = false := by simp
      go_wp2_with fail
      go_round
      case rel => exact ⟨i + 1, by omega, by go_num⟩
      case measure => simp [intOf]; omega
    · go_wp2_with fail
      refine (awake_any _).mono ?_
      rintro e w4 ⟨rfl, hb4⟩
      go_wp2_with fail
      go_ret
      exact ⟨rfl, bel_call HB.out hb4⟩
set_option maxRecDepth 100000 in
set_option maxHeartbeats 2000000 in
theorem sets_far (v1 : Value) (A1 : Option Addr) (n c1 : Nat) (l1 : List Int) (f z s : Int) (w : World)
    (h1 : l1.length = n) (k1 : n ≤ 100) (hnc : n ≤ c1) (hcm : c1 ≤ 9223372036854775807) (z1 : A1 = none → c1 = 0) (r1 : Row w w.heap.size A1 (l1.map (.int .u8))) (b1 : ∀ x ∈ l1, 0 ≤ x ∧ x ≤ 255)
    (C1 : Hid (∀ w : World, Calls Try.prog 15 #[v1] w fun e w' => e = .returned (.slice A1 n c1) ∧ w = w'))
    (f0 : -9223372036854775808 ≤ f) (f1 : f < 9223372036854775808) (s0 : -9223372036854775808 ≤ s) (s1 : s < 9223372036854775808) (zz0 : 0 ≤ z) (zz1 : z < 18446744073709551616) (hf : 0 ≤ f) (hs0 : 0 ≤ s) (hs8 : s ≤ 8) (hfar : (n : Int) - s < f) :
    Calls Try.prog 4 #[v1, .int .i64 f, .int .u64 z, .int .i64 s] w fun e w' => e = .returned (.bool true) ∧ Below w.heap.size w w' := by
  have HS : Hid (Calls Try.prog 21 #[.slice A1 n c1, .int .i64 f, .int .u64 z, .int .i64 s] w (ClonePost w n (l1))) := Lib.hid (set_no A1 n c1 l1 f z s w h1 (by omega) z1 r1 (by omega))
  have HA : Hid (∀ w' : World, Below w.heap.size w w' → w.heap.size ≤ w'.heap.size → Calls Try.prog 18 #[.slice A1 n c1, .int .i64 f, .int .i64 s] w' fun e w'' => e = .returned (.int .u64 (atZ l1 f s)) ∧ w' = w'') := fun w' hb hs => at_any A1 n c1 l1 f s w' h1 (by omega) hnc hcm z1 ((r1.below hb).more hs) b1 (by omega)
  have HL : Hid (∀ w' : World, Below w.heap.size w w' → w.heap.size ≤ w'.heap.size → Calls Try.prog 20 #[.slice A1 n c1, .int .i64 f, .int .i64 (hs s : Nat)] w' fun e w'' => e = .returned (.int .u64 (atZ l1 f s)) ∧ w' = w'') := fun w' hb hs' => lawat_any A1 n c1 l1 f (hs s) w' h1 (by omega) (hs_le _) ((r1.below hb).more hs') b1
  have HH := Lib.hid (fun w => lawheld_any s w)
  have R1 := Lib.hid r1
  have L1 := Lib.hid h1
  clear z1 r1 b1 h1 hcm
  generalize atZ l1 f s = Y at *
  generalize hs s = K at *
  have e1 : IntKind.i64.wrap ((n : Int) - s) = (n : Int) - s := IntWalk.i64_in _ (by omega)
  have dd : ¬ f ≤ (n : Int) - s := by omega
  have o1 : (Y != Y) = false := by simp
  go_enter Try.func4, Try.ntmps4
  go_wp2_with fail
  refine (C1.out _).mono ?_
  rintro e w' ⟨rfl, rfl⟩
  go_wp2_with fail
  refine (HA.out _ (Below.refl _ _) (Nat.le_refl _)).mono ?_
  rintro e w' ⟨rfl, rfl⟩
  go_wp2_with fail
  refine (HH.out _).mono ?_
  rintro e w' ⟨rfl, rfl⟩
  go_wp2_with fail
  refine (HL.out _ (Below.refl _ _) (Nat.le_refl _)).mono ?_
  rintro e w' ⟨rfl, rfl⟩
  go_wp2_with fail
  refine HS.out.mono ?_
  rintro e w3 ⟨x, rfl, hown, hbel, hsz⟩
  obtain ⟨A3, c3, rfl⟩ := own_slice hown
  have RX := Lib.hid (own_row hown)
  have HB := Lib.hid hbel
  have hr13 := R1.out.below hbel
  have R13 := Lib.hid hr13
  have hly := hown.1
  have LY := Lib.hid (show (l1).length = n by simpa using hly)
  clear hown hbel hr13 hly
  go_wp2_with fail
  go_loop [11] (fun i => ∃ j : Nat, j ≤ n ∧ i = .int .i64 j) (fun i => n - (intOf i).toNat)
  case atStart => exact ⟨0, by omega, rfl⟩
  case round =>
    obtain ⟨i, hi, rfl⟩ := hrel
    by_cases hlt : i < n
    · obtain ⟨b, off, rfl, hbl, hc⟩ := slice_from R13.out i (by rw [L1.out]; exact hlt)
      obtain ⟨b3, off3, rfl, hbl3, hc3⟩ := slice_from RX.out i (by rw [LY.out]; exact hlt)
      have g1 := hc i (by rw [L1.out]; exact hlt)
      have g3 := hc3 i (by rw [LY.out]; exact hlt)
      clear hc hc3
      generalize l1.getD i 0 = y at *
      have o2 : (y != y) = false := by simp
      go_wp2_with fail
      go_round
      case rel => exact ⟨i + 1, by omega, by go_num⟩
      case measure => simp [intOf]; omega
    · go_wp2_with fail
      refine (awake_any _).mono ?_
      rintro e w4 ⟨rfl, hb4⟩
      go_wp2_with fail
      go_ret
      exact ⟨rfl, bel_call HB.out hb4⟩
set_option maxRecDepth 100000 in
set_option maxHeartbeats 2000000 in
theorem sets_yes (v1 : Value) (A1 : Option Addr) (n c1 : Nat) (l1 : List Int) (q k : Nat) (z : Int) (w : World)
    (h1 : l1.length = n) (k1 : n ≤ 100) (hnc : n ≤ c1) (hcm : c1 ≤ 9223372036854775807) (z1 : A1 = none → c1 = 0) (r1 : Row w w.heap.size A1 (l1.map (.int .u8))) (b1 : ∀ x ∈ l1, 0 ≤ x ∧ x ≤ 255)
    (C1 : Hid (∀ w : World, Calls Try.prog 15 #[v1] w fun e w' => e = .returned (.slice A1 n c1) ∧ w = w'))
    (hk : k ≤ 8) (hq : q + k ≤ n) (zz0 : 0 ≤ z) (zz1 : z < 18446744073709551616) :
    Calls Try.prog 4 #[v1, .int .i64 (q : Int), .int .u64 z, .int .i64 (k : Int)] w fun e w' => e = .returned (.bool true) ∧ Below w.heap.size w w' := by
  have HS : Hid (Calls Try.prog 21 #[.slice A1 n c1, .int .i64 (q : Int), .int .u64 z, .int .i64 (k : Int)] w (ClonePost w n (splice l1 q (pb z k k)))) := Lib.hid (set_yes A1 n c1 l1 q k z w h1 (by omega) z1 r1 hk hq zz0 zz1)
  have HA : Hid (∀ w' : World, Below w.heap.size w w' → w.heap.size ≤ w'.heap.size → Calls Try.prog 18 #[.slice A1 n c1, .int .i64 (q : Int), .int .i64 (k : Int)] w' fun e w'' => e = .returned (.int .u64 (atZ l1 (q : Int) (k : Int))) ∧ w' = w'') := fun w' hb hs => at_any A1 n c1 l1 (q : Int) (k : Int) w' h1 (by omega) hnc hcm z1 ((r1.below hb).more hs) b1 (by omega)
  have HL : Hid (∀ w' : World, Below w.heap.size w w' → w.heap.size ≤ w'.heap.size → Calls Try.prog 20 #[.slice A1 n c1, .int .i64 (q : Int), .int .i64 (hs (k : Int) : Nat)] w' fun e w'' => e = .returned (.int .u64 (atZ l1 (q : Int) (k : Int))) ∧ w' = w'') := fun w' hb hs' => lawat_any A1 n c1 l1 (q : Int) (hs (k : Int)) w' h1 (by omega) (hs_le _) ((r1.below hb).more hs') b1
  have HH := Lib.hid (fun w => lawheld_any (k : Int) w)
  have R1 := Lib.hid r1
  have L1 := Lib.hid h1
  clear z1 r1 b1 h1 hcm
  generalize atZ l1 (q : Int) (k : Int) = Y at *
  generalize hs (k : Int) = K at *
  have e1 : IntKind.i64.wrap ((n : Int) - (k : Int)) = ((n - k : Nat) : Int) := by rw [show (n : Int) - (k : Int) = ((n - k : Nat) : Int) by omega]; exact IntWalk.i64_in _ (by omega)
  have dq : q ≤ n - k := by omega
  have o1 : (Y != Y) = false := by simp
  go_enter Try.func4, Try.ntmps4
  go_wp2_with fail
  refine (C1.out _).mono ?_
  rintro e w' ⟨rfl, rfl⟩
  go_wp2_with fail
  refine (HA.out _ (Below.refl _ _) (Nat.le_refl _)).mono ?_
  rintro e w' ⟨rfl, rfl⟩
  go_wp2_with fail
  refine (HH.out _).mono ?_
  rintro e w' ⟨rfl, rfl⟩
  go_wp2_with fail
  refine (HL.out _ (Below.refl _ _) (Nat.le_refl _)).mono ?_
  rintro e w' ⟨rfl, rfl⟩
  go_wp2_with fail
  refine HS.out.mono ?_
  rintro e w3 ⟨x, rfl, hown, hbel, hsz⟩
  obtain ⟨A3, c3, rfl⟩ := own_slice hown
  have RX := Lib.hid (own_row hown)
  have HB := Lib.hid hbel
  have hr13 := R1.out.below hbel
  have R13 := Lib.hid hr13
  have hly := hown.1
  have LY := Lib.hid (show (splice l1 q (pb z k k)).length = n by simpa using hly)
  clear hown hbel hr13 hly
  go_wp2_with fail
  go_loop [11] (fun i => ∃ j : Nat, j ≤ n ∧ i = .int .i64 j) (fun i => n - (intOf i).toNat)
  case atStart => exact ⟨0, by omega, rfl⟩
  case round =>
    obtain ⟨i, hi, rfl⟩ := hrel
    by_cases hlt : i < n
    · obtain ⟨b, off, rfl, hbl, hc⟩ := slice_from R13.out i (by rw [L1.out]; exact hlt)
      obtain ⟨b3, off3, rfl, hbl3, hc3⟩ := slice_from RX.out i (by rw [LY.out]; exact hlt)
      have g1 := hc i (by rw [L1.out]; exact hlt)
      have g3 := hc3 i (by rw [LY.out]; exact hlt)
      clear hc hc3
      have hsg := splice_get l1 (pb z k k) q i (by rw [pb_len, L1.out]; exact hq)
      rw [pb_len] at hsg
      by_cases hin : q ≤ i ∧ i < q + k
      · obtain ⟨ha, hb⟩ := hin
        obtain ⟨t, ht⟩ : ∃ t : Nat, k = (i - q) + t + 1 := ⟨k - (i - q) - 1, by omega⟩
        rw [if_pos ⟨ha, hb⟩, pb_get z k (i - q) (by omega), show k - 1 - (i - q) = t by omega] at hsg
        rw [hsg] at g3
        have hdiv : 0 ≤ z / 2 ^ (8 * t) := Int.ediv_nonneg zz0 (Int.le_of_lt (Int.pow_pos (by decide)))
        have hby : IntKind.u8.wrap (z / 2 ^ (8 * t)) = byteZ z t := by rw [IntKind.wrap_u8']; rfl
        have ec : (k : Int) - 1 - ((i : Int) - (q : Int)) = (t : Int) := by omega
        have t7 : t ≤ 7 := by omega
        have HT := Lib.hid ht
        clear hsg ht
        generalize l1.getD i 0 = y at *
        generalize byteZ z t = u at *
        have o2 : (u != u) = false := by simp
        go_wp2_with fail
        go_round
        case rel => exact ⟨i + 1, by omega, by go_num⟩
        case measure => simp [intOf]; omega
      · rw [if_neg hin] at hsg
        rw [hsg] at g3
        clear hsg
        generalize l1.getD i 0 = y at *
        have o2 : (y != y) = false := by simp
        rcases Nat.lt_or_ge i q with hiq | hiq
        · go_wp2_with fail
          go_round
          case rel => exact ⟨i + 1, by omega, by go_num⟩
          case measure => simp [intOf]; omega
        · have hiq2 : q + k ≤ i := by omega
          clear hin
          go_wp2_with fail
          go_round
          case rel => exact ⟨i + 1, by omega, by go_num⟩
          case measure => simp [intOf]; omega
    · go_wp2_with fail
      refine (awake_any _).mono ?_
      rintro e w4 ⟨rfl, hb4⟩
      go_wp2_with fail
      go_ret
      exact ⟨rfl, bel_call HB.out hb4⟩
end Go.Proofs.Ythbmgeggnkeejaa.octG
