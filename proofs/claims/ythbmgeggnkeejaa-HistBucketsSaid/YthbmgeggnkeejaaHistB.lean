/- Layer 38: the law on buckets. -/
import Derived.Test.YthbmgeggnkeejaaHistA
namespace Go.Proofs.Ythbmgeggnkeejaa.histB
open Go.ChangeShapes Go.WideShapes Go.ChangeAt Go.RowKit
open Go.Proofs.Ythbmgeggnkeejaa.base Go.Proofs.Ythbmgeggnkeejaa.histA
set_option linter.unusedVariables false

theorem awake_any (w : World) :
    Calls Try.prog 51 #[] w fun e w' => e = .returned (.bool true) ∧ w = w' := by
  go_enter Try.func51, Try.ntmps51
  go_wp2_with fail
  refine (bounds_pos 2 (by omega) _).mono ?_
  rintro e w' ⟨rfl, rfl⟩
  go_wp2_with fail
  refine (bucket_any 5 (by omega) _).mono ?_
  rintro e w' ⟨rfl, rfl⟩
  rw [show Lib.bitLen 5 = 3 by decide]
  go_wp2_with fail
  go_ret
  exact ⟨rfl, rfl⟩
theorem coreO (n B X Y U V : Nat) (k : Int) (hk : k < 0 ∨ 65 ≤ k) (HB : ∀ w : World, Calls Try.prog 49 #[.int .i64 (B : Int)] w fun e w' => e = .returned (.tuple #[.int .u64 X, .int .u64 Y, .bool true]) ∧ w = w') (HN : ∀ w : World, Calls Try.prog 50 #[.int .u64 n] w fun e w' => e = .returned (.int .i64 B) ∧ w = w') (HX : ∀ w : World, Calls Try.prog 50 #[.int .u64 X] w fun e w' => e = .returned (.int .i64 B) ∧ w = w') (HY : ∀ w : World, Calls Try.prog 50 #[.int .u64 Y] w fun e w' => e = .returned (.int .i64 B) ∧ w = w') (HK : ∀ w : World, Calls Try.prog 49 #[.int .i64 k] w fun e w' => e = .returned (.tuple #[.int .u64 0, .int .u64 0, .bool false]) ∧ w = w') (h1 : X ≤ n) (h2 : n ≤ Y) (hB : B ≤ 64) (hn : n < 18446744073709551616) (hbl : Lib.bitLen n = B) (w : World) :
    Calls Try.prog 13 #[.int .u64 n, .int .i64 k] w fun e w' => e = .returned (.bool true) ∧ w = w' := by
  have q1 : ((B : Int) != (B : Int)) = false := by simp
  have q2 : decide ((n : Int) < (X : Int)) = false := by simp; omega
  have q3 : decide ((Y : Int) < (n : Int)) = false := by simp; omega
  have HBh := Lib.hid HB
  have HNh := Lib.hid HN
  have HXh := Lib.hid HX
  have HYh := Lib.hid HY
  have HKh := Lib.hid HK
  clear HB HN HX HY HK
  rcases hk with hk | hk
  all_goals
    go_enter Try.func13, Try.ntmps13
    go_wp2_with fail
    refine (bucket_any n (by omega) _).mono ?_
    rintro e w' ⟨rfl, rfl⟩
    rw [hbl]
    go_wp2_with fail
    refine (HBh.out _).mono ?_
    rintro e w' ⟨rfl, rfl⟩
    go_wp2_with fail
    refine (HKh.out _).mono ?_
    rintro e w' ⟨rfl, rfl⟩
    go_wp2_with fail
    refine (HNh.out _).mono ?_
    rintro e w' ⟨rfl, rfl⟩
    go_wp2_with fail
    refine (HXh.out _).mono ?_
    rintro e w' ⟨rfl, rfl⟩
    go_wp2_with fail
    refine (HYh.out _).mono ?_
    rintro e w' ⟨rfl, rfl⟩
    go_wp2_with fail
    refine (awake_any _).mono ?_
    rintro e w' ⟨rfl, rfl⟩
    go_wp2_with fail
    go_ret
    exact ⟨rfl, rfl⟩
theorem coreZ (n B X Y U V : Nat)  (HB : ∀ w : World, Calls Try.prog 49 #[.int .i64 (B : Int)] w fun e w' => e = .returned (.tuple #[.int .u64 X, .int .u64 Y, .bool true]) ∧ w = w') (HN : ∀ w : World, Calls Try.prog 50 #[.int .u64 n] w fun e w' => e = .returned (.int .i64 B) ∧ w = w') (HX : ∀ w : World, Calls Try.prog 50 #[.int .u64 X] w fun e w' => e = .returned (.int .i64 B) ∧ w = w') (HY : ∀ w : World, Calls Try.prog 50 #[.int .u64 Y] w fun e w' => e = .returned (.int .i64 B) ∧ w = w') (HK : ∀ w : World, Calls Try.prog 49 #[.int .i64 0] w fun e w' => e = .returned (.tuple #[.int .u64 U, .int .u64 V, .bool true]) ∧ w = w') (HU : ∀ w : World, Calls Try.prog 50 #[.int .u64 U] w fun e w' => e = .returned (.int .i64 0) ∧ w = w') (HV : ∀ w : World, Calls Try.prog 50 #[.int .u64 V] w fun e w' => e = .returned (.int .i64 0) ∧ w = w') (HV1 : ∀ w : World, Calls Try.prog 50 #[.int .u64 ((V : Int) + 1)] w fun e w' => e = .returned (.int .i64 1) ∧ w = w') (hV : V < 18446744073709551615) (h1 : X ≤ n) (h2 : n ≤ Y) (hB : B ≤ 64) (hn : n < 18446744073709551616) (hbl : Lib.bitLen n = B) (w : World) :
    Calls Try.prog 13 #[.int .u64 n, .int .i64 0] w fun e w' => e = .returned (.bool true) ∧ w = w' := by
  have q1 : ((B : Int) != (B : Int)) = false := by simp
  have q2 : decide ((n : Int) < (X : Int)) = false := by simp; omega
  have q3 : decide ((Y : Int) < (n : Int)) = false := by simp; omega
  have HBh := Lib.hid HB
  have HNh := Lib.hid HN
  have HXh := Lib.hid HX
  have HYh := Lib.hid HY
  have HKh := Lib.hid HK
  have HUh := Lib.hid HU
  have HVh := Lib.hid HV
  have HV1h := Lib.hid HV1
  clear HB HN HX HY HK HU HV HV1
  go_enter Try.func13, Try.ntmps13
  go_wp2_with fail
  refine (bucket_any n (by omega) _).mono ?_
  rintro e w' ⟨rfl, rfl⟩
  rw [hbl]
  go_wp2_with fail
  refine (HBh.out _).mono ?_
  rintro e w' ⟨rfl, rfl⟩
  go_wp2_with fail
  refine (HKh.out _).mono ?_
  rintro e w' ⟨rfl, rfl⟩
  go_wp2_with fail
  refine (HNh.out _).mono ?_
  rintro e w' ⟨rfl, rfl⟩
  go_wp2_with fail
  refine (HXh.out _).mono ?_
  rintro e w' ⟨rfl, rfl⟩
  go_wp2_with fail
  refine (HYh.out _).mono ?_
  rintro e w' ⟨rfl, rfl⟩
  go_wp2_with fail
  refine (HUh.out _).mono ?_
  rintro e w' ⟨rfl, rfl⟩
  go_wp2_with fail
  refine (HVh.out _).mono ?_
  rintro e w' ⟨rfl, rfl⟩
  go_wp2_with fail
  refine (HV1h.out _).mono ?_
  rintro e w' ⟨rfl, rfl⟩
  go_wp2_with fail
  refine (awake_any _).mono ?_
  rintro e w' ⟨rfl, rfl⟩
  go_wp2_with fail
  go_ret
  exact ⟨rfl, rfl⟩
theorem coreM (n B X Y U V : Nat) (i : Nat) (i1 : 1 ≤ i) (i2 : i < 64) (HB : ∀ w : World, Calls Try.prog 49 #[.int .i64 (B : Int)] w fun e w' => e = .returned (.tuple #[.int .u64 X, .int .u64 Y, .bool true]) ∧ w = w') (HN : ∀ w : World, Calls Try.prog 50 #[.int .u64 n] w fun e w' => e = .returned (.int .i64 B) ∧ w = w') (HX : ∀ w : World, Calls Try.prog 50 #[.int .u64 X] w fun e w' => e = .returned (.int .i64 B) ∧ w = w') (HY : ∀ w : World, Calls Try.prog 50 #[.int .u64 Y] w fun e w' => e = .returned (.int .i64 B) ∧ w = w') (HK : ∀ w : World, Calls Try.prog 49 #[.int .i64 (i : Int)] w fun e w' => e = .returned (.tuple #[.int .u64 U, .int .u64 V, .bool true]) ∧ w = w') (HU : ∀ w : World, Calls Try.prog 50 #[.int .u64 U] w fun e w' => e = .returned (.int .i64 (i : Int)) ∧ w = w') (HV : ∀ w : World, Calls Try.prog 50 #[.int .u64 V] w fun e w' => e = .returned (.int .i64 (i : Int)) ∧ w = w') (HU1 : ∀ w : World, Calls Try.prog 50 #[.int .u64 ((U : Int) - 1)] w fun e w' => e = .returned (.int .i64 ((i : Int) - 1)) ∧ w = w') (hU : 1 ≤ U) (hU2 : U < 18446744073709551616) (HV1 : ∀ w : World, Calls Try.prog 50 #[.int .u64 ((V : Int) + 1)] w fun e w' => e = .returned (.int .i64 ((i : Int) + 1)) ∧ w = w') (hV : V < 18446744073709551615) (h1 : X ≤ n) (h2 : n ≤ Y) (hB : B ≤ 64) (hn : n < 18446744073709551616) (hbl : Lib.bitLen n = B) (w : World) :
    Calls Try.prog 13 #[.int .u64 n, .int .i64 (i : Int)] w fun e w' => e = .returned (.bool true) ∧ w = w' := by
  have q1 : ((B : Int) != (B : Int)) = false := by simp
  have q2 : decide ((n : Int) < (X : Int)) = false := by simp; omega
  have q3 : decide ((Y : Int) < (n : Int)) = false := by simp; omega
  have HBh := Lib.hid HB
  have HNh := Lib.hid HN
  have HXh := Lib.hid HX
  have HYh := Lib.hid HY
  have HKh := Lib.hid HK
  have HUh := Lib.hid HU
  have HVh := Lib.hid HV
  have HU1h := Lib.hid HU1
  have HV1h := Lib.hid HV1
  clear HB HN HX HY HK HU HV HU1 HV1
  have q4 : ((i : Int) == (i : Int)) = true := by simp
  have q5 : ((i : Int) == 0) = false := by simp; omega
  have q6 : ((i : Int) == 64) = false := by simp; omega
  have q7 : ((i : Int) - 1 == (i : Int) - 1) = true := by simp
  have q8 : ((i : Int) + 1 == (i : Int) + 1) = true := by simp
  go_enter Try.func13, Try.ntmps13
  go_wp2_with fail
  refine (bucket_any n (by omega) _).mono ?_
  rintro e w' ⟨rfl, rfl⟩
  rw [hbl]
  go_wp2_with fail
  refine (HBh.out _).mono ?_
  rintro e w' ⟨rfl, rfl⟩
  go_wp2_with fail
  refine (HKh.out _).mono ?_
  rintro e w' ⟨rfl, rfl⟩
  go_wp2_with fail
  refine (HNh.out _).mono ?_
  rintro e w' ⟨rfl, rfl⟩
  go_wp2_with fail
  refine (HXh.out _).mono ?_
  rintro e w' ⟨rfl, rfl⟩
  go_wp2_with fail
  refine (HYh.out _).mono ?_
  rintro e w' ⟨rfl, rfl⟩
  go_wp2_with fail
  refine (HUh.out _).mono ?_
  rintro e w' ⟨rfl, rfl⟩
  go_wp2_with fail
  refine (HVh.out _).mono ?_
  rintro e w' ⟨rfl, rfl⟩
  go_wp2_with fail
  refine (HU1h.out _).mono ?_
  rintro e w' ⟨rfl, rfl⟩
  go_wp2_with fail
  refine (HV1h.out _).mono ?_
  rintro e w' ⟨rfl, rfl⟩
  go_wp2_with fail
  refine (awake_any _).mono ?_
  rintro e w' ⟨rfl, rfl⟩
  go_wp2_with fail
  go_ret
  exact ⟨rfl, rfl⟩
theorem coreT (n B X Y U V : Nat)  (HB : ∀ w : World, Calls Try.prog 49 #[.int .i64 (B : Int)] w fun e w' => e = .returned (.tuple #[.int .u64 X, .int .u64 Y, .bool true]) ∧ w = w') (HN : ∀ w : World, Calls Try.prog 50 #[.int .u64 n] w fun e w' => e = .returned (.int .i64 B) ∧ w = w') (HX : ∀ w : World, Calls Try.prog 50 #[.int .u64 X] w fun e w' => e = .returned (.int .i64 B) ∧ w = w') (HY : ∀ w : World, Calls Try.prog 50 #[.int .u64 Y] w fun e w' => e = .returned (.int .i64 B) ∧ w = w') (HK : ∀ w : World, Calls Try.prog 49 #[.int .i64 64] w fun e w' => e = .returned (.tuple #[.int .u64 U, .int .u64 V, .bool true]) ∧ w = w') (HU : ∀ w : World, Calls Try.prog 50 #[.int .u64 U] w fun e w' => e = .returned (.int .i64 64) ∧ w = w') (HV : ∀ w : World, Calls Try.prog 50 #[.int .u64 V] w fun e w' => e = .returned (.int .i64 64) ∧ w = w') (HU1 : ∀ w : World, Calls Try.prog 50 #[.int .u64 ((U : Int) - 1)] w fun e w' => e = .returned (.int .i64 63) ∧ w = w') (hU : 1 ≤ U) (hU2 : U < 18446744073709551616) (h1 : X ≤ n) (h2 : n ≤ Y) (hB : B ≤ 64) (hn : n < 18446744073709551616) (hbl : Lib.bitLen n = B) (w : World) :
    Calls Try.prog 13 #[.int .u64 n, .int .i64 64] w fun e w' => e = .returned (.bool true) ∧ w = w' := by
  have q1 : ((B : Int) != (B : Int)) = false := by simp
  have q2 : decide ((n : Int) < (X : Int)) = false := by simp; omega
  have q3 : decide ((Y : Int) < (n : Int)) = false := by simp; omega
  have HBh := Lib.hid HB
  have HNh := Lib.hid HN
  have HXh := Lib.hid HX
  have HYh := Lib.hid HY
  have HKh := Lib.hid HK
  have HUh := Lib.hid HU
  have HVh := Lib.hid HV
  have HU1h := Lib.hid HU1
  clear HB HN HX HY HK HU HV HU1
  go_enter Try.func13, Try.ntmps13
  go_wp2_with fail
  refine (bucket_any n (by omega) _).mono ?_
  rintro e w' ⟨rfl, rfl⟩
  rw [hbl]
  go_wp2_with fail
  refine (HBh.out _).mono ?_
  rintro e w' ⟨rfl, rfl⟩
  go_wp2_with fail
  refine (HKh.out _).mono ?_
  rintro e w' ⟨rfl, rfl⟩
  go_wp2_with fail
  refine (HNh.out _).mono ?_
  rintro e w' ⟨rfl, rfl⟩
  go_wp2_with fail
  refine (HXh.out _).mono ?_
  rintro e w' ⟨rfl, rfl⟩
  go_wp2_with fail
  refine (HYh.out _).mono ?_
  rintro e w' ⟨rfl, rfl⟩
  go_wp2_with fail
  refine (HUh.out _).mono ?_
  rintro e w' ⟨rfl, rfl⟩
  go_wp2_with fail
  refine (HVh.out _).mono ?_
  rintro e w' ⟨rfl, rfl⟩
  go_wp2_with fail
  refine (HU1h.out _).mono ?_
  rintro e w' ⟨rfl, rfl⟩
  go_wp2_with fail
  refine (awake_any _).mono ?_
  rintro e w' ⟨rfl, rfl⟩
  go_wp2_with fail
  go_ret
  exact ⟨rfl, rfl⟩
/-- The bucket of a number, with its bounds. -/
theorem bounds_of (n : Nat) (h : n < 18446744073709551616) : ∃ X Y : Nat, X ≤ n ∧ n ≤ Y ∧ X < 18446744073709551616 ∧ Y < 18446744073709551616 ∧ Lib.bitLen X = Lib.bitLen n ∧ Lib.bitLen Y = Lib.bitLen n ∧ (∀ w : World, Calls Try.prog 49 #[.int .i64 (Lib.bitLen n : Int)] w fun e w' => e = .returned (.tuple #[.int .u64 X, .int .u64 Y, .bool true]) ∧ w = w') := by
  obtain ⟨a, b, c, d⟩ := bl_in 64 n h (by omega)
  by_cases hn : n = 0
  · subst hn
    exact ⟨0, 0, by omega, by omega, by omega, by omega, rfl, rfl, fun w => bounds_zero w⟩
  · have d' := d hn
    have b' := b hn
    obtain ⟨j, hj⟩ : ∃ j, Lib.bitLen n = j + 1 := ⟨Lib.bitLen n - 1, by omega⟩
    rw [hj] at a b' c ⊢
    have hp2 : 2 ^ (j + 1) ≤ 2 ^ 64 := Nat.pow_le_pow_right (by decide) c
    have hp : 2 ^ j < 2 ^ 64 := Nat.pow_lt_pow_right (by decide) (by omega)
    refine ⟨2 ^ j, 2 ^ (j + 1) - 1, by simpa using b', by omega, hp, by omega, bl_pow j (by omega), bl_ones (j + 1) c, fun w => ?_⟩
    have := bounds_pos j (by omega) w
    simpa using this
theorem law_any (n : Nat) (k : Int) (h : n < 18446744073709551616) (k0 : -9223372036854775808 ≤ k) (k1 : k < 9223372036854775808) (w : World) :
    Calls Try.prog 13 #[.int .u64 n, .int .i64 k] w fun e w' => e = .returned (.bool true) ∧ w = w' := by
  obtain ⟨X, Y, h1, h2, h3, h4, h5, h6, HB⟩ := bounds_of n h
  have hB := (bl_in 64 n h (by omega)).2.2.1
  have HN := fun w => lawbucket_any n h w
  have HX := fun w => lawbucket_any X h3 w
  have HY := fun w => lawbucket_any Y h4 w
  rw [h5] at HX
  rw [h6] at HY
  by_cases hk : k < 0 ∨ 65 ≤ k
  · exact coreO n _ X Y 0 0 k hk HB HN HX HY (fun w => bounds_no k hk w) h1 h2 hB h rfl w
  · obtain ⟨i, rfl⟩ := Int.eq_ofNat_of_zero_le (by omega : 0 ≤ k)
    have hi : i ≤ 64 := by omega
    rcases Nat.eq_zero_or_pos i with rfl | hi0
    · have z := fun w => lawbucket_any 0 (by omega) w
      have o := fun w => lawbucket_any 1 (by omega) w
      exact coreZ n _ X Y 0 0 HB HN HX HY (fun w => bounds_zero w) z z o (by omega) h1 h2 hB h rfl w
    · obtain ⟨j, rfl⟩ : ∃ j, i = j + 1 := ⟨i - 1, by omega⟩
      have hp2 : 2 ^ (j + 1) ≤ 2 ^ 64 := Nat.pow_le_pow_right (by decide) hi
      have hp : 2 ^ j < 2 ^ 64 := Nat.pow_lt_pow_right (by decide) (by omega)
      have hp0 := Nat.two_pow_pos j
      have hps : 2 ^ (j + 1) = 2 * 2 ^ j := by rw [Nat.pow_succ]; omega
      have HK := fun w => bounds_pos j (by omega) w
      have HU := fun w => lawbucket_any (2 ^ j) hp w
      rw [bl_pow j (by omega)] at HU
      have HV := fun w => lawbucket_any (2 ^ (j + 1) - 1) (by omega) w
      rw [bl_ones (j + 1) hi] at HV
      have HU1 := fun w => lawbucket_any (2 ^ j - 1) (by omega) w
      rw [bl_ones j (by omega), show ((2 ^ j - 1 : Nat) : Int) = ((2 ^ j : Nat) : Int) - 1 by omega] at HU1
      by_cases ht : j + 1 = 64
      · obtain rfl : j = 63 := by omega
        exact coreT n _ X Y _ _ HB HN HX HY HK HU HV HU1 (by omega) (by omega) h1 h2 hB h rfl w
      · have hj : 2 ^ (j + 1) < 2 ^ 64 := Nat.pow_lt_pow_right (by decide) (by omega)
        have HV1 := fun w => lawbucket_any (2 ^ (j + 1)) (by omega) w
        rw [bl_pow (j + 1) (by omega), show ((2 ^ (j + 1) : Nat) : Int) = ((2 ^ (j + 1) - 1 : Nat) : Int) + 1 by omega] at HV1
        have e : ((j + 1 : Nat) : Int) - 1 = (j : Int) := by omega
        rw [← e] at HU1
        have e2 : ((j + 1 : Nat) : Int) = (j : Int) + 1 := by omega
        rw [← e2] at HK
        have e3 : ((j + 1 + 1 : Nat) : Int) = ((j + 1 : Nat) : Int) + 1 := by omega
        rw [e3] at HV1
        exact coreM n _ X Y _ _ (j + 1) (by omega) (by omega) HB HN HX HY HK HU HV HU1 (by omega) (by omega) HV1 (by omega) h1 h2 hB h rfl w
end Go.Proofs.Ythbmgeggnkeejaa.histB
