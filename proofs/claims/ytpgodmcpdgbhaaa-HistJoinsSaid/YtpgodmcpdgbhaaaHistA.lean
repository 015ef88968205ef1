/- Layer 38: buckets: how many bits. -/
import Derived.Test.YtpgodmcpdgbhaaaBase
import Derived.Test.YtpgodmcpdgbhaaaKeep
import Derived.Test.YtpgodmcpdgbhaaaShelf
import Derived.Lib.BitFns
namespace Go.Proofs.Ytpgodmcpdgbhaaa.histA
open Go.ChangeShapes Go.WideShapes Go.ChangeAt Go.RowKit
open Go.Proofs.Ytpgodmcpdgbhaaa.base
set_option linter.unusedVariables false

theorem bl_zero : Lib.bitLen 0 = 0 := by decide
theorem bl_pow (k : Nat) (h : k < 64) : Lib.bitLen (2 ^ k) = k + 1 := by
  have hp : 2 ^ k < 2 ^ 64 := Nat.pow_lt_pow_right (by decide) h
  rw [Lib.bitLen_shift k (2 ^ k) (Nat.le_refl _) hp, Nat.div_self (Nat.two_pow_pos k)]
  rfl
theorem bl_ones (k : Nat) (h : k ≤ 64) : Lib.bitLen (2 ^ k - 1) = k := by
  induction k with
  | zero => decide
  | succ k ih =>
    have hp : 2 ^ (k + 1) ≤ 2 ^ 64 := Nat.pow_le_pow_right (by decide) h
    have h0 := Nat.two_pow_pos k
    have e : 2 ^ (k + 1) = 2 * 2 ^ k := by rw [Nat.pow_succ]; omega
    rw [Lib.bitLen_half _ (by omega) (by omega), e, show (2 * 2 ^ k - 1) / 2 = 2 ^ k - 1 by omega, ih (by omega)]
    omega
theorem bl_in (f : Nat) : ∀ n : Nat, n < 2 ^ f → f ≤ 64 → n < 2 ^ Lib.bitLen n ∧ (n ≠ 0 → 2 ^ (Lib.bitLen n - 1) ≤ n) ∧ Lib.bitLen n ≤ f ∧ (n ≠ 0 → 1 ≤ Lib.bitLen n) := by
  induction f with
  | zero => intro n h _; obtain rfl : n = 0 := by simpa using h
            rw [bl_zero]; simp
  | succ f ih =>
    intro n h hf
    by_cases hn : n = 0
    · subst hn; rw [bl_zero]; simp
    · have hp : 2 ^ (f + 1) ≤ 2 ^ 64 := Nat.pow_le_pow_right (by decide) hf
      have h2 : n / 2 < 2 ^ f := by rw [Nat.pow_succ] at h; omega
      obtain ⟨a, b, c, d⟩ := ih (n / 2) h2 (by omega)
      rw [Lib.bitLen_half n hn (by omega)]
      refine ⟨?_, fun _ => ?_, by omega, fun _ => by omega⟩
      · rw [Nat.add_comm, Nat.pow_succ]; omega
      · by_cases h1 : n / 2 = 0
        · rw [h1, bl_zero]; simp; omega
        · have d' := d h1
          have b' := b h1
          rw [show 1 + Lib.bitLen (n / 2) - 1 = Lib.bitLen (n / 2) - 1 + 1 by omega, Nat.pow_succ]
          omega
theorem len64_any (n : Nat) (h : n < 18446744073709551616) (w : World) :
    Calls Try.prog 45 #[.int .u64 n] w fun e w' => e = .returned (.int .i64 (Lib.bitLen n)) ∧ w = w' :=
  (Try.bits_Len64 (n : Int) w (by omega) (by omega)).mono fun e w' ⟨he, hw⟩ => ⟨by rw [he, Int.toNat_natCast], hw.symm⟩
theorem bucket_any (n : Nat) (h : n < 18446744073709551616) (w : World) :
    Calls Try.prog 30 #[.int .u64 n] w fun e w' => e = .returned (.int .i64 (Lib.bitLen n)) ∧ w = w' := by
  go_enter Try.func30, Try.ntmps30
  go_wp2_with (go_at_call 45; refine (len64_any n h _).mono ?_; rintro e w' ⟨rfl, rfl⟩)
  go_ret
  exact ⟨rfl, rfl⟩
theorem bounds_no (k : Int) (h : k < 0 ∨ 65 ≤ k) (w : World) :
    Calls Try.prog 40 #[.int .i64 k] w fun e w' => e = .returned (.tuple #[.int .u64 0, .int .u64 0, .bool false]) ∧ w = w' := by
  rcases h with h | h
  all_goals
    go_enter Try.func40, Try.ntmps40
    go_wp2
    exact bodyPost_ret (v := .tuple #[.int .u64 0, .int .u64 0, .bool false]) (by simp [results, Try.results40, go_sem]) rfl ⟨rfl, rfl⟩
theorem bounds_zero (w : World) :
    Calls Try.prog 40 #[.int .i64 0] w fun e w' => e = .returned (.tuple #[.int .u64 0, .int .u64 0, .bool true]) ∧ w = w' := by
  go_enter Try.func40, Try.ntmps40
  go_wp2
  exact bodyPost_ret (v := .tuple #[.int .u64 0, .int .u64 0, .bool true]) (by simp [results, Try.results40, go_sem]) rfl ⟨rfl, rfl⟩
theorem bounds_pos (j : Nat) (h : j < 64) (w : World) :
    Calls Try.prog 40 #[.int .i64 ((j : Int) + 1)] w fun e w' => e = .returned (.tuple #[.int .u64 ((2 ^ j : Nat) : Int), .int .u64 ((2 ^ (j + 1) - 1 : Nat) : Int), .bool true]) ∧ w = w' := by
  have t0 : ((j : Int) + 1 == 0) = false := by simp; omega
  have hp : 2 ^ j < 2 ^ 64 := Nat.pow_lt_pow_right (by decide) h
  have hp2 : 2 ^ (j + 1) ≤ 2 ^ 64 := Nat.pow_le_pow_right (by decide) h
  have hp0 := Nat.two_pow_pos j
  go_enter Try.func40, Try.ntmps40
  go_wp2
  have e1 : IntKind.u64.wrap ((2 : Int) ^ j) = ((2 ^ j : Nat) : Int) := by
    have e : (2 : Int) ^ j = ((2 ^ j : Nat) : Int) := by rw [Int.natCast_pow]; rfl
    rw [e, IntKind.wrap_u64]; generalize 2 ^ j = p at *; omega
  have e3 : 2 ^ (j + 1) - 1 = 2 ^ j + (2 ^ j - 1) := by rw [Nat.pow_succ]; omega
  have e2 : IntKind.u64.wrap (IntKind.u64.wrap ((2 : Int) ^ j) + IntKind.u64.wrap (IntKind.u64.wrap ((2 : Int) ^ j) - 1)) = ((2 ^ (j + 1) - 1 : Nat) : Int) := by
    rw [e1, e3, IntKind.wrap_u64, IntKind.wrap_u64]; rw [Nat.pow_succ] at hp2; generalize 2 ^ j = p at *; omega
  refine bodyPost_ret (v := .tuple #[.int .u64 (IntKind.u64.wrap (2 ^ j)), .int .u64 (IntKind.u64.wrap (IntKind.u64.wrap (2 ^ j) + IntKind.u64.wrap (IntKind.u64.wrap (2 ^ j) - 1))), .bool true]) (by simp [results, Try.results40, go_sem]) rfl ⟨?_, rfl⟩
  rw [e2, e1]
theorem lawbucket_any (n : Nat) (h : n < 18446744073709551616) (w : World) :
    Calls Try.prog 39 #[.int .u64 n] w fun e w' => e = .returned (.int .i64 (Lib.bitLen n)) ∧ w = w' := by
  go_enter Try.func39, Try.ntmps39
  go_wp2_with fail
  go_loop [0, 3, 4] (fun v c i => ∃ k x : Nat, k ≤ 64 ∧ i = .int .i64 k ∧ c = .int .i64 k ∧ v = .int .u64 x ∧ x = n / 2 ^ k ∧ Lib.bitLen n = k + Lib.bitLen x) (fun _ _ i => 64 - (intOf i).toNat)
  case atStart => exact ⟨0, n, by omega, rfl, rfl, rfl, by simp, by simp⟩
  case round =>
    obtain ⟨k, x, hk, rfl, rfl, rfl, hx, hb⟩ := hrel
    by_cases hlt : k < 64
    · by_cases hz : x = 0
      · rw [hz, bl_zero] at hb
        have HB := Lib.hid hb
        have t : decide (0 < x) = false := by simp; omega
        clear hx hb hz
        go_wp2_with fail
        go_ret
        exact ⟨by rw [HB.out]; simp, rfl⟩
      · have hxl : x < 2 ^ 64 := by rw [hx]; exact Nat.lt_of_le_of_lt (Nat.div_le_self _ _) h
        have hb2 : Lib.bitLen n = k + 1 + Lib.bitLen (x / 2) := by rw [hb, Lib.bitLen_half x hz hxl]; omega
        have hx2 : x / 2 = n / 2 ^ (k + 1) := by rw [hx, Nat.div_div_eq_div_mul, Nat.pow_succ]
        have t : decide (0 < x) = true := by simp; omega
        have t2 : 0 < x := by omega
        have HB := Lib.hid hb2
        have HX := Lib.hid hx2
        clear hx hb hz hb2 hx2
        go_wp2_with fail
        go_round
        case rel => exact ⟨k + 1, x / 2, by omega, by go_num, by go_num, by first | rfl | go_num, HX.out, HB.out⟩
        case measure => simp [intOf]; omega
    · have hz : x = 0 := by
        obtain rfl : k = 64 := by omega
        rw [hx]; exact Nat.div_eq_of_lt h
      rw [hz, bl_zero] at hb
      have HB := Lib.hid hb
      clear hx hb hz
      go_wp2_with fail
      go_ret
      exact ⟨by rw [HB.out]; simp, rfl⟩
end Go.Proofs.Ytpgodmcpdgbhaaa.histA
