/- Layer 38: the law on buckets. -/
import Derived.Test.YtpgodmcpdgbhaaaHistA
namespace Go.Proofs.Ytpgodmcpdgbhaaa.histB
open Go.ChangeShapes Go.WideShapes Go.ChangeAt Go.RowKit
open Go.Proofs.Ytpgodmcpdgbhaaa.base Go.Proofs.Ytpgodmcpdgbhaaa.histA
set_option linter.unusedVariables false

theorem awake_any (w : World) :
    Calls Try.prog 21 #[] w fun e w' => e = .returned (.bool true) ∧ w = w' := by
  go_enter Try.func21, Try.ntmps21
  go_wp2_with fail
  refine (bounds_pos 2 (by omega) _).mono ?_
  rintro e w' ⟨rfl, rfl⟩
  go_wp2_with fail
  refine (bucket_any 5 (by omega) _).mono ?_
  rintro e w' ⟨rfl, rfl⟩
  rw [show Lib.bitLen 5 = 3 by decide]
  go_wp2_with fail
  go_ret
  exact ⟨rfl, rfl⟩
/-- The bucket of a number, with its bounds. -/
theorem bounds_of (n : Nat) (h : n < 18446744073709551616) : ∃ X Y : Nat, X ≤ n ∧ n ≤ Y ∧ X < 18446744073709551616 ∧ Y < 18446744073709551616 ∧ Lib.bitLen X = Lib.bitLen n ∧ Lib.bitLen Y = Lib.bitLen n ∧ (∀ w : World, Calls Try.prog 40 #[.int .i64 (Lib.bitLen n : Int)] w fun e w' => e = .returned (.tuple #[.int .u64 X, .int .u64 Y, .bool true]) ∧ w = w') := by
  obtain ⟨a, b, c, d⟩ := bl_in 64 n h (by omega)
  by_cases hn : n = 0
  · subst hn
    exact ⟨0, 0, by omega, by omega, by omega, by omega, rfl, rfl, fun w => bounds_zero w⟩
  · have d' := d hn
    have b' := b hn
    obtain ⟨j, hj⟩ : ∃ j, Lib.bitLen n = j + 1 := ⟨Lib.bitLen n - 1, by omega⟩
    rw [hj] at a b' c ⊢
    have hp2 : 2 ^ (j + 1) ≤ 2 ^ 64 := Nat.pow_le_pow_right (by decide) c
    have hp : 2 ^ j < 2 ^ 64 := Nat.pow_lt_pow_right (by decide) (by omega)
    refine ⟨2 ^ j, 2 ^ (j + 1) - 1, by simpa using b', by omega, hp, by omega, bl_pow j (by omega), bl_ones (j + 1) c, fun w => ?_⟩
    have := bounds_pos j (by omega) w
    simpa using this
end Go.Proofs.Ytpgodmcpdgbhaaa.histB
