/- A division's words, shifted until the highest bit of what is divided by stands (no walk). -/
import Derived.Test.YtpgodmcpdgbhaaaDivA
import Derived.Test.YtpgodmcpdgbhaaaMixA
import Derived.Test.YtpgodmcpdgbhaaaWideB
import Derived.Lib.BitFns
import Derived.Lib.ItoaNum
namespace Go.Proofs.Ytpgodmcpdgbhaaa.divB
open Go.Proofs.Ytpgodmcpdgbhaaa.wideB
set_option linter.unusedVariables false

theorem norm_y {y : Nat} (h0 : 0 < y) (h1 : y < 18446744073709551616) : ∃ s : Nat, s ≤ 63 ∧ (64 : Int) - (Lib.bitLen y : Int) = (s : Int) ∧ 9223372036854775808 ≤ y * 2 ^ s ∧ y * 2 ^ s < 18446744073709551616 := by
  obtain ⟨b1, b2, b3⟩ := Lib.bitLenAux_bounds 64 y (by omega) (by omega)
  have e : Lib.bitLen y = Lib.bitLenAux 64 y := rfl
  rw [← e] at b1 b2 b3
  generalize Lib.bitLen y = L at *
  have hL : L ≤ 64 := by
    rcases Nat.lt_or_ge 64 L with h | h
    · have := Nat.pow_le_pow_right (n := 2) (by omega) (show 64 ≤ L - 1 by omega)
      omega
    · exact h
  refine ⟨64 - L, by omega, by omega, ?_, ?_⟩
  · have h2 : 2 ^ (L - 1) * 2 ^ (64 - L) = 9223372036854775808 := by
      rw [← Nat.pow_add, show L - 1 + (64 - L) = 63 by omega]
    rw [← h2]
    exact Nat.mul_le_mul_right _ b2
  · have h2 : 2 ^ L * 2 ^ (64 - L) = 18446744073709551616 := by
      rw [← Nat.pow_add, show L + (64 - L) = 64 by omega]
    rw [← h2]
    exact Nat.mul_lt_mul_of_pos_right b3 (Nat.two_pow_pos _)
theorem lo_high (lo s : Nat) (hs : s ≤ 63) : lo * 2 ^ s / 18446744073709551616 = lo / 2 ^ (64 - s) := by
  have e : 18446744073709551616 = 2 ^ (64 - s) * 2 ^ s := by rw [← Nat.pow_add, show 64 - s + s = 64 by omega]
  rw [e]
  exact Nat.mul_div_mul_right _ _ (Nat.two_pow_pos _)
theorem hi_word (hi lo y s : Nat) (hs : s ≤ 63) (hlo : lo < 18446744073709551616) (hhi : hi < y) (hy : y * 2 ^ s < 18446744073709551616) :
    bits .or .u64 (IntKind.u64.wrap ((hi : Int) * 2 ^ s)) ((lo : Int) / 2 ^ (64 - s)) = (((hi * 18446744073709551616 + lo) * 2 ^ s / 18446744073709551616 : Nat) : Int) ∧
      IntKind.u64.wrap ((lo : Int) * 2 ^ s) = (((hi * 18446744073709551616 + lo) * 2 ^ s % 18446744073709551616 : Nat) : Int) ∧ (hi * 18446744073709551616 + lo) * 2 ^ s / 18446744073709551616 < y * 2 ^ s := by
  have e1 : (hi : Int) * 2 ^ s = ((hi * 2 ^ s : Nat) : Int) := by rw [Int.natCast_mul, Int.natCast_pow]; rfl
  have e2 : (lo : Int) * 2 ^ s = ((lo * 2 ^ s : Nat) : Int) := by rw [Int.natCast_mul, Int.natCast_pow]; rfl
  have e3 : (lo : Int) / 2 ^ (64 - s) = ((lo / 2 ^ (64 - s) : Nat) : Int) := by rw [Int.natCast_ediv, Int.natCast_pow]; rfl
  have hle : (hi + 1) * 2 ^ s ≤ y * 2 ^ s := Nat.mul_le_mul_right _ hhi
  rw [Nat.add_mul, Nat.one_mul] at hle
  have hlow : lo / 2 ^ (64 - s) < 2 ^ s := by
    rw [Nat.div_lt_iff_lt_mul (Nat.two_pow_pos _), ← Nat.pow_add, show s + (64 - s) = 64 by omega]
    exact hlo
  have hsplit : (hi * 18446744073709551616 + lo) * 2 ^ s = hi * 2 ^ s * 18446744073709551616 + lo * 2 ^ s := by
    rw [Nat.add_mul, Nat.mul_assoc, Nat.mul_comm 18446744073709551616, ← Nat.mul_assoc]
  have hq : (hi * 18446744073709551616 + lo) * 2 ^ s / 18446744073709551616 = hi * 2 ^ s + lo / 2 ^ (64 - s) := by
    rw [hsplit, Nat.add_comm, Nat.add_mul_div_right _ _ (by omega), lo_high lo s hs, Nat.add_comm]
  have hr : (hi * 18446744073709551616 + lo) * 2 ^ s % 18446744073709551616 = lo * 2 ^ s % 18446744073709551616 := by
    rw [hsplit, Nat.add_comm, Nat.add_mul_mod_self_right]
  rw [hq, hr, e1, e2, e3]
  have hor : hi * 2 ^ s ||| lo / 2 ^ (64 - s) = hi * 2 ^ s + lo / 2 ^ (64 - s) := by
    rw [← Nat.shiftLeft_eq, ← Nat.shiftLeft_add_eq_or_of_lt hlow]
  generalize hi * 2 ^ s = a at *
  generalize lo * 2 ^ s = b at *
  generalize lo / 2 ^ (64 - s) = d at *
  generalize 2 ^ s = p at *
  refine ⟨?_, ?_, by omega⟩
  · have ew : IntKind.u64.wrap (a : Int) = (a : Int) := by rw [IntKind.wrap_u64]; omega
    rw [ew, u64_or _ _ (by omega) (by omega) (by omega) (by omega), Int.toNat_natCast, Int.toNat_natCast, hor]
  · rw [IntKind.wrap_u64]
    omega
end Go.Proofs.Ytpgodmcpdgbhaaa.divB
