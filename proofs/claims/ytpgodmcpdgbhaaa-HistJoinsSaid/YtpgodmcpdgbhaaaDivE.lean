/- math/bits.Div64, and the division of a number of 128 bits. -/
import Derived.Test.YtpgodmcpdgbhaaaDivD
import Derived.Test.YtpgodmcpdgbhaaaWideD
namespace Go.Proofs.Ytpgodmcpdgbhaaa.divE
open Go.ChangeShapes Go.WideShapes Go.ChangeAt Go.RowKit
open Go.Proofs.Ytpgodmcpdgbhaaa.base Go.Proofs.Ytpgodmcpdgbhaaa.divA Go.Proofs.Ytpgodmcpdgbhaaa.divB Go.Proofs.Ytpgodmcpdgbhaaa.divC Go.Proofs.Ytpgodmcpdgbhaaa.divD Go.Proofs.Ytpgodmcpdgbhaaa.mixB Go.Proofs.Ytpgodmcpdgbhaaa.wideB Go.Proofs.Ytpgodmcpdgbhaaa.wideD
set_option linter.unusedVariables false

theorem div64_full (hi lo y : Int) (h0 : 0 ≤ hi) (hlt : hi < y) (l0 : 0 ≤ lo) (l1 : lo < 18446744073709551616) (y1 : y < 18446744073709551616) (w : World) :
    Calls Try.prog 48 #[.int .u64 hi, .int .u64 lo, .int .u64 y] w fun e w' => e = .returned (.tuple #[.int .u64 ((hi * 18446744073709551616 + lo) / y), .int .u64 ((hi * 18446744073709551616 + lo) % y)]) ∧ Below w.heap.size w w' := by
  by_cases hz : hi = 0
  · subst hz
    have h := div64_small lo y l0 l1 hlt y1 w
    simpa using h
  · obtain ⟨hi, rfl⟩ := Int.eq_ofNat_of_zero_le h0
    obtain ⟨lo, rfl⟩ := Int.eq_ofNat_of_zero_le l0
    obtain ⟨y, rfl⟩ := Int.eq_ofNat_of_zero_le (by omega : 0 ≤ y)
    have hlt' : hi < y := by omega
    have l1' : lo < 18446744073709551616 := by omega
    have y1' : y < 18446744073709551616 := by omega
    have hp : 0 < hi := by omega
    obtain ⟨s, s63, hs, ys, ys1⟩ := norm_y (y := y) (by omega) y1'
    obtain ⟨g1, g2, g3⟩ := hi_word hi lo y s s63 l1' hlt' ys1
    have g4 : IntKind.u64.wrap ((y : Int) * 2 ^ s) = ((y * 2 ^ s : Nat) : Int) := by
      have e : (y : Int) * 2 ^ s = ((y * 2 ^ s : Nat) : Int) := by rw [Int.natCast_mul, Int.natCast_pow]; rfl
      rw [e, IntKind.wrap_u64]
      omega
    have hP : 0 < 2 ^ s := Nat.two_pow_pos s
    have hPc : ((2 ^ s : Nat) : Int) = 2 ^ s := by rw [Int.natCast_pow]; rfl
    have hYc : ((y * 2 ^ s : Nat) : Int) = (y : Int) * 2 ^ s := by rw [Int.natCast_mul, hPc]
    have hNc : (((hi * 18446744073709551616 + lo) * 2 ^ s : Nat) : Int) = ((hi : Int) * 18446744073709551616 + lo) * 2 ^ s := by rw [Int.natCast_mul, hPc]; rfl
    have hUW : (((hi * 18446744073709551616 + lo) * 2 ^ s / 18446744073709551616 : Nat) : Int) * 18446744073709551616 + (((hi * 18446744073709551616 + lo) * 2 ^ s % 18446744073709551616 : Nat) : Int) = ((hi : Int) * 18446744073709551616 + lo) * 2 ^ s := by rw [← hNc]; omega
    have hW9 : (hi * 18446744073709551616 + lo) * 2 ^ s % 18446744073709551616 < 18446744073709551616 := Nat.mod_lt _ (by omega)
    generalize hU : (hi * 18446744073709551616 + lo) * 2 ^ s / 18446744073709551616 = U at *
    generalize hW : (hi * 18446744073709551616 + lo) * 2 ^ s % 18446744073709551616 = W at *
    generalize hY : y * 2 ^ s = Y at *
    have a1 := and_low32 (Y : Int) (by omega) (by omega)
    have a2 := and_low32 (W : Int) (by omega) (by omega)
    obtain ⟨Q1, hQ1⟩ : ∃ q, ((U : Int) * 4294967296 + (W : Int) / 4294967296) / (Y : Int) = q := ⟨_, rfl⟩
    obtain ⟨V, hV⟩ : ∃ v, (U : Int) * 4294967296 + (W : Int) / 4294967296 - Q1 * (Y : Int) = v := ⟨_, rfl⟩
    obtain ⟨Q0, hQ0⟩ : ∃ q, (V * 4294967296 + (W : Int) % 4294967296) / (Y : Int) = q := ⟨_, rfl⟩
    obtain ⟨V2, hV2⟩ : ∃ v, V * 4294967296 + (W : Int) % 4294967296 - Q0 * (Y : Int) = v := ⟨_, rfl⟩
    have hd := digits (u := (U : Int)) (n1 := (W : Int) / 4294967296) (n0 := (W : Int) % 4294967296) (y := (Y : Int)) (q1 := Q1) (by omega) hQ1.symm
    have hN : (U : Int) * 18446744073709551616 + (W : Int) / 4294967296 * 4294967296 + (W : Int) % 4294967296 = ((hi : Int) * 18446744073709551616 + lo) * 2 ^ s := by rw [← hUW]; omega
    have hsc := scaled (a := (hi : Int) * 18446744073709551616 + lo) (y := (y : Int)) (s := (2 : Int) ^ s) (by rw [← hPc]; omega) (by omega)
    rw [hV, hQ0, hN, hYc] at hd
    have hV2' : V2 = ((hi : Int) * 18446744073709551616 + lo) * 2 ^ s % ((y : Int) * 2 ^ s) := by
      have e := Int.emod_add_mul_ediv (V * 4294967296 + (W : Int) % 4294967296) (Y : Int)
      rw [hQ0, Int.mul_comm (Y : Int) Q0, hYc] at e
      rw [hYc] at hV2
      have := hd.2
      omega
    have r1 : Q1 * 4294967296 + Q0 = ((hi : Int) * 18446744073709551616 + lo) / y := hd.1.trans hsc.1
    have r2 : V2 / 2 ^ s = ((hi : Int) * 18446744073709551616 + lo) % y := by rw [hV2']; exact hsc.2
    have h := core hi lo y s (U : Int) ((Y : Int) / 4294967296) ((Y : Int) % 4294967296) ((W : Int) / 4294967296) ((W : Int) % 4294967296) (W : Int) (Y : Int) Q1 Q0 V V2 hp hlt' l1' y1' hs s63 g4 rfl a1 g1 g2 rfl a2
      (by omega) (by omega) (by omega) (by omega) (by omega) (by omega) (by omega) (by omega) (by omega) (by omega) (by omega) hQ1 hV hQ0 hV2 w
    rw [r1, r2] at h
    exact h.mono fun e w' ⟨he, hw⟩ => ⟨he, hw ▸ Below.refl _ _⟩
end Go.Proofs.Ytpgodmcpdgbhaaa.divE
