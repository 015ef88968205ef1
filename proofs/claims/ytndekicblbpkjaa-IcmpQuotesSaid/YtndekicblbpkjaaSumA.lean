/- Layer 4: sums of words. -/
import Derived.Test.YtndekicblbpkjaaBase
namespace Go.Proofs.Ytndekicblbpkjaa.sumA
open Go.ChangeShapes Go.WideShapes Go.ChangeAt Go.RowKit
open Go.Proofs.Ytndekicblbpkjaa.base
set_option linter.unusedVariables false

/-- A number with all above 16 bits added again. -/
def fo (n : Int) : Int := if n = 0 then 0 else (n - 1) % 65535 + 1
theorem fo_small {n : Int} (h0 : 0 ≤ n) (h1 : n ≤ 65535) : fo n = n := by unfold fo; split <;> omega
theorem fo_step {n : Int} (h1 : 65535 < n) : fo (n / 65536 + n % 65536) = fo n := by unfold fo; split <;> split <;> omega
theorem fo_bd (n : Int) (h0 : 0 ≤ n) : 0 ≤ fo n ∧ fo n ≤ 65535 := by unfold fo; split <;> omega
theorem fo_zero {n : Int} (h0 : 0 ≤ n) : fo n = 0 ↔ n = 0 := by unfold fo; split <;> omega
theorem fo_mod {n : Int} (h0 : 0 ≤ n) : fo n % 65535 = n % 65535 := by unfold fo; split <;> omega
theorem fo_add {x t : Int} (hx : 0 ≤ x) (ht : 0 ≤ t) : fo (fo x + t) = fo (x + t) := by unfold fo; split <;> split <;> split <;> omega
theorem and_low16 (z : Int) (h0 : 0 ≤ z) (h1 : z < 18446744073709551616) : bits .and .u64 z 65535 = z % 65536 := by
  obtain ⟨m, rfl⟩ := Int.eq_ofNat_of_zero_le h0
  have h := u64_and_nat m 65535 (by omega) (by omega)
  have e : m &&& 65535 = m % 65536 := Nat.and_two_pow_sub_one_eq_mod m 16
  rw [e] at h
  simpa using h

theorem not16 (c : Int) (h0 : 0 ≤ c) (h1 : c ≤ 65535) : bits BinOp.xor IntKind.u16 IntKind.u16.max c = 65535 - c := by
  obtain ⟨m, rfl⟩ := Int.eq_ofNat_of_zero_le h0
  have h := u16_xor_nat 65535 m (by omega) (by omega)
  have e : 65535 ^^^ m = 65535 - m := by
    have h2 : (65535 : Nat) = 2 ^ 16 - 1 := by decide
    have h3 : m < 2 ^ 16 := by omega
    apply Nat.eq_of_testBit_eq
    intro i
    rw [Nat.testBit_xor, h2, show 2 ^ 16 - 1 - m = 2 ^ 16 - (m + 1) by omega, Nat.testBit_two_pow_sub_succ h3, Nat.testBit_two_pow_sub_one]
    by_cases hi : i < 16
    · simp [hi]
    · have : m.testBit i = false := Nat.testBit_lt_two_pow (Nat.lt_of_lt_of_le h3 (Nat.pow_le_pow_right (by omega) (by omega)))
      simp [hi, this]
  rw [e] at h
  have e2 : IntKind.u16.max = ((65535 : Nat) : Int) := by decide
  rw [e2, h]
  omega
theorem fold_any (n : Int) (h0 : 0 ≤ n) (h1 : n < 18446744073709551616) (w : World) :
    Calls Try.prog 104 #[.int .u64 n] w fun e w' => e = .returned (.int .u16 (fo n)) ∧ w = w' := by
  go_enter Try.func104, Try.ntmps104
  go_wp2
  go_loop [0] (fun t => ∃ v : Int, t = .int .u64 v ∧ 0 ≤ v ∧ v < 18446744073709551616 ∧ Hid (fo v = fo n)) (fun t => (intOf t).toNat)
  case atStart => exact ⟨n, rfl, h0, h1, rfl⟩
  case round =>
    obtain ⟨v, rfl, v0, v1, hv⟩ := hrel
    have hand := and_low16 v v0 v1
    by_cases hlt : 65535 < v
    · have hf := fo_step hlt
      have HF := Lib.hid hf
      clear hf
      go_wp2
      go_round
      case rel => exact ⟨_, rfl, by omega, by omega, HF.out.trans hv.out⟩
      case measure => simp [intOf]; omega
    · have e : fo v = v := fo_small v0 (by omega)
      have hv' : fo n = v := by rw [← hv.out, e]
      have HV := Lib.hid hv'
      clear hv e hv'
      go_wp2
      go_ret
      exact ⟨by rw [HV.out]; rfl, rfl⟩

end Go.Proofs.Ytndekicblbpkjaa.sumA
