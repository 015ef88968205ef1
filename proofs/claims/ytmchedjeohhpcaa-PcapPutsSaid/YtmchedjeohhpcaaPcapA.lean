/- Layer 36: bytes turned round, in plain words. -/
import Derived.Test.YtmchedjeohhpcaaApp
import Derived.Test.YtmchedjeohhpcaaKeep
import Derived.Laws.Bits64
namespace Go.Proofs.Ytmchedjeohhpcaa.pcapA
open Go.ChangeShapes Go.WideShapes Go.ChangeAt Go.RowKit
open Go.Proofs.Ytmchedjeohhpcaa.base
set_option linter.unusedVariables false

theorem and_split (a b k : Nat) : a &&& b = ((a / 2 ^ k) &&& (b / 2 ^ k)) * 2 ^ k + ((a % 2 ^ k) &&& (b % 2 ^ k)) := by
  have h := Nat.div_add_mod (a &&& b) (2 ^ k)
  rw [Nat.and_div_two_pow, Nat.and_mod_two_pow] at h
  rw [← h, Nat.mul_comm]
theorem or_split (a b k : Nat) : a ||| b = ((a / 2 ^ k) ||| (b / 2 ^ k)) * 2 ^ k + ((a % 2 ^ k) ||| (b % 2 ^ k)) := by
  have h := Nat.div_add_mod (a ||| b) (2 ^ k)
  rw [Nat.or_div_two_pow, Nat.or_mod_two_pow] at h
  rw [← h, Nat.mul_comm]
theorem and_mask (n : Nat) : n &&& 16711935 = n / 65536 % 256 * 65536 + n % 256 := by
  rw [and_split n 16711935 16]
  have e1 : (16711935 : Nat) / 2 ^ 16 = 2 ^ 8 - 1 := by decide
  have e2 : (16711935 : Nat) % 2 ^ 16 = 2 ^ 8 - 1 := by decide
  rw [e1, e2, Nat.and_two_pow_sub_one_eq_mod, Nat.and_two_pow_sub_one_eq_mod]
  omega
theorem or_add (a b k : Nat) (ha : a < 2 ^ k) : a ||| b * 2 ^ k = b * 2 ^ k + a := by
  rw [or_split a (b * 2 ^ k) k, Nat.div_eq_of_lt ha, Nat.mul_div_cancel _ (Nat.two_pow_pos k), Nat.mod_eq_of_lt ha, Nat.mul_mod_left, Nat.zero_or, Nat.or_zero]
/-- The four bytes of a number, the last one first. -/
def rev32 (n : Nat) : Nat := n % 256 * 16777216 + n / 256 % 256 * 65536 + n / 65536 % 256 * 256 + n / 16777216 % 256
def rev16 (n : Nat) : Nat := n % 256 * 256 + n / 256 % 256
theorem rev32_lt (n : Nat) : rev32 n < 4294967296 := by unfold rev32; omega
theorem rev16_lt (n : Nat) : rev16 n < 65536 := by unfold rev16; omega
theorem rev32_digits (a b c d : Nat) (ha : a < 256) (hb : b < 256) (hc : c < 256) (hd : d < 256) : rev32 (d * 16777216 + c * 65536 + b * 256 + a) = a * 16777216 + b * 65536 + c * 256 + d := by
  have e1 : (d * 16777216 + c * 65536 + b * 256 + a) % 256 = a := by omega
  have e2 : (d * 16777216 + c * 65536 + b * 256 + a) / 256 % 256 = b := by omega
  have e3 : (d * 16777216 + c * 65536 + b * 256 + a) / 65536 % 256 = c := by omega
  have e4 : (d * 16777216 + c * 65536 + b * 256 + a) / 16777216 % 256 = d := by omega
  unfold rev32
  rw [e1, e2, e3, e4]
theorem rev32_twice {n : Nat} (h : n < 4294967296) : rev32 (rev32 n) = n := by
  have e : n = n / 16777216 % 256 * 16777216 + n / 65536 % 256 * 65536 + n / 256 % 256 * 256 + n % 256 := by omega
  have h1 : rev32 n = n % 256 * 16777216 + n / 256 % 256 * 65536 + n / 65536 % 256 * 256 + n / 16777216 % 256 := rfl
  rw [h1, rev32_digits _ _ _ _ (Nat.mod_lt _ (by omega)) (Nat.mod_lt _ (by omega)) (Nat.mod_lt _ (by omega)) (Nat.mod_lt _ (by omega))]
  exact e.symm
theorem rev16_twice {n : Nat} (h : n < 65536) : rev16 (rev16 n) = n := by
  have e1 : (n % 256 * 256 + n / 256 % 256) % 256 = n / 256 % 256 := by omega
  have e2 : (n % 256 * 256 + n / 256 % 256) / 256 % 256 = n % 256 := by omega
  show (n % 256 * 256 + n / 256 % 256) % 256 * 256 + (n % 256 * 256 + n / 256 % 256) / 256 % 256 = n
  rw [e1, e2]
  omega
theorem top_half (c : Nat) {a : Nat} (h : a < 256) : (c * 16777216 + a * 256) / 65536 = c * 256 := by
  have e : c * 16777216 + a * 256 = 65536 * (c * 256) + a * 256 := by omega
  rw [e, Nat.mul_add_div (by decide), Nat.div_eq_of_lt (by omega), Nat.add_zero]
theorem low_half (c : Nat) {a : Nat} (h : a < 256) : (c * 16777216 + a * 256) % 65536 = a * 256 := by
  have e : c * 16777216 + a * 256 = 65536 * (c * 256) + a * 256 := by omega
  rw [e, Nat.mul_add_mod, Nat.mod_eq_of_lt (by omega)]
set_option maxRecDepth 100000 in
/-- The first round: the bytes of each half. -/
theorem half_round {n : Nat} (h : n < 4294967296) : (n / 256 &&& 16711935) ||| ((n &&& 16711935) * 256 % 4294967296) = n / 65536 % 256 * 16777216 + n / 16777216 % 256 * 65536 + n % 256 * 256 + n / 256 % 256 := by
  rw [and_mask, and_mask]
  obtain ⟨a, ha⟩ : ∃ a, a = n % 256 := ⟨_, rfl⟩
  obtain ⟨b, hb⟩ : ∃ b, b = n / 256 % 256 := ⟨_, rfl⟩
  obtain ⟨c, hc⟩ : ∃ c, c = n / 65536 % 256 := ⟨_, rfl⟩
  obtain ⟨d, hd⟩ : ∃ d, d = n / 16777216 % 256 := ⟨_, rfl⟩
  have e1 : n / 256 / 65536 % 256 = d := by omega
  have e2 : n / 256 % 256 = b := hb.symm
  rw [e1, e2, ← hc, ← ha, ← hd]
  have e3 : (c * 65536 + a) * 256 % 4294967296 = c * 16777216 + a * 256 := by omega
  rw [e3, or_split _ _ 16]
  have f1 : (d * 65536 + b) / 2 ^ 16 = d := by omega
  have f2 : (d * 65536 + b) % 2 ^ 16 = b := by omega
  have p16 : (2 : Nat) ^ 16 = 65536 := by decide
  have p8 : (2 : Nat) ^ 8 = 256 := by decide
  have ba : a < 256 := by rw [ha]; exact Nat.mod_lt _ (by omega)
  have bc : c < 256 := by rw [hc]; exact Nat.mod_lt _ (by omega)
  have f3 : (c * 16777216 + a * 256) / 2 ^ 16 = c * 2 ^ 8 := by rw [p16, p8]; exact top_half c ba
  have f4 : (c * 16777216 + a * 256) % 2 ^ 16 = a * 2 ^ 8 := by rw [p16, p8]; exact low_half c ba
  rw [f1, f2, f3, f4, or_add d c 8 (by omega), or_add b a 8 (by omega)]
  omega
set_option maxRecDepth 100000 in
/-- The second round: the halves. -/
theorem whole_round {y : Nat} (h : y < 4294967296) : (y / 65536) ||| (y * 65536 % 4294967296) = y % 65536 * 65536 + y / 65536 := by
  have e : y * 65536 % 4294967296 = y % 65536 * 2 ^ 16 := by omega
  rw [e, or_add (y / 65536) (y % 65536) 16 (by omega)]
set_option maxRecDepth 100000 in
theorem rev32_is {n : Nat} (h : n < 4294967296) : ((n / 256 &&& 16711935) ||| ((n &&& 16711935) * 256 % 4294967296)) / 65536 ||| (((n / 256 &&& 16711935) ||| ((n &&& 16711935) * 256 % 4294967296)) * 65536 % 4294967296) = rev32 n := by
  rw [half_round h, whole_round (by omega)]
  unfold rev32
  omega
theorem rev16_is {n : Nat} (h : n < 65536) : (n / 256) ||| (n * 256 % 65536) = rev16 n := by
  have e : n * 256 % 65536 = n % 256 * 2 ^ 8 := by omega
  rw [e, or_add (n / 256) (n % 256) 8 (by omega)]
  unfold rev16
  omega
theorem u32_and_nat (a b : Nat) (ha : a < 4294967296) (hb : b < 4294967296) : bits .and .u32 (a : Int) (b : Int) = ((a &&& b : Nat) : Int) := by
  have hA : (BitVec.ofInt 32 (a : Int)).toNat = a := by rw [BitVec.ofInt_natCast, BitVec.toNat_ofNat]; exact Nat.mod_eq_of_lt (by omega)
  have hB : (BitVec.ofInt 32 (b : Int)).toNat = b := by rw [BitVec.ofInt_natCast, BitVec.toNat_ofNat]; exact Nat.mod_eq_of_lt (by omega)
  show IntKind.u32.wrap ((BitVec.ofInt 32 (a : Int) &&& BitVec.ofInt 32 (b : Int)).toNat : Nat) = _
  rw [BitVec.toNat_and, hA, hB]
  have : a &&& b ≤ a := Nat.and_le_left
  rw [IntKind.wrap_u32]
  omega
theorem u32_or_nat (a b : Nat) (ha : a < 4294967296) (hb : b < 4294967296) : bits .or .u32 (a : Int) (b : Int) = ((a ||| b : Nat) : Int) := by
  have hA : (BitVec.ofInt 32 (a : Int)).toNat = a := by rw [BitVec.ofInt_natCast, BitVec.toNat_ofNat]; exact Nat.mod_eq_of_lt (by omega)
  have hB : (BitVec.ofInt 32 (b : Int)).toNat = b := by rw [BitVec.ofInt_natCast, BitVec.toNat_ofNat]; exact Nat.mod_eq_of_lt (by omega)
  show IntKind.u32.wrap ((BitVec.ofInt 32 (a : Int) ||| BitVec.ofInt 32 (b : Int)).toNat : Nat) = _
  rw [BitVec.toNat_or, hA, hB]
  have : a ||| b < 2 ^ 32 := Nat.or_lt_two_pow (by omega) (by omega)
  rw [IntKind.wrap_u32]
  omega
theorem u16_or_nat (a b : Nat) (ha : a < 65536) (hb : b < 65536) : bits .or .u16 (a : Int) (b : Int) = ((a ||| b : Nat) : Int) := by
  have hA : (BitVec.ofInt 16 (a : Int)).toNat = a := by rw [BitVec.ofInt_natCast, BitVec.toNat_ofNat]; exact Nat.mod_eq_of_lt (by omega)
  have hB : (BitVec.ofInt 16 (b : Int)).toNat = b := by rw [BitVec.ofInt_natCast, BitVec.toNat_ofNat]; exact Nat.mod_eq_of_lt (by omega)
  show IntKind.u16.wrap ((BitVec.ofInt 16 (a : Int) ||| BitVec.ofInt 16 (b : Int)).toNat : Nat) = _
  rw [BitVec.toNat_or, hA, hB]
  have : a ||| b < 2 ^ 16 := Nat.or_lt_two_pow (by omega) (by omega)
  rw [IntKind.wrap_u16]
  omega
end Go.Proofs.Ytmchedjeohhpcaa.pcapA
