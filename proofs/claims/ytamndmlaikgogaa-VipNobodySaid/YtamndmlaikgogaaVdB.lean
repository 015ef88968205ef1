/- Layer 6: an address with its last bits 0. -/
import Derived.Test.YtamndmlaikgogaaTreB
import Derived.Deep.RegionHeld3
namespace Go.Proofs.Ytamndmlaikgogaa.vdB
open Go.ChangeShapes Go.WideShapes Go.ChangeAt Go.RowKit
open Go.Proofs.Ytamndmlaikgogaa.base Go.Proofs.Ytamndmlaikgogaa.dfA Go.Proofs.Ytamndmlaikgogaa.treB
set_option linter.unusedVariables false

/-- Of a number the last s bits 0. -/
def maskZ (x : Int) (s : Nat) : Int := x / 2 ^ s * 2 ^ s
theorem mask_nat (n s : Nat) : maskZ (n : Int) s = ((n / 2 ^ s * 2 ^ s : Nat) : Int) := by
  unfold maskZ; push_cast; rfl
theorem maskZ_in {x : Int} (h0 : 0 ≤ x) (h1 : x < 18446744073709551616) (s : Nat) : 0 ≤ maskZ x s ∧ maskZ x s < 18446744073709551616 := by
  obtain ⟨n, rfl⟩ := Int.eq_ofNat_of_zero_le h0
  rw [mask_nat]
  have := Nat.div_mul_le_self n (2 ^ s)
  omega
theorem andn_bv (n s : Nat) (h : n < 18446744073709551616) : ((BitVec.ofNat 64 n) &&& ~~~(BitVec.ofNat 64 (2 ^ (min s 64) - 1))).toNat = n / 2 ^ s * 2 ^ s := by
  have e : (BitVec.ofNat 64 n) &&& ~~~(BitVec.ofNat 64 (2 ^ (min s 64) - 1)) = ((BitVec.ofNat 64 n) >>> s) <<< s := by
    apply BitVec.eq_of_getLsbD_eq
    intro i hi
    simp only [BitVec.getLsbD_and, BitVec.getLsbD_not, BitVec.getLsbD_shiftLeft, BitVec.getLsbD_ushiftRight, BitVec.getLsbD_ofNat, Nat.testBit_two_pow_sub_one]
    by_cases h1 : i < s
    · simp [h1, hi]
      intro _
      omega
    · have h2 : s + (i - s) = i := by omega
      simp [h1, hi, h2]
      intro _
      omega
  rw [e, BitVec.toNat_shiftLeft, BitVec.toNat_ushiftRight, BitVec.toNat_ofNat, Nat.shiftLeft_eq, Nat.shiftRight_eq_div_pow, Nat.mod_eq_of_lt (show n < 2 ^ 64 from h)]
  exact Nat.mod_eq_of_lt (Nat.lt_of_le_of_lt (Nat.div_mul_le_self n (2 ^ s)) h)
theorem ofInt_nat (n : Nat) : BitVec.ofInt 64 (n : Int) = BitVec.ofNat 64 n := by simp
theorem two_cast (k : Nat) : (2 : Int) ^ k - 1 = ((2 ^ k - 1 : Nat) : Int) := by
  have := Nat.two_pow_pos k
  rw [Int.ofNat_sub (by omega)]; push_cast; rfl
theorem andn_run {x : Int} (h0 : 0 ≤ x) (h1 : x < 18446744073709551616) (s : Nat) (W : World) : (binOp .andNot 25 (.int .u64 x) (.int .u64 (2 ^ (min s 64) - 1))).run Try.prog W = .ok (.int .u64 (maskZ x s)) W := by
  obtain ⟨n, rfl⟩ := Int.eq_ofNat_of_zero_le h0
  have hw := maskZ_in h0 h1 s
  show (Op.intBits .andNot .u64 (n : Int) (2 ^ (min s 64) - 1)).run Try.prog W = _
  unfold Op.intBits
  rw [two_cast]
  show Result.ok (Value.int .u64 (IntKind.u64.wrap (((BitVec.ofInt 64 (n : Int)) &&& ~~~(BitVec.ofInt 64 ((2 ^ min s 64 - 1 : Nat) : Int))).toNat : Int))) W = _
  rw [ofInt_nat, ofInt_nat, andn_bv n s (by omega), ← mask_nat]
  rw [show IntKind.u64.wrap (maskZ (n : Int) s) = maskZ (n : Int) s from by
    show (maskZ (n : Int) s) % 18446744073709551616 = _
    omega]
theorem andn_bits {x : Int} (h0 : 0 ≤ x) (h1 : x < 18446744073709551616) (s : Nat) : Go.bits .andNot .u64 x (2 ^ (min s 64) - 1) = maskZ x s := by
  obtain ⟨n, rfl⟩ := Int.eq_ofNat_of_zero_le h0
  have hw := maskZ_in h0 h1 s
  rw [two_cast]
  show IntKind.u64.wrap (((BitVec.ofInt 64 (n : Int)) &&& ~~~(BitVec.ofInt 64 ((2 ^ min s 64 - 1 : Nat) : Int))).toNat : Int) = _
  rw [ofInt_nat, ofInt_nat, andn_bv n s (by omega), ← mask_nat]
  show (maskZ (n : Int) s) % 18446744073709551616 = _
  omega
theorem shl_run {n : Int} (h0 : 0 ≤ n) (W : World) : (binOp .shl 25 (.int .u64 1) (.int .i64 n)).run Try.prog W = .ok (.int .u64 (if 64 ≤ n then 0 else 2 ^ n.toNat)) W := by
  show (Op.shift .shl .u64 1 .i64 n).run Try.prog W = _
  unfold Op.shift
  rw [if_neg (by omega)]
  show Result.ok (Value.int .u64 (IntKind.u64.wrap _)) W = _
  rw [show IntKind.u64.wrap (1 * 2 ^ min n.toNat IntKind.u64.bits) = (if 64 ≤ n then 0 else 2 ^ n.toNat) from by
    show (1 * 2 ^ min n.toNat 64 : Int) % 18446744073709551616 = _
    rw [Int.one_mul]
    by_cases h : 64 ≤ n
    · rw [if_pos h, show min n.toNat 64 = 64 from by omega]; decide
    · rw [if_neg h, show min n.toNat 64 = n.toNat from by omega]
      have h2 : n.toNat ≤ 63 := by omega
      have h3 : 2 ^ n.toNat ≤ 2 ^ 63 := Nat.pow_le_pow_right (by omega) h2
      have h4 : (2 : Int) ^ n.toNat = ((2 ^ n.toNat : Nat) : Int) := by push_cast; rfl
      rw [h4]
      have h5 : (2:Nat) ^ 63 = 9223372036854775808 := by decide
      obtain ⟨m, hm⟩ : ∃ m, m = 2 ^ n.toNat := ⟨_, rfl⟩
      rw [← hm] at h3 ⊢
      omega]
theorem low_wrap {n : Int} (h0 : 0 ≤ n) : IntKind.u64.wrap ((if 64 ≤ n then 0 else 2 ^ n.toNat) - 1) = 2 ^ (min n.toNat 64) - 1 := by
  show ((if 64 ≤ n then 0 else 2 ^ n.toNat) - 1 : Int) % 18446744073709551616 = _
  by_cases h : 64 ≤ n
  · rw [if_pos h, show min n.toNat 64 = 64 from by omega]; decide
  · rw [if_neg h, show min n.toNat 64 = n.toNat from by omega]
    have h2 : n.toNat ≤ 63 := by omega
    have h3 : 2 ^ n.toNat ≤ 2 ^ 63 := Nat.pow_le_pow_right (by omega) h2
    have h4 : (2 : Int) ^ n.toNat = ((2 ^ n.toNat : Nat) : Int) := by push_cast; rfl
    have h6 := Nat.two_pow_pos n.toNat
    rw [h4]
    have h5 : (2:Nat) ^ 63 = 9223372036854775808 := by decide
    omega
theorem bits_any (v6 : Bool) (hi lo : Int) (w : World) : Calls Try.prog 54 #[.agg #[.bool v6, .int .u64 hi, .int .u64 lo]] w fun e w' => e = .returned (.int .i64 (if v6 = true then 128 else 32)) ∧ Below w.heap.size w w' := by
  have HW := Lib.hid ((Below.refl w.heap.size w).alloc (Nat.le_refl _) (.cells #[.bool v6, .int .u64 hi, .int .u64 lo] 27))
  go_enter Try.func54, Try.ntmps54
  cases v6 with
  | true =>
    rw [if_pos rfl]
    go_wp2
    go_ret
    exact ⟨rfl, HW.out⟩
  | false =>
    rw [if_neg (by decide)]
    go_wp2
    go_ret
    exact ⟨rfl, HW.out⟩
theorem low_any (n : Int) (w : World) (h1 : n ≤ 128) : Calls Try.prog 56 #[.int .i64 n] w fun e w' => e = .returned (.int .u64 (2 ^ (min n.toNat 64) - 1)) ∧ w = w' := by
  by_cases h0 : n ≤ 0
  · have t : decide (n ≤ 0) = true := decide_eq_true h0
    rw [show min n.toNat 64 = 0 from by omega, show (2 : Int) ^ 0 - 1 = 0 from rfl]
    go_enter Try.func56, Try.ntmps56
    go_wp2_with fail
    go_ret
    exact ⟨rfl, rfl⟩
  · have t : decide (n ≤ 0) = false := decide_eq_false h0
    have HS : ∀ W, (Op.shift .shl .u64 1 .i64 n).run Try.prog W = .ok (.int .u64 (if 64 ≤ n then 0 else 2 ^ n.toNat)) W := fun W => shl_run (n := n) (by omega) W
    have t2 : decide (n < 0) = false := decide_eq_false (by omega)
    have HL := low_wrap (n := n) (by omega)
    obtain ⟨S, hS⟩ : ∃ S : Int, S = (if 64 ≤ n then 0 else 2 ^ n.toNat) := ⟨_, rfl⟩
    obtain ⟨L, hL⟩ : ∃ L : Int, L = 2 ^ (min n.toNat 64) - 1 := ⟨_, rfl⟩
    rw [← hS] at HL
    simp only [← hS] at HS
    rw [← hL] at HL ⊢
    clear hS hL h1
    go_enter Try.func56, Try.ntmps56
    go_wp2_with fail
    go_ret
    exact ⟨rfl, rfl⟩
end Go.Proofs.Ytamndmlaikgogaa.vdB
