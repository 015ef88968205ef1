/- The arithmetic of a division of two words by one, digit by digit (no walk). -/
import Derived.Test.YtpgodmcpdgbhaaaBase
namespace Go.Proofs.Ytpgodmcpdgbhaaa.divA
set_option linter.unusedVariables false

/-- A digit's guess and the true digit: q guessed, r what it leaves of u by the high half alone. -/
theorem guess_le {u n y1 y0 q r : Int} (hy : 0 < y1 * 4294967296 + y0) (hu : q * y1 + r = u) (ht : q * y0 ≤ 4294967296 * r + n) : q ≤ (u * 4294967296 + n) / (y1 * 4294967296 + y0) := by
  rw [Int.le_ediv_iff_mul_le hy]
  have e : q * (y1 * 4294967296 + y0) = q * y1 * 4294967296 + q * y0 := by rw [Int.mul_add, Int.mul_assoc]
  rw [e, ← hu]
  generalize q * y1 = p at *
  omega
theorem guess_gt {u n y1 y0 q r : Int} (hy : 0 < y1 * 4294967296 + y0) (hu : q * y1 + r = u) (ht : 4294967296 * r + n < q * y0) : (u * 4294967296 + n) / (y1 * 4294967296 + y0) < q := by
  rw [Int.ediv_lt_iff_lt_mul hy]
  have e : q * (y1 * 4294967296 + y0) = q * y1 * 4294967296 + q * y0 := by rw [Int.mul_add, Int.mul_assoc]
  rw [e, ← hu]
  generalize q * y1 = p at *
  omega
/-- A digit is below the base. -/
theorem digit_lt {u n y : Int} (hu : u < y) (hn : n < 4294967296) (hy : 0 < y) : (u * 4294967296 + n) / y < 4294967296 := by
  rw [Int.ediv_lt_iff_lt_mul hy]
  omega
/-- The loop goes on: the guess was too great. -/
theorem guess_on {u n y1 y0 q r : Int} (hy : 0 < y1 * 4294967296 + y0) (hlt : u < y1 * 4294967296 + y0) (hn : n < 4294967296) (hu : q * y1 + r = u) (ht : 4294967296 ≤ q ∨ 4294967296 * r + n < q * y0) : (u * 4294967296 + n) / (y1 * 4294967296 + y0) ≤ q - 1 := by
  rcases ht with h | h
  · have := digit_lt hlt hn hy
    omega
  · have := guess_gt hy hu h
    omega
/-- The loop is left as the rest is above the base: the guess is the digit. -/
theorem guess_out {u n y1 y0 q r : Int} (hy0 : 0 ≤ y0) (hy9 : y0 < 4294967296) (hy1 : 0 < y1) (hlt : u < y1 * 4294967296 + y0) (hn : 0 ≤ n) (hq : 0 ≤ q) (hu : q * y1 + r = u) (hr : 4294967296 ≤ r) : q ≤ (u * 4294967296 + n) / (y1 * 4294967296 + y0) := by
  have h1 : q * y1 < 4294967296 * y1 := by omega
  have h2 : q < 4294967296 := Int.lt_of_mul_lt_mul_right h1 (by omega)
  refine guess_le (by omega) hu ?_
  have h3 : q * y0 ≤ q * 4294967296 := Int.mul_le_mul_of_nonneg_left (by omega) hq
  omega
/-- Two digits make the quotient. -/
theorem digits {u n1 n0 y q1 : Int} (hy : 0 < y) (h1 : q1 = (u * 4294967296 + n1) / y) :
    q1 * 4294967296 + ((u * 4294967296 + n1 - q1 * y) * 4294967296 + n0) / y = (u * 18446744073709551616 + n1 * 4294967296 + n0) / y ∧
      ((u * 4294967296 + n1 - q1 * y) * 4294967296 + n0) % y = (u * 18446744073709551616 + n1 * 4294967296 + n0) % y := by
  have e : (u * 18446744073709551616 + n1 * 4294967296 + n0) = (u * 4294967296 + n1 - q1 * y) * 4294967296 + n0 + q1 * 4294967296 * y := by
    have e2 : q1 * 4294967296 * y = q1 * y * 4294967296 := by rw [Int.mul_assoc, Int.mul_comm 4294967296 y, ← Int.mul_assoc]
    rw [e2]
    generalize q1 * y = p
    omega
  rw [e]
  constructor
  · rw [Int.add_mul_ediv_right _ _ (by omega), Int.add_comm]
  · rw [Int.add_mul_emod_self_right]
/-- Scaled alike, the quotient stays and what is left is scaled. -/
theorem scaled {a y s : Int} (hs : 0 < s) (hy : 0 < y) : (a * s) / (y * s) = a / y ∧ (a * s) % (y * s) / s = a % y := by
  constructor
  · exact Int.mul_ediv_mul_of_pos_left a y hs
  · rw [Int.mul_comm a s, Int.mul_comm y s, Int.mul_emod_mul_of_pos _ _ hs, Int.mul_ediv_cancel_left _ (by omega)]
end Go.Proofs.Ytpgodmcpdgbhaaa.divA
