/- Layer 1: quotients and shares. -/
import Derived.Test.YtpgodmcpdgbhaaaDivE
namespace Go.Proofs.Ytpgodmcpdgbhaaa.divF
open Go.ChangeShapes Go.WideShapes Go.ChangeAt Go.RowKit
open Go.Proofs.Ytpgodmcpdgbhaaa.base Go.Proofs.Ytpgodmcpdgbhaaa.wideB Go.Proofs.Ytpgodmcpdgbhaaa.wideD Go.Proofs.Ytpgodmcpdgbhaaa.divE
set_option linter.unusedVariables false

theorem numDiv_no (xh xl y : Int) (h : y ≤ xh) (w : World) :
    Calls Try.prog 38 #[.agg #[.int .u64 xh, .int .u64 xl], .int .u64 y] w fun e w' => e = .returned (.tuple #[.int .u64 0, .int .u64 0, .bool false]) ∧ Below w.heap.size w w' := by
  have f1 : decide (y ≤ xh) = true := by simpa using h
  clear h
  go_enter Try.func38, Try.ntmps38
  go_wp2
  go_returns
  exact ⟨rfl, by go_grown⟩
theorem numDiv_ok (xh xl y : Int) (a0 : 0 ≤ xh) (h : xh < y) (b0 : 0 ≤ xl) (b1 : xl < 18446744073709551616) (y1 : y < 18446744073709551616) (w : World) :
    Calls Try.prog 38 #[.agg #[.int .u64 xh, .int .u64 xl], .int .u64 y] w fun e w' => e = .returned (.tuple #[.int .u64 ((xh * 18446744073709551616 + xl) / y), .int .u64 ((xh * 18446744073709551616 + xl) % y), .bool true]) ∧ Below w.heap.size w w' := by
  have f1 : decide (y ≤ xh) = false := by simp; omega
  have H := Lib.hid (fun w => div64_full xh xl y a0 h b0 b1 y1 w)
  go_enter Try.func38, Try.ntmps38
  go_wp2_with (go_at_call 48; refine (H.out _).mono ?_; rintro e w1 ⟨rfl, hb⟩; have HB := Lib.hid hb; clear hb)
  go_returns
  exact ⟨rfl, ((Below.refl _ _).alloc (Nat.le_refl _) _).trans (HB.out.mono (by simp))⟩
theorem share_no (n p y : Int) (a0 : 0 ≤ n) (a1 : n < 18446744073709551616) (b0 : 0 ≤ p) (b1 : p < 18446744073709551616) (h : y ≤ n * p / 18446744073709551616) (w : World) :
    Calls Try.prog 47 #[.int .u64 n, .int .u64 p, .int .u64 y] w fun e w' => e = .returned (.tuple #[.int .u64 0, .bool false]) ∧ Below w.heap.size w w' := by
  have HM := Lib.hid (fun w => mul_any n p a0 a1 b0 b1 w)
  have HD := Lib.hid (fun w => numDiv_no (n * p / 18446744073709551616) (n * p % 18446744073709551616) y h w)
  clear h
  go_enter Try.func47, Try.ntmps47
  go_wp2_with (first
    | (go_at_call 51; refine (HM.out _).mono ?_; rintro e w1 ⟨rfl, hb⟩; have HB := Lib.hid hb; clear hb)
    | (go_at_call 38; refine (HD.out _).mono ?_; rintro e w2 ⟨rfl, hb⟩; have HB2 := Lib.hid hb; clear hb))
  go_returns
  exact ⟨rfl, HB.out.trans (HB2.out.mono HB.out.size)⟩
theorem share_ok (n p y : Int) (a0 : 0 ≤ n) (a1 : n < 18446744073709551616) (b0 : 0 ≤ p) (b1 : p < 18446744073709551616) (h : n * p / 18446744073709551616 < y) (y1 : y < 18446744073709551616) (w : World) :
    Calls Try.prog 47 #[.int .u64 n, .int .u64 p, .int .u64 y] w fun e w' => e = .returned (.tuple #[.int .u64 (n * p / y), .bool true]) ∧ Below w.heap.size w w' := by
  have h0 : 0 ≤ n * p := Int.mul_nonneg a0 b0
  have e : n * p / 18446744073709551616 * 18446744073709551616 + n * p % 18446744073709551616 = n * p := by omega
  have HM := Lib.hid (fun w => mul_any n p a0 a1 b0 b1 w)
  have HD := Lib.hid (fun w => numDiv_ok (n * p / 18446744073709551616) (n * p % 18446744073709551616) y (by omega) h (by omega) (by omega) y1 w)
  rw [e] at HD
  clear h e
  go_enter Try.func47, Try.ntmps47
  go_wp2_with (first
    | (go_at_call 51; refine (HM.out _).mono ?_; rintro e w1 ⟨rfl, hb⟩; have HB := Lib.hid hb; clear hb)
    | (go_at_call 38; refine (HD.out _).mono ?_; rintro e w2 ⟨rfl, hb⟩; have HB2 := Lib.hid hb; clear hb))
  go_returns
  exact ⟨rfl, HB.out.trans (HB2.out.mono HB.out.size)⟩
end Go.Proofs.Ytpgodmcpdgbhaaa.divF
