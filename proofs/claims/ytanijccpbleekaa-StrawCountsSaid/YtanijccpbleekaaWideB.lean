/- Layer 1: products of 128 bits. -/
import Derived.Test.YtanijccpbleekaaWideA
namespace Go.Proofs.Ytanijccpbleekaa.wideB
open Go.ChangeShapes Go.WideShapes Go.ChangeAt Go.RowKit
open Go.Proofs.Ytanijccpbleekaa.base Go.Proofs.Ytanijccpbleekaa.wideA Go.Proofs.Ytanijccpbleekaa.mixB
set_option linter.unusedVariables false

theorem or_high (n b : Int) (hn : 0 ≤ n) (hb0 : 0 ≤ b) (hb : b < 4294967296) : bits .or .u64 (IntKind.u64.wrap (n * 4294967296)) b = n % 4294967296 * 4294967296 + b := by
  have e : IntKind.u64.wrap (n * 4294967296) = n % 4294967296 * 4294967296 := by rw [IntKind.wrap_u64]; omega
  rw [e, u64_or _ _ (by omega) (by omega) hb0 (by omega)]
  obtain ⟨m, hm⟩ := Int.eq_ofNat_of_zero_le (by omega : 0 ≤ n % 4294967296)
  obtain ⟨c, rfl⟩ := Int.eq_ofNat_of_zero_le hb0
  have e1 : (n % 4294967296 * 4294967296).toNat = m <<< 32 := by rw [hm, Nat.shiftLeft_eq]; omega
  rw [e1, Int.toNat_natCast, ← Nat.shiftLeft_add_eq_or_of_lt (by omega : c < 2 ^ 32), Nat.shiftLeft_eq, hm]
  omega
def midZ (x y : Int) : Int := IntKind.u64.wrap (IntKind.u64.wrap (x / 4294967296 * bits BinOp.and IntKind.u64 y 4294967295) + IntKind.u64.wrap (bits BinOp.and IntKind.u64 x 4294967295 * bits BinOp.and IntKind.u64 y 4294967295) / 4294967296)
def moreZ (x y : Int) : Int := IntKind.u64.wrap (IntKind.u64.wrap (bits BinOp.and IntKind.u64 x 4294967295 * (y / 4294967296)) + bits BinOp.and IntKind.u64 (midZ x y) 4294967295)
def loZ (x y : Int) : Int := bits BinOp.or IntKind.u64 (IntKind.u64.wrap (moreZ x y * 4294967296)) (bits BinOp.and IntKind.u64 (IntKind.u64.wrap (bits BinOp.and IntKind.u64 x 4294967295 * bits BinOp.and IntKind.u64 y 4294967295)) 4294967295)
theorem loZ_eq {x y : Int} (hx0 : 0 ≤ x) (hx : x < 18446744073709551616) (hy0 : 0 ≤ y) (hy : y < 18446744073709551616) : loZ x y = x * y % 18446744073709551616 := by
  have hm : moreZ x y = ((x % 4294967296 * (y / 4294967296)) % 18446744073709551616 + (((x / 4294967296 * (y % 4294967296)) % 18446744073709551616 + ((x % 4294967296 * (y % 4294967296)) % 18446744073709551616) / 4294967296) % 18446744073709551616) % 4294967296) % 18446744073709551616 := by
    unfold moreZ midZ
    rw [low_wrap, and_low32 x hx0 hx, and_low32 y hy0 hy]
    simp only [IntKind.wrap_u64]
  unfold loZ
  rw [low_wrap, and_low32 x hx0 hx, and_low32 y hy0 hy, IntKind.wrap_u64 (x % 4294967296 * (y % 4294967296)), or_high _ _ (by rw [hm]; omega) (by omega) (by omega), hm]
  clear hm
  have ex : x = x / 4294967296 * 4294967296 + x % 4294967296 := by omega
  have ey : y = y / 4294967296 * 4294967296 + y % 4294967296 := by omega
  generalize hx1 : x / 4294967296 = x1 at *
  generalize hx0' : x % 4294967296 = x0 at *
  generalize hy1 : y / 4294967296 = y1 at *
  generalize hy0' : y % 4294967296 = y0 at *
  have b1 : 0 ≤ x1 ∧ x1 ≤ 4294967295 := by omega
  have b2 : 0 ≤ x0 ∧ x0 ≤ 4294967295 := by omega
  have b3 : 0 ≤ y1 ∧ y1 ≤ 4294967295 := by omega
  have b4 : 0 ≤ y0 ∧ y0 ≤ 4294967295 := by omega
  have pB := prod_bound x1 y0 b1.1 b1.2 b4.1 b4.2
  have pC := prod_bound x0 y0 b2.1 b2.2 b4.1 b4.2
  have pD := prod_bound x0 y1 b2.1 b2.2 b3.1 b3.2
  have hxy : x * y = x1 * y1 * 18446744073709551616 + (x1 * y0 + x0 * y1) * 4294967296 + x0 * y0 := by rw [ex, ey]; exact split_mul x1 x0 y1 y0
  rw [hxy]
  generalize x1 * y1 = A at *
  generalize x1 * y0 = B at *
  generalize x0 * y0 = C at *
  generalize x0 * y1 = D at *
  omega

theorem mul_any (x y : Int) (hx0 : 0 ≤ x) (hx : x < 18446744073709551616) (hy0 : 0 ≤ y) (hy : y < 18446744073709551616) (w : World) :
    Calls Try.prog 31 #[.int .u64 x, .int .u64 y] w fun e w' => e = .returned (.agg #[.int .u64 (x * y / 18446744073709551616), .int .u64 (x * y % 18446744073709551616)]) ∧ Below w.heap.size w w' := by
  go_enter Try.func31, Try.ntmps31
  go_wp2_with (go_at_call 40; refine (mul64_any _ _ hx0 hx hy0 hy _).mono ?_; rintro e w' ⟨rfl, rfl⟩)
  go_returns
  exact ⟨rfl, by go_grown⟩

theorem agg2 {a b c d : Int} (h : a = b) (h' : c = d) : Ending.returned (.agg #[.int .u64 a, .int .u64 c]) = .returned (.agg #[.int .u64 b, .int .u64 d]) := by rw [h, h']
end Go.Proofs.Ytanijccpbleekaa.wideB
