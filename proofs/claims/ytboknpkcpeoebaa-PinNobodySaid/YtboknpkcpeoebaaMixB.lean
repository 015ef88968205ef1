/- Layer 2: numbers below another one, draws, numbers one by one. -/
import Derived.Test.YtboknpkcpeoebaaMixA
import Derived.Deep.QuietTactic
import Derived.BigQuiet
namespace Go.Proofs.Ytboknpkcpeoebaa.mixB
open Go.ChangeShapes Go.WideShapes Go.ChangeAt Go.RowKit
open Go.Proofs.Ytboknpkcpeoebaa.mixA
set_option linter.unusedVariables false

theorem ret2_u64 {k : IntKind} {a b c d : Int} (h : a = b) (h' : c = d) : Ending.returned (.tuple #[.int k a, .int k c]) = .returned (.tuple #[.int k b, .int k d]) := by rw [h, h']

theorem low_wrap (n : Int) : bits .and .u64 (IntKind.u64.wrap n) 4294967295 = IntKind.u64.wrap n % 4294967296 := by
  rw [IntKind.wrap_u64]; exact and_low32 _ (by omega) (by omega)
/-- the high word of a product, by halves, as the code has it -/
def hiZ (x y : Int) : Int := IntKind.u64.wrap (IntKind.u64.wrap (IntKind.u64.wrap (x / 4294967296 * (y / 4294967296)) + IntKind.u64.wrap (IntKind.u64.wrap (x / 4294967296 * bits BinOp.and IntKind.u64 y 4294967295) + IntKind.u64.wrap (bits BinOp.and IntKind.u64 x 4294967295 * bits BinOp.and IntKind.u64 y 4294967295) / 4294967296) / 4294967296) + IntKind.u64.wrap (bits BinOp.and IntKind.u64 (IntKind.u64.wrap (IntKind.u64.wrap (x / 4294967296 * bits BinOp.and IntKind.u64 y 4294967295) + IntKind.u64.wrap (bits BinOp.and IntKind.u64 x 4294967295 * bits BinOp.and IntKind.u64 y 4294967295) / 4294967296)) 4294967295 + IntKind.u64.wrap (bits BinOp.and IntKind.u64 x 4294967295 * (y / 4294967296))) / 4294967296)
theorem hiZ_eq {x y : Int} (hx0 : 0 ≤ x) (hx : x < 18446744073709551616) (hy0 : 0 ≤ y) (hy : y < 18446744073709551616) : hiZ x y = x * y / 18446744073709551616 := by
  unfold hiZ
  rw [low_wrap, and_low32 x hx0 hx, and_low32 y hy0 hy]
  simp only [IntKind.wrap_u64]
  exact mul64_arith x y hx0 hx hy0 hy
/-- the same, as the laws' texts have it -/
def hiY (x y : Int) : Int := IntKind.u64.wrap (IntKind.u64.wrap (IntKind.u64.wrap (x / 4294967296 * (y / 4294967296)) + IntKind.u64.wrap (IntKind.u64.wrap (x / 4294967296 * bits BinOp.and IntKind.u64 y 4294967295) + IntKind.u64.wrap (bits BinOp.and IntKind.u64 x 4294967295 * bits BinOp.and IntKind.u64 y 4294967295) / 4294967296) / 4294967296) + IntKind.u64.wrap (IntKind.u64.wrap (bits BinOp.and IntKind.u64 x 4294967295 * (y / 4294967296)) + bits BinOp.and IntKind.u64 (IntKind.u64.wrap (IntKind.u64.wrap (x / 4294967296 * bits BinOp.and IntKind.u64 y 4294967295) + IntKind.u64.wrap (bits BinOp.and IntKind.u64 x 4294967295 * bits BinOp.and IntKind.u64 y 4294967295) / 4294967296)) 4294967295) / 4294967296)
theorem hiY_eq {x y : Int} (hx0 : 0 ≤ x) (hx : x < 18446744073709551616) (hy0 : 0 ≤ y) (hy : y < 18446744073709551616) : hiY x y = x * y / 18446744073709551616 := by
  have h := hiZ_eq hx0 hx hy0 hy
  unfold hiZ at h
  unfold hiY
  rw [Int.add_comm (IntKind.u64.wrap (bits BinOp.and IntKind.u64 x 4294967295 * (y / 4294967296)))]
  exact h

theorem mul64_any (x y : Int) (hx0 : 0 ≤ x) (hx : x < 18446744073709551616) (hy0 : 0 ≤ y) (hy : y < 18446744073709551616) (w : World) :
    Calls Try.prog 65 #[.int .u64 x, .int .u64 y] w fun e w' => e = .returned (.tuple #[.int .u64 (x * y / 18446744073709551616), .int .u64 (x * y % 18446744073709551616)]) ∧ w = w' := by
  go_enter Try.func65, Try.ntmps65
  go_wp2
  go_ret2
  exact ⟨ret2_u64 (hiZ_eq hx0 hx hy0 hy) (IntKind.wrap_u64 _), rfl⟩

/-- what Below gives -/
def below (h n : Int) : Int := if n < 1 then 0 else h * n / 18446744073709551616
theorem mul_lt {h n : Int} (h0 : 0 ≤ h) (h1 : h < 18446744073709551616) (hn : 1 ≤ n) : 0 ≤ h * n / 18446744073709551616 ∧ h * n / 18446744073709551616 < n := by
  have a : 0 ≤ h * n := Int.mul_nonneg h0 (by omega)
  have b : h * n < 18446744073709551616 * n := Int.mul_lt_mul_of_pos_right h1 (by omega)
  constructor
  · omega
  · exact Int.ediv_lt_of_lt_mul (by omega) (by rw [Int.mul_comm n]; exact b)

theorem below_any (h n : Int) (h0 : 0 ≤ h) (h1 : h < 18446744073709551616) (n0 : -9223372036854775808 ≤ n) (n1 : n < 9223372036854775808) (w : World) :
    Calls Try.prog 62 #[.int .u64 h, .int .i64 n] w fun e w' => e = .returned (.int .i64 (below h n)) ∧ w = w' := by
  by_cases hn : n < 1
  · go_enter Try.func62, Try.ntmps62
    go_wp2
    go_ret
    exact ⟨ret_int (by simp [below, hn]), rfl⟩
  · obtain ⟨b0, b1⟩ := mul_lt h0 h1 (by omega : 1 ≤ n)
    have hv : h * n / 18446744073709551616 = below h n := by simp [below, hn]
    go_enter Try.func62, Try.ntmps62
    go_wp2_with (go_at_call 65; refine (mul64_any _ _ (by omega) (by omega) (by omega) (by omega) _).mono ?_; rintro e w' ⟨rfl, rfl⟩)
    go_ret
    exact ⟨rfl, rfl⟩

end Go.Proofs.Ytboknpkcpeoebaa.mixB
