/- Layer 1: numbers of 128 bits. -/
import Derived.Test.YtlipemjidjjenaaMixB
import Derived.Test.YtlipemjidjjenaaBase
import Derived.Handy
namespace Go.Proofs.Ytlipemjidjjenaa.wideA
open Go.ChangeShapes Go.WideShapes Go.ChangeAt Go.RowKit
open Go.Proofs.Ytlipemjidjjenaa.base
set_option linter.unusedVariables false

theorem add64_run (x y c : Int) (hx : 0 ≤ x) (hy : 0 ≤ y) (hc0 : 0 ≤ c) (hc : c ≤ 1) (w : World) :
    (callFunc 61 #[.int .u64 x, .int .u64 y, .int .u64 c]).run Try.prog w = .ok (.value (.tuple #[.int .u64 ((x + y + c) % 18446744073709551616), .int .u64 ((x + y + c) / 18446744073709551616)])) w := by
  rw [run_callFunc_extern Try.func61 (by kernel_rfl) (by kernel_rfl) (by kernel_rfl) (e := add64Entry) (by kernel_rfl), run_add64 x y c hx hy hc0 hc]
  rfl

theorem numAdd_no (xh xl yh yl : Int) (a1 : 0 ≤ xh) (a2 : xh < 18446744073709551616) (b1 : 0 ≤ xl) (b2 : xl < 18446744073709551616) (c1 : 0 ≤ yh) (c2 : yh < 18446744073709551616) (d1 : 0 ≤ yl) (d2 : yl < 18446744073709551616)
    (h : 18446744073709551616 ≤ xh + yh + (xl + yl) / 18446744073709551616) (w : World) :
    Calls Try.prog 17 #[.agg #[.int .u64 xh, .int .u64 xl], .agg #[.int .u64 yh, .int .u64 yl]] w fun e w' => e = .returned (.tuple #[.agg #[.int .u64 0, .int .u64 0], .bool false]) ∧ Below w.heap.size w w' := by
  have ea := add64_run xl yl 0 b1 d1 (by omega) (by omega)
  have eb := add64_run xh yh ((xl + yl) / 18446744073709551616) a1 c1 (by omega) (by omega)
  have h1 : ((xh + yh + (xl + yl) / 18446744073709551616) / 18446744073709551616 != 0) = true := by rw [bne_iff_ne]; omega
  go_enter Try.func17, Try.ntmps17
  go_wp2
  go_returns
  exact ⟨rfl, by go_grown⟩

theorem numAdd_ok (xh xl yh yl : Int) (a1 : 0 ≤ xh) (a2 : xh < 18446744073709551616) (b1 : 0 ≤ xl) (b2 : xl < 18446744073709551616) (c1 : 0 ≤ yh) (c2 : yh < 18446744073709551616) (d1 : 0 ≤ yl) (d2 : yl < 18446744073709551616)
    (h : xh + yh + (xl + yl) / 18446744073709551616 < 18446744073709551616) (w : World) :
    Calls Try.prog 17 #[.agg #[.int .u64 xh, .int .u64 xl], .agg #[.int .u64 yh, .int .u64 yl]] w fun e w' => e = .returned (.tuple #[.agg #[.int .u64 (xh + yh + (xl + yl) / 18446744073709551616), .int .u64 ((xl + yl) % 18446744073709551616)], .bool true]) ∧ Below w.heap.size w w' := by
  have ea := add64_run xl yl 0 b1 d1 (by omega) (by omega)
  have eb := add64_run xh yh ((xl + yl) / 18446744073709551616) a1 c1 (by omega) (by omega)
  have h1 : ((xh + yh + (xl + yl) / 18446744073709551616) / 18446744073709551616 != 0) = false := by simp; omega
  have h2 : (xh + yh + (xl + yl) / 18446744073709551616) % 18446744073709551616 = xh + yh + (xl + yl) / 18446744073709551616 := by omega
  go_enter Try.func17, Try.ntmps17
  go_wp2
  go_returns
  exact ⟨rfl, by go_grown⟩

theorem lawAdd_no (xh xl yh yl : Int) (a1 : 0 ≤ xh) (a2 : xh < 18446744073709551616) (b1 : 0 ≤ xl) (b2 : xl < 18446744073709551616) (c1 : 0 ≤ yh) (c2 : yh < 18446744073709551616) (d1 : 0 ≤ yl) (d2 : yl < 18446744073709551616)
    (h : 18446744073709551616 ≤ xh + yh + (xl + yl) / 18446744073709551616) (w : World) :
    Calls Try.prog 18 #[.agg #[.int .u64 xh, .int .u64 xl], .agg #[.int .u64 yh, .int .u64 yl]] w fun e w' => e = .returned (.tuple #[.agg #[.int .u64 0, .int .u64 0], .bool false]) ∧ Below w.heap.size w w' := by
  by_cases hc : xl + yl < 18446744073709551616
  · have h0 : 18446744073709551616 ≤ xh + yh := by omega
    clear h
    have w1 : IntKind.u64.wrap (xl + yl) = xl + yl := by rw [IntKind.wrap_u64]; omega
    have t1 : decide (xl + yl < xl) = false := by simp; omega
    have w2 : IntKind.u64.wrap (xh + yh) = xh + yh - 18446744073709551616 := by rw [IntKind.wrap_u64]; omega
    have t2 : decide (xh + yh - 18446744073709551616 < xh) = true := by simp; omega
    go_enter Try.func18, Try.ntmps18
    go_wp2
    go_returns
    exact ⟨rfl, by go_grown⟩
  · by_cases h0 : 18446744073709551616 ≤ xh + yh
    · clear h
      have w1 : IntKind.u64.wrap (xl + yl) = xl + yl - 18446744073709551616 := by rw [IntKind.wrap_u64]; omega
      have t1 : decide (xl + yl - 18446744073709551616 < xl) = true := by simp; omega
      have w2 : IntKind.u64.wrap (xh + yh) = xh + yh - 18446744073709551616 := by rw [IntKind.wrap_u64]; omega
      have t2 : decide (xh + yh - 18446744073709551616 < xh) = true := by simp; omega
      go_enter Try.func18, Try.ntmps18
      go_wp2
      go_returns
      exact ⟨rfl, by go_grown⟩
    · have h1 : xh + yh = 18446744073709551616 - 1 := by omega
      have w3 : IntKind.u64.wrap (xh + yh + 1) = 0 := by rw [IntKind.wrap_u64]; omega
      have t3 : decide (0 < xh + yh) = true := by simp; omega
      have H1 := Lib.hid h1
      clear h h1
      have w1 : IntKind.u64.wrap (xl + yl) = xl + yl - 18446744073709551616 := by rw [IntKind.wrap_u64]; omega
      have t1 : decide (xl + yl - 18446744073709551616 < xl) = true := by simp; omega
      have w2 : IntKind.u64.wrap (xh + yh) = xh + yh := by rw [IntKind.wrap_u64]; have := H1.out; omega
      have t2 : decide (xh + yh < xh) = false := by simp; have := H1.out; omega
      go_enter Try.func18, Try.ntmps18
      go_wp2
      go_returns
      exact ⟨rfl, by go_grown⟩

theorem lawAdd_ok (xh xl yh yl : Int) (a1 : 0 ≤ xh) (a2 : xh < 18446744073709551616) (b1 : 0 ≤ xl) (b2 : xl < 18446744073709551616) (c1 : 0 ≤ yh) (c2 : yh < 18446744073709551616) (d1 : 0 ≤ yl) (d2 : yl < 18446744073709551616)
    (h : xh + yh + (xl + yl) / 18446744073709551616 < 18446744073709551616) (w : World) :
    Calls Try.prog 18 #[.agg #[.int .u64 xh, .int .u64 xl], .agg #[.int .u64 yh, .int .u64 yl]] w fun e w' => e = .returned (.tuple #[.agg #[.int .u64 (xh + yh + (xl + yl) / 18446744073709551616), .int .u64 ((xl + yl) % 18446744073709551616)], .bool true]) ∧ Below w.heap.size w w' := by
  by_cases hc : xl + yl < 18446744073709551616
  · have h0 : xh + yh < 18446744073709551616 := by omega
    have e1 : (xl + yl) / 18446744073709551616 = 0 := by omega
    have e2 : (xl + yl) % 18446744073709551616 = xl + yl := by omega
    rw [e1, e2, Int.add_zero]
    clear h e1 e2
    have t3 : decide (xh + yh < xh + yh) = false := by simp
    have w1 : IntKind.u64.wrap (xl + yl) = xl + yl := by rw [IntKind.wrap_u64]; omega
    have t1 : decide (xl + yl < xl) = false := by simp; omega
    have w2 : IntKind.u64.wrap (xh + yh) = xh + yh := by rw [IntKind.wrap_u64]; omega
    have t2 : decide (xh + yh < xh) = false := by simp; omega
    go_enter Try.func18, Try.ntmps18
    go_wp2
    go_returns
    exact ⟨rfl, by go_grown⟩
  · have e1 : (xl + yl) / 18446744073709551616 = 1 := by omega
    have e2 : (xl + yl) % 18446744073709551616 = xl + yl - 18446744073709551616 := by omega
    rw [e1, e2]
    have h0 : xh + yh + 1 < 18446744073709551616 := by omega
    clear h e1 e2
    have w3 : IntKind.u64.wrap (xh + yh + 1) = xh + yh + 1 := by rw [IntKind.wrap_u64]; omega
    have t3 : decide (xh + yh + 1 < xh + yh) = false := by simp; omega
    have w1 : IntKind.u64.wrap (xl + yl) = xl + yl - 18446744073709551616 := by rw [IntKind.wrap_u64]; omega
    have t1 : decide (xl + yl - 18446744073709551616 < xl) = true := by simp; omega
    have w2 : IntKind.u64.wrap (xh + yh) = xh + yh := by rw [IntKind.wrap_u64]; omega
    have t2 : decide (xh + yh < xh) = false := by simp; omega
    go_enter Try.func18, Try.ntmps18
    go_wp2
    go_returns
    exact ⟨rfl, by go_grown⟩
end Go.Proofs.Ytlipemjidjjenaa.wideA
