/- Arguments opened. -/
import Derived.Test.YtamndmlaikgogaaRow
import Derived.Lib.SmallJoins
import Derived.Deep.Slices
import Derived.Deep.Fields
namespace Go.Proofs.Ytamndmlaikgogaa.base
open Go.RowKit Go.WideShapes Go.ChangeShapes Go.Joins Go.Deep
set_option linter.unusedVariables false
section
variable {H : Type} {enc : TypeId × Value → H} {P : Program} {w : World} {b0 base : Nat} {spare : Nat → Bool} {held : Bool}
/-- A struct of two unsigned words, by value. -/
theorem open_two {r : Reach} {t e : TypeId} {f0 f1 : Field} {v : Value} {d : DataW H} {p : List MemPlace} (hs : P.underlying t = some (.struct #[f0, f1])) (h0 : f0.type = e) (h1 : f1.type = e) (he : P.underlying e = some (.int .u64)) (hone : oneCellFields P #[f0, f1] = true) (hC : P.cellsOf t = 2)
    (hv : Value.okWide P w r b0 t v) (h : DataW.Trod enc P w base spare held t v d p) :
    ∃ x y : Int, v = .agg #[.int .u64 x, .int .u64 y] ∧ 0 ≤ x ∧ x < 18446744073709551616 ∧ 0 ≤ y ∧ y < 18446744073709551616 := by
  obtain ⟨c0, c1, y0, y1, m, rfl, rfl, rfl, hy0, hy1⟩ := open_agg2 hs hone hC hv h
  rw [h0] at hy0
  rw [h1] at hy1
  obtain ⟨x, e0, rfl, wx⟩ := DataW.trod_int he hy0
  obtain ⟨y, e1, rfl, wy⟩ := DataW.trod_int he hy1
  simp at e0 e1
  subst e0 e1
  have hx := bounds_u64 wx
  have hy := bounds_u64 wy
  exact ⟨x, y, rfl, hx.1, by omega, hy.1, by omega⟩
theorem open_u64 {r : Reach} {t : TypeId} {v : Value} {d : DataW H} {p : List MemPlace} (he : P.underlying t = some (.int .u64)) (hv : Value.okWide P w r b0 t v) (h : DataW.Trod enc P w base spare held t v d p) :
    ∃ x : Int, v = .int .u64 x ∧ 0 ≤ x ∧ x < 18446744073709551616 := by
  obtain ⟨x, rfl, rfl, rfl, wx⟩ := open_int he hv h
  have hx := bounds_u64 wx
  exact ⟨x, rfl, hx.1, by omega⟩
theorem open_i64 {r : Reach} {t : TypeId} {v : Value} {d : DataW H} {p : List MemPlace} (he : P.underlying t = some (.int .i64)) (hv : Value.okWide P w r b0 t v) (h : DataW.Trod enc P w base spare held t v d p) :
    ∃ x : Int, v = .int .i64 x ∧ -9223372036854775808 ≤ x ∧ x < 9223372036854775808 := by
  obtain ⟨x, rfl, rfl, rfl, wx⟩ := open_int he hv h
  have hx := bounds_i64 wx
  exact ⟨x, rfl, hx.1, by omega⟩
end
end Go.Proofs.Ytamndmlaikgogaa.base
