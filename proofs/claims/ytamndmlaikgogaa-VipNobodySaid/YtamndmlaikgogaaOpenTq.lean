/- A flow that came in. -/
import Derived.Test.YtamndmlaikgogaaVpI
import Derived.Test.YtamndmlaikgogaaLeaf
namespace Go.Proofs.Ytamndmlaikgogaa.base
open Go.RowKit Go.WideShapes Go.ChangeShapes Go.Joins Go.Deep
open Go.Proofs.Ytamndmlaikgogaa.vpI
set_option linter.unusedVariables false
section
variable {H : Type} {enc : TypeId × Value → H} {P : Program} {w : World} {base b0 : Nat} {held : Bool} {spare : Nat → Bool}
def tqLeafs : List Leaf := [.int .i64, .bool, .int .u64, .int .u64, .bool, .int .u64, .int .u64, .int .i64, .int .i64]
theorem tq_of {z : List Value} (h : Leaves enc P w base spare held tqLeafs z) : ∃ x : Tq, x.In ∧ z = x.cells.toList := by
  obtain ⟨_, _, rfl, ⟨p, rfl, h1⟩, h⟩ := h
  obtain ⟨_, _, rfl, ⟨a, rfl⟩, h⟩ := h
  obtain ⟨_, _, rfl, ⟨b, rfl, h2⟩, h⟩ := h
  obtain ⟨_, _, rfl, ⟨c, rfl, h3⟩, h⟩ := h
  obtain ⟨_, _, rfl, ⟨d, rfl⟩, h⟩ := h
  obtain ⟨_, _, rfl, ⟨f, rfl, h4⟩, h⟩ := h
  obtain ⟨_, _, rfl, ⟨g, rfl, h5⟩, h⟩ := h
  obtain ⟨_, _, rfl, ⟨i, rfl, h6⟩, h⟩ := h
  obtain ⟨_, z', rfl, ⟨j, rfl, h7⟩, h⟩ := h
  have hz : z' = [] := h
  subst hz
  exact ⟨⟨p, a, b, c, d, f, g, i, j⟩, ⟨h1, h2, h3, h4, h5, h6, h7⟩, rfl⟩
end
end Go.Proofs.Ytamndmlaikgogaa.base
