/- An address that came in. -/
import Derived.Test.YtgikoljnmmnkkaaLeaf
namespace Go.Proofs.Ytgikoljnmmnkkaa.base
open Go.RowKit Go.WideShapes Go.ChangeShapes Go.Joins Go.Deep
set_option linter.unusedVariables false
section
variable {H : Type} {enc : TypeId × Value → H} {w : World} {base b0 : Nat} {spare : Nat → Bool} {held : Bool}
theorem addr_leafs : leafs Try.prog 4 41 = some [.bool, .int .u64, .int .u64] := by kernel_rfl
set_option maxRecDepth 100000 in
theorem open_addr {r : Reach} {v : Value} {d : DataW H} {p : List MemPlace} (hv : Value.okWide Try.prog w r b0 41 v) (h : DataW.Trod enc Try.prog w base spare held 41 v d p) :
    ∃ (v6 : Bool) (hi lo : Int), v = .agg #[.bool v6, .int .u64 hi, .int .u64 lo] ∧ (Lit.int .u64 hi).wf = true ∧ (Lit.int .u64 lo).wf = true := by
  obtain ⟨cs, rfl, hl⟩ := open_leaves 4 _ Try.underlying41 addr_leafs hv h
  obtain ⟨c0, _, rfl, ⟨a, e0⟩, hl⟩ := hl
  obtain ⟨c1, _, rfl, ⟨b, e1, w1⟩, hl⟩ := hl
  obtain ⟨c2, _, rfl, ⟨c, e2, w2⟩, hl⟩ := hl
  simp only [Leaves] at hl
  subst e0 e1 e2 hl
  exact ⟨_, _, _, rfl, w1, w2⟩
end
end Go.Proofs.Ytgikoljnmmnkkaa.base
