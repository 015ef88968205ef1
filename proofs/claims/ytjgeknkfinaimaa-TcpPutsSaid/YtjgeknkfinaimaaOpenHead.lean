/- A header of TCP that came in. -/
import Derived.Test.YtjgeknkfinaimaaLeaf
namespace Go.Proofs.Ytjgeknkfinaimaa.base
open Go.RowKit Go.WideShapes Go.ChangeShapes Go.Joins Go.Deep
set_option linter.unusedVariables false
section
variable {H : Type} {enc : TypeId × Value → H} {w : World} {base b0 : Nat} {spare : Nat → Bool} {held : Bool}
theorem head_leafs : leafs Try.prog 3 40 = some [.int .i64, .int .i64, .int .u32, .int .u32, .int .i64, .int .i64, .int .i64, .sl 23] := by kernel_rfl
set_option maxRecDepth 100000 in
theorem open_head {r : Reach} {v : Value} {d : DataW H} {p : List MemPlace} (hv : Value.okWide Try.prog w r b0 40 v) (h : DataW.Trod enc Try.prog w base spare held 40 v d p) :
    ∃ (a b c d f g h : Int) (A : Option Addr) (n cp : Nat), v = .agg #[.int .i64 a, .int .i64 b, .int .u32 c, .int .u32 d, .int .i64 f, .int .i64 g, .int .i64 h, .slice A n cp] ∧
      (Lit.int .i64 a).wf = true ∧ (Lit.int .i64 b).wf = true ∧ (Lit.int .u32 c).wf = true ∧ (Lit.int .u32 d).wf = true ∧ (Lit.int .i64 f).wf = true ∧ (Lit.int .i64 g).wf = true ∧ (Lit.int .i64 h).wf = true ∧
      ∃ m y, DataW.trod enc Try.prog w base spare held m 23 [.slice A n cp] = some y := by
  obtain ⟨cs, rfl, hl⟩ := open_leaves 3 _ Try.underlying40 head_leafs hv h
  obtain ⟨c0, _, rfl, ⟨a, e0, w0⟩, hl⟩ := hl
  obtain ⟨c1, _, rfl, ⟨b, e1, w1⟩, hl⟩ := hl
  obtain ⟨c2, _, rfl, ⟨c, e2, w2⟩, hl⟩ := hl
  obtain ⟨c3, _, rfl, ⟨d, e3, w3⟩, hl⟩ := hl
  obtain ⟨c4, _, rfl, ⟨f, e4, w4⟩, hl⟩ := hl
  obtain ⟨c5, _, rfl, ⟨g, e5, w5⟩, hl⟩ := hl
  obtain ⟨c6, _, rfl, ⟨h, e6, w6⟩, hl⟩ := hl
  obtain ⟨c7, _, rfl, ⟨n, z, hz⟩, hl⟩ := hl
  obtain ⟨A, l, c, hA⟩ := slice_form Try.underlying23 hz
  simp only [List.cons.injEq, and_true] at hA
  simp only [Leaves] at hl
  subst e0 e1 e2 e3 e4 e5 e6 hA hl
  exact ⟨_, _, _, _, _, _, _, _, _, _, rfl, w0, w1, w2, w3, w4, w5, w6, n, z, hz⟩
end
end Go.Proofs.Ytjgeknkfinaimaa.base
