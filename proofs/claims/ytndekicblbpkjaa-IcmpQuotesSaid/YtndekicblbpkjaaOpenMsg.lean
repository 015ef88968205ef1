/- A message of ICMP that came in. -/
import Derived.Test.YtndekicblbpkjaaLeaf
namespace Go.Proofs.Ytndekicblbpkjaa.base
open Go.RowKit Go.WideShapes Go.ChangeShapes Go.Joins Go.Deep
set_option linter.unusedVariables false
section
variable {H : Type} {enc : TypeId × Value → H} {w : World} {base b0 : Nat} {spare : Nat → Bool} {held : Bool}
theorem msg_leafs : leafs Try.prog 3 46 = some [.int .i64, .int .i64, .int .u32, .sl 22] := by kernel_rfl
set_option maxRecDepth 100000 in
theorem open_msg {r : Reach} {v : Value} {d : DataW H} {p : List MemPlace} (hv : Value.okWide Try.prog w r b0 46 v) (h : DataW.Trod enc Try.prog w base spare held 46 v d p) :
    ∃ (a b c : Int) (A : Option Addr) (n cp : Nat), v = .agg #[.int .i64 a, .int .i64 b, .int .u32 c, .slice A n cp] ∧
      (Lit.int .i64 a).wf = true ∧ (Lit.int .i64 b).wf = true ∧ (Lit.int .u32 c).wf = true ∧
      ∃ m y, DataW.trod enc Try.prog w base spare held m 22 [.slice A n cp] = some y := by
  obtain ⟨cs, rfl, hl⟩ := open_leaves 3 _ Try.underlying46 msg_leafs hv h
  obtain ⟨c0, _, rfl, ⟨a, e0, w0⟩, hl⟩ := hl
  obtain ⟨c1, _, rfl, ⟨b, e1, w1⟩, hl⟩ := hl
  obtain ⟨c2, _, rfl, ⟨c, e2, w2⟩, hl⟩ := hl
  obtain ⟨c7, _, rfl, ⟨n, z, hz⟩, hl⟩ := hl
  obtain ⟨A, l, c, hA⟩ := slice_form Try.underlying22 hz
  simp only [List.cons.injEq, and_true] at hA
  simp only [Leaves] at hl
  subst e0 e1 e2 hA hl
  exact ⟨_, _, _, _, _, _, rfl, w0, w1, w2, n, z, hz⟩
end
end Go.Proofs.Ytndekicblbpkjaa.base
