/- A header of IPv4 that came in. -/
import Derived.Test.YtgikoljnmmnkkaaLeaf
namespace Go.Proofs.Ytgikoljnmmnkkaa.base
open Go.RowKit Go.WideShapes Go.ChangeShapes Go.Joins Go.Deep
set_option linter.unusedVariables false
section
variable {H : Type} {enc : TypeId × Value → H} {w : World} {base b0 : Nat} {spare : Nat → Bool} {held : Bool}
theorem four_leafs : leafs Try.prog 4 54 = some [.int .i64, .int .i64, .bool, .bool, .int .i64, .int .i64, .int .i64, .bool, .int .u64, .int .u64, .bool, .int .u64, .int .u64, .sl 22] := by kernel_rfl
set_option maxRecDepth 100000 in
theorem open_four {r : Reach} {v : Value} {d : DataW H} {p : List MemPlace} (hv : Value.okWide Try.prog w r b0 54 v) (h : DataW.Trod enc Try.prog w base spare held 54 v d p) :
    ∃ (tos id : Int) (df mf : Bool) (fr ttl pr : Int) (s6 : Bool) (sh sl : Int) (d6 : Bool) (dh dl : Int) (A : Option Addr) (n cp : Nat), v = .agg #[.int .i64 tos, .int .i64 id, .bool df, .bool mf, .int .i64 fr, .int .i64 ttl, .int .i64 pr, .bool s6, .int .u64 sh, .int .u64 sl, .bool d6, .int .u64 dh, .int .u64 dl, .slice A n cp] ∧
      (Lit.int .u64 sl).wf = true ∧ (Lit.int .u64 dl).wf = true ∧
      ∃ m y, DataW.trod enc Try.prog w base spare held m 22 [.slice A n cp] = some y := by
  obtain ⟨cs, rfl, hl⟩ := open_leaves 4 _ Try.underlying54 four_leafs hv h
  obtain ⟨c0, _, rfl, ⟨tos, e0, _⟩, hl⟩ := hl
  obtain ⟨c1, _, rfl, ⟨id, e1, _⟩, hl⟩ := hl
  obtain ⟨c2, _, rfl, ⟨df, e2⟩, hl⟩ := hl
  obtain ⟨c3, _, rfl, ⟨mf, e3⟩, hl⟩ := hl
  obtain ⟨c4, _, rfl, ⟨fr, e4, _⟩, hl⟩ := hl
  obtain ⟨c5, _, rfl, ⟨ttl, e5, _⟩, hl⟩ := hl
  obtain ⟨c6, _, rfl, ⟨pr, e6, _⟩, hl⟩ := hl
  obtain ⟨c7, _, rfl, ⟨s6, e7⟩, hl⟩ := hl
  obtain ⟨c8, _, rfl, ⟨sh, e8, _⟩, hl⟩ := hl
  obtain ⟨c9, _, rfl, ⟨sl, e9, w9⟩, hl⟩ := hl
  obtain ⟨c10, _, rfl, ⟨d6, e10⟩, hl⟩ := hl
  obtain ⟨c11, _, rfl, ⟨dh, e11, _⟩, hl⟩ := hl
  obtain ⟨c12, _, rfl, ⟨dl, e12, w12⟩, hl⟩ := hl
  obtain ⟨c13, _, rfl, ⟨n, z, hz⟩, hl⟩ := hl
  obtain ⟨A, l, c, hA⟩ := slice_form Try.underlying22 hz
  simp only [List.cons.injEq, and_true] at hA
  simp only [Leaves] at hl
  subst e0 e1 e2 e3 e4 e5 e6 e7 e8 e9 e10 e11 e12 hA hl
  exact ⟨_, _, _, _, _, _, _, _, _, _, _, _, _, _, _, _, rfl, w9, w12, n, z, hz⟩
end
end Go.Proofs.Ytgikoljnmmnkkaa.base
