/- Layer 7: the number at a place. -/
import Derived.Test.YtjgeknkfinaimaaOctB
namespace Go.Proofs.Ytjgeknkfinaimaa.octC
open Go.ChangeShapes Go.WideShapes Go.ChangeAt Go.RowKit
open Go.Proofs.Ytjgeknkfinaimaa.base Go.Proofs.Ytjgeknkfinaimaa.octA Go.Proofs.Ytjgeknkfinaimaa.octB
set_option linter.unusedVariables false

def zr (j : Nat) : Int := 0
theorem atN_none (l : List Int) (f : Nat) (h : l.length ≤ f) (k : Nat) : atN l f k = 0 := by
  induction k with
  | zero => rfl
  | succ k ih => rw [atN, ih, List.getD_eq_getElem?_getD, List.getElem?_eq_none (by omega)]; rfl
end Go.Proofs.Ytjgeknkfinaimaa.octC
