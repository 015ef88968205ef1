/- Layer 7: the number at a place. -/
import Derived.Test.YtmlicmcphecakaaOctB
namespace Go.Proofs.Ytmlicmcphecakaa.octC
open Go.ChangeShapes Go.WideShapes Go.ChangeAt Go.RowKit
open Go.Proofs.Ytmlicmcphecakaa.base Go.Proofs.Ytmlicmcphecakaa.octA Go.Proofs.Ytmlicmcphecakaa.octB
set_option linter.unusedVariables false

def zr (j : Nat) : Int := 0
theorem atN_none (l : List Int) (f : Nat) (h : l.length ≤ f) (k : Nat) : atN l f k = 0 := by
  induction k with
  | zero => rfl
  | succ k ih => rw [atN, ih, List.getD_eq_getElem?_getD, List.getElem?_eq_none (by omega)]; rfl
end Go.Proofs.Ytmlicmcphecakaa.octC
