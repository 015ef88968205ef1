/- Layer 43: the node above, what is otherwise. -/
import Derived.Test.YtamndmlaikgogaaDfA
import Derived.OwnWalk
import Derived.ArgAppend
import Derived.Laws.AppendOwn
namespace Go.Proofs.Ytamndmlaikgogaa.dfB
open Go.ChangeShapes Go.WideShapes Go.ChangeAt Go.RowKit
open Go.Proofs.Ytamndmlaikgogaa.base Go.Proofs.Ytamndmlaikgogaa.dfA
set_option linter.unusedVariables false

def aboveS (l : List Nd) (e : Nd) : ByteArray := if h : 0 ≤ e.ab ∧ e.ab.toNat < l.length then (l[e.ab.toNat]'h.2).nm else ⟨#[]⟩
/-- A change: a node's name, what it is. -/
structure Cg where
  nm : ByteArray
  what : Int
def Cg.cells (e : Cg) : Array Value := #[.string e.nm, .int .i64 e.what]
def flatC (l : List Cg) : List Value := l.flatMap fun e => e.cells.toList
theorem flatC_snoc (l : List Cg) (e : Cg) : flatC (l ++ [e]) = flatC l ++ e.cells.toList := by
  unfold flatC
  rw [List.flatMap_append]
  simp
theorem flatC_app (l k : List Cg) : flatC (l ++ k) = flatC l ++ flatC k := by
  unfold flatC
  rw [List.flatMap_append]
theorem flatC_len (l : List Cg) : (flatC l).length = l.length * 2 := by
  induction l with
  | nil => rfl
  | cons e l ih =>
    show (e.cells.toList ++ flatC l).length = _
    rw [List.length_append, ih]
    show 2 + l.length * 2 = (l.length + 1) * 2
    omega
theorem flatC_at : ∀ (l : List Cg) (q i : Nat) (e : Cg), l[q]? = some e → i < 2 → (flatC l)[q * 2 + i]? = e.cells[i]?
  | [], q, i, e, h, _ => by cases h
  | a :: l, 0, i, e, h, hi => by
    simp only [List.getElem?_cons_zero, Option.some.injEq] at h
    subst h
    show (a.cells.toList ++ flatC l)[0 * 2 + i]? = _
    have hl : a.cells.toList.length = 2 := rfl
    rw [List.getElem?_append_left (by omega)]
    simp
  | a :: l, q + 1, i, e, h, hi => by
    show (a.cells.toList ++ flatC l)[(q + 1) * 2 + i]? = _
    have hl : a.cells.toList.length = 2 := rfl
    rw [List.getElem?_append_right (by omega), hl, show (q + 1) * 2 + i - 2 = q * 2 + i by omega]
    exact flatC_at l q i e h hi
theorem one_c (l : List Cg) : ∀ u ∈ flatC l, u.oneCell' = true := fun u hu => by
  unfold flatC at hu
  obtain ⟨e, _, h⟩ := List.mem_flatMap.mp hu
  unfold Cg.cells at h
  simp at h
  rcases h with rfl | rfl <;> rfl
theorem one_c1 (e : Cg) : ∀ u ∈ e.cells.toList, u.oneCell' = true := fun u hu => by
  unfold Cg.cells at hu
  simp at hu
  rcases hu with rfl | rfl <;> rfl
/-- What is otherwise of a node. -/
def othC (a : Nd) (sa : ByteArray) (b : Nd) (sb : ByteArray) : List Cg :=
  (if a.kind ≠ b.kind ∨ sa ≠ sb then [⟨b.nm, 4⟩] else []) ++ (if a.v6 ≠ b.v6 ∨ a.hi ≠ b.hi ∨ a.lo ≠ b.lo then [⟨b.nm, 5⟩] else []) ++ (if a.wt ≠ b.wt then [⟨b.nm, 3⟩] else [])
end Go.Proofs.Ytamndmlaikgogaa.dfB
