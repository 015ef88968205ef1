/- Layer 27: the places of flows, in memory. -/
import Derived.Test.YtboknpkcpeoebaaFlowE
import Derived.Test.YtboknpkcpeoebaaFlowF
namespace Go.Proofs.Ytboknpkcpeoebaa.flowG
open Go.ChangeShapes Go.WideShapes Go.ChangeAt Go.RowKit
open Go.Proofs.Ytboknpkcpeoebaa.base Go.Proofs.Ytboknpkcpeoebaa.flowA Go.Proofs.Ytboknpkcpeoebaa.flowB Go.Proofs.Ytboknpkcpeoebaa.flowC Go.Proofs.Ytboknpkcpeoebaa.flowD Go.Proofs.Ytboknpkcpeoebaa.flowE Go.Proofs.Ytboknpkcpeoebaa.flowF
set_option linter.unusedVariables false

/-- What is known of a flow. -/
structure Ent where
  x : Tup
  host : Int
  state : Int
  till : Int
def Ent.cells (e : Ent) : Array Value := #[.int .i64 e.x.pr, .bool e.x.s6, .int .u64 e.x.sh, .int .u64 e.x.sl, .bool e.x.d6, .int .u64 e.x.dh, .int .u64 e.x.dl, .int .i64 e.x.sp, .int .i64 e.x.dp, .int .i64 e.host, .int .i64 e.state, .int .i64 e.till]
def cellsOf (e : Ent) (nw od bh : Int) : Array Value := #[.int .i64 e.x.pr, .bool e.x.s6, .int .u64 e.x.sh, .int .u64 e.x.sl, .bool e.x.d6, .int .u64 e.x.dh, .int .u64 e.x.dl, .int .i64 e.x.sp, .int .i64 e.x.dp, .int .i64 e.host, .int .i64 e.state, .int .i64 e.till, .int .i64 nw, .int .i64 od, .int .i64 bh]
/-- The places, fifteen cells each. -/
def AtP (t : Tb Ent) (cs : Array Value) : Prop :=
  t.np * 15 ≤ cs.size ∧ ∀ p, p < t.np → ∀ j, j < 15 → cs[p * 15 + j]? = (cellsOf (t.ent p) (t.nw p) (t.od p) (t.bh p))[j]?
section
variable {t : Tb Ent} {cs : Array Value}
/-- One cell of one place is changed. -/
theorem AtP.set (h : AtP t cs) {t' : Tb Ent} (en : t'.np = t.np) (a k : Nat) (v : Value) (ha : a < t.np) (hk : k < 15)
    (far : ∀ p, p ≠ a → cellsOf (t'.ent p) (t'.nw p) (t'.od p) (t'.bh p) = cellsOf (t.ent p) (t.nw p) (t.od p) (t.bh p))
    (off : ∀ j, j ≠ k → (cellsOf (t'.ent a) (t'.nw a) (t'.od a) (t'.bh a))[j]? = (cellsOf (t.ent a) (t.nw a) (t.od a) (t.bh a))[j]?)
    (here : (cellsOf (t'.ent a) (t'.nw a) (t'.od a) (t'.bh a))[k]? = some v) : AtP t' (cs.setIfInBounds (a * 15 + k) v) := by
  refine ⟨by rw [en]; simpa using h.1, fun p hp j hj => ?_⟩
  rw [en] at hp
  have h1 := h.1
  by_cases e : p = a
  · subst e
    by_cases ej : j = k
    · subst ej
      rw [Array.getElem?_setIfInBounds, if_pos rfl, if_pos (by omega), here]
    · rw [Array.getElem?_setIfInBounds, if_neg (by omega), h.2 p hp j hj, off j ej]
  · rw [Array.getElem?_setIfInBounds, if_neg (by omega), h.2 p hp j hj, far p e]
theorem off_of {A B : Array Value} (k : Nat) (hs : A.size = B.size) (h : ∀ j, j < A.size → j ≠ k → A[j]? = B[j]?) (j : Nat) (hj : j ≠ k) : A[j]? = B[j]? := by
  by_cases e : j < A.size
  · exact h j e hj
  · rw [Array.getElem?_eq_none (by omega), Array.getElem?_eq_none (by omega)]
theorem AtP.setNw (h : AtP t cs) (a : Nat) (ha : a < t.np) (x : Int) : AtP { t with nw := updF t.nw a x } (cs.setIfInBounds (a * 15 + 12) (.int .i64 x)) := by
  refine h.set (t' := { t with nw := updF t.nw a x }) rfl a 12 _ ha (by omega) (fun p e => ?_) (off_of 12 rfl fun j hj e => ?_) ?_
  · show cellsOf _ (updF t.nw a x p) _ _ = _
    rw [updF_far _ _ _ _ e]
  · have hj : j < 15 := hj
    match j, hj, e with
    | 0, _, _ | 1, _, _ | 2, _, _ | 3, _, _ | 4, _, _ | 5, _, _ | 6, _, _ | 7, _, _ | 8, _, _ | 9, _, _ | 10, _, _ | 11, _, _ | 13, _, _ | 14, _, _ => rfl
    | 12, _, e => exact absurd rfl e
  · show some (Value.int .i64 (updF t.nw a x a)) = _
    rw [updF_here]
theorem AtP.setOd (h : AtP t cs) (a : Nat) (ha : a < t.np) (x : Int) : AtP { t with od := updF t.od a x } (cs.setIfInBounds (a * 15 + 13) (.int .i64 x)) := by
  refine h.set (t' := { t with od := updF t.od a x }) rfl a 13 _ ha (by omega) (fun p e => ?_) (off_of 13 rfl fun j hj e => ?_) ?_
  · show cellsOf _ _ (updF t.od a x p) _ = _
    rw [updF_far _ _ _ _ e]
  · have hj : j < 15 := hj
    match j, hj, e with
    | 0, _, _ | 1, _, _ | 2, _, _ | 3, _, _ | 4, _, _ | 5, _, _ | 6, _, _ | 7, _, _ | 8, _, _ | 9, _, _ | 10, _, _ | 11, _, _ | 12, _, _ | 14, _, _ => rfl
    | 13, _, e => exact absurd rfl e
  · show some (Value.int .i64 (updF t.od a x a)) = _
    rw [updF_here]
theorem AtP.setBh (h : AtP t cs) (a : Nat) (ha : a < t.np) (x : Int) : AtP { t with bh := updF t.bh a x } (cs.setIfInBounds (a * 15 + 14) (.int .i64 x)) := by
  refine h.set (t' := { t with bh := updF t.bh a x }) rfl a 14 _ ha (by omega) (fun p e => ?_) (off_of 14 rfl fun j hj e => ?_) ?_
  · show cellsOf _ _ _ (updF t.bh a x p) = _
    rw [updF_far _ _ _ _ e]
  · have hj : j < 15 := hj
    match j, hj, e with
    | 0, _, _ | 1, _, _ | 2, _, _ | 3, _, _ | 4, _, _ | 5, _, _ | 6, _, _ | 7, _, _ | 8, _, _ | 9, _, _ | 10, _, _ | 11, _, _ | 12, _, _ | 13, _, _ => rfl
    | 14, _, e => exact absurd rfl e
  · show some (Value.int .i64 (updF t.bh a x a)) = _
    rw [updF_here]
end
/-- Numbers, one cell each. -/
def AtI (n : Nat) (cs : Array Value) (f : Nat → Int) : Prop := cs.size = n ∧ ∀ i, i < n → cs[i]? = some (.int .i64 (f i))
theorem AtI.set {n : Nat} {cs : Array Value} {f : Nat → Int} (h : AtI n cs f) (k : Nat) (hk : k < n) (x : Int) : AtI n (cs.setIfInBounds k (.int .i64 x)) (updF f k x) := by
  refine ⟨by simp [h.1], fun i hi => ?_⟩
  rw [Array.getElem?_setIfInBounds]
  by_cases e : k = i
  · subst e
    rw [if_pos rfl, if_pos (by have := h.1; omega), updF_here]
  · rw [if_neg e, h.2 i hi, updF_far _ _ _ _ (Ne.symm e)]
end Go.Proofs.Ytboknpkcpeoebaa.flowG
