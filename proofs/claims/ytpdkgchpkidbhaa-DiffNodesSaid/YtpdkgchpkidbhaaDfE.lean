/- Layer 43: what is otherwise between nodes. -/
import Derived.Test.YtpdkgchpkidbhaaDfC
namespace Go.Proofs.Ytpdkgchpkidbhaa.dfE
open Go.ChangeShapes Go.WideShapes Go.ChangeAt Go.RowKit
open Go.Proofs.Ytpdkgchpkidbhaa.base Go.Proofs.Ytpdkgchpkidbhaa.dfA Go.Proofs.Ytpdkgchpkidbhaa.dfB Go.Proofs.Ytpdkgchpkidbhaa.dfC
set_option linter.unusedVariables false

/-- Where the first of a name is; -1: there is none. -/
def fz (l : List Nd) (s : ByteArray) : Int := match l.findIdx? (fun e => decide (e.nm.toList = s.toList)) with
  | some j => (j : Int)
  | none => -1
theorem fz_is (l : List Nd) (s : ByteArray) (at' : Int) (h : IsFind l s at') : fz l s = at' := by
  have hd : ∀ e : Nd, decide (e.nm.toList = s.toList) = true ↔ e.nm = s := fun e => by
    constructor
    · intro h
      have h2 : e.nm.toList = s.toList := by simpa using h
      rw [ByteArray.toList_eq, ByteArray.toList_eq] at h2
      exact bytes_inj h2
    · intro h; rw [h]; simp
  unfold fz
  rcases h with ⟨e1, n1⟩ | ⟨j, hj, e1, n1, m1⟩
  · have : l.findIdx? (fun e => decide (e.nm.toList = s.toList)) = none := by
      rw [List.findIdx?_eq_none_iff]
      intro e he
      cases hq : decide (e.nm.toList = s.toList) with
      | false => rfl
      | true => exact absurd ((hd e).mp hq) (n1 e he)
    rw [this, e1]
  · have : l.findIdx? (fun e => decide (e.nm.toList = s.toList)) = some j := by
      rw [List.findIdx?_eq_some_iff_getElem]
      refine ⟨hj, (hd _).mpr n1, fun q hq => ?_⟩
      intro hq2
      exact m1 q hq ((hd _).mp hq2)
    rw [this, e1]
/-- What is gone; what is new or otherwise. -/
def goneC (was now : List Nd) : List Cg := (was.filter (fun e => decide (fz now e.nm = -1))).map (fun e => ⟨e.nm, 1⟩)
def oneC (was now : List Nd) (e : Nd) : List Cg := if fz was e.nm = -1 then [⟨e.nm, 2⟩] else match was[(fz was e.nm).toNat]? with
  | some a => othC a (aboveS was a) e (aboveS now e)
  | none => []
def newC (was now : List Nd) (l : List Nd) : List Cg := l.flatMap (oneC was now)
theorem oth_len (a b : Nd) (sa sb : ByteArray) : (othC a sa b sb).length ≤ 3 := by
  unfold othC
  split <;> split <;> split <;> simp
theorem one_len (was now : List Nd) (e : Nd) : (oneC was now e).length ≤ 3 := by
  unfold oneC
  split
  · simp
  · split
    · exact oth_len _ _ _ _
    · simp
theorem new_len (was now l : List Nd) : (newC was now l).length ≤ 3 * l.length := by
  induction l with
  | nil => simp [newC]
  | cons e l ih =>
    have h1 := one_len was now e
    unfold newC at ih ⊢
    rw [List.flatMap_cons, List.length_append, List.length_cons]
    omega
theorem gone_len (was now l : List Nd) : (goneC l now).length ≤ l.length := by
  unfold goneC
  rw [List.length_map]
  exact List.length_filter_le _ _
end Go.Proofs.Ytpdkgchpkidbhaa.dfE
