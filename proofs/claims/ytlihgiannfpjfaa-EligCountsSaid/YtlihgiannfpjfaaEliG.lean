/- Layer 23: how many hosts each level has, in plain words. -/
import Derived.Test.YtlihgiannfpjfaaEliC
namespace Go.Proofs.Ytlihgiannfpjfaa.eliG
open Go.ChangeShapes Go.WideShapes Go.ChangeAt Go.RowKit
open Go.Proofs.Ytlihgiannfpjfaa.base Go.Proofs.Ytlihgiannfpjfaa.dfA Go.Proofs.Ytlihgiannfpjfaa.treB Go.Proofs.Ytlihgiannfpjfaa.treD Go.Proofs.Ytlihgiannfpjfaa.treH Go.Proofs.Ytlihgiannfpjfaa.treW Go.Proofs.Ytlihgiannfpjfaa.eliW Go.Proofs.Ytlihgiannfpjfaa.eliC
set_option linter.unusedVariables false

/-- How many of the first k are hosts below a, that answer as p tells. -/
def cntB (m : List Nd) (p : Nat → Bool) (a : Nat) : Nat → Nat
  | 0 => 0
  | k + 1 => if ((ndAt m k).kind == 4 && belU m k a && p k) = true then cntB m p a k + 1 else cntB m p a k
theorem cntB_le (m : List Nd) (p : Nat → Bool) (a k : Nat) : cntB m p a k ≤ k := by
  induction k with
  | zero => exact Nat.le_refl _
  | succ k ih => unfold cntB; split <;> omega
/-- How many of these hosts are below a. -/
def cntL (m : List Nd) (p : Nat → Bool) (a : Nat) : List Int → Nat
  | [] => 0
  | x :: l => (if (belU m x.toNat a && p x.toNat) = true then 1 else 0) + cntL m p a l
theorem cntL_snoc (m : List Nd) (p : Nat → Bool) (a : Nat) (x : Int) : ∀ l, cntL m p a (l ++ [x]) = cntL m p a l + (if (belU m x.toNat a && p x.toNat) = true then 1 else 0) := by
  intro l
  induction l with
  | nil => show (if (belU m x.toNat a && p x.toNat) = true then 1 else 0) + 0 = 0 + _; omega
  | cons y l ih => show (if (belU m y.toNat a && p y.toNat) = true then 1 else 0) + cntL m p a (l ++ [x]) = (if (belU m y.toNat a && p y.toNat) = true then 1 else 0) + cntL m p a l + _; rw [ih]; omega
theorem cntL_le (m : List Nd) (p : Nat → Bool) (a : Nat) : ∀ l, cntL m p a l ≤ l.length := by
  intro l
  induction l with
  | nil => exact Nat.le_refl _
  | cons y l ih => show (if (belU m y.toNat a && p y.toNat) = true then 1 else 0) + cntL m p a l ≤ l.length + 1; split <;> omega
theorem cnt_is (m : List Nd) (p : Nat → Bool) (a : Nat) : ∀ k, k ≤ m.length → cntL m p a (ofK m 4 k) = cntB m p a k := by
  intro k
  induction k with
  | zero => intro _; rfl
  | succ k ih =>
    intro hk
    rw [ofK_next (show k < m.length by omega)]
    unfold cntB
    rw [ndAt_nat (show k < m.length by omega)]
    cases h1 : ((m[k]'(by omega)).kind == 4) with
    | false => rw [if_neg (by decide), List.append_nil, Bool.false_and, Bool.false_and, if_neg (by decide)]; exact ih (by omega)
    | true =>
      rw [if_pos rfl, cntL_snoc, ih (by omega), Bool.true_and, Int.toNat_natCast]
      split <;> omega
/-- The level above a host, by its place among the levels. -/
theorem lev_at {m : List Nd} (hf : Fine m) {x : Nat} (hx : x < m.length) : ∃ q a : Nat, q < (ofK m 1 m.length).length ∧ a < m.length ∧ (ofK m 1 m.length)[q]? = some (a : Int) ∧ upF m 1 (x : Int) = (a : Int) ∧ (ndAt m a).kind = 1 ∧ Lib.idxOf (ofK m 1 m.length) (upF m 1 (x : Int)) = (q : Int) := by
  obtain ⟨a, ha, h1, h2⟩ := upF_level hf (x + 1) x hx (by omega)
  have hmem : (a : Int) ∈ ofK m 1 m.length := by
    unfold ofK
    rw [List.mem_map]
    refine ⟨a, List.mem_filter.mpr ⟨List.mem_range.mpr ha, ?_⟩, rfl⟩
    rw [List.getD_eq_getElem?_getD, List.getElem?_eq_getElem ha]
    simp [h2]
  rw [h1]
  have key : ∀ (l : List Int) (i : Nat), (a : Int) ∈ l → ∃ q : Nat, q < l.length ∧ l[q]? = some (a : Int) ∧ Lib.idxFrom l (a : Int) i = ((i + q : Nat) : Int) := by
    intro l
    induction l with
    | nil => intro i h; cases h
    | cons y l ih =>
      intro i h
      by_cases hy : y = (a : Int)
      · refine ⟨0, by simp, by simp [hy], ?_⟩
        show (if y = (a : Int) then (i : Int) else _) = _
        rw [if_pos hy]; rfl
      · have hm : (a : Int) ∈ l := by
          rcases List.mem_cons.mp h with h3 | h3
          · exact absurd h3.symm hy
          · exact h3
        obtain ⟨q, hq, he, hi⟩ := ih (i + 1) hm
        refine ⟨q + 1, by simpa using hq, by simpa using he, ?_⟩
        show (if y = (a : Int) then (i : Int) else Lib.idxFrom l (a : Int) (i + 1)) = _
        rw [if_neg hy, hi]
        congr 1
        omega
  obtain ⟨q, hq, he, hi⟩ := key _ 0 hmem
  refine ⟨q, a, hq, ha, he, rfl, by rw [ndAt_nat ha]; exact h2, ?_⟩
  unfold Lib.idxOf
  rw [hi, Nat.zero_add]
/-- No level stands twice. -/
theorem lev_inj {m : List Nd} {q r : Nat} {a : Int} (hq : (ofK m 1 m.length)[q]? = some a) (hr : (ofK m 1 m.length)[r]? = some a) : q = r := by
  have hnd : (ofK m 1 m.length).Nodup := by
    unfold ofK
    unfold List.Nodup
    rw [List.pairwise_map]
    exact (List.Pairwise.filter _ (show List.Pairwise (· ≠ ·) (List.range m.length) from List.nodup_range)).imp (fun h e => h (by omega))
  have h1 := (List.getElem?_eq_some_iff.mp hq)
  have h2 := (List.getElem?_eq_some_iff.mp hr)
  obtain ⟨l1, e1⟩ := h1
  obtain ⟨l2, e2⟩ := h2
  exact (List.getElem_inj hnd).mp (e1.trans e2.symm)
/-- Below a level. -/
theorem bel_lev {m : List Nd} {x a : Nat} (h : (ndAt m a).kind = 1) : belU m x a = (upF m 1 (x : Int) == (a : Int)) := by
  unfold belU
  rw [h]
end Go.Proofs.Ytlihgiannfpjfaa.eliG
