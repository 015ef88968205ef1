/- Layer 4: bytes cut, the answer's words and its sum. -/
import Derived.Test.YtndekicblbpkjaaSumE
import Derived.Test.YtndekicblbpkjaaApp
namespace Go.Proofs.Ytndekicblbpkjaa.sumH
open Go.ChangeShapes Go.WideShapes Go.ChangeAt Go.RowKit
open Go.Proofs.Ytndekicblbpkjaa.base Go.Proofs.Ytndekicblbpkjaa.sumA Go.Proofs.Ytndekicblbpkjaa.sumB Go.Proofs.Ytndekicblbpkjaa.sumC Go.Proofs.Ytndekicblbpkjaa.sumE
set_option linter.unusedVariables false

/-- The word at a place. -/
def wd (l : List Int) (k : Nat) : Int := 256 * l.getD (2 * k) 0 + l.getD (2 * k + 1) 0
def wds (l : List Int) (k : Nat) : List Int := (List.range k).map (wd l)
theorem wds_snoc (l : List Int) (k : Nat) : wds l (k + 1) = wds l k ++ [wd l k] := by simp [wds, List.range_succ]
theorem wsum_step (l : List Int) (k : Nat) (h : 2 * k < l.length) : wsum (l.take (2 * (k + 1))) = wsum (l.take (2 * k)) + wd l k := by
  have e1 : l.take (2 * k + 1) = l.take (2 * k) ++ [l[2 * k]] := List.take_succ_eq_append_getElem h
  have h1 := wsum_snoc (l.take (2 * k)) l[2 * k]
  have ev : even (l.take (2 * k)) = true := by simp [even, List.length_take]; omega
  rw [← e1, ev] at h1
  have ev2 := even_snoc (l.take (2 * k)) l[2 * k]
  rw [← e1, ev] at ev2
  have g0 : l.getD (2 * k) 0 = l[2 * k] := by simp [List.getD_eq_getElem?_getD, List.getElem?_eq_getElem h]
  by_cases hl : 2 * k + 1 < l.length
  · have e2 : l.take (2 * (k + 1)) = l.take (2 * k + 1) ++ [l[2 * k + 1]] := List.take_succ_eq_append_getElem hl
    have h2 := wsum_snoc (l.take (2 * k + 1)) l[2 * k + 1]
    rw [← e2, ev2] at h2
    have g1 : l.getD (2 * k + 1) 0 = l[2 * k + 1] := by simp [List.getD_eq_getElem?_getD, List.getElem?_eq_getElem hl]
    unfold wd
    rw [h2, h1, g0, g1]
    simp
    omega
  · have e2 : l.take (2 * (k + 1)) = l.take (2 * k + 1) := by rw [List.take_of_length_le (by omega), List.take_of_length_le (by omega)]
    have g1 : l.getD (2 * k + 1) 0 = 0 := by simp [List.getD_eq_getElem?_getD, List.getElem?_eq_none (Nat.le_of_not_lt hl)]
    unfold wd
    rw [e2, h1, g0, g1]
    simp
theorem wd_bd (l : List Int) (h : ∀ x ∈ l, 0 ≤ x ∧ x ≤ 255) (k : Nat) : 0 ≤ wd l k ∧ wd l k ≤ 65535 := by
  have g : ∀ i, 0 ≤ l.getD i 0 ∧ l.getD i 0 ≤ 255 := by
    intro i
    rw [List.getD_eq_getElem?_getD]
    cases hi : l[i]? with
    | none => simp
    | some x => exact h x (List.mem_of_getElem? hi)
  have := g (2 * k); have := g (2 * k + 1)
  unfold wd; omega

theorem info_int : (Try.prog.info? 3).map (fun i => (i.zero, i.size, i.bytes)) = some (some (.int .i64 0), 1, 8) := by kernel_rfl

end Go.Proofs.Ytndekicblbpkjaa.sumH
