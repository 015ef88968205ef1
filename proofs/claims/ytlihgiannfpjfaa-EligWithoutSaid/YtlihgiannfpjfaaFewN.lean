/- Few, the law's: at most 60 nodes, and the nodes that came in as a list of that. -/
import Derived.Test.YtlihgiannfpjfaaOpenNodes
import Derived.OwnWalk
namespace Go.Proofs.Ytlihgiannfpjfaa.fewN
open Go.ChangeShapes Go.WideShapes Go.ChangeAt Go.RowKit
open Go.Proofs.Ytlihgiannfpjfaa.base Go.Proofs.Ytlihgiannfpjfaa.dfA
set_option linter.unusedVariables false
theorem few_small (A : Option Addr) (n c : Nat) (w : World) (h : n ≤ 60) : Calls Try.prog 21 #[.slice A n c] w fun o w' => o = .returned (.slice A n c) ∧ Below w.heap.size w w' := by
  have t1 : decide ((60 : Int) < n) = false := decide_eq_false (by omega)
  have HB := Lib.hid (Below.refl w.heap.size w)
  go_enter Try.func21, Try.ntmps21
  go_wp2_with fail
  go_ret
  exact ⟨rfl, HB.out⟩
theorem few_big (b off n c : Nat) (w : World) (h : 60 < n) (hc : n ≤ c) (hc2 : c ≤ 9223372036854775807) : Calls Try.prog 21 #[.slice (some ⟨b, off, none⟩) n c] w fun o w' => o = .returned (.slice (some ⟨b, off, none⟩) 60 c) ∧ Below w.heap.size w w' := by
  have t1 : decide ((60 : Int) < n) = true := decide_eq_true (by omega)
  have HB := Lib.hid (Below.refl w.heap.size w)
  go_enter Try.func21, Try.ntmps21
  go_wp2_with fail
  go_ret
  exact ⟨rfl, HB.out⟩
theorem few_any (W : World) (A : Option Addr) (n c : Nat) (f : Nat → Nd) (h1 : n ≤ c) (h2 : c ≤ maxLen) (hf : ∀ j, j < n → (f j).nm.size ≤ maxLen) (hr : RowsOf W A n 7 (fun j => (f j).cells.toList)) :
      ∃ l : List Nd, RdN W A l ∧ l.length ≤ 60 ∧ l.length ≤ n ∧ l.length ≤ c ∧ c ≤ 9223372036854775807 ∧ (∀ j (hj : j < l.length), (l[j]).nm.size ≤ 9223372036854775807) ∧
        ∀ W', Calls Try.prog 21 #[.slice A n c] W' fun o w' => o = .returned (.slice A l.length c) ∧ Below W'.heap.size W' w' := by
  unfold maxLen at h2 hf
  by_cases hn : n ≤ 60
  · refine ⟨(List.range n).map f, rdN_of hr n (Nat.le_refl _), by simpa using hn, by simp, by simpa using h1, by omega, fun j hj => ?_, fun W' => ?_⟩
    · simp only [List.length_map, List.length_range] at hj
      simpa using hf j hj
    · rw [List.length_map, List.length_range]
      exact few_small A n c W' hn
  · refine ⟨(List.range 60).map f, rdN_of hr 60 (by omega), by simp, by simp; omega, by simp; omega, by omega, fun j hj => ?_, fun W' => ?_⟩
    · simp only [List.length_map, List.length_range] at hj
      simpa using hf j (by omega)
    · rw [List.length_map, List.length_range]
      rcases hr with h0 | ⟨b, off, hA, _, _⟩
      · omega
      · subst hA
        exact few_big b off n c W' (by omega) h1 (by omega)
end Go.Proofs.Ytlihgiannfpjfaa.fewN
