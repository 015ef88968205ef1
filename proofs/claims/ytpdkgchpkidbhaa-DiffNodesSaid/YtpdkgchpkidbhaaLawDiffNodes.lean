/- DiffNodes returns true for every input that the row lets in; what was there reads as before. No further condition. -/
import Derived.Test.YtpdkgchpkidbhaaRows
import Derived.Test.YtpdkgchpkidbhaaDfH
import Derived.Test.YtpdkgchpkidbhaaOpenNodes
import Derived.Test.YtpdkgchpkidbhaaLeaf
import Derived.Test.YtpdkgchpkidbhaaOpen
import Derived.WalkKit
import Derived.ProofKit
import Derived.OpenShut
import Derived.ShutString
import Derived.ChangeOld
import Derived.Below
namespace Go.Proofs.Ytpdkgchpkidbhaa.diffNodes
open Go.ChangeShapes Go.WideShapes Go.ChangeAt Go.RowKit
open Go.ChangeMaps (open_string shut_string)
set_option linter.unusedVariables false

theorem own : ownKnob Try.prog.godebug = none := by kernel_rfl
theorem laidOut : laidOutB Try.prog = true := by kernel_rfl

set_option maxRecDepth 100000 in
theorem walk {H : Type} (enc : TypeId × Value → H) (base : Nat) (W : World) (v0 v1 : Value) (d0 d1 : DataW H) (p0 p1 : List MemPlace)
    (hv0 : Value.okWide Try.prog W .any base 22 v0) (hv1 : Value.okWide Try.prog W .any base 22 v1)
    (h0 : DataW.Trod enc Try.prog W 0 (fun _ => true) true 22 v0 d0 p0) (h1 : DataW.Trod enc Try.prog W 0 (fun _ => true) true 22 v1 d1 p1) :
    Calls Try.prog 3 #[v0, v1] W fun e w' => e = .returned (.bool true) ∧ Below W.heap.size W w' := by
  have key : ∀ (A : Option Addr) (n c : Nat) (f : Nat → Go.Proofs.Ytpdkgchpkidbhaa.dfA.Nd), n ≤ c → c ≤ maxLen → Go.Proofs.Ytpdkgchpkidbhaa.base.RowsOf W A n 7 (fun j => (f j).cells.toList) →
      ∃ l : List Go.Proofs.Ytpdkgchpkidbhaa.dfA.Nd, Go.Proofs.Ytpdkgchpkidbhaa.dfA.RdN W A l ∧ l.length ≤ 60 ∧ l.length ≤ c ∧ (c ≤ 9223372036854775807) ∧
        ∀ W', Calls Try.prog 4 #[.slice A n c] W' fun o w' => o = .returned (.slice A l.length c) ∧ Below W'.heap.size W' w' := by
    intro A n c f h1 h2 hr
    unfold maxLen at h2
    by_cases hn : n ≤ 60
    · refine ⟨(List.range n).map f, Go.Proofs.Ytpdkgchpkidbhaa.base.rdN_of hr n (Nat.le_refl _), by simpa using hn, by simpa using h1, by omega, fun W' => ?_⟩
      rw [List.length_map, List.length_range]
      exact Go.Proofs.Ytpdkgchpkidbhaa.dfG.few_small A n c W' hn
    · refine ⟨(List.range 60).map f, Go.Proofs.Ytpdkgchpkidbhaa.base.rdN_of hr 60 (by omega), by simp, by simp; omega, by omega, fun W' => ?_⟩
      rw [List.length_map, List.length_range]
      rcases hr with h0 | ⟨b, off, hA, _, _⟩
      · omega
      · subst hA
        exact Go.Proofs.Ytpdkgchpkidbhaa.dfG.few_big b off n c W' (by omega) h1 (by omega)
  obtain ⟨A, n, c, f, rfl, hnc, hcm, hr⟩ := Go.Proofs.Ytpdkgchpkidbhaa.base.open_nodes 4 Try.underlying22 (by kernel_rfl) (by kernel_rfl) hv0 h0
  obtain ⟨A2, n2, c2, f2, rfl, hnc2, hcm2, hr2⟩ := Go.Proofs.Ytpdkgchpkidbhaa.base.open_nodes 4 Try.underlying22 (by kernel_rfl) (by kernel_rfl) hv1 h1
  obtain ⟨l, k1, k2, k3, k4, k5⟩ := key A n c f hnc hcm hr
  obtain ⟨l2, j1, j2, j3, j4, j5⟩ := key A2 n2 c2 f2 hnc2 hcm2 hr2
  exact Go.Proofs.Ytpdkgchpkidbhaa.dfH.diff_any _ _ A A2 c c2 l l2 W k1 j1 k2 j2 k3 j3 k4 j4 k5 j5

set_option maxRecDepth 100000 in
theorem lifted (os : Os) (started : os.Started) (H : Type) (enc : TypeId × Value → H) :
    ReturnsInHanded {} Try.checked os 3 .any (Rows.diffNodesSpec.pre6 enc Try.prog Try.f3 Rows.diffNodesRow.domain false) (Rows.diffNodesSpec.post enc Try.prog Try.f3 false true false false) := by
  refine returnsInHanded_of_change (C := Try.checked) own started (by kernel_rfl) Try.func3
    (ChangeSpec.witness6 (enc := enc) (C := Try.checked) false ⟨#[], #[.slice none 0 0, .slice none 0 0], []⟩ 8 (by kernel_rfl) (by kernel_rfl) (by kernel_rfl) (by kernel_rfl)) ?_
  intro W base args ds gs before hval0 hW hcnd _
  have hval : ∀ (j : Nat) t v, Try.f3.params[j]? = some t → args[j]? = some v → Value.okWide Try.prog W .any base t v := hval0
  have hW' := hW
  obtain ⟨p, q, hA0, hV, rfl, hfz, hnd⟩ := hW
  have hA : DataW.TrodAll enc Try.prog W 0 (fun _ => true) true Try.f3.params.toList args.toList ds p := hA0
  rw [Try.params3] at hA hval
  obtain ⟨v0, vs0, d0, ds0, p0, q0, hargs, rfl, rfl, h0, r0⟩ := trodAll_cons hA
  obtain ⟨v1, vs1, d1, ds1, p1, q1, rfl, rfl, rfl, h1, r1⟩ := trodAll_cons r0
  obtain ⟨rfl, rfl, rfl⟩ := trodAll_nil r1
  obtain rfl : args = #[v0, v1] := by cases args; simp_all
  obtain ⟨rfl, rfl⟩ := trodVars_none hV
  have lt0 : ∀ x ∈ p0, x.block < W.heap.size := by obtain ⟨m, hm⟩ := h0; exact DataW.trod_lt m _ _ _ hm
  have lt1 : ∀ x ∈ p1, x.block < W.heap.size := by obtain ⟨m, hm⟩ := h1; exact DataW.trod_lt m _ _ _ hm
  clear hA0 hval0
  refine (walk enc base W v0 v1 d0 d1 p0 p1 (hval 0 22 v0 rfl rfl) (hval 1 22 v1 rfl rfl) h0 h1).mono fun e W' ⟨he, bel⟩ => ?_
  subst he
  exact ⟨_, rfl, _, _, _, [], _, [], hW', trodAll_mk1 (shut_bool Try.underlying4 _), (trodAll_cons_mk (Below.trod laidOut (by kernel_rfl) (of_decide_eq_true (by kernel_rfl)) h0 bel lt0) (trodAll_cons_mk (Below.trod laidOut (by kernel_rfl) (of_decide_eq_true (by kernel_rfl)) h1 bel lt1) trodAll_mk0)), rfl, bel.frame _, fun h => by cases h⟩

theorem over : Rows.diffNodesRow.holds Try.pinned (OpenSpec.ofChange Rows.diffNodesSpec) :=
  OpenClaim.holds_of_wide 3 Try.f3 rfl rfl rfl rfl rfl rfl rfl ⟨rfl, rfl, rfl, rfl, rfl⟩ rfl rfl rfl rfl rfl (by kernel_rfl) Try.func3 (by kernel_rfl)
    (of_decide_eq_true (by kernel_rfl)) (by unfold Func.isWrapper; first | (rw [if_pos (by decide +kernel)]; kernel_rfl) | (rw [if_neg (by decide +kernel)]; exact ⟨rfl, rfl⟩))
    (fun os started H enc _ => lifted os started H enc)

theorem proved : Rows.DiffNodesSaid := over
end Go.Proofs.Ytpdkgchpkidbhaa.diffNodes
