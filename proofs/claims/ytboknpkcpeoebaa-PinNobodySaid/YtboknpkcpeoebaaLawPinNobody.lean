/- PinNobody returns true for every input that the row lets in; what was there reads as before. No further condition. -/
import Derived.Test.YtboknpkcpeoebaaRows
import Derived.Test.YtboknpkcpeoebaaPinF
import Derived.Test.YtboknpkcpeoebaaOpenFlows
import Derived.Test.YtboknpkcpeoebaaLeaf
import Derived.Test.YtboknpkcpeoebaaOpen
import Derived.WalkKit
import Derived.ProofKit
import Derived.OpenShut
import Derived.ShutString
import Derived.ChangeOld
import Derived.Below
namespace Go.Proofs.Ytboknpkcpeoebaa.pinNobody
open Go.ChangeShapes Go.WideShapes Go.ChangeAt Go.RowKit
open Go.ChangeMaps (open_string shut_string)
set_option linter.unusedVariables false

theorem own : ownKnob Try.prog.godebug = none := by kernel_rfl
theorem laidOut : laidOutB Try.prog = true := by kernel_rfl

set_option maxRecDepth 100000 in
theorem walk {H : Type} (enc : TypeId × Value → H) (base : Nat) (W : World) (v0 v1 : Value) (d0 d1 : DataW H) (p0 p1 : List MemPlace)
    (hv0 : Value.okWide Try.prog W .any base 26 v0) (hv1 : Value.okWide Try.prog W .any base 28 v1)
    (h0 : DataW.Trod enc Try.prog W 0 (fun _ => true) true 26 v0 d0 p0) (h1 : DataW.Trod enc Try.prog W 0 (fun _ => true) true 28 v1 d1 p1) :
    Calls Try.prog 3 #[v0, v1] W fun e w' => e = .returned (.bool true) ∧ Below W.heap.size W w' := by
  obtain ⟨cs, rfl, hl⟩ := Go.Proofs.Ytboknpkcpeoebaa.base.open_leaves 4 Go.Proofs.Ytboknpkcpeoebaa.base.tupLeafs Try.underlying26 (by kernel_rfl) hv0 h0
  obtain ⟨x, z', rfl, hz2⟩ := Go.Proofs.Ytboknpkcpeoebaa.base.tup_of (ls := []) hl
  have hz : z' = [] := hz2
  subst hz
  obtain ⟨cs2, rfl, hl2⟩ := Go.Proofs.Ytboknpkcpeoebaa.base.open_leaves 5 (Go.Proofs.Ytboknpkcpeoebaa.base.tupLeafs ++ [.int .i64, .int .i64, .int .i64]) Try.underlying28 (by kernel_rfl) hv1 h1
  obtain ⟨y, z2, rfl, h3⟩ := Go.Proofs.Ytboknpkcpeoebaa.base.tup_of hl2
  obtain ⟨_, _, rfl, ⟨p, rfl, _⟩, h3⟩ := h3
  obtain ⟨_, _, rfl, ⟨q, rfl, _⟩, h3⟩ := h3
  obtain ⟨_, _, rfl, ⟨s, rfl, _⟩, h3⟩ := h3
  have hz3 := h3
  simp only [Go.Proofs.Ytboknpkcpeoebaa.base.Leaves] at hz3
  subst hz3
  rw [List.append_nil, Array.toArray_toList]
  exact Go.Proofs.Ytboknpkcpeoebaa.pinF.nobody_any x ⟨y, p, q, s⟩ W

set_option maxRecDepth 100000 in
theorem lifted (os : Os) (started : os.Started) (H : Type) (enc : TypeId × Value → H) :
    ReturnsInHanded {} Try.checked os 3 .any (Rows.pinNobodySpec.pre6 enc Try.prog Try.f3 Rows.pinNobodyRow.domain false) (Rows.pinNobodySpec.post enc Try.prog Try.f3 false true false false) := by
  refine returnsInHanded_of_change (C := Try.checked) own started (by kernel_rfl) Try.func3
    (ChangeSpec.witness6 (enc := enc) (C := Try.checked) false ⟨#[], #[.agg #[.int .i64 0, .bool false, .int .u64 0, .int .u64 0, .bool false, .int .u64 0, .int .u64 0, .int .i64 0, .int .i64 0], .agg #[.int .i64 0, .bool false, .int .u64 0, .int .u64 0, .bool false, .int .u64 0, .int .u64 0, .int .i64 0, .int .i64 0, .int .i64 0, .int .i64 0, .int .i64 0]], []⟩ 8 (by kernel_rfl) (by kernel_rfl) (by kernel_rfl) (by kernel_rfl)) ?_
  intro W base args ds gs before hval0 hW hcnd _
  have hval : ∀ (j : Nat) t v, Try.f3.params[j]? = some t → args[j]? = some v → Value.okWide Try.prog W .any base t v := hval0
  have hW' := hW
  obtain ⟨p, q, hA0, hV, rfl, hfz, hnd⟩ := hW
  have hA : DataW.TrodAll enc Try.prog W 0 (fun _ => true) true Try.f3.params.toList args.toList ds p := hA0
  rw [Try.params3] at hA hval
  obtain ⟨v0, vs0, d0, ds0, p0, q0, hargs, rfl, rfl, h0, r0⟩ := trodAll_cons hA
  obtain ⟨v1, vs1, d1, ds1, p1, q1, rfl, rfl, rfl, h1, r1⟩ := trodAll_cons r0
  obtain ⟨rfl, rfl, rfl⟩ := trodAll_nil r1
  obtain rfl : args = #[v0, v1] := by cases args; simp_all
  obtain ⟨rfl, rfl⟩ := trodVars_none hV
  have lt0 : ∀ x ∈ p0, x.block < W.heap.size := by obtain ⟨m, hm⟩ := h0; exact DataW.trod_lt m _ _ _ hm
  have lt1 : ∀ x ∈ p1, x.block < W.heap.size := by obtain ⟨m, hm⟩ := h1; exact DataW.trod_lt m _ _ _ hm
  clear hA0 hval0
  refine (walk enc base W v0 v1 d0 d1 p0 p1 (hval 0 26 v0 rfl rfl) (hval 1 28 v1 rfl rfl) h0 h1).mono fun e W' ⟨he, bel⟩ => ?_
  subst he
  exact ⟨_, rfl, _, _, _, [], _, [], hW', trodAll_mk1 (shut_bool Try.underlying4 _), (trodAll_cons_mk (Below.trod laidOut (by kernel_rfl) (of_decide_eq_true (by kernel_rfl)) h0 bel lt0) (trodAll_cons_mk (Below.trod laidOut (by kernel_rfl) (of_decide_eq_true (by kernel_rfl)) h1 bel lt1) trodAll_mk0)), rfl, bel.frame _, fun h => by cases h⟩

theorem over : Rows.pinNobodyRow.holds Try.pinned (OpenSpec.ofChange Rows.pinNobodySpec) :=
  OpenClaim.holds_of_wide 3 Try.f3 rfl rfl rfl rfl rfl rfl rfl ⟨rfl, rfl, rfl, rfl, rfl⟩ rfl rfl rfl rfl rfl (by kernel_rfl) Try.func3 (by kernel_rfl)
    (of_decide_eq_true (by kernel_rfl)) (by unfold Func.isWrapper; first | (rw [if_pos (by decide +kernel)]; kernel_rfl) | (rw [if_neg (by decide +kernel)]; exact ⟨rfl, rfl⟩))
    (fun os started H enc _ => lifted os started H enc)

theorem proved : Rows.PinNobodySaid := over
end Go.Proofs.Ytboknpkcpeoebaa.pinNobody
