/- RateTwos returns true for every input that the row lets in; what was there reads as before. No further condition. -/
import Derived.Test.YticapkhpjdfhgaaRows
import Derived.Test.YticapkhpjdfhgaaRateJ
import Derived.Test.YticapkhpjdfhgaaOpenOps
import Derived.Test.YticapkhpjdfhgaaOpen
import Derived.WalkKit
import Derived.ProofKit
import Derived.OpenShut
import Derived.ShutString
import Derived.ChangeOld
import Derived.Below
namespace Go.Proofs.Yticapkhpjdfhgaa.rateTwos
open Go.ChangeShapes Go.WideShapes Go.ChangeAt Go.RowKit
open Go.ChangeMaps (open_string shut_string)
set_option linter.unusedVariables false

theorem own : ownKnob Try.prog.godebug = none := by kernel_rfl
theorem laidOut : laidOutB Try.prog = true := by kernel_rfl

set_option maxRecDepth 100000 in
theorem walk {H : Type} (enc : TypeId × Value → H) (base : Nat) (W : World) (v0 v1 v2 v3 : Value) (d0 d1 d2 d3 : DataW H) (p0 p1 p2 p3 : List MemPlace)
    (hv0 : Value.okWide Try.prog W .any base 33 v0) (hv1 : Value.okWide Try.prog W .any base 33 v1) (hv2 : Value.okWide Try.prog W .any base 34 v2) (hv3 : Value.okWide Try.prog W .any base 2 v3)
    (h0 : DataW.Trod enc Try.prog W 0 (fun _ => true) true 33 v0 d0 p0) (h1 : DataW.Trod enc Try.prog W 0 (fun _ => true) true 33 v1 d1 p1) (h2 : DataW.Trod enc Try.prog W 0 (fun _ => true) true 34 v2 d2 p2) (h3 : DataW.Trod enc Try.prog W 0 (fun _ => true) true 2 v3 d3 p3) :
    Calls Try.prog 10 #[v0, v1, v2, v3] W fun e w' => e = .returned (.bool true) ∧ Below W.heap.size W w' := by
  obtain ⟨E, M, rfl, E0, E1, M0, M1⟩ := Go.Proofs.Yticapkhpjdfhgaa.base.open_rule hv0 h0
  obtain ⟨E2, M2, rfl, F0, F1, N0, N1⟩ := Go.Proofs.Yticapkhpjdfhgaa.base.open_rule hv1 h1
  obtain ⟨A, n, c, l, rfl, hl, hnc, hcm, hx, hr⟩ := Go.Proofs.Yticapkhpjdfhgaa.base.open_ops 3 Try.underlying34 (by kernel_rfl) (by kernel_rfl) hv2 h2
  obtain ⟨m, rfl, m0, m1⟩ := Go.Proofs.Yticapkhpjdfhgaa.base.open_i64 Try.underlying2 hv3 h3
  cases hb : Go.Proofs.Yticapkhpjdfhgaa.rateA.rightB E M
  · cases hs : Go.Proofs.Yticapkhpjdfhgaa.rateA.rightB E2 M2
    · exact Go.Proofs.Yticapkhpjdfhgaa.rateJ.twos_nn E M E2 M2 A n c m W hb hs
    · exact Go.Proofs.Yticapkhpjdfhgaa.rateJ.twos_ny E M E2 M2 A n c m W hb hs
  · cases hs : Go.Proofs.Yticapkhpjdfhgaa.rateA.rightB E2 M2
    · exact Go.Proofs.Yticapkhpjdfhgaa.rateJ.twos_yn E M E2 M2 A n c m W hb hs
    · exact Go.Proofs.Yticapkhpjdfhgaa.rateJ.twos_yy E M E2 M2 A n c m l W hb hs hl hx hr (by unfold maxLen at hcm; omega)

set_option maxRecDepth 100000 in
theorem lifted (os : Os) (started : os.Started) (H : Type) (enc : TypeId × Value → H) :
    ReturnsInHanded {} Try.checked os 10 .any (Rows.rateTwosSpec.pre6 enc Try.prog Try.f10 Rows.rateTwosRow.domain false) (Rows.rateTwosSpec.post enc Try.prog Try.f10 false true false false) := by
  refine returnsInHanded_of_change (C := Try.checked) own started (by kernel_rfl) Try.func10
    (ChangeSpec.witness6 (enc := enc) (C := Try.checked) false ⟨#[], #[.agg #[.int .i64 0, .int .i64 0], .agg #[.int .i64 0, .int .i64 0], .slice none 0 0, .int .i64 0], []⟩ 8 (by kernel_rfl) (by kernel_rfl) (by kernel_rfl) (by kernel_rfl)) ?_
  intro W base args ds gs before hval0 hW hcnd _
  have hval : ∀ (j : Nat) t v, Try.f10.params[j]? = some t → args[j]? = some v → Value.okWide Try.prog W .any base t v := hval0
  have hW' := hW
  obtain ⟨p, q, hA0, hV, rfl, hfz, hnd⟩ := hW
  have hA : DataW.TrodAll enc Try.prog W 0 (fun _ => true) true Try.f10.params.toList args.toList ds p := hA0
  rw [Try.params10] at hA hval
  obtain ⟨v0, vs0, d0, ds0, p0, q0, hargs, rfl, rfl, h0, r0⟩ := trodAll_cons hA
  obtain ⟨v1, vs1, d1, ds1, p1, q1, rfl, rfl, rfl, h1, r1⟩ := trodAll_cons r0
  obtain ⟨v2, vs2, d2, ds2, p2, q2, rfl, rfl, rfl, h2, r2⟩ := trodAll_cons r1
  obtain ⟨v3, vs3, d3, ds3, p3, q3, rfl, rfl, rfl, h3, r3⟩ := trodAll_cons r2
  obtain ⟨rfl, rfl, rfl⟩ := trodAll_nil r3
  obtain rfl : args = #[v0, v1, v2, v3] := by cases args; simp_all
  obtain ⟨rfl, rfl⟩ := trodVars_none hV
  have lt0 : ∀ x ∈ p0, x.block < W.heap.size := by obtain ⟨m, hm⟩ := h0; exact DataW.trod_lt m _ _ _ hm
  have lt1 : ∀ x ∈ p1, x.block < W.heap.size := by obtain ⟨m, hm⟩ := h1; exact DataW.trod_lt m _ _ _ hm
  have lt2 : ∀ x ∈ p2, x.block < W.heap.size := by obtain ⟨m, hm⟩ := h2; exact DataW.trod_lt m _ _ _ hm
  have lt3 : ∀ x ∈ p3, x.block < W.heap.size := by obtain ⟨m, hm⟩ := h3; exact DataW.trod_lt m _ _ _ hm
  clear hA0 hval0
  refine (walk enc base W v0 v1 v2 v3 d0 d1 d2 d3 p0 p1 p2 p3 (hval 0 33 v0 rfl rfl) (hval 1 33 v1 rfl rfl) (hval 2 34 v2 rfl rfl) (hval 3 2 v3 rfl rfl) h0 h1 h2 h3).mono fun e W' ⟨he, bel⟩ => ?_
  subst he
  exact ⟨_, rfl, _, _, _, [], _, [], hW', trodAll_mk1 (shut_bool Try.underlying4 _), (trodAll_cons_mk (Below.trod laidOut (by kernel_rfl) (of_decide_eq_true (by kernel_rfl)) h0 bel lt0) (trodAll_cons_mk (Below.trod laidOut (by kernel_rfl) (of_decide_eq_true (by kernel_rfl)) h1 bel lt1) (trodAll_cons_mk (Below.trod laidOut (by kernel_rfl) (of_decide_eq_true (by kernel_rfl)) h2 bel lt2) (trodAll_cons_mk (Below.trod laidOut (by kernel_rfl) (of_decide_eq_true (by kernel_rfl)) h3 bel lt3) trodAll_mk0)))), rfl, bel.frame _, fun h => by cases h⟩

theorem over : Rows.rateTwosRow.holds Try.pinned (OpenSpec.ofChange Rows.rateTwosSpec) :=
  OpenClaim.holds_of_wide 10 Try.f10 rfl rfl rfl rfl rfl rfl rfl ⟨rfl, rfl, rfl, rfl, rfl⟩ rfl rfl rfl rfl rfl (by kernel_rfl) Try.func10 (by kernel_rfl)
    (of_decide_eq_true (by kernel_rfl)) (by unfold Func.isWrapper; first | (rw [if_pos (by decide +kernel)]; kernel_rfl) | (rw [if_neg (by decide +kernel)]; exact ⟨rfl, rfl⟩))
    (fun os started H enc _ => lifted os started H enc)

theorem proved : Rows.RateTwosSaid := over
end Go.Proofs.Yticapkhpjdfhgaa.rateTwos
