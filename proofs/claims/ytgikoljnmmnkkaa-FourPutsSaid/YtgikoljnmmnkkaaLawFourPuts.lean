/- FourPuts returns true for every input that the row lets in; what was there reads as before. No further condition. -/
import Derived.Test.YtgikoljnmmnkkaaRows
import Derived.Test.YtgikoljnmmnkkaaFourK
import Derived.Test.YtgikoljnmmnkkaaOpenFour
import Derived.Test.YtgikoljnmmnkkaaIsRow
import Derived.Test.YtgikoljnmmnkkaaLeaf
import Derived.WalkKit
import Derived.ProofKit
import Derived.OpenShut
import Derived.ShutString
import Derived.ChangeOld
import Derived.Below
namespace Go.Proofs.Ytgikoljnmmnkkaa.fourPuts
open Go.ChangeShapes Go.WideShapes Go.ChangeAt Go.RowKit
open Go.ChangeMaps (open_string shut_string)
set_option linter.unusedVariables false

theorem own : ownKnob Try.prog.godebug = none := by kernel_rfl
theorem laidOut : laidOutB Try.prog = true := by kernel_rfl

set_option maxRecDepth 100000 in
theorem walk {H : Type} (enc : TypeId × Value → H) (base : Nat) (W : World) (v0 v1 v2 : Value) (d0 d1 d2 : DataW H) (p0 p1 p2 : List MemPlace)
    (hv0 : Value.okWide Try.prog W .any base 54 v0) (hv1 : Value.okWide Try.prog W .any base 22 v1) (hv2 : Value.okWide Try.prog W .any base 22 v2)
    (h0 : DataW.Trod enc Try.prog W 0 (fun _ => true) true 54 v0 d0 p0) (h1 : DataW.Trod enc Try.prog W 0 (fun _ => true) true 22 v1 d1 p1) (h2 : DataW.Trod enc Try.prog W 0 (fun _ => true) true 22 v2 d2 p2) :
    Calls Try.prog 7 #[v0, v1, v2] W fun e w' => e = .returned (.bool true) ∧ Below W.heap.size W w' := by
  obtain ⟨tos, id, df, mf, fr, ttl, pr, s6, sh, sl, d6, dh, dl, AO, no, co, rfl, ws, wd, m, y, ht⟩ := Go.Proofs.Ytgikoljnmmnkkaa.base.open_four hv0 h0
  obtain ⟨xo, wo⟩ := Go.Proofs.Ytgikoljnmmnkkaa.net.open_tail Try.underlying22 Try.underlying5 (by kernel_rfl) ht
  obtain ⟨a0, len0, cap0, x0, rfl, w0⟩ := Go.Proofs.Ytgikoljnmmnkkaa.net.open_bytes Try.underlying22 Try.underlying5 (by kernel_rfl) hv1 h1
  obtain ⟨a1, len1, cap1, x1, rfl, w1⟩ := Go.Proofs.Ytgikoljnmmnkkaa.net.open_bytes Try.underlying22 Try.underlying5 (by kernel_rfl) hv2 h2
  have z0 := Go.Proofs.Ytgikoljnmmnkkaa.net.none_cap w0
  have z1 := Go.Proofs.Ytgikoljnmmnkkaa.net.none_cap w1
  have zo := Go.Proofs.Ytgikoljnmmnkkaa.net.none_cap wo
  obtain ⟨lo, hlo, hro, hwo, hleo, hco⟩ := Go.Proofs.Ytgikoljnmmnkkaa.base.isrow wo
  obtain ⟨l0, hl0, hr0, hw0, hle0, hc0⟩ := Go.Proofs.Ytgikoljnmmnkkaa.base.isrow w0
  obtain ⟨l1, hl1, hr1, hw1, hle1, hc1⟩ := Go.Proofs.Ytgikoljnmmnkkaa.base.isrow w1
  obtain ⟨e0, r0, C0⟩ := Go.Proofs.Ytgikoljnmmnkkaa.fourF.cut08_arg hl0 hr0 hle0 hc0
  obtain ⟨e1, r1, C1⟩ := Go.Proofs.Ytgikoljnmmnkkaa.fourF.cut08_arg hl1 hr1 hle1 hc1
  have B0 := Go.Proofs.Ytgikoljnmmnkkaa.net.take_u8 (m := min len0 300) hw0
  have B1 := Go.Proofs.Ytgikoljnmmnkkaa.net.take_u8 (m := min len1 300) hw1
  have qs : 0 ≤ sl := by have := bounds_u64 ws; omega
  have qd : 0 ≤ dl := by have := bounds_u64 wd; omega
  exact Go.Proofs.Ytgikoljnmmnkkaa.fourK.puts_any _ _ tos id df mf fr ttl pr s6 sh sl d6 dh dl AO no co lo a0 a1 (min len0 300) (min len1 300) cap0 cap1 _ _ W qs qd hlo hro zo (fun x hx => bounds_u8 (hwo x hx)) e0 (by omega) z0 r0 B0 e1 (by omega) z1 r1 B1 C0 C1

set_option maxRecDepth 100000 in
theorem lifted (os : Os) (started : os.Started) (H : Type) (enc : TypeId × Value → H) :
    ReturnsInHanded {} Try.checked os 7 .any (Rows.fourPutsSpec.pre6 enc Try.prog Try.f7 Rows.fourPutsRow.domain false) (Rows.fourPutsSpec.post enc Try.prog Try.f7 false true false false) := by
  refine returnsInHanded_of_change (C := Try.checked) own started (by kernel_rfl) Try.func7
    (ChangeSpec.witness6 (enc := enc) (C := Try.checked) false ⟨#[], #[.agg #[.int .i64 0, .int .i64 0, .bool false, .bool false, .int .i64 0, .int .i64 0, .int .i64 0, .bool false, .int .u64 0, .int .u64 0, .bool false, .int .u64 0, .int .u64 0, .slice none 0 0], .slice none 0 0, .slice none 0 0], []⟩ 8 (by kernel_rfl) (by kernel_rfl) (by kernel_rfl) (by kernel_rfl)) ?_
  intro W base args ds gs before hval0 hW hcnd _
  have hval : ∀ (j : Nat) t v, Try.f7.params[j]? = some t → args[j]? = some v → Value.okWide Try.prog W .any base t v := hval0
  have hW' := hW
  obtain ⟨p, q, hA0, hV, rfl, hfz, hnd⟩ := hW
  have hA : DataW.TrodAll enc Try.prog W 0 (fun _ => true) true Try.f7.params.toList args.toList ds p := hA0
  rw [Try.params7] at hA hval
  obtain ⟨v0, vs0, d0, ds0, p0, q0, hargs, rfl, rfl, h0, r0⟩ := trodAll_cons hA
  obtain ⟨v1, vs1, d1, ds1, p1, q1, rfl, rfl, rfl, h1, r1⟩ := trodAll_cons r0
  obtain ⟨v2, vs2, d2, ds2, p2, q2, rfl, rfl, rfl, h2, r2⟩ := trodAll_cons r1
  obtain ⟨rfl, rfl, rfl⟩ := trodAll_nil r2
  obtain rfl : args = #[v0, v1, v2] := by cases args; simp_all
  obtain ⟨rfl, rfl⟩ := trodVars_none hV
  have lt0 : ∀ x ∈ p0, x.block < W.heap.size := by obtain ⟨m, hm⟩ := h0; exact DataW.trod_lt m _ _ _ hm
  have lt1 : ∀ x ∈ p1, x.block < W.heap.size := by obtain ⟨m, hm⟩ := h1; exact DataW.trod_lt m _ _ _ hm
  have lt2 : ∀ x ∈ p2, x.block < W.heap.size := by obtain ⟨m, hm⟩ := h2; exact DataW.trod_lt m _ _ _ hm
  clear hA0 hval0
  refine (walk enc base W v0 v1 v2 d0 d1 d2 p0 p1 p2 (hval 0 54 v0 rfl rfl) (hval 1 22 v1 rfl rfl) (hval 2 22 v2 rfl rfl) h0 h1 h2).mono fun e W' ⟨he, bel⟩ => ?_
  subst he
  exact ⟨_, rfl, _, _, _, [], _, [], hW', trodAll_mk1 (shut_bool Try.underlying4 _), (trodAll_cons_mk (Below.trod laidOut (by kernel_rfl) (of_decide_eq_true (by kernel_rfl)) h0 bel lt0) (trodAll_cons_mk (Below.trod laidOut (by kernel_rfl) (of_decide_eq_true (by kernel_rfl)) h1 bel lt1) (trodAll_cons_mk (Below.trod laidOut (by kernel_rfl) (of_decide_eq_true (by kernel_rfl)) h2 bel lt2) trodAll_mk0))), rfl, bel.frame _, fun h => by cases h⟩

theorem over : Rows.fourPutsRow.holds Try.pinned (OpenSpec.ofChange Rows.fourPutsSpec) :=
  OpenClaim.holds_of_wide 7 Try.f7 rfl rfl rfl rfl rfl rfl rfl ⟨rfl, rfl, rfl, rfl, rfl⟩ rfl rfl rfl rfl rfl (by kernel_rfl) Try.func7 (by kernel_rfl)
    (of_decide_eq_true (by kernel_rfl)) (by unfold Func.isWrapper; first | (rw [if_pos (by decide +kernel)]; kernel_rfl) | (rw [if_neg (by decide +kernel)]; exact ⟨rfl, rfl⟩))
    (fun os started H enc _ => lifted os started H enc)

theorem proved : Rows.FourPutsSaid := over
end Go.Proofs.Ytgikoljnmmnkkaa.fourPuts
