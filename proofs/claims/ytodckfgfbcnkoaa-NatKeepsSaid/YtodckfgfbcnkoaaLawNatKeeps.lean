/- NatKeeps returns true for every input that the row lets in; what was there reads as before. No further condition. -/
import Derived.Test.YtodckfgfbcnkoaaRows
import Derived.WalkKit
import Derived.ProofKit
import Derived.OpenShut
import Derived.ShutString
import Derived.ChangeOld
import Derived.Below
import Derived.Test.YtodckfgfbcnkoaaNk01
import Derived.Test.YtodckfgfbcnkoaaNk05
import Derived.Test.YtodckfgfbcnkoaaNk34
namespace Go.Proofs.Ytodckfgfbcnkoaa.natKeeps
set_option maxRecDepth 100000
open Go.ChangeShapes Go.WideShapes Go.ChangeAt Go.RowKit
open Go.ChangeMaps (open_string shut_string)
set_option linter.unusedVariables false
theorem own:ownKnob Try.prog.godebug=none:=by kernel_rfl
theorem laidOut:laidOutB Try.prog=true:=by kernel_rfl
theorem walk {H:Type} (enc:TypeId × Value→H) (base:Nat) (W:World) (v0 v1 v2 v3 v4 v5:Value) (d0 d1 d2 d3 d4 d5:DataW H) (p0 p1 p2 p3 p4 p5:List MemPlace)
  (hv0:Value.okWide Try.prog W .any base 34 v0) (hv1:Value.okWide Try.prog W .any base 3 v1) (hv2:Value.okWide Try.prog W .any base 22 v2) (hv3:Value.okWide Try.prog W .any base 56 v3) (hv4:Value.okWide Try.prog W .any base 32 v4) (hv5:Value.okWide Try.prog W .any base 3 v5)
  (h0:DataW.Trod enc Try.prog W 0 (fun _=>true) true 34 v0 d0 p0) (h1:DataW.Trod enc Try.prog W 0 (fun _=>true) true 3 v1 d1 p1) (h2:DataW.Trod enc Try.prog W 0 (fun _=>true) true 22 v2 d2 p2) (h3:DataW.Trod enc Try.prog W 0 (fun _=>true) true 56 v3 d3 p3) (h4:DataW.Trod enc Try.prog W 0 (fun _=>true) true 32 v4 d4 p4) (h5:DataW.Trod enc Try.prog W 0 (fun _=>true) true 3 v5 d5 p5) :
  Calls Try.prog 7 #[v0,v1,v2,v3,v4,v5] W fun e w'=>e=.returned (.bool true)∧Below W.heap.size W w':=by
 obtain ⟨cs,rfl,hl⟩:=Go.Proofs.Ytodckfgfbcnkoaa.base.open_leaves 4 [.int .i64,.bool,.int .u64,.int .u64,.bool,.int .u64,.int .u64,.int .i64,.int .i64] Try.underlying34 (by kernel_rfl) hv0 h0
 obtain ⟨_,_,rfl,⟨pr,rfl,_⟩,hl⟩:=hl
 obtain ⟨_,_,rfl,⟨s6,rfl⟩,hl⟩:=hl
 obtain ⟨_,_,rfl,⟨sh,rfl,k1⟩,hl⟩:=hl
 obtain ⟨_,_,rfl,⟨sl,rfl,k2⟩,hl⟩:=hl
 obtain ⟨_,_,rfl,⟨d6,rfl⟩,hl⟩:=hl
 obtain ⟨_,_,rfl,⟨dh,rfl,k3⟩,hl⟩:=hl
 obtain ⟨_,_,rfl,⟨dl,rfl,k4⟩,hl⟩:=hl
 obtain ⟨_,_,rfl,⟨sp,rfl,_⟩,hl⟩:=hl
 obtain ⟨_,_,rfl,⟨dp,rfl,_⟩,hl⟩:=hl
 obtain rfl:=hl
 obtain ⟨flags,rfl,_,_⟩:=Go.Proofs.Ytodckfgfbcnkoaa.base.open_i64 Try.underlying3 hv1 h1
 obtain ⟨a0,len0,cap0,x0,rfl,w0⟩:=net.open_bytes Try.underlying22 Try.underlying5 (by kernel_rfl) hv2 h2
 obtain ⟨s,rfl,_,_⟩:=Go.Proofs.Ytodckfgfbcnkoaa.base.open_i64 Try.underlying56 hv3 h3
 obtain ⟨cs1,rfl,hm⟩:=Go.Proofs.Ytodckfgfbcnkoaa.base.open_leaves 3 [.bool,.int .u64,.int .u64] Try.underlying32 (by kernel_rfl) hv4 h4
 obtain ⟨_,_,rfl,⟨f6,rfl⟩,hm⟩:=hm
 obtain ⟨_,_,rfl,⟨fh,rfl,k5⟩,hm⟩:=hm
 obtain ⟨_,_,rfl,⟨fl,rfl,k6⟩,hm⟩:=hm
 obtain rfl:=hm
 obtain ⟨port,rfl,_,_⟩:=Go.Proofs.Ytodckfgfbcnkoaa.base.open_i64 Try.underlying3 hv5 h5
 have z0:=net.none_cap w0
 obtain ⟨l0,hl0,hr0,hw0,hle0,hc0⟩:=Go.Proofs.Ytodckfgfbcnkoaa.base.isrow w0
 have j1:=bounds_u64 k1
 have j2:=bounds_u64 k2
 have j3:=bounds_u64 k3
 have j4:=bounds_u64 k4
 have j5:=bounds_u64 k5
 have j6:=bounds_u64 k6
 exact natM.keeps_law pr s6 sh sl d6 dh dl sp dp flags s f6 fh fl port ⟨j1.1,by omega⟩ ⟨j2.1,by omega⟩ ⟨j3.1,by omega⟩ ⟨j4.1,by omega⟩ ⟨j5.1,by omega⟩ ⟨j6.1,by omega⟩ a0 len0 cap0 l0 W hl0 hr0 (fun x hx=>bounds_u8 (hw0 x hx)) hle0 hc0 z0
theorem lifted (os:Os) (started:os.Started) (H:Type) (enc:TypeId × Value→H) :
  ReturnsInHanded {} Try.checked os 7 .any (Rows.natKeepsSpec.pre6 enc Try.prog Try.f7 Rows.natKeepsRow.domain false) (Rows.natKeepsSpec.post enc Try.prog Try.f7 false true false false):=by
 refine returnsInHanded_of_change (C:=Try.checked) own started (by kernel_rfl) Try.func7
  (ChangeSpec.witness6 (enc:=enc) (C:=Try.checked) false ⟨#[],#[.agg #[.int .i64 0,.bool false,.int .u64 0,.int .u64 0,.bool false,.int .u64 0,.int .u64 0,.int .i64 0,.int .i64 0],.int .i64 0,.slice none 0 0,.int .i64 0,.agg #[.bool false,.int .u64 0,.int .u64 0],.int .i64 0],[]⟩ 8 (by kernel_rfl) (by kernel_rfl) (by kernel_rfl) (by kernel_rfl)) ?_
 intro W base args ds gs before hval0 hW hcnd _
 have hval:∀ (j:Nat) t v,Try.f7.params[j]?=some t→args[j]?=some v→Value.okWide Try.prog W .any base t v:=hval0
 have hW':=hW
 obtain ⟨p,q,hA0,hV,rfl,hfz,hnd⟩:=hW
 have hA:DataW.TrodAll enc Try.prog W 0 (fun _=>true) true Try.f7.params.toList args.toList ds p:=hA0
 rw [Try.params7] at hA hval
 obtain ⟨v0,vs0,d0,ds0,p0,q0,hargs,rfl,rfl,h0,r0⟩:=trodAll_cons hA
 obtain ⟨v1,vs1,d1,ds1,p1,q1,rfl,rfl,rfl,h1,r1⟩:=trodAll_cons r0
 obtain ⟨v2,vs2,d2,ds2,p2,q2,rfl,rfl,rfl,h2,r2⟩:=trodAll_cons r1
 obtain ⟨v3,vs3,d3,ds3,p3,q3,rfl,rfl,rfl,h3,r3⟩:=trodAll_cons r2
 obtain ⟨v4,vs4,d4,ds4,p4,q4,rfl,rfl,rfl,h4,r4⟩:=trodAll_cons r3
 obtain ⟨v5,vs5,d5,ds5,p5,q5,rfl,rfl,rfl,h5,r5⟩:=trodAll_cons r4
 obtain ⟨rfl,rfl,rfl⟩:=trodAll_nil r5
 obtain rfl:args=#[v0,v1,v2,v3,v4,v5]:=by cases args; simp_all
 obtain ⟨rfl,rfl⟩:=trodVars_none hV
 have lt0:∀ x ∈ p0,x.block<W.heap.size:=by obtain ⟨m,hm⟩:=h0; exact DataW.trod_lt m _ _ _ hm
 have lt1:∀ x ∈ p1,x.block<W.heap.size:=by obtain ⟨m,hm⟩:=h1; exact DataW.trod_lt m _ _ _ hm
 have lt2:∀ x ∈ p2,x.block<W.heap.size:=by obtain ⟨m,hm⟩:=h2; exact DataW.trod_lt m _ _ _ hm
 have lt3:∀ x ∈ p3,x.block<W.heap.size:=by obtain ⟨m,hm⟩:=h3; exact DataW.trod_lt m _ _ _ hm
 have lt4:∀ x ∈ p4,x.block<W.heap.size:=by obtain ⟨m,hm⟩:=h4; exact DataW.trod_lt m _ _ _ hm
 have lt5:∀ x ∈ p5,x.block<W.heap.size:=by obtain ⟨m,hm⟩:=h5; exact DataW.trod_lt m _ _ _ hm
 clear hA0 hval0
 refine (walk enc base W v0 v1 v2 v3 v4 v5 d0 d1 d2 d3 d4 d5 p0 p1 p2 p3 p4 p5 (hval 0 34 v0 rfl rfl) (hval 1 3 v1 rfl rfl) (hval 2 22 v2 rfl rfl) (hval 3 56 v3 rfl rfl) (hval 4 32 v4 rfl rfl) (hval 5 3 v5 rfl rfl) h0 h1 h2 h3 h4 h5).mono fun e W' ⟨he,bel⟩=>?_
 subst he
 exact ⟨_,rfl,_,_,_,[],_,[],hW',trodAll_mk1 (shut_bool Try.underlying4 _),(trodAll_cons_mk (Below.trod laidOut (by kernel_rfl) (of_decide_eq_true (by kernel_rfl)) h0 bel lt0) (trodAll_cons_mk (Below.trod laidOut (by kernel_rfl) (of_decide_eq_true (by kernel_rfl)) h1 bel lt1) (trodAll_cons_mk (Below.trod laidOut (by kernel_rfl) (of_decide_eq_true (by kernel_rfl)) h2 bel lt2) (trodAll_cons_mk (Below.trod laidOut (by kernel_rfl) (of_decide_eq_true (by kernel_rfl)) h3 bel lt3) (trodAll_cons_mk (Below.trod laidOut (by kernel_rfl) (of_decide_eq_true (by kernel_rfl)) h4 bel lt4) (trodAll_cons_mk (Below.trod laidOut (by kernel_rfl) (of_decide_eq_true (by kernel_rfl)) h5 bel lt5) trodAll_mk0)))))),rfl,bel.frame _,fun h=>by cases h⟩
theorem over:Rows.natKeepsRow.holds Try.pinned (OpenSpec.ofChange Rows.natKeepsSpec) :=
 OpenClaim.holds_of_wide 7 Try.f7 rfl rfl rfl rfl rfl rfl rfl ⟨rfl,rfl,rfl,rfl,rfl⟩ rfl rfl rfl rfl rfl (by kernel_rfl) Try.func7 (by kernel_rfl)
  (of_decide_eq_true (by kernel_rfl)) (by unfold Func.isWrapper; first | (rw [if_pos (by decide +kernel)]; kernel_rfl) | (rw [if_neg (by decide +kernel)]; exact ⟨rfl,rfl⟩))
  (fun os started H enc _=>lifted os started H enc)
theorem proved:Rows.NatKeepsSaid:=over
end Go.Proofs.Ytodckfgfbcnkoaa.natKeeps
