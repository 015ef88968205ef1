/- 2 texts in one. -/
import Derived.Deep.RegionLaw
import Derived.Deep.Upon
import Derived.Test.YtnofddbfogilaaaGq29
/- Layer 35: which flow the next segment has. -/
namespace Go.Proofs.Ytnofddbfogilaaa.genG
set_option maxHeartbeats 8000000
set_option maxRecDepth 100000
open Go.ChangeShapes Go.WideShapes Go.ChangeAt Go.RowKit
open base mixB rdrG pktA pktC pktD genW genA genB genC genE
set_option linter.unusedVariables false
set_option linter.unusedSimpArgs false
theorem OwT_ne {w:World} {B:Nat} {v:Value} {l:List Tp} (h:OwT w B v l) {k:Nat} {T:TypeId} {cs:Array Value} (hb:Blk w k T cs) (hT:T≠39):∀ x,v.ownBlock=some x→x≠k:=by
 intro x hx e
 subst e
 rcases h.form with ⟨rfl,_⟩ | ⟨g,c,cur,rfl,_,_,_,hg,_⟩
 ·simp [Value.ownBlock] at hx
 ·simp [Value.ownBlock] at hx
  subst hx
  have:=hb.symm.trans hg
  injection this with this
  injection this with _ this _
  exact hT this
theorem results_tu {fn:Func} {p u:Tmp} (h:fn.results=#[.cell p 39,.tmp u]) (tmps:Array Value) (w:World) (g:Nat) (cs:Array Value) (hp:tmps.getD p undef=.pointer (some ⟨g,0,none⟩)) (hg:Blk w g 39 cs) (hs:cs.size=9) :
  (results fn tmps).run Try.prog w=.ok (.tuple #[.agg cs,tmps.getD u undef]) w:=by
 rw [results_cell_tmp h,hp]
 simp only [asAddr,Sem.run_pure,Result.andThen_ok]
 rw [run_loadVar_row w g 39 39 cs (0,0) _ hg Try.underlying39 rfl (by rw [hs]; kernel_rfl)]
 rfl
theorem Frg_put {g q r:Nat} {v:Value} {w W W':World} (h:Frg g q v w W) (ho:OnlyG r W W') (hr:w.heap.size≤r):Frg g q v w W':=⟨ho.bel.os.trans h.os,ho.bel.tape.trans h.tape,ho.bel.output.trans h.output,Nat.le_trans h.size ho.bel.size,fun k hk k1 k2 k3=>(ho.els k (by omega)).trans (h.block k hk k1 k2 k3)⟩
theorem step_run {P:Program} {w:World} {ops:Array Oper} {o:Oper} {a:Act} {K:Act→World→Prop} {Q:Exit→Act→World→Prop} {E:Prop} (hgd:o.guard=none) (s x:Operand) (t:TypeId)
  (ho:o.op=.call { callee:=.builtin .append,args:=#[s,x],argTypes:=#[t,t] }) (sv xv:Value) (hs:a.eval s=sv) (hx:a.eval x=xv) (ty:TypeId) (hty:o.type=ty) (v':Value) (w':World)
  (hrun:(Builtin.append_ #[t,t] ty #[sv,xv]).run P w=.ok v' w') (h:K (a.put o.dst v') w') :
  if Region.wanted o (yielded ops a.tmps)=true then Oper.wp P o a w K Q else E:=by
 have hw:Region.wanted o (yielded ops a.tmps)=true:=by simp [Region.wanted,hgd]
 rw [if_pos hw]
 subst hty
 unfold Oper.wp
 simp [execOp,ho,resolve,invoke,builtin,hs,hx,hrun,Result.andThen]
 exact h
structure JG (w:World) (r g q B:Nat) (p:Pl) (v:Value) (op:List Tp) (W:World) (a:Int):Prop where
 sm:SM W g q p a v
 own:OwT W B v op
 res:Blk W r 39 #[.int .i64 0,.bool false,.int .u64 0,.int .u64 0,.bool false,.int .u64 0,.int .u64 0,.int .i64 0,.int .i64 0]
 fr:Frg g q v w W
 rw:w.heap.size≤r
 vw:∀ x,v.ownBlock=some x→x<w.heap.size
theorem JG.below {w:World} {r g q B:Nat} {p:Pl} {v:Value} {op:List Tp} {W W':World} {a:Int} (h:JG w r g q B p v op W a) (hb:Below W.heap.size W W'):JG w r g q B p v op W' a :=
 ⟨h.sm.below hb,h.own.below hb,h.res.below hb h.res.lt,h.fr.then (Frg.of_below hb),h.rw,h.vw⟩
theorem JG.onq {w:World} {r g q B:Nat} {p:Pl} {v:Value} {op:List Tp} {W W':World} {a b:Int} (h:JG w r g q B p v op W a) (hs:SM W' g q p b v) (ho:OnQ q W W'):JG w r g q B p v op W' b :=
 ⟨hs,h.own.keep fun x hx=>ho.block x (h.own.lt x hx).2 (OwT_ne h.own h.sm.gen (by decide) x hx) (OwT_ne h.own h.sm.gen (by decide) x hx) (by simp [Value.ownBlock]),ho.blk h.res (blk_ne h.res h.sm.gen (by decide)),h.fr.then ⟨ho.os,ho.tape,ho.output,ho.size,fun k hk k1 k2 k3=>ho.block k hk k2 k2 (by simp [Value.ownBlock])⟩,h.rw,h.vw⟩
def SegP (w:World) (g q B:Nat) (p:Pl) (v:Value) (G:Gs) (o:Ending) (w':World):Prop:=o=.returned (.tuple #[.agg G.t.cells,.int .i64 G.fl])∧∃ v',SM w' g q p G.a v'∧OwT w' B v' G.op∧Frg g q v w w'∧∀ x,v'.ownBlock=some x→v.ownBlock=some x∨w.heap.size≤x
theorem seg_new {w:World} {g q B:Nat} {p:Pl} {a:Int} {v:Value} {op:List Tp} (h:SM w g q p a v) (ho:OwT w B v op) (hp:p.right) (hin:p.In) (hn:op.length≤256) (hB:B≤w.heap.size) (hc:op.length=0∨(below (gNum a 0) 4=0∧op.length<256)) :
  Calls Try.prog 27 #[.pointer (some ⟨g,0,none⟩)] w (SegP w g q B p v (gSeg p a op)):=by
 obtain ⟨n4,hn4⟩:∃ n,n=below (gNum a 0) 4:=⟨_,rfl⟩
 have BL:=Lib.hid (show ∀ W,SM W g q p a v→Calls Try.prog 22 #[.pointer (some ⟨g,0,none⟩),.int .i64 4] W fun o w'=>o=.returned (.int .i64 n4)∧SM w' g q p (gAt a 1) v∧OnlyG q W w' from fun W hW=>by rw [hn4]; exact below_src hW 4 (by omega) (by omega))
 obtain ⟨A,c,hv,hlc,hcm⟩:=ho.slice
 obtain ⟨L,hL⟩:∃ L,L=op.length:=⟨_,rfl⟩
 rw [← hL] at hv hlc hn
 subst hv
 have HL:=Lib.hid hL
 have HN:=Lib.hid hn
 have FL:=Lib.hid (show ∀ W,SM W g q p (gAt a 1) (.slice A L c)→Calls Try.prog 8 #[.pointer (some ⟨g,0,none⟩)] W fun o w'=>o=.returned (.agg (gFlow p (gAt a 1)).cells)∧SM w' g q p (gAt a 3) (.slice A L c)∧OnQ q W w' from fun W hW=>by
  have h9:=flow_src hW hp hin
  rw [gAt_add] at h9
  exact h9)
 have EG:=Lib.hid (show gSeg p a op=⟨gFlow p (gAt a 1),2,gAt a 3,op++[gFlow p (gAt a 1)]⟩ from by unfold gSeg; rw [if_pos hc])
 obtain ⟨F,hF⟩:∃ F,F=gFlow p (gAt a 1):=⟨_,rfl⟩
 obtain ⟨G,hG⟩:∃ G,G=gSeg p a op:=⟨_,rfl⟩
 rw [← hG]
 rw [← hF] at FL EG
 rw [← hG] at EG
 have HC:=Lib.hid (show L=0∨(n4=0∧L<256) from by rw [hL,hn4]; exact hc)
 clear hc hF hG
 obtain ⟨fpr,fs6,fsh,fsl,fd6,fdh,fdl,fsp,fdp⟩:=F
 have FL:=Lib.hid (show ∀ W,SM W g q p (gAt a 1) (.slice A L c)→Calls Try.prog 8 #[.pointer (some ⟨g,0,none⟩)] W fun o w'=>o=.returned (.agg #[.int .i64 fpr,.bool fs6,.int .u64 fsh,.int .u64 fsl,.bool fd6,.int .u64 fdh,.int .u64 fdl,.int .i64 fsp,.int .i64 fdp])∧SM w' g q p (gAt a 3) (.slice A L c)∧OnQ q W w' from FL.out)
 have J1:=Lib.hid (show JG w w.heap.size g q B p (.slice A L c) op (w.alloc (.cells #[.int .i64 0,.bool false,.int .u64 0,.int .u64 0,.bool false,.int .u64 0,.int .u64 0,.int .i64 0,.int .i64 0] 39)) a from ⟨h.below (al_below _ _),ho.below (al_below _ _),Blk.new w _ _,Frg.of_below (al_below _ _),Nat.le_refl _,fun x hx=>(ho.lt x hx).2⟩)
 have HB:=Lib.hid hB
 have I0:=Lib.hid (by first | exact (info_parts info_t))
 clear h ho hp hin hB hn hL hn4 hlc hcm
 go_enter Try.func27,Try.ntmps27
 go_wp2_with fail
 refine (BL.out _ J1.out.sm).mono ?_
 rintro o w2 ⟨rfl,hs2,ho2⟩
 have J2:=Lib.hid (J1.out.onq hs2 (OnQ.of_only ho2))
 clear hs2 ho2
 have c12:w2.cell? ⟨g,12,none⟩=some (.slice A L c):=J2.out.sm.src.cell 12
 go_upto_region 2 with fail
 go_cut [27] (fun x wx=>x=.bool true∧wx=w2)
 case first =>
  by_cases h0:L=0
  ·have t0:((L:Int) == 0)=true:=by simp [h0]
   clear h0
   go_wp2_with fail
   go_meet
   exact ⟨rfl,rfl⟩
  ·have t0:((L:Int) == 0)=false:=by simp [h0]
   have h1:=HC.out.resolve_left h0
   have t1:(n4 == 0)=true:=by simp [h1.1]
   have t2:decide ((L:Int)<256)=true:=decide_eq_true (by omega)
   clear h0 h1
   go_wp2_with fail
   go_meet
   exact ⟨rfl,rfl⟩
 case rest =>
 obtain ⟨rfl,hwc⟩:=hcut
 rw [hwc]
 clear hwc c12
 go_wp2_with fail
 refine (FL.out _ J2.out.sm).mono ?_
 rintro o w3 ⟨rfl,hs3,ho3⟩
 have J3:=Lib.hid (J2.out.onq hs3 ho3)
 clear hs3 ho3
 go_upto_region 4 with fail
 obtain ⟨w4,hw4⟩:∃ w4,w4=w3.alloc (.cells #[.int .i64 fpr,.bool fs6,.int .u64 fsh,.int .u64 fsl,.bool fd6,.int .u64 fdh,.int .u64 fdl,.int .i64 fsp,.int .i64 fdp] 39):=⟨_,rfl⟩
 obtain ⟨z,hz⟩:∃ z,z=w3.heap.size:=⟨_,rfl⟩
 obtain ⟨r,hr⟩:∃ r,r=w.heap.size:=⟨_,rfl⟩
 rw [← hw4,← hz,← hr]
 have J4:=Lib.hid (show JG w r g q B p (.slice A L c) op w4 (gAt a 3) from by rw [hw4,hr]; exact J3.out.below (al_below _ _))
 have Z4:=Lib.hid (show Blk w4 z 39 #[.int .i64 fpr,.bool fs6,.int .u64 fsh,.int .u64 fsl,.bool fd6,.int .u64 fdh,.int .u64 fdl,.int .i64 fsp,.int .i64 fdp] from by rw [hw4,hz]; exact Blk.new w3 _ _)
 have HZ:=Lib.hid (show z≠r∧w.heap.size≤z∧z<w4.heap.size from by
  have h1:=J3.out.res.lt
  have h2:=J3.out.fr.size
  rw [hw4]
  simp
  omega)
 clear hw4 hz hr
 obtain ⟨w5,hw5⟩:∃ w5,w5=(w4.alloc (.cells #[.int .i64 fpr,.bool fs6,.int .u64 fsh,.int .u64 fsl,.bool fd6,.int .u64 fdh,.int .u64 fdl,.int .i64 fsp,.int .i64 fdp] 39)).drew:=⟨_,rfl⟩
 have D5:=Lib.hid (show Below w4.heap.size w4 w5 from by rw [hw5]; exact (al_below _ _).drew)
 have Y5:=(show Blk w5 w4.heap.size 39 #[.int .i64 fpr,.bool fs6,.int .u64 fsh,.int .u64 fsl,.bool fd6,.int .u64 fdh,.int .u64 fdl,.int .i64 fsp,.int .i64 fdp] from by rw [hw5]; exact (Blk.new w4 _ _).below (dr_below _) (Blk.new w4 _ _).lt)
 have J5:=Lib.hid (J4.out.below D5.out)
 have Z5:=Lib.hid (Z4.out.below D5.out Z4.out.lt)
 have E5:=Lib.hid hw5
 have hrun:=app_one w5 B (.slice A L c) op J5.out.own ⟨fpr,fs6,fsh,fsl,fd6,fdh,fdl,fsp,fdp⟩ ⟨w4.heap.size,0,none⟩ 1 (fun j u hu=>by rw [add0,Y5.cell j,← hu]; simp [Tp.cells]) (by have:=HL.out; have:=HN.out; omega) (by have:=HB.out; have:=J5.out.fr.size; omega) 35
 obtain ⟨v6,w6,hrun,ho6,hg6,hb6⟩:=hrun
 obtain ⟨A6,c6,hv6,_,_⟩:=ho6.slice
 obtain ⟨n6,hn6⟩:∃ n,n=(op++[(⟨fpr,fs6,fsh,fsl,fd6,fdh,fdl,fsp,fdp⟩:Tp)]).length:=⟨_,rfl⟩
 rw [← hn6] at hv6
 subst hv6
 clear hn6
 rw [hw5] at hrun
 have OW6:=Lib.hid ho6
 have VB6:=Lib.hid hb6
 have VN:=Lib.hid (OwT_ne J5.out.own J5.out.sm.src (by decide))
 have VQ:=Lib.hid (OwT_ne J5.out.own J5.out.sm.gen (by decide))
 have KP:=Lib.hid (show ∀ k,k<w5.heap.size→(∀ x,(Value.slice A L c).ownBlock=some x→x≠k)→w6.heap[k]?=w5.heap[k]? from fun k hk hx=>hg6.block k hk (fun e=>hx k e.symm rfl))
 have S6:=Lib.hid (show SM w6 g q p (gAt a 3) (.slice A L c) from ⟨(KP.out g J5.out.sm.src.lt VN.out).trans J5.out.sm.src,(KP.out q J5.out.sm.gen.lt VQ.out).trans J5.out.sm.gen⟩)
 have VW:=Lib.hid J5.out.vw
 have R6:=Lib.hid (show Blk w6 r 39 #[.int .i64 0,.bool false,.int .u64 0,.int .u64 0,.bool false,.int .u64 0,.int .u64 0,.int .i64 0,.int .i64 0] from (KP.out r J5.out.res.lt fun x hx e=>by have:=VW.out x hx; have:=J5.out.rw; omega).trans J5.out.res)
 have Z6:=Lib.hid (show Blk w6 z 39 #[.int .i64 fpr,.bool fs6,.int .u64 fsh,.int .u64 fsl,.bool fd6,.int .u64 fdh,.int .u64 fdl,.int .i64 fsp,.int .i64 fdp] from (KP.out z Z5.out.lt fun x hx e=>by have:=VW.out x hx; have:=HZ.out; omega).trans Z5.out)
 have F6:=Lib.hid (J5.out.fr.grown hg6)
 have G6:=Lib.hid hg6.size
 have c12:w4.cell? ⟨g,12,none⟩=some (.slice A L c):=J4.out.sm.src.cell 12
 have e12:(w4.alloc (.cells #[.int .i64 fpr,.bool fs6,.int .u64 fsh,.int .u64 fsl,.bool fd6,.int .u64 fdh,.int .u64 fdl,.int .i64 fsp,.int .i64 fdp] 39)).cell? ⟨g,12,none⟩=some (.slice A L c):=((al_below w4 _).cell (p:=⟨g,12,none⟩) J4.out.sm.src.lt).trans c12
 have d12:w6.cell? ⟨g,12,none⟩=some (.slice A L c):=S6.out.src.cell 12
 have f12:w6.frozen? ⟨g,12,none⟩=false:=S6.out.src.frozen 12
 have z0:=Z4.out.cell 0
 have z1:=Z4.out.cell 1
 have z2:=Z4.out.cell 2
 have z3:=Z4.out.cell 3
 have z4:=Z4.out.cell 4
 have z5:=Z4.out.cell 5
 have z6:=Z4.out.cell 6
 have z7:=Z4.out.cell 7
 have z8:=Z4.out.cell 8
 have HR:=Lib.hid hrun
 obtain ⟨w7,hw7⟩:∃ w7,w7=w6.setCell ⟨g,12,none⟩ (.slice A6 n6 c6):=⟨_,rfl⟩
 have E7:=Lib.hid hw7
 clear hw5 Y5 ho6 hg6 hb6 hrun hw7
 go_cut [] (fun wx=>wx=w7)
 case first =>
  go_region_law (refine step_run rfl (.tmp 34) (.tmp 36) 35 rfl (.slice A L c) (.slice (some ⟨w4.heap.size,0,none⟩) 1 1) rfl rfl 35 rfl (.slice A6 n6 c6) w6 HR.out ?_)
  all_goals go_wp2_with fail
  all_goals go_meet
  all_goals exact E7.out.symm
 case rest =>
 rw [hcut]
 clear hcut
 have hw7:=E7.out
 have O7:=Lib.hid (show OnlyG g w6 w7 from by rw [hw7]; exact (OnlyG.refl g w6).set 12 _)
 have S7:=Lib.hid (show SM w7 g q p (gAt a 3) (.slice A6 n6 c6) from ⟨by rw [hw7]; exact S6.out.src.set_ 12 _,O7.out.blk S6.out.gen (blk_ne S6.out.gen S6.out.src (by decide))⟩)
 have R7:=Lib.hid (O7.out.blk R6.out (blk_ne R6.out S6.out.src (by decide)))
 have Z7:=Lib.hid (O7.out.blk Z6.out (blk_ne Z6.out S6.out.src (by decide)))
 have OW7:=Lib.hid (OW6.out.keep fun x hx=>O7.out.els x (OwT_ne OW6.out S6.out.src (by decide) x hx))
 have F7:=Lib.hid (show Frg g q (.slice A L c) w w7 from by rw [hw7]; exact F6.out.setCell (p:=⟨g,12,none⟩) (.inl rfl) _)
 clear hw7 c12 d12 f12 e12 z0 z1 z2 z3 z4 z5 z6 z7 z8
 have z0:=Z7.out.cell 0
 have y0:=R7.out.cell 0
 have f0:=R7.out.frozen 0
 have z1:=Z7.out.cell 1
 have y1:=R7.out.cell 1
 have f1:=R7.out.frozen 1
 have z2:=Z7.out.cell 2
 have y2:=R7.out.cell 2
 have f2:=R7.out.frozen 2
 have z3:=Z7.out.cell 3
 have y3:=R7.out.cell 3
 have f3:=R7.out.frozen 3
 have z4:=Z7.out.cell 4
 have y4:=R7.out.cell 4
 have f4:=R7.out.frozen 4
 have z5:=Z7.out.cell 5
 have y5:=R7.out.cell 5
 have f5:=R7.out.frozen 5
 have z6:=Z7.out.cell 6
 have y6:=R7.out.cell 6
 have f6:=R7.out.frozen 6
 have z7:=Z7.out.cell 7
 have y7:=R7.out.cell 7
 have f7:=R7.out.frozen 7
 have z8:=Z7.out.cell 8
 have y8:=R7.out.cell 8
 have f8:=R7.out.frozen 8
 have TP:=Lib.hid (tput w7 r (.int .i64 fpr) (.bool fs6) (.int .u64 fsh) (.int .u64 fsl) (.bool fd6) (.int .u64 fdh) (.int .u64 fdl) (.int .i64 fsp) (.int .i64 fdp) R7.out)
 go_wp2_with fail
 refine bodyPost_ret (results_tu rfl _ _ r #[.int .i64 fpr,.bool fs6,.int .u64 fsh,.int .u64 fsl,.bool fd6,.int .u64 fdh,.int .u64 fdl,.int .i64 fsp,.int .i64 fdp] rfl TP.out.1 rfl) rfl ?_
 unfold SegP
 rw [EG.out]
 have hr5:=J5.out.res.lt
 have hw5:=J5.out.fr.size
 refine ⟨rfl,.slice A6 n6 c6,⟨TP.out.2.blk S7.out.src (blk_ne S7.out.src R7.out (by decide)),TP.out.2.blk S7.out.gen (blk_ne S7.out.gen R7.out (by decide))⟩,OW7.out.keep fun x hx=>TP.out.2.els x ?_,Frg_put F7.out TP.out.2 J5.out.rw,fun x hx=>?_⟩
 ·rcases VB6.out x hx with h1 | h1
  ·have:=VW.out x h1
   have:=J5.out.rw
   omega
  ·omega
 ·rcases VB6.out x hx with h1 | h1
  ·exact .inl h1
  ·exact .inr (by omega)
end Go.Proofs.Ytnofddbfogilaaa.genG
/- Layer 35: a segment of a connection that is open. -/
namespace Go.Proofs.Ytnofddbfogilaaa.genH
set_option maxHeartbeats 8000000
set_option maxRecDepth 100000
open Go.ChangeShapes Go.WideShapes Go.ChangeAt Go.RowKit
open base mixB rdrG pktA pktC pktD genW genA genB genC genE genG
set_option linter.unusedVariables false
set_option linter.unusedSimpArgs false
theorem und_e:Try.prog.underlying 35=some (.slice (Try.prog.elem 35)):=by kernel_rfl
theorem size_t (W:World):(sizeOf (Try.prog.elem 35)).run Try.prog W=.ok 9 W:=by kernel_rfl
theorem slice_t (gb L c k:Nat) (hk:k<L) (hLc:L≤c):∃ AX:Addr,(AX=⟨gb,(k+1)*9,none⟩∨k+1=L) ∧
  (∀ W:World,(Instr.slice 35 (.slice (some ⟨gb,0,none⟩) L c) (some (.int .i64 ((k:Int)+1))) none none).run Try.prog W=.ok (.slice (some AX) (L - (k+1)) (c - (k+1))) W) ∧
  ∀ W:World,(Instr.sliceAt 35 (.slice (some ⟨gb,0,none⟩) L c) (some (.int .i64 ((k:Int)+1))) none none).run Try.prog W=.ok (.slice (some AX) (L - (k+1)) (c - (k+1))) W:=by
 have key:∀ W:World,(Instr.slice 35 (.slice (some ⟨gb,0,none⟩) L c) (some (.int .i64 ((k+1:Nat):Int))) none none).run Try.prog W=.ok (.slice (some (if c=k+1 then ⟨gb,0,none⟩ else ⟨gb,(k+1)*9,none⟩)) (L - (k+1)) (c - (k+1))) W:=by
  intro W
  rw [run_slice_l W 35 (some ⟨gb,0,none⟩) L c und_e .i64 ((k+1:Nat):Int) (by omega) (by omega),size_t]
  simp only [Result.andThen,sliced,Int.toNat_natCast,Option.map_some,Addr.add_lit,Nat.zero_add]
  split <;> rfl
 rw [show (((k+1:Nat):Int))=(k:Int)+1 from by omega] at key
 refine ⟨if c=k+1 then ⟨gb,0,none⟩ else ⟨gb,(k+1)*9,none⟩,?_,key,fun W=>?_⟩
 ·by_cases h:c=k+1
  ·exact .inr (by omega)
  ·rw [if_neg h]; exact .inl rfl
 ·rw [run_sliceAt_slice W 35 _ _ _ _ und_e,key]
theorem slice_hm (gb L c k:Nat) (hk:k<L) (hLc:L≤c) :
  (∀ W:World,(Instr.slice 35 (.slice (some ⟨gb,0,none⟩) L c) none (some (.int .i64 (k:Int))) (some (.int .i64 (k:Int)))).run Try.prog W=.ok (.slice (some ⟨gb,0,none⟩) k k) W) ∧
  ∀ W:World,(Instr.sliceAt 35 (.slice (some ⟨gb,0,none⟩) L c) none (some (.int .i64 (k:Int))) (some (.int .i64 (k:Int)))).run Try.prog W=.ok (.slice (some ⟨gb,0,none⟩) k k) W:=by
 have key:∀ W:World,(Instr.slice 35 (.slice (some ⟨gb,0,none⟩) L c) none (some (.int .i64 (k:Int))) (some (.int .i64 (k:Int)))).run Try.prog W=.ok (.slice (some ⟨gb,0,none⟩) k k) W:=by
  intro W
  rw [run_slice_hm W 35 (some ⟨gb,0,none⟩) L c und_e .i64 .i64 (k:Int) (k:Int) (by omega) (Int.le_refl _) (by omega),size_t]
  simp only [Result.andThen,sliced,Int.toNat_natCast,Option.map_some,Addr.add_lit,Nat.zero_mul,Nat.add_zero,Nat.sub_zero]
  split <;> rfl
 exact ⟨key,fun W=>by rw [run_sliceAt_slice W 35 _ _ _ _ und_e,key]⟩
theorem app_rm (W:World) (B gb L c k:Nat) (op:List Tp) (hown:OwT W B (.slice (some ⟨gb,0,none⟩) L c) op) (hL:op.length=L) (hk:k<L) (hn:L≤100000) (hB:B≤W.heap.size) (AX:Addr) (hAX:AX=⟨gb,(k+1)*9,none⟩∨k+1=L) :
  ∃ v' w',(Builtin.append_ #[35,35] 35 #[.slice (some ⟨gb,0,none⟩) k k,.slice (some AX) (L - (k+1)) (c - (k+1))]).run Try.prog W=.ok v' w'∧OwT w' B v' (op.eraseIdx k)∧W.grownBy w' none∧∀ x,v'.ownBlock=some x→x=gb∨W.heap.size≤x:=by
 subst hL
 by_cases hl:k+1=op.length
 ·obtain ⟨i,hi,hz,hsize,hby⟩:=info_parts info_t
  refine ⟨_,W,run_append_nothing W _ _ _ _ i und_t hi (some ⟨gb,0,none⟩) k k (Nat.le_refl _) _ ?_,cut_last hown k hl gb c rfl,⟨rfl,rfl,rfl,Nat.le_refl _,fun _ _ _=>rfl⟩,fun x hx=>.inl ?_⟩
  ·rw [show op.length - (k+1)=0 by omega]
   exact Src.ofSlice W und_t AX 0 _ [] (by simp) (fun j u hu=>by simp at hu) (fun u hu=>by cases hu)
  ·simp [Value.ownBlock] at hx
   exact hx.symm
 ·obtain rfl:=hAX.resolve_right hl
  rcases hown.form with ⟨h0,_⟩ | ⟨g2,c2,cur,h1,_,_,h4,h5,h6⟩
  ·cases h0
  ·injection h1 with h1
   injection h1 with h1
   injection h1 with h1
   subst h1
   obtain ⟨v',w',a1,a2,a3,a4⟩:=app_cut W B gb cur op k (by omega) h5 h6 _ (c - (k+1)) rfl _ rfl hn hB 35
   exact ⟨v',w',a1,a2,a3,fun x hx=>.inr (a4 x hx)⟩
theorem seg_ack {w:World} {g q B:Nat} {p:Pl} {a:Int} {v:Value} {op:List Tp} (h:SM w g q p a v) (ho:OwT w B v op) (hp:p.right) (hin:p.In) (hn:op.length≤256) (hB:B≤w.heap.size) (h0:op.length≠0) (hc:¬ (below (gNum a 0) 4=0∧op.length<256)) (h1:¬ below (gNum a 0) 4=1) :
  Calls Try.prog 27 #[.pointer (some ⟨g,0,none⟩)] w (SegP w g q B p v (gSeg p a op)):=by
 obtain ⟨n4,hn4⟩:∃ n,n=below (gNum a 0) 4:=⟨_,rfl⟩
 have BL:=Lib.hid (show ∀ W,SM W g q p a v→Calls Try.prog 22 #[.pointer (some ⟨g,0,none⟩),.int .i64 4] W fun o w'=>o=.returned (.int .i64 n4)∧SM w' g q p (gAt a 1) v∧OnlyG q W w' from fun W hW=>by rw [hn4]; exact below_src hW 4 (by omega) (by omega))
 obtain ⟨A,c,hv,hlc,hcm⟩:=ho.slice
 obtain ⟨L,hL⟩:∃ L,L=op.length:=⟨_,rfl⟩
 rw [← hL] at hv hlc hn
 subst hv
 have HL:=Lib.hid hL
 have HN:=Lib.hid hn
 have b1:=below_in a 1 L (by omega)
 obtain ⟨k,hk⟩:∃ k,k=(below (gNum a 1) L).toNat:=⟨_,rfl⟩
 have BL2:=Lib.hid (show ∀ W,SM W g q p (gAt a 1) (.slice A L c)→Calls Try.prog 22 #[.pointer (some ⟨g,0,none⟩),.int .i64 (L:Int)] W fun o w'=>o=.returned (.int .i64 (k:Int))∧SM w' g q p (gAt a 2) (.slice A L c)∧OnlyG q W w' from fun W hW=>by
  have h9:=below_src hW (L:Int) (by omega) (by omega)
  rw [show gNum (gAt a 1) 0=gNum a 1 from gNum_add a 1 0] at h9
  rw [show (k:Int)=below (gNum a 1) L by omega]
  exact h9)
 have HK:=Lib.hid (show k<L by omega)
 have EG:=Lib.hid (show gSeg p a op=⟨op.getD k zeroT,16,gAt a 2,op⟩ from by unfold gSeg; rw [if_neg (fun h=>h.elim h0 hc),if_neg h1,hk,hL])
 obtain ⟨gb,c',hvg,_,hcell⟩:=ho.cell k (by omega)
 injection hvg with hvg e2 e3
 subst hvg
 clear hcell e2 e3
 have HTC:=Lib.hid (show ∀ W,OwT W B (.slice (some ⟨gb,0,none⟩) L c) op→∀ j,j<9→W.cell? ⟨gb,k*9+j,none⟩=(op.getD k zeroT).cells[j]? from fun W hW j hj=>by
  obtain ⟨g2,c2,e2,_,e3⟩:=hW.cell k (by omega)
  injection e2 with e2 _ _
  injection e2 with e2
  injection e2 with e2
  subst e2
  exact e3 j hj)
 obtain ⟨F,hF⟩:∃ F,F=op.getD k zeroT:=⟨_,rfl⟩
 obtain ⟨G,hG⟩:∃ G,G=gSeg p a op:=⟨_,rfl⟩
 rw [← hG]
 rw [← hF] at HTC EG
 rw [← hG] at EG
 have HC:=Lib.hid (show ¬ (n4=0∧L<256) from by rw [hL,hn4]; exact hc)
 have H0:=Lib.hid (show L≠0 from by rw [hL]; exact h0)
 have T1:=Lib.hid (show ¬ n4=1 from by rw [hn4]; exact h1)
 have LC:=Lib.hid hlc
 clear hc hF hG h0 h1 hk b1
 obtain ⟨fpr,fs6,fsh,fsl,fd6,fdh,fdl,fsp,fdp⟩:=F
 have J1:=Lib.hid (show JG w w.heap.size g q B p (.slice (some ⟨gb,0,none⟩) L c) op (w.alloc (.cells #[.int .i64 0,.bool false,.int .u64 0,.int .u64 0,.bool false,.int .u64 0,.int .u64 0,.int .i64 0,.int .i64 0] 39)) a from ⟨h.below (al_below _ _),ho.below (al_below _ _),Blk.new w _ _,Frg.of_below (al_below _ _),Nat.le_refl _,fun x hx=>(ho.lt x hx).2⟩)
 have HB:=Lib.hid hB
 have I0:=Lib.hid (by first | exact (info_parts info_t))
 clear h ho hp hin hB hn hL hn4 hlc hcm
 go_enter Try.func27,Try.ntmps27
 go_wp2_with fail
 refine (BL.out _ J1.out.sm).mono ?_
 rintro o w2 ⟨rfl,hs2,ho2⟩
 have J2:=Lib.hid (J1.out.onq hs2 (OnQ.of_only ho2))
 clear hs2 ho2
 have c12:w2.cell? ⟨g,12,none⟩=some (.slice (some ⟨gb,0,none⟩) L c):=J2.out.sm.src.cell 12
 go_upto_region 2 with fail
 go_cut [27] (fun x wx=>x=.bool false∧wx=w2)
 case first =>
  have t0:((L:Int) == 0)=false:=by have:=H0.out; rw [beq_eq_false_iff_ne]; omega
  by_cases h4:n4=0
  ·have t1:(n4 == 0)=true:=by simp [h4]
   have t2:decide ((L:Int)<256)=false:=decide_eq_false (by have:=HC.out; omega)
   clear h4
   go_wp2_with fail
   go_meet
   exact ⟨rfl,rfl⟩
  ·have t1:(n4 == 0)=false:=by simp [h4]
   clear h4
   go_wp2_with fail
   go_meet
   exact ⟨rfl,rfl⟩
 case rest =>
 obtain ⟨rfl,hwc⟩:=hcut
 rw [hwc]
 clear hwc
 go_wp2_with fail
 refine (BL2.out _ J2.out.sm).mono ?_
 rintro o w3 ⟨rfl,hs3,ho3⟩
 have J3:=Lib.hid (J2.out.onq hs3 (OnQ.of_only ho3))
 clear hs3 ho3 c12
 have c12:w3.cell? ⟨g,12,none⟩=some (.slice (some ⟨gb,0,none⟩) L c):=J3.out.sm.src.cell 12
 have x0:w3.cell? ⟨gb,k*9,none⟩=some (.int .i64 fpr):=HTC.out _ J3.out.own 0 (by omega)
 have x1:w3.cell? ⟨gb,k*9+1,none⟩=some (.bool fs6):=HTC.out _ J3.out.own 1 (by omega)
 have x2:w3.cell? ⟨gb,k*9+2,none⟩=some (.int .u64 fsh):=HTC.out _ J3.out.own 2 (by omega)
 have x3:w3.cell? ⟨gb,k*9+3,none⟩=some (.int .u64 fsl):=HTC.out _ J3.out.own 3 (by omega)
 have x4:w3.cell? ⟨gb,k*9+4,none⟩=some (.bool fd6):=HTC.out _ J3.out.own 4 (by omega)
 have x5:w3.cell? ⟨gb,k*9+5,none⟩=some (.int .u64 fdh):=HTC.out _ J3.out.own 5 (by omega)
 have x6:w3.cell? ⟨gb,k*9+6,none⟩=some (.int .u64 fdl):=HTC.out _ J3.out.own 6 (by omega)
 have x7:w3.cell? ⟨gb,k*9+7,none⟩=some (.int .i64 fsp):=HTC.out _ J3.out.own 7 (by omega)
 have x8:w3.cell? ⟨gb,k*9+8,none⟩=some (.int .i64 fdp):=HTC.out _ J3.out.own 8 (by omega)
 have j1:(0:Int)≤(k:Int):=by omega
 have j2:(k:Int)<(L:Int):=by have:=HK.out; omega
 have tq:(n4 != 1)=true:=by have:=T1.out; simp [this]
 go_upto_region 9 with fail
 obtain ⟨w4,hw4⟩:∃ w4,w4=w3.alloc (.cells #[.int .i64 fpr,.bool fs6,.int .u64 fsh,.int .u64 fsl,.bool fd6,.int .u64 fdh,.int .u64 fdl,.int .i64 fsp,.int .i64 fdp] 39):=⟨_,rfl⟩
 obtain ⟨z,hz⟩:∃ z,z=w3.heap.size:=⟨_,rfl⟩
 obtain ⟨r,hr⟩:∃ r,r=w.heap.size:=⟨_,rfl⟩
 rw [← hw4,← hz,← hr]
 have J4:=Lib.hid (show JG w r g q B p (.slice (some ⟨gb,0,none⟩) L c) op w4 (gAt a 2) from by rw [hw4,hr]; exact J3.out.below (al_below _ _))
 have Z4:=Lib.hid (show Blk w4 z 39 #[.int .i64 fpr,.bool fs6,.int .u64 fsh,.int .u64 fsl,.bool fd6,.int .u64 fdh,.int .u64 fdl,.int .i64 fsp,.int .i64 fdp] from by rw [hw4,hz]; exact Blk.new w3 _ _)
 have HZ:=Lib.hid (show z≠r∧w.heap.size≤z∧z<w4.heap.size from by
  have h1:=J3.out.res.lt
  have h2:=J3.out.fr.size
  rw [hw4]
  simp
  omega)
 clear hw4 hz hr c12 x0 x1 x2 x3 x4 x5 x6 x7 x8
 have S7:=Lib.hid J4.out.sm
 have R7:=Lib.hid J4.out.res
 have Z7:=Z4
 have OW7:=Lib.hid J4.out.own
 have F7:=Lib.hid J4.out.fr
 have RWW:=Lib.hid J4.out.rw
 have VW:=Lib.hid J4.out.vw
 obtain ⟨w7,hw7⟩:∃ w7,w7=w4:=⟨_,rfl⟩
 subst hw7
 have z0:=Z7.out.cell 0
 have y0:=R7.out.cell 0
 have f0:=R7.out.frozen 0
 have z1:=Z7.out.cell 1
 have y1:=R7.out.cell 1
 have f1:=R7.out.frozen 1
 have z2:=Z7.out.cell 2
 have y2:=R7.out.cell 2
 have f2:=R7.out.frozen 2
 have z3:=Z7.out.cell 3
 have y3:=R7.out.cell 3
 have f3:=R7.out.frozen 3
 have z4:=Z7.out.cell 4
 have y4:=R7.out.cell 4
 have f4:=R7.out.frozen 4
 have z5:=Z7.out.cell 5
 have y5:=R7.out.cell 5
 have f5:=R7.out.frozen 5
 have z6:=Z7.out.cell 6
 have y6:=R7.out.cell 6
 have f6:=R7.out.frozen 6
 have z7:=Z7.out.cell 7
 have y7:=R7.out.cell 7
 have f7:=R7.out.frozen 7
 have z8:=Z7.out.cell 8
 have y8:=R7.out.cell 8
 have f8:=R7.out.frozen 8
 have TP:=Lib.hid (tput w7 r (.int .i64 fpr) (.bool fs6) (.int .u64 fsh) (.int .u64 fsl) (.bool fd6) (.int .u64 fdh) (.int .u64 fdl) (.int .i64 fsp) (.int .i64 fdp) R7.out)
 go_wp2_with fail
 refine bodyPost_ret (results_tu rfl _ _ r #[.int .i64 fpr,.bool fs6,.int .u64 fsh,.int .u64 fsl,.bool fd6,.int .u64 fdh,.int .u64 fdl,.int .i64 fsp,.int .i64 fdp] rfl TP.out.1 rfl) rfl ?_
 unfold SegP
 rw [EG.out]
 refine ⟨rfl,(.slice (some ⟨gb,0,none⟩) L c),⟨TP.out.2.blk S7.out.src (blk_ne S7.out.src R7.out (by decide)),TP.out.2.blk S7.out.gen (blk_ne S7.out.gen R7.out (by decide))⟩,OW7.out.keep fun x hx=>TP.out.2.els x ?_,Frg_put F7.out TP.out.2 RWW.out,fun x hx=>?_⟩
 ·have:=VW.out x hx
  have:=RWW.out
  omega
 ·exact .inl hx
theorem seg_fin {w:World} {g q B:Nat} {p:Pl} {a:Int} {v:Value} {op:List Tp} (h:SM w g q p a v) (ho:OwT w B v op) (hp:p.right) (hin:p.In) (hn:op.length≤256) (hB:B≤w.heap.size) (h0:op.length≠0) (hc:¬ (below (gNum a 0) 4=0∧op.length<256)) (h1:below (gNum a 0) 4=1) :
  Calls Try.prog 27 #[.pointer (some ⟨g,0,none⟩)] w (SegP w g q B p v (gSeg p a op)):=by
 obtain ⟨n4,hn4⟩:∃ n,n=below (gNum a 0) 4:=⟨_,rfl⟩
 have BL:=Lib.hid (show ∀ W,SM W g q p a v→Calls Try.prog 22 #[.pointer (some ⟨g,0,none⟩),.int .i64 4] W fun o w'=>o=.returned (.int .i64 n4)∧SM w' g q p (gAt a 1) v∧OnlyG q W w' from fun W hW=>by rw [hn4]; exact below_src hW 4 (by omega) (by omega))
 obtain ⟨A,c,hv,hlc,hcm⟩:=ho.slice
 obtain ⟨L,hL⟩:∃ L,L=op.length:=⟨_,rfl⟩
 rw [← hL] at hv hlc hn
 subst hv
 have HL:=Lib.hid hL
 have HN:=Lib.hid hn
 have b1:=below_in a 1 L (by omega)
 obtain ⟨k,hk⟩:∃ k,k=(below (gNum a 1) L).toNat:=⟨_,rfl⟩
 have BL2:=Lib.hid (show ∀ W,SM W g q p (gAt a 1) (.slice A L c)→Calls Try.prog 22 #[.pointer (some ⟨g,0,none⟩),.int .i64 (L:Int)] W fun o w'=>o=.returned (.int .i64 (k:Int))∧SM w' g q p (gAt a 2) (.slice A L c)∧OnlyG q W w' from fun W hW=>by
  have h9:=below_src hW (L:Int) (by omega) (by omega)
  rw [show gNum (gAt a 1) 0=gNum a 1 from gNum_add a 1 0] at h9
  rw [show (k:Int)=below (gNum a 1) L by omega]
  exact h9)
 have HK:=Lib.hid (show k<L by omega)
 have EG:=Lib.hid (show gSeg p a op=⟨op.getD k zeroT,17,gAt a 2,op.eraseIdx k⟩ from by unfold gSeg; rw [if_neg (fun h=>h.elim h0 hc),if_pos h1,hk,hL])
 obtain ⟨gb,c',hvg,_,hcell⟩:=ho.cell k (by omega)
 injection hvg with hvg e2 e3
 subst hvg
 clear hcell e2 e3
 have HTC:=Lib.hid (show ∀ W,OwT W B (.slice (some ⟨gb,0,none⟩) L c) op→∀ j,j<9→W.cell? ⟨gb,k*9+j,none⟩=(op.getD k zeroT).cells[j]? from fun W hW j hj=>by
  obtain ⟨g2,c2,e2,_,e3⟩:=hW.cell k (by omega)
  injection e2 with e2 _ _
  injection e2 with e2
  injection e2 with e2
  subst e2
  exact e3 j hj)
 obtain ⟨F,hF⟩:∃ F,F=op.getD k zeroT:=⟨_,rfl⟩
 obtain ⟨G,hG⟩:∃ G,G=gSeg p a op:=⟨_,rfl⟩
 rw [← hG]
 rw [← hF] at HTC EG
 rw [← hG] at EG
 have HC:=Lib.hid (show ¬ (n4=0∧L<256) from by rw [hL,hn4]; exact hc)
 have H0:=Lib.hid (show L≠0 from by rw [hL]; exact h0)
 have T1:=Lib.hid (show n4=1 from by rw [hn4]; exact h1)
 have LC:=Lib.hid hlc
 clear hc hF hG h0 h1 hk b1
 obtain ⟨fpr,fs6,fsh,fsl,fd6,fdh,fdl,fsp,fdp⟩:=F
 have J1:=Lib.hid (show JG w w.heap.size g q B p (.slice (some ⟨gb,0,none⟩) L c) op (w.alloc (.cells #[.int .i64 0,.bool false,.int .u64 0,.int .u64 0,.bool false,.int .u64 0,.int .u64 0,.int .i64 0,.int .i64 0] 39)) a from ⟨h.below (al_below _ _),ho.below (al_below _ _),Blk.new w _ _,Frg.of_below (al_below _ _),Nat.le_refl _,fun x hx=>(ho.lt x hx).2⟩)
 have HB:=Lib.hid hB
 have I0:=Lib.hid (by first | exact (info_parts info_t))
 clear h ho hp hin hB hn hL hn4 hlc hcm
 go_enter Try.func27,Try.ntmps27
 go_wp2_with fail
 refine (BL.out _ J1.out.sm).mono ?_
 rintro o w2 ⟨rfl,hs2,ho2⟩
 have J2:=Lib.hid (J1.out.onq hs2 (OnQ.of_only ho2))
 clear hs2 ho2
 have c12:w2.cell? ⟨g,12,none⟩=some (.slice (some ⟨gb,0,none⟩) L c):=J2.out.sm.src.cell 12
 go_upto_region 2 with fail
 go_cut [27] (fun x wx=>x=.bool false∧wx=w2)
 case first =>
  have t0:((L:Int) == 0)=false:=by have:=H0.out; rw [beq_eq_false_iff_ne]; omega
  by_cases h4:n4=0
  ·have t1:(n4 == 0)=true:=by simp [h4]
   have t2:decide ((L:Int)<256)=false:=decide_eq_false (by have:=HC.out; omega)
   clear h4
   go_wp2_with fail
   go_meet
   exact ⟨rfl,rfl⟩
  ·have t1:(n4 == 0)=false:=by simp [h4]
   clear h4
   go_wp2_with fail
   go_meet
   exact ⟨rfl,rfl⟩
 case rest =>
 obtain ⟨rfl,hwc⟩:=hcut
 rw [hwc]
 clear hwc
 go_wp2_with fail
 refine (BL2.out _ J2.out.sm).mono ?_
 rintro o w3 ⟨rfl,hs3,ho3⟩
 have J3:=Lib.hid (J2.out.onq hs3 (OnQ.of_only ho3))
 clear hs3 ho3 c12
 have c12:w3.cell? ⟨g,12,none⟩=some (.slice (some ⟨gb,0,none⟩) L c):=J3.out.sm.src.cell 12
 have x0:w3.cell? ⟨gb,k*9,none⟩=some (.int .i64 fpr):=HTC.out _ J3.out.own 0 (by omega)
 have x1:w3.cell? ⟨gb,k*9+1,none⟩=some (.bool fs6):=HTC.out _ J3.out.own 1 (by omega)
 have x2:w3.cell? ⟨gb,k*9+2,none⟩=some (.int .u64 fsh):=HTC.out _ J3.out.own 2 (by omega)
 have x3:w3.cell? ⟨gb,k*9+3,none⟩=some (.int .u64 fsl):=HTC.out _ J3.out.own 3 (by omega)
 have x4:w3.cell? ⟨gb,k*9+4,none⟩=some (.bool fd6):=HTC.out _ J3.out.own 4 (by omega)
 have x5:w3.cell? ⟨gb,k*9+5,none⟩=some (.int .u64 fdh):=HTC.out _ J3.out.own 5 (by omega)
 have x6:w3.cell? ⟨gb,k*9+6,none⟩=some (.int .u64 fdl):=HTC.out _ J3.out.own 6 (by omega)
 have x7:w3.cell? ⟨gb,k*9+7,none⟩=some (.int .i64 fsp):=HTC.out _ J3.out.own 7 (by omega)
 have x8:w3.cell? ⟨gb,k*9+8,none⟩=some (.int .i64 fdp):=HTC.out _ J3.out.own 8 (by omega)
 have j1:(0:Int)≤(k:Int):=by omega
 have j2:(k:Int)<(L:Int):=by have:=HK.out; omega
 have tq:(n4 != 1)=false:=by have:=T1.out; simp [this]
 go_upto_region 10 with fail
 obtain ⟨w4,hw4⟩:∃ w4,w4=w3.alloc (.cells #[.int .i64 fpr,.bool fs6,.int .u64 fsh,.int .u64 fsl,.bool fd6,.int .u64 fdh,.int .u64 fdl,.int .i64 fsp,.int .i64 fdp] 39):=⟨_,rfl⟩
 obtain ⟨z,hz⟩:∃ z,z=w3.heap.size:=⟨_,rfl⟩
 obtain ⟨r,hr⟩:∃ r,r=w.heap.size:=⟨_,rfl⟩
 rw [← hw4,← hz,← hr]
 have J4:=Lib.hid (show JG w r g q B p (.slice (some ⟨gb,0,none⟩) L c) op w4 (gAt a 2) from by rw [hw4,hr]; exact J3.out.below (al_below _ _))
 have Z4:=Lib.hid (show Blk w4 z 39 #[.int .i64 fpr,.bool fs6,.int .u64 fsh,.int .u64 fsl,.bool fd6,.int .u64 fdh,.int .u64 fdl,.int .i64 fsp,.int .i64 fdp] from by rw [hw4,hz]; exact Blk.new w3 _ _)
 have HZ:=Lib.hid (show z≠r∧w.heap.size≤z∧z<w4.heap.size from by
  have h1:=J3.out.res.lt
  have h2:=J3.out.fr.size
  rw [hw4]
  simp
  omega)
 clear hw4 hz hr c12 x0 x1 x2 x3 x4 x5 x6 x7 x8
 obtain ⟨w5,hw5⟩:∃ w5,w5=w4.drew:=⟨_,rfl⟩
 have D5:=Lib.hid (show Below w4.heap.size w4 w5 from by rw [hw5]; exact dr_below _)
 have J5:=Lib.hid (J4.out.below D5.out)
 have Z5:=Lib.hid (Z4.out.below D5.out Z4.out.lt)
 obtain ⟨AX,hAX,hs1,hs2⟩:=slice_t gb L c k HK.out LC.out
 obtain ⟨hm1,hm2⟩:=slice_hm gb L c k HK.out LC.out
 obtain ⟨v6,w6,hrun,ho6,hg6,hb6⟩:=app_rm w5 B gb L c k op J5.out.own HL.out.symm HK.out (by have:=HN.out; omega) (by have:=HB.out; have:=J5.out.fr.size; omega) AX hAX
 obtain ⟨A6,c6,hv6,_,_⟩:=ho6.slice
 obtain ⟨n6,hn6⟩:∃ n,n=(op.eraseIdx k).length:=⟨_,rfl⟩
 rw [← hn6] at hv6
 subst hv6
 clear hn6
 rw [hw5] at hrun
 have OW6:=Lib.hid ho6
 have VB6:=Lib.hid hb6
 have VW:=Lib.hid J5.out.vw
 have RWW:=Lib.hid J5.out.rw
 have KP:=Lib.hid (show ∀ k,k<w5.heap.size→w6.heap[k]?=w5.heap[k]? from fun k hk=>hg6.block k hk (by simp))
 have S6:=Lib.hid (show SM w6 g q p (gAt a 2) (.slice (some ⟨gb,0,none⟩) L c) from ⟨(KP.out g J5.out.sm.src.lt).trans J5.out.sm.src,(KP.out q J5.out.sm.gen.lt).trans J5.out.sm.gen⟩)
 have R6:=Lib.hid (show Blk w6 r 39 #[.int .i64 0,.bool false,.int .u64 0,.int .u64 0,.bool false,.int .u64 0,.int .u64 0,.int .i64 0,.int .i64 0] from (KP.out r J5.out.res.lt).trans J5.out.res)
 have Z6:=Lib.hid (show Blk w6 z 39 #[.int .i64 fpr,.bool fs6,.int .u64 fsh,.int .u64 fsl,.bool fd6,.int .u64 fdh,.int .u64 fdl,.int .i64 fsp,.int .i64 fdp] from (KP.out z Z5.out.lt).trans Z5.out)
 have F6:=Lib.hid (J5.out.fr.grown (show w5.grownBy w6 (Value.ownBlock (.slice (some ⟨gb,0,none⟩) L c)) from ⟨hg6.os,hg6.tape,hg6.output,hg6.size,fun k hk _=>hg6.block k hk (by simp)⟩))
 have R5:=Lib.hid J5.out.res.lt
 have W5:=Lib.hid J5.out.fr.size
 have c12:w4.cell? ⟨g,12,none⟩=some (.slice (some ⟨gb,0,none⟩) L c):=J4.out.sm.src.cell 12
 have d12:w6.cell? ⟨g,12,none⟩=some (.slice (some ⟨gb,0,none⟩) L c):=S6.out.src.cell 12
 have f12:w6.frozen? ⟨g,12,none⟩=false:=S6.out.src.frozen 12
 have ku:IntKind.i64.wrap ((k:Int)+1)=(k:Int)+1:=by have:=HN.out; have:=HK.out; exact IntWalk.i64_in _ (by omega)
 have kl:0≤(k:Int)+1∧(k:Int)+1≤(L:Int):=by have:=HK.out; omega
 have HR:=Lib.hid hrun
 obtain ⟨w7,hw7⟩:∃ w7,w7=w6.setCell ⟨g,12,none⟩ (.slice A6 n6 c6):=⟨_,rfl⟩
 have E7:=Lib.hid hw7
 clear hw5 ho6 hg6 hb6 hrun hw7 hAX
 go_cut [] (fun wx=>wx=w7)
 case first =>
  go_region_law (refine step_run rfl (.tmp 65) (.tmp 72) 35 rfl (.slice (some ⟨gb,0,none⟩) k k) (.slice (some AX) (L - (k+1)) (c - (k+1))) rfl rfl 35 rfl (.slice A6 n6 c6) w6 HR.out ?_)
  all_goals go_wp2_with fail
  all_goals go_meet
  all_goals exact E7.out.symm
 case rest =>
 rw [hcut]
 clear hcut
 have hw7:=E7.out
 have O7:=Lib.hid (show OnlyG g w6 w7 from by rw [hw7]; exact (OnlyG.refl g w6).set 12 _)
 have S7:=Lib.hid (show SM w7 g q p (gAt a 2) (.slice A6 n6 c6) from ⟨by rw [hw7]; exact S6.out.src.set_ 12 _,O7.out.blk S6.out.gen (blk_ne S6.out.gen S6.out.src (by decide))⟩)
 have R7:=Lib.hid (O7.out.blk R6.out (blk_ne R6.out S6.out.src (by decide)))
 have Z7:=Lib.hid (O7.out.blk Z6.out (blk_ne Z6.out S6.out.src (by decide)))
 have OW7:=Lib.hid (OW6.out.keep fun x hx=>O7.out.els x (OwT_ne OW6.out S6.out.src (by decide) x hx))
 have F7:=Lib.hid (show Frg g q (.slice (some ⟨gb,0,none⟩) L c) w w7 from by rw [hw7]; exact F6.out.setCell (p:=⟨g,12,none⟩) (.inl rfl) _)
 clear hw7 c12 d12 f12 hs1 hs2 hm1 hm2
 have z0:=Z7.out.cell 0
 have y0:=R7.out.cell 0
 have f0:=R7.out.frozen 0
 have z1:=Z7.out.cell 1
 have y1:=R7.out.cell 1
 have f1:=R7.out.frozen 1
 have z2:=Z7.out.cell 2
 have y2:=R7.out.cell 2
 have f2:=R7.out.frozen 2
 have z3:=Z7.out.cell 3
 have y3:=R7.out.cell 3
 have f3:=R7.out.frozen 3
 have z4:=Z7.out.cell 4
 have y4:=R7.out.cell 4
 have f4:=R7.out.frozen 4
 have z5:=Z7.out.cell 5
 have y5:=R7.out.cell 5
 have f5:=R7.out.frozen 5
 have z6:=Z7.out.cell 6
 have y6:=R7.out.cell 6
 have f6:=R7.out.frozen 6
 have z7:=Z7.out.cell 7
 have y7:=R7.out.cell 7
 have f7:=R7.out.frozen 7
 have z8:=Z7.out.cell 8
 have y8:=R7.out.cell 8
 have f8:=R7.out.frozen 8
 have TP:=Lib.hid (tput w7 r (.int .i64 fpr) (.bool fs6) (.int .u64 fsh) (.int .u64 fsl) (.bool fd6) (.int .u64 fdh) (.int .u64 fdl) (.int .i64 fsp) (.int .i64 fdp) R7.out)
 go_wp2_with fail
 refine bodyPost_ret (results_tu rfl _ _ r #[.int .i64 fpr,.bool fs6,.int .u64 fsh,.int .u64 fsl,.bool fd6,.int .u64 fdh,.int .u64 fdl,.int .i64 fsp,.int .i64 fdp] rfl TP.out.1 rfl) rfl ?_
 unfold SegP
 rw [EG.out]
 refine ⟨rfl,.slice A6 n6 c6,⟨TP.out.2.blk S7.out.src (blk_ne S7.out.src R7.out (by decide)),TP.out.2.blk S7.out.gen (blk_ne S7.out.gen R7.out (by decide))⟩,OW7.out.keep fun x hx=>TP.out.2.els x ?_,Frg_put F7.out TP.out.2 RWW.out,fun x hx=>?_⟩
 ·rcases VB6.out x hx with h1 | h1
  ·have:=VW.out gb rfl
   have:=RWW.out
   omega
  ·have:=R5.out
   omega
 ·rcases VB6.out x hx with h1 | h1
  ·exact .inl (by rw [h1]; rfl)
  ·exact .inr (by have:=W5.out; omega)
end Go.Proofs.Ytnofddbfogilaaa.genH
