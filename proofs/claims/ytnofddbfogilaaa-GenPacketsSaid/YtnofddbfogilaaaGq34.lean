/- 1 texts in one. -/
import Derived.Test.YtnofddbfogilaaaGq13
import Derived.Test.YtnofddbfogilaaaGq33
/- Layer 35: the packets of any plan, one by one. -/
namespace Go.Proofs.Ytnofddbfogilaaa.genU
set_option maxHeartbeats 8000000
set_option maxRecDepth 100000
open Go.ChangeShapes Go.WideShapes Go.ChangeAt Go.RowKit
open base mixB rdrG pktA pktC pktD sixW genO genW genA genB genC genD genE pktE pktG genG genI genJ genK genN genS genT
set_option linter.unusedVariables false
set_option linter.unusedSimpArgs false
theorem lpacket_any {w:World} {x B:Nat} {p:Pl} {a:Int} {v:Value} {op:List Tp} (h:LM w x p a v) (ho:OwT w B v op) (hp:p.right) (hin:p.In) (hn:op.length≤256) (hB:B≤w.heap.size) (hk:∀ t ∈ op,FOk p t) (hm:p.mo≤400) :
  Calls Try.prog 17 #[.pointer (some ⟨x,0,none⟩)] w (LPackP w x B p v (gPk p a op)):=by
 rcases hp.2.2.1 with h6 | h17
 ·by_cases hc:op.length=0∨(below (gNum a 0) 4=0∧op.length<256)
  ·exact lp_new h ho hp hin hn hB hk hm h6 hc
  ·have h0:op.length≠0:=fun e=>hc (.inl e)
   have h2:¬ (below (gNum a 0) 4=0∧op.length<256):=fun e=>hc (.inr e)
   by_cases h1:below (gNum a 0) 4=1
   ·exact lp_fin h ho hp hin hn hB hk hm h6 h0 h2 h1
   ·exact lp_ack h ho hp hin hn hB hk hm h6 h0 h2 h1
 ·exact lp_udp h ho hp hin hn hB hk hm h17
theorem wpAnyH_more {P:Program} {md:Region.Mode} {ops:Array Oper} {Q:Exit→Act→World→Prop} {S S':World→Prop} (hS:∀ W,S' W→S W):∀ (fuel:Nat) (listed:Array Bool) (a:Act) (w:World),wpAnyH P md ops Q S' fuel listed a w→wpAnyH P md ops Q S fuel listed a w
 | 0,_,_,_,h=>h
 | fuel+1,_,_,_,h=>⟨h.1,fun i hi=>wpOp_mono (fun a' w' h'=>⟨hS _ h'.1,wpAnyH_more hS fuel _ a' w' h'.2⟩) (h.2 i hi)⟩
theorem t_eql (t:Tp) (W:World):(binOp .eql 39 (.agg t.cells) (.agg t.cells)).run Try.prog W=.ok (.bool true) W:=by
 unfold Tp.cells
 go_simp
theorem packets_law (p:Pl) (hin:p.In) (n:Int) (w:World):Calls Try.prog 5 #[.agg p.cells,.int .i64 n] w fun o w'=>o=.returned (.bool true)∧Below w.heap.size w w':=by
 have HAW:=Lib.hid awake_any
 have HR1:=Lib.hid (fun V=>right_any p hin V)
 have HR2:=Lib.hid (fun V=>lright_any p hin V)
 have HFB:=Lib.hid (fun V (hp:¬ p.right)=>new_bad p hp hin V)
 have HFG:=Lib.hid (fun V (hp:p.right)=>new_good p hp hin V)
 obtain ⟨rb,hrb⟩:∃ rb,rb=decide p.right:=⟨_,rfl⟩
 rw [← hrb] at HR1 HR2
 have rr:(rb != rb)=false:=by simp
 have HRB:=Lib.hid hrb
 have HIN:=Lib.hid hin
 obtain ⟨p1,hp1⟩:∃ p1,p1=p:=⟨_,rfl⟩
 have HP1:=Lib.hid hp1
 clear hrb hin hp1
 obtain ⟨key,cl,po,v6,hh,lo,pr,dp,co,nt,mo⟩:=p
 have HR1:=Lib.hid (show ∀ V,Calls Try.prog 14 #[.agg #[.int .u64 key,.int .i64 cl,.int .i64 po,.bool v6,.int .u64 hh,.int .u64 lo,.int .i64 pr,.int .i64 dp,.int .i64 co,.bool nt,.int .i64 mo]] V fun o w'=>o=.returned (.bool rb)∧Below V.heap.size V w' from HR1.out)
 have HR2:=Lib.hid (show ∀ V,Calls Try.prog 15 #[.agg #[.int .u64 key,.int .i64 cl,.int .i64 po,.bool v6,.int .u64 hh,.int .u64 lo,.int .i64 pr,.int .i64 dp,.int .i64 co,.bool nt,.int .i64 mo]] V fun o w'=>o=.returned (.bool rb)∧Below V.heap.size V w' from HR2.out)
 obtain ⟨pb,hpb⟩:∃ pb,pb=w.heap.size:=⟨_,rfl⟩
 have B1:=Lib.hid (al_below w (.cells #[.int .u64 key,.int .i64 cl,.int .i64 po,.bool v6,.int .u64 hh,.int .u64 lo,.int .i64 pr,.int .i64 dp,.int .i64 co,.bool nt,.int .i64 mo] 28))
 have K1:=Lib.hid (show Blk (w.alloc (.cells #[.int .u64 key,.int .i64 cl,.int .i64 po,.bool v6,.int .u64 hh,.int .u64 lo,.int .i64 pr,.int .i64 dp,.int .i64 co,.bool nt,.int .i64 mo] 28)) pb 28 #[.int .u64 key,.int .i64 cl,.int .i64 po,.bool v6,.int .u64 hh,.int .u64 lo,.int .i64 pr,.int .i64 dp,.int .i64 co,.bool nt,.int .i64 mo] from by rw [hpb]; exact Blk.new w _ _)
 have EPB:=Lib.hid hpb
 clear hpb
 have HSS:=Lib.hid (show ∀ W,Blk W pb 28 #[.int .u64 key,.int .i64 cl,.int .i64 po,.bool v6,.int .u64 hh,.int .u64 lo,.int .i64 pr,.int .i64 dp,.int .i64 co,.bool nt,.int .i64 mo]→World.cell? W ⟨pb,0,none⟩=some (.int .u64 key)∧World.cell? W ⟨pb,1,none⟩=some (.int .i64 cl)∧World.cell? W ⟨pb,2,none⟩=some (.int .i64 po)∧World.cell? W ⟨pb,3,none⟩=some (.bool v6)∧World.cell? W ⟨pb,4,none⟩=some (.int .u64 hh)∧World.cell? W ⟨pb,5,none⟩=some (.int .u64 lo)∧World.cell? W ⟨pb,6,none⟩=some (.int .i64 pr)∧World.cell? W ⟨pb,7,none⟩=some (.int .i64 dp)∧World.cell? W ⟨pb,8,none⟩=some (.int .i64 co)∧World.cell? W ⟨pb,9,none⟩=some (.bool nt)∧World.cell? W ⟨pb,10,none⟩=some (.int .i64 mo) from fun W h1=>⟨h1.cell 0,h1.cell 1,h1.cell 2,h1.cell 3,h1.cell 4,h1.cell 5,h1.cell 6,h1.cell 7,h1.cell 8,h1.cell 9,h1.cell 10⟩)
 show Calls Try.prog 5 #[.agg #[.int .u64 key,.int .i64 cl,.int .i64 po,.bool v6,.int .u64 hh,.int .u64 lo,.int .i64 pr,.int .i64 dp,.int .i64 co,.bool nt,.int .i64 mo],.int .i64 n] w _
 go_enter Try.func5,Try.ntmps5
 go_upto_region 1 with fail
 obtain ⟨w1,hw1⟩:∃ w1,w1=w.alloc (.cells #[.int .u64 key,.int .i64 cl,.int .i64 po,.bool v6,.int .u64 hh,.int .u64 lo,.int .i64 pr,.int .i64 dp,.int .i64 co,.bool nt,.int .i64 mo] 28):=⟨_,rfl⟩
 rw [← hw1] at B1 K1
 rw [← hw1,← EPB.out]
 clear hw1
 have c0:=K1.out.cell 0
 have c1:=K1.out.cell 1
 have c2:=K1.out.cell 2
 have c3:=K1.out.cell 3
 have c4:=K1.out.cell 4
 have c5:=K1.out.cell 5
 have c6:=K1.out.cell 6
 have c7:=K1.out.cell 7
 have c8:=K1.out.cell 8
 have c9:=K1.out.cell 9
 have c10:=K1.out.cell 10
 rcases (Classical.em (Pl.right ⟨key,cl,po,v6,hh,lo,pr,dp,co,nt,mo⟩)) with hp | hp
 case inr =>
  obtain rfl:rb=false:=by rw [HRB.out]; exact decide_eq_false hp
  have HNB:=Lib.hid (show ∀ V,Calls Try.prog 6 #[.agg #[.int .u64 key,.int .i64 cl,.int .i64 po,.bool v6,.int .u64 hh,.int .u64 lo,.int .i64 pr,.int .i64 dp,.int .i64 co,.bool nt,.int .i64 mo]] V fun o w'=>o=.returned (.tuple #[.pointer none,.int .i64 1])∧Below V.heap.size V w' from fun V=>HFB.out V hp)
  clear hp
  go_wp2_with fail
  refine (HNB.out _).mono ?_
  rintro o w2 ⟨rfl,hb2⟩
  have B2:=Lib.hid (B1.out.trans (hb2.mono B1.out.size))
  have K2:=Lib.hid (K1.out.below hb2 K1.out.lt)
  clear hb2 c0 c1 c2 c3 c4 c5 c6 c7 c8 c9 c10
  have Kd:=Lib.hid (K2.out.below (dr_below _) K2.out.lt)
  have sA:=Lib.hid (HSS.out _ Kd.out)
  go_upto_region 2 with fail
  go_region_held3 (fun W=>World.cell? W ⟨pb,0,none⟩=some (.int .u64 key)∧World.cell? W ⟨pb,1,none⟩=some (.int .i64 cl)∧World.cell? W ⟨pb,2,none⟩=some (.int .i64 po)∧World.cell? W ⟨pb,3,none⟩=some (.bool v6)∧World.cell? W ⟨pb,4,none⟩=some (.int .u64 hh)∧World.cell? W ⟨pb,5,none⟩=some (.int .u64 lo)∧World.cell? W ⟨pb,6,none⟩=some (.int .i64 pr)∧World.cell? W ⟨pb,7,none⟩=some (.int .i64 dp)∧World.cell? W ⟨pb,8,none⟩=some (.int .i64 co)∧World.cell? W ⟨pb,9,none⟩=some (.bool nt)∧World.cell? W ⟨pb,10,none⟩=some (.int .i64 mo)) (first | with_reducible exact sA.out | with_reducible exact sB.out | with_reducible exact sC.out)
   (first | (go_at_call 14
             (with_reducible refine (HR1.out _).mono ?_)
             rintro o w3 ⟨rfl,hb3⟩
             have K3:=Lib.hid (Kd.out.below hb3 Kd.out.lt)
             have B3:=Lib.hid (show Below w2.heap.size w2 w3 from (dr_below _).trans (hb3.mono (Nat.le_refl _)))
             have sB:=Lib.hid (HSS.out _ K3.out)
             clear hb3)
          | (go_at_call 15
             (with_reducible refine (HR2.out _).mono ?_)
             rintro o w4 ⟨rfl,hb4⟩
             have K4:=Lib.hid (K3.out.below hb4 K3.out.lt)
             have B4:=Lib.hid (B3.out.trans (hb4.mono B3.out.size))
             have sC:=Lib.hid (HSS.out _ K4.out)
             clear hb4))
  have c0:=K4.out.cell 0
  have c1:=K4.out.cell 1
  have c2:=K4.out.cell 2
  have c3:=K4.out.cell 3
  have c4:=K4.out.cell 4
  have c5:=K4.out.cell 5
  have c6:=K4.out.cell 6
  have c7:=K4.out.cell 7
  have c8:=K4.out.cell 8
  have c9:=K4.out.cell 9
  have c10:=K4.out.cell 10
  go_wp2_with fail
  refine (HR2.out _).mono ?_
  rintro o w5 ⟨rfl,hb5⟩
  have B5:=Lib.hid ((B2.out.trans (B4.out.mono B2.out.size)).trans (hb5.mono (B2.out.trans (B4.out.mono B2.out.size)).size))
  clear hb5 c0 c1 c2 c3 c4 c5 c6 c7 c8 c9 c10
  go_wp2_with fail
  refine (HAW.out _).mono ?_
  rintro o w9 ⟨rfl,hb9⟩
  go_wp2_with fail
  go_ret
  exact ⟨rfl,B5.out.trans (hb9.mono B5.out.size)⟩
 case inl =>
 obtain rfl:rb=true:=by rw [HRB.out]; exact decide_eq_true hp
 have HNG:=Lib.hid (show ∀ V,Calls Try.prog 6 #[.agg #[.int .u64 key,.int .i64 cl,.int .i64 po,.bool v6,.int .u64 hh,.int .u64 lo,.int .i64 pr,.int .i64 dp,.int .i64 co,.bool nt,.int .i64 mo]] V fun o w'=>∃ g q,o=.returned (.tuple #[.pointer (some ⟨g,0,none⟩),.int .i64 0])∧SM w' g q ⟨key,cl,po,v6,hh,lo,pr,dp,co,nt,mo⟩ key (.slice none 0 0)∧Below V.heap.size V w'∧V.heap.size≤g∧V.heap.size≤q from fun V=>HFG.out V hp)
 have HPP:=Lib.hid hp
 clear hp
 go_wp2_with fail
 refine (HNG.out _).mono ?_
 rintro o w2 ⟨g,q,rfl,hs2,hb2,hg2,hq2⟩
 have B2:=Lib.hid (B1.out.trans (hb2.mono B1.out.size))
 have K2:=Lib.hid (K1.out.below hb2 K1.out.lt)
 have S2:=Lib.hid hs2
 have GQ:=Lib.hid (show w.heap.size≤g∧w.heap.size≤q from ⟨Nat.le_trans B1.out.size hg2,Nat.le_trans B1.out.size hq2⟩)
 clear hs2 hb2 hg2 hq2 c0 c1 c2 c3 c4 c5 c6 c7 c8 c9 c10
 have Kd:=Lib.hid (K2.out.below (dr_below _) K2.out.lt)
 have sA:=Lib.hid (HSS.out _ Kd.out)
 go_upto_region 2 with fail
 go_region_held3 (fun W=>World.cell? W ⟨pb,0,none⟩=some (.int .u64 key)∧World.cell? W ⟨pb,1,none⟩=some (.int .i64 cl)∧World.cell? W ⟨pb,2,none⟩=some (.int .i64 po)∧World.cell? W ⟨pb,3,none⟩=some (.bool v6)∧World.cell? W ⟨pb,4,none⟩=some (.int .u64 hh)∧World.cell? W ⟨pb,5,none⟩=some (.int .u64 lo)∧World.cell? W ⟨pb,6,none⟩=some (.int .i64 pr)∧World.cell? W ⟨pb,7,none⟩=some (.int .i64 dp)∧World.cell? W ⟨pb,8,none⟩=some (.int .i64 co)∧World.cell? W ⟨pb,9,none⟩=some (.bool nt)∧World.cell? W ⟨pb,10,none⟩=some (.int .i64 mo)) (first | with_reducible exact sA.out | with_reducible exact sB.out | with_reducible exact sC.out)
  (first | (go_at_call 14
            (with_reducible refine (HR1.out _).mono ?_)
            rintro o w3 ⟨rfl,hb3⟩
            have K3:=Lib.hid (Kd.out.below hb3 Kd.out.lt)
            have B3:=Lib.hid (show Below w2.heap.size w2 w3 from (dr_below _).trans (hb3.mono (Nat.le_refl _)))
            have sB:=Lib.hid (HSS.out _ K3.out)
            clear hb3)
         | (go_at_call 15
            (with_reducible refine (HR2.out _).mono ?_)
            rintro o w4 ⟨rfl,hb4⟩
            have K4:=Lib.hid (K3.out.below hb4 K3.out.lt)
            have B4:=Lib.hid (B3.out.trans (hb4.mono B3.out.size))
            have sC:=Lib.hid (HSS.out _ K4.out)
            clear hb4))
 have c0:=K4.out.cell 0
 have c1:=K4.out.cell 1
 have c2:=K4.out.cell 2
 have c3:=K4.out.cell 3
 have c4:=K4.out.cell 4
 have c5:=K4.out.cell 5
 have c6:=K4.out.cell 6
 have c7:=K4.out.cell 7
 have c8:=K4.out.cell 8
 have c9:=K4.out.cell 9
 have c10:=K4.out.cell 10
 go_wp2_with fail
 refine (HR2.out _).mono ?_
 rintro o w5 ⟨rfl,hb5⟩
 have B25:=Lib.hid (B4.out.trans (hb5.mono B4.out.size))
 have K5:=Lib.hid (K4.out.below hb5 K4.out.lt)
 have S5:=Lib.hid (S2.out.below B25.out)
 have B5:=Lib.hid (B2.out.trans (B25.out.mono B2.out.size))
 clear hb5 c0 c1 c2 c3 c4 c5 c6 c7 c8 c9 c10 sA sB sC K3 K4 Kd B3 B4 B25
 have c0:=K5.out.cell 0
 have c1:=K5.out.cell 1
 have c2:=K5.out.cell 2
 have c3:=K5.out.cell 3
 have c4:=K5.out.cell 4
 have c5:=K5.out.cell 5
 have c6:=K5.out.cell 6
 have c7:=K5.out.cell 7
 have c8:=K5.out.cell 8
 have c9:=K5.out.cell 9
 have c10:=K5.out.cell 10
 by_cases h100:100<mo
 case pos =>
  have t100:decide (100<mo)=true:=decide_eq_true h100
  clear h100
  go_wp2_with fail
  refine (HAW.out _).mono ?_
  rintro o w9 ⟨rfl,hb9⟩
  go_wp2_with fail
  go_ret
  exact ⟨rfl,B5.out.trans (hb9.mono B5.out.size)⟩
 case neg =>
 have t100:decide (100<mo)=false:=decide_eq_false h100
 have HPK:=Lib.hid (fun V B k v2 (hB:B≤V.heap.size) (h1:SM V g q ⟨key,cl,po,v6,hh,lo,pr,dp,co,nt,mo⟩ (gSt ⟨key,cl,po,v6,hh,lo,pr,dp,co,nt,mo⟩ key [] k).1 v2) (h2:OwT V B v2 (gSt ⟨key,cl,po,v6,hh,lo,pr,dp,co,nt,mo⟩ key [] k).2)=>packet_any h1 h2 HPP.out HIN.out (gSt_ok ⟨key,cl,po,v6,hh,lo,pr,dp,co,nt,mo⟩ HPP.out key [] (fun t ht=>by cases ht) (by decide) k).2 hB (gSt_ok ⟨key,cl,po,v6,hh,lo,pr,dp,co,nt,mo⟩ HPP.out key [] (fun t ht=>by cases ht) (by decide) k).1 (show mo≤400 by omega))
 have HLP:=Lib.hid (fun V x B k v2 (hB:B≤V.heap.size) (h1:LM V x ⟨key,cl,po,v6,hh,lo,pr,dp,co,nt,mo⟩ (gSt ⟨key,cl,po,v6,hh,lo,pr,dp,co,nt,mo⟩ key [] k).1 v2) (h2:OwT V B v2 (gSt ⟨key,cl,po,v6,hh,lo,pr,dp,co,nt,mo⟩ key [] k).2)=>lpacket_any h1 h2 HPP.out HIN.out (gSt_ok ⟨key,cl,po,v6,hh,lo,pr,dp,co,nt,mo⟩ HPP.out key [] (fun t ht=>by cases ht) (by decide) k).2 hB (gSt_ok ⟨key,cl,po,v6,hh,lo,pr,dp,co,nt,mo⟩ HPP.out key [] (fun t ht=>by cases ht) (by decide) k).1 (show mo≤400 by omega))
 have HMO:=Lib.hid (show mo≤400 by omega)
 clear h100
 have HOK:=Lib.hid (fun k=>gSt_ok ⟨key,cl,po,v6,hh,lo,pr,dp,co,nt,mo⟩ HPP.out key [] (fun t ht=>by cases ht) (by decide) k)
 have HPR:=Lib.hid (fun k=>pack_parse ⟨key,cl,po,v6,hh,lo,pr,dp,co,nt,mo⟩ HPP.out HIN.out (gSt ⟨key,cl,po,v6,hh,lo,pr,dp,co,nt,mo⟩ key [] k).1 (gSt ⟨key,cl,po,v6,hh,lo,pr,dp,co,nt,mo⟩ key [] k).2 (HOK.out k).1 (HOK.out k).2 HMO.out)
 have HFO:=Lib.hid (fun k=>(gPk_ok ⟨key,cl,po,v6,hh,lo,pr,dp,co,nt,mo⟩ HPP.out (gSt ⟨key,cl,po,v6,hh,lo,pr,dp,co,nt,mo⟩ key [] k).1 (gSt ⟨key,cl,po,v6,hh,lo,pr,dp,co,nt,mo⟩ key [] k).2 (HOK.out k).1 (HOK.out k).2).1)
 have HOP:=Lib.hid (fun V g q B a v op (h1:SM V g q ⟨key,cl,po,v6,hh,lo,pr,dp,co,nt,mo⟩ a v) (h2:OwT V B v op)=>open_src h1 h2 HPP.out HIN.out)
 have HFS:=Lib.hid (fun V a v (h1:SM V g q ⟨key,cl,po,v6,hh,lo,pr,dp,co,nt,mo⟩ a v)=>flow_src h1 HPP.out HIN.out)
 have HFL:=Lib.hid (fun V x a v (h1:LM V x ⟨key,cl,po,v6,hh,lo,pr,dp,co,nt,mo⟩ a v)=>lflow h1 HPP.out)
 have NQA:∀ W,(binOp .neq 24 (.agg #[.bool v6,.int .u64 hh,.int .u64 lo]) (.agg #[.bool v6,.int .u64 hh,.int .u64 lo])).run Try.prog W=.ok (.bool false) W:=fun W=>by go_simp
 have TEQ:=Lib.hid t_eql
 go_wp2_with fail
 obtain ⟨w6,hw6⟩:∃ w6,w6=w5.alloc (.cells #[.int .u64 key,.int .i64 cl,.int .i64 po,.bool v6,.int .u64 hh,.int .u64 lo,.int .i64 pr,.int .i64 dp,.int .i64 co,.bool nt,.int .i64 mo,.int .u64 key,.slice none 0 0] 37):=⟨_,rfl⟩
 obtain ⟨x,hx⟩:∃ x,x=w5.heap.size:=⟨_,rfl⟩
 rw [← hw6,← hx]
 have D6:=(show Below w5.heap.size w5 w6 from by rw [hw6]; exact al_below _ _)
 have L6:=Lib.hid (show LM w6 x ⟨key,cl,po,v6,hh,lo,pr,dp,co,nt,mo⟩ key (.slice none 0 0) from by rw [hw6,hx]; exact Blk.new w5 _ _)
 have S6:=Lib.hid (S5.out.below D6)
 have B6:=Lib.hid (B5.out.trans (D6.mono B5.out.size))
 have K6:=Lib.hid (K5.out.below D6 K5.out.lt)
 have XW:=Lib.hid (show w.heap.size≤x from by rw [hx]; exact B5.out.size)
 clear hw6 hx D6 c0 c1 c2 c3 c4 c5 c6 c7 c8 c9 c10
 go_loopw [8] (fun i wr=>∃ (k:Nat) (v v2:Value),k≤60∧i=.int .i64 k∧Hid (SM wr g q ⟨key,cl,po,v6,hh,lo,pr,dp,co,nt,mo⟩ (gSt ⟨key,cl,po,v6,hh,lo,pr,dp,co,nt,mo⟩ key [] k).1 v)∧Hid (LM wr x ⟨key,cl,po,v6,hh,lo,pr,dp,co,nt,mo⟩ (gSt ⟨key,cl,po,v6,hh,lo,pr,dp,co,nt,mo⟩ key [] k).1 v2)∧Hid (OwT wr w.heap.size v (gSt ⟨key,cl,po,v6,hh,lo,pr,dp,co,nt,mo⟩ key [] k).2)∧Hid (OwT wr w.heap.size v2 (gSt ⟨key,cl,po,v6,hh,lo,pr,dp,co,nt,mo⟩ key [] k).2)∧Hid (∀ y,v.ownBlock=some y→v2.ownBlock≠some y)∧Hid (Blk wr pb 28 #[.int .u64 key,.int .i64 cl,.int .i64 po,.bool v6,.int .u64 hh,.int .u64 lo,.int .i64 pr,.int .i64 dp,.int .i64 co,.bool nt,.int .i64 mo])∧Hid (Below w.heap.size w wr)) (fun i _=>60 - (intOf i).toNat)
 case atStart=>exact ⟨0,.slice none 0 0,.slice none 0 0,by omega,rfl,S6,L6,Lib.hid (OwT.nil_ _ _),Lib.hid (OwT.nil_ _ _),Lib.hid (fun y hy=>by simp [Value.ownBlock] at hy),K6,B6⟩
 case round =>
 obtain ⟨k,v,v2,hk,rfl,SR,LR,OR,PR,NR,KR,BR⟩:=hrel
 by_cases h1:(k:Int)<n
 case neg =>
  have t1:decide ((k:Int)<n)=false:=decide_eq_false h1
  clear h1
  obtain ⟨FA,hFA⟩:∃ FA,FA=(gFlow ⟨key,cl,po,v6,hh,lo,pr,dp,co,nt,mo⟩ (gSt ⟨key,cl,po,v6,hh,lo,pr,dp,co,nt,mo⟩ key [] k).1).cells:=⟨_,rfl⟩
  have FS:=Lib.hid (show ∀ V,SM V g q ⟨key,cl,po,v6,hh,lo,pr,dp,co,nt,mo⟩ (gSt ⟨key,cl,po,v6,hh,lo,pr,dp,co,nt,mo⟩ key [] k).1 v→Calls Try.prog 8 #[.pointer (some ⟨g,0,none⟩)] V fun o w'=>o=.returned (.agg FA)∧SM w' g q ⟨key,cl,po,v6,hh,lo,pr,dp,co,nt,mo⟩ (gAt (gSt ⟨key,cl,po,v6,hh,lo,pr,dp,co,nt,mo⟩ key [] k).1 2) v∧OnQ q V w' from fun V hV=>by rw [hFA]; exact HFS.out V _ v hV)
  have FL:=Lib.hid (show ∀ V,LM V x ⟨key,cl,po,v6,hh,lo,pr,dp,co,nt,mo⟩ (gSt ⟨key,cl,po,v6,hh,lo,pr,dp,co,nt,mo⟩ key [] k).1 v2→Calls Try.prog 9 #[.pointer (some ⟨x,0,none⟩)] V fun o w'=>o=.returned (.agg FA)∧LM w' x ⟨key,cl,po,v6,hh,lo,pr,dp,co,nt,mo⟩ (gAt (gSt ⟨key,cl,po,v6,hh,lo,pr,dp,co,nt,mo⟩ key [] k).1 2) v2∧OnQ x V w' from fun V hV=>by rw [hFA]; exact HFL.out V x _ v2 hV)
  have NQ:∀ W,(binOp .eql 39 (.agg FA) (.agg FA)).run Try.prog W=.ok (.bool true) W:=fun W=>by rw [hFA]; exact TEQ.out _ W
  clear hFA
  go_wp2_with fail
  refine (FS.out _ SR.out).mono ?_
  rintro o w7 ⟨rfl,hs7,ho7⟩
  have L7:=Lib.hid (show LM w7 x ⟨key,cl,po,v6,hh,lo,pr,dp,co,nt,mo⟩ (gSt ⟨key,cl,po,v6,hh,lo,pr,dp,co,nt,mo⟩ key [] k).1 v2 from ho7.blk LR.out (blk_ne LR.out SR.out.gen (by decide)))
  have B7:=Lib.hid (BR.out.trans (ho7.below GQ.out.2 BR.out.size))
  clear hs7 ho7
  go_wp2_with fail
  refine (FL.out _ L7.out).mono ?_
  rintro o w8 ⟨rfl,hs8,ho8⟩
  have B8:=Lib.hid (B7.out.trans (ho8.below XW.out B7.out.size))
  clear hs8 ho8
  go_wp2_with fail
  refine (HAW.out _).mono ?_
  rintro o w9 ⟨rfl,hb9⟩
  go_wp2_with fail
  go_ret
  exact ⟨rfl,B8.out.trans (hb9.mono B8.out.size)⟩
 case pos =>
 have t1:decide ((k:Int)<n)=true:=decide_eq_true h1
 by_cases h2:k<60
 case neg =>
  have t2:decide ((k:Int)<60)=false:=decide_eq_false (by omega)
  clear h1 h2
  obtain ⟨FA,hFA⟩:∃ FA,FA=(gFlow ⟨key,cl,po,v6,hh,lo,pr,dp,co,nt,mo⟩ (gSt ⟨key,cl,po,v6,hh,lo,pr,dp,co,nt,mo⟩ key [] k).1).cells:=⟨_,rfl⟩
  have FS:=Lib.hid (show ∀ V,SM V g q ⟨key,cl,po,v6,hh,lo,pr,dp,co,nt,mo⟩ (gSt ⟨key,cl,po,v6,hh,lo,pr,dp,co,nt,mo⟩ key [] k).1 v→Calls Try.prog 8 #[.pointer (some ⟨g,0,none⟩)] V fun o w'=>o=.returned (.agg FA)∧SM w' g q ⟨key,cl,po,v6,hh,lo,pr,dp,co,nt,mo⟩ (gAt (gSt ⟨key,cl,po,v6,hh,lo,pr,dp,co,nt,mo⟩ key [] k).1 2) v∧OnQ q V w' from fun V hV=>by rw [hFA]; exact HFS.out V _ v hV)
  have FL:=Lib.hid (show ∀ V,LM V x ⟨key,cl,po,v6,hh,lo,pr,dp,co,nt,mo⟩ (gSt ⟨key,cl,po,v6,hh,lo,pr,dp,co,nt,mo⟩ key [] k).1 v2→Calls Try.prog 9 #[.pointer (some ⟨x,0,none⟩)] V fun o w'=>o=.returned (.agg FA)∧LM w' x ⟨key,cl,po,v6,hh,lo,pr,dp,co,nt,mo⟩ (gAt (gSt ⟨key,cl,po,v6,hh,lo,pr,dp,co,nt,mo⟩ key [] k).1 2) v2∧OnQ x V w' from fun V hV=>by rw [hFA]; exact HFL.out V x _ v2 hV)
  have NQ:∀ W,(binOp .eql 39 (.agg FA) (.agg FA)).run Try.prog W=.ok (.bool true) W:=fun W=>by rw [hFA]; exact TEQ.out _ W
  clear hFA
  go_wp2_with fail
  refine (FS.out _ SR.out).mono ?_
  rintro o w7 ⟨rfl,hs7,ho7⟩
  have L7:=Lib.hid (show LM w7 x ⟨key,cl,po,v6,hh,lo,pr,dp,co,nt,mo⟩ (gSt ⟨key,cl,po,v6,hh,lo,pr,dp,co,nt,mo⟩ key [] k).1 v2 from ho7.blk LR.out (blk_ne LR.out SR.out.gen (by decide)))
  have B7:=Lib.hid (BR.out.trans (ho7.below GQ.out.2 BR.out.size))
  clear hs7 ho7
  go_wp2_with fail
  refine (FL.out _ L7.out).mono ?_
  rintro o w8 ⟨rfl,hs8,ho8⟩
  have B8:=Lib.hid (B7.out.trans (ho8.below XW.out B7.out.size))
  clear hs8 ho8
  go_wp2_with fail
  refine (HAW.out _).mono ?_
  rintro o w9 ⟨rfl,hb9⟩
  go_wp2_with fail
  go_ret
  exact ⟨rfl,B8.out.trans (hb9.mono B8.out.size)⟩
 case pos =>
 have t2:decide ((k:Int)<60)=true:=decide_eq_true (by omega)
 have HK:=Lib.hid h2
 have ku:IntKind.i64.wrap ((k:Int)+1)=((k+1:Nat):Int):=by rw [IntWalk.i64_in _ (by omega)]; omega
 clear h1 h2
 obtain ⟨hl,hpk⟩:=HPR.out k
 have hfo:=HFO.out k
 obtain ⟨Bs,hBs⟩:∃ Bs,Bs=pkN ⟨key,cl,po,v6,hh,lo,pr,dp,co,nt,mo⟩ key [] k:=⟨_,rfl⟩
 have HBS:=Lib.hid hBs
 obtain ⟨Pq,hPq⟩:∃ Pq:Pk,Pq=(pkP (pkN ⟨key,cl,po,v6,hh,lo,pr,dp,co,nt,mo⟩ key [] k)).1:=⟨_,rfl⟩
 have hp2:pkP Bs=(Pq,0):=by rw [hBs,hPq]; exact (show pkP (pkN ⟨key,cl,po,v6,hh,lo,pr,dp,co,nt,mo⟩ key [] k)=((pkP (pkN ⟨key,cl,po,v6,hh,lo,pr,dp,co,nt,mo⟩ key [] k)).1,0) from by rw [show pkP (pkN ⟨key,cl,po,v6,hh,lo,pr,dp,co,nt,mo⟩ key [] k)=_ from hpk])
 have ht:Pq.t=(gPk ⟨key,cl,po,v6,hh,lo,pr,dp,co,nt,mo⟩ (gSt ⟨key,cl,po,v6,hh,lo,pr,dp,co,nt,mo⟩ key [] k).1 (gSt ⟨key,cl,po,v6,hh,lo,pr,dp,co,nt,mo⟩ key [] k).2).t:=by rw [hPq,show pkP (pkN ⟨key,cl,po,v6,hh,lo,pr,dp,co,nt,mo⟩ key [] k)=_ from hpk]
 have hl2:Bs.length≤600:=by rw [hBs]; exact hl
 have HP:=Lib.hid (show ∀ V A n c,Sl V A n c Bs→Calls Try.prog 16 #[.slice A n c] V fun o w'=>o=.returned (.tuple #[.agg Pq.cells,.int .i64 0])∧Below V.heap.size V w' from fun V A n c h=>by
  have h9:=parse_any A n c Bs V h (by have:=h.len; omega)
  rw [hp2] at h9
  exact h9)
 obtain ⟨Y,hY⟩:∃ Y:Array Value,Y=Pq.cells:=⟨_,rfl⟩
 have ys:Y.size=23:=by rw [hY]; rfl
 have ONE:=Lib.hid (show Y.all (·.oneCell')=true from by rw [hY]; simp [Pk.cells,Value.oneCell'])
 have HIY:=Lib.hid (show (Try.prog.info? 53).map (·.size)=some Y.size from by rw [ys]; kernel_rfl)
 have ZY:=Lib.hid (show (#[.bool false,.int .i64 0,.bool false,.int .u64 0,.int .u64 0,.bool false,.int .u64 0,.int .u64 0,.int .i64 0,.int .i64 0,.int .i64 0,.int .i64 0,.bool false,.int .i64 0,.bool false,.int .u64 0,.int .u64 0,.bool false,.int .u64 0,.int .u64 0,.int .i64 0,.int .i64 0,.int .i64 0]:Array Value).size=Y.size from by rw [ys]; rfl)
 have Y1:=Lib.hid (show Y[1]?=some (.int .i64 pr) from by rw [hY]; show some (Value.int .i64 Pq.t.pr)=_; rw [ht,show _=pr from hfo.pr])
 have Y5:=Lib.hid (show Y[5]?=some (.bool v6) from by rw [hY]; show some (Value.bool Pq.t.d6)=_; rw [ht,show _=v6 from hfo.d6])
 have Y6:=Lib.hid (show Y[6]?=some (.int .u64 hh) from by rw [hY]; show some (Value.int .u64 Pq.t.dh)=_; rw [ht,show _=hh from hfo.dh])
 have Y7:=Lib.hid (show Y[7]?=some (.int .u64 lo) from by rw [hY]; show some (Value.int .u64 Pq.t.dl)=_; rw [ht,show _=lo from hfo.dl])
 have Y9:=Lib.hid (show Y[9]?=some (.int .i64 dp) from by rw [hY]; show some (Value.int .i64 Pq.t.dp)=_; rw [ht,show _=dp from hfo.dp])
 obtain ⟨TX,hTX⟩:∃ TX,TX=strOfNums Bs:=⟨_,rfl⟩
 have HTX:=Lib.hid hTX
 rw [← hY] at HP
 clear hY ys hp2 hpk hl hBs hPq ht hfo hl2 hTX
 go_wp2_with fail
 refine (HPK.out _ w.heap.size k v BR.out.size SR.out OR.out).mono ?_
 rintro o w7 ⟨A,nb,cb,rfl,hw7,v',hs7,ho7,hf7,hv7⟩
 have OB7:=Lib.hid (show OwB w7 wr.heap.size A nb cb Bs from by rw [HBS.out]; exact hw7)
 have S7:=Lib.hid (show SM w7 g q ⟨key,cl,po,v6,hh,lo,pr,dp,co,nt,mo⟩ (gSt ⟨key,cl,po,v6,hh,lo,pr,dp,co,nt,mo⟩ key [] (k+1)).1 v' from hs7)
 have O7:=Lib.hid (show OwT w7 w.heap.size v' (gSt ⟨key,cl,po,v6,hh,lo,pr,dp,co,nt,mo⟩ key [] (k+1)).2 from ho7)
 have L7:=Lib.hid (show LM w7 x ⟨key,cl,po,v6,hh,lo,pr,dp,co,nt,mo⟩ (gSt ⟨key,cl,po,v6,hh,lo,pr,dp,co,nt,mo⟩ key [] k).1 v2 from hf7.blk LR.out (blk_ne LR.out SR.out.src (by decide)) (blk_ne LR.out SR.out.gen (by decide)) (fun e=>OwT_ne OR.out LR.out (by decide) x e.symm rfl))
 have K7:=Lib.hid (show Blk w7 pb 28 #[.int .u64 key,.int .i64 cl,.int .i64 po,.bool v6,.int .u64 hh,.int .u64 lo,.int .i64 pr,.int .i64 dp,.int .i64 co,.bool nt,.int .i64 mo] from hf7.blk KR.out (blk_ne KR.out SR.out.src (by decide)) (blk_ne KR.out SR.out.gen (by decide)) (fun e=>OwT_ne OR.out KR.out (by decide) pb e.symm rfl))
 have P7:=Lib.hid (show OwT w7 w.heap.size v2 (gSt ⟨key,cl,po,v6,hh,lo,pr,dp,co,nt,mo⟩ key [] k).2 from PR.out.keep (fun y hy=>hf7.block y (PR.out.lt y hy).2 (OwT_ne PR.out SR.out.src (by decide) y hy) (OwT_ne PR.out SR.out.gen (by decide) y hy) (fun e=>NR.out y e.symm hy)))
 have N7:=Lib.hid (show ∀ y,v'.ownBlock=some y→v2.ownBlock≠some y from fun y e1 e2=>by
  rcases hv7 y e1 with e | e
  ·exact NR.out y e e2
  ·have:=(PR.out.lt y e2).2
   omega)
 have B7:=Lib.hid (BR.out.trans (hf7.below GQ.out.1 GQ.out.2 (fun y hy=>(OR.out.lt y hy).1) BR.out.size))
 clear hw7 hs7 ho7 hf7 hv7
 go_wp2_with fail
 refine (HP.out _ _ _ _ OB7.out.sl).mono ?_
 rintro o w8 ⟨rfl,hb8⟩
 obtain ⟨w9,hw9⟩:∃ w9,w9=(w8.alloc (.cells #[.bool false,.int .i64 0,.bool false,.int .u64 0,.int .u64 0,.bool false,.int .u64 0,.int .u64 0,.int .i64 0,.int .i64 0,.int .i64 0,.int .i64 0,.bool false,.int .i64 0,.bool false,.int .u64 0,.int .u64 0,.bool false,.int .u64 0,.int .u64 0,.int .i64 0,.int .i64 0,.int .i64 0] 53)).setRow w8.heap.size Y:=⟨_,rfl⟩
 obtain ⟨h,hh9⟩:∃ h,h=w8.heap.size:=⟨_,rfl⟩
 have E9:=Lib.hid hw9
 have EH:=Lib.hid hh9
 have K9:=Lib.hid (show Blk w9 h 53 Y from by rw [hw9,hh9]; exact blkRow (Blk.new w8 _ _) _)
 have B89:=(show Below w8.heap.size w8 w9 from by rw [hw9]; exact (onlyRow _).from ((Below.refl _ _).alloc (Nat.le_refl _) _) (Nat.le_refl _))
 have B79:=Lib.hid (hb8.trans (B89.mono hb8.size))
 clear hw9 hh9 hb8 B89
 go_upto_region 14 with (refine wpList_store_row rfl 53 _ _ rfl w8.heap.size Y rfl rfl 53 #[.bool false,.int .i64 0,.bool false,.int .u64 0,.int .u64 0,.bool false,.int .u64 0,.int .u64 0,.int .i64 0,.int .i64 0,.int .i64 0,.int .i64 0,.bool false,.int .i64 0,.bool false,.int .u64 0,.int .u64 0,.bool false,.int .u64 0,.int .u64 0,.int .i64 0,.int .i64 0,.int .i64 0] (Blk.new w8 _ _) HIY.out ZY.out ONE.out ?_)
 rw [← E9.out,← EH.out]
 have D79:=Lib.hid (show Below w7.heap.size w7 w9.drew from B79.out.drew)
 have S9:=Lib.hid (S7.out.below D79.out)
 have O9:=Lib.hid (O7.out.below D79.out)
 have L9:=Lib.hid (show LM w9.drew x ⟨key,cl,po,v6,hh,lo,pr,dp,co,nt,mo⟩ (gSt ⟨key,cl,po,v6,hh,lo,pr,dp,co,nt,mo⟩ key [] k).1 v2 from L7.out.below D79.out L7.out.lt)
 have P9:=Lib.hid (P7.out.below D79.out)
 have Q9:=Lib.hid (show Blk w9.drew pb 28 #[.int .u64 key,.int .i64 cl,.int .i64 po,.bool v6,.int .u64 hh,.int .u64 lo,.int .i64 pr,.int .i64 dp,.int .i64 co,.bool nt,.int .i64 mo] from K7.out.below D79.out K7.out.lt)
 have H9:=Lib.hid (show Blk w9.drew h 53 Y from K9.out.below (dr_below _) K9.out.lt)
 have OB9:=Lib.hid (show OwB w9.drew wr.heap.size A nb cb Bs from OwB_keep OB7.out fun z cs hx=>D79.out.block z hx.lt)
 have B9:=Lib.hid (B7.out.trans (D79.out.mono B7.out.size))
 obtain ⟨ln,hln⟩:∃ ln,ln=(gSt ⟨key,cl,po,v6,hh,lo,pr,dp,co,nt,mo⟩ key [] (k+1)).2.length:=⟨_,rfl⟩
 have HLN:=Lib.hid hln
 clear hln
 have HOPk:=Lib.hid (show ∀ V,SM V g q ⟨key,cl,po,v6,hh,lo,pr,dp,co,nt,mo⟩ (gSt ⟨key,cl,po,v6,hh,lo,pr,dp,co,nt,mo⟩ key [] (k+1)).1 v'→OwT V w.heap.size v' (gSt ⟨key,cl,po,v6,hh,lo,pr,dp,co,nt,mo⟩ key [] (k+1)).2→Calls Try.prog 12 #[.pointer (some ⟨g,0,none⟩)] V fun o w'=>o=.returned (.int .i64 (ln:Int))∧Below V.heap.size V w' from fun V h1 h2=>by rw [HLN.out]; exact HOP.out V g q _ _ _ _ h1 h2)
 have HSV:=Lib.hid (show ∀ W,Blk W pb 28 #[.int .u64 key,.int .i64 cl,.int .i64 po,.bool v6,.int .u64 hh,.int .u64 lo,.int .i64 pr,.int .i64 dp,.int .i64 co,.bool nt,.int .i64 mo]→Blk W h 53 Y→OwB W wr.heap.size A nb cb Bs→(World.cell? W ⟨h,1,none⟩=some (.int .i64 pr)∧World.cell? W ⟨h,5,none⟩=some (.bool v6)∧World.cell? W ⟨h,6,none⟩=some (.int .u64 hh)∧World.cell? W ⟨h,7,none⟩=some (.int .u64 lo)∧World.cell? W ⟨h,9,none⟩=some (.int .i64 dp)∧World.cell? W ⟨pb,3,none⟩=some (.bool v6)∧World.cell? W ⟨pb,4,none⟩=some (.int .u64 hh)∧World.cell? W ⟨pb,5,none⟩=some (.int .u64 lo)∧World.cell? W ⟨pb,6,none⟩=some (.int .i64 pr)∧World.cell? W ⟨pb,7,none⟩=some (.int .i64 dp)∧(convert 47 9 (.slice A nb cb)).run Try.prog W=.ok (.string TX) W) from fun W h1 h2 h3=>⟨(h2.cell 1).trans Y1.out,(h2.cell 5).trans Y5.out,(h2.cell 6).trans Y6.out,(h2.cell 7).trans Y7.out,(h2.cell 9).trans Y9.out,h1.cell 3,h1.cell 4,h1.cell 5,h1.cell 6,h1.cell 7,by rw [HTX.out]; exact sixN.conv_row h3.sl.row h3.len⟩)
 have sA:=Lib.hid (HSV.out _ Q9.out H9.out OB9.out)
 refine wp_region_held_drew (S:=fun W=>World.cell? W ⟨h,1,none⟩=some (.int .i64 pr)∧World.cell? W ⟨h,5,none⟩=some (.bool v6)∧World.cell? W ⟨h,6,none⟩=some (.int .u64 hh)∧World.cell? W ⟨h,7,none⟩=some (.int .u64 lo)∧World.cell? W ⟨h,9,none⟩=some (.int .i64 dp)∧World.cell? W ⟨pb,3,none⟩=some (.bool v6)∧World.cell? W ⟨pb,4,none⟩=some (.int .u64 hh)∧World.cell? W ⟨pb,5,none⟩=some (.int .u64 lo)∧World.cell? W ⟨pb,6,none⟩=some (.int .i64 pr)∧World.cell? W ⟨pb,7,none⟩=some (.int .i64 dp)∧(convert 47 9 (.slice A nb cb)).run Try.prog W=.ok (.string TX) W) (by kernel_rfl) sA.out (fun hHeld=>?_)
 refine wpAnyH_take (i:=0) (v:=.slice A nb cb) rfl (by kernel_rfl) (by kernel_rfl) (by kernel_rfl) (fun _ _ _ h=>h) (Or.inl ⟨by rfl,?_⟩) (by assumption) ?_
 ·intro V hV
  obtain ⟨s1,s2,s3,s4,s5,s6,s7,s8,s9,s10,s11⟩:=hV
  go_simp
 try simp only [List.getElem_toArray,List.getElem_cons_zero,List.getElem_cons_succ,Act.put,List.setIfInBounds_toArray,List.set_cons_zero,List.set_cons_succ]
 refine wpAnyH_take (i:=1) (v:=.string TX) rfl (by kernel_rfl) (by kernel_rfl) (by kernel_rfl) (fun _ _ _ h=>h) (Or.inl ⟨by rfl,?_⟩) (by assumption) ?_
 ·intro V hV
  obtain ⟨s1,s2,s3,s4,s5,s6,s7,s8,s9,s10,s11⟩:=hV
  go_simp
 try simp only [List.getElem_toArray,List.getElem_cons_zero,List.getElem_cons_succ,Act.put,List.setIfInBounds_toArray,List.set_cons_zero,List.set_cons_succ]
 refine wpAnyH_take (i:=2) (v:=.pointer (some ⟨x,0,none⟩)) rfl (by kernel_rfl) (by kernel_rfl) (by kernel_rfl) (fun _ _ _ h=>h) (Or.inl ⟨by rfl,?_⟩) (by assumption) ?_
 ·intro V hV
  obtain ⟨s1,s2,s3,s4,s5,s6,s7,s8,s9,s10,s11⟩:=hV
  go_simp
 try simp only [List.getElem_toArray,List.getElem_cons_zero,List.getElem_cons_succ,Act.put,List.setIfInBounds_toArray,List.set_cons_zero,List.set_cons_succ]
 refine wpAnyH_ready (rs:=[3]) (by kernel_rfl) (by simp) ?_
 refine AllReadyH.cons rfl (fun K hK=>?_) AllReadyH.nil
 go_simp
 go_at_call 17
 (with_reducible refine (HLP.out _ x w.heap.size k v2 B9.out.size L9.out P9.out).mono ?_)
 rintro o w10 ⟨A8,n8,c8,rfl,hw10,v2',hs10,ho10,hf10,hv10⟩
 have S10:=Lib.hid (show SM w10 g q ⟨key,cl,po,v6,hh,lo,pr,dp,co,nt,mo⟩ (gSt ⟨key,cl,po,v6,hh,lo,pr,dp,co,nt,mo⟩ key [] (k+1)).1 v' from ⟨hf10.blk S9.out.src (blk_ne S9.out.src L9.out (by decide)) (blk_ne S9.out.src L9.out (by decide)) (fun e=>OwT_ne P9.out S9.out.src (by decide) g e.symm rfl),hf10.blk S9.out.gen (blk_ne S9.out.gen L9.out (by decide)) (blk_ne S9.out.gen L9.out (by decide)) (fun e=>OwT_ne P9.out S9.out.gen (by decide) q e.symm rfl)⟩)
 have O10:=Lib.hid (show OwT w10 w.heap.size v' (gSt ⟨key,cl,po,v6,hh,lo,pr,dp,co,nt,mo⟩ key [] (k+1)).2 from O9.out.keep (fun y hy=>hf10.block y (O9.out.lt y hy).2 (OwT_ne O9.out L9.out (by decide) y hy) (OwT_ne O9.out L9.out (by decide) y hy) (fun e=>N7.out y hy e.symm)))
 have Q10:=Lib.hid (show Blk w10 pb 28 #[.int .u64 key,.int .i64 cl,.int .i64 po,.bool v6,.int .u64 hh,.int .u64 lo,.int .i64 pr,.int .i64 dp,.int .i64 co,.bool nt,.int .i64 mo] from hf10.blk Q9.out (blk_ne Q9.out L9.out (by decide)) (blk_ne Q9.out L9.out (by decide)) (fun e=>OwT_ne P9.out Q9.out (by decide) pb e.symm rfl))
 have H10:=Lib.hid (show Blk w10 h 53 Y from hf10.blk H9.out (blk_ne H9.out L9.out (by decide)) (blk_ne H9.out L9.out (by decide)) (fun e=>OwT_ne P9.out H9.out (by decide) h e.symm rfl))
 have OB10:=Lib.hid (show OwB w10 wr.heap.size A nb cb Bs from OwB_keep OB9.out fun z cs hx=>hf10.block z hx.lt (blk_ne hx L9.out (by decide)) (blk_ne hx L9.out (by decide)) (fun e=>OwT_ne P9.out hx (by decide) z e.symm rfl))
 have N10:=Lib.hid (show ∀ y,v'.ownBlock=some y→v2'.ownBlock≠some y from fun y e1 e2=>by
  rcases hv10 y e2 with e | e
  ·exact N7.out y e1 e
  ·have:=(O9.out.lt y e1).2
   omega)
 have B10:=Lib.hid (B9.out.trans (hf10.below XW.out XW.out (fun y hy=>(P9.out.lt y hy).1) B9.out.size))
 have L10:=Lib.hid (show LM w10 x ⟨key,cl,po,v6,hh,lo,pr,dp,co,nt,mo⟩ (gSt ⟨key,cl,po,v6,hh,lo,pr,dp,co,nt,mo⟩ key [] (k+1)).1 v2' from hs10)
 have P10:=Lib.hid (show OwT w10 w.heap.size v2' (gSt ⟨key,cl,po,v6,hh,lo,pr,dp,co,nt,mo⟩ key [] (k+1)).2 from ho10)
 have sB:=Lib.hid (HSV.out _ Q10.out H10.out OB10.out)
 have cv10:(convert 47 9 (.slice A8 n8 c8)).run Try.prog w10=.ok (.string TX) w10:=by rw [HTX.out,HBS.out]; exact sixN.conv_row hw10.sl.row hw10.len
 obtain ⟨A2,c2,hv2,_,_⟩:=P10.out.slice
 rw [← HLN.out] at hv2
 have c12:w10.cell? ⟨x,12,none⟩=some (.slice A2 ln c2):=by rw [← hv2]; exact L10.out.cell 12
 have V2:=Lib.hid hv2
 have OB8:=Lib.hid (show OwB w10 w9.drew.heap.size A8 n8 c8 Bs from by rw [HBS.out]; exact hw10)
 have t10:(World.cell? w10 ⟨h,1,none⟩=some (.int .i64 pr)∧World.cell? w10 ⟨h,5,none⟩=some (.bool v6)∧World.cell? w10 ⟨h,6,none⟩=some (.int .u64 hh)∧World.cell? w10 ⟨h,7,none⟩=some (.int .u64 lo)∧World.cell? w10 ⟨h,9,none⟩=some (.int .i64 dp)∧World.cell? w10 ⟨pb,3,none⟩=some (.bool v6)∧World.cell? w10 ⟨pb,4,none⟩=some (.int .u64 hh)∧World.cell? w10 ⟨pb,5,none⟩=some (.int .u64 lo)∧World.cell? w10 ⟨pb,6,none⟩=some (.int .i64 pr)∧World.cell? w10 ⟨pb,7,none⟩=some (.int .i64 dp)∧(convert 47 9 (.slice A nb cb)).run Try.prog w10=.ok (.string TX) w10)∧(convert 47 9 (.slice A8 n8 c8)).run Try.prog w10=.ok (.string TX) w10∧w10.cell? ⟨x,12,none⟩=some (.slice A2 ln c2):=⟨sB.out,cv10,c12⟩
 clear hw10 hs10 ho10 hf10 hv10 hv2
 refine hK.out _ _ sB.out (fun hHeld2=>?_)
 clear hK K
 try simp only [List.getElem_toArray,List.getElem_cons_zero,List.getElem_cons_succ,Act.put,List.setIfInBounds_toArray,List.set_cons_zero,List.set_cons_succ]
 refine wpAnyH_more (S':=fun W=>(World.cell? W ⟨h,1,none⟩=some (.int .i64 pr)∧World.cell? W ⟨h,5,none⟩=some (.bool v6)∧World.cell? W ⟨h,6,none⟩=some (.int .u64 hh)∧World.cell? W ⟨h,7,none⟩=some (.int .u64 lo)∧World.cell? W ⟨h,9,none⟩=some (.int .i64 dp)∧World.cell? W ⟨pb,3,none⟩=some (.bool v6)∧World.cell? W ⟨pb,4,none⟩=some (.int .u64 hh)∧World.cell? W ⟨pb,5,none⟩=some (.int .u64 lo)∧World.cell? W ⟨pb,6,none⟩=some (.int .i64 pr)∧World.cell? W ⟨pb,7,none⟩=some (.int .i64 dp)∧(convert 47 9 (.slice A nb cb)).run Try.prog W=.ok (.string TX) W)∧(convert 47 9 (.slice A8 n8 c8)).run Try.prog W=.ok (.string TX) W∧World.cell? W ⟨x,12,none⟩=some (.slice A2 ln c2)) (fun W h=>h.1) _ _ _ _ ?_
 refine wpAnyH_take (i:=4) (v:=.string TX) rfl (by kernel_rfl) (by kernel_rfl) (by kernel_rfl) (fun _ _ _ h=>h) (Or.inl ⟨by rfl,?_⟩) (by assumption) ?_
 ·intro V hV
  obtain ⟨⟨s1,s2,s3,s4,s5,s6,s7,s8,s9,s10,s11⟩,s12,s13⟩:=hV
  go_simp
 try simp only [List.getElem_toArray,List.getElem_cons_zero,List.getElem_cons_succ,Act.put,List.setIfInBounds_toArray,List.set_cons_zero,List.set_cons_succ]
 refine wpAnyH_take (i:=5) (v:=.bool false) rfl (by kernel_rfl) (by kernel_rfl) (by kernel_rfl) (fun _ _ _ h=>h) (Or.inl ⟨by rfl,?_⟩) (by assumption) ?_
 ·intro V hV
  obtain ⟨⟨s1,s2,s3,s4,s5,s6,s7,s8,s9,s10,s11⟩,s12,s13⟩:=hV
  go_simp
 try simp only [List.getElem_toArray,List.getElem_cons_zero,List.getElem_cons_succ,Act.put,List.setIfInBounds_toArray,List.set_cons_zero,List.set_cons_succ]
 refine wpAnyH_take (i:=6) (v:=.bool false) rfl (by kernel_rfl) (by kernel_rfl) (by kernel_rfl) (fun _ _ _ h=>h) (Or.inl ⟨by rfl,?_⟩) (by assumption) ?_
 ·intro V hV
  obtain ⟨⟨s1,s2,s3,s4,s5,s6,s7,s8,s9,s10,s11⟩,s12,s13⟩:=hV
  go_simp
 try simp only [List.getElem_toArray,List.getElem_cons_zero,List.getElem_cons_succ,Act.put,List.setIfInBounds_toArray,List.set_cons_zero,List.set_cons_succ]
 refine wpAnyH_take (i:=7) (v:=.int .i64 0) rfl (by kernel_rfl) (by kernel_rfl) (by kernel_rfl) (fun _ _ _ h=>h) (Or.inl ⟨by rfl,?_⟩) (by assumption) ?_
 ·intro V hV
  obtain ⟨⟨s1,s2,s3,s4,s5,s6,s7,s8,s9,s10,s11⟩,s12,s13⟩:=hV
  go_simp
 try simp only [List.getElem_toArray,List.getElem_cons_zero,List.getElem_cons_succ,Act.put,List.setIfInBounds_toArray,List.set_cons_zero,List.set_cons_succ]
 refine wpAnyH_take (i:=8) (v:=.bool false) rfl (by kernel_rfl) (by kernel_rfl) (by kernel_rfl) (fun _ _ _ h=>h) (Or.inl ⟨by rfl,?_⟩) (by assumption) ?_
 ·intro V hV
  obtain ⟨⟨s1,s2,s3,s4,s5,s6,s7,s8,s9,s10,s11⟩,s12,s13⟩:=hV
  go_simp
 try simp only [List.getElem_toArray,List.getElem_cons_zero,List.getElem_cons_succ,Act.put,List.setIfInBounds_toArray,List.set_cons_zero,List.set_cons_succ]
 refine wpAnyH_take (i:=9) (v:=.bool false) rfl (by kernel_rfl) (by kernel_rfl) (by kernel_rfl) (fun _ _ _ h=>h) (Or.inl ⟨by rfl,?_⟩) (by assumption) ?_
 ·intro V hV
  obtain ⟨⟨s1,s2,s3,s4,s5,s6,s7,s8,s9,s10,s11⟩,s12,s13⟩:=hV
  go_simp
 try simp only [List.getElem_toArray,List.getElem_cons_zero,List.getElem_cons_succ,Act.put,List.setIfInBounds_toArray,List.set_cons_zero,List.set_cons_succ]
 refine wpAnyH_take (i:=10) (v:=.bool false) rfl (by kernel_rfl) (by kernel_rfl) (by kernel_rfl) (fun _ _ _ h=>h) (Or.inl ⟨by rfl,?_⟩) (by assumption) ?_
 ·intro V hV
  obtain ⟨⟨s1,s2,s3,s4,s5,s6,s7,s8,s9,s10,s11⟩,s12,s13⟩:=hV
  go_simp
 try simp only [List.getElem_toArray,List.getElem_cons_zero,List.getElem_cons_succ,Act.put,List.setIfInBounds_toArray,List.set_cons_zero,List.set_cons_succ]
 refine wpAnyH_take (i:=11) (v:=.pointer (some ⟨h,1,none⟩)) rfl (by kernel_rfl) (by kernel_rfl) (by kernel_rfl) (fun _ _ _ h=>h) (Or.inl ⟨by rfl,?_⟩) (by assumption) ?_
 ·intro V hV
  obtain ⟨⟨s1,s2,s3,s4,s5,s6,s7,s8,s9,s10,s11⟩,s12,s13⟩:=hV
  go_simp
 try simp only [List.getElem_toArray,List.getElem_cons_zero,List.getElem_cons_succ,Act.put,List.setIfInBounds_toArray,List.set_cons_zero,List.set_cons_succ]
 refine wpAnyH_take (i:=12) (v:=.pointer (some ⟨h,5,none⟩)) rfl (by kernel_rfl) (by kernel_rfl) (by kernel_rfl) (fun _ _ _ h=>h) (Or.inl ⟨by rfl,?_⟩) (by assumption) ?_
 ·intro V hV
  obtain ⟨⟨s1,s2,s3,s4,s5,s6,s7,s8,s9,s10,s11⟩,s12,s13⟩:=hV
  go_simp
 try simp only [List.getElem_toArray,List.getElem_cons_zero,List.getElem_cons_succ,Act.put,List.setIfInBounds_toArray,List.set_cons_zero,List.set_cons_succ]
 refine wpAnyH_take (i:=13) (v:=.agg #[.bool v6,.int .u64 hh,.int .u64 lo]) rfl (by kernel_rfl) (by kernel_rfl) (by kernel_rfl) (fun _ _ _ h=>h) (Or.inl ⟨by rfl,?_⟩) (by assumption) ?_
 ·intro V hV
  obtain ⟨⟨s1,s2,s3,s4,s5,s6,s7,s8,s9,s10,s11⟩,s12,s13⟩:=hV
  go_simp
 try simp only [List.getElem_toArray,List.getElem_cons_zero,List.getElem_cons_succ,Act.put,List.setIfInBounds_toArray,List.set_cons_zero,List.set_cons_succ]
 refine wpAnyH_take (i:=14) (v:=.pointer (some ⟨pb,3,none⟩)) rfl (by kernel_rfl) (by kernel_rfl) (by kernel_rfl) (fun _ _ _ h=>h) (Or.inl ⟨by rfl,?_⟩) (by assumption) ?_
 ·intro V hV
  obtain ⟨⟨s1,s2,s3,s4,s5,s6,s7,s8,s9,s10,s11⟩,s12,s13⟩:=hV
  go_simp
 try simp only [List.getElem_toArray,List.getElem_cons_zero,List.getElem_cons_succ,Act.put,List.setIfInBounds_toArray,List.set_cons_zero,List.set_cons_succ]
 refine wpAnyH_take (i:=15) (v:=.pointer (some ⟨pb,3,none⟩)) rfl (by kernel_rfl) (by kernel_rfl) (by kernel_rfl) (fun _ _ _ h=>h) (Or.inl ⟨by rfl,?_⟩) (by assumption) ?_
 ·intro V hV
  obtain ⟨⟨s1,s2,s3,s4,s5,s6,s7,s8,s9,s10,s11⟩,s12,s13⟩:=hV
  go_simp
 try simp only [List.getElem_toArray,List.getElem_cons_zero,List.getElem_cons_succ,Act.put,List.setIfInBounds_toArray,List.set_cons_zero,List.set_cons_succ]
 refine wpAnyH_take (i:=16) (v:=.agg #[.bool v6,.int .u64 hh,.int .u64 lo]) rfl (by kernel_rfl) (by kernel_rfl) (by kernel_rfl) (fun _ _ _ h=>h) (Or.inl ⟨by rfl,?_⟩) (by assumption) ?_
 ·intro V hV
  obtain ⟨⟨s1,s2,s3,s4,s5,s6,s7,s8,s9,s10,s11⟩,s12,s13⟩:=hV
  go_simp
 try simp only [List.getElem_toArray,List.getElem_cons_zero,List.getElem_cons_succ,Act.put,List.setIfInBounds_toArray,List.set_cons_zero,List.set_cons_succ]
 refine wpAnyH_take (i:=17) (v:=.bool false) rfl (by kernel_rfl) (by kernel_rfl) (by kernel_rfl) (fun _ _ _ h=>h) (Or.inl ⟨by rfl,?_⟩) (by assumption) ?_
 ·intro V hV
  obtain ⟨⟨s1,s2,s3,s4,s5,s6,s7,s8,s9,s10,s11⟩,s12,s13⟩:=hV
  go_simp
 try simp only [List.getElem_toArray,List.getElem_cons_zero,List.getElem_cons_succ,Act.put,List.setIfInBounds_toArray,List.set_cons_zero,List.set_cons_succ]
 refine wpAnyH_take (i:=18) (v:=.bool false) rfl (by kernel_rfl) (by kernel_rfl) (by kernel_rfl) (fun _ _ _ h=>h) (Or.inl ⟨by rfl,?_⟩) (by assumption) ?_
 ·intro V hV
  obtain ⟨⟨s1,s2,s3,s4,s5,s6,s7,s8,s9,s10,s11⟩,s12,s13⟩:=hV
  go_simp
 try simp only [List.getElem_toArray,List.getElem_cons_zero,List.getElem_cons_succ,Act.put,List.setIfInBounds_toArray,List.set_cons_zero,List.set_cons_succ]
 refine wpAnyH_take (i:=19) (v:=.bool false) rfl (by kernel_rfl) (by kernel_rfl) (by kernel_rfl) (fun _ _ _ h=>h) (Or.inl ⟨by rfl,?_⟩) (by assumption) ?_
 ·intro V hV
  obtain ⟨⟨s1,s2,s3,s4,s5,s6,s7,s8,s9,s10,s11⟩,s12,s13⟩:=hV
  go_simp
 try simp only [List.getElem_toArray,List.getElem_cons_zero,List.getElem_cons_succ,Act.put,List.setIfInBounds_toArray,List.set_cons_zero,List.set_cons_succ]
 refine wpAnyH_take (i:=20) (v:=.pointer (some ⟨h,1,none⟩)) rfl (by kernel_rfl) (by kernel_rfl) (by kernel_rfl) (fun _ _ _ h=>h) (Or.inl ⟨by rfl,?_⟩) (by assumption) ?_
 ·intro V hV
  obtain ⟨⟨s1,s2,s3,s4,s5,s6,s7,s8,s9,s10,s11⟩,s12,s13⟩:=hV
  go_simp
 try simp only [List.getElem_toArray,List.getElem_cons_zero,List.getElem_cons_succ,Act.put,List.setIfInBounds_toArray,List.set_cons_zero,List.set_cons_succ]
 refine wpAnyH_take (i:=21) (v:=.pointer (some ⟨h,9,none⟩)) rfl (by kernel_rfl) (by kernel_rfl) (by kernel_rfl) (fun _ _ _ h=>h) (Or.inl ⟨by rfl,?_⟩) (by assumption) ?_
 ·intro V hV
  obtain ⟨⟨s1,s2,s3,s4,s5,s6,s7,s8,s9,s10,s11⟩,s12,s13⟩:=hV
  go_simp
 try simp only [List.getElem_toArray,List.getElem_cons_zero,List.getElem_cons_succ,Act.put,List.setIfInBounds_toArray,List.set_cons_zero,List.set_cons_succ]
 refine wpAnyH_take (i:=22) (v:=.int .i64 dp) rfl (by kernel_rfl) (by kernel_rfl) (by kernel_rfl) (fun _ _ _ h=>h) (Or.inl ⟨by rfl,?_⟩) (by assumption) ?_
 ·intro V hV
  obtain ⟨⟨s1,s2,s3,s4,s5,s6,s7,s8,s9,s10,s11⟩,s12,s13⟩:=hV
  go_simp
 try simp only [List.getElem_toArray,List.getElem_cons_zero,List.getElem_cons_succ,Act.put,List.setIfInBounds_toArray,List.set_cons_zero,List.set_cons_succ]
 refine wpAnyH_take (i:=23) (v:=.pointer (some ⟨pb,3,none⟩)) rfl (by kernel_rfl) (by kernel_rfl) (by kernel_rfl) (fun _ _ _ h=>h) (Or.inl ⟨by rfl,?_⟩) (by assumption) ?_
 ·intro V hV
  obtain ⟨⟨s1,s2,s3,s4,s5,s6,s7,s8,s9,s10,s11⟩,s12,s13⟩:=hV
  go_simp
 try simp only [List.getElem_toArray,List.getElem_cons_zero,List.getElem_cons_succ,Act.put,List.setIfInBounds_toArray,List.set_cons_zero,List.set_cons_succ]
 refine wpAnyH_take (i:=24) (v:=.pointer (some ⟨pb,7,none⟩)) rfl (by kernel_rfl) (by kernel_rfl) (by kernel_rfl) (fun _ _ _ h=>h) (Or.inl ⟨by rfl,?_⟩) (by assumption) ?_
 ·intro V hV
  obtain ⟨⟨s1,s2,s3,s4,s5,s6,s7,s8,s9,s10,s11⟩,s12,s13⟩:=hV
  go_simp
 try simp only [List.getElem_toArray,List.getElem_cons_zero,List.getElem_cons_succ,Act.put,List.setIfInBounds_toArray,List.set_cons_zero,List.set_cons_succ]
 refine wpAnyH_take (i:=25) (v:=.int .i64 dp) rfl (by kernel_rfl) (by kernel_rfl) (by kernel_rfl) (fun _ _ _ h=>h) (Or.inl ⟨by rfl,?_⟩) (by assumption) ?_
 ·intro V hV
  obtain ⟨⟨s1,s2,s3,s4,s5,s6,s7,s8,s9,s10,s11⟩,s12,s13⟩:=hV
  go_simp
 try simp only [List.getElem_toArray,List.getElem_cons_zero,List.getElem_cons_succ,Act.put,List.setIfInBounds_toArray,List.set_cons_zero,List.set_cons_succ]
 refine wpAnyH_take (i:=26) (v:=.bool false) rfl (by kernel_rfl) (by kernel_rfl) (by kernel_rfl) (fun _ _ _ h=>h) (Or.inl ⟨by rfl,?_⟩) (by assumption) ?_
 ·intro V hV
  obtain ⟨⟨s1,s2,s3,s4,s5,s6,s7,s8,s9,s10,s11⟩,s12,s13⟩:=hV
  go_simp
 try simp only [List.getElem_toArray,List.getElem_cons_zero,List.getElem_cons_succ,Act.put,List.setIfInBounds_toArray,List.set_cons_zero,List.set_cons_succ]
 refine wpAnyH_take (i:=27) (v:=.bool false) rfl (by kernel_rfl) (by kernel_rfl) (by kernel_rfl) (fun _ _ _ h=>h) (Or.inl ⟨by rfl,?_⟩) (by assumption) ?_
 ·intro V hV
  obtain ⟨⟨s1,s2,s3,s4,s5,s6,s7,s8,s9,s10,s11⟩,s12,s13⟩:=hV
  go_simp
 try simp only [List.getElem_toArray,List.getElem_cons_zero,List.getElem_cons_succ,Act.put,List.setIfInBounds_toArray,List.set_cons_zero,List.set_cons_succ]
 refine wpAnyH_take (i:=28) (v:=.bool false) rfl (by kernel_rfl) (by kernel_rfl) (by kernel_rfl) (fun _ _ _ h=>h) (Or.inl ⟨by rfl,?_⟩) (by assumption) ?_
 ·intro V hV
  obtain ⟨⟨s1,s2,s3,s4,s5,s6,s7,s8,s9,s10,s11⟩,s12,s13⟩:=hV
  go_simp
 try simp only [List.getElem_toArray,List.getElem_cons_zero,List.getElem_cons_succ,Act.put,List.setIfInBounds_toArray,List.set_cons_zero,List.set_cons_succ]
 refine wpAnyH_take (i:=29) (v:=.pointer (some ⟨h,1,none⟩)) rfl (by kernel_rfl) (by kernel_rfl) (by kernel_rfl) (fun _ _ _ h=>h) (Or.inl ⟨by rfl,?_⟩) (by assumption) ?_
 ·intro V hV
  obtain ⟨⟨s1,s2,s3,s4,s5,s6,s7,s8,s9,s10,s11⟩,s12,s13⟩:=hV
  go_simp
 try simp only [List.getElem_toArray,List.getElem_cons_zero,List.getElem_cons_succ,Act.put,List.setIfInBounds_toArray,List.set_cons_zero,List.set_cons_succ]
 refine wpAnyH_take (i:=30) (v:=.pointer (some ⟨h,1,none⟩)) rfl (by kernel_rfl) (by kernel_rfl) (by kernel_rfl) (fun _ _ _ h=>h) (Or.inl ⟨by rfl,?_⟩) (by assumption) ?_
 ·intro V hV
  obtain ⟨⟨s1,s2,s3,s4,s5,s6,s7,s8,s9,s10,s11⟩,s12,s13⟩:=hV
  go_simp
 try simp only [List.getElem_toArray,List.getElem_cons_zero,List.getElem_cons_succ,Act.put,List.setIfInBounds_toArray,List.set_cons_zero,List.set_cons_succ]
 refine wpAnyH_take (i:=31) (v:=.int .i64 pr) rfl (by kernel_rfl) (by kernel_rfl) (by kernel_rfl) (fun _ _ _ h=>h) (Or.inl ⟨by rfl,?_⟩) (by assumption) ?_
 ·intro V hV
  obtain ⟨⟨s1,s2,s3,s4,s5,s6,s7,s8,s9,s10,s11⟩,s12,s13⟩:=hV
  go_simp
 try simp only [List.getElem_toArray,List.getElem_cons_zero,List.getElem_cons_succ,Act.put,List.setIfInBounds_toArray,List.set_cons_zero,List.set_cons_succ]
 refine wpAnyH_take (i:=32) (v:=.pointer (some ⟨pb,3,none⟩)) rfl (by kernel_rfl) (by kernel_rfl) (by kernel_rfl) (fun _ _ _ h=>h) (Or.inl ⟨by rfl,?_⟩) (by assumption) ?_
 ·intro V hV
  obtain ⟨⟨s1,s2,s3,s4,s5,s6,s7,s8,s9,s10,s11⟩,s12,s13⟩:=hV
  go_simp
 try simp only [List.getElem_toArray,List.getElem_cons_zero,List.getElem_cons_succ,Act.put,List.setIfInBounds_toArray,List.set_cons_zero,List.set_cons_succ]
 refine wpAnyH_take (i:=33) (v:=.pointer (some ⟨pb,6,none⟩)) rfl (by kernel_rfl) (by kernel_rfl) (by kernel_rfl) (fun _ _ _ h=>h) (Or.inl ⟨by rfl,?_⟩) (by assumption) ?_
 ·intro V hV
  obtain ⟨⟨s1,s2,s3,s4,s5,s6,s7,s8,s9,s10,s11⟩,s12,s13⟩:=hV
  go_simp
 try simp only [List.getElem_toArray,List.getElem_cons_zero,List.getElem_cons_succ,Act.put,List.setIfInBounds_toArray,List.set_cons_zero,List.set_cons_succ]
 refine wpAnyH_take (i:=34) (v:=.int .i64 pr) rfl (by kernel_rfl) (by kernel_rfl) (by kernel_rfl) (fun _ _ _ h=>h) (Or.inl ⟨by rfl,?_⟩) (by assumption) ?_
 ·intro V hV
  obtain ⟨⟨s1,s2,s3,s4,s5,s6,s7,s8,s9,s10,s11⟩,s12,s13⟩:=hV
  go_simp
 try simp only [List.getElem_toArray,List.getElem_cons_zero,List.getElem_cons_succ,Act.put,List.setIfInBounds_toArray,List.set_cons_zero,List.set_cons_succ]
 refine wpAnyH_take (i:=35) (v:=.bool false) rfl (by kernel_rfl) (by kernel_rfl) (by kernel_rfl) (fun _ _ _ h=>h) (Or.inl ⟨by rfl,?_⟩) (by assumption) ?_
 ·intro V hV
  obtain ⟨⟨s1,s2,s3,s4,s5,s6,s7,s8,s9,s10,s11⟩,s12,s13⟩:=hV
  go_simp
 try simp only [List.getElem_toArray,List.getElem_cons_zero,List.getElem_cons_succ,Act.put,List.setIfInBounds_toArray,List.set_cons_zero,List.set_cons_succ]
 refine wpAnyH_take (i:=36) (v:=.bool false) rfl (by kernel_rfl) (by kernel_rfl) (by kernel_rfl) (fun _ _ _ h=>h) (Or.inl ⟨by rfl,?_⟩) (by assumption) ?_
 ·intro V hV
  obtain ⟨⟨s1,s2,s3,s4,s5,s6,s7,s8,s9,s10,s11⟩,s12,s13⟩:=hV
  go_simp
 try simp only [List.getElem_toArray,List.getElem_cons_zero,List.getElem_cons_succ,Act.put,List.setIfInBounds_toArray,List.set_cons_zero,List.set_cons_succ]
 refine wpAnyH_take (i:=37) (v:=.bool false) rfl (by kernel_rfl) (by kernel_rfl) (by kernel_rfl) (fun _ _ _ h=>h) (Or.inl ⟨by rfl,?_⟩) (by assumption) ?_
 ·intro V hV
  obtain ⟨⟨s1,s2,s3,s4,s5,s6,s7,s8,s9,s10,s11⟩,s12,s13⟩:=hV
  go_simp
 try simp only [List.getElem_toArray,List.getElem_cons_zero,List.getElem_cons_succ,Act.put,List.setIfInBounds_toArray,List.set_cons_zero,List.set_cons_succ]
 refine wpAnyH_take (i:=38) (v:=.pointer (some ⟨g,0,none⟩)) rfl (by kernel_rfl) (by kernel_rfl) (by kernel_rfl) (fun _ _ _ h=>h) (Or.inl ⟨by rfl,?_⟩) (by assumption) ?_
 ·intro V hV
  obtain ⟨⟨s1,s2,s3,s4,s5,s6,s7,s8,s9,s10,s11⟩,s12,s13⟩:=hV
  go_simp
 try simp only [List.getElem_toArray,List.getElem_cons_zero,List.getElem_cons_succ,Act.put,List.setIfInBounds_toArray,List.set_cons_zero,List.set_cons_succ]
 refine wpAnyH_take (i:=40) (v:=.pointer (some ⟨x,0,none⟩)) rfl (by kernel_rfl) (by kernel_rfl) (by kernel_rfl) (fun _ _ _ h=>h) (Or.inl ⟨by rfl,?_⟩) (by assumption) ?_
 ·intro V hV
  obtain ⟨⟨s1,s2,s3,s4,s5,s6,s7,s8,s9,s10,s11⟩,s12,s13⟩:=hV
  go_simp
 try simp only [List.getElem_toArray,List.getElem_cons_zero,List.getElem_cons_succ,Act.put,List.setIfInBounds_toArray,List.set_cons_zero,List.set_cons_succ]
 refine wpAnyH_take (i:=41) (v:=.pointer (some ⟨x,0,none⟩)) rfl (by kernel_rfl) (by kernel_rfl) (by kernel_rfl) (fun _ _ _ h=>h) (Or.inl ⟨by rfl,?_⟩) (by assumption) ?_
 ·intro V hV
  obtain ⟨⟨s1,s2,s3,s4,s5,s6,s7,s8,s9,s10,s11⟩,s12,s13⟩:=hV
  go_simp
 try simp only [List.getElem_toArray,List.getElem_cons_zero,List.getElem_cons_succ,Act.put,List.setIfInBounds_toArray,List.set_cons_zero,List.set_cons_succ]
 refine wpAnyH_take (i:=42) (v:=.pointer (some ⟨x,12,none⟩)) rfl (by kernel_rfl) (by kernel_rfl) (by kernel_rfl) (fun _ _ _ h=>h) (Or.inl ⟨by rfl,?_⟩) (by assumption) ?_
 ·intro V hV
  obtain ⟨⟨s1,s2,s3,s4,s5,s6,s7,s8,s9,s10,s11⟩,s12,s13⟩:=hV
  go_simp
 try simp only [List.getElem_toArray,List.getElem_cons_zero,List.getElem_cons_succ,Act.put,List.setIfInBounds_toArray,List.set_cons_zero,List.set_cons_succ]
 refine wpAnyH_take (i:=43) (v:=.slice A2 ln c2) rfl (by kernel_rfl) (by kernel_rfl) (by kernel_rfl) (fun _ _ _ h=>h) (Or.inl ⟨by rfl,?_⟩) (by assumption) ?_
 ·intro V hV
  obtain ⟨⟨s1,s2,s3,s4,s5,s6,s7,s8,s9,s10,s11⟩,s12,s13⟩:=hV
  go_simp
 try simp only [List.getElem_toArray,List.getElem_cons_zero,List.getElem_cons_succ,Act.put,List.setIfInBounds_toArray,List.set_cons_zero,List.set_cons_succ]
 refine wpAnyH_take (i:=44) (v:=.int .i64 (ln:Int)) rfl (by kernel_rfl) (by kernel_rfl) (by kernel_rfl) (fun _ _ _ h=>h) (Or.inl ⟨by rfl,?_⟩) (by assumption) ?_
 ·intro V hV
  obtain ⟨⟨s1,s2,s3,s4,s5,s6,s7,s8,s9,s10,s11⟩,s12,s13⟩:=hV
  go_simp
 try simp only [List.getElem_toArray,List.getElem_cons_zero,List.getElem_cons_succ,Act.put,List.setIfInBounds_toArray,List.set_cons_zero,List.set_cons_succ]
 refine wpAnyH_ready (rs:=[39]) (by kernel_rfl) (by simp) ?_
 refine AllReadyH.cons rfl (fun K hK=>?_) AllReadyH.nil
 go_simp
 go_at_call 12
 (with_reducible refine (HOPk.out _ S10.out O10.out).mono ?_)
 rintro o w11 ⟨rfl,hb11⟩
 have S11:=Lib.hid (S10.out.below hb11)
 have O11:=Lib.hid (O10.out.below hb11)
 have L11:=Lib.hid (show LM w11 x ⟨key,cl,po,v6,hh,lo,pr,dp,co,nt,mo⟩ (gSt ⟨key,cl,po,v6,hh,lo,pr,dp,co,nt,mo⟩ key [] (k+1)).1 v2' from L10.out.below hb11 L10.out.lt)
 have P11:=Lib.hid (P10.out.below hb11)
 have Q11:=Lib.hid (show Blk w11 pb 28 #[.int .u64 key,.int .i64 cl,.int .i64 po,.bool v6,.int .u64 hh,.int .u64 lo,.int .i64 pr,.int .i64 dp,.int .i64 co,.bool nt,.int .i64 mo] from Q10.out.below hb11 Q10.out.lt)
 have H11:=Lib.hid (show Blk w11 h 53 Y from H10.out.below hb11 H10.out.lt)
 have OB11:=Lib.hid (show OwB w11 wr.heap.size A nb cb Bs from OwB_keep OB10.out fun z cs hx=>hb11.block z hx.lt)
 have B11:=Lib.hid (B10.out.trans (hb11.mono B10.out.size))
 have sC:=Lib.hid (HSV.out _ Q11.out H11.out OB11.out)
 have c12b:w11.cell? ⟨x,12,none⟩=some (.slice A2 ln c2):=by rw [← V2.out]; exact L11.out.cell 12
 have cv11:(convert 47 9 (.slice A8 n8 c8)).run Try.prog w11=.ok (.string TX) w11:=by
  have h9:=OwB_keep OB8.out fun z cs hx=>hb11.block z hx.lt
  rw [HTX.out]; exact sixN.conv_row h9.sl.row h9.len
 have t11:(World.cell? w11 ⟨h,1,none⟩=some (.int .i64 pr)∧World.cell? w11 ⟨h,5,none⟩=some (.bool v6)∧World.cell? w11 ⟨h,6,none⟩=some (.int .u64 hh)∧World.cell? w11 ⟨h,7,none⟩=some (.int .u64 lo)∧World.cell? w11 ⟨h,9,none⟩=some (.int .i64 dp)∧World.cell? w11 ⟨pb,3,none⟩=some (.bool v6)∧World.cell? w11 ⟨pb,4,none⟩=some (.int .u64 hh)∧World.cell? w11 ⟨pb,5,none⟩=some (.int .u64 lo)∧World.cell? w11 ⟨pb,6,none⟩=some (.int .i64 pr)∧World.cell? w11 ⟨pb,7,none⟩=some (.int .i64 dp)∧(convert 47 9 (.slice A nb cb)).run Try.prog w11=.ok (.string TX) w11)∧(convert 47 9 (.slice A8 n8 c8)).run Try.prog w11=.ok (.string TX) w11∧w11.cell? ⟨x,12,none⟩=some (.slice A2 ln c2):=⟨sC.out,cv11,c12b⟩
 clear hb11
 refine hK.out _ _ t11 (fun hHeld3=>?_)
 clear hK K
 try simp only [List.getElem_toArray,List.getElem_cons_zero,List.getElem_cons_succ,Act.put,List.setIfInBounds_toArray,List.set_cons_zero,List.set_cons_succ]
 refine wpAnyH_take (i:=45) (v:=.bool false) rfl (by kernel_rfl) (by kernel_rfl) (by kernel_rfl) (fun _ _ _ h=>h) (Or.inl ⟨by rfl,?_⟩) (by assumption) ?_
 ·intro V hV
  obtain ⟨⟨s1,s2,s3,s4,s5,s6,s7,s8,s9,s10,s11⟩,s12,s13⟩:=hV
  go_simp
 try simp only [List.getElem_toArray,List.getElem_cons_zero,List.getElem_cons_succ,Act.put,List.setIfInBounds_toArray,List.set_cons_zero,List.set_cons_succ]
 refine wpAnyH_take (i:=46) (v:=.bool false) rfl (by kernel_rfl) (by kernel_rfl) (by kernel_rfl) (fun _ _ _ h=>h) (Or.inl ⟨by rfl,?_⟩) (by assumption) ?_
 ·intro V hV
  obtain ⟨⟨s1,s2,s3,s4,s5,s6,s7,s8,s9,s10,s11⟩,s12,s13⟩:=hV
  go_simp
 try simp only [List.getElem_toArray,List.getElem_cons_zero,List.getElem_cons_succ,Act.put,List.setIfInBounds_toArray,List.set_cons_zero,List.set_cons_succ]
 refine wpAnyH_done (by kernel_rfl) ?_ _
 go_wp2_with fail
 go_roundw
 case rel=>exact ⟨k+1,v',v2',HK.out,by simp,S11,L11,O11,P11,N10,Q11,B11⟩
 case measure=>have:=HK.out; simp [intOf]; omega
end Go.Proofs.Ytnofddbfogilaaa.genU
