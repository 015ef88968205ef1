/- 9 texts in one. -/
import Derived.Deep.RegionHeld3
import Derived.Deep.WholeRow
import Derived.Deep.DeepCutAuto
import Derived.BigQuiet
import Derived.Test.YtnofddbfogilaaaGq01
import Derived.Test.YtnofddbfogilaaaGq17
import Derived.Test.YtnofddbfogilaaaGq21
import Derived.Test.YtnofddbfogilaaaGq22
import Derived.Test.YtnofddbfogilaaaGq30
/- Layer 35: the next packet. -/
namespace Go.Proofs.Ytnofddbfogilaaa.genI
set_option maxHeartbeats 8000000
set_option maxRecDepth 100000
open Go.ChangeShapes Go.WideShapes Go.ChangeAt Go.RowKit
open base mixB rdrG pktA pktC sixW genO genW genA genB genC genD genE genF pktE pktG genG genH
set_option linter.unusedVariables false
set_option linter.unusedSimpArgs false
theorem seg_any {w:World} {g q B:Nat} {p:Pl} {a:Int} {v:Value} {op:List Tp} (h:SM w g q p a v) (ho:OwT w B v op) (hp:p.right) (hin:p.In) (hn:op.length≤256) (hB:B≤w.heap.size) :
  Calls Try.prog 27 #[.pointer (some ⟨g,0,none⟩)] w (SegP w g q B p v (gSeg p a op)):=by
 by_cases hc:op.length=0∨(below (gNum a 0) 4=0∧op.length<256)
 ·exact seg_new h ho hp hin hn hB hc
 ·have h0:op.length≠0:=fun e=>hc (.inl e)
  have h2:¬ (below (gNum a 0) 4=0∧op.length<256):=fun e=>hc (.inr e)
  by_cases h1:below (gNum a 0) 4=1
  ·exact seg_fin h ho hp hin hn hB h0 h2 h1
  ·exact seg_ack h ho hp hin hn hB h0 h2 h1
def Spec (p:Pl) (t:Tp) (fl:Int) (pl Bs:List Int):Prop:=Bs.length≤600∧pkP Bs=(⟨t.s6,t,64,(if p.pr=17 then 0 else fl),false,zeroT,(Bs.length:Int)⟩,0) ∧
 (p.pr=17→∀ (K:Nat) (A:Option Addr) (n c:Nat) (w:World),K≤w.heap.size→Sl w A n c pl→Calls Try.prog 25 #[.agg t.cells,.int .i64 64,.slice A n c] w (MkO K 0 Bs w)) ∧
 (p.pr=6→∀ (K:Nat) (A:Option Addr) (n c:Nat) (w:World),K≤w.heap.size→Sl w A n c pl→Calls Try.prog 28 #[.agg t.cells,.int .i64 64,.int .i64 fl,.slice A n c] w (MkO K 0 Bs w))
noncomputable def gBy (p:Pl) (t:Tp) (fl:Int) (pl:List Int):List Int:=Classical.epsilon fun Bs=>Spec p t fl pl Bs
theorem spec_ok {p:Pl} {t:Tp} (ht:FOk p t) (hp:p.right) (hin:p.In) (fl:Int) (hf:0≤fl∧fl≤255) (pl:List Int) (hl:pl.length≤500) (hu:U8 pl):Spec p t fl pl (gBy p t fl pl):=by
 refine Classical.epsilon_spec (p:=fun Bs=>Spec p t fl pl Bs) ?_
 have b3:0≤t.dh∧t.dh<18446744073709551616:=by rw [ht.dh]; exact ⟨hin.h0,hin.h1⟩
 have b4:0≤t.dl∧t.dl<18446744073709551616:=by rw [ht.dl]; exact ⟨hin.l0,hin.l1⟩
 rcases hp.2.2.1 with h6 | h17
 ·obtain ⟨Bs,h1,_,h3,h4⟩:=segm_madeO t.pr t.s6 t.sh t.sl t.d6 t.dh t.dl t.sp t.dp 64 fl pl hl hu ⟨ht.sh0,ht.sh1⟩ ⟨ht.sl0,ht.sl1⟩ b3 b4 (ht.made hp hin fl 6 hf h6)
  refine ⟨Bs,by rw [h1]; split <;> omega,?_,fun e=>absurd (h6.symm.trans e) (by decide),fun _=>h4⟩
  rw [h3,if_neg (by rw [h6]; decide)]
 ·obtain ⟨Bs,h1,_,h3,h4⟩:=dgram_madeO t.pr t.s6 t.sh t.sl t.d6 t.dh t.dl t.sp t.dp 64 0 pl hl hu ⟨ht.sh0,ht.sh1⟩ ⟨ht.sl0,ht.sl1⟩ b3 b4 (ht.made hp hin 0 17 (by omega) h17)
  refine ⟨Bs,by rw [h1]; split <;> omega,?_,fun _=>h4,fun e=>absurd (h17.symm.trans e) (by decide)⟩
  rw [h3,if_pos h17]
def gPk (p:Pl) (a:Int) (op:List Tp):Gs:=if p.pr=17 then ⟨gFlow p a,0,gAt a 2,op⟩ else gSeg p a op
theorem gPk_ok (p:Pl) (hp:p.right) (a:Int) (op:List Tp) (h:∀ t ∈ op,FOk p t) (hn:op.length≤256):FOk p (gPk p a op).t∧(∀ t ∈ (gPk p a op).op,FOk p t)∧(gPk p a op).op.length≤256∧(0≤(gPk p a op).fl∧(gPk p a op).fl≤255):=by
 unfold gPk
 split
 ·exact ⟨gFlow_ok p hp a,h,hn,(by decide:(0:Int)≤0),(by decide:(0:Int)≤255)⟩
 ·exact gSeg_ok p hp a op h hn
noncomputable def pBy (p:Pl) (G:Gs):List Int:=gBy p G.t G.fl (gPay (gAt G.a 1) (gMany p G.a))
def PackP (w:World) (g q B:Nat) (p:Pl) (v:Value) (G:Gs) (o:Ending) (w':World):Prop:=∃ A n c,o=.returned (.slice A n c)∧OwB w' w.heap.size A n c (pBy p G)∧∃ v',SM w' g q p (gAt G.a (1+gMany p G.a)) v'∧OwT w' B v' G.op∧Frg g q v w w'∧∀ x,v'.ownBlock=some x→v.ownBlock=some x∨w.heap.size≤x
theorem Frg_onq {g q:Nat} {v:Value} {w W W':World} (h:Frg g q v w W) (ho:OnQ q W W'):Frg g q v w W':=h.then ⟨ho.os,ho.tape,ho.output,ho.size,fun k hk k1 k2 k3=>ho.block k hk k2 k2 (by simp [Value.ownBlock])⟩
theorem OwT_onq {q:Nat} {B:Nat} {v:Value} {l:List Tp} {W W':World} {cs:Array Value} (h:OwT W B v l) (hq:Blk W q 66 cs) (ho:OnQ q W W'):OwT W' B v l:=h.keep fun x hx=>ho.block x (h.lt x hx).2 (OwT_ne h hq (by decide) x hx) (OwT_ne h hq (by decide) x hx) (by simp [Value.ownBlock])
theorem packet_udp {w:World} {g q B:Nat} {p:Pl} {a:Int} {v:Value} {op:List Tp} (h:SM w g q p a v) (ho:OwT w B v op) (hp:p.right) (hin:p.In) (hn:op.length≤256) (hB:B≤w.heap.size) (hk:∀ t ∈ op,FOk p t) (hm:p.mo≤400) (hpr:p.pr=17) :
  Calls Try.prog 11 #[.pointer (some ⟨g,0,none⟩)] w (PackP w g q B p v (gPk p a op)):=by
 have HM:=Lib.hid (fun V (hV:SM V g q p a v)=>made_src hV hp hin)
 obtain ⟨k1,k2,k3,k4⟩:=gPk_ok p hp a op hk hn
 have hgm:=gMany_in p (gPk p a op).a hp.1.2.2.2.2.1
 have SP:=Lib.hid (show Spec p (gPk p a op).t (gPk p a op).fl (gPay (gAt (gPk p a op).a 1) (gMany p (gPk p a op).a)) (pBy p (gPk p a op)) from spec_ok k1 hp hin _ k4 _ (by rw [gPay_len]; omega) (gPay_u8 _ _))
 have EG:=Lib.hid (show gPk p a op=⟨gFlow p a,0,gAt a 2,op⟩ from by unfold gPk; rw [if_pos hpr])
 have BY:=Lib.hid (fun V v' (hV:SM V g q p (gPk p a op).a v')=>bytes_src hV hp hm)
 have FL:=Lib.hid (fun V (hV:SM V g q p a v)=>flow_src hV hp hin)
 obtain ⟨G,hG⟩:∃ G,G=gPk p a op:=⟨_,rfl⟩
 rw [← hG] at SP EG BY ⊢
 obtain ⟨Bs,hBs⟩:∃ Bs,Bs=pBy p G:=⟨_,rfl⟩
 rw [← hBs] at SP
 have HBS:=Lib.hid hBs
 have c7:w.cell? ⟨g,7,none⟩=some (.int .i64 17):=by rw [← hpr]; exact h.src.cell 7
 have C7:=Lib.hid c7
 have HPR:=Lib.hid hpr
 have S0:=Lib.hid h
 have O0:=Lib.hid ho
 have HB:=Lib.hid hB
 clear k1 k2 k3 k4 hgm hG hBs h ho hp hin hn hB hk hm hpr c7
 go_enter Try.func11,Try.ntmps11
 go_wp2_with fail
 refine (HM.out _ S0.out).mono ?_
 rintro o w2 ⟨rfl,hb2⟩
 have S2:=Lib.hid (S0.out.below hb2)
 have O2:=Lib.hid (O0.out.below hb2)
 have F2:=Lib.hid (show Frg g q v w w2 from Frg.of_below hb2)
 have c7:w2.cell? ⟨g,7,none⟩=some (.int .i64 17):=(hb2.cell (p:=⟨g,7,none⟩) S0.out.src.lt).trans C7.out
 clear hb2
 go_wp2_with fail
 refine (FL.out _ S2.out).mono ?_
 rintro o w3 ⟨rfl,hs3,ho3⟩
 have O3:=Lib.hid (OwT_onq O2.out S2.out.gen ho3)
 have F3:=Lib.hid (Frg_onq F2.out ho3)
 have S3:=Lib.hid (show SM w3 g q p G.a v from by rw [EG.out]; exact hs3)
 have VB:=Lib.hid (show ∀ x,v.ownBlock=some x→v.ownBlock=some x∨w.heap.size≤x from fun x hx=>.inl hx)
 have OG:=Lib.hid (show OwT w3 B v G.op from by rw [EG.out]; exact O3.out)
 obtain ⟨F,hF⟩:∃ F,F=G.t:=⟨_,rfl⟩
 rw [show gFlow p a=F from by rw [hF,EG.out]]
 have SQ:=Lib.hid (SP.out.2.2.1 HPR.out)
 rw [← hF] at SQ
 clear hs3 ho3 c7 hF
 obtain ⟨fpr,fs6,fsh,fsl,fd6,fdh,fdl,fsp,fdp⟩:=F
 have SQ:=Lib.hid (show ∀ (K:Nat) (A:Option Addr) (n c:Nat) (w:World),K≤w.heap.size→Sl w A n c (gPay (gAt G.a 1) (gMany p G.a))→Calls Try.prog 25 #[.agg #[.int .i64 fpr,.bool fs6,.int .u64 fsh,.int .u64 fsl,.bool fd6,.int .u64 fdh,.int .u64 fdl,.int .i64 fsp,.int .i64 fdp],.int .i64 64,.slice A n c] w (MkO K 0 Bs w) from SQ.out)
 simp only [Tp.cells]
 go_upto_region 5 with fail
 obtain ⟨w4,hw4⟩:∃ w4,w4=w3.alloc (.cells #[.int .i64 fpr,.bool fs6,.int .u64 fsh,.int .u64 fsl,.bool fd6,.int .u64 fdh,.int .u64 fdl,.int .i64 fsp,.int .i64 fdp] 39):=⟨_,rfl⟩
 obtain ⟨z,hz⟩:∃ z,z=w3.heap.size:=⟨_,rfl⟩
 rw [← hw4,← hz]
 have D4:=(show Below w3.heap.size w3 w4 from by rw [hw4]; exact al_below _ _)
 have D4d:=D4.drew
 have Z4:=Lib.hid (show Blk w4.drew z 39 #[.int .i64 fpr,.bool fs6,.int .u64 fsh,.int .u64 fsl,.bool fd6,.int .u64 fdh,.int .u64 fdl,.int .i64 fsp,.int .i64 fdp] from by rw [hw4,hz]; exact (Blk.new w3 _ _).below (dr_below _) (Blk.new w3 _ _).lt)
 have S4:=Lib.hid (S3.out.below D4d)
 have O4:=Lib.hid (OG.out.below D4d)
 have F4:=Lib.hid (F3.out.then (Frg.of_below D4d))
 have NZ:=Lib.hid (blk_ne Z4.out S4.out.gen (by decide))
 have HSS:=Lib.hid (show ∀ W,Blk W z 39 #[.int .i64 fpr,.bool fs6,.int .u64 fsh,.int .u64 fsl,.bool fd6,.int .u64 fdh,.int .u64 fdl,.int .i64 fsp,.int .i64 fdp]→World.cell? W ⟨z,0,none⟩=some (.int .i64 fpr)∧World.cell? W ⟨z,1,none⟩=some (.bool fs6)∧World.cell? W ⟨z,2,none⟩=some (.int .u64 fsh)∧World.cell? W ⟨z,3,none⟩=some (.int .u64 fsl)∧World.cell? W ⟨z,4,none⟩=some (.bool fd6)∧World.cell? W ⟨z,5,none⟩=some (.int .u64 fdh)∧World.cell? W ⟨z,6,none⟩=some (.int .u64 fdl)∧World.cell? W ⟨z,7,none⟩=some (.int .i64 fsp)∧World.cell? W ⟨z,8,none⟩=some (.int .i64 fdp) from fun W h1=>⟨h1.cell 0,h1.cell 1,h1.cell 2,h1.cell 3,h1.cell 4,h1.cell 5,h1.cell 6,h1.cell 7,h1.cell 8⟩)
 have sA:=Lib.hid (HSS.out _ Z4.out)
 clear hw4 hz D4 D4d
 go_region_held3 (fun W=>World.cell? W ⟨z,0,none⟩=some (.int .i64 fpr)∧World.cell? W ⟨z,1,none⟩=some (.bool fs6)∧World.cell? W ⟨z,2,none⟩=some (.int .u64 fsh)∧World.cell? W ⟨z,3,none⟩=some (.int .u64 fsl)∧World.cell? W ⟨z,4,none⟩=some (.bool fd6)∧World.cell? W ⟨z,5,none⟩=some (.int .u64 fdh)∧World.cell? W ⟨z,6,none⟩=some (.int .u64 fdl)∧World.cell? W ⟨z,7,none⟩=some (.int .i64 fsp)∧World.cell? W ⟨z,8,none⟩=some (.int .i64 fdp)) (first | with_reducible exact sA.out | with_reducible exact sB.out | with_reducible exact sC.out)
  (first | (go_at_call 26
            (with_reducible refine (BY.out _ v S4.out).mono ?_)
            rintro o w5 ⟨A5,n5,c5,rfl,hb5,hs5,ho5⟩
            have S5:=Lib.hid hs5
            have Z5:=Lib.hid (ho5.blk Z4.out NZ.out)
            have F5:=Lib.hid (Frg_onq F4.out ho5)
            have O5:=Lib.hid (OwT_onq O4.out S4.out.gen ho5)
            have L5:=Lib.hid hb5.sl
            have sB:=Lib.hid (HSS.out _ Z5.out)
            clear hb5 hs5 ho5)
         | (go_at_call 25
            (with_reducible refine (SQ.out w.heap.size _ _ _ _ F5.out.size L5.out).mono ?_)
            rintro o w6 ⟨hb6,A6,n6,c6,rfl,how⟩
            have S6:=Lib.hid (S5.out.below hb6)
            have F6:=Lib.hid (F5.out.then (Frg.of_below hb6))
            have O6:=Lib.hid (O5.out.below hb6)
            have W6:=Lib.hid how
            have sC:=Lib.hid (HSS.out _ (Z5.out.below hb6 Z5.out.lt))
            clear hb6 how))
 go_wp2_with fail
 go_ret
 exact ⟨_,_,_,rfl,by rw [← HBS.out]; exact W6.out,v,S6.out,O6.out,F6.out,VB.out⟩
theorem packet_tcp {w:World} {g q B:Nat} {p:Pl} {a:Int} {v:Value} {op:List Tp} (h:SM w g q p a v) (ho:OwT w B v op) (hp:p.right) (hin:p.In) (hn:op.length≤256) (hB:B≤w.heap.size) (hk:∀ t ∈ op,FOk p t) (hm:p.mo≤400) (hpr:p.pr=6) :
  Calls Try.prog 11 #[.pointer (some ⟨g,0,none⟩)] w (PackP w g q B p v (gPk p a op)):=by
 have HM:=Lib.hid (fun V (hV:SM V g q p a v)=>made_src hV hp hin)
 obtain ⟨k1,k2,k3,k4⟩:=gPk_ok p hp a op hk hn
 have hgm:=gMany_in p (gPk p a op).a hp.1.2.2.2.2.1
 have SP:=Lib.hid (show Spec p (gPk p a op).t (gPk p a op).fl (gPay (gAt (gPk p a op).a 1) (gMany p (gPk p a op).a)) (pBy p (gPk p a op)) from spec_ok k1 hp hin _ k4 _ (by rw [gPay_len]; omega) (gPay_u8 _ _))
 have EG:=Lib.hid (show gPk p a op=gSeg p a op from by unfold gPk; rw [if_neg (by rw [hpr]; decide)])
 have BY:=Lib.hid (fun V v' (hV:SM V g q p (gPk p a op).a v')=>bytes_src hV hp hm)
 have SG:=Lib.hid (fun V (hW:w.heap.size≤V.heap.size) (hV:SM V g q p a v) (hO:OwT V B v op)=>seg_any hV hO hp hin hn (by omega))
 obtain ⟨G,hG⟩:∃ G,G=gPk p a op:=⟨_,rfl⟩
 rw [← hG] at SP EG BY ⊢
 obtain ⟨Bs,hBs⟩:∃ Bs,Bs=pBy p G:=⟨_,rfl⟩
 rw [← hBs] at SP
 have HBS:=Lib.hid hBs
 have c7:w.cell? ⟨g,7,none⟩=some (.int .i64 6):=by rw [← hpr]; exact h.src.cell 7
 have C7:=Lib.hid c7
 have HPR:=Lib.hid hpr
 have S0:=Lib.hid h
 have O0:=Lib.hid ho
 have HB:=Lib.hid hB
 clear k1 k2 k3 k4 hgm hG hBs h ho hp hin hn hB hk hm hpr c7
 go_enter Try.func11,Try.ntmps11
 go_wp2_with fail
 refine (HM.out _ S0.out).mono ?_
 rintro o w2 ⟨rfl,hb2⟩
 have S2:=Lib.hid (S0.out.below hb2)
 have O2:=Lib.hid (O0.out.below hb2)
 have F2:=Lib.hid (show Frg g q v w w2 from Frg.of_below hb2)
 have c7:w2.cell? ⟨g,7,none⟩=some (.int .i64 6):=(hb2.cell (p:=⟨g,7,none⟩) S0.out.src.lt).trans C7.out
 clear hb2
 go_wp2_with fail
 refine (SG.out _ F2.out.size S2.out O2.out).mono ?_
 rintro o w3 ⟨rfl,v3,hs3,ho3,hf3,hv3⟩
 have S3:=Lib.hid (show SM w3 g q p G.a v3 from by rw [EG.out]; exact hs3)
 have F3:=Lib.hid (show Frg g q v w w3 from F2.out.then hf3)
 have VB:=Lib.hid (show ∀ x,v3.ownBlock=some x→v.ownBlock=some x∨w.heap.size≤x from fun x hx=>(hv3 x hx).imp_right fun e=>Nat.le_trans F2.out.size e)
 have OG:=Lib.hid (show OwT w3 B v3 G.op from by rw [EG.out]; exact ho3)
 obtain ⟨F,hF⟩:∃ F,F=G.t:=⟨_,rfl⟩
 obtain ⟨fl,hfl⟩:∃ fl,fl=G.fl:=⟨_,rfl⟩
 rw [show (gSeg p a op).t=F from by rw [hF,EG.out],show (gSeg p a op).fl=fl from by rw [hfl,EG.out]]
 have SQ:=Lib.hid (SP.out.2.2.2 HPR.out)
 rw [← hF,← hfl] at SQ
 clear hs3 ho3 hf3 hv3 c7 hF hfl
 obtain ⟨fpr,fs6,fsh,fsl,fd6,fdh,fdl,fsp,fdp⟩:=F
 have SQ:=Lib.hid (show ∀ (K:Nat) (A:Option Addr) (n c:Nat) (w:World),K≤w.heap.size→Sl w A n c (gPay (gAt G.a 1) (gMany p G.a))→Calls Try.prog 28 #[.agg #[.int .i64 fpr,.bool fs6,.int .u64 fsh,.int .u64 fsl,.bool fd6,.int .u64 fdh,.int .u64 fdl,.int .i64 fsp,.int .i64 fdp],.int .i64 64,.int .i64 fl,.slice A n c] w (MkO K 0 Bs w) from SQ.out)
 simp only [Tp.cells]
 go_upto_region 8 with fail
 obtain ⟨w4,hw4⟩:∃ w4,w4=w3.alloc (.cells #[.int .i64 fpr,.bool fs6,.int .u64 fsh,.int .u64 fsl,.bool fd6,.int .u64 fdh,.int .u64 fdl,.int .i64 fsp,.int .i64 fdp] 39):=⟨_,rfl⟩
 obtain ⟨z,hz⟩:∃ z,z=w3.heap.size:=⟨_,rfl⟩
 rw [← hw4,← hz]
 have D4:=(show Below w3.heap.size w3 w4 from by rw [hw4]; exact al_below _ _)
 have D4d:=D4.drew
 have Z4:=Lib.hid (show Blk w4.drew z 39 #[.int .i64 fpr,.bool fs6,.int .u64 fsh,.int .u64 fsl,.bool fd6,.int .u64 fdh,.int .u64 fdl,.int .i64 fsp,.int .i64 fdp] from by rw [hw4,hz]; exact (Blk.new w3 _ _).below (dr_below _) (Blk.new w3 _ _).lt)
 have S4:=Lib.hid (S3.out.below D4d)
 have O4:=Lib.hid (OG.out.below D4d)
 have F4:=Lib.hid (F3.out.then (Frg.of_below D4d))
 have NZ:=Lib.hid (blk_ne Z4.out S4.out.gen (by decide))
 have HSS:=Lib.hid (show ∀ W,Blk W z 39 #[.int .i64 fpr,.bool fs6,.int .u64 fsh,.int .u64 fsl,.bool fd6,.int .u64 fdh,.int .u64 fdl,.int .i64 fsp,.int .i64 fdp]→World.cell? W ⟨z,0,none⟩=some (.int .i64 fpr)∧World.cell? W ⟨z,1,none⟩=some (.bool fs6)∧World.cell? W ⟨z,2,none⟩=some (.int .u64 fsh)∧World.cell? W ⟨z,3,none⟩=some (.int .u64 fsl)∧World.cell? W ⟨z,4,none⟩=some (.bool fd6)∧World.cell? W ⟨z,5,none⟩=some (.int .u64 fdh)∧World.cell? W ⟨z,6,none⟩=some (.int .u64 fdl)∧World.cell? W ⟨z,7,none⟩=some (.int .i64 fsp)∧World.cell? W ⟨z,8,none⟩=some (.int .i64 fdp) from fun W h1=>⟨h1.cell 0,h1.cell 1,h1.cell 2,h1.cell 3,h1.cell 4,h1.cell 5,h1.cell 6,h1.cell 7,h1.cell 8⟩)
 have sA:=Lib.hid (HSS.out _ Z4.out)
 clear hw4 hz D4 D4d
 go_region_held3 (fun W=>World.cell? W ⟨z,0,none⟩=some (.int .i64 fpr)∧World.cell? W ⟨z,1,none⟩=some (.bool fs6)∧World.cell? W ⟨z,2,none⟩=some (.int .u64 fsh)∧World.cell? W ⟨z,3,none⟩=some (.int .u64 fsl)∧World.cell? W ⟨z,4,none⟩=some (.bool fd6)∧World.cell? W ⟨z,5,none⟩=some (.int .u64 fdh)∧World.cell? W ⟨z,6,none⟩=some (.int .u64 fdl)∧World.cell? W ⟨z,7,none⟩=some (.int .i64 fsp)∧World.cell? W ⟨z,8,none⟩=some (.int .i64 fdp)) (first | with_reducible exact sA.out | with_reducible exact sB.out | with_reducible exact sC.out)
  (first | (go_at_call 26
            (with_reducible refine (BY.out _ v3 S4.out).mono ?_)
            rintro o w5 ⟨A5,n5,c5,rfl,hb5,hs5,ho5⟩
            have S5:=Lib.hid hs5
            have Z5:=Lib.hid (ho5.blk Z4.out NZ.out)
            have F5:=Lib.hid (Frg_onq F4.out ho5)
            have O5:=Lib.hid (OwT_onq O4.out S4.out.gen ho5)
            have L5:=Lib.hid hb5.sl
            have sB:=Lib.hid (HSS.out _ Z5.out)
            clear hb5 hs5 ho5)
         | (go_at_call 28
            (with_reducible refine (SQ.out w.heap.size _ _ _ _ F5.out.size L5.out).mono ?_)
            rintro o w6 ⟨hb6,A6,n6,c6,rfl,how⟩
            have S6:=Lib.hid (S5.out.below hb6)
            have F6:=Lib.hid (F5.out.then (Frg.of_below hb6))
            have O6:=Lib.hid (O5.out.below hb6)
            have W6:=Lib.hid how
            have sC:=Lib.hid (HSS.out _ (Z5.out.below hb6 Z5.out.lt))
            clear hb6 how))
 go_wp2_with fail
 go_ret
 exact ⟨_,_,_,rfl,by rw [← HBS.out]; exact W6.out,v3,S6.out,O6.out,F6.out,VB.out⟩
end Go.Proofs.Ytnofddbfogilaaa.genI
/- Layer 35: the law's numbers, and flows. -/
namespace Go.Proofs.Ytnofddbfogilaaa.genJ
set_option maxHeartbeats 8000000
set_option maxRecDepth 100000
open Go.ChangeShapes Go.WideShapes Go.ChangeAt Go.RowKit
open base mixA mixB rdrG pktA pktC pktD genW genA genB genC genE genG
set_option linter.unusedVariables false
set_option linter.unusedSimpArgs false
def lawC (p:Pl) (a:Int) (v:Value):Array Value:=#[.int .u64 p.key,.int .i64 p.cl,.int .i64 p.po,.bool p.v6,.int .u64 p.hi,.int .u64 p.lo,.int .i64 p.pr,.int .i64 p.dp,.int .i64 p.co,.bool p.nt,.int .i64 p.mo,.int .u64 a,v]
def LM (w:World) (x:Nat) (p:Pl) (a:Int) (v:Value):Prop:=Blk w x 37 (lawC p a v)
theorem LM.step {w:World} {x:Nat} {p:Pl} {a:Int} {v:Value} (h:LM w x p a v) (b:Int):LM (w.setCell ⟨x,11,none⟩ (.int .u64 b)) x p b v:=by
 have h9:=Blk.set_ h 11 (.int .u64 b)
 exact h9
theorem lnext {w:World} {x:Nat} {p:Pl} {a:Int} {v:Value} (h:LM w x p a v) :
  Calls Try.prog 24 #[.pointer (some ⟨x,0,none⟩)] w fun o w'=>o=.returned (.int .u64 (gNum a 0))∧LM w' x p (gAdv a) v∧OnlyG x w w':=by
 have c11:w.cell? ⟨x,11,none⟩=some (.int .u64 a):=Blk.cell h 11
 have f11:w.frozen? ⟨x,11,none⟩=false:=Blk.frozen h 11
 have HS:=Lib.hid (h.step (gAdv a))
 have HO:=Lib.hid ((OnlyG.refl x w).set 11 (.int .u64 (gAdv a)))
 have HN:=Lib.hid (fun V=>refone_any (gAdv a) V)
 obtain ⟨b,hb⟩:∃ b,b=gAdv a:=⟨_,rfl⟩
 have hw:IntKind.u64.wrap (a+11400714819323198485)=b:=by rw [hb]; rfl
 have EB:=Lib.hid (show gNum a 0=oneZ b from by rw [hb]; rfl)
 rw [← hb] at HS HO HN ⊢
 rw [EB.out]
 clear hb h EB
 go_enter Try.func24,Try.ntmps24
 go_wp2_with fail
 refine (HN.out _).mono ?_
 rintro o w' ⟨rfl,rfl⟩
 go_wp2_with fail
 go_ret
 exact ⟨rfl,HS.out,HO.out⟩
theorem lflow {w:World} {x:Nat} {p:Pl} {a:Int} {v:Value} (h:LM w x p a v) (hp:p.right) :
  Calls Try.prog 9 #[.pointer (some ⟨x,0,none⟩)] w fun o w'=>o=.returned (.agg (gFlow p a).cells)∧LM w' x p (gAt a 2) v∧OnQ x w w':=by
 have b1:=below_in a 0 p.cl hp.1.1
 have b2:=below_in a 1 p.po hp.1.2.2.1
 have i1:=gNum_in a 0
 have i2:=gNum_in a 1
 have EF:=Lib.hid (show gFlow p a=⟨p.pr,p.v6,if p.v6=true then 2306139568115548160 else 0,if p.v6=true then below (gNum a 0) p.cl+1 else 167772161+below (gNum a 0) p.cl,p.v6,p.hi,p.lo,32768+below (gNum a 1) p.po,p.dp⟩ from rfl)
 obtain ⟨F,hF⟩:∃ F,F=gFlow p a:=⟨_,rfl⟩
 rw [← hF] at EF ⊢
 clear hF
 have NX1:=Lib.hid (fun W (hW:LM W x p a v)=>lnext hW)
 have NX2:=Lib.hid (show ∀ W,LM W x p (gAt a 1) v→Calls Try.prog 24 #[.pointer (some ⟨x,0,none⟩)] W fun o w'=>o=.returned (.int .u64 (gNum a 1))∧LM w' x p (gAt a 2) v∧OnlyG x W w' from fun W hW=>by
  have h9:=lnext hW
  rw [show gNum (gAt a 1) 0=gNum a 1 from gNum_add a 1 0] at h9
  exact h9)
 have BE1:=Lib.hid (fun V=>refbelow_any (gNum a 0) p.cl i1.1 i1.2 (by have:=hp.1; omega) (by have:=hp.1; omega) V)
 have BE2:=Lib.hid (fun V=>refbelow_any (gNum a 1) p.po i2.1 i2.2 (by have:=hp.1; omega) (by have:=hp.1; omega) V)
 have HCL:=Lib.hid (show 1≤p.cl∧p.cl≤65536 from ⟨hp.1.1,hp.1.2.1⟩)
 have HPO:=Lib.hid (show 1≤p.po∧p.po≤32768 from ⟨hp.1.2.2.1,hp.1.2.2.2.1⟩)
 obtain ⟨m1,hm1⟩:∃ n,n=gNum a 0:=⟨_,rfl⟩
 obtain ⟨m2,hm2⟩:∃ n,n=gNum a 1:=⟨_,rfl⟩
 rw [← hm1] at NX1 BE1 b1 EF
 rw [← hm2] at NX2 BE2 b2 EF
 obtain ⟨n1,hn1⟩:∃ n,n=below m1 p.cl:=⟨_,rfl⟩
 obtain ⟨n2,hn2⟩:∃ n,n=below m2 p.po:=⟨_,rfl⟩
 rw [← hn1] at BE1 b1 EF
 rw [← hn2] at BE2 b2 EF
 have N1:=Lib.hid b1
 have N2:=Lib.hid b2
 obtain ⟨key,cl,po,v6,hh,lo,pr,dp,co,nt,mo⟩:=p
 obtain ⟨n3,hn3⟩:∃ n,n=32768+n2:=⟨_,rfl⟩
 have u3:IntKind.i64.wrap (32768+n2)=n3:=by rw [hn3]; exact IntWalk.i64_in _ (by have:=N2.out; have:=HPO.out; omega)
 obtain ⟨c4,hc4⟩:∃ n,n=167772161+n1:=⟨_,rfl⟩
 obtain ⟨c6,hc6⟩:∃ n,n=n1+1:=⟨_,rfl⟩
 have u0:IntKind.u64.wrap n1=n1:=by have:=N1.out; have:=HCL.out; rw [IntKind.wrap_u64]; omega
 have u4:IntKind.u64.wrap (167772161+n1)=c4:=by have:=N1.out; have:=HCL.out; rw [IntKind.wrap_u64]; omega
 have u6:IntKind.u64.wrap (n1+1)=c6:=by have:=N1.out; have:=HCL.out; rw [IntKind.wrap_u64]; omega
 obtain ⟨ch,hch⟩:∃ x:Int,x=if v6=true then 2306139568115548160 else 0:=⟨_,rfl⟩
 obtain ⟨cw,hcw⟩:∃ x:Int,x=if v6=true then c6 else c4:=⟨_,rfl⟩
 have EF2:=Lib.hid (show F=⟨pr,v6,ch,cw,v6,hh,lo,n3,dp⟩ from by rw [EF.out,hch,hcw,hn3,hc4,hc6])
 have ECH:=Lib.hid hch
 have ECW:=Lib.hid hcw
 have L0:=Lib.hid h
 have L1:=Lib.hid (show LM (w.alloc (.cells #[.int .i64 0,.bool false,.int .u64 0,.int .u64 0,.bool false,.int .u64 0,.int .u64 0,.int .i64 0,.int .i64 0] 39)) x ⟨key,cl,po,v6,hh,lo,pr,dp,co,nt,mo⟩ a v from Blk.below h (al_below _ _) h.lt)
 have R1:=Lib.hid (Blk.new w 39 #[.int .i64 0,.bool false,.int .u64 0,.int .u64 0,.bool false,.int .u64 0,.int .u64 0,.int .i64 0,.int .i64 0])
 have Q1:=Lib.hid (show OnQ x w (w.alloc (.cells #[.int .i64 0,.bool false,.int .u64 0,.int .u64 0,.bool false,.int .u64 0,.int .u64 0,.int .i64 0,.int .i64 0] 39)) from OnQ.of_below (al_below _ _))
 clear b1 b2 i1 i2 hp h hm1 hm2 hn1 hn2 hn3 hc4 hc6 hch hcw EF
 go_enter Try.func9,Try.ntmps9
 go_upto_region 1 with fail
 obtain ⟨w1,hw1⟩:∃ w1,w1=w.alloc (.cells #[.int .i64 0,.bool false,.int .u64 0,.int .u64 0,.bool false,.int .u64 0,.int .u64 0,.int .i64 0,.int .i64 0] 39):=⟨_,rfl⟩
 obtain ⟨r,hr⟩:∃ r,r=w.heap.size:=⟨_,rfl⟩
 rw [← hw1] at L1 R1 Q1 ⊢
 rw [← hr] at R1 ⊢
 have RW:=Lib.hid (show w.heap.size≤r by omega)
 clear hw1 hr
 have NR:=Lib.hid (blk_ne R1.out L1.out (by decide))
 have HS1:=Lib.hid (show ∀ W y,LM W x ⟨key,cl,po,v6,hh,lo,pr,dp,co,nt,mo⟩ y v→World.cell? W ⟨x,1,none⟩=some (.int .i64 cl) from fun W y hW=>Blk.cell hW 1)
 have L1d:=Lib.hid (show LM w1.drew x ⟨key,cl,po,v6,hh,lo,pr,dp,co,nt,mo⟩ a v from Blk.below L1.out (dr_below _) L1.out.lt)
 have R1d:=Lib.hid (R1.out.below (dr_below _) R1.out.lt)
 have sA:=Lib.hid (HS1.out _ _ L1d.out)
 go_region_held3 (fun W=>World.cell? W ⟨x,1,none⟩=some (.int .i64 cl)) (first | with_reducible exact sA.out | with_reducible exact sB.out)
  (first | (go_at_call 24
            (with_reducible refine (NX1.out _ L1d.out).mono ?_)
            rintro o w2 ⟨rfl,hs2,ho2⟩
            have L2:=Lib.hid hs2
            have R2:=Lib.hid (ho2.blk R1d.out NR.out)
            have Q2:=Lib.hid (Q1.out.then ((OnQ.of_below (dr_below _)).then (OnQ.of_only ho2)))
            have sB:=Lib.hid (HS1.out _ _ hs2)
            clear hs2 ho2)
         | (go_at_call 23
            (with_reducible refine (BE1.out _).mono ?_)
            rintro o w3 ⟨rfl,rfl⟩))
 go_upto_region 2 with fail
 have HS2:=Lib.hid (show ∀ W y,LM W x ⟨key,cl,po,v6,hh,lo,pr,dp,co,nt,mo⟩ y v→World.cell? W ⟨x,2,none⟩=some (.int .i64 po) from fun W y hW=>Blk.cell hW 2)
 have L2d:=Lib.hid (show LM w2.drew x ⟨key,cl,po,v6,hh,lo,pr,dp,co,nt,mo⟩ (gAt a 1) v from Blk.below L2.out (dr_below _) L2.out.lt)
 have R2d:=Lib.hid (R2.out.below (dr_below _) R2.out.lt)
 have tA:=Lib.hid (HS2.out _ _ L2d.out)
 go_region_held3 (fun W=>World.cell? W ⟨x,2,none⟩=some (.int .i64 po)) (first | with_reducible exact tA.out | with_reducible exact tB.out)
  (first | (go_at_call 24
            (with_reducible refine (NX2.out _ L2d.out).mono ?_)
            rintro o w4 ⟨rfl,hs4,ho4⟩
            have L4:=Lib.hid hs4
            have R4:=Lib.hid (ho4.blk R2d.out NR.out)
            have Q4:=Lib.hid (Q2.out.then ((OnQ.of_below (dr_below _)).then (OnQ.of_only ho4)))
            have tB:=Lib.hid (HS2.out _ _ hs4)
            clear hs4 ho4)
         | (go_at_call 23
            (with_reducible refine (BE2.out _).mono ?_)
            rintro o w5 ⟨rfl,rfl⟩))
 go_upto_region 4 with fail
 obtain ⟨w6,hw6⟩:∃ w6,w6=w4.alloc (.cells #[.bool false,.int .u64 0,.int .u64 c4] 24):=⟨_,rfl⟩
 obtain ⟨b,hb⟩:∃ b,b=w4.heap.size:=⟨_,rfl⟩
 rw [← hw6,← hb]
 have D6:=(show Below w4.heap.size w4 w6 from by rw [hw6]; exact al_below _ _)
 have K6:=Lib.hid (show Blk w6 b 24 #[.bool false,.int .u64 0,.int .u64 c4] from by rw [hw6,hb]; exact Blk.new w4 _ _)
 have L6:=Lib.hid (show LM w6 x ⟨key,cl,po,v6,hh,lo,pr,dp,co,nt,mo⟩ (gAt a 2) v from Blk.below L4.out D6 L4.out.lt)
 have R6:=Lib.hid (R4.out.below D6 R4.out.lt)
 have Q6:=Lib.hid (Q4.out.then (OnQ.of_below D6))
 have BW:=Lib.hid (show w.heap.size≤b from by rw [hb]; exact Q4.out.size)
 clear hw6 hb D6
 have c3:w6.cell? ⟨x,3,none⟩=some (.bool v6):=Blk.cell L6.out 3
 go_upto_if 33 with fail
 go_cut [] (fun wx=>Hid (LM wx x ⟨key,cl,po,v6,hh,lo,pr,dp,co,nt,mo⟩ (gAt a 2) v)∧Hid (Blk wx b 24 #[.bool v6,.int .u64 ch,.int .u64 cw])∧Hid (Blk wx r 39 #[.int .i64 0,.bool false,.int .u64 0,.int .u64 0,.bool false,.int .u64 0,.int .u64 0,.int .i64 0,.int .i64 0])∧Hid (OnQ x w wx))
 case first =>
  cases v6 with
  | false =>
    go_wp2_with fail
    go_meet
    refine ⟨L6,Lib.hid ?_,R6,Q6⟩
    rw [ECH.out,ECW.out]
    exact K6.out
  | true =>
    have y0:=K6.out.cell 0
    have y1:=K6.out.cell 1
    have y2:=K6.out.cell 2
    have f0:=K6.out.frozen 0
    have f1:=K6.out.frozen 1
    have f2:=K6.out.frozen 2
    go_wp2_with fail
    go_meet
    have h1:=K6.out.set_ 0 (.bool true)
    have h2:=h1.set_ 1 (.int .u64 2306139568115548160)
    have h3:=h2.set_ 2 (.int .u64 c6)
    have ho:OnlyG b w6 (((w6.setCell ⟨b,0,none⟩ (.bool true)).setCell ⟨b,1,none⟩ (.int .u64 2306139568115548160)).setCell ⟨b,2,none⟩ (.int .u64 c6)):=(((OnlyG.refl b w6).set 0 _).set 1 _).set 2 _
    refine ⟨Lib.hid (ho.blk L6.out (blk_ne L6.out K6.out (by decide))),Lib.hid ?_,Lib.hid (ho.blk R6.out (blk_ne R6.out K6.out (by decide))),Lib.hid (Q6.out.put ho BW.out)⟩
    rw [ECH.out,ECW.out]
    exact h3
 case rest =>
 obtain ⟨L7,K7,R7,Q7⟩:=hcut
 clear c3
 have HS6:=Lib.hid (show ∀ W y,LM W x ⟨key,cl,po,v6,hh,lo,pr,dp,co,nt,mo⟩ y v→Blk W b 24 #[.bool v6,.int .u64 ch,.int .u64 cw]→World.cell? W ⟨x,3,none⟩=some (.bool v6)∧World.cell? W ⟨x,4,none⟩=some (.int .u64 hh)∧World.cell? W ⟨x,5,none⟩=some (.int .u64 lo)∧World.cell? W ⟨x,6,none⟩=some (.int .i64 pr)∧World.cell? W ⟨x,7,none⟩=some (.int .i64 dp)∧World.cell? W ⟨b,0,none⟩=some (.bool v6)∧World.cell? W ⟨b,1,none⟩=some (.int .u64 ch)∧World.cell? W ⟨b,2,none⟩=some (.int .u64 cw) from fun W y hW h2=>⟨Blk.cell hW 3,Blk.cell hW 4,Blk.cell hW 5,Blk.cell hW 6,Blk.cell hW 7,h2.cell 0,h2.cell 1,h2.cell 2⟩)
 have L7d:=Lib.hid (show LM wc.drew x ⟨key,cl,po,v6,hh,lo,pr,dp,co,nt,mo⟩ (gAt a 2) v from Blk.below L7.out (dr_below _) L7.out.lt)
 have K7d:=Lib.hid (K7.out.below (dr_below _) K7.out.lt)
 have R7d:=Lib.hid (R7.out.below (dr_below _) R7.out.lt)
 have TP:=Lib.hid (tput wc r (.int .i64 pr) (.bool v6) (.int .u64 ch) (.int .u64 cw) (.bool v6) (.int .u64 hh) (.int .u64 lo) (.int .i64 n3) (.int .i64 dp) R7.out)
 have sG:=Lib.hid (HS6.out _ _ L7d.out K7d.out)
 have L8:=Lib.hid ((TP.out.2.blk L7.out (blk_ne L7.out R7.out (by decide))).below (dr_below _) (TP.out.2.blk L7.out (blk_ne L7.out R7.out (by decide))).lt)
 have K8:=(TP.out.2.blk K7.out (blk_ne K7.out R7.out (by decide)))
 have sI:=Lib.hid (HS6.out _ _ L8.out (K8.below (dr_below _) K8.lt))
 have P8:=Lib.hid (TP.out.1.below (dr_below _) TP.out.1.lt)
 clear K8
 have y0:=R7.out.cell 0
 have f0:=R7.out.frozen 0
 have yd0:=R7d.out.cell 0
 have fd0:=R7d.out.frozen 0
 have y1:=R7.out.cell 1
 have f1:=R7.out.frozen 1
 have yd1:=R7d.out.cell 1
 have fd1:=R7d.out.frozen 1
 have y2:=R7.out.cell 2
 have f2:=R7.out.frozen 2
 have yd2:=R7d.out.cell 2
 have fd2:=R7d.out.frozen 2
 have y3:=R7.out.cell 3
 have f3:=R7.out.frozen 3
 have yd3:=R7d.out.cell 3
 have fd3:=R7d.out.frozen 3
 have y4:=R7.out.cell 4
 have f4:=R7.out.frozen 4
 have yd4:=R7d.out.cell 4
 have fd4:=R7d.out.frozen 4
 have y5:=R7.out.cell 5
 have f5:=R7.out.frozen 5
 have yd5:=R7d.out.cell 5
 have fd5:=R7d.out.frozen 5
 have y6:=R7.out.cell 6
 have f6:=R7.out.frozen 6
 have yd6:=R7d.out.cell 6
 have fd6:=R7d.out.frozen 6
 have y7:=R7.out.cell 7
 have f7:=R7.out.frozen 7
 have yd7:=R7d.out.cell 7
 have fd7:=R7d.out.frozen 7
 have y8:=R7.out.cell 8
 have f8:=R7.out.frozen 8
 have yd8:=R7d.out.cell 8
 have fd8:=R7d.out.frozen 8
 go_upto_region 6 with fail
 go_region_held3 (fun W=>World.cell? W ⟨x,3,none⟩=some (.bool v6)∧World.cell? W ⟨x,4,none⟩=some (.int .u64 hh)∧World.cell? W ⟨x,5,none⟩=some (.int .u64 lo)∧World.cell? W ⟨x,6,none⟩=some (.int .i64 pr)∧World.cell? W ⟨x,7,none⟩=some (.int .i64 dp)∧World.cell? W ⟨b,0,none⟩=some (.bool v6)∧World.cell? W ⟨b,1,none⟩=some (.int .u64 ch)∧World.cell? W ⟨b,2,none⟩=some (.int .u64 cw)) (first | with_reducible exact sG.out | with_reducible exact sI.out) (fail)
 go_wp2_with fail
 refine bodyPost_ret (v:=.agg #[.int .i64 pr,.bool v6,.int .u64 ch,.int .u64 cw,.bool v6,.int .u64 hh,.int .u64 lo,.int .i64 n3,.int .i64 dp]) (results_cell_row rfl _ _ r 39 #[.int .i64 pr,.bool v6,.int .u64 ch,.int .u64 cw,.bool v6,.int .u64 hh,.int .u64 lo,.int .i64 n3,.int .i64 dp] (0,0) _ rfl P8.out Try.underlying39 rfl (by kernel_rfl)) rfl ?_
 exact ⟨by rw [EF2.out]; rfl,L8.out,(Q7.out.put TP.out.2 RW.out).then (OnQ.of_below (dr_below _))⟩
end Go.Proofs.Ytnofddbfogilaaa.genJ
namespace Go.Proofs.Ytnofddbfogilaaa.pktH
end Go.Proofs.Ytnofddbfogilaaa.pktH
/- Layer 13: the law's outer. -/
namespace Go.Proofs.Ytnofddbfogilaaa.pktI
open Go.ChangeShapes Go.WideShapes Go.ChangeAt Go.RowKit
open base rdrA rdrG sixW sixM pktA pktB pktD
set_option linter.unusedVariables false
theorem _root_.Go.Proofs.Ytnofddbfogilaaa.pktA.Sl.keep {w w':World} {A:Option Addr} {n c g:Nat} {l:List Int} {t:TypeId} {cs:Array Value} (h:Sl w A n c l) (hk:Blk w g t cs) (hc:∀ (i:Nat) (x:Int),cs[i]?≠some (.int .u8 x)) (ho:OnlyG g w w'):Sl w' A n c l:=by
 cases l with
 | nil=>exact ⟨h.len,.inl rfl,h.nc,h.mx,h.nil,h.u8⟩
 | cons x l =>
   refine h.set_ (fun ad hA e=>?_) ho
   rcases h.row with h0 | ⟨b,off,hB,hb,hx⟩
   ·cases h0
   ·rw [hA] at hB
    injection hB with hB
    subst hB
    have h1:=hx 0 (.int .u8 x) rfl
    have e:b=g:=e
    subst e
    rw [hk.cell] at h1
    exact hc _ _ h1
end Go.Proofs.Ytnofddbfogilaaa.pktI
namespace Go.Proofs.Ytnofddbfogilaaa.pktJ
end Go.Proofs.Ytnofddbfogilaaa.pktJ
/- Layer 28: flags, states. -/
namespace Go.Proofs.Ytnofddbfogilaaa.connA
open Go.ChangeShapes Go.WideShapes Go.ChangeAt Go.RowKit
open base
set_option linter.unusedVariables false
def hasB (f m:Int):Bool:=bits .and .i64 f m == m
theorem has_any (a b c d f g h:Int) (A:Option Addr) (n cp:Nat) (m:Int) (w:World) :
  Calls Try.prog 51 #[.agg #[.int .i64 a,.int .i64 b,.int .u32 c,.int .u32 d,.int .i64 f,.int .i64 g,.int .i64 h,.slice A n cp],.int .i64 m] w fun e w'=>e=.returned (.bool (hasB f m))∧Below w.heap.size w w':=by
 go_enter Try.func51,Try.ntmps51
 go_wp2
 go_ret
 exact ⟨rfl,(Below.refl _ _).alloc (Nat.le_refl _) _⟩
theorem bcell {W w1:World} (hb:Below W.heap.size W w1):(∀ b o,b<W.heap.size→w1.cell? ⟨b,o,none⟩=W.cell? ⟨b,o,none⟩)∧(∀ b o,b<W.heap.size→w1.frozen? ⟨b,o,none⟩=W.frozen? ⟨b,o,none⟩) :=
 ⟨fun b o h=>hb.cell (p:=⟨b,o,none⟩) h,fun b o h=>hb.frozen (p:=⟨b,o,none⟩) h⟩
end Go.Proofs.Ytnofddbfogilaaa.connA
namespace Go.Proofs.Ytnofddbfogilaaa.tcpA
end Go.Proofs.Ytnofddbfogilaaa.tcpA
/- Layer 10: the law on flags. -/
namespace Go.Proofs.Ytnofddbfogilaaa.tcpB
open Go.ChangeShapes Go.WideShapes Go.ChangeAt Go.RowKit
open base connA
set_option linter.unusedVariables false
def opensB (f:Int):Bool:=hasB f 2 && (bits .and .i64 f 21 == 0)
theorem opens_any (a b c d f g h:Int) (A:Option Addr) (n cp:Nat) (w:World) :
  Calls Try.prog 34 #[.agg #[.int .i64 a,.int .i64 b,.int .u32 c,.int .u32 d,.int .i64 f,.int .i64 g,.int .i64 h,.slice A n cp]] w fun e w'=>e=.returned (.bool (opensB f))∧Below w.heap.size w w':=by
 cases b2:hasB f 2
 ·have hv:opensB f=false:=by simp [opensB,b2]
  rw [hv]
  have H2:=Lib.hid b2
  clear b2 hv
  go_enter Try.func34,Try.ntmps34
  go_wp2_with fail
  refine (has_any _ _ _ _ _ _ _ _ _ _ _ _).mono ?_
  rintro e w1 ⟨rfl,hb⟩
  rw [H2.out]
  go_wp2_with fail
  go_ret
  exact ⟨rfl,((Below.refl _ _).alloc (Nat.le_refl _) _).trans (hb.mono (by simp))⟩
 ·have hv:opensB f=(bits .and .i64 f 21 == 0):=by simp [opensB,b2]
  rw [hv]
  have H2:=Lib.hid b2
  clear b2 hv
  go_enter Try.func34,Try.ntmps34
  go_wp2_with fail
  refine (has_any _ _ _ _ _ _ _ _ _ _ _ _).mono ?_
  rintro e w1 ⟨rfl,hb⟩
  rw [H2.out]
  obtain ⟨hc,hf⟩:=bcell hb
  have HB:=Lib.hid hb
  clear hb
  go_wp2_with fail
  go_ret
  exact ⟨rfl,((Below.refl _ _).alloc (Nat.le_refl _) _).trans (HB.out.mono (by simp))⟩
end Go.Proofs.Ytnofddbfogilaaa.tcpB
/- Layer 13: what a packet is steered by, whether it opens a connection. -/
namespace Go.Proofs.Ytnofddbfogilaaa.pktK
set_option maxHeartbeats 4000000
set_option maxRecDepth 100000
open Go.ChangeShapes Go.WideShapes Go.ChangeAt Go.RowKit
open base rdrA rdrG sixM pktC pktE
set_option linter.unusedVariables false
theorem opens_tcp (v6:Bool) (s6:Bool) (sh sl:Int) (d6:Bool) (dh dl sp dp ttl fl:Int) (er:Bool) (apr:Int) (as6:Bool) (ash asl:Int) (ad6:Bool) (adh adl asp adp sz:Int) (w:World) :
  Calls Try.prog 19 #[.agg #[.bool v6,.int .i64 6,.bool s6,.int .u64 sh,.int .u64 sl,.bool d6,.int .u64 dh,.int .u64 dl,.int .i64 sp,.int .i64 dp,.int .i64 ttl,.int .i64 fl,.bool er,.int .i64 apr,.bool as6,.int .u64 ash,.int .u64 asl,.bool ad6,.int .u64 adh,.int .u64 adl,.int .i64 asp,.int .i64 adp,.int .i64 sz]] w fun o w'=>o=.returned (.bool (tcpB.opensB fl))∧Below w.heap.size w w':=by
 have B0:=Lib.hid (show Below w.heap.size w (w.alloc (.cells #[.bool v6,.int .i64 6,.bool s6,.int .u64 sh,.int .u64 sl,.bool d6,.int .u64 dh,.int .u64 dl,.int .i64 sp,.int .i64 dp,.int .i64 ttl,.int .i64 fl,.bool er,.int .i64 apr,.bool as6,.int .u64 ash,.int .u64 asl,.bool ad6,.int .u64 adh,.int .u64 adl,.int .i64 asp,.int .i64 adp,.int .i64 sz] 53)) from (Below.refl _ _).alloc (Nat.le_refl _) _)
 have HO:=Lib.hid (fun V=>tcpB.opens_any 0 0 0 0 fl 0 0 none 0 0 V)
 go_enter Try.func19,Try.ntmps19
 go_wp2_with fail
 refine (HO.out _).mono ?_
 rintro o w2 ⟨rfl,hb2⟩
 have B2:=Lib.hid (B0.out.trans (hb2.mono B0.out.size))
 clear hb2
 go_wp2_with fail
 go_ret
 exact ⟨rfl,B2.out⟩
theorem opens_not (pr:Int) (h6:pr≠6) (v6:Bool) (s6:Bool) (sh sl:Int) (d6:Bool) (dh dl sp dp ttl fl:Int) (er:Bool) (apr:Int) (as6:Bool) (ash asl:Int) (ad6:Bool) (adh adl asp adp sz:Int) (w:World) :
  Calls Try.prog 19 #[.agg #[.bool v6,.int .i64 pr,.bool s6,.int .u64 sh,.int .u64 sl,.bool d6,.int .u64 dh,.int .u64 dl,.int .i64 sp,.int .i64 dp,.int .i64 ttl,.int .i64 fl,.bool er,.int .i64 apr,.bool as6,.int .u64 ash,.int .u64 asl,.bool ad6,.int .u64 adh,.int .u64 adl,.int .i64 asp,.int .i64 adp,.int .i64 sz]] w fun o w'=>o=.returned (.bool false)∧Below w.heap.size w w':=by
 have t6:(pr == 6)=false:=by simpa using h6
 clear h6
 have B0:=Lib.hid (show Below w.heap.size w (w.alloc (.cells #[.bool v6,.int .i64 pr,.bool s6,.int .u64 sh,.int .u64 sl,.bool d6,.int .u64 dh,.int .u64 dl,.int .i64 sp,.int .i64 dp,.int .i64 ttl,.int .i64 fl,.bool er,.int .i64 apr,.bool as6,.int .u64 ash,.int .u64 asl,.bool ad6,.int .u64 adh,.int .u64 adl,.int .i64 asp,.int .i64 adp,.int .i64 sz] 53)) from (Below.refl _ _).alloc (Nat.le_refl _) _)
 have HO:=Lib.hid (fun V=>tcpB.opens_any 0 0 0 0 fl 0 0 none 0 0 V)
 go_enter Try.func19,Try.ntmps19
 go_wp2_with fail
 go_ret
 exact ⟨rfl,B0.out⟩
def opensP (P:Pk):Bool:=decide (P.t.pr=6) && tcpB.opensB P.fl
theorem opens_pk (P:Pk) (w:World):Calls Try.prog 19 #[.agg P.cells] w fun o w'=>o=.returned (.bool (opensP P))∧Below w.heap.size w w':=by
 obtain ⟨v6,⟨pr,s6,sh,sl,d6,dh,dl,sp,dp⟩,ttl,fl,er,⟨apr,as6,ash,asl,ad6,adh,adl,asp,adp⟩,sz⟩:=P
 by_cases h6:pr=6
 ·subst h6
  exact opens_tcp v6 s6 sh sl d6 dh dl sp dp ttl fl er apr as6 ash asl ad6 adh adl asp adp sz w
 ·have e:opensP ⟨v6,⟨pr,s6,sh,sl,d6,dh,dl,sp,dp⟩,ttl,fl,er,⟨apr,as6,ash,asl,ad6,adh,adl,asp,adp⟩,sz⟩=false:=by unfold opensP; rw [decide_eq_false h6]; rfl
  rw [e]
  exact opens_not pr h6 v6 s6 sh sl d6 dh dl sp dp ttl fl er apr as6 ash asl ad6 adh adl asp adp sz w
end Go.Proofs.Ytnofddbfogilaaa.pktK
