/- 2 texts in one. -/
import Derived.Test.YtnofddbfogilaaaGq31
import Derived.Test.YtnofddbfogilaaaGq32
/- Layer 35: the law's packet of a connection that is open. -/
namespace Go.Proofs.Ytnofddbfogilaaa.genT
set_option maxHeartbeats 8000000
set_option maxRecDepth 100000
open Go.ChangeShapes Go.WideShapes Go.ChangeAt Go.RowKit
open base mixB rdrG pktA pktC pktD sixW genO genW genA genB genC genE genG genI genJ genN genR genS
set_option linter.unusedVariables false
set_option linter.unusedSimpArgs false
def rem (op:List Tp) (k i:Nat):List Tp:=(op.take i).eraseIdx k
theorem rem_ne (op:List Tp) (k i:Nat) (hi:i<op.length) (h:i≠k):rem op k (i+1)=rem op k i++[op.getD i zeroT]:=by
 unfold rem
 have e:op.take (i+1)=op.take i++[op.getD i zeroT]:=by
  rw [List.take_add_one,List.getElem?_eq_getElem hi,List.getD_eq_getElem?_getD,List.getElem?_eq_getElem hi]
  rfl
 have hl:(op.take i).length=i:=by rw [List.length_take]; omega
 rw [e]
 by_cases hk:k<i
 ·rw [List.eraseIdx_append_of_lt_length (by omega)]
 ·rw [List.eraseIdx_append_of_length_le (by omega),List.eraseIdx_of_length_le (l:=op.take i) (by omega),List.eraseIdx_of_length_le (by simp; omega)]
theorem rem_eq (op:List Tp) (k:Nat) (hk:k<op.length):rem op k (k+1)=rem op k k:=by
 unfold rem
 have hl:(op.take k).length=k:=by rw [List.length_take]; omega
 rw [List.take_add_one,List.getElem?_eq_getElem hk,List.eraseIdx_append_of_length_le (by omega),hl,Nat.sub_self,List.eraseIdx_of_length_le (l:=op.take k) (by omega)]
 simp
theorem rem_all (op:List Tp) (k:Nat):rem op k op.length=op.eraseIdx k:=by unfold rem; rw [List.take_length]
theorem rem_len (op:List Tp) (k i:Nat):(rem op k i).length≤op.length:=by
 unfold rem
 have h1:=List.length_eraseIdx_le (op.take i) k
 have h2:=List.length_take_le i op
 have h3:(op.take i).length≤op.length:=by rw [List.length_take]; omega
 omega
theorem OwT_base {w:World} {B B':Nat} {v:Value} {l:List Tp} (h:OwT w B' v l) (hb:B≤B'):OwT w B v l:=by
 rcases h with h | ⟨g,cur,h1,h2,h3⟩
 ·refine .inl ⟨h.1,?_⟩
  rcases h.2 with h1 | ⟨g,cap,cur,h1,h2,h3⟩
  ·exact .inl h1
  ·exact .inr ⟨g,cap,cur,h1,Nat.le_trans hb h2,h3⟩
 ·exact .inr ⟨g,cur,h1,Nat.le_trans hb h2,h3⟩
theorem lp_ack {w:World} {x B:Nat} {p:Pl} {a:Int} {v:Value} {op:List Tp} (h:LM w x p a v) (ho:OwT w B v op) (hp:p.right) (hin:p.In) (hn:op.length≤256) (hB:B≤w.heap.size) (hk:∀ t ∈ op,FOk p t) (hm:p.mo≤400) (hpr:p.pr=6) (h0:op.length≠0) (hc:¬ (below (gNum a 0) 4=0∧op.length<256)) (h1:¬ below (gNum a 0) 4=1) :
  Calls Try.prog 17 #[.pointer (some ⟨x,0,none⟩)] w (LPackP w x B p v (gPk p a op)):=by
 obtain ⟨k1,k2,k3,k4⟩:=gPk_ok p hp a op hk hn
 have hgm:=gMany_in p (gPk p a op).a hp.1.2.2.2.2.1
 have SP:=Lib.hid (show genI.Spec p (gPk p a op).t (gPk p a op).fl (gPay (gAt (gPk p a op).a 1) (gMany p (gPk p a op).a)) (pBy p (gPk p a op)) from spec_ok k1 hp hin _ k4 _ (by rw [gPay_len]; omega) (gPay_u8 _ _))
 have EG:=Lib.hid (show gPk p a op=⟨op.getD (below (gNum a 1) op.length).toNat zeroT,16,gAt a 2,op⟩ from by unfold gPk; rw [if_neg (by rw [hpr]; decide)]; unfold gSeg; rw [if_neg (fun h=>h.elim h0 hc),if_neg h1])
 have BY:=Lib.hid (fun V v' (hV:LM V x p (gPk p a op).a v')=>lbytes hV hp hm)
 obtain ⟨G,hG⟩:∃ G,G=gPk p a op:=⟨_,rfl⟩
 rw [← hG] at SP EG BY ⊢
 obtain ⟨Bs,hBs⟩:∃ Bs,Bs=pBy p G:=⟨_,rfl⟩
 rw [← hBs] at SP
 have HBS:=Lib.hid hBs
 have HPR:=Lib.hid hpr
 have c6:w.cell? ⟨x,6,none⟩=some (.int .i64 6):=by rw [← hpr]; exact Blk.cell h 6
 have L0:=Lib.hid h
 have O0:=Lib.hid ho
 have HB:=Lib.hid hB
 have HN:=Lib.hid hn
 obtain ⟨n4,hn4⟩:∃ n,n=below (gNum a 0) 4:=⟨_,rfl⟩
 have i1:=gNum_in a 0
 obtain ⟨m1,hm1⟩:∃ m,m=gNum a 0:=⟨_,rfl⟩
 have NX1:=Lib.hid (show ∀ W,LM W x p a v→Calls Try.prog 24 #[.pointer (some ⟨x,0,none⟩)] W fun o w'=>o=.returned (.int .u64 m1)∧LM w' x p (gAt a 1) v∧OnlyG x W w' from fun W hW=>by rw [hm1]; exact lnext hW)
 have BE:=Lib.hid (show ∀ V,Calls Try.prog 23 #[.int .u64 m1,.int .i64 4] V fun e w'=>e=.returned (.int .i64 n4)∧V=w' from fun V=>by rw [hn4,hm1]; exact refbelow_any (gNum a 0) 4 i1.1 i1.2 (by omega) (by omega) V)
 obtain ⟨A,c,hv,hlc,hcm⟩:=ho.slice
 obtain ⟨Ln,hL⟩:∃ Ln,Ln=op.length:=⟨_,rfl⟩
 rw [← hL] at hv hlc HN
 subst hv
 have HL:=Lib.hid hL
 have b1:=below_in a 1 Ln (by omega)
 have i2:=gNum_in a 1
 obtain ⟨k,hk2⟩:∃ k,k=(below (gNum a 1) op.length).toNat:=⟨_,rfl⟩
 rw [← hk2] at EG
 have hkb:(k:Int)=below (gNum a 1) Ln:=by rw [hk2,hL]; rw [hL] at b1; omega
 obtain ⟨m2,hm2⟩:∃ m,m=gNum a 1:=⟨_,rfl⟩
 have NX2:=Lib.hid (show ∀ W,LM W x p (gAt a 1) (.slice A Ln c)→Calls Try.prog 24 #[.pointer (some ⟨x,0,none⟩)] W fun o w'=>o=.returned (.int .u64 m2)∧LM w' x p (gAt a 2) (.slice A Ln c)∧OnlyG x W w' from fun W hW=>by
  have h9:=lnext hW
  rw [show gNum (gAt a 1) 0=gNum a 1 from gNum_add a 1 0,← hm2] at h9
  exact h9)
 have BE2:=Lib.hid (show ∀ V,Calls Try.prog 23 #[.int .u64 m2,.int .i64 (Ln:Int)] V fun e w'=>e=.returned (.int .i64 (k:Int))∧V=w' from fun V=>by rw [hkb,hm2]; exact refbelow_any (gNum a 1) (Ln:Int) i2.1 i2.2 (by omega) (by omega) V)
 have HK:=Lib.hid (show k<Ln by omega)
 obtain ⟨gb,c',hvg,_,hcell⟩:=ho.cell k (by omega)
 injection hvg with hvg e2 e3
 subst hvg
 clear hcell e2 e3
 have HTC:=Lib.hid (show ∀ W,OwT W B (.slice (some ⟨gb,0,none⟩) Ln c) op→∀ i,i<Ln→∀ j,j<9→W.cell? ⟨gb,i*9+j,none⟩=(op.getD i zeroT).cells[j]? from fun W hW i hi j hj=>by
  obtain ⟨g2,c2,e2,_,e3⟩:=hW.cell i (by omega)
  injection e2 with e2 _ _
  injection e2 with e2
  injection e2 with e2
  subst e2
  exact e3 j hj)
 obtain ⟨F,hF⟩:∃ F,F=op.getD k zeroT:=⟨_,rfl⟩
 have HC:=Lib.hid (show ¬ (n4=0∧Ln<256) from by rw [hL,hn4]; exact hc)
 have H0:=Lib.hid (show Ln≠0 from by rw [hL]; exact h0)
 have T1:=Lib.hid (show ¬ n4=1 from by rw [hn4]; exact h1)
 have LC:=Lib.hid hlc
 have VLT:=Lib.hid (show ∀ y,(Value.slice (some ⟨gb,0,none⟩) Ln c).ownBlock=some y→y<w.heap.size from fun y hy=>(ho.lt y hy).2)
 have hGt:G.t=F:=by rw [EG.out,hF]
 have hGf:G.fl=16:=by rw [EG.out]
 have SQ:=Lib.hid (SP.out.2.2.2 HPR.out)
 rw [hGt,hGf] at SQ
 have HF:=Lib.hid hF
 clear k1 k2 k3 k4 hgm hG hBs h ho hp hin hn hB hk hm hpr hc hn4 hm1 i1 hlc hcm hL h0 h1 b1 i2 hk2 hkb hm2 hGt hGf hF
 obtain ⟨fpr,fs6,fsh,fsl,fd6,fdh,fdl,fsp,fdp⟩:=F
 go_enter Try.func17,Try.ntmps17
 go_wp2_with fail
 refine (NX1.out _ L0.out).mono ?_
 rintro o w2 ⟨rfl,hs2,ho2⟩
 have L2:=Lib.hid hs2
 have O2:=Lib.hid (OwT_onx O0.out L0.out (by decide) (OnQ.of_only ho2))
 have F2:=Lib.hid (show Frg x x (.slice (some ⟨gb,0,none⟩) Ln c) w w2 from Frg_onq (Frg.refl _ _ _ _) (OnQ.of_only ho2))
 clear hs2 ho2 c6
 go_wp2_with fail
 refine (BE.out _).mono ?_
 rintro o w' ⟨rfl,rfl⟩
 have c12:w2.cell? ⟨x,12,none⟩=some (.slice (some ⟨gb,0,none⟩) Ln c):=Blk.cell L2.out 12
 go_upto_region 6 with fail
 go_cut [54] (fun y wx=>y=.bool false∧wx=w2)
 case first =>
  have t0:((Ln:Int) == 0)=false:=by have:=H0.out; rw [beq_eq_false_iff_ne]; omega
  by_cases h4:n4=0
  ·have t1:(n4 == 0)=true:=by simp [h4]
   have t2:decide ((Ln:Int)<256)=false:=decide_eq_false (by have:=HC.out; omega)
   clear h4
   go_wp2_with fail
   go_meet
   exact ⟨rfl,rfl⟩
  ·have t1:(n4 == 0)=false:=by simp [h4]
   clear h4
   go_wp2_with fail
   go_meet
   exact ⟨rfl,rfl⟩
 case rest =>
 obtain ⟨rfl,hwc⟩:=hcut
 rw [hwc]
 clear hwc c12
 go_upto_region 11 with fail
 have HO:=Lib.hid (show ∀ W y,LM W x p y (.slice (some ⟨gb,0,none⟩) Ln c)→World.cell? W ⟨x,12,none⟩=some (.slice (some ⟨gb,0,none⟩) Ln c) from fun W y hW=>Blk.cell hW 12)
 have L2d:=Lib.hid (LMb L2.out (dr_below _))
 have O2d:=Lib.hid (O2.out.below (dr_below _))
 have F2d:=Lib.hid (F2.out.then (Frg.of_below (dr_below _)))
 have sA:=Lib.hid (HO.out _ _ L2d.out)
 go_region_held3 (fun W=>World.cell? W ⟨x,12,none⟩=some (.slice (some ⟨gb,0,none⟩) Ln c)) (first | with_reducible exact sA.out | with_reducible exact sB.out)
  (first | (go_at_call 24
            (with_reducible refine (NX2.out _ L2d.out).mono ?_)
            rintro o w3 ⟨rfl,hs3,ho3⟩
            have L3:=Lib.hid hs3
            have O3:=Lib.hid (OwT_onx O2d.out L2d.out (by decide) (OnQ.of_only ho3))
            have F3:=Lib.hid (show Frg x x (.slice (some ⟨gb,0,none⟩) Ln c) w w3 from Frg_onq F2d.out (OnQ.of_only ho3))
            have sB:=Lib.hid (HO.out _ _ hs3)
            clear hs3 ho3)
         | (go_at_call 23
            (with_reducible refine (BE2.out _).mono ?_)
            rintro o w' ⟨rfl,rfl⟩))
 have c12:w3.cell? ⟨x,12,none⟩=some (.slice (some ⟨gb,0,none⟩) Ln c):=Blk.cell L3.out 12
 have hfc:=HTC.out _ O3.out k HK.out
 rw [← HF.out] at hfc
 have x0:w3.cell? ⟨gb,k*9,none⟩=some (.int .i64 fpr):=hfc 0 (by omega)
 have x1:w3.cell? ⟨gb,k*9+1,none⟩=some (.bool fs6):=hfc 1 (by omega)
 have x2:w3.cell? ⟨gb,k*9+2,none⟩=some (.int .u64 fsh):=hfc 2 (by omega)
 have x3:w3.cell? ⟨gb,k*9+3,none⟩=some (.int .u64 fsl):=hfc 3 (by omega)
 have x4:w3.cell? ⟨gb,k*9+4,none⟩=some (.bool fd6):=hfc 4 (by omega)
 have x5:w3.cell? ⟨gb,k*9+5,none⟩=some (.int .u64 fdh):=hfc 5 (by omega)
 have x6:w3.cell? ⟨gb,k*9+6,none⟩=some (.int .u64 fdl):=hfc 6 (by omega)
 have x7:w3.cell? ⟨gb,k*9+7,none⟩=some (.int .i64 fsp):=hfc 7 (by omega)
 have x8:w3.cell? ⟨gb,k*9+8,none⟩=some (.int .i64 fdp):=hfc 8 (by omega)
 have j1:(0:Int)≤(k:Int):=by omega
 have j2:(k:Int)<(Ln:Int):=by have:=HK.out; omega
 clear hfc
 go_upto_region 13 with fail
 obtain ⟨w4,hw4⟩:∃ w4,w4=w3.alloc (.cells #[.int .i64 fpr,.bool fs6,.int .u64 fsh,.int .u64 fsl,.bool fd6,.int .u64 fdh,.int .u64 fdl,.int .i64 fsp,.int .i64 fdp] 39):=⟨_,rfl⟩
 obtain ⟨z,hz⟩:∃ z,z=w3.heap.size:=⟨_,rfl⟩
 rw [← hw4,← hz]
 have D4:=(show Below w3.heap.size w3 w4 from by rw [hw4]; exact al_below _ _)
 have Z4:=Lib.hid (show Blk w4 z 39 #[.int .i64 fpr,.bool fs6,.int .u64 fsh,.int .u64 fsl,.bool fd6,.int .u64 fdh,.int .u64 fdl,.int .i64 fsp,.int .i64 fdp] from by rw [hw4,hz]; exact Blk.new w3 _ _)
 have L4:=Lib.hid (LMb L3.out D4)
 have O4:=Lib.hid (O3.out.below D4)
 have F4:=Lib.hid (F3.out.then (Frg.of_below D4))
 have VB:=Lib.hid (show ∀ y,(Value.slice (some ⟨gb,0,none⟩) Ln c).ownBlock=some y→(Value.slice (some ⟨gb,0,none⟩) Ln c).ownBlock=some y∨w.heap.size≤y from fun y hy=>.inl hy)
 clear hw4 hz D4 c12 x0 x1 x2 x3 x4 x5 x6 x7 x8
 have tq:(n4 == 1)=false:=by have:=T1.out; simp [this]
 have ZZ:=Z4
 have LL:=Lib.hid (show LM w4 x p G.a (.slice (some ⟨gb,0,none⟩) Ln c) from by rw [EG.out]; exact L4.out)
 have OO:=Lib.hid (show OwT w4 B (.slice (some ⟨gb,0,none⟩) Ln c) G.op from by rw [EG.out]; exact O4.out)
 have FF:=F4
 clear Z4 L4 O4 F4
 have SQ:=Lib.hid (show ∀ (K:Nat) (A:Option Addr) (n c:Nat) (w:World),K≤w.heap.size→Sl w A n c (gPay (gAt G.a 1) (gMany p G.a))→Calls Try.prog 28 #[.agg #[.int .i64 fpr,.bool fs6,.int .u64 fsh,.int .u64 fsl,.bool fd6,.int .u64 fdh,.int .u64 fdl,.int .i64 fsp,.int .i64 fdp],.int .i64 64,.int .i64 16,.slice A n c] w (MkO K 0 Bs w) from SQ.out)
 go_upto_region 23 with fail
 have Z4:=Lib.hid (ZZ.out.below (dr_below _) ZZ.out.lt)
 have L4:=Lib.hid (LMb LL.out (dr_below _))
 have O4:=Lib.hid (OO.out.below (dr_below _))
 have F4:=Lib.hid (FF.out.then (Frg.of_below (dr_below _)))
 have NZ:=Lib.hid (blk_ne Z4.out L4.out (by decide))
 have HSS:=Lib.hid (show ∀ W,Blk W z 39 #[.int .i64 fpr,.bool fs6,.int .u64 fsh,.int .u64 fsl,.bool fd6,.int .u64 fdh,.int .u64 fdl,.int .i64 fsp,.int .i64 fdp]→World.cell? W ⟨z,0,none⟩=some (.int .i64 fpr)∧World.cell? W ⟨z,1,none⟩=some (.bool fs6)∧World.cell? W ⟨z,2,none⟩=some (.int .u64 fsh)∧World.cell? W ⟨z,3,none⟩=some (.int .u64 fsl)∧World.cell? W ⟨z,4,none⟩=some (.bool fd6)∧World.cell? W ⟨z,5,none⟩=some (.int .u64 fdh)∧World.cell? W ⟨z,6,none⟩=some (.int .u64 fdl)∧World.cell? W ⟨z,7,none⟩=some (.int .i64 fsp)∧World.cell? W ⟨z,8,none⟩=some (.int .i64 fdp) from fun W h1=>⟨h1.cell 0,h1.cell 1,h1.cell 2,h1.cell 3,h1.cell 4,h1.cell 5,h1.cell 6,h1.cell 7,h1.cell 8⟩)
 have tA:=Lib.hid (HSS.out _ Z4.out)
 go_region_held3 (fun W=>World.cell? W ⟨z,0,none⟩=some (.int .i64 fpr)∧World.cell? W ⟨z,1,none⟩=some (.bool fs6)∧World.cell? W ⟨z,2,none⟩=some (.int .u64 fsh)∧World.cell? W ⟨z,3,none⟩=some (.int .u64 fsl)∧World.cell? W ⟨z,4,none⟩=some (.bool fd6)∧World.cell? W ⟨z,5,none⟩=some (.int .u64 fdh)∧World.cell? W ⟨z,6,none⟩=some (.int .u64 fdl)∧World.cell? W ⟨z,7,none⟩=some (.int .i64 fsp)∧World.cell? W ⟨z,8,none⟩=some (.int .i64 fdp)) (first | with_reducible exact tA.out | with_reducible exact tB.out | with_reducible exact tC.out)
  (first | (go_at_call 33
            (with_reducible refine (BY.out _ (.slice (some ⟨gb,0,none⟩) Ln c) L4.out).mono ?_)
            rintro o w5 ⟨A5,n5,c5,rfl,hb5,hs5,ho5⟩
            have L5:=Lib.hid hs5
            have Z5:=Lib.hid (ho5.blk Z4.out NZ.out)
            have F5:=Lib.hid (show Frg x x (.slice (some ⟨gb,0,none⟩) Ln c) w w5 from Frg_onq F4.out ho5)
            have O5:=Lib.hid (OwT_onx O4.out L4.out (by decide) ho5)
            have X5:=Lib.hid hb5.sl
            have tB:=Lib.hid (HSS.out _ Z5.out)
            clear hb5 hs5 ho5)
         | (go_at_call 28
            (with_reducible refine (SQ.out w.heap.size _ _ _ _ F5.out.size X5.out).mono ?_)
            rintro o w6 ⟨hb6,A6,n6,c6,rfl,how⟩
            have L6:=Lib.hid (LMb L5.out hb6)
            have F6:=Lib.hid (F5.out.then (Frg.of_below hb6))
            have O6:=Lib.hid (O5.out.below hb6)
            have W6:=Lib.hid how
            have tC:=Lib.hid (HSS.out _ (Z5.out.below hb6 Z5.out.lt))
            clear hb6 how))
 go_wp2_with fail
 go_ret
 exact ⟨_,_,_,rfl,by rw [← HBS.out]; exact W6.out,(.slice (some ⟨gb,0,none⟩) Ln c),L6.out,O6.out,F6.out,VB.out⟩
theorem lp_fin {w:World} {x B:Nat} {p:Pl} {a:Int} {v:Value} {op:List Tp} (h:LM w x p a v) (ho:OwT w B v op) (hp:p.right) (hin:p.In) (hn:op.length≤256) (hB:B≤w.heap.size) (hk:∀ t ∈ op,FOk p t) (hm:p.mo≤400) (hpr:p.pr=6) (h0:op.length≠0) (hc:¬ (below (gNum a 0) 4=0∧op.length<256)) (h1:below (gNum a 0) 4=1) :
  Calls Try.prog 17 #[.pointer (some ⟨x,0,none⟩)] w (LPackP w x B p v (gPk p a op)):=by
 obtain ⟨k1,k2,k3,k4⟩:=gPk_ok p hp a op hk hn
 have hgm:=gMany_in p (gPk p a op).a hp.1.2.2.2.2.1
 have SP:=Lib.hid (show genI.Spec p (gPk p a op).t (gPk p a op).fl (gPay (gAt (gPk p a op).a 1) (gMany p (gPk p a op).a)) (pBy p (gPk p a op)) from spec_ok k1 hp hin _ k4 _ (by rw [gPay_len]; omega) (gPay_u8 _ _))
 have EG:=Lib.hid (show gPk p a op=⟨op.getD (below (gNum a 1) op.length).toNat zeroT,17,gAt a 2,op.eraseIdx (below (gNum a 1) op.length).toNat⟩ from by unfold gPk; rw [if_neg (by rw [hpr]; decide)]; unfold gSeg; rw [if_neg (fun h=>h.elim h0 hc),if_pos h1])
 have BY:=Lib.hid (fun V v' (hV:LM V x p (gPk p a op).a v')=>lbytes hV hp hm)
 obtain ⟨G,hG⟩:∃ G,G=gPk p a op:=⟨_,rfl⟩
 rw [← hG] at SP EG BY ⊢
 obtain ⟨Bs,hBs⟩:∃ Bs,Bs=pBy p G:=⟨_,rfl⟩
 rw [← hBs] at SP
 have HBS:=Lib.hid hBs
 have HPR:=Lib.hid hpr
 have c6:w.cell? ⟨x,6,none⟩=some (.int .i64 6):=by rw [← hpr]; exact Blk.cell h 6
 have L0:=Lib.hid h
 have O0:=Lib.hid ho
 have HB:=Lib.hid hB
 have HN:=Lib.hid hn
 obtain ⟨n4,hn4⟩:∃ n,n=below (gNum a 0) 4:=⟨_,rfl⟩
 have i1:=gNum_in a 0
 obtain ⟨m1,hm1⟩:∃ m,m=gNum a 0:=⟨_,rfl⟩
 have NX1:=Lib.hid (show ∀ W,LM W x p a v→Calls Try.prog 24 #[.pointer (some ⟨x,0,none⟩)] W fun o w'=>o=.returned (.int .u64 m1)∧LM w' x p (gAt a 1) v∧OnlyG x W w' from fun W hW=>by rw [hm1]; exact lnext hW)
 have BE:=Lib.hid (show ∀ V,Calls Try.prog 23 #[.int .u64 m1,.int .i64 4] V fun e w'=>e=.returned (.int .i64 n4)∧V=w' from fun V=>by rw [hn4,hm1]; exact refbelow_any (gNum a 0) 4 i1.1 i1.2 (by omega) (by omega) V)
 obtain ⟨A,c,hv,hlc,hcm⟩:=ho.slice
 obtain ⟨Ln,hL⟩:∃ Ln,Ln=op.length:=⟨_,rfl⟩
 rw [← hL] at hv hlc HN
 subst hv
 have HL:=Lib.hid hL
 have b1:=below_in a 1 Ln (by omega)
 have i2:=gNum_in a 1
 obtain ⟨k,hk2⟩:∃ k,k=(below (gNum a 1) op.length).toNat:=⟨_,rfl⟩
 rw [← hk2] at EG
 have hkb:(k:Int)=below (gNum a 1) Ln:=by rw [hk2,hL]; rw [hL] at b1; omega
 obtain ⟨m2,hm2⟩:∃ m,m=gNum a 1:=⟨_,rfl⟩
 have NX2:=Lib.hid (show ∀ W,LM W x p (gAt a 1) (.slice A Ln c)→Calls Try.prog 24 #[.pointer (some ⟨x,0,none⟩)] W fun o w'=>o=.returned (.int .u64 m2)∧LM w' x p (gAt a 2) (.slice A Ln c)∧OnlyG x W w' from fun W hW=>by
  have h9:=lnext hW
  rw [show gNum (gAt a 1) 0=gNum a 1 from gNum_add a 1 0,← hm2] at h9
  exact h9)
 have BE2:=Lib.hid (show ∀ V,Calls Try.prog 23 #[.int .u64 m2,.int .i64 (Ln:Int)] V fun e w'=>e=.returned (.int .i64 (k:Int))∧V=w' from fun V=>by rw [hkb,hm2]; exact refbelow_any (gNum a 1) (Ln:Int) i2.1 i2.2 (by omega) (by omega) V)
 have HK:=Lib.hid (show k<Ln by omega)
 obtain ⟨gb,c',hvg,_,hcell⟩:=ho.cell k (by omega)
 injection hvg with hvg e2 e3
 subst hvg
 clear hcell e2 e3
 have HTC:=Lib.hid (show ∀ W,OwT W B (.slice (some ⟨gb,0,none⟩) Ln c) op→∀ i,i<Ln→∀ j,j<9→W.cell? ⟨gb,i*9+j,none⟩=(op.getD i zeroT).cells[j]? from fun W hW i hi j hj=>by
  obtain ⟨g2,c2,e2,_,e3⟩:=hW.cell i (by omega)
  injection e2 with e2 _ _
  injection e2 with e2
  injection e2 with e2
  subst e2
  exact e3 j hj)
 obtain ⟨F,hF⟩:∃ F,F=op.getD k zeroT:=⟨_,rfl⟩
 have HC:=Lib.hid (show ¬ (n4=0∧Ln<256) from by rw [hL,hn4]; exact hc)
 have H0:=Lib.hid (show Ln≠0 from by rw [hL]; exact h0)
 have T1:=Lib.hid (show n4=1 from by rw [hn4]; exact h1)
 have LC:=Lib.hid hlc
 have VLT:=Lib.hid (show ∀ y,(Value.slice (some ⟨gb,0,none⟩) Ln c).ownBlock=some y→y<w.heap.size from fun y hy=>(ho.lt y hy).2)
 have hGt:G.t=F:=by rw [EG.out,hF]
 have hGf:G.fl=17:=by rw [EG.out]
 have SQ:=Lib.hid (SP.out.2.2.2 HPR.out)
 rw [hGt,hGf] at SQ
 have HF:=Lib.hid hF
 clear k1 k2 k3 k4 hgm hG hBs h ho hp hin hn hB hk hm hpr hc hn4 hm1 i1 hlc hcm hL h0 h1 b1 i2 hk2 hkb hm2 hGt hGf hF
 obtain ⟨fpr,fs6,fsh,fsl,fd6,fdh,fdl,fsp,fdp⟩:=F
 go_enter Try.func17,Try.ntmps17
 go_wp2_with fail
 refine (NX1.out _ L0.out).mono ?_
 rintro o w2 ⟨rfl,hs2,ho2⟩
 have L2:=Lib.hid hs2
 have O2:=Lib.hid (OwT_onx O0.out L0.out (by decide) (OnQ.of_only ho2))
 have F2:=Lib.hid (show Frg x x (.slice (some ⟨gb,0,none⟩) Ln c) w w2 from Frg_onq (Frg.refl _ _ _ _) (OnQ.of_only ho2))
 clear hs2 ho2 c6
 go_wp2_with fail
 refine (BE.out _).mono ?_
 rintro o w' ⟨rfl,rfl⟩
 have c12:w2.cell? ⟨x,12,none⟩=some (.slice (some ⟨gb,0,none⟩) Ln c):=Blk.cell L2.out 12
 go_upto_region 6 with fail
 go_cut [54] (fun y wx=>y=.bool false∧wx=w2)
 case first =>
  have t0:((Ln:Int) == 0)=false:=by have:=H0.out; rw [beq_eq_false_iff_ne]; omega
  by_cases h4:n4=0
  ·have t1:(n4 == 0)=true:=by simp [h4]
   have t2:decide ((Ln:Int)<256)=false:=decide_eq_false (by have:=HC.out; omega)
   clear h4
   go_wp2_with fail
   go_meet
   exact ⟨rfl,rfl⟩
  ·have t1:(n4 == 0)=false:=by simp [h4]
   clear h4
   go_wp2_with fail
   go_meet
   exact ⟨rfl,rfl⟩
 case rest =>
 obtain ⟨rfl,hwc⟩:=hcut
 rw [hwc]
 clear hwc c12
 go_upto_region 11 with fail
 have HO:=Lib.hid (show ∀ W y,LM W x p y (.slice (some ⟨gb,0,none⟩) Ln c)→World.cell? W ⟨x,12,none⟩=some (.slice (some ⟨gb,0,none⟩) Ln c) from fun W y hW=>Blk.cell hW 12)
 have L2d:=Lib.hid (LMb L2.out (dr_below _))
 have O2d:=Lib.hid (O2.out.below (dr_below _))
 have F2d:=Lib.hid (F2.out.then (Frg.of_below (dr_below _)))
 have sA:=Lib.hid (HO.out _ _ L2d.out)
 go_region_held3 (fun W=>World.cell? W ⟨x,12,none⟩=some (.slice (some ⟨gb,0,none⟩) Ln c)) (first | with_reducible exact sA.out | with_reducible exact sB.out)
  (first | (go_at_call 24
            (with_reducible refine (NX2.out _ L2d.out).mono ?_)
            rintro o w3 ⟨rfl,hs3,ho3⟩
            have L3:=Lib.hid hs3
            have O3:=Lib.hid (OwT_onx O2d.out L2d.out (by decide) (OnQ.of_only ho3))
            have F3:=Lib.hid (show Frg x x (.slice (some ⟨gb,0,none⟩) Ln c) w w3 from Frg_onq F2d.out (OnQ.of_only ho3))
            have sB:=Lib.hid (HO.out _ _ hs3)
            clear hs3 ho3)
         | (go_at_call 23
            (with_reducible refine (BE2.out _).mono ?_)
            rintro o w' ⟨rfl,rfl⟩))
 have c12:w3.cell? ⟨x,12,none⟩=some (.slice (some ⟨gb,0,none⟩) Ln c):=Blk.cell L3.out 12
 have hfc:=HTC.out _ O3.out k HK.out
 rw [← HF.out] at hfc
 have x0:w3.cell? ⟨gb,k*9,none⟩=some (.int .i64 fpr):=hfc 0 (by omega)
 have x1:w3.cell? ⟨gb,k*9+1,none⟩=some (.bool fs6):=hfc 1 (by omega)
 have x2:w3.cell? ⟨gb,k*9+2,none⟩=some (.int .u64 fsh):=hfc 2 (by omega)
 have x3:w3.cell? ⟨gb,k*9+3,none⟩=some (.int .u64 fsl):=hfc 3 (by omega)
 have x4:w3.cell? ⟨gb,k*9+4,none⟩=some (.bool fd6):=hfc 4 (by omega)
 have x5:w3.cell? ⟨gb,k*9+5,none⟩=some (.int .u64 fdh):=hfc 5 (by omega)
 have x6:w3.cell? ⟨gb,k*9+6,none⟩=some (.int .u64 fdl):=hfc 6 (by omega)
 have x7:w3.cell? ⟨gb,k*9+7,none⟩=some (.int .i64 fsp):=hfc 7 (by omega)
 have x8:w3.cell? ⟨gb,k*9+8,none⟩=some (.int .i64 fdp):=hfc 8 (by omega)
 have j1:(0:Int)≤(k:Int):=by omega
 have j2:(k:Int)<(Ln:Int):=by have:=HK.out; omega
 clear hfc
 go_upto_region 13 with fail
 obtain ⟨w4,hw4⟩:∃ w4,w4=w3.alloc (.cells #[.int .i64 fpr,.bool fs6,.int .u64 fsh,.int .u64 fsl,.bool fd6,.int .u64 fdh,.int .u64 fdl,.int .i64 fsp,.int .i64 fdp] 39):=⟨_,rfl⟩
 obtain ⟨z,hz⟩:∃ z,z=w3.heap.size:=⟨_,rfl⟩
 rw [← hw4,← hz]
 have D4:=(show Below w3.heap.size w3 w4 from by rw [hw4]; exact al_below _ _)
 have Z4:=Lib.hid (show Blk w4 z 39 #[.int .i64 fpr,.bool fs6,.int .u64 fsh,.int .u64 fsl,.bool fd6,.int .u64 fdh,.int .u64 fdl,.int .i64 fsp,.int .i64 fdp] from by rw [hw4,hz]; exact Blk.new w3 _ _)
 have L4:=Lib.hid (LMb L3.out D4)
 have O4:=Lib.hid (O3.out.below D4)
 have F4:=Lib.hid (F3.out.then (Frg.of_below D4))
 have VB:=Lib.hid (show ∀ y,(Value.slice (some ⟨gb,0,none⟩) Ln c).ownBlock=some y→(Value.slice (some ⟨gb,0,none⟩) Ln c).ownBlock=some y∨w.heap.size≤y from fun y hy=>.inl hy)
 clear hw4 hz D4 c12 x0 x1 x2 x3 x4 x5 x6 x7 x8
 have tq:(n4 == 1)=true:=by have:=T1.out; simp [this]
 have ZW:=Lib.hid Z4.out.lt
 go_wp2_with fail
 go_loopw [13,14] (fun l i wr=>∃ i2:Nat,i2≤Ln∧i=.int .i64 i2∧Hid (OwT wr w4.heap.size l (rem op k i2))∧Hid (LM wr x p (gAt a 2) (.slice (some ⟨gb,0,none⟩) Ln c))∧Hid (OwT wr B (.slice (some ⟨gb,0,none⟩) Ln c) op)∧Hid (Blk wr z 39 #[.int .i64 fpr,.bool fs6,.int .u64 fsh,.int .u64 fsl,.bool fd6,.int .u64 fdh,.int .u64 fdl,.int .i64 fsp,.int .i64 fdp])∧Hid (Frg x x (.slice (some ⟨gb,0,none⟩) Ln c) w wr)∧Hid (w4.heap.size≤wr.heap.size)) (fun _ i _=>Ln - (intOf i).toNat)
 case atStart=>exact ⟨0,by omega,rfl,Lib.hid (by unfold rem; simp; exact OwT.nil_ _ _),L4,O4,Z4,F4,Lib.hid (Nat.le_refl _)⟩
 case round =>
 obtain ⟨i,hi,rfl,RR,LR,OR,ZR,FR,WR⟩:=hrel
 have c12:wr.cell? ⟨x,12,none⟩=some (.slice (some ⟨gb,0,none⟩) Ln c):=Blk.cell LR.out 12
 by_cases hlt:i<Ln
 case neg =>
  obtain rfl:i=Ln:=by omega
  have t1:decide ((i:Int)<(i:Int))=false:=decide_eq_false (by omega)
  obtain ⟨Av,cv,hul,_,_⟩:=RR.out.slice
  obtain ⟨nv,hnv⟩:∃ nv,nv=(rem op k i).length:=⟨_,rfl⟩
  rw [← hnv] at hul
  subst hul
  have f12:wr.frozen? ⟨x,12,none⟩=false:=Blk.frozen LR.out 12
  have WW:=Lib.hid F4.out.size
  have VB:=Lib.hid (show ∀ y,(Value.slice Av nv cv).ownBlock=some y→(Value.slice (some ⟨gb,0,none⟩) i c).ownBlock=some y∨w.heap.size≤y from fun y hy=>.inr (Nat.le_trans WW.out (RR.out.lt y hy).1))
  have RA:=Lib.hid (show OwT wr B (.slice Av nv cv) (op.eraseIdx k) from by
   have h9:=OwT_base RR.out (Nat.le_trans HB.out WW.out)
   rw [HL.out,rem_all] at h9
   exact h9)
  clear hnv hlt hi
  go_upto_region 23 with fail
  obtain ⟨w7,hw7⟩:∃ w7,w7=wr.setCell ⟨x,12,none⟩ (.slice Av nv cv):=⟨_,rfl⟩
  rw [← hw7]
  have O7:=Lib.hid (show OnlyG x wr w7 from by rw [hw7]; exact (OnlyG.refl x wr).set 12 _)
  have LL:=Lib.hid (show LM w7 x p G.a (.slice Av nv cv) from by rw [hw7,EG.out]; exact Blk.set_ LR.out 12 _)
  have ZZ:=Lib.hid (O7.out.blk ZR.out (blk_ne ZR.out LR.out (by decide)))
  have OO:=Lib.hid (show OwT w7 B (.slice Av nv cv) G.op from by rw [EG.out]; exact RA.out.keep fun y hy=>O7.out.els y (OwT_ne RA.out LR.out (by decide) y hy))
  have FF:=Lib.hid (show Frg x x (.slice (some ⟨gb,0,none⟩) i c) w w7 from by rw [hw7]; exact FR.out.setCell (p:=⟨x,12,none⟩) (.inl rfl) _)
  clear hw7 c12 f12 Z4 L4 O4 F4 O7
  have SQ:=Lib.hid (show ∀ (K:Nat) (A:Option Addr) (n c:Nat) (w:World),K≤w.heap.size→Sl w A n c (gPay (gAt G.a 1) (gMany p G.a))→Calls Try.prog 28 #[.agg #[.int .i64 fpr,.bool fs6,.int .u64 fsh,.int .u64 fsl,.bool fd6,.int .u64 fdh,.int .u64 fdl,.int .i64 fsp,.int .i64 fdp],.int .i64 64,.int .i64 17,.slice A n c] w (MkO K 0 Bs w) from SQ.out)
  have Z4:=Lib.hid (ZZ.out.below (dr_below _) ZZ.out.lt)
  have L4:=Lib.hid (LMb LL.out (dr_below _))
  have O4:=Lib.hid (OO.out.below (dr_below _))
  have F4:=Lib.hid (FF.out.then (Frg.of_below (dr_below _)))
  have NZ:=Lib.hid (blk_ne Z4.out L4.out (by decide))
  have HSS:=Lib.hid (show ∀ W,Blk W z 39 #[.int .i64 fpr,.bool fs6,.int .u64 fsh,.int .u64 fsl,.bool fd6,.int .u64 fdh,.int .u64 fdl,.int .i64 fsp,.int .i64 fdp]→World.cell? W ⟨z,0,none⟩=some (.int .i64 fpr)∧World.cell? W ⟨z,1,none⟩=some (.bool fs6)∧World.cell? W ⟨z,2,none⟩=some (.int .u64 fsh)∧World.cell? W ⟨z,3,none⟩=some (.int .u64 fsl)∧World.cell? W ⟨z,4,none⟩=some (.bool fd6)∧World.cell? W ⟨z,5,none⟩=some (.int .u64 fdh)∧World.cell? W ⟨z,6,none⟩=some (.int .u64 fdl)∧World.cell? W ⟨z,7,none⟩=some (.int .i64 fsp)∧World.cell? W ⟨z,8,none⟩=some (.int .i64 fdp) from fun W h1=>⟨h1.cell 0,h1.cell 1,h1.cell 2,h1.cell 3,h1.cell 4,h1.cell 5,h1.cell 6,h1.cell 7,h1.cell 8⟩)
  have tA:=Lib.hid (HSS.out _ Z4.out)
  go_region_held3 (fun W=>World.cell? W ⟨z,0,none⟩=some (.int .i64 fpr)∧World.cell? W ⟨z,1,none⟩=some (.bool fs6)∧World.cell? W ⟨z,2,none⟩=some (.int .u64 fsh)∧World.cell? W ⟨z,3,none⟩=some (.int .u64 fsl)∧World.cell? W ⟨z,4,none⟩=some (.bool fd6)∧World.cell? W ⟨z,5,none⟩=some (.int .u64 fdh)∧World.cell? W ⟨z,6,none⟩=some (.int .u64 fdl)∧World.cell? W ⟨z,7,none⟩=some (.int .i64 fsp)∧World.cell? W ⟨z,8,none⟩=some (.int .i64 fdp)) (first | with_reducible exact tA.out | with_reducible exact tB.out | with_reducible exact tC.out)
   (first | (go_at_call 33
             (with_reducible refine (BY.out _ (.slice Av nv cv) L4.out).mono ?_)
             rintro o w5 ⟨A5,n5,c5,rfl,hb5,hs5,ho5⟩
             have L5:=Lib.hid hs5
             have Z5:=Lib.hid (ho5.blk Z4.out NZ.out)
             have F5:=Lib.hid (show Frg x x (.slice (some ⟨gb,0,none⟩) i c) w w5 from Frg_onq F4.out ho5)
             have O5:=Lib.hid (OwT_onx O4.out L4.out (by decide) ho5)
             have X5:=Lib.hid hb5.sl
             have tB:=Lib.hid (HSS.out _ Z5.out)
             clear hb5 hs5 ho5)
          | (go_at_call 28
             (with_reducible refine (SQ.out w.heap.size _ _ _ _ F5.out.size X5.out).mono ?_)
             rintro o w6 ⟨hb6,A6,n6,c6,rfl,how⟩
             have L6:=Lib.hid (LMb L5.out hb6)
             have F6:=Lib.hid (F5.out.then (Frg.of_below hb6))
             have O6:=Lib.hid (O5.out.below hb6)
             have W6:=Lib.hid how
             have tC:=Lib.hid (HSS.out _ (Z5.out.below hb6 Z5.out.lt))
             clear hb6 how))
  go_wp2_with fail
  go_ret
  exact ⟨_,_,_,rfl,by rw [← HBS.out]; exact W6.out,(.slice Av nv cv),L6.out,O6.out,F6.out,VB.out⟩
 case pos =>
  have t1:decide ((i:Int)<(Ln:Int))=true:=decide_eq_true (by omega)
  have HI:=Lib.hid hlt
  have ku:IntKind.i64.wrap ((i:Int)+1)=((i+1:Nat):Int):=by have:=HN.out; rw [IntWalk.i64_in _ (by omega)]; omega
  by_cases hik:i=k
  case pos =>
   have t2:((i:Int) != (k:Int))=false:=by simp [hik]
   have R2:=Lib.hid (show OwT wr w4.heap.size u13 (rem op k (i+1)) from by
    have h9:=RR.out
    rw [hik] at h9 ⊢
    rw [rem_eq op k (by rw [← HL.out]; exact HK.out)]
    exact h9)
   clear hlt hi hik
   go_wp2_with fail
   go_roundw
   case rel=>exact ⟨i+1,HI.out,by simp,R2,LR,OR,ZR,FR,WR⟩
   case measure=>have:=HI.out; simp [intOf]; omega
  case neg =>
   have t2:((i:Int) != (k:Int))=true:=by rw [bne_iff_ne]; omega
   obtain ⟨Av,cv,hul,_,_⟩:=RR.out.slice
   obtain ⟨nv,hnv⟩:∃ nv,nv=(rem op k i).length:=⟨_,rfl⟩
   rw [← hnv] at hul
   subst hul
   have hfc:=HTC.out _ OR.out i hlt
   obtain ⟨Gi,hGi⟩:∃ Gi,Gi=op.getD i zeroT:=⟨_,rfl⟩
   have hrm:=rem_ne op k i (by rw [← HL.out]; exact hlt) hik
   rw [← hGi] at hfc hrm
   have WW:=Lib.hid F4.out.size
   clear hnv hGi
   obtain ⟨gpr,gs6,gsh,gsl,gd6,gdh,gdl,gsp,gdp⟩:=Gi
   have x0:wr.cell? ⟨gb,i*9,none⟩=some (.int .i64 gpr):=hfc 0 (by omega)
   have x1:wr.cell? ⟨gb,i*9+1,none⟩=some (.bool gs6):=hfc 1 (by omega)
   have x2:wr.cell? ⟨gb,i*9+2,none⟩=some (.int .u64 gsh):=hfc 2 (by omega)
   have x3:wr.cell? ⟨gb,i*9+3,none⟩=some (.int .u64 gsl):=hfc 3 (by omega)
   have x4:wr.cell? ⟨gb,i*9+4,none⟩=some (.bool gd6):=hfc 4 (by omega)
   have x5:wr.cell? ⟨gb,i*9+5,none⟩=some (.int .u64 gdh):=hfc 5 (by omega)
   have x6:wr.cell? ⟨gb,i*9+6,none⟩=some (.int .u64 gdl):=hfc 6 (by omega)
   have x7:wr.cell? ⟨gb,i*9+7,none⟩=some (.int .i64 gsp):=hfc 7 (by omega)
   have x8:wr.cell? ⟨gb,i*9+8,none⟩=some (.int .i64 gdp):=hfc 8 (by omega)
   have j1:(0:Int)≤(i:Int):=by omega
   have j2:(i:Int)<(Ln:Int):=by omega
   obtain ⟨w5,hw5⟩:∃ w5,w5=wr.alloc (.cells #[.int .i64 gpr,.bool gs6,.int .u64 gsh,.int .u64 gsl,.bool gd6,.int .u64 gdh,.int .u64 gdl,.int .i64 gsp,.int .i64 gdp] 39):=⟨_,rfl⟩
   have D5:=(show Below wr.heap.size wr w5 from by rw [hw5]; exact al_below _ _)
   have Y5:=(show Blk w5 wr.heap.size 39 #[.int .i64 gpr,.bool gs6,.int .u64 gsh,.int .u64 gsl,.bool gd6,.int .u64 gdh,.int .u64 gdl,.int .i64 gsp,.int .i64 gdp] from by rw [hw5]; exact Blk.new wr _ _)
   have R5:=RR.out.below D5
   obtain ⟨v6,w6,hrun,ho6,hg6,hb6⟩:=app_one w5 w4.heap.size (.slice Av nv cv) (rem op k i) R5 ⟨gpr,gs6,gsh,gsl,gd6,gdh,gdl,gsp,gdp⟩ ⟨wr.heap.size,0,none⟩ 1 (fun j u hu=>by rw [add0,Y5.cell j,← hu]; simp [Tp.cells]) (by have:=rem_len op k i; have:=HL.out; have:=HN.out; omega) (Nat.le_trans WR.out D5.size) 35
   rw [← hrm] at ho6
   have R6:=Lib.hid ho6
   have KP:∀ k,k<w5.heap.size→(∀ y,(Value.slice Av nv cv).ownBlock=some y→y≠k)→w6.heap[k]?=w5.heap[k]?:=fun k hk hx=>hg6.block k hk (fun e=>hx k e.symm rfl)
   have hvl:∀ y,(Value.slice Av nv cv).ownBlock=some y→w4.heap.size≤y:=fun y hy=>(R5.lt y hy).1
   have L5:=LMb LR.out D5
   have O5:=OR.out.below D5
   have Z5:=ZR.out.below D5 ZR.out.lt
   have F5:=FR.out.then (Frg.of_below D5)
   have L6:=Lib.hid (show LM w6 x p (gAt a 2) (.slice (some ⟨gb,0,none⟩) Ln c) from (KP x L5.lt (OwT_ne R5 L5 (by decide))).trans L5)
   have O6:=Lib.hid (show OwT w6 B (.slice (some ⟨gb,0,none⟩) Ln c) op from O5.keep fun y hy=>KP y (O5.lt y hy).2 (fun y2 hy2 e=>by have:=hvl y2 hy2; have:=VLT.out y hy; have:=WW.out; omega))
   have Z6:=Lib.hid (show Blk w6 z 39 #[.int .i64 fpr,.bool fs6,.int .u64 fsh,.int .u64 fsl,.bool fd6,.int .u64 fdh,.int .u64 fdl,.int .i64 fsp,.int .i64 fdp] from (KP z Z5.lt (fun y2 hy2 e=>by have:=hvl y2 hy2; have:=ZW.out; omega)).trans Z5)
   have F6:=Lib.hid (show Frg x x (.slice (some ⟨gb,0,none⟩) Ln c) w w6 from ⟨hg6.os.trans F5.os,hg6.tape.trans F5.tape,hg6.output.trans F5.output,Nat.le_trans F5.size hg6.size,fun k h1 h3 h4 h5=>(KP k (Nat.lt_of_lt_of_le h1 F5.size) (fun y hy e=>by have:=hvl y hy; have:=WW.out; omega)).trans (F5.block k h1 h3 h4 h5)⟩)
   have W6:=Lib.hid (show w4.heap.size≤w6.heap.size from Nat.le_trans WR.out (Nat.le_trans D5.size hg6.size))
   rw [hw5] at hrun
   have HR:=Lib.hid hrun
   clear hrun hw5 D5 Y5 R5 ho6 hg6 hb6 KP hvl L5 O5 Z5 F5 hfc hrm hlt hi hik
   go_wp2_with (at_builtin; refine wp_run rfl (.tmp 104) (.tmp 112) 35 rfl (.slice Av nv cv) (.slice (some ⟨wr.heap.size,0,none⟩) 1 1) rfl rfl 35 rfl v6 w6 HR.out ?_)
   go_roundw
   case rel=>exact ⟨i+1,HI.out,by simp,R6,L6,O6,Z6,F6,W6⟩
   case measure=>have:=HI.out; simp [intOf]; omega
end Go.Proofs.Ytnofddbfogilaaa.genT
namespace Go.Proofs.Ytnofddbfogilaaa.genL
end Go.Proofs.Ytnofddbfogilaaa.genL
