/- 3 texts in one. -/
import Derived.Deep.RegionHeld3
import Derived.Deep.DeepCutAuto
import Derived.Deep.QuietTactic
import Derived.BigQuiet
import Derived.Test.YtodckfgfbcnkoaaNk31
import Derived.Test.YtodckfgfbcnkoaaNk32
set_option linter.unusedVariables false
set_option linter.unusedSimpArgs false
open Go.ChangeShapes Go.WideShapes Go.ChangeAt Go.RowKit
/- Layer 15: the bytes of a packet that are as they were, with another side. -/
namespace Go.Proofs.Ytodckfgfbcnkoaa.natK
open base octA rdrA rdrG sumA sumB sixW sixM pktA pktB pktC pktE sixF pktG  tunV natW natY natZ natA pktL natE pktR pktS pktR pktM pktS
theorem setw_far (l:List Int) (p:Nat) (v:Int) (i:Nat) (h:i≠p∧i≠p+1):(setw l p v).getD i 0=l.getD i 0:=by
 unfold setw
 rw [List.getD_eq_getElem?_getD,List.getD_eq_getElem?_getD,List.getElem?_set_ne (fun k=>h.2 k.symm),List.getElem?_set_ne (fun k=>h.1 k.symm)]
theorem setws_far:∀ (vs l:List Int) (p i:Nat),i<p∨p+2*vs.length≤i→(setws l p vs).getD i 0=l.getD i 0
 | [],l,p,i,_=>rfl
 | v::vs,l,p,i,h=>by
  show (setws (setw l p v) (p+2) vs).getD i 0=_
  rw [List.length_cons] at h
  rw [setws_far vs (setw l p v) (p+2) i (by omega),setw_far l p v i (by omega)]
theorem take_get (l:List Int) (N i:Nat) (h:i<N):(l.take N).getD i 0=l.getD i 0:=by
 rw [List.getD_eq_getElem?_getD,List.getD_eq_getElem?_getD,List.getElem?_take_of_lt h]
theorem natO_keep (l:List Int) (N S:Nat) (v:Bool) (s:Nat) (pr:Int) (fs ts:List Int) (wp port:Int) (i:Nat) (hi:i<N)
  (h1:i<plc v s∨plc v s+2*ts.length≤i) (h2:i≠S+2*s∧i≠S+2*s+1) (h3:i≠(if pr=6 then S+16 else S+6)∧i≠(if pr=6 then S+16 else S+6)+1) (h4:v=false→i≠10∧i≠11) :
  (natO l N S v s pr fs ts wp port).getD i 0=l.getD i 0:=by
 have hX:(natX l N S v s fs ts port).getD i 0=l.getD i 0:=by
  unfold natX
  cases v with
  | true =>
   rw [if_pos rfl,setw_far _ _ _ _ h2,setws_far _ _ _ _ h1,take_get _ _ _ hi]
  | false =>
   rw [if_neg (show ¬ (false=true) by decide),setw_far _ _ _ _ (h4 rfl),setw_far _ _ _ _ h2,setws_far _ _ _ _ h1,take_get _ _ _ hi]
 unfold natO L4
 by_cases hp:pr=6
 ·rw [if_pos hp] at h3 ⊢
  rw [setw_far _ _ _ _ h3,hX]
 ·rw [if_neg hp] at h3 ⊢
  split
  ·exact hX
  ·rw [setw_far _ _ _ _ h3,hX]
theorem mk6_six (ttl pr sh sl dh dl:Int) (bl:List Int) (h1:0≤ttl∧ttl≤255) (h2:0≤pr∧pr≤255) (h3:isX pr=false) (b1:0≤sh∧sh<18446744073709551616) (b2:0≤sl∧sl<18446744073709551616) (b3:0≤dh∧dh<18446744073709551616) (b4:0≤dl∧dl<18446744073709551616) (hb:bl.length≤900) :
  sixP (mkB6 ttl pr sh sl dh dl bl)=.inr ([],pr,bl):=by
 obtain ⟨a1,a2,_⟩:=sixY.put_parse ⟨0,0,ttl,true,sh,sl,true,dh,dl,pr⟩ [] bl [] (right6 ttl pr sh sl dh dl h1 h2 h3) (fun x hx=>by cases hx) (by omega) b1 b2 b3 b4
 rw [List.append_nil] at a1 a2
 exact a1
theorem dgram_madeS (pr:Int) (s6:Bool) (sh sl:Int) (d6:Bool) (dh dl sp dp ttl fl:Int) (pl:List Int) (hn:pl.length≤500) (hu:U8 pl) (b1:0≤sh∧sh<18446744073709551616) (b2:0≤sl∧sl<18446744073709551616) (b3:0≤dh∧dh<18446744073709551616) (b4:0≤dl∧dl<18446744073709551616) (hm:Made pr s6 sh sl d6 dh dl sp dp ttl 0 17) :
  ∃ B:List Int,B.length=(if s6=true then 40 else 20)+8+pl.length∧B.drop ((if s6=true then 40 else 20)+8)=pl∧((s6=false→fourS B=20)∧(s6=true→∃ q r,sixP B=.inr ([],q,r)))∧pkP B=(⟨s6,⟨pr,s6,sh,sl,d6,dh,dl,sp,dp⟩,ttl,0,false,zeroT,(B.length:Int)⟩,0)∧∀ (A:Option Addr) (n c:Nat) (w:World),Sl w A n c pl →
   Calls Try.prog 26 #[.agg #[.int .i64 pr,.bool s6,.int .u64 sh,.int .u64 sl,.bool d6,.int .u64 dh,.int .u64 dl,.int .i64 sp,.int .i64 dp],.int .i64 ttl,.slice A n c] w (MkP 0 B w):=by
 obtain ⟨rfl,rfl,ht,hp,hf,ha⟩:=hm
 obtain ⟨ps,hps⟩:∃ ps,ps=psd s6 sh sl dh dl 17 (8+(pl.length:Int)):=⟨_,rfl⟩
 obtain ⟨bs,hbs⟩:∃ bs,bs=udpB.ub sp dp pl (udpB.chkZ (ps++udpB.ub sp dp pl 0)):=⟨_,rfl⟩
 have hM:udpM sp dp pl ps=(0,bs):=by unfold udpM; rw [if_pos hp,hbs]
 have hPA:=fun v6 d6 sz=>udp_parse v6 s6 sh sl d6 dh dl sp dp ttl sz pl hp (by omega) hu bs (by rw [hbs,hps])
 have hlb:bs.length=8+pl.length:=by
  rw [hbs]
  exact udpB.ub_len _ _ _ _
 have hdb:bs.drop 8=pl:=by
  rw [hbs]
  rfl
 cases s6 with
 | false =>
  obtain ⟨rfl,rfl,hs,hd⟩:sh=0∧dh=0∧sl<4294967296∧dl<4294967296:=by
   rcases ha with ha | ha
   ·cases ha
   ·exact ha
  refine ⟨mkB4 ttl 17 sl dl bs,by rw [mk4_len,hlb,if_neg (by decide)]; omega,?_,⟨fun _=>rfl,(fun k=>by cases k)⟩,?_,fun A n c w h=>?_⟩
  ·rw [if_neg (by decide),← List.drop_drop,mk4_drop,hdb]
  ·rw [mk4_parse ttl 17 sl dl bs ht (by omega) ⟨b2.1,by omega⟩ ⟨b4.1,by omega⟩ (by omega),hPA false false,mk4_len]
   rfl
  ·refine dgram_with false 0 sl 0 dl sp dp ttl fl A n c pl w h (by have:=h.len; omega) b1 b2 b3 b4 ps hps 0 0 bs _ hM (.inr (.inl ⟨rfl,rfl,fun V A2 n2 k2 hV hs2=>?_⟩))
   have h9:=four_bytes ttl 17 0 sl false 0 dl A2 n2 k2 bs V hs2 (by have:=hs2.len; omega) b2.1 b4.1
   unfold fourM at h9
   rw [if_pos ⟨ht,by omega,⟨rfl,by omega⟩,rfl,rfl,by omega⟩] at h9
   exact h9
 | true =>
  obtain ⟨m1,m2⟩:=mk6_parse ttl 17 sh sl dh dl bs ht (by omega) (by decide) b1 b2 b3 b4 (by omega)
  refine ⟨mkB6 ttl 17 sh sl dh dl bs,by rw [m2,hlb,if_pos rfl]; omega,?_,⟨(fun k=>by cases k),fun _=>⟨_,_,mk6_six ttl 17 sh sl dh dl bs ht (by omega) (by decide) b1 b2 b3 b4 (by omega)⟩⟩,?_,fun A n c w h=>?_⟩
  ·rw [if_pos rfl,← List.drop_drop,mk6_drop,hdb]
  ·rw [m1,hPA true true,m2]
   rfl
  ·refine dgram_with true sh sl dh dl sp dp ttl fl A n c pl w h (by have:=h.len; omega) b1 b2 b3 b4 ps hps 0 0 bs _ hM (.inr (.inr ⟨rfl,rfl,fun V A2 n2 k2 hV hs2=>?_⟩))
   exact six_bytes ttl 17 sh sl dh dl A2 n2 k2 bs V hs2 (by have:=hs2.len; omega) ht (by omega) (by decide) b1 b2 b3 b4
theorem segm_madeS (pr:Int) (s6:Bool) (sh sl:Int) (d6:Bool) (dh dl sp dp ttl fl:Int) (pl:List Int) (hn:pl.length≤500) (hu:U8 pl) (b1:0≤sh∧sh<18446744073709551616) (b2:0≤sl∧sl<18446744073709551616) (b3:0≤dh∧dh<18446744073709551616) (b4:0≤dl∧dl<18446744073709551616) (hm:Made pr s6 sh sl d6 dh dl sp dp ttl fl 6) :
  ∃ B:List Int,B.length=(if s6=true then 40 else 20)+20+pl.length∧B.drop ((if s6=true then 40 else 20)+20)=pl∧((s6=false→fourS B=20)∧(s6=true→∃ q r,sixP B=.inr ([],q,r)))∧pkP B=(⟨s6,⟨pr,s6,sh,sl,d6,dh,dl,sp,dp⟩,ttl,fl,false,zeroT,(B.length:Int)⟩,0)∧∀ (A:Option Addr) (n c:Nat) (w:World),Sl w A n c pl →
   Calls Try.prog 25 #[.agg #[.int .i64 pr,.bool s6,.int .u64 sh,.int .u64 sl,.bool d6,.int .u64 dh,.int .u64 dl,.int .i64 sp,.int .i64 dp],.int .i64 ttl,.int .i64 fl,.slice A n c] w (MkP 0 B w):=by
 obtain ⟨rfl,rfl,ht,hp,hf,ha⟩:=hm
 obtain ⟨ps,hps⟩:∃ ps,ps=psd s6 sh sl dh dl 6 (20+(pl.length:Int)):=⟨_,rfl⟩
 obtain ⟨bs,hbs⟩:∃ bs,bs=tcpLn.tk sp dp 0 0 fl 1024 0 (65535 - fo (wsum (ps++tcpLn.tk sp dp 0 0 fl 1024 0 0 [] pl))) [] pl:=⟨_,rfl⟩
 have hM:tcpM sp dp fl pl ps=(0,bs):=by unfold tcpM; rw [if_pos ⟨hp,hf⟩,hbs]
 have hPA:=fun v6 d6 sz=>tcp_parse v6 s6 sh sl d6 dh dl sp dp ttl fl sz pl hp hf (by omega) hu bs (by rw [hbs,hps])
 have hlb:bs.length=20+pl.length:=by
  rw [hbs]
  rw [(tcpLn.tk_says sp dp 0 0 fl 1024 0 _ [] pl rfl).1]; rfl
 have hdb:bs.drop 20=pl:=by
  rw [hbs]
  rfl
 cases s6 with
 | false =>
  obtain ⟨rfl,rfl,hs,hd⟩:sh=0∧dh=0∧sl<4294967296∧dl<4294967296:=by
   rcases ha with ha | ha
   ·cases ha
   ·exact ha
  refine ⟨mkB4 ttl 6 sl dl bs,by rw [mk4_len,hlb,if_neg (by decide)]; omega,?_,⟨fun _=>rfl,(fun k=>by cases k)⟩,?_,fun A n c w h=>?_⟩
  ·rw [if_neg (by decide),← List.drop_drop,mk4_drop,hdb]
  ·rw [mk4_parse ttl 6 sl dl bs ht (by omega) ⟨b2.1,by omega⟩ ⟨b4.1,by omega⟩ (by omega),hPA false false,mk4_len]
   rfl
  ·refine segm_with false 0 sl 0 dl sp dp ttl fl A n c pl w h (by have:=h.len; omega) b1 b2 b3 b4 ps hps 0 0 bs _ hM (.inr (.inl ⟨rfl,rfl,fun V A2 n2 k2 hV hs2=>?_⟩))
   have h9:=four_bytes ttl 6 0 sl false 0 dl A2 n2 k2 bs V hs2 (by have:=hs2.len; omega) b2.1 b4.1
   unfold fourM at h9
   rw [if_pos ⟨ht,by omega,⟨rfl,by omega⟩,rfl,rfl,by omega⟩] at h9
   exact h9
 | true =>
  obtain ⟨m1,m2⟩:=mk6_parse ttl 6 sh sl dh dl bs ht (by omega) (by decide) b1 b2 b3 b4 (by omega)
  refine ⟨mkB6 ttl 6 sh sl dh dl bs,by rw [m2,hlb,if_pos rfl]; omega,?_,⟨(fun k=>by cases k),fun _=>⟨_,_,mk6_six ttl 6 sh sl dh dl bs ht (by omega) (by decide) b1 b2 b3 b4 (by omega)⟩⟩,?_,fun A n c w h=>?_⟩
  ·rw [if_pos rfl,← List.drop_drop,mk6_drop,hdb]
  ·rw [m1,hPA true true,m2]
   rfl
  ·refine segm_with true sh sl dh dl sp dp ttl fl A n c pl w h (by have:=h.len; omega) b1 b2 b3 b4 ps hps 0 0 bs _ hM (.inr (.inr ⟨rfl,rfl,fun V A2 n2 k2 hV hs2=>?_⟩))
   exact six_bytes ttl 6 sh sl dh dl A2 n2 k2 bs V hs2 (by have:=hs2.len; omega) ht (by omega) (by decide) b1 b2 b3 b4
theorem keep_any (B:List Int) (P:Pk) (hS:(P.v6=false→fourS B=20)∧(P.v6=true→∃ q r,sixP B=.inr ([],q,r))) (s:Nat) (th tl port:Int) (X:List Int)
  (hx:∃ S N R pr sh sl dh dl ttl fl,PkG B P P.v6 pr sh sl dh dl ttl fl S N R∧X=natO B N S P.v6 s pr (aw P.v6 (sdH P.t s) (sdL P.t s)) (aw P.v6 th tl) (sdP P.t s) port) (z:Nat) (hz:z=if P.v6=true then 40 else 20) (i:Nat) (hi:(i:Int)<P.sz)
  (h1:i<plc P.v6 s∨plc P.v6 s+(if P.v6=true then 16 else 4)≤i) (h2:i≠z+2*s∧i≠z+2*s+1) (h3:i≠(if P.t.pr=6 then z+16 else z+6)∧i≠(if P.t.pr=6 then z+16 else z+6)+1) (h4:P.v6=false→i≠10∧i≠11):X.getD i 0=B.getD i 0:=by
 obtain ⟨S,N,R,pr,sh,sl,dh,dl,ttl,fl,G,rfl⟩:=hx
 have hSz:S=z:=by
  rw [hz]
  by_cases hv:P.v6=true
  ·obtain ⟨q,r,h6⟩:=hS.2 hv
   obtain ⟨ys,q2,r2,h7,e⟩:=G.at6 hv
   rw [h6] at h7
   injection h7 with h7
   injection h7 with h7 _
   rw [e,← h7,if_pos hv]
   rfl
  ·have hv0:P.v6=false:=by simpa using hv
   rw [if_neg hv,G.at4 hv0,hS.1 hv0]
 have hpr:P.t.pr=pr:=by rw [G.eq]
 have hsz:P.sz=(N:Int):=by rw [G.eq]
 subst hSz
 rw [hpr] at h3
 refine natO_keep B N S P.v6 s pr _ _ _ port i (by omega) ?_ h2 h3 h4
 rw [aw_len]
 rcases h1 with h1 | h1
 ·exact .inl h1
 ·right
  by_cases hv:P.v6=true
  ·rw [if_pos hv] at h1 ⊢; omega
  ·rw [if_neg hv] at h1 ⊢; omega
theorem least_any (v6:Bool) (w:World):Calls Try.prog 27 #[.bool v6] w fun o w'=>o=.returned (.int .i64 (if v6=true then 40 else 20))∧Below w.heap.size w w':=by
 cases v6
 ·go_enter Try.func27,Try.ntmps27
  go_wp2_with fail
  go_ret
  exact ⟨rfl,Below.refl _ _⟩
 ·go_enter Try.func27,Try.ntmps27
  go_wp2_with fail
  go_ret
  exact ⟨rfl,Below.refl _ _⟩
end Go.Proofs.Ytodckfgfbcnkoaa.natK
/- Layer 15: the example; a flow with another side. -/
namespace Go.Proofs.Ytodckfgfbcnkoaa.natF
set_option maxHeartbeats 4000000
set_option maxRecDepth 100000
open base octA rdrA rdrG sixW sixM pktA pktB pktC pktD pktE sixE pktG  natA natE pktS
theorem awake_any (w:World):Calls Try.prog 23 #[] w fun o w'=>o=.returned (.bool true)∧Below w.heap.size w w':=by
 obtain ⟨B,hB1,_,_,hB3,hB4⟩:=natK.dgram_madeS 17 false 0 0 false 0 167772161 0 0 9 0 [] (by simp) (fun x hx=>by cases hx) (by omega) (by omega) (by omega) (by omega) ⟨rfl,rfl,by omega,by omega,by omega,.inr ⟨rfl,rfl,by omega,by omega⟩⟩
 have hBl:B.length=28:=by rw [hB1]; rfl
 have HD:=Lib.hid (fun V=>hB4 none 0 0 V (Sl.none_ V))
 have hBu:∀ V A n c,Sl V A n c B→U8 B:=fun V A n c h=>h.u8
 by_cases hu:U8 B
 ·obtain ⟨X,hX1,hX2,hX3,hX4,_,hX6⟩:=turn_good B hu (by omega) _ hB3 rfl 1 (by omega) 0 167772162 7 (by omega) (by omega) (by omega) (by omega) (by omega) (by omega) (by rfl)
  have HT:=Lib.hid hX6
  have HP:=Lib.hid (fun V A n c (h:Sl V A n c X)=>parse_any A n c X V h (by have:=h.len; omega))
  rw [hX1] at HP
  have HV:=Lib.hid (fun (k:Int) (h:0≤k) (h2:k≤4294967295) (V:World)=>fourA.v4_any k h h2 V)
  obtain ⟨Y,hY⟩:∃ Y:Array Value,Y=#[.bool false,.int .i64 17,.bool false,.int .u64 0,.int .u64 0,.bool false,.int .u64 0,.int .u64 167772162,.int .i64 0,.int .i64 7,.int .i64 9,.int .i64 0,.bool false,.int .i64 zeroT.pr,.bool zeroT.s6,.int .u64 zeroT.sh,.int .u64 zeroT.sl,.bool zeroT.d6,.int .u64 zeroT.dh,.int .u64 zeroT.dl,.int .i64 zeroT.sp,.int .i64 zeroT.dp,.int .i64 (B.length:Int)]:=⟨_,rfl⟩
  have HPY:=Lib.hid (show ∀ V A n c,Sl V A n c X→Calls Try.prog 14 #[.slice A n c] V fun o w'=>o=.returned (.tuple #[.agg Y,.int .i64 0])∧Below V.heap.size V w' from fun V A n c h=>by rw [hY]; exact HP.out V A n c h)
  have ys:Y.size=23:=by rw [hY]; rfl
  have ONE:=Lib.hid (show Y.all (·.oneCell')=true from by rw [hY]; simp [Value.oneCell'])
  have HIY:=Lib.hid (show (Try.prog.info? 36).map (·.size)=some Y.size from by rw [ys]; exact pk_size)
  have ZY:=Lib.hid (show (#[.bool false,.int .i64 0,.bool false,.int .u64 0,.int .u64 0,.bool false,.int .u64 0,.int .u64 0,.int .i64 0,.int .i64 0,.int .i64 0,.int .i64 0,.bool false,.int .i64 0,.bool false,.int .u64 0,.int .u64 0,.bool false,.int .u64 0,.int .u64 0,.int .i64 0,.int .i64 0,.int .i64 0]:Array Value).size=Y.size from by rw [ys]; rfl)
  have HY:=Lib.hid hY
  clear hB1 hB3 hB4 hBl hBu hu hX1 hX2 hX3 hX4 hX6 HP hY ys
  go_enter Try.func23,Try.ntmps23
  go_wp2_with fail
  refine (HV.out 167772161 (by omega) (by omega) _).mono ?_
  rintro o w1 ⟨rfl,hb1⟩
  have B1:=Lib.hid hb1
  clear hb1
  go_wp2_with fail
  refine (HD.out _).mono ?_
  rintro o w2 ⟨hb2,A2,n2,c2,rfl,hs2⟩
  have B2:=Lib.hid (B1.out.trans (hb2.mono B1.out.size))
  have S2:=Lib.hid hs2
  clear hb2 hs2
  go_wp2_with fail
  refine (HV.out 167772162 (by omega) (by omega) _).mono ?_
  rintro o w3 ⟨rfl,hb3⟩
  have B3:=Lib.hid (B2.out.trans (hb3.mono B2.out.size))
  have S3:=Lib.hid (S2.out.below hb3)
  clear hb3
  go_wp2_with fail
  refine (HT.out _ _ _ _ S3.out).mono ?_
  rintro o w4 ⟨hb4,A4,n4,c4,rfl,hs4⟩
  have B4:=Lib.hid (B3.out.trans (hb4.mono B3.out.size))
  have S4:=Lib.hid hs4
  clear hb4 hs4
  go_wp2_with fail
  refine (HPY.out _ _ _ _ S4.out).mono ?_
  rintro o w5 ⟨rfl,hb5⟩
  obtain ⟨w6,hw6⟩:∃ w6,w6=(w5.alloc (.cells #[.bool false,.int .i64 0,.bool false,.int .u64 0,.int .u64 0,.bool false,.int .u64 0,.int .u64 0,.int .i64 0,.int .i64 0,.int .i64 0,.int .i64 0,.bool false,.int .i64 0,.bool false,.int .u64 0,.int .u64 0,.bool false,.int .u64 0,.int .u64 0,.int .i64 0,.int .i64 0,.int .i64 0] 36)).setRow w5.heap.size Y:=⟨_,rfl⟩
  obtain ⟨g,hg⟩:∃ g,g=w5.heap.size:=⟨_,rfl⟩
  have E6:=Lib.hid hw6
  have EG:=Lib.hid hg
  have K6:=Lib.hid (show Blk w6 g 36 Y from by rw [hw6,hg]; exact blkRow (Blk.new w5 _ _) _)
  have B56:=Lib.hid (show Below w5.heap.size w5 w6 from by rw [hw6]; exact (onlyRow _).from ((Below.refl _ _).alloc (Nat.le_refl _) _) (Nat.le_refl _))
  have B6:=Lib.hid ((B4.out.trans (hb5.mono B4.out.size)).trans (B56.out.mono (B4.out.trans (hb5.mono B4.out.size)).size))
  clear hw6 hg hb5
  go_upto_region 4 with (refine wpList_store_row rfl 36 _ _ rfl w5.heap.size Y rfl rfl 36 #[.bool false,.int .i64 0,.bool false,.int .u64 0,.int .u64 0,.bool false,.int .u64 0,.int .u64 0,.int .i64 0,.int .i64 0,.int .i64 0,.int .i64 0,.bool false,.int .i64 0,.bool false,.int .u64 0,.int .u64 0,.bool false,.int .u64 0,.int .u64 0,.int .i64 0,.int .i64 0,.int .i64 0] (Blk.new w5 _ _) HIY.out ZY.out ONE.out ?_)
  rw [← E6.out,← EG.out]
  have HSF:=Lib.hid (show ∀ V,Below w6.heap.size w6 V→(V.cell? ⟨g,5,none⟩=some (.bool false)∧V.cell? ⟨g,6,none⟩=some (.int .u64 0)∧V.cell? ⟨g,7,none⟩=some (.int .u64 167772162)∧V.cell? ⟨g,9,none⟩=some (.int .i64 7)) from fun V hV=>by
   have h:=K6.out.below hV K6.out.lt
   rw [HY.out] at h
   exact ⟨h.cell 5,h.cell 6,h.cell 7,h.cell 9⟩)
  have HS0:=Lib.hid (HSF.out w6.drew (Below.refl _ _).drew)
  go_region_held3 (fun V=>V.cell? ⟨g,5,none⟩=some (.bool false)∧V.cell? ⟨g,6,none⟩=some (.int .u64 0)∧V.cell? ⟨g,7,none⟩=some (.int .u64 167772162)∧V.cell? ⟨g,9,none⟩=some (.int .i64 7)) (first | with_reducible assumption | with_reducible exact HS0.out | with_reducible exact HS7.out) (first | (go_at_call 34; (with_reducible refine (HV.out 167772162 (by omega) (by omega) _).mono ?_); rintro o w7 ⟨rfl,hb7⟩; have B67:=Lib.hid ((Below.refl w6.heap.size w6).drew.trans (hb7.mono (Nat.le_refl _))); have HS7:=Lib.hid (HSF.out w7 B67.out); clear hb7))
  go_wp2_with fail
  go_ret
  exact ⟨rfl,B6.out.trans (B67.out.mono B6.out.size)⟩
 ·-- a call that gives these bytes says that they are bytes
  have HN:∀ V,Calls Try.prog 26 #[.agg #[.int .i64 17,.bool false,.int .u64 0,.int .u64 0,.bool false,.int .u64 0,.int .u64 167772161,.int .i64 0,.int .i64 0],.int .i64 9,.slice none 0 0] V fun o w'=>False:=fun V=>(HD.out V).mono fun o w' k=>by
   obtain ⟨_,A,n,c,_,hs⟩:=k
   exact hu hs.u8
  have HV:=Lib.hid (fun (k:Int) (h:0≤k) (h2:k≤4294967295) (V:World)=>fourA.v4_any k h h2 V)
  have HN2:=Lib.hid HN
  clear hB1 hB3 hB4 hBl hBu hu HN HD
  go_enter Try.func23,Try.ntmps23
  go_wp2_with fail
  refine (HV.out 167772161 (by omega) (by omega) _).mono ?_
  rintro o w1 ⟨rfl,hb1⟩
  go_wp2_with fail
  refine (HN2.out _).mono ?_
  rintro o w2 h
  exact h.elim
end Go.Proofs.Ytodckfgfbcnkoaa.natF
/- Layer 15: what is not turned stays as it was. -/
namespace Go.Proofs.Ytodckfgfbcnkoaa.natL
set_option maxHeartbeats 8000000
set_option maxRecDepth 100000
open base octA rdrA rdrG sixW sixM pktA pktB pktC pktE sixE  natA pktL natF natK
theorem rng_blk {W:World} {g:Nat} {t:TypeId} {cs:Array Value} (h:Blk W g t cs):W.rangeAt g 0 cs.toList:=fun j v hv=>by
 rw [Nat.zero_add,h.cell j,← Array.getElem?_toList]
 exact hv
theorem law_all (pr:Int) (s6:Bool) (sh sl:Int) (d6:Bool) (dh dl sp dp:Int) (t6:Bool) (th tl port flags s:Int) (A:Option Addr) (n0 n c:Nat) (w:World) (e1 e f:Int) (B1 B X:List Int)
  (he:(e1=0∧e=0∧B1=B)∨(e1≠0∧∀ V,Below w.heap.size w V→Calls Try.prog 26 #[.agg #[.int .i64 pr,.bool s6,.int .u64 sh,.int .u64 sl,.bool d6,.int .u64 dh,.int .u64 dl,.int .i64 sp,.int .i64 dp],.int .i64 64,.slice A n c] V (MkP e B V)))
  (HC:Hid (∀ W,Calls Try.prog 10 #[.slice A n0 c] W fun o w'=>o=.returned (.slice A n c)∧W=w'))
  (HSG:Hid (∀ V,Below w.heap.size w V→Calls Try.prog 25 #[.agg #[.int .i64 pr,.bool s6,.int .u64 sh,.int .u64 sl,.bool d6,.int .u64 dh,.int .u64 dl,.int .i64 sp,.int .i64 dp],.int .i64 64,.int .i64 flags,.slice A n c] V (MkP e1 B1 V)))
  (HT:Hid (e=0→∀ V A2 n2 c2,Sl V A2 n2 c2 B→Calls Try.prog 22 #[.slice A2 n2 c2,.int .i64 s,.agg #[.bool t6,.int .u64 th,.int .u64 tl],.int .i64 port] V (MkP f X V)))
  (HG:Hid (e=0→f=0→(X.length=B.length∧B.length≤1000∧(s=0∨s=1)∧(pr=6∨pr=17))∧∀ i:Nat,i<B.length→((i:Int)<(if s6=true then 8 else 12)+(if s=1 then (if s6=true then 16 else 4) else 0)∨(if s6=true then 8 else 12)+(if s=1 then (if s6=true then 16 else 4) else 0)+(if s6=true then 16 else 4)≤(i:Int))→((i:Int)≠(if s6=true then 40 else 20)+2*s∧(i:Int)≠(if s6=true then 40 else 20)+2*s+1)→((i:Int)≠(if s6=true then 40 else 20)+(if pr=17 then 6 else 16)∧(i:Int)≠(if s6=true then 40 else 20)+(if pr=17 then 6 else 16)+1)→(s6=false→i≠10∧i≠11)→X.getD i 0=B.getD i 0)) :
  Calls Try.prog 7 #[.agg #[.int .i64 pr,.bool s6,.int .u64 sh,.int .u64 sl,.bool d6,.int .u64 dh,.int .u64 dl,.int .i64 sp,.int .i64 dp],.int .i64 flags,.slice A n0 c,.int .i64 s,.agg #[.bool t6,.int .u64 th,.int .u64 tl],.int .i64 port] w fun o w'=>o=.returned (.bool true)∧Below w.heap.size w w':=by
 have HAW:=Lib.hid awake_any
 have HE:=Lib.hid he
 clear he
 obtain ⟨w1,hw1⟩:∃ w1,w1=(w.alloc (.cells #[.int .i64 pr,.bool s6,.int .u64 sh,.int .u64 sl,.bool d6,.int .u64 dh,.int .u64 dl,.int .i64 sp,.int .i64 dp] 34)).alloc (.cells #[.bool t6,.int .u64 th,.int .u64 tl] 32):=⟨_,rfl⟩
 have E1:=Lib.hid hw1
 have B1_:=Lib.hid (show Below w.heap.size w w1 from by rw [hw1]; exact ((Below.refl _ _).alloc (Nat.le_refl _) _).alloc (by simp) _)
 obtain ⟨g,hg⟩:∃ g,g=w.heap.size:=⟨_,rfl⟩
 obtain ⟨h,hh⟩:∃ h,h=w.heap.size+1:=⟨_,rfl⟩
 have EG:=Lib.hid hg
 have EH:=Lib.hid hh
 have K1:=Lib.hid (show Blk w1 g 34 #[.int .i64 pr,.bool s6,.int .u64 sh,.int .u64 sl,.bool d6,.int .u64 dh,.int .u64 dl,.int .i64 sp,.int .i64 dp] from by rw [hw1,hg]; exact (Blk.new w _ _).below ((Below.refl _ _).alloc (Nat.le_refl _) _) (Blk.new w _ _).lt)
 have H1:=Lib.hid (show Blk w1 h 32 #[.bool t6,.int .u64 th,.int .u64 tl] from by
  have h9:=Blk.new (w.alloc (.cells #[.int .i64 pr,.bool s6,.int .u64 sh,.int .u64 sl,.bool d6,.int .u64 dh,.int .u64 dl,.int .i64 sp,.int .i64 dp] 34)) 32 #[.bool t6,.int .u64 th,.int .u64 tl]
  rw [← hw1] at h9
  rw [hh]
  simpa using h9)
 have HV:=Lib.hid Try.underlying34
 have HIT:=Lib.hid (show (Try.prog.info? 34).map (·.size)=some 9 from by kernel_rfl)
 clear hw1 hg hh
 go_enter Try.func7,Try.ntmps7
 go_upto_region 1 with fail
 rw [← E1.out,← EH.out,← EG.out]
 have D0:=Lib.hid ((Below.refl w1.heap.size w1).drew)
 have HS_:=Lib.hid (show ∀ W,Below w1.heap.size w1 W→W.rangeAt g 0 (#[.int .i64 pr,.bool s6,.int .u64 sh,.int .u64 sl,.bool d6,.int .u64 dh,.int .u64 dl,.int .i64 sp,.int .i64 dp]:Array Value).toList from fun W hW=>rng_blk (K1.out.below hW K1.out.lt))
 have s0:=HS_.out w1.drew D0.out
 refine wp_region_held_drew (S:=fun V=>V.rangeAt g 0 (#[.int .i64 pr,.bool s6,.int .u64 sh,.int .u64 sl,.bool d6,.int .u64 dh,.int .u64 dl,.int .i64 sp,.int .i64 dp]:Array Value).toList) (by kernel_rfl) s0 (fun hHeld=>?_)
 refine wpAnyH_take (i:=0) (v:=.agg #[.int .i64 pr,.bool s6,.int .u64 sh,.int .u64 sl,.bool d6,.int .u64 dh,.int .u64 dl,.int .i64 sp,.int .i64 dp]) rfl (by kernel_rfl) (by kernel_rfl) (by kernel_rfl) (fun _ _ _ h=>h) (yieldsIf_load_mid (by rfl) _ _ rfl g 0 rfl (#[.int .i64 pr,.bool s6,.int .u64 sh,.int .u64 sl,.bool d6,.int .u64 dh,.int .u64 dl,.int .i64 sp,.int .i64 dp]:Array Value).toList _ (fun _ h=>h) HV.out rfl (by first | exact HIT.out | kernel_rfl)) (by assumption) ?_
 try simp only [List.getElem_toArray,List.getElem_cons_zero,Act.put,List.setIfInBounds_toArray,List.set_cons_zero,List.set_cons_succ]
 refine wpAnyH_take (i:=1) (v:=.int .i64 flags) rfl (by kernel_rfl) (by kernel_rfl) (by kernel_rfl) (fun _ _ _ h=>h) (Or.inl ⟨by rfl,?_⟩) (by assumption) ?_
 ·intro V hV
  go_simp
 try simp only [List.getElem_toArray,List.getElem_cons_zero,List.getElem_cons_succ,Act.put,List.setIfInBounds_toArray,List.set_cons_zero,List.set_cons_succ]
 refine wpAnyH_take (i:=2) (v:=.slice A n0 c) rfl (by kernel_rfl) (by kernel_rfl) (by kernel_rfl) (fun _ _ _ h=>h) (Or.inl ⟨by rfl,?_⟩) (by assumption) ?_
 ·intro V hV
  go_simp
 try simp only [List.getElem_toArray,List.getElem_cons_zero,List.getElem_cons_succ,Act.put,List.setIfInBounds_toArray,List.set_cons_zero,List.set_cons_succ]
 refine wpAnyH_ready (rs:=[3]) (by kernel_rfl) (by simp) ?_
 refine AllReadyH.cons rfl (fun K hK=>?_) AllReadyH.nil
 go_simp
 go_at_call 10
 (with_reducible refine (HC.out _).mono ?_)
 rintro o w' ⟨rfl,rfl⟩
 refine hK.out _ _ ?_ (fun hHeld=>?_)
 ·exact s0
 clear hK K
 try simp only [List.getElem_toArray,List.getElem_cons_zero,List.getElem_cons_succ,Act.put,List.setIfInBounds_toArray,List.set_cons_zero,List.set_cons_succ]
 refine wpAnyH_ready (rs:=[4]) (by kernel_rfl) (by simp) ?_
 refine AllReadyH.cons rfl (fun K hK=>?_) AllReadyH.nil
 go_simp
 go_at_call 25
 (with_reducible refine (HSG.out _ (B1_.out.trans (D0.out.mono B1_.out.size))).mono ?_)
 rintro o w2 ⟨hb_,A2,n2,c2,rfl,hs2⟩
 have SL2:=Lib.hid hs2
 clear hs2
 have D1:=Lib.hid (D0.out.trans (hb_.mono D0.out.size))
 have s1:=HS_.out w2 D1.out
 clear hb_
 refine hK.out _ _ ?_ (fun hHeld=>?_)
 ·exact s1
 clear hK K
 try simp only [List.getElem_toArray,List.getElem_cons_zero,List.getElem_cons_succ,Act.put,List.setIfInBounds_toArray,List.set_cons_zero,List.set_cons_succ]
 refine wpAnyH_take (i:=5) (v:=.tuple #[.slice A2 n2 c2,.int .i64 e1]) rfl (by kernel_rfl) (by kernel_rfl) (by kernel_rfl) (fun _ _ _ h=>h) (Or.inl ⟨by rfl,?_⟩) (by assumption) ?_
 ·intro V hV
  go_simp
 try simp only [List.getElem_toArray,List.getElem_cons_zero,List.getElem_cons_succ,Act.put,List.setIfInBounds_toArray,List.set_cons_zero,List.set_cons_succ]
 refine wpAnyH_take (i:=6) (v:=.slice A2 n2 c2) rfl (by kernel_rfl) (by kernel_rfl) (by kernel_rfl) (fun _ _ _ h=>h) (Or.inl ⟨by rfl,?_⟩) (by assumption) ?_
 ·intro V hV
  go_simp
 try simp only [List.getElem_toArray,List.getElem_cons_zero,List.getElem_cons_succ,Act.put,List.setIfInBounds_toArray,List.set_cons_zero,List.set_cons_succ]
 refine wpAnyH_take (i:=7) (v:=.int .i64 e1) rfl (by kernel_rfl) (by kernel_rfl) (by kernel_rfl) (fun _ _ _ h=>h) (Or.inl ⟨by rfl,?_⟩) (by assumption) ?_
 ·intro V hV
  go_simp
 try simp only [List.getElem_toArray,List.getElem_cons_zero,List.getElem_cons_succ,Act.put,List.setIfInBounds_toArray,List.set_cons_zero,List.set_cons_succ]
 refine wpAnyH_take (i:=8) (v:=.slice A2 n2 c2) rfl (by kernel_rfl) (by kernel_rfl) (by kernel_rfl) (fun _ _ _ h=>h) (Or.inl ⟨by rfl,?_⟩) (by assumption) ?_
 ·intro V hV
  go_simp
 try simp only [List.getElem_toArray,List.getElem_cons_zero,List.getElem_cons_succ,Act.put,List.setIfInBounds_toArray,List.set_cons_zero,List.set_cons_succ]
 refine wpAnyH_take (i:=9) (v:=.int .i64 e1) rfl (by kernel_rfl) (by kernel_rfl) (by kernel_rfl) (fun _ _ _ h=>h) (Or.inl ⟨by rfl,?_⟩) (by assumption) ?_
 ·intro V hV
  go_simp
 try simp only [List.getElem_toArray,List.getElem_cons_zero,List.getElem_cons_succ,Act.put,List.setIfInBounds_toArray,List.set_cons_zero,List.set_cons_succ]
 refine wpAnyH_done (by kernel_rfl) ?_ _
 clear s0 s1 hHeld HS_ D0
 have K2:=Lib.hid (K1.out.below D1.out K1.out.lt)
 have H2:=Lib.hid (H1.out.below D1.out H1.out.lt)
 have B2:=Lib.hid (B1_.out.trans (D1.out.mono B1_.out.size))
 clear D1
 go_upto_if 32 with fail
 go_cut [13,14] (fun a b wx=>∃ A3 n3 c3,a=.slice A3 n3 c3∧b=.int .i64 e∧Hid (Sl wx A3 n3 c3 B)∧Hid (Below w2.heap.size w2 wx))
 case first =>
  rcases HE.out with ⟨h1,h2,h3⟩ | ⟨h1,h2⟩
  ·have t1:(e1 != 0)=false:=by simp [h1]
   obtain rfl:e1=e:=h1.trans h2.symm
   subst h3
   clear h1 h2
   go_wp2_with fail
   go_meet
   exact ⟨A2,n2,c2,rfl,rfl,SL2,Lib.hid (Below.refl _ _)⟩
  ·have t1:(e1 != 0)=true:=by simpa using h1
   have HD:=Lib.hid h2
   clear h1 h2
   go_upto_region 3 with fail
   have D0:=Lib.hid ((Below.refl w2.heap.size w2).drew)
   have HS_:=Lib.hid (show ∀ W,Below w2.heap.size w2 W→W.rangeAt g 0 (#[.int .i64 pr,.bool s6,.int .u64 sh,.int .u64 sl,.bool d6,.int .u64 dh,.int .u64 dl,.int .i64 sp,.int .i64 dp]:Array Value).toList from fun W hW=>rng_blk (K2.out.below hW K2.out.lt))
   have s0:=HS_.out w2.drew D0.out
   refine wp_region_held_drew (S:=fun V=>V.rangeAt g 0 (#[.int .i64 pr,.bool s6,.int .u64 sh,.int .u64 sl,.bool d6,.int .u64 dh,.int .u64 dl,.int .i64 sp,.int .i64 dp]:Array Value).toList) (by kernel_rfl) s0 (fun hHeld=>?_)
   refine wpAnyH_take (i:=0) (v:=.agg #[.int .i64 pr,.bool s6,.int .u64 sh,.int .u64 sl,.bool d6,.int .u64 dh,.int .u64 dl,.int .i64 sp,.int .i64 dp]) rfl (by kernel_rfl) (by kernel_rfl) (by kernel_rfl) (fun _ _ _ h=>h) (yieldsIf_load_mid (by rfl) _ _ rfl g 0 rfl (#[.int .i64 pr,.bool s6,.int .u64 sh,.int .u64 sl,.bool d6,.int .u64 dh,.int .u64 dl,.int .i64 sp,.int .i64 dp]:Array Value).toList _ (fun _ h=>h) HV.out rfl (by first | exact HIT.out | kernel_rfl)) (by assumption) ?_
   try simp only [List.getElem_toArray,List.getElem_cons_zero,Act.put,List.setIfInBounds_toArray,List.set_cons_zero,List.set_cons_succ]
   refine wpAnyH_take (i:=1) (v:=.slice A n0 c) rfl (by kernel_rfl) (by kernel_rfl) (by kernel_rfl) (fun _ _ _ h=>h) (Or.inl ⟨by rfl,?_⟩) (by assumption) ?_
   ·intro V hV
    go_simp
   try simp only [List.getElem_toArray,List.getElem_cons_zero,List.getElem_cons_succ,Act.put,List.setIfInBounds_toArray,List.set_cons_zero,List.set_cons_succ]
   refine wpAnyH_ready (rs:=[2]) (by kernel_rfl) (by simp) ?_
   refine AllReadyH.cons rfl (fun K hK=>?_) AllReadyH.nil
   go_simp
   go_at_call 10
   (with_reducible refine (HC.out _).mono ?_)
   rintro o w' ⟨rfl,rfl⟩
   refine hK.out _ _ ?_ (fun hHeld=>?_)
   ·exact s0
   clear hK K
   try simp only [List.getElem_toArray,List.getElem_cons_zero,List.getElem_cons_succ,Act.put,List.setIfInBounds_toArray,List.set_cons_zero,List.set_cons_succ]
   refine wpAnyH_ready (rs:=[3]) (by kernel_rfl) (by simp) ?_
   refine AllReadyH.cons rfl (fun K hK=>?_) AllReadyH.nil
   go_simp
   go_at_call 26
   (with_reducible refine (HD.out _ (B2.out.trans (D0.out.mono B2.out.size))).mono ?_)
   rintro o w4 ⟨hb_,A4,n4,c4,rfl,hs4⟩
   have SL4:=Lib.hid hs4
   clear hs4
   have D1:=Lib.hid (D0.out.trans (hb_.mono D0.out.size))
   have s1:=HS_.out w4 D1.out
   clear hb_
   refine hK.out _ _ ?_ (fun hHeld=>?_)
   ·exact s1
   clear hK K
   try simp only [List.getElem_toArray,List.getElem_cons_zero,List.getElem_cons_succ,Act.put,List.setIfInBounds_toArray,List.set_cons_zero,List.set_cons_succ]
   refine wpAnyH_take (i:=4) (v:=.tuple #[.slice A4 n4 c4,.int .i64 e]) rfl (by kernel_rfl) (by kernel_rfl) (by kernel_rfl) (fun _ _ _ h=>h) (Or.inl ⟨by rfl,?_⟩) (by assumption) ?_
   ·intro V hV
    go_simp
   try simp only [List.getElem_toArray,List.getElem_cons_zero,List.getElem_cons_succ,Act.put,List.setIfInBounds_toArray,List.set_cons_zero,List.set_cons_succ]
   refine wpAnyH_take (i:=5) (v:=.slice A4 n4 c4) rfl (by kernel_rfl) (by kernel_rfl) (by kernel_rfl) (fun _ _ _ h=>h) (Or.inl ⟨by rfl,?_⟩) (by assumption) ?_
   ·intro V hV
    go_simp
   try simp only [List.getElem_toArray,List.getElem_cons_zero,List.getElem_cons_succ,Act.put,List.setIfInBounds_toArray,List.set_cons_zero,List.set_cons_succ]
   refine wpAnyH_take (i:=6) (v:=.int .i64 e) rfl (by kernel_rfl) (by kernel_rfl) (by kernel_rfl) (fun _ _ _ h=>h) (Or.inl ⟨by rfl,?_⟩) (by assumption) ?_
   ·intro V hV
    go_simp
   try simp only [List.getElem_toArray,List.getElem_cons_zero,List.getElem_cons_succ,Act.put,List.setIfInBounds_toArray,List.set_cons_zero,List.set_cons_succ]
   refine wpAnyH_take (i:=7) (v:=.slice A4 n4 c4) rfl (by kernel_rfl) (by kernel_rfl) (by kernel_rfl) (fun _ _ _ h=>h) (Or.inl ⟨by rfl,?_⟩) (by assumption) ?_
   ·intro V hV
    go_simp
   try simp only [List.getElem_toArray,List.getElem_cons_zero,List.getElem_cons_succ,Act.put,List.setIfInBounds_toArray,List.set_cons_zero,List.set_cons_succ]
   refine wpAnyH_take (i:=8) (v:=.int .i64 e) rfl (by kernel_rfl) (by kernel_rfl) (by kernel_rfl) (fun _ _ _ h=>h) (Or.inl ⟨by rfl,?_⟩) (by assumption) ?_
   ·intro V hV
    go_simp
   try simp only [List.getElem_toArray,List.getElem_cons_zero,List.getElem_cons_succ,Act.put,List.setIfInBounds_toArray,List.set_cons_zero,List.set_cons_succ]
   refine wpAnyH_done (by kernel_rfl) ?_ _
   clear s0 s1 hHeld HS_ D0
   go_wp2_with fail
   go_meet
   exact ⟨A4,n4,c4,rfl,rfl,SL4,D1⟩
 case rest =>
  obtain ⟨A3,n3,c3,rfl,rfl,SL3,D3⟩:=hcut
  have K3:=Lib.hid (K2.out.below D3.out K2.out.lt)
  have H3:=Lib.hid (H2.out.below D3.out H2.out.lt)
  have B3:=Lib.hid (B2.out.trans (D3.out.mono B2.out.size))
  clear D3
  by_cases hez:e=0
  case neg =>
   have te:(e != 0)=true:=by simpa using hez
   clear hez
   go_wp2_with fail
   refine (HAW.out _).mono ?_
   rintro o w9 ⟨rfl,hb9⟩
   go_wp2_with fail
   go_ret
   exact ⟨rfl,B3.out.trans (hb9.mono B3.out.size)⟩
  case pos =>
   subst hez
   have x0:=H3.out.cell 0
   have x1:=H3.out.cell 1
   have x2:=H3.out.cell 2
   go_wp2_with fail
   refine (HT.out trivial _ _ _ _ SL3.out).mono ?_
   rintro o w5 ⟨hb5,AX,nx,cx,rfl,hsx⟩
   have SX5:=Lib.hid hsx
   have SL5:=Lib.hid (SL3.out.below hb5)
   have K5:=Lib.hid (K3.out.below hb5 K3.out.lt)
   have B5:=Lib.hid (B3.out.trans (hb5.mono B3.out.size))
   clear hb5 hsx x0 x1 x2
   by_cases hfz:f=0
   case neg =>
    have te:(f != 0)=true:=by simpa using hfz
    clear hfz
    go_wp2_with fail
    refine (HAW.out _).mono ?_
    rintro o w9 ⟨rfl,hb9⟩
    go_wp2_with fail
    go_ret
    exact ⟨rfl,B5.out.trans (hb9.mono B5.out.size)⟩
   case pos =>
    subst hfz
    obtain ⟨⟨g1,g2,g3,g4⟩,g5⟩:=HG.out trivial rfl
    obtain ⟨z,hz⟩:∃ z:Int,z=if s6=true then 40 else 20:=⟨_,rfl⟩
    obtain ⟨a0,ha0⟩:∃ z:Int,z=if s6=true then 8 else 12:=⟨_,rfl⟩
    obtain ⟨lo,hlo⟩:∃ z:Int,z=if s6=true then 16 else 4:=⟨_,rfl⟩
    obtain ⟨a1,ha1⟩:∃ z:Int,z=a0+if s=1 then lo else 0:=⟨_,rfl⟩
    obtain ⟨k0,hk0⟩:∃ z:Int,z=if pr=17 then 6 else 16:=⟨_,rfl⟩
    obtain ⟨ck,hck⟩:∃ y:Int,y=z+k0:=⟨_,rfl⟩
    obtain ⟨al,hal⟩:∃ z:Int,z=a1+lo:=⟨_,rfl⟩
    obtain ⟨s2,hs2⟩:∃ z:Int,z=2*s:=⟨_,rfl⟩
    obtain ⟨zs,hzs⟩:∃ y:Int,y=z+s2:=⟨_,rfl⟩
    obtain ⟨zt,hzt⟩:∃ y:Int,y=zs+1:=⟨_,rfl⟩
    obtain ⟨cl,hcl⟩:∃ y:Int,y=ck+1:=⟨_,rfl⟩
    have Z40:20≤z∧z≤40:=by rw [hz]; split <;> omega
    have A12:8≤a0∧a0≤12:=by rw [ha0]; split <;> omega
    have L16:4≤lo∧lo≤16:=by rw [hlo]; split <;> omega
    have K16:6≤k0∧k0≤16:=by rw [hk0]; split <;> omega
    have A28:8≤a1∧a1≤28:=by rw [ha1]; split <;> omega
    have u1:IntKind.i64.wrap (a1+lo)=al:=by rw [hal]; exact IntWalk.i64_in _ (by omega)
    have u2:IntKind.i64.wrap (2*s)=s2:=by rw [hs2]; exact IntWalk.i64_in _ (by omega)
    have u3:IntKind.i64.wrap (z+s2)=zs:=by rw [hzs]; exact IntWalk.i64_in _ (by omega)
    have u4:IntKind.i64.wrap (zs+1)=zt:=by rw [hzt]; exact IntWalk.i64_in _ (by omega)
    have u5:IntKind.i64.wrap (ck+1)=cl:=by rw [hcl]; exact IntWalk.i64_in _ (by omega)
    have KEEP:=Lib.hid (show ∀ i:Nat,i<B.length→((i:Int)<a1∨al≤(i:Int))→((i:Int)≠zs∧(i:Int)≠zt)→((i:Int)≠ck∧(i:Int)≠cl)→(s6=false→i≠10∧i≠11)→X.getD i 0=B.getD i 0 from fun i hi q1 q2 q3 q4=>g5 i hi (by rw [← ha0,← hlo,← ha1,← hal]; exact q1) (by rw [← hz,← hs2,← hzs,← hzt]; exact q2) (by rw [← hz,← hk0,← hck,← hcl]; exact q3) q4)
    have HL:=Lib.hid (show ∀ V,Calls Try.prog 27 #[.bool s6] V fun o w'=>o=.returned (.int .i64 z)∧Below V.heap.size V w' from fun V=>by rw [hz]; exact least_any s6 V)
    have HZ:=Lib.hid hz
    have HA0:=Lib.hid ha0
    have HLO:=Lib.hid hlo
    have HA1:=Lib.hid ha1
    have HK0:=Lib.hid hk0
    have HCK:=Lib.hid hck
    have GS:=Lib.hid g3
    have GP:=Lib.hid g4
    obtain rfl:n3=nx:=by have:=SX5.out.len; have:=SL5.out.len; omega
    have NL:=Lib.hid (show B.length=n3∧n3≤1000 from by have:=SL5.out.len; omega)
    have XL:=Lib.hid (show X.length=n3 from SX5.out.len)
    clear hz ha0 hlo ha1 hk0 hck hal hs2 hzs hzt hcl g1 g2 g3 g4 g5 Z40 A12 L16 K16 A28
    have c0:=K5.out.cell 0
    have c1:=K5.out.cell 1
    have nn:((n3:Int) != (n3:Int))=false:=by simp
    go_upto_if 56 with fail
    go_cut [17,18,19] (fun a b c wx=>a=.int .i64 z∧b=.int .i64 a0∧c=.int .i64 lo∧wx=w5)
    case first =>
     cases s6
     ·go_wp2_with fail
      go_meet
      exact ⟨by rw [HZ.out]; rfl,by rw [HA0.out]; rfl,by rw [HLO.out]; rfl,rfl⟩
     ·go_wp2_with fail
      go_meet
      exact ⟨by rw [HZ.out]; rfl,by rw [HA0.out]; rfl,by rw [HLO.out]; rfl,rfl⟩
    case rest =>
    obtain ⟨rfl,rfl,rfl,hwc⟩:=hcut
    rw [hwc]
    clear hwc
    go_upto_if 58 with fail
    go_cut [18] (fun a wx=>a=.int .i64 a1∧wx=w5)
    case first =>
     have v1:IntKind.i64.wrap (a0+lo)=a0+lo:=IntWalk.i64_in _ (by rw [HA0.out,HLO.out]; constructor <;> split <;> omega)
     by_cases hs:s=1
     ·have t1:(s == 1)=true:=by simp [hs]
      have HS:=Lib.hid hs
      clear hs
      go_wp2_with fail
      go_meet
      exact ⟨by rw [HA1.out,if_pos HS.out],rfl⟩
     ·have t1:(s == 1)=false:=by simp [hs]
      have HS:=Lib.hid hs
      clear hs
      go_wp2_with fail
      go_meet
      exact ⟨by rw [HA1.out,if_neg HS.out]; simp,rfl⟩
    case rest =>
    obtain ⟨rfl,hwc⟩:=hcut
    rw [hwc]
    clear hwc
    have v0:20≤z∧z≤40:=by rw [HZ.out]; split <;> omega
    have v1:IntKind.i64.wrap (z+16)=z+16:=IntWalk.i64_in _ (by omega)
    have v2:IntKind.i64.wrap (z+6)=z+6:=IntWalk.i64_in _ (by omega)
    clear v0
    go_upto_if 66 with fail
    go_cut [20] (fun a wx=>a=.int .i64 ck∧wx=w5)
    case first =>
     by_cases hs:pr=17
     ·have t1:(pr == 17)=true:=by simp [hs]
      have HS:=Lib.hid hs
      clear hs
      go_wp2_with fail
      go_meet
      exact ⟨by rw [HCK.out,HK0.out,if_pos HS.out],rfl⟩
     ·have t1:(pr == 17)=false:=by simp [hs]
      have HS:=Lib.hid hs
      clear hs
      go_wp2_with fail
      go_meet
      exact ⟨by rw [HCK.out,HK0.out,if_neg HS.out],rfl⟩
    case rest =>
    obtain ⟨rfl,hwc⟩:=hcut
    rw [hwc]
    clear hwc
    go_upto_region 19 with (first | (go_at_call 27; refine (HL.out _).mono ?_; rintro o w6 ⟨rfl,hb6⟩))
    have B56:=Lib.hid hb6
    have B6:=Lib.hid (B5.out.trans (hb6.mono B5.out.size))
    have SL6:=Lib.hid (SL5.out.below hb6)
    have SX6:=Lib.hid (SX5.out.below hb6)
    have K6:=Lib.hid (K5.out.below hb6 K5.out.lt)
    clear hb6 c0 c1 nn
    have c1:=K6.out.cell 1
    go_wp2_with fail
    go_loopw [21,22] (fun i _ wr=>∃ k:Nat,k≤n3∧i=.int .i64 k∧Hid (Below w6.heap.size w6 wr)) (fun i _ _=>n3 - (intOf i).toNat)
    case atStart=>exact ⟨0,by omega,rfl,Lib.hid (Below.refl _ _)⟩
    case round =>
    obtain ⟨k,hk,rfl,BR⟩:=hrel
    clear c1
    have c1:=(K6.out.below BR.out K6.out.lt).cell 1
    have B7:=Lib.hid (B6.out.trans (BR.out.mono B6.out.size))
    by_cases hkn:k<n3
    case neg =>
     have p2:decide ((k:Int)<(n3:Int))=false:=decide_eq_false (by omega)
     go_wp2_with fail
     refine (HAW.out _).mono ?_
     rintro o w9 ⟨rfl,hb9⟩
     go_wp2_with fail
     go_ret
     exact ⟨rfl,B7.out.trans (hb9.mono B7.out.size)⟩
    case pos =>
     have p2:decide ((k:Int)<(n3:Int))=true:=decide_eq_true (by omega)
     have ku:IntKind.i64.wrap ((k:Int)+1)=((k+1:Nat):Int):=by have:=NL.out; rw [IntWalk.i64_in _ (by omega)]; omega
     have HKN:=Lib.hid hkn
     clear hkn hk
     go_upto_region 22 with fail
     go_cut [22] (fun v wx=>∃ b:Bool,v=.bool b∧Hid (b=false→((k:Int)<a1∨al≤(k:Int))∧((k:Int)≠zs∧(k:Int)≠zt)∧((k:Int)≠ck∧(k:Int)≠cl))∧wx=wr)
     case first =>
      by_cases o1:a1≤(k:Int)
      ·have d1:decide (a1≤(k:Int))=true:=decide_eq_true o1
       by_cases o2:(k:Int)<al
       ·have d2:decide ((k:Int)<al)=true:=decide_eq_true o2
        clear o1 o2
        go_wp2_with fail
        go_meet
        exact ⟨true,rfl,Lib.hid (fun e=>by cases e),rfl⟩
       ·have d2:decide ((k:Int)<al)=false:=decide_eq_false o2
        have OUT:=Lib.hid (show (k:Int)<a1∨al≤(k:Int) from .inr (by omega))
        clear o1 o2
        by_cases n0:(k:Int)=zs
        ·have q1:((k:Int) == zs)=true:=by simp [n0]
         clear n0
         go_wp2_with fail
         go_meet
         exact ⟨true,rfl,Lib.hid (fun e=>by cases e),rfl⟩
        have q1:((k:Int) == zs)=false:=by simp [n0]
        have M0:=Lib.hid n0
        clear n0
        by_cases n1:(k:Int)=zt
        ·have q2:((k:Int) == zt)=true:=by simp [n1]
         clear n1
         go_wp2_with fail
         go_meet
         exact ⟨true,rfl,Lib.hid (fun e=>by cases e),rfl⟩
        have q2:((k:Int) == zt)=false:=by simp [n1]
        have M1:=Lib.hid n1
        clear n1
        by_cases n2:(k:Int)=ck
        ·have q3:((k:Int) == ck)=true:=by simp [n2]
         clear n2
         go_wp2_with fail
         go_meet
         exact ⟨true,rfl,Lib.hid (fun e=>by cases e),rfl⟩
        have q3:((k:Int) == ck)=false:=by simp [n2]
        have M2:=Lib.hid n2
        clear n2
        by_cases n3:(k:Int)=cl
        ·have q4:((k:Int) == cl)=true:=by simp [n3]
         clear n3
         go_wp2_with fail
         go_meet
         exact ⟨true,rfl,Lib.hid (fun e=>by cases e),rfl⟩
        have q4:((k:Int) == cl)=false:=by simp [n3]
        have M3:=Lib.hid n3
        clear n3
        go_wp2_with fail
        go_meet
        exact ⟨false,rfl,Lib.hid (fun _=>⟨OUT.out,⟨M0.out,M1.out⟩,⟨M2.out,M3.out⟩⟩),rfl⟩
      ·have d1:decide (a1≤(k:Int))=false:=decide_eq_false o1
       have OUT:=Lib.hid (show (k:Int)<a1∨al≤(k:Int) from .inl (by omega))
       clear o1
       by_cases n0:(k:Int)=zs
       ·have q1:((k:Int) == zs)=true:=by simp [n0]
        clear n0
        go_wp2_with fail
        go_meet
        exact ⟨true,rfl,Lib.hid (fun e=>by cases e),rfl⟩
       have q1:((k:Int) == zs)=false:=by simp [n0]
       have M0:=Lib.hid n0
       clear n0
       by_cases n1:(k:Int)=zt
       ·have q2:((k:Int) == zt)=true:=by simp [n1]
        clear n1
        go_wp2_with fail
        go_meet
        exact ⟨true,rfl,Lib.hid (fun e=>by cases e),rfl⟩
       have q2:((k:Int) == zt)=false:=by simp [n1]
       have M1:=Lib.hid n1
       clear n1
       by_cases n2:(k:Int)=ck
       ·have q3:((k:Int) == ck)=true:=by simp [n2]
        clear n2
        go_wp2_with fail
        go_meet
        exact ⟨true,rfl,Lib.hid (fun e=>by cases e),rfl⟩
       have q3:((k:Int) == ck)=false:=by simp [n2]
       have M2:=Lib.hid n2
       clear n2
       by_cases n3:(k:Int)=cl
       ·have q4:((k:Int) == cl)=true:=by simp [n3]
        clear n3
        go_wp2_with fail
        go_meet
        exact ⟨true,rfl,Lib.hid (fun e=>by cases e),rfl⟩
       have q4:((k:Int) == cl)=false:=by simp [n3]
       have M3:=Lib.hid n3
       clear n3
       go_wp2_with fail
       go_meet
       exact ⟨false,rfl,Lib.hid (fun _=>⟨OUT.out,⟨M0.out,M1.out⟩,⟨M2.out,M3.out⟩⟩),rfl⟩
     case rest =>
     obtain ⟨b,rfl,HB,hwc⟩:=hcut
     rw [hwc]
     clear hwc
     go_upto_if 129 with fail
     go_cut [22] (fun v wx=>∃ b2:Bool,v=.bool b2∧Hid (b2=false→b=false∧(s6=false→k≠10∧k≠11))∧wx=wr)
     case first =>
      cases s6 with
      | true =>
       go_wp2_with fail
       go_meet
       exact ⟨b,rfl,Lib.hid (fun e=>⟨e,fun e=>by cases e⟩),rfl⟩
      | false =>
       cases b with
       | true =>
        go_wp2_with fail
        go_meet
        exact ⟨true,rfl,Lib.hid (fun e=>by cases e),rfl⟩
       | false =>
        by_cases n1:(k:Int)=10
        ·have q1:((k:Int) == 10)=true:=by simp [n1]
         clear n1
         go_wp2_with fail
         go_meet
         exact ⟨true,rfl,Lib.hid (fun e=>by cases e),rfl⟩
        have q1:((k:Int) == 10)=false:=by simp [n1]
        have M1:=Lib.hid (show k≠10 by omega)
        clear n1
        by_cases n1:(k:Int)=11
        ·have q2:((k:Int) == 11)=true:=by simp [n1]
         clear n1
         go_wp2_with fail
         go_meet
         exact ⟨true,rfl,Lib.hid (fun e=>by cases e),rfl⟩
        have q2:((k:Int) == 11)=false:=by simp [n1]
        have M2:=Lib.hid (show k≠11 by omega)
        clear n1
        go_wp2_with fail
        go_meet
        exact ⟨false,rfl,Lib.hid (fun _=>⟨by first | rfl | trivial,fun _=>⟨M1.out,M2.out⟩⟩),rfl⟩
     case rest =>
     obtain ⟨b2,rfl,HB2,hwc⟩:=hcut
     rw [hwc]
     clear hwc
     cases b2 with
     | true =>
      clear c1
      go_wp2_with fail
      go_quiet (fail)
      go_wp2_with fail
      go_roundw
      case rel=>exact ⟨k+1,by have:=HKN.out; omega,by simp,Lib.hid (below_drewN BR.out _)⟩
      case measure=>have:=HKN.out; simp [intOf]; omega
     | false =>
      obtain ⟨f1,f2⟩:=HB2.out rfl
      obtain ⟨f3,f4,f5⟩:=HB.out f1
      have EQ:=KEEP.out k (by have:=NL.out; have:=HKN.out; omega) f3 f4 f5 f2
      have SL7:=SL6.out.below BR.out
      have SX7:=SX6.out.below BR.out
      obtain ⟨b1,off1,rfl,hb1,hc1⟩:=lies_of SL7.row (by have:=NL.out; have:=HKN.out; omega)
      obtain ⟨b2,off2,rfl,hb2,hc2⟩:=lies_of SX7.row (by have:=XL.out; have:=HKN.out; omega)
      have d1:=hc1 k (by have:=NL.out; have:=HKN.out; omega)
      have d2:=hc2 k (by have:=XL.out; have:=HKN.out; omega)
      rw [EQ] at d2
      generalize B.getD k 0=y at d1 d2
      have j1:(0:Int)≤(k:Int):=by omega
      have j2:(k:Int)<(n3:Int):=by have:=HKN.out; omega
      have j3:k<n3:=HKN.out
      have yy:(y != y)=false:=by simp
      clear f1 f2 f3 f4 f5 EQ SL7 SX7 hb1 hc1 hb2 hc2 c1
      go_wp2_with fail
      go_quiet (fail)
      go_wp2_with fail
      go_roundw
      case rel=>exact ⟨k+1,by have:=HKN.out; omega,by simp,Lib.hid (below_drewN BR.out _)⟩
      case measure=>have:=HKN.out; simp [intOf]; omega
end Go.Proofs.Ytodckfgfbcnkoaa.natL
