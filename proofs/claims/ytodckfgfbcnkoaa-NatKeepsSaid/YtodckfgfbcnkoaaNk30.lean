/- 2 texts in one. -/
import Derived.Laws.AppendOwn
import Derived.OwnWalk
import Derived.Deep.WholeRow
import Derived.ArgAppend
import Derived.Test.YtodckfgfbcnkoaaNk28
import Derived.Test.YtodckfgfbcnkoaaNk29
set_option linter.unusedVariables false
set_option linter.unusedSimpArgs false
open Go.ChangeShapes Go.WideShapes Go.ChangeAt Go.RowKit
/- Layer 15: a packet with another side, where it can be. -/
namespace Go.Proofs.Ytodckfgfbcnkoaa.natD
set_option maxHeartbeats 8000000
set_option maxRecDepth 100000
open base octA rdrA rdrG sixW sixM pktA pktB pktC pktD pktE sixE  tunV tunH natW natX sumD sumE natA pktL natC
theorem wpList_append_new {P:Program} (w:World) {ops:Array Oper} {rest:List Oper} {o:Oper} {a:Act} {Q:Exit→Act→World→Prop} (hgd:o.guard=none) (s x:Operand) (t:TypeId)
  (ho:o.op=.call { callee:=.builtin .append,args:=#[s,x],argTypes:=#[t,t] })
  (base:Nat) (e:TypeId) (i:TypeInfo) (z:Value) (size bytes:Nat) (ht:P.underlying t=some (.slice e)) (hi:P.info? e=some i) (hz:i.zero=some z)
  (hsize:i.size=size) (hby:i.bytes=bytes) (hzs:z.cells.size=size) (hsz:0<size)
  (v:Value) (n:Nat) (xs:List Value) (hs:a.eval s=v) (hown:w.ownsRow base e size v n xs)
  (ad:Addr) (m c:Nat) (news:List Value) (hx:a.eval x=.slice (some ad) m c) (hm:1≤m) (hl:news.length=m*size) (hnews:∀ j u,news[j]?=some u→w.cell? (ad.add j)=some u) (h1:∀ u ∈ news,u.oneCell'=true)
  (h63:n+m≤maxLen) (hbytes:(n+m)*bytes≤140737488355328) (hbase:base≤w.heap.size)
  (h:∀ v' w',w'.ownsRow base e size v' (n+m) (xs++news)→w.grownBy w' v.ownBlock→(∀ g,v'.ownBlock=some g→v.ownBlock=some g∨w.heap.size≤g)→wpList P ops Q rest (a.put o.dst v') w'):wpList P ops Q (o::rest) a w:=by
 have hgr:∀ (v':Value) (w':World),w'.ownsRow w.heap.size e size v' (n+m) (xs++news)→w.grownBy w' none→wpList P ops Q rest (a.put o.dst v') w':=fun v' w' ho hg=>by
  refine h v' w' ⟨ho.1,?_⟩ ⟨hg.os,hg.tape,hg.output,hg.size,fun k hk _=>hg.block k hk (by simp)⟩ fun g e=>.inr (ho.lt g e).1
  rcases ho.2 with h0 | ⟨g,cap,cur,h1,h2,h3⟩
  ·exact .inl h0
  ·exact .inr ⟨g,cap,cur,h1,Nat.le_trans hbase h2,h3⟩
 rcases hown.2 with ⟨h0,h1n⟩ | ⟨g,cap,cur,hv,hbg,hgc,hnc,hcm,hcs,htk⟩
 ·subst h0
  have hxs:xs=[]:=List.eq_nil_of_length_eq_zero (by rw [hown.1,h1n]; simp)
  subst hxs
  subst h1n
  exact wpList_append_grows w hgd s x t ho e i z size bytes ht hi hz hsize hby hzs hsz none 0 0 [] hs (fun _=>⟨rfl,rfl⟩) (by simp) (fun b hb=>by cases hb) ad m c news hx hl hnews h1 (by omega) h63 hbytes hgr
 ·subst hv
  by_cases hr:n+m≤cap
  ·exact wpList_append_fits w hgd s x t ho base e i size ht hi hsize g n cap xs hs hown ad m c news hx hl hnews h1 hr fun w' h2 h3=>h _ w' h2 h3 fun g2 e2=>.inl e2
  ·exact wpList_append_grows w hgd s x t ho e i z size bytes ht hi hz hsize hby hzs hsz (some ⟨g,0,none⟩) n cap xs hs (fun hb=>by cases hb) hown.1 (fun b hb=>by injection hb with hb; subst hb; exact hown.cells rfl) ad m c news hx hl hnews h1 (by omega) h63 hbytes hgr
theorem own_keepG {w w':World} {B:Nat} {v:Value} {n:Nat} {xs:List Value} {row:Option Nat} (h:w.ownsRow B 97 1 v n xs) (hg:w.grownBy w' row) (hne:∀ k,v.ownBlock=some k→some k≠row):w'.ownsRow B 97 1 v n xs:=by
 refine ⟨h.1,?_⟩
 rcases h.2 with e | ⟨q,cap,cur,rfl,hb,hq,rest⟩
 ·exact .inl e
 ·have hlt:q<w.heap.size:=by
   rcases Nat.lt_or_ge q w.heap.size with k | k
   ·exact k
   ·rw [Array.getElem?_eq_none k] at hq
    cases hq
  exact .inr ⟨q,cap,cur,rfl,hb,(hg.block q hlt (hne q rfl)).trans hq,rest⟩
theorem one_u16 (l:List Int):∀ u ∈ l.map (Value.int .u16),u.oneCell'=true:=by
 intro u hu
 rw [List.mem_map] at hu
 obtain ⟨x,_,rfl⟩:=hu
 rfl
theorem split1 (n:Int) (h0:0≤n) (h9:n≤65535) (V:World):Calls Try.prog 57 #[.int .u64 n,.int .i64 1] V fun o w'=>∃ (b off c:Nat),o=.returned (.slice (some ⟨b,off,none⟩) 1 c)∧w'.ownsRow V.heap.size 97 1 (.slice (some ⟨b,off,none⟩) 1 c) 1 ([n].map (.int .u16))∧(∀ j u,([n].map (Value.int .u16))[j]?=some u→w'.cell? ((⟨b,off,none⟩:Addr).add j)=some u)∧Below V.heap.size V w':=by
 refine (split_any n 1 h0 (by omega) V).mono ?_
 rintro o w' ⟨v,rfl,ho,hb⟩
 have ho:w'.ownsRow V.heap.size 97 1 v 1 ((words n 1 1).map (.int .u16)):=ho
 rw [words1 n h0 h9] at ho
 obtain ⟨A,c,rfl⟩:=own_slice ho
 obtain ⟨b,off,rfl,_,hc⟩:=(own_row ho).at_ (fun h=>by cases h)
 exact ⟨b,off,c,rfl,ho,fun j u hu=>by rw [Addr.add_lit]; exact hc j u hu,hb⟩
def x1 (l:List Int) (N pl:Nat) (bs:List Int):List Int:=splice (l.take N) pl bs
def x2 (l:List Int) (N S pl s:Nat) (bs:List Int) (port:Int):List Int:=setw (x1 l N pl bs) (S+2*s) port
def x3 (v6:Bool) (fs ts x:List Int):List Int:=if v6=true then x else setw x 10 (turns (udpA.w16 x 10) fs ts)
def x4 (pr:Int) (S:Nat) (fs ts x:List Int):List Int:=if pr=6 then setw x (S+16) (turns (udpA.w16 x (S+16)) fs ts) else if udpA.w16 x (S+6)=0 then x else setw x (S+6) (chk0 (turns (udpA.w16 x (S+6)) fs ts))
theorem x1_len (l bs:List Int) (N pl:Nat) (hN:N≤l.length) (hp:pl+bs.length≤N):(x1 l N pl bs).length=N:=by
 unfold x1 splice
 simp only [List.length_append,List.length_take,List.length_drop]
 omega
theorem x1_u8 (l bs:List Int) (N pl:Nat) (hl:U8 l) (hb:U8 bs):U8 (x1 l N pl bs):=by
 unfold x1 splice
 exact ((hl.take N).take pl).join (hb.join ((hl.take N).drop _))
theorem w16_app {l:List Int} {x:Int} (h:W16 l) (h0:0≤x) (h9:x≤65535):W16 (l++[x]):=w16_snoc h h0 h9
theorem turn_OK (b off n c:Nat) (s:Nat) (hs:s≤1) (t6:Bool) (th tl port:Int) (p0:0≤port) (p9:port≤65535) (v6:Bool) (pr:Int) (s6:Bool) (sh sl:Int) (d6:Bool) (dh dl sp dp ttl fl:Int) (apr:Int) (as6:Bool) (ash asl:Int) (ad6:Bool) (adh adl asp adp:Int) (hv:t6=v6) (u6:Bool) (uh ul wp:Int) (w0:0≤wp) (w9:wp≤65535) (k:Nat) (hk:1≤k∧k≤8) (fs ts bs l:List Int) (S N pl nb:Nat) (hfs:fs.length=k) (hts:ts.length=k) (wfs:W16 fs) (wts:W16 ts) (hbs:bs.length=nb) (ubs:U8 bs) (hnb:0<nb) (hpl:0<pl) (hpb:pl+nb≤S) (hS:20≤S) (hSN:S+8≤N) (hS6:pr=6→S+20≤N) (hNn:N≤n) (hn:n≤1000) (w:World) (hsl:Sl w (some ⟨b,off,none⟩) n c l)
  (HP:Hid (∀ V,Below w.heap.size w V→Calls Try.prog 14 #[.slice (some ⟨b,off,none⟩) n c] V fun o w'=>o=.returned (.tuple #[.agg #[.bool v6,.int .i64 pr,.bool s6,.int .u64 sh,.int .u64 sl,.bool d6,.int .u64 dh,.int .u64 dl,.int .i64 sp,.int .i64 dp,.int .i64 ttl,.int .i64 fl,.bool false,.int .i64 apr,.bool as6,.int .u64 ash,.int .u64 asl,.bool ad6,.int .u64 adh,.int .u64 adl,.int .i64 asp,.int .i64 adp,.int .i64 (N:Int)],.int .i64 0])∧Below V.heap.size V w'))
  (HRT:Hid (∀ V,Calls Try.prog 16 #[.agg #[.bool t6,.int .u64 th,.int .u64 tl]] V fun o w'=>o=.returned (.bool true)∧Below V.heap.size V w'))
  (HSD:Hid (∀ V,Calls Try.prog 50 #[.agg #[.int .i64 pr,.bool s6,.int .u64 sh,.int .u64 sl,.bool d6,.int .u64 dh,.int .u64 dl,.int .i64 sp,.int .i64 dp],.int .i64 s] V fun o w'=>o=.returned (.tuple #[.agg #[.bool u6,.int .u64 uh,.int .u64 ul],.int .i64 wp])∧Below V.heap.size V w'))
  (HW1:Hid (∀ V,Calls Try.prog 51 #[.agg #[.bool u6,.int .u64 uh,.int .u64 ul]] V fun o w'=>∃ v,o=.returned v∧w'.ownsRow V.heap.size 97 1 v k (fs.map (.int .u16))∧Below V.heap.size V w'))
  (HW2:Hid (∀ V,Calls Try.prog 51 #[.agg #[.bool t6,.int .u64 th,.int .u64 tl]] V fun o w'=>∃ v,o=.returned v∧w'.ownsRow V.heap.size 97 1 v k (ts.map (.int .u16))∧Below V.heap.size V w'))
  (HHD:Hid (∀ V,Below w.heap.size w V→Calls Try.prog 52 #[.slice (some ⟨b,off,none⟩) n c] V fun o w'=>o=.returned (.int .i64 (S:Int))∧Below V.heap.size V w'))
  (HPL:Hid (∀ V,Calls Try.prog 53 #[.bool v6,.int .i64 s] V fun o w'=>o=.returned (.int .i64 (pl:Int))∧V=w'))
  (HAB:Hid (∀ V,Calls Try.prog 54 #[.agg #[.bool t6,.int .u64 th,.int .u64 tl]] V fun o w'=>∃ v,o=.returned v∧w'.ownsRow V.heap.size 5 1 v nb (bs.map (.int .u8))∧Below V.heap.size V w')) :
  Calls Try.prog 22 #[.slice (some ⟨b,off,none⟩) n c,.int .i64 s,.agg #[.bool t6,.int .u64 th,.int .u64 tl],.int .i64 port] w (MkP 0 (x4 pr S (fs++[wp]) (ts++[port]) (x3 v6 fs ts (x2 l N S pl s bs port))) w):=by
 obtain ⟨i0,hi0,hz0,hz1,hz2⟩:=info_parts info_u8
 have hmk:=fun (W:World)=>run_make_one (P:=Try.prog) 22 5 i0 _ Try.underlying22 hi0 hz0 hz1 rfl .i64 .i64 (N:Int) (by omega) (by rw [hz2]; omega) (by omega) W
 obtain ⟨i1,hi1,hy0,hy1,hy2⟩:=info_parts sumE.info_u16
 have HI1:=Lib.hid hi1
 have HY0:=Lib.hid hy0
 have HY1:=Lib.hid hy1
 have HY2:=Lib.hid hy2
 have hll:=hsl.len
 have L1:=Lib.hid (x1_len l bs N pl (by omega) (by omega))
 have V1:=Lib.hid (x1_u8 l bs N pl hsl.u8 ubs)
 have L2:=Lib.hid (show (x2 l N S pl s bs port).length=N from by unfold x2; rw [setw_len]; exact L1.out)
 have V2:=Lib.hid (show U8 (x2 l N S pl s bs port) from setw_u8 V1.out _ _ p0 p9)
 have wx:=udpA.w16_in _ V2.out 10
 obtain ⟨cc0,cc9,_⟩:=turns_cong fs ts _ (by omega) wx.1 wx.2 wfs wts
 have L3:=Lib.hid (show (x3 v6 fs ts (x2 l N S pl s bs port)).length=N from by unfold x3; split <;> simp [setw_len,L2.out])
 have V3:=Lib.hid (show U8 (x3 v6 fs ts (x2 l N S pl s bs port)) from by
  unfold x3
  split
  ·exact V2.out
  ·exact setw_u8 V2.out _ _ cc0 cc9)
 have HLT:=Lib.hid (show (l.take N).length=N from by rw [List.length_take]; omega)
 have HX1:=Lib.hid (show splice (l.take N) pl bs=x1 l N pl bs from rfl)
 have HX2:=Lib.hid (show splice (x1 l N pl bs) (S+2*s) (pb port 2 2)=x2 l N S pl s bs port from splice_word _ _ _ p0 p9 (by have:=L1.out; omega))
 have HFT:=Lib.hid (show S+2*s+2≤(x1 l N pl bs).length from by have:=L1.out; omega)
 have HX3:=Lib.hid (show x3 v6 fs ts (x2 l N S pl s bs port)=if v6=true then x2 l N S pl s bs port else setw (x2 l N S pl s bs port) 10 (turns (udpA.w16 (x2 l N S pl s bs port) 10) fs ts) from rfl)
 have HX4:=Lib.hid (show x4 pr S (fs++[wp]) (ts++[port]) (x3 v6 fs ts (x2 l N S pl s bs port))=if pr=6 then setw (x3 v6 fs ts (x2 l N S pl s bs port)) (S+16) (turns (udpA.w16 (x3 v6 fs ts (x2 l N S pl s bs port)) (S+16)) (fs++[wp]) (ts++[port])) else if udpA.w16 (x3 v6 fs ts (x2 l N S pl s bs port)) (S+6)=0 then x3 v6 fs ts (x2 l N S pl s bs port) else setw (x3 v6 fs ts (x2 l N S pl s bs port)) (S+6) (chk0 (turns (udpA.w16 (x3 v6 fs ts (x2 l N S pl s bs port)) (S+6)) (fs++[wp]) (ts++[port]))) from rfl)
 have V4:=Lib.hid (show U8 (x4 pr S (fs++[wp]) (ts++[port]) (x3 v6 fs ts (x2 l N S pl s bs port)))∧(x4 pr S (fs++[wp]) (ts++[port]) (x3 v6 fs ts (x2 l N S pl s bs port))).length=N from by
  have wa:=udpA.w16_in _ V3.out (S+16)
  have wb:=udpA.w16_in _ V3.out (S+6)
  have e1:(fs++[wp]).length=(ts++[port]).length:=by simp; omega
  obtain ⟨a0,a9,_⟩:=turns_cong _ _ _ e1 wa.1 wa.2 (w16_app wfs w0 w9) (w16_app wts p0 p9)
  obtain ⟨b0,b9,_⟩:=turns_cong _ _ _ e1 wb.1 wb.2 (w16_app wfs w0 w9) (w16_app wts p0 p9)
  unfold x4
  split
  ·exact ⟨setw_u8 V3.out _ _ a0 a9,by rw [setw_len]; exact L3.out⟩
  ·split
   ·exact ⟨V3.out,L3.out⟩
   ·refine ⟨setw_u8 V3.out _ _ ?_ ?_,by rw [setw_len]; exact L3.out⟩
    ·unfold chk0; split <;> omega
    ·unfold chk0; split <;> omega)
 generalize x4 pr S (fs++[wp]) (ts++[port]) (x3 v6 fs ts (x2 l N S pl s bs port))=X4 at *
 generalize x3 v6 fs ts (x2 l N S pl s bs port)=X3 at *
 generalize x2 l N S pl s bs port=X2 at *
 generalize x1 l N pl bs=X1 at *
 have tv:(t6 != v6)=false:=by simpa using hv
 have tv2:(t6 == v6)=true:=by simpa using hv
 have HSS:=Lib.hid (show (s:Int)=0∨(s:Int)=1 from by omega)
 have P0:=Lib.hid p0
 have P9:=Lib.hid p9
 have WB:=Lib.hid (show 0≤wp∧wp≤65535 from ⟨w0,w9⟩)
 have ww:IntKind.u64.wrap wp=wp:=by rw [IntKind.wrap_u64]; omega
 have wpo:IntKind.u64.wrap port=port:=by rw [IntKind.wrap_u64]; omega
 obtain ⟨pp,hpp⟩:∃ pp:Nat,pp=S+2*s:=⟨_,rfl⟩
 obtain ⟨c16,hc16⟩:∃ c16:Nat,c16=S+16:=⟨_,rfl⟩
 obtain ⟨c6,hc6⟩:∃ c6:Nat,c6=S+6:=⟨_,rfl⟩
 have wm:IntKind.i64.wrap (2*(s:Int))=2*(s:Int):=IntWalk.i64_in _ (by omega)
 have wa:IntKind.i64.wrap ((S:Int)+2*(s:Int))=(pp:Int):=by rw [IntWalk.i64_in _ (by omega)]; omega
 have w16a:IntKind.i64.wrap ((S:Int)+16)=(c16:Int):=by rw [IntWalk.i64_in _ (by omega)]; omega
 have w6a:IntKind.i64.wrap ((S:Int)+6)=(c6:Int):=by rw [IntWalk.i64_in _ (by omega)]; omega
 rw [← hpp] at HX2 HFT
 rw [← hc16,← hc6] at HX4
 have SZ:=Lib.hid (show pl+nb≤N∧pp+2≤N∧c6+2≤N∧(pr=6→c16+2≤N)∧12≤N∧0<c6∧0<c16∧N≤n∧N≤1000∧0<N from ⟨by omega,by omega,by omega,fun h=>by have:=hS6 h; omega,by omega,by omega,by omega,by omega,by omega,by omega⟩)
 have HK:=Lib.hid hk
 have HFL:=Lib.hid hfs
 have HTL:=Lib.hid hts
 have WF:=Lib.hid wfs
 have WTS:=Lib.hid wts
 have HBL:=Lib.hid hbs
 have UBS:=Lib.hid ubs
 have HNB:=Lib.hid hnb
 have HSL:=Lib.hid hsl
 have HVV:=Lib.hid hv
 have np:¬ N=pl:=by omega
 have jp:pl≤N:=by omega
 have jpi:(pl:Int)≤(N:Int):=by omega
 have jp0:(0:Int)≤(pl:Int):=by omega
 have npp:¬ N=pp:=by omega
 have jpp:pp≤N:=by omega
 have jppi:(pp:Int)≤(N:Int):=by omega
 have jpp0:(0:Int)≤(pp:Int):=by omega
 clear hi0 hz0 hz1 hz2 hi1 hy0 hy1 hy2 hll wx cc0 cc9 hs p0 p9 hv w0 w9 hk hfs hts wfs wts hbs ubs hnb hpl hpb hS hSN hS6 hNn hn hsl hpp hc16 hc6
 obtain ⟨Y,hY⟩:∃ Y:Array Value,Y=#[.bool v6,.int .i64 pr,.bool s6,.int .u64 sh,.int .u64 sl,.bool d6,.int .u64 dh,.int .u64 dl,.int .i64 sp,.int .i64 dp,.int .i64 ttl,.int .i64 fl,.bool false,.int .i64 apr,.bool as6,.int .u64 ash,.int .u64 asl,.bool ad6,.int .u64 adh,.int .u64 adl,.int .i64 asp,.int .i64 adp,.int .i64 (N:Int)]:=⟨_,rfl⟩
 have ys:Y.size=23:=by rw [hY]; rfl
 have ONE:=Lib.hid (show Y.all (·.oneCell')=true from by rw [hY]; simp [Value.oneCell'])
 have HIY:=Lib.hid (show (Try.prog.info? 36).map (·.size)=some Y.size from by rw [ys]; exact pk_size)
 have ZY:=Lib.hid (show (#[.bool false,.int .i64 0,.bool false,.int .u64 0,.int .u64 0,.bool false,.int .u64 0,.int .u64 0,.int .i64 0,.int .i64 0,.int .i64 0,.int .i64 0,.bool false,.int .i64 0,.bool false,.int .u64 0,.int .u64 0,.bool false,.int .u64 0,.int .u64 0,.int .i64 0,.int .i64 0,.int .i64 0]:Array Value).size=Y.size from by rw [ys]; rfl)
 rw [← hY] at HP
 have HY:=Lib.hid hY
 clear hY ys
 obtain ⟨w1,hw1⟩:∃ w1,w1=w.alloc (.cells #[.bool t6,.int .u64 th,.int .u64 tl] 32):=⟨_,rfl⟩
 obtain ⟨p,hp⟩:∃ p,p=w.heap.size:=⟨_,rfl⟩
 have E1:=Lib.hid hw1
 have EP:=Lib.hid hp
 have B1:=Lib.hid (show Below w.heap.size w w1 from by rw [hw1]; exact (Below.refl _ _).alloc (Nat.le_refl _) _)
 have KT1:=Lib.hid (show Blk w1 p 32 #[.bool t6,.int .u64 th,.int .u64 tl] from by rw [hw1,hp]; exact Blk.new w _ _)
 clear hw1 hp
 go_enter Try.func22,Try.ntmps22
 go_upto_region 1 with fail
 rw [← E1.out,← EP.out]
 go_wp2_with fail
 refine (HP.out _ B1.out).mono ?_
 rintro o w2 ⟨rfl,hb2⟩
 obtain ⟨w3,hw3⟩:∃ w3,w3=(w2.alloc (.cells #[.bool false,.int .i64 0,.bool false,.int .u64 0,.int .u64 0,.bool false,.int .u64 0,.int .u64 0,.int .i64 0,.int .i64 0,.int .i64 0,.int .i64 0,.bool false,.int .i64 0,.bool false,.int .u64 0,.int .u64 0,.bool false,.int .u64 0,.int .u64 0,.int .i64 0,.int .i64 0,.int .i64 0] 36)).setRow w2.heap.size Y:=⟨_,rfl⟩
 obtain ⟨g,hg⟩:∃ g,g=w2.heap.size:=⟨_,rfl⟩
 have E3:=Lib.hid hw3
 have EG:=Lib.hid hg
 have KP3:=Lib.hid (show Blk w3 g 36 Y from by rw [hw3,hg]; exact blkRow (Blk.new w2 _ _) _)
 have B23:=Lib.hid (show Below w2.heap.size w2 w3 from by rw [hw3]; exact (onlyRow _).from ((Below.refl _ _).alloc (Nat.le_refl _) _) (Nat.le_refl _))
 have B13:=Lib.hid (hb2.trans (B23.out.mono hb2.size))
 have KT3:=Lib.hid (KT1.out.below B13.out KT1.out.lt)
 have B3:=Lib.hid (B1.out.trans (B13.out.mono B1.out.size))
 clear hw3 hg hb2
 go_upto_region 2 with (refine wpList_store_row rfl 36 _ _ rfl w2.heap.size Y rfl rfl 36 #[.bool false,.int .i64 0,.bool false,.int .u64 0,.int .u64 0,.bool false,.int .u64 0,.int .u64 0,.int .i64 0,.int .i64 0,.int .i64 0,.int .i64 0,.bool false,.int .i64 0,.bool false,.int .u64 0,.int .u64 0,.bool false,.int .u64 0,.int .u64 0,.int .i64 0,.int .i64 0,.int .i64 0] (Blk.new w2 _ _) HIY.out ZY.out ONE.out ?_)
 rw [← E3.out,← EG.out]
 have kp:=KP3.out
 rw [HY.out] at kp
 have c0:=kp.cell 0
 have c12:=kp.cell 12
 clear kp
 go_upto_region 4 with fail
 go_cut [27] (fun v wx=>v=.bool false∧wx=w3)
 case first =>
  have p0:=P0.out
  have p9:=P9.out
  have q0:decide (port<0)=false:=decide_eq_false (by omega)
  have q9:decide (65535<port)=false:=decide_eq_false (by omega)
  clear p0 p9
  rcases HSS.out with h | h
  ·have t0:((s:Int) != 0)=false:=by simp [h]
   have t0n:(s != 0)=false:=by simp; omega
   clear h
   go_wp2_with fail
   go_meet
   exact ⟨rfl,rfl⟩
  ·have t0:((s:Int) != 0)=true:=by simp [h]
   have t1:((s:Int) != 1)=false:=by simp [h]
   have t0n:(s != 0)=true:=by simp; omega
   have t1n:(s != 1)=false:=by simp; omega
   clear h
   go_wp2_with fail
   go_meet
   exact ⟨rfl,rfl⟩
 case rest =>
 obtain ⟨rfl,hwc⟩:=hcut
 rw [hwc]
 clear hwc
 have x0:=KT3.out.cell 0
 have x1:=KT3.out.cell 1
 have x2:=KT3.out.cell 2
 go_wp2_with fail
 refine (HRT.out _).mono ?_
 rintro o w4 ⟨rfl,hb4⟩
 have KT4:=Lib.hid (KT3.out.below hb4 KT3.out.lt)
 have KP4:=Lib.hid (KP3.out.below hb4 KP3.out.lt)
 have B4:=Lib.hid (B3.out.trans (hb4.mono B3.out.size))
 clear hb4 c0 c12 x0 x1 x2
 have kp:=KP4.out
 rw [HY.out] at kp
 have c1:=kp.cell 1
 have c2:=kp.cell 2
 have c3:=kp.cell 3
 have c4:=kp.cell 4
 have c5:=kp.cell 5
 have c6:=kp.cell 6
 have c7:=kp.cell 7
 have c8:=kp.cell 8
 have c9:=kp.cell 9
 clear kp
 go_wp2_with fail
 refine (HSD.out _).mono ?_
 rintro o w5 ⟨rfl,hb5⟩
 obtain ⟨w6,hw6⟩:∃ w6,w6=w5.alloc (.cells #[.bool u6,.int .u64 uh,.int .u64 ul] 32):=⟨_,rfl⟩
 obtain ⟨gw,hgw⟩:∃ gw,gw=w5.heap.size:=⟨_,rfl⟩
 have E6:=Lib.hid hw6
 have EGW:=Lib.hid hgw
 have B56:=Lib.hid (show Below w5.heap.size w5 w6 from by rw [hw6]; exact (Below.refl _ _).alloc (Nat.le_refl _) _)
 have B46:=Lib.hid (hb5.trans (B56.out.mono hb5.size))
 have KW6:=Lib.hid (show Blk w6 gw 32 #[.bool u6,.int .u64 uh,.int .u64 ul] from by rw [hw6,hgw]; exact Blk.new w5 _ _)
 have KT6:=Lib.hid (KT4.out.below B46.out KT4.out.lt)
 have KP6:=Lib.hid (KP4.out.below B46.out KP4.out.lt)
 have B6:=Lib.hid (B4.out.trans (B46.out.mono B4.out.size))
 clear hw6 hgw hb5 c1 c2 c3 c4 c5 c6 c7 c8 c9
 go_upto_region 9 with fail
 rw [← E6.out,← EGW.out]
 have HSF:=Lib.hid (show ∀ V,Below w6.heap.size w6 V→(V.cell? ⟨gw,0,none⟩=some (.bool u6)∧V.cell? ⟨gw,1,none⟩=some (.int .u64 uh)∧V.cell? ⟨gw,2,none⟩=some (.int .u64 ul)∧V.cell? ⟨p,0,none⟩=some (.bool t6)∧V.cell? ⟨p,1,none⟩=some (.int .u64 th)∧V.cell? ⟨p,2,none⟩=some (.int .u64 tl)) from fun V hV=>⟨(KW6.out.below hV KW6.out.lt).cell 0,(KW6.out.below hV KW6.out.lt).cell 1,(KW6.out.below hV KW6.out.lt).cell 2,(KT6.out.below hV KT6.out.lt).cell 0,(KT6.out.below hV KT6.out.lt).cell 1,(KT6.out.below hV KT6.out.lt).cell 2⟩)
 have HS0:=Lib.hid (HSF.out w6.drew (Below.refl _ _).drew)
 go_region_held3 (fun V=>V.cell? ⟨gw,0,none⟩=some (.bool u6)∧V.cell? ⟨gw,1,none⟩=some (.int .u64 uh)∧V.cell? ⟨gw,2,none⟩=some (.int .u64 ul)∧V.cell? ⟨p,0,none⟩=some (.bool t6)∧V.cell? ⟨p,1,none⟩=some (.int .u64 th)∧V.cell? ⟨p,2,none⟩=some (.int .u64 tl)) (first | with_reducible assumption | with_reducible exact HS0.out | with_reducible exact HS8.out | with_reducible exact HS7.out) (first
  | (go_at_call 51; (with_reducible refine (HW1.out _).mono ?_); rintro o w7 ⟨v7,rfl,ho7,hb7⟩; obtain ⟨AF,cF,rfl⟩:=own_slice ho7; have B67:=Lib.hid ((Below.refl w6.heap.size w6).drew.trans (hb7.mono (Nat.le_refl _))); have OF7:=Lib.hid (own_base ho7 (Nat.le_refl w6.heap.size)); have HS7:=Lib.hid (HSF.out w7 B67.out); clear ho7 hb7)
  | (go_at_call 51; (with_reducible refine (HW2.out _).mono ?_); rintro o w8 ⟨v8,rfl,ho8,hb8⟩; obtain ⟨AG,cG,rfl⟩:=own_slice ho8; have B68:=Lib.hid (B67.out.trans (hb8.mono B67.out.size)); have OF8:=Lib.hid (own_below2 OF7.out hb8); have OT8:=Lib.hid (own_base ho8 B67.out.size); have HD:=Lib.hid (show ∀ k1 k2,(Value.slice AF k cF).ownBlock=some k1→(Value.slice AG k cG).ownBlock=some k2→k1≠k2 from fun k1 k2 e1 e2=>by have:=(OF7.out.lt k1 e1).2; have:=(ho8.lt k2 e2).1; omega); have HS8:=Lib.hid (HSF.out w8 B68.out); clear ho8 hb8))
 have KT8:=Lib.hid (KT6.out.below B68.out KT6.out.lt)
 have KP8:=Lib.hid (KP6.out.below B68.out KP6.out.lt)
 have B8:=Lib.hid (B6.out.trans (B68.out.mono B6.out.size))
 clear HSF HS0 HS7 HS8 KW6
 go_wp2_with fail
 refine (HHD.out _ B8.out).mono ?_
 rintro o w9 ⟨rfl,hb9⟩
 have KT9:=Lib.hid (KT8.out.below hb9 KT8.out.lt)
 have KP9:=Lib.hid (KP8.out.below hb9 KP8.out.lt)
 have OF9:=Lib.hid (own_below2 OF8.out hb9)
 have OT9:=Lib.hid (own_below2 OT8.out hb9)
 have B9:=Lib.hid (B8.out.trans (hb9.mono B8.out.size))
 have Q89:=Lib.hid hb9.size
 clear hb9
 have kp:=KP9.out
 rw [HY.out] at kp
 have c22:=kp.cell 22
 clear kp
 obtain ⟨q,hq⟩:∃ q,q=w9.heap.size:=⟨_,rfl⟩
 obtain ⟨w10,hw10⟩:∃ w10,w10=w9.alloc (.cells (zeros N (.int .u8 0)) 5):=⟨_,rfl⟩
 have EQ:=Lib.hid hq
 have E10:=Lib.hid hw10
 have B910:=Lib.hid (show Below w9.heap.size w9 w10 from by rw [hw10]; exact (Below.refl _ _).alloc (Nat.le_refl _) _)
 have KO10:=Lib.hid (show Blk w10 q 5 ((List.replicate N (0:Int)).map (Value.int .u8)).toArray from by
  have e:(zeros N (Value.int .u8 0))=((List.replicate N (0:Int)).map (Value.int .u8)).toArray:=by simp [zeros]
  rw [← e,hw10,hq]
  exact Blk.new w9 _ _)
 have KT10:=Lib.hid (KT9.out.below B910.out KT9.out.lt)
 have KP10:=Lib.hid (KP9.out.below B910.out KP9.out.lt)
 have OF10:=Lib.hid (own_below2 OF9.out B910.out)
 have OT10:=Lib.hid (own_below2 OT9.out B910.out)
 have B10:=Lib.hid (B9.out.trans (B910.out.mono B9.out.size))
 have NPQ:=Lib.hid (show p≠q from by have:=KT9.out.lt; omega)
 have NGQ:=Lib.hid (show g≠q from by have:=KP9.out.lt; omega)
 have WQ:=Lib.hid (show w.heap.size≤q from by have:=B9.out.size; omega)
 clear hq hw10
 go_upto_region 12 with fail
 rw [← E10.out,← EQ.out]
 clear c22
 obtain ⟨w11,hcp,b11,o11⟩:=copy_run w10 q 0 N N (List.replicate N 0) l (some ⟨b,off,none⟩) n c N KO10.out (HSL.out.below B10.out) (by have:=SZ.out; omega) (by have:=SZ.out; omega) (by simp)
 have KO11:=Lib.hid (show Blk w11 q 5 ((l.take N).map (Value.int .u8)).toArray from by
  rw [splice_full _ _ (by rw [HLT.out]; simp)] at b11
  exact b11)
 have F11:=Lib.hid (OnE.of o11)
 have KT11:=Lib.hid (OnE.blk F11.out KT10.out NPQ.out)
 have KP11:=Lib.hid (OnE.blk F11.out KP10.out NGQ.out)
 have OF11:=Lib.hid (own_E OF10.out KO10.out F11.out)
 have OT11:=Lib.hid (own_E OT10.out KO10.out F11.out)
 have B11:=Lib.hid (F11.out.from B10.out WQ.out)
 clear b11 o11
 go_upto_region 13 with fail
 clear hcp
 have kp:=KP11.out
 rw [HY.out] at kp
 have KPX:=Lib.hid kp
 clear kp
 have HSF:=Lib.hid (show ∀ V,Below w11.heap.size w11 V→(V.cell? ⟨g,0,none⟩=some (.bool v6)∧V.cell? ⟨p,0,none⟩=some (.bool t6)∧V.cell? ⟨p,1,none⟩=some (.int .u64 th)∧V.cell? ⟨p,2,none⟩=some (.int .u64 tl)) from fun V hV=>⟨(KPX.out.below hV KPX.out.lt).cell 0,(KT11.out.below hV KT11.out.lt).cell 0,(KT11.out.below hV KT11.out.lt).cell 1,(KT11.out.below hV KT11.out.lt).cell 2⟩)
 have HSG:=Lib.hid (show ∀ V,Blk V g 36 Y→Blk V p 32 #[.bool t6,.int .u64 th,.int .u64 tl]→(V.cell? ⟨g,0,none⟩=some (.bool v6)∧V.cell? ⟨p,0,none⟩=some (.bool t6)∧V.cell? ⟨p,1,none⟩=some (.int .u64 th)∧V.cell? ⟨p,2,none⟩=some (.int .u64 tl)) from fun V h1 h2=>by
  rw [HY.out] at h1
  exact ⟨h1.cell 0,h2.cell 0,h2.cell 1,h2.cell 2⟩)
 have HS0:=Lib.hid (HSF.out w11.drew (Below.refl _ _).drew)
 have HMB:=Lib.hid (show nb=min nb (N - pl) from by have:=SZ.out; omega)
 have HFB:=Lib.hid (show pl+nb≤(l.take N).length from by have:=SZ.out; rw [HLT.out]; omega)
 go_region_held3 (fun V=>V.cell? ⟨g,0,none⟩=some (.bool v6)∧V.cell? ⟨p,0,none⟩=some (.bool t6)∧V.cell? ⟨p,1,none⟩=some (.int .u64 th)∧V.cell? ⟨p,2,none⟩=some (.int .u64 tl)) (first | with_reducible assumption | with_reducible exact HS0.out | with_reducible exact HS13.out | with_reducible exact HS12.out) (first
  | (go_at_call 53; (with_reducible refine (HPL.out _).mono ?_); rintro o w' ⟨rfl,rfl⟩)
  | (go_at_call 54; (with_reducible refine (HAB.out _).mono ?_); rintro o w12 ⟨v12,rfl,ho12,hb12⟩; obtain ⟨A12,c12,rfl⟩:=own_slice ho12; have B1112:=Lib.hid ((Below.refl w11.heap.size w11).drew.trans (hb12.mono (Nat.le_refl _))); have S12:=Lib.hid (show Sl w12 A12 nb c12 bs from Sl.own ho12 HBL.out UBS.out); have HS12:=Lib.hid (HSF.out w12 B1112.out); have KO12:=Lib.hid (KO11.out.below B1112.out KO11.out.lt); have F12:=Lib.hid (OnE.below B1112.out KO11.out.lt); obtain ⟨w13,hcp13,b13,o13⟩:=copy_run w12 q pl (N - pl) (N - pl) (l.take N) bs A12 nb c12 nb KO12.out S12.out HMB.out HNB.out HFB.out; have KO13:=Lib.hid b13; have F13:=Lib.hid (F12.out.trans (OnE.of o13)); have KT13:=Lib.hid (OnE.blk F13.out KT11.out NPQ.out); have KP13:=Lib.hid (OnE.blk F13.out KP11.out NGQ.out); have HS13:=Lib.hid (HSG.out w13 KP13.out KT13.out); clear ho12 hb12 b13 o13))
 have KOA:=Lib.hid (show Blk w13 q 5 (X1.map (Value.int .u8)).toArray from by
  have h:=KO13.out
  rw [List.take_of_length_le (Nat.le_of_eq HBL.out),HX1.out] at h
  exact h)
 have OF13:=Lib.hid (own_E OF11.out KO11.out F13.out)
 have OT13:=Lib.hid (own_E OT11.out KO11.out F13.out)
 have B13':=Lib.hid (F13.out.from B11.out WQ.out)
 clear KO13 HS0 HS12 HS13 HSF KPX KO12 S12 hcp13
 go_upto_region 14 with fail
 have S0:=Lib.hid (show pktB.PS w13 w13.drew (.slice none 0 0) 0 [] from ⟨World.ownsRow_nil _ _ _ _,(Below.refl _ _).drew⟩)
 have HPT:=Lib.hid (S0.out.put port 2 (by omega) P0.out (by have:=P9.out; omega))
 have HM2:=Lib.hid (show 2=min 2 (N - pp) from by have:=SZ.out; omega)
 go_region_held3 (fun V=>Below w13.heap.size w13 V∨True) (first | with_reducible assumption | exact .inr trivial) (first | (go_at_call 55; (with_reducible refine HPT.out.mono ?_); rintro o w14 ⟨v14,rfl,hs14⟩; have hs14:pktB.PS w13 w14 v14 2 (pb port 2 2):=hs14; obtain ⟨A14,c14,rfl⟩:=own_slice hs14.own; have B1314:=Lib.hid hs14.bel; have S14:=Lib.hid (show Sl w14 A14 2 c14 (pb port 2 2) from Sl.own hs14.own (by rw [pb_len]) (pktB.pb_u8 _ _ _)); have KO14:=Lib.hid (KOA.out.below B1314.out KOA.out.lt); obtain ⟨w15,hcp15,b15,o15⟩:=copy_run w14 q pp (N - pp) (N - pp) X1 (pb port 2 2) A14 2 c14 2 KO14.out S14.out HM2.out (by decide) HFT.out; have KO15:=Lib.hid b15; have F15:=Lib.hid ((OnE.below B1314.out KOA.out.lt).trans (OnE.of o15)); clear hs14 b15 o15))
 have KOB:=Lib.hid (show Blk w15 q 5 (X2.map (Value.int .u8)).toArray from by
  have h:=KO15.out
  rw [List.take_of_length_le (Nat.le_of_eq (pb_len _ _ _)),HX2.out] at h
  exact h)
 have KT15:=Lib.hid (OnE.blk F15.out KT13.out NPQ.out)
 have KP15:=Lib.hid (OnE.blk F15.out KP13.out NGQ.out)
 have OF15:=Lib.hid (own_E OF13.out KOA.out F15.out)
 have OT15:=Lib.hid (own_E OT13.out KOA.out F15.out)
 have B15:=Lib.hid (F15.out.from B13'.out WQ.out)
 clear KO15 S0 HPT KO14 S14 hcp15
 have kp:=KP15.out
 rw [HY.out] at kp
 have c0:=kp.cell 0
 clear kp
 go_upto_if 97 with fail
 go_cut [] (fun wx=>Hid (Blk wx q 5 (X3.map (Value.int .u8)).toArray∧OnE q w15 wx))
 case first =>
  have h3:=HX3.out
  cases v6 with
  | true =>
   rw [if_pos rfl] at h3
   go_wp2_with fail
   go_meet
   exact Lib.hid ⟨by rw [h3]; exact KOB.out,OnE.refl _ _⟩
  | false =>
   rw [if_neg (by decide)] at h3
   have HTG:=Lib.hid (turn_go q N 10 X2 fs ts AF k cF AG k cG w15 KOB.out L2.out (by have:=SZ.out; omega) V2.out (by have:=SZ.out; omega) (by omega) (by rw [HFL.out,HTL.out]) (Wd_own OF15.out HFL.out WF.out KOB.out) (Wd_own OT15.out HTL.out WTS.out KOB.out) (by have:=HK.out; omega) (by have:=HK.out; omega))
   rw [← h3] at HTG
   clear h3
   go_wp2_with fail
   refine HTG.out.mono ?_
   rintro o w16 ⟨rfl,hk16,ho16⟩
   go_wp2_with fail
   go_meet
   exact Lib.hid ⟨hk16,ho16⟩
 case rest =>
 rename World=>w17
 have KO17:=Lib.hid hcut.out.1
 have F17:=Lib.hid hcut.out.2
 have KP17:=Lib.hid (OnE.blk F17.out KP15.out NGQ.out)
 have OF17:=Lib.hid (own_E OF15.out KOB.out F17.out)
 have OT17:=Lib.hid (own_E OT15.out KOB.out F17.out)
 have B17:=Lib.hid (F17.out.from B15.out WQ.out)
 clear hcut c0
 have HS1:=Lib.hid (fun V=>split1 wp WB.out.1 WB.out.2 V)
 have HS2:=Lib.hid (fun V=>split1 port P0.out P9.out V)
 have G6:=Lib.hid (show g<w6.heap.size from KP6.out.lt)
 have W6:=Lib.hid (show w.heap.size≤w6.heap.size from B6.out.size)
 go_wp2_with fail
 refine (HS1.out _).mono ?_
 rintro o w18 ⟨b1,f1,c1,rfl,ho18,hc18,hb18⟩
 have KO18:=Lib.hid (KO17.out.below hb18 KO17.out.lt)
 have KP18:=Lib.hid (KP17.out.below hb18 KP17.out.lt)
 have OF18:=Lib.hid (own_below2 OF17.out hb18)
 have OT18:=Lib.hid (own_below2 OT17.out hb18)
 have B18:=Lib.hid (B17.out.trans (hb18.mono B17.out.size))
 have HC18:=Lib.hid hc18
 have S18:=Lib.hid (show w6.heap.size≤w18.heap.size from by have:=Q89.out; have:=hb18.size; have:=B910.out.size; have:=F17.out.bel.size; have:=F15.out.bel.size; have:=F13.out.bel.size; have:=F11.out.bel.size; have:=B68.out.size; omega)
 clear ho18 hc18 hb18
 go_wp2_with (at_builtin; refine wpList_append_new _ rfl (.tmp 102) (.tmp 105) 82 rfl w6.heap.size 97 i1 _ 1 2 Try.underlying82 HI1.out HY0.out HY1.out HY2.out rfl (by omega) (.slice AF k cF) k _ rfl OF18.out ⟨b1,f1,none⟩ 1 c1 ([wp].map (.int .u16)) rfl (by omega) rfl HC18.out (one_u16 _) (by unfold maxLen; have:=HK.out; omega) (by have:=HK.out; omega) S18.out ?_; intro va wva owna ga na; have OFa:=Lib.hid owna; have GA:=Lib.hid ga; have NA:=Lib.hid na; clear owna ga na)
 have KO19:=Lib.hid (OnE_grown OF18.out KO18.out GA.out)
 have KP19:=Lib.hid (KP18.out.grown GA.out (fun e=>by have:=(OF18.out.lt g e.symm).1; have:=G6.out; omega))
 have OT19:=Lib.hid (own_keepG OT18.out GA.out (fun k2 e2 e=>HD.out k2 k2 e.symm e2 rfl))
 have B19:=Lib.hid (below_grown B18.out OF18.out W6.out B18.out.size GA.out)
 have HD2:=Lib.hid (show ∀ k1 k2,va.ownBlock=some k1→(Value.slice AG k cG).ownBlock=some k2→k1≠k2 from fun k1 k2 e1 e2=>by
  rcases NA.out k1 e1 with h | h
  ·exact HD.out k1 k2 h e2
  ·have:=(OT18.out.lt k2 e2).2
   omega)
 have S19:=Lib.hid (show w6.heap.size≤wva.heap.size from Nat.le_trans S18.out GA.out.size)
 obtain ⟨AH,cH,rfl⟩:=own_slice OFa.out
 refine (HS2.out _).mono ?_
 rintro o w20 ⟨b2,f2,c2,rfl,ho20,hc20,hb20⟩
 have KO20:=Lib.hid (KO19.out.below hb20 KO19.out.lt)
 have KP20:=Lib.hid (KP19.out.below hb20 KP19.out.lt)
 have OF20:=Lib.hid (own_below2 OFa.out hb20)
 have OT20:=Lib.hid (own_below2 OT19.out hb20)
 have B20:=Lib.hid (B19.out.trans (hb20.mono B19.out.size))
 have HC20:=Lib.hid hc20
 have S20:=Lib.hid (Nat.le_trans S19.out hb20.size)
 clear ho20 hc20 hb20
 by_cases hp6:pr=6
 ·have tp:(pr == 6)=true:=by simpa using hp6
  go_wp2_with (at_builtin; refine wpList_append_new _ rfl (.tmp 107) (.tmp 110) 82 rfl w6.heap.size 97 i1 _ 1 2 Try.underlying82 HI1.out HY0.out HY1.out HY2.out rfl (by omega) (.slice AG k cG) k _ rfl OT20.out ⟨b2,f2,none⟩ 1 c2 ([port].map (.int .u16)) rfl (by omega) rfl HC20.out (one_u16 _) (by unfold maxLen; have:=HK.out; omega) (by have:=HK.out; omega) S20.out ?_; intro vb wvb ownb gb nb2; have OTb:=Lib.hid ownb; have GB:=Lib.hid gb; clear ownb gb nb2; have KO21:=Lib.hid (OnE_grown OT20.out KO20.out GB.out); have KP21:=Lib.hid (KP20.out.grown GB.out (fun e=>by have:=(OT20.out.lt g e.symm).1; have:=G6.out; omega)); have kp:=KP21.out; rw [HY.out] at kp; have cp1:=kp.cell 1; clear kp)
  obtain ⟨AJ,cJ,rfl⟩:=own_slice OTb.out
  have OFb:=Lib.hid (own_keepG OF20.out GB.out (fun k2 e2 e=>HD2.out k2 k2 e2 e.symm rfl))
  have h4:=HX4.out
  rw [if_pos hp6] at h4
  have HTG:=Lib.hid (turn_go q N c16 X3 (fs++[wp]) (ts++[port]) AH (k+1) cH AJ (k+1) cJ wvb KO21.out L3.out (by have:=SZ.out; omega) V3.out (by have:=SZ.out; have:=this.2.2.2.1 hp6; omega) (by have:=SZ.out; omega) (by have:=HFL.out; have:=HTL.out; simp; omega) (Wd_own (by rw [List.map_append]; exact OFb.out) (by have:=HFL.out; simp; omega) (w16_app WF.out WB.out.1 WB.out.2) KO21.out) (Wd_own (by rw [List.map_append]; exact OTb.out) (by have:=HTL.out; simp; omega) (w16_app WTS.out P0.out P9.out) KO21.out) (by have:=HK.out; omega) (by have:=HK.out; omega))
  rw [← h4] at HTG
  have B21:=Lib.hid (below_grown B20.out OT20.out W6.out B20.out.size GB.out)
  clear h4 hp6
  refine HTG.out.mono ?_
  rintro o w22 ⟨rfl,hk22,ho22⟩
  have B22:=Lib.hid (ho22.from B21.out WQ.out)
  have K22:=Lib.hid hk22
  clear hk22 ho22
  go_wp2_with fail
  go_ret2
  exact ⟨B22.out,some ⟨q,0,none⟩,N,N,rfl,Sl_blk K22.out V4.out.2 V4.out.1 (by have:=SZ.out; omega)⟩
 ·have tp:(pr == 6)=false:=by simpa using hp6
  go_wp2_with (at_builtin; refine wpList_append_new _ rfl (.tmp 107) (.tmp 110) 82 rfl w6.heap.size 97 i1 _ 1 2 Try.underlying82 HI1.out HY0.out HY1.out HY2.out rfl (by omega) (.slice AG k cG) k _ rfl OT20.out ⟨b2,f2,none⟩ 1 c2 ([port].map (.int .u16)) rfl (by omega) rfl HC20.out (one_u16 _) (by unfold maxLen; have:=HK.out; omega) (by have:=HK.out; omega) S20.out ?_; intro vb wvb ownb gb nb2; have OTb:=Lib.hid ownb; have GB:=Lib.hid gb; clear ownb gb nb2; have KO21:=Lib.hid (OnE_grown OT20.out KO20.out GB.out); have KP21:=Lib.hid (KP20.out.grown GB.out (fun e=>by have:=(OT20.out.lt g e.symm).1; have:=G6.out; omega)); have kp:=KP21.out; rw [HY.out] at kp; have cp1:=kp.cell 1; clear kp)
  obtain ⟨AJ,cJ,rfl⟩:=own_slice OTb.out
  have OFb:=Lib.hid (own_keepG OF20.out GB.out (fun k2 e2 e=>HD2.out k2 k2 e2 e.symm rfl))
  have h4:=HX4.out
  rw [if_neg hp6] at h4
  have HTG:=Lib.hid (udp_go q N c6 X3 (fs++[wp]) (ts++[port]) AH (k+1) cH AJ (k+1) cJ wvb KO21.out L3.out (by have:=SZ.out; omega) V3.out (by have:=SZ.out; omega) (by have:=SZ.out; omega) (by have:=HFL.out; have:=HTL.out; simp; omega) (Wd_own (by rw [List.map_append]; exact OFb.out) (by have:=HFL.out; simp; omega) (w16_app WF.out WB.out.1 WB.out.2) KO21.out) (Wd_own (by rw [List.map_append]; exact OTb.out) (by have:=HTL.out; simp; omega) (w16_app WTS.out P0.out P9.out) KO21.out) (by have:=HK.out; omega) (by have:=HK.out; omega))
  rw [← h4] at HTG
  have B21:=Lib.hid (below_grown B20.out OT20.out W6.out B20.out.size GB.out)
  clear h4 hp6
  refine HTG.out.mono ?_
  rintro o w22 ⟨rfl,hk22,ho22⟩
  have B22:=Lib.hid (ho22.from B21.out WQ.out)
  have K22:=Lib.hid hk22
  clear hk22 ho22
  go_wp2_with fail
  go_ret2
  exact ⟨B22.out,some ⟨q,0,none⟩,N,N,rfl,Sl_blk K22.out V4.out.2 V4.out.1 (by have:=SZ.out; omega)⟩
end Go.Proofs.Ytodckfgfbcnkoaa.natD
/- Layer 15: bytes of a packet of version 6 with another side, parsed again: plain words. -/
namespace Go.Proofs.Ytodckfgfbcnkoaa.natZb
set_option maxHeartbeats 2000000
open base octA octB sumE sixW sixM pktA pktC pktE sixE sixF pktG tunV natW natX natY natZ
def V8 (l:List Int) (p:Nat):Int:=((udpA.w16 l p*65536+udpA.w16 l (p+2))*65536+udpA.w16 l (p+4))*65536+udpA.w16 l (p+6)
theorem atN_words (m:List Int) (p:Nat):octB.atN m p 8=V8 m p:=by
 show (((((((0*256+m.getD (p+0) 0)*256+m.getD (p+1) 0)*256+m.getD (p+2) 0)*256+m.getD (p+3) 0)*256+m.getD (p+4) 0)*256+m.getD (p+5) 0)*256+m.getD (p+6) 0)*256+m.getD (p+7) 0=(((m.getD p 0*256+m.getD (p+1) 0)*65536+(m.getD (p+2) 0*256+m.getD (p+3) 0))*65536+(m.getD (p+4) 0*256+m.getD (p+5) 0))*65536+(m.getD (p+6) 0*256+m.getD (p+7) 0)
 rw [Nat.add_zero]
 omega
theorem V8_drop (l:List Int) (n p:Nat):V8 (l.drop n) p=V8 l (n+p):=by
 unfold V8
 rw [w16_drop,w16_drop,w16_drop,w16_drop]
 rfl
theorem hd_addr (l:List Int) (q:Int):(hdOf l q).sh=V8 l 8∧(hdOf l q).sl=V8 l 16∧(hdOf l q).dh=V8 l 24∧(hdOf l q).dl=V8 l 32 :=
 ⟨(atN_words _ _).trans (V8_drop l 8 0),(atN_words _ _).trans (V8_drop l 8 8),(atN_words _ _).trans (V8_drop l 24 0),(atN_words _ _).trans (V8_drop l 24 8)⟩
theorem V8_four {a b c d n:Int} (ha:0≤a∧a≤65535) (hb:0≤b∧b≤65535) (hc:0≤c∧c≤65535) (hd:0≤d∧d≤65535) (e:n=((a*65536+b)*65536+c)*65536+d):words n 4 4=[a,b,c,d]:=by
 rw [words4]
 simp only [List.cons.injEq,and_true]
 omega
theorem V8_words (l:List Int) (hu:U8 l) (p:Nat):aw true (V8 l p) (V8 l (p+8))=wat l p 8:=by
 have k:∀ i,0≤udpA.w16 l i∧udpA.w16 l i≤65535:=fun i=>udpA.w16_in l hu i
 show words (V8 l p) 4 4++words (V8 l (p+8)) 4 4=[udpA.w16 l p,udpA.w16 l (p+2),udpA.w16 l (p+4),udpA.w16 l (p+6)]++[udpA.w16 l (p+8),udpA.w16 l (p+8+2),udpA.w16 l (p+8+4),udpA.w16 l (p+8+6)]
 rw [V8_four (n:=V8 l p) (k _) (k _) (k _) (k _) rfl,V8_four (n:=V8 l (p+8)) (k _) (k _) (k _) (k _) rfl]
theorem V8_of {l:List Int} {p:Nat} {h n:Int} (h0:0≤h) (h9:h<18446744073709551616) (n0:0≤n) (n9:n<18446744073709551616) (e:wat l p 8=aw true h n):V8 l p=h∧V8 l (p+8)=n:=by
 have e1:[udpA.w16 l p,udpA.w16 l (p+2),udpA.w16 l (p+4),udpA.w16 l (p+6),udpA.w16 l (p+8),udpA.w16 l (p+8+2),udpA.w16 l (p+8+4),udpA.w16 l (p+8+6)]=[h / 281474976710656 % 65536,h / 4294967296 % 65536,h / 65536 % 65536,h / 1 % 65536,n / 281474976710656 % 65536,n / 4294967296 % 65536,n / 65536 % 65536,n / 1 % 65536]:=e
 simp only [List.cons.injEq,and_true] at e1
 obtain ⟨a1,a2,a3,a4,a5,a6,a7,a8⟩:=e1
 unfold V8
 rw [a1,a2,a3,a4,a5,a6,a7,a8]
 omega
theorem p6_inv {l:List Int} {P:Pk} (h:p6 l=(P,0)):∃ ys q r,sixP l=.inr (ys,q,r)∧¬ (lies ys / 8≠0∨decide (lies ys % 2=1)=true)∧withP true ⟨q,true,V8 l 8,V8 l 16,true,V8 l 24,V8 l 32,0,0⟩ (l.getD 7 0) (((40+extL ys:Nat):Int)+(r.length:Int)) r=(P,0):=by
 unfold p6 at h
 cases hc:sixP l with
 | inl e =>
  rw [hc] at h
  injection h with _ h
  unfold sixP at hc
  split at hc
  ·injection hc with hc; omega
  ·split at hc
   ·injection hc with hc; omega
   ·split at hc
    ·injection hc with hc; omega
    ·unfold ofC at hc
     split at hc
     ·injection hc with hc; omega
     ·cases hc
 | inr k =>
  obtain ⟨ys,q,r⟩:=k
  rw [hc] at h
  simp only at h
  obtain ⟨a1,a2,a3,a4⟩:=hd_addr l q
  rw [a1,a2,a3,a4] at h
  split at h
  ·injection h with _ h
   cases h
  ·rename_i k2
   exact ⟨ys,q,r,rfl,k2,h⟩
theorem six_full (l:List Int) (hu:U8 l) {ys:List XP} {q:Int} {r:List Int} (he:sixP l=.inr (ys,q,r)):(l.take (40+sizeP l)).drop 40=extB ys q++r∧RightE ys∧isX q=false∧(∀ x ∈ ys,U8 x.2)∧nextK ys q=l.getD 6 0:=by
 unfold sixP at he
 split at he
 ·cases he
 ·split at he
  ·cases he
  ·split at he
   ·cases he
   ·cases hc:chn 9 [] (l.getD 6 0) ((l.take (40+sizeP l)).drop 40) with
    | none=>rw [hc] at he; cases he
    | some k =>
     obtain ⟨ys',q',r'⟩:=k
     rw [hc] at he
     obtain ⟨rfl,rfl,rfl⟩:ys'=ys∧q'=q∧r'=r:=by
      have e:(Sum.inr (ys',q',r'):Res)=.inr (ys,q,r):=he
      injection e with e
      injection e with e1 e2
      injection e2 with e2 e3
      exact ⟨e1,e2,e3⟩
     obtain ⟨zs,e1,e2,e3,e4,e5,e6,e7,e8,e9,e10⟩:=chn_sound 9 [] _ _ ((hu.take _).drop _) (hu.get 6) RightE.nil (fun x hx=>by cases hx) hc
     rw [List.nil_append] at e1
     subst e1
     exact ⟨e3,e4,e5,e8,e2⟩
theorem nat6 (l:List Int) (hu:U8 l) (hn:l.length≤1000) (h6:l.getD 0 0 / 16=6) (P:Pk) (hP:pkP l=(P,0)) (her:P.er=false) (s:Nat) (hs:s≤1) (th tl port:Int) (th0:0≤th) (th9:th<18446744073709551616) (t0:0≤tl) (t9:tl<18446744073709551616) (p0:0≤port) (p9:port≤65535) :
  ∃ ys q r,sixP l=.inr (ys,q,r)∧∀ out,out=natO l (40+sizeP l) (40+extL ys) true s P.t.pr (aw true (sdH P.t s) (sdL P.t s)) (aw true th tl) (sdP P.t s) port →
  pkP out=({ P with t:=turnT P.t s th tl port },0)∧out.length=40+sizeP l∧U8 out:=by
 have hl0:¬ l.length=0:=fun k=>by
  rw [List.length_eq_zero_iff.mp k] at h6
  exact absurd h6 (by decide)
 have hP6:p6 l=(P,0):=by
  rw [← hP]
  unfold pkP
  rw [if_neg hl0,if_neg (show ¬ 9000<l.length by omega),if_neg (by omega),if_pos h6]
 obtain ⟨ys,q,R,hE,hF,hW⟩:=p6_inv hP6
 refine ⟨ys,q,R,hE,?_⟩
 intro out ho
 obtain ⟨_,hlen,hsz,hRu,q0,q9⟩:=six_sizes l hu hE
 obtain ⟨hdr,hRE,hqx,hyu,hnx⟩:=six_full l hu hE
 obtain ⟨N,hN⟩:∃ N,N=40+sizeP l:=⟨_,rfl⟩
 obtain ⟨S,hS⟩:∃ S,S=40+extL ys:=⟨_,rfl⟩
 rw [← hN] at hlen hdr ho ⊢
 rw [← hS] at ho hW
 have sw:S≤N:=by omega
 have xl:(extB ys q).length=S - 40:=by rw [extB_len]; omega
 have eR:(l.take N).drop S=R:=by
  rw [show S=40+(S - 40) by omega,← List.drop_drop,hdr,← xl,List.drop_left]
 have eX0:(l.take S).drop 40=extB ys q:=by
  have:(l.take S).drop 40=((l.take N).drop 40).take (S - 40):=by rw [List.drop_take,List.drop_take,List.take_take,Nat.min_eq_left (by omega)]
  rw [this,hdr,← xl,List.take_left]
 have hRl:R.length≤1000:=by omega
 have hvt:(⟨q,true,V8 l 8,V8 l 16,true,V8 l 24,V8 l 32,0,0⟩:Tp).s6=true:=rfl
 obtain ⟨hA,hpr⟩:=with_again true _ _ _ R P s th tl port hs hvt hRu hRl hW her p0 p9
 have hpr:q=6∨q=17:=hpr
 have hPt:P.t=⟨q,true,V8 l 8,V8 l 16,true,V8 l 24,V8 l 32,udpA.w16 R 0,udpA.w16 R 2⟩∧8≤R.length∧(q=6→20≤R.length):=by
  rcases with_inv hW her with ⟨k,hE,hPe⟩ | ⟨k,hE,hPe⟩
  ·have k:q=6:=k
   have h20:20≤R.length:=by
    unfold tcpE at hE
    split at hE
    ·omega
    ·omega
   exact ⟨by rw [hPe],by omega,fun _=>h20⟩
  ·have k:q=17:=k
   have h8:8≤R.length:=by
    unfold udpE_ at hE
    split at hE
    ·omega
    ·omega
   exact ⟨by rw [hPe],h8,fun e=>by omega⟩
 obtain ⟨hPt,h8,h20⟩:=hPt
 have hfs:aw true (sdH P.t s) (sdL P.t s)=wat l (plc true s) 8:=by
  rw [hPt]
  rcases Nat.lt_or_ge s 1 with k | k
  ·obtain rfl:s=0:=by omega
   exact V8_words l hu 8
  ·obtain rfl:s=1:=by omega
   exact V8_words l hu 24
 have hfs2:aw true (sdH (⟨q,true,V8 l 8,V8 l 16,true,V8 l 24,V8 l 32,0,0⟩:Tp) s) (sdL (⟨q,true,V8 l 8,V8 l 16,true,V8 l 24,V8 l 32,0,0⟩:Tp) s)=wat l (plc true s) 8:=by
  rw [← hfs,hPt]
  rcases Nat.lt_or_ge s 1 with k | k
  ·obtain rfl:s=0:=by omega
   rfl
  ·obtain rfl:s=1:=by omega
   rfl
 have hwp:sdP P.t s=udpA.w16 R (2*s):=by
  rw [hPt]
  rcases Nat.lt_or_ge s 1 with k | k
  ·obtain rfl:s=0:=by omega
   rfl
  ·obtain rfl:s=1:=by omega
   rfl
 have hpp:P.t.pr=q:=by rw [hPt]
 obtain ⟨fs,hfse⟩:∃ fs,fs=wat l (plc true s) 8:=⟨_,rfl⟩
 obtain ⟨ts,hts⟩:∃ ts,ts=aw true th tl:=⟨_,rfl⟩
 have fW:W16 fs:=by rw [hfse]; exact wat_w16 hu _ _
 have tW:W16 ts:=by rw [hts]; exact aw_in _ _ _
 have fl:fs.length=8:=by rw [hfse,wat_len]
 have tl8:ts.length=8:=by rw [hts,aw_len]; rfl
 rw [hfs2,← hfse,← hts] at hA
 rw [hfs,← hfse,← hts,hwp,hpp] at ho
 have hp8:plc true s=8+16*s:=rfl
 have hL:(l.take N).length=N:=by rw [List.length_take]; omega
 obtain ⟨X,hX⟩:∃ X,X=natX l N S true s fs ts port:=⟨_,rfl⟩
 have eX:X=setw (setws (l.take N) (plc true s) ts) (S+2*s) port:=by rw [hX]; rfl
 have ho:out=L4 X S q (fs++[udpA.w16 R (2*s)]) (ts++[port]):=by rw [ho,hX]; rfl
 have Xl:X.length=N:=by rw [eX,setw_len,setws_len,hL]
 have Xu:U8 X:=by rw [eX]; exact setw_u8 (setws_u8 _ _ (hu.take N) tW) _ _ p0 p9
 have hol:out.length=N:=by rw [ho,L4_len,Xl]
 have w2s:=udpA.w16_in R hRu (2*s)
 have hou:U8 out:=by rw [ho]; exact L4_u8 Xu _ _ _ _ (by rw [List.length_append,List.length_append,fl,tl8]; rfl) (w16_snoc fW w2s.1 w2s.2) (w16_snoc tW p0 p9)
 have Xd:X.drop S=portR R s port:=by
  rw [eX,setw_drop2,setws_drop _ _ _ _ (by omega),eR]
  rfl
 have od:out.drop S=if q=6 then tcpR R fs ts s port else udpR R fs ts s port:=by rw [ho]; exact L4_drop R s port _ hs h8 h20 X S fs ts Xd
 have hSl:(l.take S).length=S:=by rw [List.length_take]; omega
 have ot:out.take S=setws (l.take S) (plc true s) ts:=by
  rw [ho,L4_take,eX,setw_take,setws_take,List.take_take,Nat.min_eq_left sw,setw_out (setws (l.take S) (plc true s) ts) (S+2*s) port (by rw [setws_len,hSl]; omega)]
 have g:∀ i,i<8→out.getD i 0=l.getD i 0:=fun i hi=>by
  rw [← fourB.getD_take out S i (by omega),ot,setws_get _ _ _ _ (by omega) (by omega),fourB.getD_take l S i (by omega)]
 have gw:∀ i,i+1<40→udpA.w16 out i=udpA.w16 (setws (l.take S) (plc true s) ts) i:=fun i b=>by
  rw [← fourB.w16_take out S i (by omega),ot]
 have g0:=g 0 (by omega)
 have eSz:sizeP out=sizeP l:=by unfold sizeP; rw [g 4 (by omega),g 5 (by omega)]
 have hrl:(out.drop S).length=R.length:=by rw [List.length_drop]; omega
 have d40:(out.take (40+sizeP out)).drop 40=extB ys q++out.drop S:=by
  rw [eSz,← hN,List.take_of_length_le (by omega),← List.take_append_drop (S - 40) (out.drop 40),List.drop_drop,show 40+(S - 40)=S by omega]
  congr 1
  have:(out.drop 40).take (S - 40)=(out.take S).drop 40:=by rw [List.drop_take]
  rw [this,ot,setws_drop _ _ _ _ (by omega),eX0]
 have hE':sixP out=.inr (ys,q,out.drop S):=by
  unfold sixP
  rw [if_neg (by omega),g0,if_neg (by omega),d40,g 6 (by omega),← hnx,chn_put ys [] q (out.drop S) 9 (by rw [List.nil_append]; exact hRE) hyu hqx (by have:=hRE.most; omega),List.nil_append,if_neg (by omega)]
  rfl
 have eT:(⟨q,true,V8 out 8,V8 out 16,true,V8 out 24,V8 out 32,0,0⟩:Tp)=wsT ⟨q,true,V8 l 8,V8 l 16,true,V8 l 24,V8 l 32,0,0⟩ s th tl:=by
  have hw:∀ p,p+16≤40→wat out p 8=wat (setws (l.take S) (plc true s) ts) p 8:=fun p b=>by
   show [udpA.w16 out p,udpA.w16 out (p+2),udpA.w16 out (p+2+2),udpA.w16 out (p+2+2+2),udpA.w16 out (p+2+2+2+2),udpA.w16 out (p+2+2+2+2+2),udpA.w16 out (p+2+2+2+2+2+2),udpA.w16 out (p+2+2+2+2+2+2+2)]=[_,_,_,_,_,_,_,_]
   rw [gw p (by omega),gw (p+2) (by omega),gw (p+2+2) (by omega),gw (p+2+2+2) (by omega),gw (p+2+2+2+2) (by omega),gw (p+2+2+2+2+2) (by omega),gw (p+2+2+2+2+2+2) (by omega),gw (p+2+2+2+2+2+2+2) (by omega)]
  have hme:wat out (plc true s) 8=aw true th tl:=by
   rw [hw _ (by omega),← tl8,wat_setws _ _ _ (by omega),hts]
  obtain ⟨hm1,hm2⟩:=V8_of th0 th9 t0 t9 hme
  have hx:∀ p,(p+8≤plc true s∨plc true s+16≤p)→p+8≤40→V8 out p=V8 l p:=fun p a b=>by
   unfold V8
   rw [gw p (by omega),gw (p+2) (by omega),gw (p+4) (by omega),gw (p+6) (by omega),setws_w16 _ _ _ _ (by omega) (by omega),setws_w16 _ _ _ _ (by omega) (by omega),setws_w16 _ _ _ _ (by omega) (by omega),setws_w16 _ _ _ _ (by omega) (by omega),fourB.w16_take l S p (by omega),fourB.w16_take l S (p+2) (by omega),fourB.w16_take l S (p+4) (by omega),fourB.w16_take l S (p+6) (by omega)]
  rcases Nat.lt_or_ge s 1 with k | k
  ·obtain rfl:s=0:=by omega
   have hm1:V8 out 8=th:=hm1
   have hm2:V8 out 16=tl:=hm2
   rw [hm1,hm2,hx 24 (by omega) (by omega),hx 32 (by omega) (by omega)]
   rfl
  ·obtain rfl:s=1:=by omega
   have hm1:V8 out 24=th:=hm1
   have hm2:V8 out 32=tl:=hm2
   rw [hm1,hm2,hx 8 (by omega) (by omega),hx 16 (by omega) (by omega)]
   rfl
 refine ⟨?_,hol,hou⟩
 obtain ⟨a1,a2,a3,a4⟩:=hd_addr out q
 unfold pkP
 rw [if_neg (by omega),if_neg (by omega),g0,if_neg (by omega),if_pos h6]
 unfold p6
 rw [hE']
 simp only
 rw [if_neg hF,a1,a2,a3,a4,eT,g 7 (by omega),hrl,od,← hS]
 exact hA
end Go.Proofs.Ytodckfgfbcnkoaa.natZb
