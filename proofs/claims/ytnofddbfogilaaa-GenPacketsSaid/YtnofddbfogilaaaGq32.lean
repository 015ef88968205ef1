/- 5 texts in one. -/
import Derived.Laws.OwnMore
import Derived.Test.YtnofddbfogilaaaGq31
/- Layer 35: Packet, Open, the example. -/
namespace Go.Proofs.Ytnofddbfogilaaa.genK
set_option maxHeartbeats 8000000
set_option maxRecDepth 100000
open Go.ChangeShapes Go.WideShapes Go.ChangeAt Go.RowKit
open base mixB rdrG pktA pktC pktD genO genW genA genB genC genD genE pktE pktG pktK genG genI
set_option linter.unusedVariables false
set_option linter.unusedSimpArgs false
theorem load_row_g {P:Program} {ops:Array Oper} {rest:List Oper} {o:Oper} {a:Act} {w:World} {Q:Exit→Act→World→Prop} (hw:Region.wanted o (yielded ops a.tmps)=true) (ty:TypeId) (x:Operand) (ho:o.op=.load ty x)
  (g:Nat) (hx:a.eval x=.pointer (some ⟨g,0,none⟩)) (t:TypeId) (cs:Array Value) (fr:Nat × Nat) (d:TypeDesc) (hg:w.heap[g]?=some (.cells cs t fr))
  (hu:P.underlying ty=some d) (hd:(match d with | .struct _ | .array _ _=>true | _=>false)=true) (hi:(P.info? ty).map (·.size)=some cs.size)
  (h:wpList P ops Q rest (a.put o.dst (.agg cs)) w):wpList P ops Q (o::rest) a w :=
 wpList_step fun K hK=>by
  rw [if_pos hw]
  exact wp_load_row ty x ho g hx t cs fr d hg hu hd hi (hK _ _ h)
theorem packet_any {w:World} {g q B:Nat} {p:Pl} {a:Int} {v:Value} {op:List Tp} (h:SM w g q p a v) (ho:OwT w B v op) (hp:p.right) (hin:p.In) (hn:op.length≤256) (hB:B≤w.heap.size) (hk:∀ t ∈ op,FOk p t) (hm:p.mo≤400) :
  Calls Try.prog 11 #[.pointer (some ⟨g,0,none⟩)] w (PackP w g q B p v (gPk p a op)):=by
 rcases hp.2.2.1 with h6 | h17
 ·exact packet_tcp h ho hp hin hn hB hk hm h6
 ·exact packet_udp h ho hp hin hn hB hk hm h17
theorem pack_parse (p:Pl) (hp:p.right) (hin:p.In) (a:Int) (op:List Tp) (hk:∀ t ∈ op,FOk p t) (hn:op.length≤256) (hm:p.mo≤400):(pBy p (gPk p a op)).length≤600∧pkP (pBy p (gPk p a op))=(⟨(gPk p a op).t.s6,(gPk p a op).t,64,(if p.pr=17 then 0 else (gPk p a op).fl),false,zeroT,((pBy p (gPk p a op)).length:Int)⟩,0):=by
 obtain ⟨k1,k2,k3,k4⟩:=gPk_ok p hp a op hk hn
 have hgm:=gMany_in p (gPk p a op).a hp.1.2.2.2.2.1
 have h9:=spec_ok k1 hp hin _ k4 (gPay (gAt (gPk p a op).a 1) (gMany p (gPk p a op).a)) (by rw [gPay_len]; omega) (gPay_u8 _ _)
 exact ⟨h9.1,h9.2.1⟩
theorem open_src {w:World} {g q B:Nat} {p:Pl} {a:Int} {v:Value} {op:List Tp} (h:SM w g q p a v) (ho:OwT w B v op) (hp:p.right) (hin:p.In) :
  Calls Try.prog 12 #[.pointer (some ⟨g,0,none⟩)] w fun o w'=>o=.returned (.int .i64 (op.length:Int))∧Below w.heap.size w w':=by
 have HM:=Lib.hid (made_src h hp hin)
 obtain ⟨A,c,hv,_,_⟩:=ho.slice
 obtain ⟨L,hL⟩:∃ L,L=op.length:=⟨_,rfl⟩
 rw [← hL] at hv ⊢
 subst hv
 have S0:=Lib.hid h
 clear h ho hL hp hin
 go_enter Try.func12,Try.ntmps12
 go_wp2_with fail
 refine HM.out.mono ?_
 rintro o w2 ⟨rfl,hb2⟩
 have B2:=Lib.hid hb2
 have c12:w2.cell? ⟨g,12,none⟩=some (.slice A L c):=(hb2.cell (p:=⟨g,12,none⟩) S0.out.src.lt).trans (S0.out.src.cell 12)
 clear hb2
 go_wp2_with fail
 go_ret
 exact ⟨rfl,B2.out⟩
def p0:Pl:=⟨0,1,1,false,0,0,6,0,0,false,0⟩
theorem p0_right:p0.right:=by decide
theorem p0_in:p0.In:=⟨by decide,by decide,by decide,by decide,by decide,by decide⟩
theorem awake_any (w:World):Calls Try.prog 7 #[] w fun o w'=>o=.returned (.bool true)∧Below w.heap.size w w':=by
 obtain ⟨hl,hpk⟩:=pack_parse p0 p0_right p0_in 0 [] (fun t ht=>by cases ht) (by decide) (by decide)
 have hG:gPk p0 0 []=⟨gFlow p0 (gAt 0 1),2,gAt 0 3,[gFlow p0 (gAt 0 1)]⟩:=by
  unfold gPk
  rw [if_neg (by decide)]
  unfold gSeg
  rw [if_pos (.inl rfl)]
  rfl
 have HNW:=Lib.hid (show ∀ V,Calls Try.prog 6 #[.agg #[.int .u64 0,.int .i64 1,.int .i64 1,.bool false,.int .u64 0,.int .u64 0,.int .i64 6,.int .i64 0,.int .i64 0,.bool false,.int .i64 0]] V fun o w'=>∃ g q,o=.returned (.tuple #[.pointer (some ⟨g,0,none⟩),.int .i64 0])∧SM w' g q p0 0 (.slice none 0 0)∧Below V.heap.size V w'∧V.heap.size≤g∧V.heap.size≤q from fun V=>new_good p0 p0_right p0_in V)
 have HPK:=Lib.hid (fun V g q B (h1:SM V g q p0 0 (.slice none 0 0)) (hB:B≤V.heap.size)=>packet_any h1 (OwT.nil_ V B) p0_right p0_in (by decide) hB (fun t ht=>by cases ht) (by decide))
 have HOP:=Lib.hid (fun V g q B a v (h1:SM V g q p0 a v) (h2:OwT V B v [gFlow p0 (gAt 0 1)])=>open_src h1 h2 p0_right p0_in)
 obtain ⟨Bs,hBs⟩:∃ Bs,Bs=pBy p0 (gPk p0 0 []):=⟨_,rfl⟩
 have HBS:=Lib.hid hBs
 have HGG:=Lib.hid hG
 rw [← hBs] at hl hpk
 obtain ⟨Pq,hPq⟩:∃ Pq:Pk,Pq=⟨(gPk p0 0 []).t.s6,(gPk p0 0 []).t,64,(if p0.pr=17 then 0 else (gPk p0 0 []).fl),false,zeroT,(Bs.length:Int)⟩:=⟨_,rfl⟩
 rw [← hPq] at hpk
 have hop:opensP Pq=true:=by
  rw [hPq,hG,if_neg (by decide)]
  show (decide ((6:Int)=6) && tcpB.opensB 2)=true
  decide
 have OPN:=Lib.hid (show ∀ V,Calls Try.prog 19 #[.agg Pq.cells] V fun o w'=>o=.returned (.bool true)∧Below V.heap.size V w' from fun V=>by rw [← hop]; exact opens_pk Pq V)
 have HP:=Lib.hid (show ∀ V A n c,Sl V A n c Bs→Calls Try.prog 16 #[.slice A n c] V fun o w'=>o=.returned (.tuple #[.agg Pq.cells,.int .i64 0])∧Below V.heap.size V w' from fun V A n c h=>by
  have h9:=parse_any A n c Bs V h (by have:=h.len; omega)
  rw [hpk] at h9
  exact h9)
 obtain ⟨Y,hY⟩:∃ Y:Array Value,Y=Pq.cells:=⟨_,rfl⟩
 have ys:Y.size=23:=by rw [hY]; rfl
 have ONE:=Lib.hid (show Y.all (·.oneCell')=true from by rw [hY]; simp [Pk.cells,Value.oneCell'])
 have HIY:=Lib.hid (show (Try.prog.info? 53).map (·.size)=some Y.size from by rw [ys]; kernel_rfl)
 have ZY:=Lib.hid (show (#[.bool false,.int .i64 0,.bool false,.int .u64 0,.int .u64 0,.bool false,.int .u64 0,.int .u64 0,.int .i64 0,.int .i64 0,.int .i64 0,.int .i64 0,.bool false,.int .i64 0,.bool false,.int .u64 0,.int .u64 0,.bool false,.int .u64 0,.int .u64 0,.int .i64 0,.int .i64 0,.int .i64 0]:Array Value).size=Y.size from by rw [ys]; rfl)
 rw [← hY] at OPN HP
 clear hY ys hop hPq hpk hl hBs hG
 go_enter Try.func7,Try.ntmps7
 go_wp2_with fail
 refine (HNW.out _).mono ?_
 rintro o w1 ⟨g,q,rfl,hs1,hb1,hg1,hq1⟩
 have B1:=Lib.hid hb1
 have S1:=Lib.hid hs1
 have G1:=Lib.hid (show w.heap.size≤g∧w.heap.size≤q from ⟨hg1,hq1⟩)
 clear hs1 hb1 hg1 hq1
 go_wp2_with fail
 refine (HPK.out _ _ _ w.heap.size S1.out B1.out.size).mono ?_
 rintro o w2 ⟨A2,n2,c2,rfl,how2,v2,hs2,ho2,hf2,hv2⟩
 rw [← HBS.out] at how2
 rw [HGG.out] at ho2
 have S2:=Lib.hid hs2
 have O2:=Lib.hid (show OwT w2 w.heap.size v2 [gFlow p0 (gAt 0 1)] from ho2)
 have W2:=Lib.hid how2.sl
 have B2:=Lib.hid (B1.out.trans (hf2.below G1.out.1 G1.out.2 (fun x hx=>by simp [Value.ownBlock] at hx) B1.out.size))
 clear how2 hs2 ho2 hf2 hv2
 go_wp2_with fail
 refine (HP.out _ _ _ _ W2.out).mono ?_
 rintro o w5 ⟨rfl,hb5⟩
 obtain ⟨w6,hw6⟩:∃ w6,w6=(w5.alloc (.cells #[.bool false,.int .i64 0,.bool false,.int .u64 0,.int .u64 0,.bool false,.int .u64 0,.int .u64 0,.int .i64 0,.int .i64 0,.int .i64 0,.int .i64 0,.bool false,.int .i64 0,.bool false,.int .u64 0,.int .u64 0,.bool false,.int .u64 0,.int .u64 0,.int .i64 0,.int .i64 0,.int .i64 0] 53)).setRow w5.heap.size Y:=⟨_,rfl⟩
 obtain ⟨h,hh⟩:∃ h,h=w5.heap.size:=⟨_,rfl⟩
 have E6:=Lib.hid hw6
 have EG:=Lib.hid hh
 have K6:=Lib.hid (show Blk w6 h 53 Y from by rw [hw6,hh]; exact blkRow (Blk.new w5 _ _) _)
 have B56:=(show Below w5.heap.size w5 w6 from by rw [hw6]; exact (onlyRow _).from ((Below.refl _ _).alloc (Nat.le_refl _) _) (Nat.le_refl _))
 have B26:=Lib.hid (hb5.trans (B56.mono hb5.size))
 have B6:=Lib.hid (B2.out.trans (B26.out.mono B2.out.size))
 clear hw6 hh hb5 B56
 go_upto_region 3 with (refine wpList_store_row rfl 53 _ _ rfl w5.heap.size Y rfl rfl 53 #[.bool false,.int .i64 0,.bool false,.int .u64 0,.int .u64 0,.bool false,.int .u64 0,.int .u64 0,.int .i64 0,.int .i64 0,.int .i64 0,.int .i64 0,.bool false,.int .i64 0,.bool false,.int .u64 0,.int .u64 0,.bool false,.int .u64 0,.int .u64 0,.int .i64 0,.int .i64 0,.int .i64 0] (Blk.new w5 _ _) HIY.out ZY.out ONE.out ?_)
 rw [← E6.out,← EG.out]
 go_wp2_with (first | (refine load_row_g rfl 53 _ rfl h rfl 53 Y _ _ K6.out Try.underlying53 rfl HIY.out ?_))
 refine (OPN.out _).mono ?_
 rintro o w7 ⟨rfl,hb7⟩
 have S7:=Lib.hid ((S2.out.below B26.out).below hb7)
 have O7:=Lib.hid ((O2.out.below B26.out).below hb7)
 have B7:=Lib.hid (B6.out.trans (hb7.mono B6.out.size))
 clear hb7
 go_wp2_with fail
 refine (HOP.out _ _ _ _ _ _ S7.out O7.out).mono ?_
 rintro o w8 ⟨rfl,hb8⟩
 have B8:=Lib.hid (B7.out.trans (hb8.mono B7.out.size))
 clear hb8
 go_wp2_with fail
 go_ret
 exact ⟨rfl,B8.out⟩
end Go.Proofs.Ytnofddbfogilaaa.genK
namespace Go.Proofs.Ytnofddbfogilaaa.genM
end Go.Proofs.Ytnofddbfogilaaa.genM
/- Layer 35: packets taken together. -/
namespace Go.Proofs.Ytnofddbfogilaaa.genN
open Go.ChangeShapes Go.WideShapes Go.ChangeAt Go.RowKit
open base rdrG pktA pktC genO genW genA genE genI
set_option linter.unusedVariables false
set_option linter.unusedSimpArgs false
def gSt (p:Pl) (a:Int) (op:List Tp):Nat→Int × List Tp
 | 0=>(a,op)
 | k+1=>(gAt (gPk p (gSt p a op k).1 (gSt p a op k).2).a (1+gMany p (gPk p (gSt p a op k).1 (gSt p a op k).2).a),(gPk p (gSt p a op k).1 (gSt p a op k).2).op)
noncomputable def pkN (p:Pl) (a:Int) (op:List Tp) (k:Nat):List Int:=pBy p (gPk p (gSt p a op k).1 (gSt p a op k).2)
theorem gSt_ok (p:Pl) (hp:p.right) (a:Int) (op:List Tp) (h:∀ t ∈ op,FOk p t) (hn:op.length≤256):∀ k,(∀ t ∈ (gSt p a op k).2,FOk p t)∧(gSt p a op k).2.length≤256
 | 0=>⟨h,hn⟩
 | k+1=>by
   obtain ⟨h1,h2⟩:=gSt_ok p hp a op h hn k
   obtain ⟨_,k2,k3,_⟩:=gPk_ok p hp (gSt p a op k).1 (gSt p a op k).2 h1 h2
   exact ⟨k2,k3⟩
theorem OwB_keep {W W':World} {K:Nat} {A:Option Addr} {n c:Nat} {l:List Int} (h:OwB W K A n c l) (hk:∀ k cs,Blk W k 5 cs→W'.heap[k]?=W.heap[k]?):OwB W' K A n c l:=by
 refine ⟨⟨h.own.1,?_⟩,h.len,h.u8⟩
 rcases h.own.2 with h1 | ⟨g,cap,cur,h1,h2,h3,h4⟩
 ·exact .inl h1
 ·exact .inr ⟨g,cap,cur,h1,h2,(hk g cur h3).trans h3,h4⟩
theorem wp_run {P:Program} {w:World} {ops:Array Oper} {rest:List Oper} {o:Oper} {a:Act} {Q:Exit→Act→World→Prop} (hgd:o.guard=none) (s x:Operand) (t:TypeId)
  (ho:o.op=.call { callee:=.builtin .append,args:=#[s,x],argTypes:=#[t,t] }) (sv xv:Value) (hs:a.eval s=sv) (hx:a.eval x=xv) (ty:TypeId) (hty:o.type=ty) (v':Value) (w':World)
  (hrun:(Builtin.append_ #[t,t] ty #[sv,xv]).run P w=.ok v' w') (h:wpList P ops Q rest (a.put o.dst v') w'):wpList P ops Q (o::rest) a w:=by
 refine wpList_plain hgd fun K hK=>?_
 subst hty
 unfold Oper.wp
 simp [execOp,ho,resolve,invoke,builtin,hs,hx,hrun,Result.andThen]
 exact hK _ _ h
end Go.Proofs.Ytnofddbfogilaaa.genN
/- Layer 35: the law's bytes. -/
namespace Go.Proofs.Ytnofddbfogilaaa.genR
set_option maxHeartbeats 8000000
set_option maxRecDepth 100000
open Go.ChangeShapes Go.WideShapes Go.ChangeAt Go.RowKit
open base mixB rdrG pktA pktC genO genW genA genB genC genE genF genG genJ genN
set_option linter.unusedVariables false
set_option linter.unusedSimpArgs false
theorem und_u:Try.prog.underlying 47=some (.slice 5):=by kernel_rfl
theorem app_u (W:World) (B:Nat) (v:Value) (l:List Int) (h:W.ownsRow B 5 1 v l.length (l.map (.int .u8))) (y:Int) (b:Nat) (hy:Blk W b 5 #[.int .u8 y]) (hn:l.length≤100000) (hB:B≤W.heap.size) :
  ∃ v' w',(Builtin.append_ #[47,47] 47 #[v,.slice (some ⟨b,0,none⟩) 1 1]).run Try.prog W=.ok v' w'∧w'.ownsRow B 5 1 v' (l++[y]).length ((l++[y]).map (.int .u8))∧W.grownBy w' v.ownBlock∧(∀ x,v.ownBlock=some x→B≤x∧∃ cs,Blk W x 5 cs):=by
 obtain ⟨i,hi,hz,hsize,hby⟩:=info_parts info_u8f
 obtain ⟨v',w',h2,h3,h4,_⟩:=run_append_own (P:=Try.prog) (w:=W) B 47 47 5 i _ 1 1 und_u hi hz hsize hby rfl (by omega) v l.length _ h ⟨b,0,none⟩ 1 1 [.int .u8 y] rfl (fun j u hu=>by
  rw [add0,hy.cell j]
  simpa using hu) (fun u hu=>by rw [List.mem_singleton.1 hu]; rfl) (by unfold maxLen; omega) (by omega) hB
 refine ⟨v',w',h2,by rw [List.length_append,List.map_append]; exact h3,h4,fun x hx=>?_⟩
 rcases h.2 with ⟨e,_⟩ | ⟨g,cap,cur,e,e2,e3,_⟩
 ·rw [e] at hx
  simp [Value.ownBlock] at hx
 ·rw [e] at hx
  simp [Value.ownBlock] at hx
  subst hx
  exact ⟨e2,cur,e3⟩
theorem lbytes {w:World} {x:Nat} {p:Pl} {a:Int} {v:Value} (h:LM w x p a v) (hp:p.right) (hm:p.mo≤400) :
  Calls Try.prog 33 #[.pointer (some ⟨x,0,none⟩)] w fun o w'=>∃ A n c,o=.returned (.slice A n c)∧OwB w' w.heap.size A n c (gPay (gAt a 1) (gMany p a))∧LM w' x p (gAt a (1+gMany p a)) v∧OnQ x w w':=by
 obtain ⟨n,hn⟩:∃ n,n=gMany p a:=⟨_,rfl⟩
 have hmm:=gMany_in p a hp.1.2.2.2.2.1
 rw [← hn] at hmm ⊢
 have hmo:=hp.1.2.2.2.2.1
 have i1:=gNum_in a 0
 obtain ⟨m1,hm1⟩:∃ m,m=gNum a 0:=⟨_,rfl⟩
 have NX1:=Lib.hid (show ∀ W,LM W x p a v→Calls Try.prog 24 #[.pointer (some ⟨x,0,none⟩)] W fun o w'=>o=.returned (.int .u64 m1)∧LM w' x p (gAt a 1) v∧OnlyG x W w' from fun W hW=>by rw [hm1]; exact lnext hW)
 have BE:=Lib.hid (show ∀ V,Calls Try.prog 23 #[.int .u64 m1,.int .i64 (p.mo+1)] V fun e w'=>e=.returned (.int .i64 (n:Int))∧V=w' from fun V=>by rw [hmm.1,hm1]; exact refbelow_any (gNum a 0) (p.mo+1) i1.1 i1.2 (by omega) (by omega) V)
 have HN:=Lib.hid (show n≤400 by omega)
 have um:IntKind.i64.wrap (p.mo+1)=p.mo+1:=IntWalk.i64_in _ (by omega)
 obtain ⟨mo,hmo2⟩:∃ mo,mo=p.mo:=⟨_,rfl⟩
 have HMO:=Lib.hid (show ∀ W y,LM W x p y v→World.cell? W ⟨x,10,none⟩=some (.int .i64 mo) from fun W y hW=>by rw [hmo2]; exact Blk.cell hW 10)
 rw [← hmo2] at BE um
 have L0:=Lib.hid h
 have L0d:=Lib.hid (show LM w.drew x p a v from Blk.below h (dr_below _) h.lt)
 have sA:=Lib.hid (HMO.out _ _ L0d.out)
 clear hn hmm hmo i1 hm1 hm hp h hmo2
 go_enter Try.func33,Try.ntmps33
 go_upto_region 1 with fail
 go_region_held3 (fun W=>World.cell? W ⟨x,10,none⟩=some (.int .i64 mo)) (first | with_reducible exact sA.out | with_reducible exact sB.out)
  (first | (go_at_call 24
            (with_reducible refine (NX1.out _ L0d.out).mono ?_)
            rintro o w2 ⟨rfl,hs2,ho2⟩
            have L2:=Lib.hid hs2
            have Q2:=Lib.hid (show OnQ x w w2 from (OnQ.of_below (dr_below _)).then (OnQ.of_only ho2))
            have sB:=Lib.hid (HMO.out _ _ hs2)
            clear hs2 ho2)
         | (go_at_call 23
            (with_reducible refine (BE.out _).mono ?_)
            rintro o w3 ⟨rfl,rfl⟩))
 go_wp2_with fail
 go_loopw [4,5] (fun l i wr=>∃ k:Nat,k≤n∧i=.int .i64 k∧Hid (wr.ownsRow w.heap.size 5 1 l (gPay (gAt a 1) k).length ((gPay (gAt a 1) k).map (.int .u8)))∧Hid (LM wr x p (gAt (gAt a 1) k) v)∧Hid (OnQ x w wr)) (fun _ i _=>n - (intOf i).toNat)
 case atStart=>exact ⟨0,by omega,rfl,Lib.hid (World.ownsRow_nil _ _ _ _),L2,Q2⟩
 case round =>
 obtain ⟨k,hk,rfl,RR,LR,QR⟩:=hrel
 obtain ⟨Al,cl,hul⟩:=own_slice RR.out
 by_cases hlt:k<n
 case neg =>
  obtain rfl:n=k:=by omega
  have t1:decide ((n:Int)<(n:Int))=false:=decide_eq_false (by omega)
  obtain ⟨nl,hnl⟩:∃ nl,nl=(gPay (gAt a 1) n).length:=⟨_,rfl⟩
  rw [← hnl] at hul
  subst hul
  have NL:=Lib.hid hnl
  clear hnl hlt hk
  go_wp2_with fail
  go_ret
  refine ⟨_,_,_,rfl,⟨?_,NL.out.symm,gPay_u8 _ _⟩,by rw [← gAt_add]; exact LR.out,QR.out⟩
  have h9:=RR.out
  rw [← NL.out] at h9
  exact h9
 case pos =>
  have t1:decide ((k:Int)<(n:Int))=true:=decide_eq_true (by omega)
  obtain ⟨nl,hnl⟩:∃ nl,nl=(gPay (gAt a 1) k).length:=⟨_,rfl⟩
  rw [← hnl] at hul
  subst hul
  have HK:=Lib.hid hlt
  have ku:IntKind.i64.wrap ((k:Int)+1)=((k+1:Nat):Int):=by have:=HN.out; rw [IntWalk.i64_in _ (by omega)]; omega
  obtain ⟨z,hz⟩:∃ z,z=gNum (gAt a 1) k:=⟨_,rfl⟩
  obtain ⟨y,hy⟩:∃ y,y=z % 256:=⟨_,rfl⟩
  have ux:IntKind.u8.wrap z=y:=by rw [hy]; rw [IntKind.wrap_u8]
  have NXk:=Lib.hid (show Calls Try.prog 24 #[.pointer (some ⟨x,0,none⟩)] wr fun o w'=>o=.returned (.int .u64 z)∧LM w' x p (gAt (gAt a 1) (k+1)) v∧OnlyG x wr w' from by
   have h9:=lnext LR.out
   rw [gNum_add] at h9
   rw [hz]
   exact h9)
  have HY:=Lib.hid (show gPay (gAt a 1) (k+1)=gPay (gAt a 1) k++[y] from by rw [gPay_succ,hy,hz])
  have NL:=Lib.hid hnl
  clear hy hz hnl hlt hk
  go_wp2_with fail
  refine NXk.out.mono ?_
  rintro o w4 ⟨rfl,hs4,ho4⟩
  obtain ⟨w5,hw5⟩:∃ w5,w5=w4.alloc (.cells #[.int .u8 y] 5):=⟨_,rfl⟩
  have D5:=(show Below w4.heap.size w4 w5 from by rw [hw5]; exact al_below _ _)
  have Q5:=Lib.hid (QR.out.then ((OnQ.of_only ho4).then (OnQ.of_below D5)))
  have L5:=Lib.hid (show LM w5 x p (gAt (gAt a 1) (k+1)) v from Blk.below hs4 D5 hs4.lt)
  have RR5:w5.ownsRow w.heap.size 5 1 (.slice Al nl cl) (gPay (gAt a 1) k).length ((gPay (gAt a 1) k).map (.int .u8)):=by
   refine ⟨RR.out.1,?_⟩
   rcases RR.out.2 with h1 | ⟨g,cap,cur,h1,h2,h3,h4⟩
   ·exact .inl h1
   ·have hb:Blk wr g 5 cur:=h3
    exact .inr ⟨g,cap,cur,h1,h2,((ho4.blk hb (blk_ne hb LR.out (by decide))).below D5 (ho4.blk hb (blk_ne hb LR.out (by decide))).lt),h4⟩
  obtain ⟨v6,w6,hrun,hr6,hg6,hvb⟩:=app_u w5 w.heap.size (.slice Al nl cl) (gPay (gAt a 1) k) RR5 y w4.heap.size (by rw [hw5]; exact Blk.new w4 _ _) (by rw [gPay_len]; have:=HN.out; have:=HK.out; omega) Q5.out.size
  rw [← HY.out] at hr6
  have R6:=Lib.hid hr6
  have KP:∀ k,k<w5.heap.size→(∀ x,(Value.slice Al nl cl).ownBlock=some x→x≠k)→w6.heap[k]?=w5.heap[k]?:=fun k hk hx=>hg6.block k hk (fun e=>hx k e.symm rfl)
  have L6:=Lib.hid (show LM w6 x p (gAt (gAt a 1) (k+1)) v from (KP x L5.out.lt (fun x2 hx=>by obtain ⟨_,cs,h9⟩:=hvb x2 hx; exact blk_ne h9 L5.out (by decide))).trans L5.out)
  have Q6:=Lib.hid (show OnQ x w w6 from ⟨hg6.os.trans Q5.out.os,hg6.tape.trans Q5.out.tape,hg6.output.trans Q5.out.output,Nat.le_trans Q5.out.size hg6.size,fun k h1 h3 h4 h5=>(KP k (Nat.lt_of_lt_of_le h1 Q5.out.size) (fun x hx e=>by have:=(hvb x hx).1; omega)).trans (Q5.out.block k h1 h3 h4 h5)⟩)
  rw [hw5] at hrun
  have HR:=Lib.hid hrun
  clear hrun hw5 D5 RR5 hr6 hg6 hvb KP hs4 ho4
  go_wp2_with (at_builtin; refine wp_run rfl (.tmp 20) (.tmp 24) 47 rfl (.slice Al nl cl) (.slice (some ⟨w4.heap.size,0,none⟩) 1 1) rfl rfl 47 rfl v6 w6 HR.out ?_)
  go_roundw
  case rel=>exact ⟨k+1,HK.out,by simp,R6,L6,Q6⟩
  case measure=>have:=HK.out; simp [intOf]; omega
end Go.Proofs.Ytnofddbfogilaaa.genR
/- Layer 35: the law's packet. -/
namespace Go.Proofs.Ytnofddbfogilaaa.genS
set_option maxHeartbeats 8000000
set_option maxRecDepth 100000
open Go.ChangeShapes Go.WideShapes Go.ChangeAt Go.RowKit
open base mixB rdrG pktA pktC pktD genO genW genA genB genC genE genG genI genJ genR
set_option linter.unusedVariables false
set_option linter.unusedSimpArgs false
def LPackP (w:World) (x B:Nat) (p:Pl) (v:Value) (G:Gs) (o:Ending) (w':World):Prop:=∃ A n c,o=.returned (.slice A n c)∧OwB w' w.heap.size A n c (pBy p G)∧∃ v',LM w' x p (gAt G.a (1+gMany p G.a)) v'∧OwT w' B v' G.op∧Frg x x v w w'∧∀ y,v'.ownBlock=some y→v.ownBlock=some y∨w.heap.size≤y
theorem OwT_onx {x:Nat} {B:Nat} {v:Value} {l:List Tp} {W W':World} {T:TypeId} {cs:Array Value} (h:OwT W B v l) (hq:Blk W x T cs) (hT:T≠39) (ho:OnQ x W W'):OwT W' B v l:=h.keep fun y hy=>ho.block y (h.lt y hy).2 (OwT_ne h hq hT y hy) (OwT_ne h hq hT y hy) (by simp [Value.ownBlock])
theorem LMb {w w':World} {x:Nat} {p:Pl} {a:Int} {v:Value} (h:LM w x p a v) (hb:Below w.heap.size w w'):LM w' x p a v:=Blk.below h hb h.lt
theorem lp_udp {w:World} {x B:Nat} {p:Pl} {a:Int} {v:Value} {op:List Tp} (h:LM w x p a v) (ho:OwT w B v op) (hp:p.right) (hin:p.In) (hn:op.length≤256) (hB:B≤w.heap.size) (hk:∀ t ∈ op,FOk p t) (hm:p.mo≤400) (hpr:p.pr=17) :
  Calls Try.prog 17 #[.pointer (some ⟨x,0,none⟩)] w (LPackP w x B p v (gPk p a op)):=by
 obtain ⟨k1,k2,k3,k4⟩:=gPk_ok p hp a op hk hn
 have hgm:=gMany_in p (gPk p a op).a hp.1.2.2.2.2.1
 have SP:=Lib.hid (show genI.Spec p (gPk p a op).t (gPk p a op).fl (gPay (gAt (gPk p a op).a 1) (gMany p (gPk p a op).a)) (pBy p (gPk p a op)) from spec_ok k1 hp hin _ k4 _ (by rw [gPay_len]; omega) (gPay_u8 _ _))
 have EG:=Lib.hid (show gPk p a op=⟨gFlow p a,0,gAt a 2,op⟩ from by unfold gPk; rw [if_pos hpr])
 have BY:=Lib.hid (fun V v' (hV:LM V x p (gPk p a op).a v')=>lbytes hV hp hm)
 obtain ⟨G,hG⟩:∃ G,G=gPk p a op:=⟨_,rfl⟩
 rw [← hG] at SP EG BY ⊢
 obtain ⟨Bs,hBs⟩:∃ Bs,Bs=pBy p G:=⟨_,rfl⟩
 rw [← hBs] at SP
 have HBS:=Lib.hid hBs
 have HPR:=Lib.hid hpr
 have c6:w.cell? ⟨x,6,none⟩=some (.int .i64 17):=by rw [← hpr]; exact Blk.cell h 6
 have L0:=Lib.hid h
 have O0:=Lib.hid ho
 have HB:=Lib.hid hB
 have HN:=Lib.hid hn
 have FL:=Lib.hid (fun V (hV:LM V x p a v)=>lflow hV hp)
 clear k1 k2 k3 k4 hgm hG hBs h ho hp hin hn hB hk hm hpr
 go_enter Try.func17,Try.ntmps17
 go_wp2_with fail
 refine (FL.out _ L0.out).mono ?_
 rintro o w3 ⟨rfl,hs3,ho3⟩
 have O3:=Lib.hid (OwT_onx O0.out L0.out (by decide) ho3)
 have F3:=Lib.hid (show Frg x x v w w3 from Frg_onq (Frg.refl _ _ _ _) ho3)
 have L3:=Lib.hid (show LM w3 x p G.a v from by rw [EG.out]; exact hs3)
 have VB:=Lib.hid (show ∀ y,v.ownBlock=some y→v.ownBlock=some y∨w.heap.size≤y from fun y hy=>.inl hy)
 have OG:=Lib.hid (show OwT w3 B v G.op from by rw [EG.out]; exact O3.out)
 obtain ⟨F,hF⟩:∃ F,F=G.t:=⟨_,rfl⟩
 rw [show gFlow p a=F from by rw [hF,EG.out]]
 have SQ:=Lib.hid (SP.out.2.2.1 HPR.out)
 rw [← hF] at SQ
 clear hs3 ho3 c6 hF
 obtain ⟨fpr,fs6,fsh,fsl,fd6,fdh,fdl,fsp,fdp⟩:=F
 simp only [Tp.cells]
 go_upto_region 3 with fail
 obtain ⟨w4,hw4⟩:∃ w4,w4=w3.alloc (.cells #[.int .i64 fpr,.bool fs6,.int .u64 fsh,.int .u64 fsl,.bool fd6,.int .u64 fdh,.int .u64 fdl,.int .i64 fsp,.int .i64 fdp] 39):=⟨_,rfl⟩
 obtain ⟨z,hz⟩:∃ z,z=w3.heap.size:=⟨_,rfl⟩
 rw [← hw4,← hz]
 have D4:=(show Below w3.heap.size w3 w4 from by rw [hw4]; exact al_below _ _)
 have ZZ:=Lib.hid (show Blk w4 z 39 #[.int .i64 fpr,.bool fs6,.int .u64 fsh,.int .u64 fsl,.bool fd6,.int .u64 fdh,.int .u64 fdl,.int .i64 fsp,.int .i64 fdp] from by rw [hw4,hz]; exact Blk.new w3 _ _)
 have LL:=Lib.hid (LMb L3.out D4)
 have OO:=Lib.hid (OG.out.below D4)
 have FF:=Lib.hid (F3.out.then (Frg.of_below D4))
 clear hw4 hz D4
 have SQ:=Lib.hid (show ∀ (K:Nat) (A:Option Addr) (n c:Nat) (w:World),K≤w.heap.size→Sl w A n c (gPay (gAt G.a 1) (gMany p G.a))→Calls Try.prog 25 #[.agg #[.int .i64 fpr,.bool fs6,.int .u64 fsh,.int .u64 fsl,.bool fd6,.int .u64 fdh,.int .u64 fdl,.int .i64 fsp,.int .i64 fdp],.int .i64 64,.slice A n c] w (MkO K 0 Bs w) from SQ.out)
 have Z4:=Lib.hid (ZZ.out.below (dr_below _) ZZ.out.lt)
 have L4:=Lib.hid (LMb LL.out (dr_below _))
 have O4:=Lib.hid (OO.out.below (dr_below _))
 have F4:=Lib.hid (FF.out.then (Frg.of_below (dr_below _)))
 have NZ:=Lib.hid (blk_ne Z4.out L4.out (by decide))
 have HSS:=Lib.hid (show ∀ W,Blk W z 39 #[.int .i64 fpr,.bool fs6,.int .u64 fsh,.int .u64 fsl,.bool fd6,.int .u64 fdh,.int .u64 fdl,.int .i64 fsp,.int .i64 fdp]→World.cell? W ⟨z,0,none⟩=some (.int .i64 fpr)∧World.cell? W ⟨z,1,none⟩=some (.bool fs6)∧World.cell? W ⟨z,2,none⟩=some (.int .u64 fsh)∧World.cell? W ⟨z,3,none⟩=some (.int .u64 fsl)∧World.cell? W ⟨z,4,none⟩=some (.bool fd6)∧World.cell? W ⟨z,5,none⟩=some (.int .u64 fdh)∧World.cell? W ⟨z,6,none⟩=some (.int .u64 fdl)∧World.cell? W ⟨z,7,none⟩=some (.int .i64 fsp)∧World.cell? W ⟨z,8,none⟩=some (.int .i64 fdp) from fun W h1=>⟨h1.cell 0,h1.cell 1,h1.cell 2,h1.cell 3,h1.cell 4,h1.cell 5,h1.cell 6,h1.cell 7,h1.cell 8⟩)
 have tA:=Lib.hid (HSS.out _ Z4.out)
 go_region_held3 (fun W=>World.cell? W ⟨z,0,none⟩=some (.int .i64 fpr)∧World.cell? W ⟨z,1,none⟩=some (.bool fs6)∧World.cell? W ⟨z,2,none⟩=some (.int .u64 fsh)∧World.cell? W ⟨z,3,none⟩=some (.int .u64 fsl)∧World.cell? W ⟨z,4,none⟩=some (.bool fd6)∧World.cell? W ⟨z,5,none⟩=some (.int .u64 fdh)∧World.cell? W ⟨z,6,none⟩=some (.int .u64 fdl)∧World.cell? W ⟨z,7,none⟩=some (.int .i64 fsp)∧World.cell? W ⟨z,8,none⟩=some (.int .i64 fdp)) (first | with_reducible exact tA.out | with_reducible exact tB.out | with_reducible exact tC.out)
  (first | (go_at_call 33
            (with_reducible refine (BY.out _ v L4.out).mono ?_)
            rintro o w5 ⟨A5,n5,c5,rfl,hb5,hs5,ho5⟩
            have L5:=Lib.hid hs5
            have Z5:=Lib.hid (ho5.blk Z4.out NZ.out)
            have F5:=Lib.hid (show Frg x x v w w5 from Frg_onq F4.out ho5)
            have O5:=Lib.hid (OwT_onx O4.out L4.out (by decide) ho5)
            have X5:=Lib.hid hb5.sl
            have tB:=Lib.hid (HSS.out _ Z5.out)
            clear hb5 hs5 ho5)
         | (go_at_call 25
            (with_reducible refine (SQ.out w.heap.size _ _ _ _ F5.out.size X5.out).mono ?_)
            rintro o w6 ⟨hb6,A6,n6,c6,rfl,how⟩
            have L6:=Lib.hid (LMb L5.out hb6)
            have F6:=Lib.hid (F5.out.then (Frg.of_below hb6))
            have O6:=Lib.hid (O5.out.below hb6)
            have W6:=Lib.hid how
            have tC:=Lib.hid (HSS.out _ (Z5.out.below hb6 Z5.out.lt))
            clear hb6 how))
 go_wp2_with fail
 go_ret
 exact ⟨_,_,_,rfl,by rw [← HBS.out]; exact W6.out,v,L6.out,O6.out,F6.out,VB.out⟩
theorem lp_new {w:World} {x B:Nat} {p:Pl} {a:Int} {v:Value} {op:List Tp} (h:LM w x p a v) (ho:OwT w B v op) (hp:p.right) (hin:p.In) (hn:op.length≤256) (hB:B≤w.heap.size) (hk:∀ t ∈ op,FOk p t) (hm:p.mo≤400) (hpr:p.pr=6) (hc:op.length=0∨(below (gNum a 0) 4=0∧op.length<256)) :
  Calls Try.prog 17 #[.pointer (some ⟨x,0,none⟩)] w (LPackP w x B p v (gPk p a op)):=by
 obtain ⟨k1,k2,k3,k4⟩:=gPk_ok p hp a op hk hn
 have hgm:=gMany_in p (gPk p a op).a hp.1.2.2.2.2.1
 have SP:=Lib.hid (show genI.Spec p (gPk p a op).t (gPk p a op).fl (gPay (gAt (gPk p a op).a 1) (gMany p (gPk p a op).a)) (pBy p (gPk p a op)) from spec_ok k1 hp hin _ k4 _ (by rw [gPay_len]; omega) (gPay_u8 _ _))
 have EG:=Lib.hid (show gPk p a op=⟨gFlow p (gAt a 1),2,gAt a 3,op++[gFlow p (gAt a 1)]⟩ from by unfold gPk; rw [if_neg (by rw [hpr]; decide)]; unfold gSeg; rw [if_pos hc])
 have BY:=Lib.hid (fun V v' (hV:LM V x p (gPk p a op).a v')=>lbytes hV hp hm)
 obtain ⟨G,hG⟩:∃ G,G=gPk p a op:=⟨_,rfl⟩
 rw [← hG] at SP EG BY ⊢
 obtain ⟨Bs,hBs⟩:∃ Bs,Bs=pBy p G:=⟨_,rfl⟩
 rw [← hBs] at SP
 have HBS:=Lib.hid hBs
 have HPR:=Lib.hid hpr
 have c6:w.cell? ⟨x,6,none⟩=some (.int .i64 6):=by rw [← hpr]; exact Blk.cell h 6
 have L0:=Lib.hid h
 have O0:=Lib.hid ho
 have HB:=Lib.hid hB
 have HN:=Lib.hid hn
 obtain ⟨n4,hn4⟩:∃ n,n=below (gNum a 0) 4:=⟨_,rfl⟩
 have i1:=gNum_in a 0
 obtain ⟨m1,hm1⟩:∃ m,m=gNum a 0:=⟨_,rfl⟩
 have NX1:=Lib.hid (show ∀ W,LM W x p a v→Calls Try.prog 24 #[.pointer (some ⟨x,0,none⟩)] W fun o w'=>o=.returned (.int .u64 m1)∧LM w' x p (gAt a 1) v∧OnlyG x W w' from fun W hW=>by rw [hm1]; exact lnext hW)
 have BE:=Lib.hid (show ∀ V,Calls Try.prog 23 #[.int .u64 m1,.int .i64 4] V fun e w'=>e=.returned (.int .i64 n4)∧V=w' from fun V=>by rw [hn4,hm1]; exact refbelow_any (gNum a 0) 4 i1.1 i1.2 (by omega) (by omega) V)
 obtain ⟨A,c,hv,hlc,hcm⟩:=ho.slice
 obtain ⟨Ln,hL⟩:∃ Ln,Ln=op.length:=⟨_,rfl⟩
 rw [← hL] at hv hlc HN
 subst hv
 have HL:=Lib.hid hL
 have FL:=Lib.hid (show ∀ W,LM W x p (gAt a 1) (.slice A Ln c)→Calls Try.prog 9 #[.pointer (some ⟨x,0,none⟩)] W fun o w'=>o=.returned (.agg (gFlow p (gAt a 1)).cells)∧LM w' x p (gAt a 3) (.slice A Ln c)∧OnQ x W w' from fun W hW=>by
  have h9:=lflow hW hp
  rw [gAt_add] at h9
  exact h9)
 have HC:=Lib.hid (show Ln=0∨(n4=0∧Ln<256) from by rw [hL,hn4]; exact hc)
 have VLT:=Lib.hid (show ∀ y,(Value.slice A Ln c).ownBlock=some y→y<w.heap.size from fun y hy=>(ho.lt y hy).2)
 clear k1 k2 k3 k4 hgm hG hBs h ho hp hin hn hB hk hm hpr hc hn4 hm1 i1 hlc hcm hL
 go_enter Try.func17,Try.ntmps17
 go_wp2_with fail
 refine (NX1.out _ L0.out).mono ?_
 rintro o w2 ⟨rfl,hs2,ho2⟩
 have L2:=Lib.hid hs2
 have O2:=Lib.hid (OwT_onx O0.out L0.out (by decide) (OnQ.of_only ho2))
 have F2:=Lib.hid (show Frg x x (.slice A Ln c) w w2 from Frg_onq (Frg.refl _ _ _ _) (OnQ.of_only ho2))
 clear hs2 ho2 c6
 go_wp2_with fail
 refine (BE.out _).mono ?_
 rintro o w' ⟨rfl,rfl⟩
 have c12:w2.cell? ⟨x,12,none⟩=some (.slice A Ln c):=Blk.cell L2.out 12
 go_upto_region 6 with fail
 go_cut [54] (fun y wx=>y=.bool true∧wx=w2)
 case first =>
  by_cases h0:Ln=0
  ·have t0:((Ln:Int) == 0)=true:=by simp [h0]
   clear h0
   go_wp2_with fail
   go_meet
   exact ⟨rfl,rfl⟩
  ·have t0:((Ln:Int) == 0)=false:=by rw [beq_eq_false_iff_ne]; omega
   have h1:=HC.out.resolve_left h0
   have t1:(n4 == 0)=true:=by simp [h1.1]
   have t2:decide ((Ln:Int)<256)=true:=decide_eq_true (by omega)
   clear h0 h1
   go_wp2_with fail
   go_meet
   exact ⟨rfl,rfl⟩
 case rest =>
 obtain ⟨rfl,hwc⟩:=hcut
 rw [hwc]
 clear hwc c12
 go_wp2_with fail
 refine (FL.out _ L2.out).mono ?_
 rintro o w3 ⟨rfl,hs3,ho3⟩
 have O3:=Lib.hid (OwT_onx O2.out L2.out (by decide) ho3)
 have F3:=Lib.hid (show Frg x x (.slice A Ln c) w w3 from Frg_onq F2.out ho3)
 have L3:=Lib.hid hs3
 obtain ⟨F,hF⟩:∃ F,F=gFlow p (gAt a 1):=⟨_,rfl⟩
 rw [← hF]
 have hGt:G.t=F:=by rw [EG.out,hF]
 have hGf:G.fl=2:=by rw [EG.out]
 have SQ:=Lib.hid (SP.out.2.2.2 HPR.out)
 rw [hGt,hGf] at SQ
 rw [← hF] at EG
 clear hs3 ho3 hF hGt hGf
 obtain ⟨fpr,fs6,fsh,fsl,fd6,fdh,fdl,fsp,fdp⟩:=F
 simp only [Tp.cells]
 go_upto_region 8 with fail
 obtain ⟨w4,hw4⟩:∃ w4,w4=w3.alloc (.cells #[.int .i64 fpr,.bool fs6,.int .u64 fsh,.int .u64 fsl,.bool fd6,.int .u64 fdh,.int .u64 fdl,.int .i64 fsp,.int .i64 fdp] 39):=⟨_,rfl⟩
 obtain ⟨z,hz⟩:∃ z,z=w3.heap.size:=⟨_,rfl⟩
 rw [← hw4,← hz]
 have D4:=(show Below w3.heap.size w3 w4 from by rw [hw4]; exact al_below _ _)
 have Z4:=Lib.hid (show Blk w4 z 39 #[.int .i64 fpr,.bool fs6,.int .u64 fsh,.int .u64 fsl,.bool fd6,.int .u64 fdh,.int .u64 fdl,.int .i64 fsp,.int .i64 fdp] from by rw [hw4,hz]; exact Blk.new w3 _ _)
 have L4:=Lib.hid (LMb L3.out D4)
 have O4:=Lib.hid (O3.out.below D4)
 have F4:=Lib.hid (F3.out.then (Frg.of_below D4))
 have HZ:=Lib.hid (show w.heap.size≤z from by rw [hz]; exact F3.out.size)
 clear hw4 hz D4
 obtain ⟨w5,hw5⟩:∃ w5,w5=(w4.alloc (.cells #[.int .i64 fpr,.bool fs6,.int .u64 fsh,.int .u64 fsl,.bool fd6,.int .u64 fdh,.int .u64 fdl,.int .i64 fsp,.int .i64 fdp] 39)).drew:=⟨_,rfl⟩
 have D5:=Lib.hid (show Below w4.heap.size w4 w5 from by rw [hw5]; exact (al_below _ _).drew)
 have Y5:=(show Blk w5 w4.heap.size 39 #[.int .i64 fpr,.bool fs6,.int .u64 fsh,.int .u64 fsl,.bool fd6,.int .u64 fdh,.int .u64 fdl,.int .i64 fsp,.int .i64 fdp] from by rw [hw5]; exact (Blk.new w4 _ _).below (dr_below _) (Blk.new w4 _ _).lt)
 have L5:=Lib.hid (LMb L4.out D5.out)
 have O5:=Lib.hid (O4.out.below D5.out)
 have Z5:=Lib.hid (Z4.out.below D5.out Z4.out.lt)
 have F5:=Lib.hid (F4.out.then (Frg.of_below D5.out))
 obtain ⟨v6,w6,hrun,ho6,hg6,hb6⟩:=app_one w5 B (.slice A Ln c) op O5.out ⟨fpr,fs6,fsh,fsl,fd6,fdh,fdl,fsp,fdp⟩ ⟨w4.heap.size,0,none⟩ 1 (fun j u hu=>by rw [add0,Y5.cell j,← hu]; simp [Tp.cells]) (by have:=HL.out; have:=HN.out; omega) (by have:=HB.out; have:=F5.out.size; omega) 35
 obtain ⟨Av,cv,hv6,_,_⟩:=ho6.slice
 obtain ⟨nv,hn6⟩:∃ n,n=(op++[(⟨fpr,fs6,fsh,fsl,fd6,fdh,fdl,fsp,fdp⟩:Tp)]).length:=⟨_,rfl⟩
 rw [← hn6] at hv6
 subst hv6
 clear hn6
 rw [hw5] at hrun
 have OW6:=Lib.hid ho6
 have VB6:=Lib.hid (show ∀ y,(Value.slice Av nv cv).ownBlock=some y→(Value.slice A Ln c).ownBlock=some y∨w.heap.size≤y from fun y hy=>(hb6 y hy).imp_right fun e=>Nat.le_trans F5.out.size e)
 have KP:=Lib.hid (show ∀ k,k<w5.heap.size→(∀ y,(Value.slice A Ln c).ownBlock=some y→y≠k)→w6.heap[k]?=w5.heap[k]? from fun k hk hx=>hg6.block k hk (fun e=>hx k e.symm rfl))
 have L6:=Lib.hid (show LM w6 x p (gAt a 3) (.slice A Ln c) from (KP.out x L5.out.lt (OwT_ne O5.out L5.out (by decide))).trans L5.out)
 have Z6:=Lib.hid (show Blk w6 z 39 #[.int .i64 fpr,.bool fs6,.int .u64 fsh,.int .u64 fsl,.bool fd6,.int .u64 fdh,.int .u64 fdl,.int .i64 fsp,.int .i64 fdp] from (KP.out z Z5.out.lt fun y hy e=>by have:=VLT.out y hy; have:=HZ.out; omega).trans Z5.out)
 have F6:=Lib.hid (show Frg x x (.slice A Ln c) w w6 from F5.out.grown hg6)
 have c12:w4.cell? ⟨x,12,none⟩=some (.slice A Ln c):=Blk.cell L4.out 12
 have e12:(w4.alloc (.cells #[.int .i64 fpr,.bool fs6,.int .u64 fsh,.int .u64 fsl,.bool fd6,.int .u64 fdh,.int .u64 fdl,.int .i64 fsp,.int .i64 fdp] 39)).cell? ⟨x,12,none⟩=some (.slice A Ln c):=((al_below w4 _).cell (p:=⟨x,12,none⟩) L4.out.lt).trans c12
 have d12:w6.cell? ⟨x,12,none⟩=some (.slice A Ln c):=Blk.cell L6.out 12
 have f12:w6.frozen? ⟨x,12,none⟩=false:=Blk.frozen L6.out 12
 have z0:=Z4.out.cell 0
 have z1:=Z4.out.cell 1
 have z2:=Z4.out.cell 2
 have z3:=Z4.out.cell 3
 have z4:=Z4.out.cell 4
 have z5:=Z4.out.cell 5
 have z6:=Z4.out.cell 6
 have z7:=Z4.out.cell 7
 have z8:=Z4.out.cell 8
 obtain ⟨w7,hw7⟩:∃ w7,w7=w6.setCell ⟨x,12,none⟩ (.slice Av nv cv):=⟨_,rfl⟩
 have E7:=Lib.hid hw7
 have HR:=Lib.hid hrun
 clear hw5 Y5 ho6 hg6 hb6 hrun hw7
 go_cut [] (fun wx=>wx=w7)
 case first =>
  go_region_law (refine step_run rfl (.tmp 61) (.tmp 63) 35 rfl (.slice A Ln c) (.slice (some ⟨w4.heap.size,0,none⟩) 1 1) rfl rfl 35 rfl (.slice Av nv cv) w6 HR.out ?_)
  all_goals go_wp2_with fail
  all_goals go_meet
  all_goals exact E7.out.symm
 case rest =>
 rw [hcut]
 clear hcut
 have hw7:=E7.out
 have O7:=Lib.hid (show OnlyG x w6 w7 from by rw [hw7]; exact (OnlyG.refl x w6).set 12 _)
 have LL:=Lib.hid (show LM w7 x p G.a (.slice Av nv cv) from by rw [hw7,EG.out]; exact Blk.set_ L6.out 12 _)
 have ZZ:=Lib.hid (O7.out.blk Z6.out (blk_ne Z6.out L6.out (by decide)))
 have OO:=Lib.hid (show OwT w7 B (.slice Av nv cv) G.op from by rw [EG.out]; exact OW6.out.keep fun y hy=>O7.out.els y (OwT_ne OW6.out L6.out (by decide) y hy))
 have FF:=Lib.hid (show Frg x x (.slice A Ln c) w w7 from by rw [hw7]; exact F6.out.setCell (p:=⟨x,12,none⟩) (.inl rfl) _)
 clear hw7 c12 d12 f12 e12 z0 z1 z2 z3 z4 z5 z6 z7 z8 Z4 L4 O4 F4 Z5 L5 O5 F5 L6 F6 O7
 have SQ:=Lib.hid (show ∀ (K:Nat) (A:Option Addr) (n c:Nat) (w:World),K≤w.heap.size→Sl w A n c (gPay (gAt G.a 1) (gMany p G.a))→Calls Try.prog 28 #[.agg #[.int .i64 fpr,.bool fs6,.int .u64 fsh,.int .u64 fsl,.bool fd6,.int .u64 fdh,.int .u64 fdl,.int .i64 fsp,.int .i64 fdp],.int .i64 64,.int .i64 2,.slice A n c] w (MkO K 0 Bs w) from SQ.out)
 go_upto_region 9 with fail
 have Z4:=Lib.hid (ZZ.out.below (dr_below _) ZZ.out.lt)
 have L4:=Lib.hid (LMb LL.out (dr_below _))
 have O4:=Lib.hid (OO.out.below (dr_below _))
 have F4:=Lib.hid (FF.out.then (Frg.of_below (dr_below _)))
 have NZ:=Lib.hid (blk_ne Z4.out L4.out (by decide))
 have HSS:=Lib.hid (show ∀ W,Blk W z 39 #[.int .i64 fpr,.bool fs6,.int .u64 fsh,.int .u64 fsl,.bool fd6,.int .u64 fdh,.int .u64 fdl,.int .i64 fsp,.int .i64 fdp]→World.cell? W ⟨z,0,none⟩=some (.int .i64 fpr)∧World.cell? W ⟨z,1,none⟩=some (.bool fs6)∧World.cell? W ⟨z,2,none⟩=some (.int .u64 fsh)∧World.cell? W ⟨z,3,none⟩=some (.int .u64 fsl)∧World.cell? W ⟨z,4,none⟩=some (.bool fd6)∧World.cell? W ⟨z,5,none⟩=some (.int .u64 fdh)∧World.cell? W ⟨z,6,none⟩=some (.int .u64 fdl)∧World.cell? W ⟨z,7,none⟩=some (.int .i64 fsp)∧World.cell? W ⟨z,8,none⟩=some (.int .i64 fdp) from fun W h1=>⟨h1.cell 0,h1.cell 1,h1.cell 2,h1.cell 3,h1.cell 4,h1.cell 5,h1.cell 6,h1.cell 7,h1.cell 8⟩)
 have tA:=Lib.hid (HSS.out _ Z4.out)
 go_region_held3 (fun W=>World.cell? W ⟨z,0,none⟩=some (.int .i64 fpr)∧World.cell? W ⟨z,1,none⟩=some (.bool fs6)∧World.cell? W ⟨z,2,none⟩=some (.int .u64 fsh)∧World.cell? W ⟨z,3,none⟩=some (.int .u64 fsl)∧World.cell? W ⟨z,4,none⟩=some (.bool fd6)∧World.cell? W ⟨z,5,none⟩=some (.int .u64 fdh)∧World.cell? W ⟨z,6,none⟩=some (.int .u64 fdl)∧World.cell? W ⟨z,7,none⟩=some (.int .i64 fsp)∧World.cell? W ⟨z,8,none⟩=some (.int .i64 fdp)) (first | with_reducible exact tA.out | with_reducible exact tB.out | with_reducible exact tC.out)
  (first | (go_at_call 33
            (with_reducible refine (BY.out _ (.slice Av nv cv) L4.out).mono ?_)
            rintro o w5 ⟨A5,n5,c5,rfl,hb5,hs5,ho5⟩
            have L5:=Lib.hid hs5
            have Z5:=Lib.hid (ho5.blk Z4.out NZ.out)
            have F5:=Lib.hid (show Frg x x (.slice A Ln c) w w5 from Frg_onq F4.out ho5)
            have O5:=Lib.hid (OwT_onx O4.out L4.out (by decide) ho5)
            have X5:=Lib.hid hb5.sl
            have tB:=Lib.hid (HSS.out _ Z5.out)
            clear hb5 hs5 ho5)
         | (go_at_call 28
            (with_reducible refine (SQ.out w.heap.size _ _ _ _ F5.out.size X5.out).mono ?_)
            rintro o w6 ⟨hb6,A6,n6,c6,rfl,how⟩
            have L6:=Lib.hid (LMb L5.out hb6)
            have F6:=Lib.hid (F5.out.then (Frg.of_below hb6))
            have O6:=Lib.hid (O5.out.below hb6)
            have W6:=Lib.hid how
            have tC:=Lib.hid (HSS.out _ (Z5.out.below hb6 Z5.out.lt))
            clear hb6 how))
 go_wp2_with fail
 go_ret
 exact ⟨_,_,_,rfl,by rw [← HBS.out]; exact W6.out,(.slice Av nv cv),L6.out,O6.out,F6.out,VB6.out⟩
end Go.Proofs.Ytnofddbfogilaaa.genS
