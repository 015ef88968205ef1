/- 1 texts in one. -/
import Derived.Test.YtnofddbfogilaaaGq10
/- Layer 9: what headers say. -/
namespace Go.Proofs.Ytnofddbfogilaaa.sixE
set_option maxHeartbeats 8000000
set_option maxRecDepth 100000
open Go.ChangeShapes Go.WideShapes Go.ChangeAt Go.RowKit
open base octA octB rdrA rdrG sumB udpA tcpC sixW sixM sixA sixC sixD
set_option linter.unusedVariables false
theorem info_ext:(Try.prog.info? 118).map (fun i=>(i.zero,i.size,i.bytes))=some (some (.agg #[.int .i64 0,.slice none 0 0]),2,32):=by kernel_rfl
theorem and_low (n k:Nat) (hn:n<9223372036854775808) (hk:2 ^ k - 1<9223372036854775808):bits .and .i64 (n:Int) ((2 ^ k - 1:Nat):Int)=((n % 2 ^ k:Nat):Int):=by
 rw [i64_and n (2 ^ k - 1) hn hk,Nat.and_two_pow_sub_one_eq_mod]
theorem and_255 (v:Int) (h0:0≤v) (h1:v<9223372036854775808):bits .and .i64 v 255=v % 256:=by
 obtain ⟨n,rfl⟩:=Int.eq_ofNat_of_zero_le h0
 exact and_low n 8 (by omega) (by decide)
theorem and_20 (v:Int) (h0:0≤v) (h1:v<9223372036854775808):bits .and .i64 v 1048575=v % 1048576:=by
 obtain ⟨n,rfl⟩:=Int.eq_ofNat_of_zero_le h0
 exact and_low n 20 (by omega) (by decide)
def hdOf (l:List Int) (q:Int):Hs:=⟨w32 l 0 / 1048576 % 256,w32 l 0 % 1048576,l.getD 7 0,true,atN (l.drop 8) 0 8,atN (l.drop 8) 8 8,true,atN (l.drop 24) 0 8,atN (l.drop 24) 8 8,q⟩
structure Rd (w0:World) (R g H:Nat) (L:List Xt) (hs:Hs) (V:Value) (b:List Int) (w:World):Prop where
 hR:R=w0.heap.size
 hg:g=R+1
 hH:g<H
 kr:Blk w R 87 #[.int .i64 0,.int .i64 0,.int .i64 0,.bool false,.int .u64 0,.int .u64 0,.bool false,.int .u64 0,.int .u64 0,.slice none 0 0,.int .i64 0]
 kh:Blk w H 87 (hs.cells V)
 rd:Rdr w R g b
 got:GotX w (H+1) V L
 bel:Below R w0 w
 sz:H+1≤w.heap.size
theorem Rd.below {w0:World} {R g H:Nat} {L:List Xt} {hs:Hs} {V:Value} {b:List Int} {w w':World} (h:Rd w0 R g H L hs V b w) (hb:Below w.heap.size w w'):Rd w0 R g H L hs V b w':=by
 have h1:=h.hg; have h2:=h.hH; have h3:=h.sz; have h4:=h.hR
 exact ⟨h.hR,h.hg,h.hH,h.kr.below hb h.kr.lt,h.kh.below hb h.kh.lt,h.rd.below hb (by omega) h.rd.lt,h.got.below hb,h.bel.trans (hb.mono (by omega)),by have:=hb.size; omega⟩
def ReadP (w:World) (l:List Int) (o:Ending) (w':World):Prop :=
 Below w.heap.size w w'∧((chn 9 [] (l.getD 6 0) (l.drop 40)=none∧o=.returned (.tuple #[.agg #[.int .i64 0,.int .i64 0,.int .i64 0,.bool false,.int .u64 0,.int .u64 0,.bool false,.int .u64 0,.int .u64 0,.slice none 0 0,.int .i64 0],.slice none 0 0,.int .i64 11])) ∨
  ∃ ys q r,chn 9 [] (l.getD 6 0) (l.drop 40)=some (ys,q,r)∧∃ L A c v,o=.returned (.tuple #[.agg ((hdOf l q).cells (.slice A ys.length c)),v,.int .i64 0])∧L.map Xt.re=ys∧GotX w' w.heap.size (.slice A ys.length c) L∧w'.ownsRow w.heap.size 5 1 v r.length (r.map (.int .u8)))
theorem data_ok (B g:Nat) (p:Int) (bb:List Int) (w:World) (hB:B≤g) (h:Rdr w B g (bb.drop 1)) (hu:U8 bb) (hz:siz p bb≤bb.length) :
  Calls Try.prog 91 #[.pointer (some ⟨g,0,none⟩),.int .i64 p] w (DataP w B g ((bb.take (siz p bb)).drop 1) (bb.drop (siz p bb))):=by
 have h8:=siz_8 p bb
 have e1:(bb.take (siz p bb)).drop 1=(bb.drop 1).take (siz p bb - 1):=List.drop_take
 have e2:bb.drop (siz p bb)=(bb.drop 1).drop (siz p bb - 1):=by rw [List.drop_drop]; congr 1; omega
 rw [e1,e2]
 by_cases hp:p=44
 ·subst hp
  have e3:siz 44 bb - 1=7:=by unfold siz; rw [if_pos rfl]
  rw [e3]
  exact data_part B g _ w hB h (by rw [List.length_drop]; omega)
 ·have g1:=hu.get 1
  have e3:siz p bb - 1=7+8*(bb.getD 1 0).toNat:=by unfold siz; rw [if_neg hp]; omega
  rw [e3]
  refine data_more B g p (bb.getD 1 0).toNat _ w hB h hp (hu.drop 1) ?_ (by rw [List.length_drop]; omega)
  rw [List.getD_eq_getElem?_getD,List.getElem?_drop,← List.getD_eq_getElem?_getD]
  show bb.getD 1 0=_
  omega
theorem data_ko (B g:Nat) (p:Int) (bb:List Int) (w:World) (hB:B≤g) (h:Rdr w B g (bb.drop 1)) (hu:U8 bb) (hz:bb.length<siz p bb) (h1:1≤bb.length) :
  Calls Try.prog 91 #[.pointer (some ⟨g,0,none⟩),.int .i64 p] w (FailP w B g):=by
 by_cases h7:bb.length<8
 ·exact data_none B g p _ 0 w hB (Rdr.st h) (.inr (by rw [List.length_drop]; omega))
 ·have hp:p≠44:=fun e=>by subst e; unfold siz at hz; rw [if_pos rfl] at hz; omega
  have g1:=hu.get 1
  unfold siz at hz
  rw [if_neg hp] at hz
  refine data_few B g p (bb.getD 1 0).toNat _ w hB h hp (hu.drop 1) ?_ (by rw [List.length_drop]; omega) (by rw [List.length_drop]; omega)
  rw [List.getD_eq_getElem?_getD,List.getElem?_drop,← List.getD_eq_getElem?_getD]
  show bb.getD 1 0=_
  omega
theorem gotx_len {W:World} {B q c:Nat} {A:Option Addr} {L:List Xt} (e:q=L.length) (h:GotX W B (.slice A q c) L):GotX W B (.slice A L.length c) L:=e ▸ h
theorem got_row {W:World} {B q c:Nat} {A:Option Addr} {L:List Xt} (e:q=L.length) (h:GotX W B (.slice A q c) L):W.ownsRow B 118 2 (.slice A q c) q (flatX L):=by
 subst e
 exact h.row
theorem Rd.els {w0:World} {R g H:Nat} {L:List Xt} {hs:Hs} {V:Value} {b b':List Int} {w w':World} (h:Rd w0 R g H L hs V b w) (hb:Below R w w') (he:Els g w w') (hr:Rdr w' R g b'):Rd w0 R g H L hs V b' w':=by
 have h1:=h.hg; have h2:=h.hH; have h3:=h.sz; have h4:=hb.size
 exact ⟨h.hR,h.hg,h.hH,(he R (by omega) (by omega)).trans h.kr,(he H (by omega) (by omega)).trans h.kh,hr,h.got.els_ (by omega) he,h.bel.trans hb,by omega⟩
theorem more_ext {W W':World} {B q dn c dc:Nat} {p:Int} {A dA:Option Addr} {L:List Xt} {d:List Int} {va:Value} (hq:q=L.length) (hd:dn=d.length) (hg:GotX W B (.slice A q c) L) (hw:W.ownsRow B 5 1 (.slice dA dn dc) dn (d.map (.int .u8))) (ho:W'.ownsRow B 118 2 va (q+1) (flatX L++[.int .i64 p,.slice dA dn dc])) (ga:W.grownBy W' (Value.slice A q c).ownBlock):GotX W' B va (L++[⟨p,dA,dc,d⟩]):=by
 subst hq hd
 exact hg.more (e:=⟨p,dA,dc,d⟩) hw ho ga
theorem rd_next {w0 w5 wa:World} {R g H q c ca:Nat} {L:List Xt} {hs:Hs} {A Aa:Option Addr} {t:List Int} {x:Xt} (kd:Int) (h:Rd w0 R g H L hs (.slice A q c) t w5) (hB:Below (H+1) w5 wa) (hGa:GotX wa (H+1) (.slice Aa (q+1) ca) (L++[x])) (hq:q=L.length) :
  Rd w0 R g H (L++[x]) { hs with p:=kd } (.slice Aa (L++[x]).length ca) t ((wa.setCell ⟨H,9,none⟩ (.slice Aa (q+1) ca)).setCell ⟨H,10,none⟩ (.int .i64 kd)):=by
 have h1:=h.hg; have h2:=h.hH; have h3:=h.sz
 have hl:(L++[x]).length=q+1:=by rw [List.length_append,hq]; rfl
 have hb2:Below H wa ((wa.setCell ⟨H,9,none⟩ (.slice Aa (q+1) ca)).setCell ⟨H,10,none⟩ (.int .i64 kd)):=((Below.refl H wa).setCell (p:=⟨H,9,none⟩) (Nat.le_refl H) _).setCell (p:=⟨H,10,none⟩) (Nat.le_refl H) _
 have he:OnlyG H wa ((wa.setCell ⟨H,9,none⟩ (.slice Aa (q+1) ca)).setCell ⟨H,10,none⟩ (.int .i64 kd)):=((OnlyG.refl H wa).set 9 _).set 10 _
 rw [hl]
 have k1:=h.kh.below hB (Nat.lt_succ_self _)
 have k2:Blk (wa.setCell ⟨H,9,none⟩ (.slice Aa (q+1) ca)) H 87 (hs.cells (.slice Aa (q+1) ca)):=k1.set_ 9 (.slice Aa (q+1) ca)
 have k3:Blk ((wa.setCell ⟨H,9,none⟩ (.slice Aa (q+1) ca)).setCell ⟨H,10,none⟩ (.int .i64 kd)) H 87 (Hs.cells { hs with p:=kd } (.slice Aa (q+1) ca)):=k2.set_ 10 (.int .i64 kd)
 exact ⟨h.hR,h.hg,h.hH,(h.kr.below hB (by omega)).below hb2 (by omega),k3,(h.rd.below hB (by omega) (by omega)).below hb2 (by omega) h2,hGa.els_ (by omega) (toEls he),h.bel.trans ((hB.mono (by omega)).trans (hb2.mono (by omega))),by have:=hB.size; rw [he.size]; omega⟩
def extN (w:World) (H:Nat):Nat:=match w.cell? ⟨H,9,none⟩ with
 | some (.slice _ n _)=>n
 | _=>0
theorem zstore (V:World) (R:Nat) (h:Blk V R 87 #[.int .i64 0,.int .i64 0,.int .i64 0,.bool false,.int .u64 0,.int .u64 0,.bool false,.int .u64 0,.int .u64 0,.slice none 0 0,.int .i64 0]):Blk (((((((((((V.setCell ⟨R,0,none⟩ (.int .i64 0)).setCell ⟨R,1,none⟩ (.int .i64 0)).setCell ⟨R,2,none⟩ (.int .i64 0)).setCell ⟨R,3,none⟩ (.bool false)).setCell ⟨R,4,none⟩ (.int .u64 0)).setCell ⟨R,5,none⟩ (.int .u64 0)).setCell ⟨R,6,none⟩ (.bool false)).setCell ⟨R,7,none⟩ (.int .u64 0)).setCell ⟨R,8,none⟩ (.int .u64 0)).setCell ⟨R,9,none⟩ (.slice none 0 0)).setCell ⟨R,10,none⟩ (.int .i64 0)) R 87 #[.int .i64 0,.int .i64 0,.int .i64 0,.bool false,.int .u64 0,.int .u64 0,.bool false,.int .u64 0,.int .u64 0,.slice none 0 0,.int .i64 0]:=(((((((((((h.set_ 0 (.int .i64 0)).set_ 1 (.int .i64 0)).set_ 2 (.int .i64 0)).set_ 3 (.bool false)).set_ 4 (.int .u64 0)).set_ 5 (.int .u64 0)).set_ 6 (.bool false)).set_ 7 (.int .u64 0)).set_ 8 (.int .u64 0)).set_ 9 (.slice none 0 0)).set_ 10 (.int .i64 0))
theorem zbelow (V:World) (R B:Nat) (h:B≤R):Below B V (((((((((((V.setCell ⟨R,0,none⟩ (.int .i64 0)).setCell ⟨R,1,none⟩ (.int .i64 0)).setCell ⟨R,2,none⟩ (.int .i64 0)).setCell ⟨R,3,none⟩ (.bool false)).setCell ⟨R,4,none⟩ (.int .u64 0)).setCell ⟨R,5,none⟩ (.int .u64 0)).setCell ⟨R,6,none⟩ (.bool false)).setCell ⟨R,7,none⟩ (.int .u64 0)).setCell ⟨R,8,none⟩ (.int .u64 0)).setCell ⟨R,9,none⟩ (.slice none 0 0)).setCell ⟨R,10,none⟩ (.int .i64 0)):=((((((((((((Below.refl B V).setCell (p:=⟨R,0,none⟩) h (.int .i64 0)).setCell (p:=⟨R,1,none⟩) h (.int .i64 0)).setCell (p:=⟨R,2,none⟩) h (.int .i64 0)).setCell (p:=⟨R,3,none⟩) h (.bool false)).setCell (p:=⟨R,4,none⟩) h (.int .u64 0)).setCell (p:=⟨R,5,none⟩) h (.int .u64 0)).setCell (p:=⟨R,6,none⟩) h (.bool false)).setCell (p:=⟨R,7,none⟩) h (.int .u64 0)).setCell (p:=⟨R,8,none⟩) h (.int .u64 0)).setCell (p:=⟨R,9,none⟩) h (.slice none 0 0)).setCell (p:=⟨R,10,none⟩) h (.int .i64 0))
theorem results_read {fn:Func} {p u v:Tmp} (h:fn.results=#[.cell p 87,.tmp u,.tmp v]) (tmps:Array Value) (w:World) (g:Nat) (cs:Array Value) (hp:tmps.getD p undef=.pointer (some ⟨g,0,none⟩)) (hg:Blk w g 87 cs) (hs:cs.size=11) :
  (results fn tmps).run Try.prog w=.ok (.tuple #[.agg cs,tmps.getD u undef,tmps.getD v undef]) w:=by
 have e:(results fn tmps).run Try.prog w=((asAddr (tmps.getD p undef)).run Try.prog w).andThen fun a w1=>((loadVar 87 a).run Try.prog w1).andThen fun x w2=>.ok (.tuple #[x,tmps.getD u undef,tmps.getD v undef]) w2:=by
  simp only [results,h]
  simp [Sem.run_bind,Result.andThen]
 rw [e,hp]
 simp only [asAddr,Sem.run_pure,Result.andThen_ok]
 rw [run_loadVar_row w g 87 87 cs (0,0) _ hg Try.underlying87 rfl (by rw [hs]; kernel_rfl)]
 rfl
theorem hstore (V:World) (R:Nat) (v0 v1 v2 v3 v4 v5 v6 v7 v8 v9 v10 u0 u1 u2 u3 u4 u5 u6 u7 u8 u9 u10:Value) (h:Blk V R 87 #[u0,u1,u2,u3,u4,u5,u6,u7,u8,u9,u10]):Blk (((((((((((V.setCell ⟨R,0,none⟩ v0).setCell ⟨R,1,none⟩ v1).setCell ⟨R,2,none⟩ v2).setCell ⟨R,3,none⟩ v3).setCell ⟨R,4,none⟩ v4).setCell ⟨R,5,none⟩ v5).setCell ⟨R,6,none⟩ v6).setCell ⟨R,7,none⟩ v7).setCell ⟨R,8,none⟩ v8).setCell ⟨R,9,none⟩ v9).setCell ⟨R,10,none⟩ v10) R 87 #[v0,v1,v2,v3,v4,v5,v6,v7,v8,v9,v10]:=by
 have h1:Blk (V.setCell ⟨R,0,none⟩ v0) R 87 #[v0,u1,u2,u3,u4,u5,u6,u7,u8,u9,u10]:=h.set_ 0 v0
 have h2:Blk ((V.setCell ⟨R,0,none⟩ v0).setCell ⟨R,1,none⟩ v1) R 87 #[v0,v1,u2,u3,u4,u5,u6,u7,u8,u9,u10]:=h1.set_ 1 v1
 have h3:Blk (((V.setCell ⟨R,0,none⟩ v0).setCell ⟨R,1,none⟩ v1).setCell ⟨R,2,none⟩ v2) R 87 #[v0,v1,v2,u3,u4,u5,u6,u7,u8,u9,u10]:=h2.set_ 2 v2
 have h4:Blk ((((V.setCell ⟨R,0,none⟩ v0).setCell ⟨R,1,none⟩ v1).setCell ⟨R,2,none⟩ v2).setCell ⟨R,3,none⟩ v3) R 87 #[v0,v1,v2,v3,u4,u5,u6,u7,u8,u9,u10]:=h3.set_ 3 v3
 have h5:Blk (((((V.setCell ⟨R,0,none⟩ v0).setCell ⟨R,1,none⟩ v1).setCell ⟨R,2,none⟩ v2).setCell ⟨R,3,none⟩ v3).setCell ⟨R,4,none⟩ v4) R 87 #[v0,v1,v2,v3,v4,u5,u6,u7,u8,u9,u10]:=h4.set_ 4 v4
 have h6:Blk ((((((V.setCell ⟨R,0,none⟩ v0).setCell ⟨R,1,none⟩ v1).setCell ⟨R,2,none⟩ v2).setCell ⟨R,3,none⟩ v3).setCell ⟨R,4,none⟩ v4).setCell ⟨R,5,none⟩ v5) R 87 #[v0,v1,v2,v3,v4,v5,u6,u7,u8,u9,u10]:=h5.set_ 5 v5
 have h7:Blk (((((((V.setCell ⟨R,0,none⟩ v0).setCell ⟨R,1,none⟩ v1).setCell ⟨R,2,none⟩ v2).setCell ⟨R,3,none⟩ v3).setCell ⟨R,4,none⟩ v4).setCell ⟨R,5,none⟩ v5).setCell ⟨R,6,none⟩ v6) R 87 #[v0,v1,v2,v3,v4,v5,v6,u7,u8,u9,u10]:=h6.set_ 6 v6
 have h8:Blk ((((((((V.setCell ⟨R,0,none⟩ v0).setCell ⟨R,1,none⟩ v1).setCell ⟨R,2,none⟩ v2).setCell ⟨R,3,none⟩ v3).setCell ⟨R,4,none⟩ v4).setCell ⟨R,5,none⟩ v5).setCell ⟨R,6,none⟩ v6).setCell ⟨R,7,none⟩ v7) R 87 #[v0,v1,v2,v3,v4,v5,v6,v7,u8,u9,u10]:=h7.set_ 7 v7
 have h9:Blk (((((((((V.setCell ⟨R,0,none⟩ v0).setCell ⟨R,1,none⟩ v1).setCell ⟨R,2,none⟩ v2).setCell ⟨R,3,none⟩ v3).setCell ⟨R,4,none⟩ v4).setCell ⟨R,5,none⟩ v5).setCell ⟨R,6,none⟩ v6).setCell ⟨R,7,none⟩ v7).setCell ⟨R,8,none⟩ v8) R 87 #[v0,v1,v2,v3,v4,v5,v6,v7,v8,u9,u10]:=h8.set_ 8 v8
 have h10:Blk ((((((((((V.setCell ⟨R,0,none⟩ v0).setCell ⟨R,1,none⟩ v1).setCell ⟨R,2,none⟩ v2).setCell ⟨R,3,none⟩ v3).setCell ⟨R,4,none⟩ v4).setCell ⟨R,5,none⟩ v5).setCell ⟨R,6,none⟩ v6).setCell ⟨R,7,none⟩ v7).setCell ⟨R,8,none⟩ v8).setCell ⟨R,9,none⟩ v9) R 87 #[v0,v1,v2,v3,v4,v5,v6,v7,v8,v9,u10]:=h9.set_ 9 v9
 have h11:Blk (((((((((((V.setCell ⟨R,0,none⟩ v0).setCell ⟨R,1,none⟩ v1).setCell ⟨R,2,none⟩ v2).setCell ⟨R,3,none⟩ v3).setCell ⟨R,4,none⟩ v4).setCell ⟨R,5,none⟩ v5).setCell ⟨R,6,none⟩ v6).setCell ⟨R,7,none⟩ v7).setCell ⟨R,8,none⟩ v8).setCell ⟨R,9,none⟩ v9).setCell ⟨R,10,none⟩ v10) R 87 #[v0,v1,v2,v3,v4,v5,v6,v7,v8,v9,v10]:=h10.set_ 10 v10
 exact h11
theorem hfar (V:World) (R H:Nat) (v0 v1 v2 v3 v4 v5 v6 v7 v8 v9 v10:Value) (T:TypeId) (cs:Array Value) (hne:H≠R) (h:Blk V H T cs):Blk (((((((((((V.setCell ⟨R,0,none⟩ v0).setCell ⟨R,1,none⟩ v1).setCell ⟨R,2,none⟩ v2).setCell ⟨R,3,none⟩ v3).setCell ⟨R,4,none⟩ v4).setCell ⟨R,5,none⟩ v5).setCell ⟨R,6,none⟩ v6).setCell ⟨R,7,none⟩ v7).setCell ⟨R,8,none⟩ v8).setCell ⟨R,9,none⟩ v9).setCell ⟨R,10,none⟩ v10) H T cs:=by
 have h1:Blk (V.setCell ⟨R,0,none⟩ v0) H T cs:=h.far (p:=⟨R,0,none⟩) hne v0
 have h2:Blk ((V.setCell ⟨R,0,none⟩ v0).setCell ⟨R,1,none⟩ v1) H T cs:=h1.far (p:=⟨R,1,none⟩) hne v1
 have h3:Blk (((V.setCell ⟨R,0,none⟩ v0).setCell ⟨R,1,none⟩ v1).setCell ⟨R,2,none⟩ v2) H T cs:=h2.far (p:=⟨R,2,none⟩) hne v2
 have h4:Blk ((((V.setCell ⟨R,0,none⟩ v0).setCell ⟨R,1,none⟩ v1).setCell ⟨R,2,none⟩ v2).setCell ⟨R,3,none⟩ v3) H T cs:=h3.far (p:=⟨R,3,none⟩) hne v3
 have h5:Blk (((((V.setCell ⟨R,0,none⟩ v0).setCell ⟨R,1,none⟩ v1).setCell ⟨R,2,none⟩ v2).setCell ⟨R,3,none⟩ v3).setCell ⟨R,4,none⟩ v4) H T cs:=h4.far (p:=⟨R,4,none⟩) hne v4
 have h6:Blk ((((((V.setCell ⟨R,0,none⟩ v0).setCell ⟨R,1,none⟩ v1).setCell ⟨R,2,none⟩ v2).setCell ⟨R,3,none⟩ v3).setCell ⟨R,4,none⟩ v4).setCell ⟨R,5,none⟩ v5) H T cs:=h5.far (p:=⟨R,5,none⟩) hne v5
 have h7:Blk (((((((V.setCell ⟨R,0,none⟩ v0).setCell ⟨R,1,none⟩ v1).setCell ⟨R,2,none⟩ v2).setCell ⟨R,3,none⟩ v3).setCell ⟨R,4,none⟩ v4).setCell ⟨R,5,none⟩ v5).setCell ⟨R,6,none⟩ v6) H T cs:=h6.far (p:=⟨R,6,none⟩) hne v6
 have h8:Blk ((((((((V.setCell ⟨R,0,none⟩ v0).setCell ⟨R,1,none⟩ v1).setCell ⟨R,2,none⟩ v2).setCell ⟨R,3,none⟩ v3).setCell ⟨R,4,none⟩ v4).setCell ⟨R,5,none⟩ v5).setCell ⟨R,6,none⟩ v6).setCell ⟨R,7,none⟩ v7) H T cs:=h7.far (p:=⟨R,7,none⟩) hne v7
 have h9:Blk (((((((((V.setCell ⟨R,0,none⟩ v0).setCell ⟨R,1,none⟩ v1).setCell ⟨R,2,none⟩ v2).setCell ⟨R,3,none⟩ v3).setCell ⟨R,4,none⟩ v4).setCell ⟨R,5,none⟩ v5).setCell ⟨R,6,none⟩ v6).setCell ⟨R,7,none⟩ v7).setCell ⟨R,8,none⟩ v8) H T cs:=h8.far (p:=⟨R,8,none⟩) hne v8
 have h10:Blk ((((((((((V.setCell ⟨R,0,none⟩ v0).setCell ⟨R,1,none⟩ v1).setCell ⟨R,2,none⟩ v2).setCell ⟨R,3,none⟩ v3).setCell ⟨R,4,none⟩ v4).setCell ⟨R,5,none⟩ v5).setCell ⟨R,6,none⟩ v6).setCell ⟨R,7,none⟩ v7).setCell ⟨R,8,none⟩ v8).setCell ⟨R,9,none⟩ v9) H T cs:=h9.far (p:=⟨R,9,none⟩) hne v9
 have h11:Blk (((((((((((V.setCell ⟨R,0,none⟩ v0).setCell ⟨R,1,none⟩ v1).setCell ⟨R,2,none⟩ v2).setCell ⟨R,3,none⟩ v3).setCell ⟨R,4,none⟩ v4).setCell ⟨R,5,none⟩ v5).setCell ⟨R,6,none⟩ v6).setCell ⟨R,7,none⟩ v7).setCell ⟨R,8,none⟩ v8).setCell ⟨R,9,none⟩ v9).setCell ⟨R,10,none⟩ v10) H T cs:=h10.far (p:=⟨R,10,none⟩) hne v10
 exact h11
theorem honly (V:World) (R:Nat) (v0 v1 v2 v3 v4 v5 v6 v7 v8 v9 v10:Value):OnlyG R V (((((((((((V.setCell ⟨R,0,none⟩ v0).setCell ⟨R,1,none⟩ v1).setCell ⟨R,2,none⟩ v2).setCell ⟨R,3,none⟩ v3).setCell ⟨R,4,none⟩ v4).setCell ⟨R,5,none⟩ v5).setCell ⟨R,6,none⟩ v6).setCell ⟨R,7,none⟩ v7).setCell ⟨R,8,none⟩ v8).setCell ⟨R,9,none⟩ v9).setCell ⟨R,10,none⟩ v10):=by
 have h:=OnlyG.refl R V
 have h1:OnlyG R V (V.setCell ⟨R,0,none⟩ v0):=h.set 0 v0
 have h2:OnlyG R V ((V.setCell ⟨R,0,none⟩ v0).setCell ⟨R,1,none⟩ v1):=h1.set 1 v1
 have h3:OnlyG R V (((V.setCell ⟨R,0,none⟩ v0).setCell ⟨R,1,none⟩ v1).setCell ⟨R,2,none⟩ v2):=h2.set 2 v2
 have h4:OnlyG R V ((((V.setCell ⟨R,0,none⟩ v0).setCell ⟨R,1,none⟩ v1).setCell ⟨R,2,none⟩ v2).setCell ⟨R,3,none⟩ v3):=h3.set 3 v3
 have h5:OnlyG R V (((((V.setCell ⟨R,0,none⟩ v0).setCell ⟨R,1,none⟩ v1).setCell ⟨R,2,none⟩ v2).setCell ⟨R,3,none⟩ v3).setCell ⟨R,4,none⟩ v4):=h4.set 4 v4
 have h6:OnlyG R V ((((((V.setCell ⟨R,0,none⟩ v0).setCell ⟨R,1,none⟩ v1).setCell ⟨R,2,none⟩ v2).setCell ⟨R,3,none⟩ v3).setCell ⟨R,4,none⟩ v4).setCell ⟨R,5,none⟩ v5):=h5.set 5 v5
 have h7:OnlyG R V (((((((V.setCell ⟨R,0,none⟩ v0).setCell ⟨R,1,none⟩ v1).setCell ⟨R,2,none⟩ v2).setCell ⟨R,3,none⟩ v3).setCell ⟨R,4,none⟩ v4).setCell ⟨R,5,none⟩ v5).setCell ⟨R,6,none⟩ v6):=h6.set 6 v6
 have h8:OnlyG R V ((((((((V.setCell ⟨R,0,none⟩ v0).setCell ⟨R,1,none⟩ v1).setCell ⟨R,2,none⟩ v2).setCell ⟨R,3,none⟩ v3).setCell ⟨R,4,none⟩ v4).setCell ⟨R,5,none⟩ v5).setCell ⟨R,6,none⟩ v6).setCell ⟨R,7,none⟩ v7):=h7.set 7 v7
 have h9:OnlyG R V (((((((((V.setCell ⟨R,0,none⟩ v0).setCell ⟨R,1,none⟩ v1).setCell ⟨R,2,none⟩ v2).setCell ⟨R,3,none⟩ v3).setCell ⟨R,4,none⟩ v4).setCell ⟨R,5,none⟩ v5).setCell ⟨R,6,none⟩ v6).setCell ⟨R,7,none⟩ v7).setCell ⟨R,8,none⟩ v8):=h8.set 8 v8
 have h10:OnlyG R V ((((((((((V.setCell ⟨R,0,none⟩ v0).setCell ⟨R,1,none⟩ v1).setCell ⟨R,2,none⟩ v2).setCell ⟨R,3,none⟩ v3).setCell ⟨R,4,none⟩ v4).setCell ⟨R,5,none⟩ v5).setCell ⟨R,6,none⟩ v6).setCell ⟨R,7,none⟩ v7).setCell ⟨R,8,none⟩ v8).setCell ⟨R,9,none⟩ v9):=h9.set 9 v9
 have h11:OnlyG R V (((((((((((V.setCell ⟨R,0,none⟩ v0).setCell ⟨R,1,none⟩ v1).setCell ⟨R,2,none⟩ v2).setCell ⟨R,3,none⟩ v3).setCell ⟨R,4,none⟩ v4).setCell ⟨R,5,none⟩ v5).setCell ⟨R,6,none⟩ v6).setCell ⟨R,7,none⟩ v7).setCell ⟨R,8,none⟩ v8).setCell ⟨R,9,none⟩ v9).setCell ⟨R,10,none⟩ v10):=h10.set 10 v10
 exact h11
theorem read_any (b off n c:Nat) (l:List Int) (w:World) (hl:l.length=n) (hn:40≤n) (hn2:n≤100000) (hnc:n≤c) (hc:c≤9223372036854775807) (hb:b<w.heap.size) (hs:Lies w b off l) (hx:U8 l) :
  Calls Try.prog 72 #[.slice (some ⟨b,off,none⟩) n c] w (ReadP w l):=by
 obtain ⟨i0,hi0,hz0,hz1,hz2⟩:=info_parts info_ext
 have HI0:=Lib.hid hi0
 have HZ0:=Lib.hid hz0
 have HZ1:=Lib.hid hz1
 have HZ2:=Lib.hid hz2
 have HL:=Lib.hid hl
 have HX:=Lib.hid hx
 have k0:=w32_in l hx 0
 have k6:=hx.get 6
 have k7:=hx.get 7
 obtain ⟨R,hR⟩:∃ R,R=w.heap.size:=⟨_,rfl⟩
 have HR:=Lib.hid hR
 obtain ⟨w1,hw1⟩:∃ w1,w1=w.alloc (.cells #[.int .i64 0,.int .i64 0,.int .i64 0,.bool false,.int .u64 0,.int .u64 0,.bool false,.int .u64 0,.int .u64 0,.slice none 0 0,.int .i64 0] 87):=⟨_,rfl⟩
 have E1:=Lib.hid hw1
 have BA1:=Lib.hid (show Below R w w1 from by rw [hw1,hR]; exact (Below.refl _ _).alloc (Nat.le_refl _) _)
 have KR1:=Lib.hid (show Blk w1 R 87 #[.int .i64 0,.int .i64 0,.int .i64 0,.bool false,.int .u64 0,.int .u64 0,.bool false,.int .u64 0,.int .u64 0,.slice none 0 0,.int .i64 0] from by rw [hw1,hR]; exact Blk.new w _ _)
 have SZ1:=Lib.hid (show w1.heap.size=R+1 from by rw [hw1,hR]; simp)
 have HRD:=Lib.hid (read_rdr b off n c R l w1 hl hnc hc (by omega) (by have:=SZ1.out; omega) (hs.below BA1.out (by omega)))
 have hand1:=and_255 (w32 l 0 / 1048576) (by omega) (by omega)
 have hand2:=and_20 (w32 l 0) k0.1 (by omega)
 have wk0:IntKind.i64.wrap (w32 l 0)=w32 l 0:=IntWalk.i64_in _ (by omega)
 have wk6:IntKind.i64.wrap (l.getD 6 0)=l.getD 6 0:=IntWalk.i64_in _ (by omega)
 have wk7:IntKind.i64.wrap (l.getD 7 0)=l.getD 7 0:=IntWalk.i64_in _ (by omega)
 obtain ⟨x0,hx0⟩:∃ x,x=w32 l 0:=⟨_,rfl⟩
 obtain ⟨x6,hx6⟩:∃ x,x=l.getD 6 0:=⟨_,rfl⟩
 obtain ⟨x7,hx7⟩:∃ x,x=l.getD 7 0:=⟨_,rfl⟩
 have X0:=Lib.hid hx0
 have X6:=Lib.hid hx6
 have X7:=Lib.hid hx7
 rw [← hx0] at hand1 hand2 wk0 k0
 rw [← hx6] at wk6 k6
 rw [← hx7] at wk7 k7
 clear hi0 hz0 hz1 hz2 hl hx hR hw1 hs hx0 hx6 hx7
 go_enter Try.func72,Try.ntmps72
 go_wp2_with fail
 rw [← E1.out]
 refine HRD.out.mono ?_
 rintro e w2 ⟨rfl,hrd,hbe,hsz⟩
 rw [SZ1.out] at hrd hbe hsz ⊢
 have RD2:=Lib.hid hrd
 have KR2:=Lib.hid (KR1.out.below hbe (by omega))
 have BB2:=Lib.hid (BA1.out.trans (hbe.mono (by omega)))
 have SZ2:=Lib.hid hsz
 obtain ⟨g,hg⟩:∃ g,g=R+1:=⟨_,rfl⟩
 have HG:=Lib.hid hg
 rw [← hg] at RD2 ⊢
 have hg1:R+1≤g:=by omega
 have hg2:g≤R+1:=by omega
 clear hrd hbe hsz hg
 go_wp2_with fail
 refine (num_four R g 0 l _ (by omega) RD2.out (by have:=HL.out; omega) HX.out).mono ?_
 rintro e w3 ⟨he,hrd,hon⟩
 rw [← X0.out] at he
 subst he
 have RD3:=Lib.hid hrd
 have KR3:=Lib.hid ((Only.g hon).blk KR2.out (by omega))
 have BB3:=Lib.hid ((Only.g hon).from BB2.out (by omega))
 have SZ3:=Lib.hid (show w3.heap.size=R+2 from by have:=SZ2.out; have:=hon.size; omega)
 clear hrd hon
 obtain ⟨H,hH⟩:∃ H,H=w3.heap.size:=⟨_,rfl⟩
 have EH:=Lib.hid hH
 have hgH:g<H:=by have:=SZ3.out; omega
 obtain ⟨w4,hw4⟩:∃ w4,w4=w3.alloc (.cells #[.int .i64 (x0 / 1048576 % 256),.int .i64 (x0 % 1048576),.int .i64 0,.bool false,.int .u64 0,.int .u64 0,.bool false,.int .u64 0,.int .u64 0,.slice none 0 0,.int .i64 0] 87):=⟨_,rfl⟩
 have E4:=Lib.hid hw4
 have BA4:=Lib.hid (show Below H w3 w4 from by rw [hw4,hH]; exact (Below.refl _ _).alloc (Nat.le_refl _) _)
 have KH4:=Lib.hid (show Blk w4 H 87 #[.int .i64 (x0 / 1048576 % 256),.int .i64 (x0 % 1048576),.int .i64 0,.bool false,.int .u64 0,.int .u64 0,.bool false,.int .u64 0,.int .u64 0,.slice none 0 0,.int .i64 0] from by rw [hw4,hH]; exact Blk.new w3 _ _)
 have KR4:=Lib.hid (KR3.out.below BA4.out (by omega))
 have RD4:=Lib.hid (RD3.out.below BA4.out (by omega) hgH)
 have BB4:=Lib.hid (BB3.out.trans (BA4.out.mono (by omega)))
 have SZ4:=Lib.hid (show H+1≤w4.heap.size from by rw [hw4,hH]; simp)
 clear hH hw4
 go_wp2_with fail
 rw [← EH.out,← E4.out]
 refine (num_two R g 4 l _ (by omega) RD4.out (by have:=HL.out; omega) HX.out).mono ?_
 rintro e w5 ⟨he,hrd,hon⟩
 subst he
 have RD5:=Lib.hid hrd
 have KR5:=Lib.hid ((Only.g hon).blk KR4.out (by omega))
 have KH5:=Lib.hid ((Only.g hon).blk KH4.out (by omega))
 have BB5:=Lib.hid ((Only.g hon).from BB4.out (by omega))
 have SZ5:=Lib.hid (show H+1≤w5.heap.size from by have:=SZ4.out; have:=hon.size; omega)
 clear hrd hon
 obtain ⟨x4,hx4⟩:∃ x,x=w16 l 4:=⟨_,rfl⟩
 rw [← hx4]
 clear hx4
 go_wp2_with fail
 refine (num_one R g 6 l _ (by omega) RD5.out (by have:=HL.out; omega) HX.out).mono ?_
 rintro e w6 ⟨he,hrd,hon⟩
 rw [← X6.out] at he
 subst he
 have RD6:=Lib.hid hrd
 have KR6:=Lib.hid ((Only.g hon).blk KR5.out (by omega))
 have KH6:=Lib.hid ((Only.g hon).blk KH5.out (by omega))
 have BB6:=Lib.hid ((Only.g hon).from BB5.out (by omega))
 have SZ6:=Lib.hid (show H+1≤w6.heap.size from by have:=SZ5.out; have:=hon.size; omega)
 clear hrd hon
 go_wp2_with fail
 refine (num_one R g 7 l _ (by omega) RD6.out (by have:=HL.out; omega) HX.out).mono ?_
 rintro e w7 ⟨he,hrd,hon⟩
 rw [← X7.out] at he
 subst he
 have RD7:=Lib.hid hrd
 have KR7:=Lib.hid ((Only.g hon).blk KR6.out (by omega))
 have KH7:=Lib.hid ((Only.g hon).blk KH6.out (by omega))
 have BB7:=Lib.hid ((Only.g hon).from BB6.out (by omega))
 have SZ7:=Lib.hid (show H+1≤w7.heap.size from by have:=SZ6.out; have:=hon.size; omega)
 clear hrd hon
 have c10:=KH7.out.cell 10
 have f10:=KH7.out.frozen 10
 have c2:=KH7.out.cell 2
 have f2:=KH7.out.frozen 2
 obtain ⟨w8,hw8⟩:∃ w8,w8=(w7.setCell ⟨H,10,none⟩ (.int .i64 x6)).setCell ⟨H,2,none⟩ (.int .i64 x7):=⟨_,rfl⟩
 have E8:=Lib.hid hw8
 have BA8:=Lib.hid (show Below H w7 w8 from by rw [hw8]; exact ((Below.refl _ _).setCell (p:=⟨H,10,none⟩) (Nat.le_refl H) _).setCell (p:=⟨H,2,none⟩) (Nat.le_refl H) _)
 have KH8:=Lib.hid (show Blk w8 H 87 #[.int .i64 (x0 / 1048576 % 256),.int .i64 (x0 % 1048576),.int .i64 x7,.bool false,.int .u64 0,.int .u64 0,.bool false,.int .u64 0,.int .u64 0,.slice none 0 0,.int .i64 x6] from by rw [hw8]; exact (KH7.out.set_ 10 (.int .i64 x6)).set_ 2 (.int .i64 x7))
 have KR8:=Lib.hid (KR7.out.below BA8.out (by omega))
 have RD8:=Lib.hid (RD7.out.below BA8.out (by omega) hgH)
 have BB8:=Lib.hid (BB7.out.trans (BA8.out.mono (by omega)))
 have SZ8:=Lib.hid (show H+1≤w8.heap.size from by have:=SZ7.out; have:=BA8.out.size; omega)
 have AD8:=Lib.hid (addr_any R g (l.drop 8) w8 (by omega) RD8.out (by have:=HL.out; rw [List.length_drop]; omega) (HX.out.drop 8))
 obtain ⟨sh,hsh⟩:∃ x,x=atN (l.drop 8) 0 8:=⟨_,rfl⟩
 obtain ⟨sl,hsl⟩:∃ x,x=atN (l.drop 8) 8 8:=⟨_,rfl⟩
 obtain ⟨dh,hdh⟩:∃ x,x=atN (l.drop 24) 0 8:=⟨_,rfl⟩
 obtain ⟨dl,hdl⟩:∃ x,x=atN (l.drop 24) 8 8:=⟨_,rfl⟩
 have XSH:=Lib.hid hsh
 have XSL:=Lib.hid hsl
 have XDH:=Lib.hid hdh
 have XDL:=Lib.hid hdl
 unfold AddrP at AD8
 rw [← hsh,← hsl,List.drop_drop] at AD8
 clear hw8 hsh hsl
 go_wp2_with fail
 rw [← E8.out]
 clear c10 f10 c2 f2
 refine AD8.out.mono ?_
 rintro e w9 ⟨rfl,hrd,hbe,hel,hsz⟩
 have RD9:=Lib.hid hrd
 have KR9:=Lib.hid (show Blk w9 R 87 #[.int .i64 0,.int .i64 0,.int .i64 0,.bool false,.int .u64 0,.int .u64 0,.bool false,.int .u64 0,.int .u64 0,.slice none 0 0,.int .i64 0] from (hel R (by have:=SZ8.out; omega) (by omega)).trans KR8.out)
 have KH9:=Lib.hid (show Blk w9 H 87 _ from (hel H (by have:=SZ8.out; omega) (by omega)).trans KH8.out)
 have BB9:=Lib.hid (BB8.out.trans hbe)
 have SZ9:=Lib.hid (show H+1≤w9.heap.size from Nat.le_trans SZ8.out hsz)
 have AD9:=Lib.hid (addr_any R g (l.drop 24) w9 (by omega) hrd (by have:=HL.out; rw [List.length_drop]; omega) (HX.out.drop 24))
 unfold AddrP at AD9
 rw [← hdh,← hdl,List.drop_drop] at AD9
 clear hrd hbe hel hsz hdh hdl
 go_wp2_with fail
 refine AD9.out.mono ?_
 rintro e w10 ⟨rfl,hrd,hbe,hel,hsz⟩
 have RD10:=Lib.hid hrd
 have KR10:=Lib.hid (show Blk w10 R 87 #[.int .i64 0,.int .i64 0,.int .i64 0,.bool false,.int .u64 0,.int .u64 0,.bool false,.int .u64 0,.int .u64 0,.slice none 0 0,.int .i64 0] from (hel R (by have:=SZ9.out; omega) (by omega)).trans KR9.out)
 have KH10:=Lib.hid (show Blk w10 H 87 #[.int .i64 (x0 / 1048576 % 256),.int .i64 (x0 % 1048576),.int .i64 x7,.bool false,.int .u64 0,.int .u64 0,.bool false,.int .u64 0,.int .u64 0,.slice none 0 0,.int .i64 x6] from (hel H (by have:=SZ9.out; omega) (by omega)).trans KH9.out)
 have BB10:=Lib.hid (BB9.out.trans hbe)
 have SZ10:=Lib.hid (show H+1≤w10.heap.size from Nat.le_trans SZ9.out hsz)
 clear hrd hbe hel hsz
 have c3:=KH10.out.cell 3
 have c4:=KH10.out.cell 4
 have c5:=KH10.out.cell 5
 have c6:=KH10.out.cell 6
 have c7:=KH10.out.cell 7
 have c8:=KH10.out.cell 8
 have f3:=KH10.out.frozen 3
 have f4:=KH10.out.frozen 4
 have f5:=KH10.out.frozen 5
 have f6:=KH10.out.frozen 6
 have f7:=KH10.out.frozen 7
 have f8:=KH10.out.frozen 8
 obtain ⟨w11,hw11⟩:∃ w11,w11=((((((w10.setCell ⟨H,3,none⟩ (.bool true)).setCell ⟨H,4,none⟩ (.int .u64 sh)).setCell ⟨H,5,none⟩ (.int .u64 sl)).setCell ⟨H,6,none⟩ (.bool true)).setCell ⟨H,7,none⟩ (.int .u64 dh)).setCell ⟨H,8,none⟩ (.int .u64 dl)):=⟨_,rfl⟩
 have E11:=Lib.hid hw11
 have BA11:=Lib.hid (show Below H w10 w11 from by rw [hw11]; exact ((((((Below.refl H w10).setCell (p:=⟨H,3,none⟩) (Nat.le_refl H) _).setCell (p:=⟨H,4,none⟩) (Nat.le_refl H) _).setCell (p:=⟨H,5,none⟩) (Nat.le_refl H) _).setCell (p:=⟨H,6,none⟩) (Nat.le_refl H) _).setCell (p:=⟨H,7,none⟩) (Nat.le_refl H) _).setCell (p:=⟨H,8,none⟩) (Nat.le_refl H) _)
 have KH11:=Lib.hid (show Blk w11 H 87 ((hdOf l x6).cells (.slice none 0 0)) from by
  have k:=(((((KH10.out.set_ 3 (.bool true)).set_ 4 (.int .u64 sh)).set_ 5 (.int .u64 sl)).set_ 6 (.bool true)).set_ 7 (.int .u64 dh)).set_ 8 (.int .u64 dl)
  rw [hw11]
  unfold hdOf Hs.cells
  rw [← X0.out,← X7.out,← XSH.out,← XSL.out,← XDH.out,← XDL.out]
  exact k)
 have SZ11:=Lib.hid (show H+1≤w11.heap.size from by have:=SZ10.out; have:=BA11.out.size; omega)
 have RD11:=Lib.hid (show Rd w R g H [] (hdOf l x6) (.slice none 0 0) (l.drop 40) w11 from ⟨HR.out,HG.out,hgH,KR10.out.below BA11.out (by omega),KH11.out,RD10.out.below BA11.out (by omega) hgH,GotX.nil _ _,BB10.out.trans (BA11.out.mono (by omega)),SZ11.out⟩)
 obtain ⟨ch,hch⟩:∃ ch,ch=chn 9 [] x6 (l.drop 40):=⟨_,rfl⟩
 have HCH:=Lib.hid hch
 have HD:=Lib.hid (show ∀ q,hdOf l q=⟨x0 / 1048576 % 256,x0 % 1048576,x7,true,sh,sl,true,dh,dl,q⟩ from fun q=>by unfold hdOf; rw [← X0.out,← X7.out,← XSH.out,← XSL.out,← XDH.out,← XDL.out])
 have HNONE:=Lib.hid (show ∀ w',ch=none→Below R w w'→ReadP w l (.returned (.tuple #[.agg #[.int .i64 0,.int .i64 0,.int .i64 0,.bool false,.int .u64 0,.int .u64 0,.bool false,.int .u64 0,.int .u64 0,.slice none 0 0,.int .i64 0],.slice none 0 0,.int .i64 11])) w' from fun w' h1 h2=>⟨HR.out ▸ h2,.inl ⟨by rw [← X6.out,← hch]; exact h1,rfl⟩⟩)
 have HSOME:=Lib.hid (show ∀ w' L q A c v r,ch=some (L.map Xt.re,q,r)→Below R w w'→GotX w' R (.slice A L.length c) L→w'.ownsRow R 5 1 v r.length (r.map (.int .u8))→ReadP w l (.returned (.tuple #[.agg ((hdOf l q).cells (.slice A L.length c)),v,.int .i64 0])) w' from fun w' L q A c v r h1 h2 h3 h4=>⟨HR.out ▸ h2,.inr ⟨_,q,r,by rw [← X6.out,← hch]; exact h1,L,A,c,v,by rw [List.length_map],rfl,by rw [List.length_map]; exact HR.out ▸ h3,HR.out ▸ h4⟩⟩)
 have HX40:=Lib.hid (show U8 (l.drop 40)∧(l.drop 40).length≤100000 from ⟨HX.out.drop 40,by rw [List.length_drop,HL.out]; omega⟩)
 have hx6:=k6
 clear hw11 hch
 go_upto_region 7 with fail
 rw [← E11.out,← HR.out]
 clear c3 c4 c5 c6 c7 c8 f3 f4 f5 f6 f7 f8 wk0 wk6 wk7 hand1 hand2 k0 k6 k7
 go_loopw [8,9] (fun v8 v9 wr=>∃ (L:List Xt) (p:Int) (A:Option Addr) (c':Nat) (bb:List Int),L.length≤8∧(0≤p∧p≤255)∧Hid (Rd w R g H L (hdOf l p) (.slice A L.length c') bb wr)∧Hid (chn (9 - L.length) (L.map Xt.re) p bb=ch)∧Hid (U8 bb∧bb.length≤100000)∧Hid (∀ e ∈ L,U8 e.d)) (fun _ _ w=>9 - extN w H)
 case atStart=>exact ⟨[],x6,none,0,l.drop 40,by simp,hx6,RD11,Lib.hid HCH.out.symm,HX40,Lib.hid (fun e he=>by cases he)⟩
 case round =>
  obtain ⟨L,p,A,c',bb,hL8,hp,HRD,HC,HBB,HUE⟩:=hrel
  obtain ⟨q,hq⟩:∃ q,q=L.length:=⟨_,rfl⟩
  have HQ:=Lib.hid hq
  rw [← hq] at HRD HC hL8
  obtain ⟨f,hf⟩:∃ f,9 - q=f+1:=⟨8 - q,by omega⟩
  have hqf:q+f=8:=by omega
  rw [hf] at HC
  have kh:=HRD.out.kh
  rw [HD.out p] at kh
  have d0:wr.cell? ⟨H,0,none⟩=some (.int .i64 (x0 / 1048576 % 256)):=kh.cell 0
  have d1:wr.cell? ⟨H,1,none⟩=some (.int .i64 (x0 % 1048576)):=kh.cell 1
  have d2:wr.cell? ⟨H,2,none⟩=some (.int .i64 x7):=kh.cell 2
  have d3:wr.cell? ⟨H,3,none⟩=some (.bool true):=kh.cell 3
  have d4:wr.cell? ⟨H,4,none⟩=some (.int .u64 sh):=kh.cell 4
  have d5:wr.cell? ⟨H,5,none⟩=some (.int .u64 sl):=kh.cell 5
  have d6:wr.cell? ⟨H,6,none⟩=some (.bool true):=kh.cell 6
  have d7:wr.cell? ⟨H,7,none⟩=some (.int .u64 dh):=kh.cell 7
  have d8:wr.cell? ⟨H,8,none⟩=some (.int .u64 dl):=kh.cell 8
  have d9:wr.cell? ⟨H,9,none⟩=some (.slice A q c'):=kh.cell 9
  have d10:wr.cell? ⟨H,10,none⟩=some (.int .i64 p):=kh.cell 10
  have HRX:=Lib.hid (HRD.out.got.rd HUE.out)
  have IS:=Lib.hid (fun V=>is_any p V)
  have HEX:=Lib.hid (show extN wr H=q from by unfold extN; rw [d9])
  clear kh hq hf
  cases hib:isX p with
  | false =>
   rw [hib] at IS
   have HDN:=Lib.hid (chn_done (f:=f) (xs:=L.map Xt.re) (b:=bb) hib)
   have HCS:=Lib.hid (show ch=some (L.map Xt.re,p,bb) from by rw [← HC.out,HDN.out])
   clear hib
   go_wp2_with fail
   refine (IS.out _).mono ?_
   rintro o w' ⟨rfl,rfl⟩
   go_wp2_with fail
   refine (IS.out _).mono ?_
   rintro o w' ⟨rfl,rfl⟩
   have K2:=Lib.hid (HRD.out.below (Below.refl _ _).drew)
   have s2:wr.drew.cell? ⟨H,0,none⟩=some (.int .i64 (x0 / 1048576 % 256))∧wr.drew.cell? ⟨H,1,none⟩=some (.int .i64 (x0 % 1048576))∧wr.drew.cell? ⟨H,2,none⟩=some (.int .i64 x7)∧wr.drew.cell? ⟨H,3,none⟩=some (.bool true)∧wr.drew.cell? ⟨H,4,none⟩=some (.int .u64 sh)∧wr.drew.cell? ⟨H,5,none⟩=some (.int .u64 sl)∧wr.drew.cell? ⟨H,6,none⟩=some (.bool true)∧wr.drew.cell? ⟨H,7,none⟩=some (.int .u64 dh)∧wr.drew.cell? ⟨H,8,none⟩=some (.int .u64 dl)∧wr.drew.cell? ⟨H,9,none⟩=some (.slice A q c')∧wr.drew.cell? ⟨H,10,none⟩=some (.int .i64 p):=⟨d0,d1,d2,d3,d4,d5,d6,d7,d8,d9,d10⟩
   have REST:=Lib.hid (rest_big R g bb wr.drew (by omega) K2.out.rd HBB.out.2)
   go_wp2_with fail
   refine wp_region_held_drew (S:=fun V=>V.cell? ⟨H,0,none⟩=some (.int .i64 (x0 / 1048576 % 256))∧V.cell? ⟨H,1,none⟩=some (.int .i64 (x0 % 1048576))∧V.cell? ⟨H,2,none⟩=some (.int .i64 x7)∧V.cell? ⟨H,3,none⟩=some (.bool true)∧V.cell? ⟨H,4,none⟩=some (.int .u64 sh)∧V.cell? ⟨H,5,none⟩=some (.int .u64 sl)∧V.cell? ⟨H,6,none⟩=some (.bool true)∧V.cell? ⟨H,7,none⟩=some (.int .u64 dh)∧V.cell? ⟨H,8,none⟩=some (.int .u64 dl)∧V.cell? ⟨H,9,none⟩=some (.slice A q c')∧V.cell? ⟨H,10,none⟩=some (.int .i64 p)) (by kernel_rfl) s2 (fun hHeld=>?_)
   refine wpAnyH_take (i:=0) (v:=.agg #[.int .i64 (x0 / 1048576 % 256),.int .i64 (x0 % 1048576),.int .i64 x7,.bool true,.int .u64 sh,.int .u64 sl,.bool true,.int .u64 dh,.int .u64 dl,.slice A q c',.int .i64 p]) rfl (by kernel_rfl) (by kernel_rfl) (by kernel_rfl) (fun _ _ _ h=>h) (Or.inl ⟨by rfl,?_⟩) (by assumption) ?_
   ·intro V hV
    obtain ⟨e0,e1,e2,e3,e4,e5,e6,e7,e8,e9,e10⟩:=hV; go_simp
   try simp only [List.getElem_toArray,List.getElem_cons_zero,Act.put,List.setIfInBounds_toArray,List.set_cons_zero,List.set_cons_succ]
   refine wpAnyH_take (i:=1) (v:=.pointer (some ⟨g,0,none⟩)) rfl (by kernel_rfl) (by kernel_rfl) (by kernel_rfl) (fun _ _ _ h=>h) (Or.inl ⟨by rfl,?_⟩) (by assumption) ?_
   ·intro V hV
    go_simp
   try simp only [List.getElem_toArray,List.getElem_cons_zero,List.getElem_cons_succ,Act.put,List.setIfInBounds_toArray,List.set_cons_zero,List.set_cons_succ]
   refine wpAnyH_ready (rs:=[2]) (by kernel_rfl) (by simp) ?_
   refine AllReadyH.cons rfl (fun K hK=>?_) AllReadyH.nil
   go_simp
   go_at_call 84
   (with_reducible refine REST.out.mono ?_)
   rintro o w7 ⟨v7,w6,rfl,ho6,hw7,hb7⟩
   have EL7:=Lib.hid (show Els g wr.drew w7 from (toEls (Only.g ho6)).below (by rw [ho6.size]; exact Nat.le_refl _) hb7)
   have hz7:wr.heap.size≤w7.heap.size:=by have:=hb7.size; have e:=ho6.size; have e2:wr.drew.heap.size=wr.heap.size:=rfl; omega
   have KH7:=Lib.hid (show Blk w7 H 87 #[.int .i64 (x0 / 1048576 % 256),.int .i64 (x0 % 1048576),.int .i64 x7,.bool true,.int .u64 sh,.int .u64 sl,.bool true,.int .u64 dh,.int .u64 dl,.slice A q c',.int .i64 p] from (EL7.out H K2.out.kh.lt (by omega)).trans (by have:=K2.out.kh; rw [HD.out p] at this; exact this))
   have KR7:=Lib.hid (show Blk w7 R 87 #[.int .i64 0,.int .i64 0,.int .i64 0,.bool false,.int .u64 0,.int .u64 0,.bool false,.int .u64 0,.int .u64 0,.slice none 0 0,.int .i64 0] from (EL7.out R K2.out.kr.lt (by omega)).trans K2.out.kr)
   have GX7:=Lib.hid (show GotX w7 (H+1) (.slice A q c') L from K2.out.got.els_ (by omega) EL7.out)
   have OW7:=Lib.hid (own_base hw7 (show H+1≤w6.heap.size from by rw [ho6.size]; exact K2.out.sz))
   have BB7:=Lib.hid (show Below R w w7 from K2.out.bel.trans (((Only.g ho6).bel.mono (by omega)).trans (hb7.mono (by have:=K2.out.sz; have e:=ho6.size; omega))))
   have SZ7:=Lib.hid (show H+1≤w7.heap.size from Nat.le_trans HRD.out.sz hz7)
   have s7:w7.cell? ⟨H,0,none⟩=some (.int .i64 (x0 / 1048576 % 256))∧w7.cell? ⟨H,1,none⟩=some (.int .i64 (x0 % 1048576))∧w7.cell? ⟨H,2,none⟩=some (.int .i64 x7)∧w7.cell? ⟨H,3,none⟩=some (.bool true)∧w7.cell? ⟨H,4,none⟩=some (.int .u64 sh)∧w7.cell? ⟨H,5,none⟩=some (.int .u64 sl)∧w7.cell? ⟨H,6,none⟩=some (.bool true)∧w7.cell? ⟨H,7,none⟩=some (.int .u64 dh)∧w7.cell? ⟨H,8,none⟩=some (.int .u64 dl)∧w7.cell? ⟨H,9,none⟩=some (.slice A q c')∧w7.cell? ⟨H,10,none⟩=some (.int .i64 p):=⟨KH7.out.cell 0,KH7.out.cell 1,KH7.out.cell 2,KH7.out.cell 3,KH7.out.cell 4,KH7.out.cell 5,KH7.out.cell 6,KH7.out.cell 7,KH7.out.cell 8,KH7.out.cell 9,KH7.out.cell 10⟩
   obtain ⟨A7,c7,hv7⟩:=own_slice hw7
   subst hv7
   have r0:=KR7.out.cell 0
   have r1:=KR7.out.cell 1
   have r2:=KR7.out.cell 2
   have r3:=KR7.out.cell 3
   have r4:=KR7.out.cell 4
   have r5:=KR7.out.cell 5
   have r6:=KR7.out.cell 6
   have r7:=KR7.out.cell 7
   have r8:=KR7.out.cell 8
   have r9:=KR7.out.cell 9
   have r10:=KR7.out.cell 10
   have z0:=KR7.out.frozen 0
   have z1:=KR7.out.frozen 1
   have z2:=KR7.out.frozen 2
   have z3:=KR7.out.frozen 3
   have z4:=KR7.out.frozen 4
   have z5:=KR7.out.frozen 5
   have z6:=KR7.out.frozen 6
   have z7:=KR7.out.frozen 7
   have z8:=KR7.out.frozen 8
   have z9:=KR7.out.frozen 9
   have z10:=KR7.out.frozen 10
   clear ho6 hw7 hb7
   refine hK.out _ _ ?_ (fun hHeld=>?_)
   ·exact s7
   clear hK K
   try simp only [List.getElem_toArray,List.getElem_cons_zero,List.getElem_cons_succ,Act.put,List.setIfInBounds_toArray,List.set_cons_zero,List.set_cons_succ]
   have hRH:H≠R:=by omega
   have KH8:=Lib.hid (show Blk (((((((((((w7.setCell ⟨R,0,none⟩ (.int .i64 (x0 / 1048576 % 256))).setCell ⟨R,1,none⟩ (.int .i64 (x0 % 1048576))).setCell ⟨R,2,none⟩ (.int .i64 x7)).setCell ⟨R,3,none⟩ (.bool true)).setCell ⟨R,4,none⟩ (.int .u64 sh)).setCell ⟨R,5,none⟩ (.int .u64 sl)).setCell ⟨R,6,none⟩ (.bool true)).setCell ⟨R,7,none⟩ (.int .u64 dh)).setCell ⟨R,8,none⟩ (.int .u64 dl)).setCell ⟨R,9,none⟩ (.slice A q c')).setCell ⟨R,10,none⟩ (.int .i64 p)) H 87 #[.int .i64 (x0 / 1048576 % 256),.int .i64 (x0 % 1048576),.int .i64 x7,.bool true,.int .u64 sh,.int .u64 sl,.bool true,.int .u64 dh,.int .u64 dl,.slice A q c',.int .i64 p] from hfar _ _ _ (.int .i64 (x0 / 1048576 % 256)) (.int .i64 (x0 % 1048576)) (.int .i64 x7) (.bool true) (.int .u64 sh) (.int .u64 sl) (.bool true) (.int .u64 dh) (.int .u64 dl) (.slice A q c') (.int .i64 p) _ _ hRH KH7.out)
   have KR8:=Lib.hid (show Blk (((((((((((w7.setCell ⟨R,0,none⟩ (.int .i64 (x0 / 1048576 % 256))).setCell ⟨R,1,none⟩ (.int .i64 (x0 % 1048576))).setCell ⟨R,2,none⟩ (.int .i64 x7)).setCell ⟨R,3,none⟩ (.bool true)).setCell ⟨R,4,none⟩ (.int .u64 sh)).setCell ⟨R,5,none⟩ (.int .u64 sl)).setCell ⟨R,6,none⟩ (.bool true)).setCell ⟨R,7,none⟩ (.int .u64 dh)).setCell ⟨R,8,none⟩ (.int .u64 dl)).setCell ⟨R,9,none⟩ (.slice A q c')).setCell ⟨R,10,none⟩ (.int .i64 p)) R 87 #[.int .i64 (x0 / 1048576 % 256),.int .i64 (x0 % 1048576),.int .i64 x7,.bool true,.int .u64 sh,.int .u64 sl,.bool true,.int .u64 dh,.int .u64 dl,.slice A q c',.int .i64 p] from hstore _ _ (.int .i64 (x0 / 1048576 % 256)) (.int .i64 (x0 % 1048576)) (.int .i64 x7) (.bool true) (.int .u64 sh) (.int .u64 sl) (.bool true) (.int .u64 dh) (.int .u64 dl) (.slice A q c') (.int .i64 p) (.int .i64 0) (.int .i64 0) (.int .i64 0) (.bool false) (.int .u64 0) (.int .u64 0) (.bool false) (.int .u64 0) (.int .u64 0) (.slice none 0 0) (.int .i64 0) KR7.out)
   have ON8:=Lib.hid (show OnlyG R w7 (((((((((((w7.setCell ⟨R,0,none⟩ (.int .i64 (x0 / 1048576 % 256))).setCell ⟨R,1,none⟩ (.int .i64 (x0 % 1048576))).setCell ⟨R,2,none⟩ (.int .i64 x7)).setCell ⟨R,3,none⟩ (.bool true)).setCell ⟨R,4,none⟩ (.int .u64 sh)).setCell ⟨R,5,none⟩ (.int .u64 sl)).setCell ⟨R,6,none⟩ (.bool true)).setCell ⟨R,7,none⟩ (.int .u64 dh)).setCell ⟨R,8,none⟩ (.int .u64 dl)).setCell ⟨R,9,none⟩ (.slice A q c')).setCell ⟨R,10,none⟩ (.int .i64 p)) from honly _ _ (.int .i64 (x0 / 1048576 % 256)) (.int .i64 (x0 % 1048576)) (.int .i64 x7) (.bool true) (.int .u64 sh) (.int .u64 sl) (.bool true) (.int .u64 dh) (.int .u64 dl) (.slice A q c') (.int .i64 p))
   have s8:(((((((((((w7.setCell ⟨R,0,none⟩ (.int .i64 (x0 / 1048576 % 256))).setCell ⟨R,1,none⟩ (.int .i64 (x0 % 1048576))).setCell ⟨R,2,none⟩ (.int .i64 x7)).setCell ⟨R,3,none⟩ (.bool true)).setCell ⟨R,4,none⟩ (.int .u64 sh)).setCell ⟨R,5,none⟩ (.int .u64 sl)).setCell ⟨R,6,none⟩ (.bool true)).setCell ⟨R,7,none⟩ (.int .u64 dh)).setCell ⟨R,8,none⟩ (.int .u64 dl)).setCell ⟨R,9,none⟩ (.slice A q c')).setCell ⟨R,10,none⟩ (.int .i64 p)).cell? ⟨H,0,none⟩=some (.int .i64 (x0 / 1048576 % 256))∧(((((((((((w7.setCell ⟨R,0,none⟩ (.int .i64 (x0 / 1048576 % 256))).setCell ⟨R,1,none⟩ (.int .i64 (x0 % 1048576))).setCell ⟨R,2,none⟩ (.int .i64 x7)).setCell ⟨R,3,none⟩ (.bool true)).setCell ⟨R,4,none⟩ (.int .u64 sh)).setCell ⟨R,5,none⟩ (.int .u64 sl)).setCell ⟨R,6,none⟩ (.bool true)).setCell ⟨R,7,none⟩ (.int .u64 dh)).setCell ⟨R,8,none⟩ (.int .u64 dl)).setCell ⟨R,9,none⟩ (.slice A q c')).setCell ⟨R,10,none⟩ (.int .i64 p)).cell? ⟨H,1,none⟩=some (.int .i64 (x0 % 1048576))∧(((((((((((w7.setCell ⟨R,0,none⟩ (.int .i64 (x0 / 1048576 % 256))).setCell ⟨R,1,none⟩ (.int .i64 (x0 % 1048576))).setCell ⟨R,2,none⟩ (.int .i64 x7)).setCell ⟨R,3,none⟩ (.bool true)).setCell ⟨R,4,none⟩ (.int .u64 sh)).setCell ⟨R,5,none⟩ (.int .u64 sl)).setCell ⟨R,6,none⟩ (.bool true)).setCell ⟨R,7,none⟩ (.int .u64 dh)).setCell ⟨R,8,none⟩ (.int .u64 dl)).setCell ⟨R,9,none⟩ (.slice A q c')).setCell ⟨R,10,none⟩ (.int .i64 p)).cell? ⟨H,2,none⟩=some (.int .i64 x7)∧(((((((((((w7.setCell ⟨R,0,none⟩ (.int .i64 (x0 / 1048576 % 256))).setCell ⟨R,1,none⟩ (.int .i64 (x0 % 1048576))).setCell ⟨R,2,none⟩ (.int .i64 x7)).setCell ⟨R,3,none⟩ (.bool true)).setCell ⟨R,4,none⟩ (.int .u64 sh)).setCell ⟨R,5,none⟩ (.int .u64 sl)).setCell ⟨R,6,none⟩ (.bool true)).setCell ⟨R,7,none⟩ (.int .u64 dh)).setCell ⟨R,8,none⟩ (.int .u64 dl)).setCell ⟨R,9,none⟩ (.slice A q c')).setCell ⟨R,10,none⟩ (.int .i64 p)).cell? ⟨H,3,none⟩=some (.bool true)∧(((((((((((w7.setCell ⟨R,0,none⟩ (.int .i64 (x0 / 1048576 % 256))).setCell ⟨R,1,none⟩ (.int .i64 (x0 % 1048576))).setCell ⟨R,2,none⟩ (.int .i64 x7)).setCell ⟨R,3,none⟩ (.bool true)).setCell ⟨R,4,none⟩ (.int .u64 sh)).setCell ⟨R,5,none⟩ (.int .u64 sl)).setCell ⟨R,6,none⟩ (.bool true)).setCell ⟨R,7,none⟩ (.int .u64 dh)).setCell ⟨R,8,none⟩ (.int .u64 dl)).setCell ⟨R,9,none⟩ (.slice A q c')).setCell ⟨R,10,none⟩ (.int .i64 p)).cell? ⟨H,4,none⟩=some (.int .u64 sh)∧(((((((((((w7.setCell ⟨R,0,none⟩ (.int .i64 (x0 / 1048576 % 256))).setCell ⟨R,1,none⟩ (.int .i64 (x0 % 1048576))).setCell ⟨R,2,none⟩ (.int .i64 x7)).setCell ⟨R,3,none⟩ (.bool true)).setCell ⟨R,4,none⟩ (.int .u64 sh)).setCell ⟨R,5,none⟩ (.int .u64 sl)).setCell ⟨R,6,none⟩ (.bool true)).setCell ⟨R,7,none⟩ (.int .u64 dh)).setCell ⟨R,8,none⟩ (.int .u64 dl)).setCell ⟨R,9,none⟩ (.slice A q c')).setCell ⟨R,10,none⟩ (.int .i64 p)).cell? ⟨H,5,none⟩=some (.int .u64 sl)∧(((((((((((w7.setCell ⟨R,0,none⟩ (.int .i64 (x0 / 1048576 % 256))).setCell ⟨R,1,none⟩ (.int .i64 (x0 % 1048576))).setCell ⟨R,2,none⟩ (.int .i64 x7)).setCell ⟨R,3,none⟩ (.bool true)).setCell ⟨R,4,none⟩ (.int .u64 sh)).setCell ⟨R,5,none⟩ (.int .u64 sl)).setCell ⟨R,6,none⟩ (.bool true)).setCell ⟨R,7,none⟩ (.int .u64 dh)).setCell ⟨R,8,none⟩ (.int .u64 dl)).setCell ⟨R,9,none⟩ (.slice A q c')).setCell ⟨R,10,none⟩ (.int .i64 p)).cell? ⟨H,6,none⟩=some (.bool true)∧(((((((((((w7.setCell ⟨R,0,none⟩ (.int .i64 (x0 / 1048576 % 256))).setCell ⟨R,1,none⟩ (.int .i64 (x0 % 1048576))).setCell ⟨R,2,none⟩ (.int .i64 x7)).setCell ⟨R,3,none⟩ (.bool true)).setCell ⟨R,4,none⟩ (.int .u64 sh)).setCell ⟨R,5,none⟩ (.int .u64 sl)).setCell ⟨R,6,none⟩ (.bool true)).setCell ⟨R,7,none⟩ (.int .u64 dh)).setCell ⟨R,8,none⟩ (.int .u64 dl)).setCell ⟨R,9,none⟩ (.slice A q c')).setCell ⟨R,10,none⟩ (.int .i64 p)).cell? ⟨H,7,none⟩=some (.int .u64 dh)∧(((((((((((w7.setCell ⟨R,0,none⟩ (.int .i64 (x0 / 1048576 % 256))).setCell ⟨R,1,none⟩ (.int .i64 (x0 % 1048576))).setCell ⟨R,2,none⟩ (.int .i64 x7)).setCell ⟨R,3,none⟩ (.bool true)).setCell ⟨R,4,none⟩ (.int .u64 sh)).setCell ⟨R,5,none⟩ (.int .u64 sl)).setCell ⟨R,6,none⟩ (.bool true)).setCell ⟨R,7,none⟩ (.int .u64 dh)).setCell ⟨R,8,none⟩ (.int .u64 dl)).setCell ⟨R,9,none⟩ (.slice A q c')).setCell ⟨R,10,none⟩ (.int .i64 p)).cell? ⟨H,8,none⟩=some (.int .u64 dl)∧(((((((((((w7.setCell ⟨R,0,none⟩ (.int .i64 (x0 / 1048576 % 256))).setCell ⟨R,1,none⟩ (.int .i64 (x0 % 1048576))).setCell ⟨R,2,none⟩ (.int .i64 x7)).setCell ⟨R,3,none⟩ (.bool true)).setCell ⟨R,4,none⟩ (.int .u64 sh)).setCell ⟨R,5,none⟩ (.int .u64 sl)).setCell ⟨R,6,none⟩ (.bool true)).setCell ⟨R,7,none⟩ (.int .u64 dh)).setCell ⟨R,8,none⟩ (.int .u64 dl)).setCell ⟨R,9,none⟩ (.slice A q c')).setCell ⟨R,10,none⟩ (.int .i64 p)).cell? ⟨H,9,none⟩=some (.slice A q c')∧(((((((((((w7.setCell ⟨R,0,none⟩ (.int .i64 (x0 / 1048576 % 256))).setCell ⟨R,1,none⟩ (.int .i64 (x0 % 1048576))).setCell ⟨R,2,none⟩ (.int .i64 x7)).setCell ⟨R,3,none⟩ (.bool true)).setCell ⟨R,4,none⟩ (.int .u64 sh)).setCell ⟨R,5,none⟩ (.int .u64 sl)).setCell ⟨R,6,none⟩ (.bool true)).setCell ⟨R,7,none⟩ (.int .u64 dh)).setCell ⟨R,8,none⟩ (.int .u64 dl)).setCell ⟨R,9,none⟩ (.slice A q c')).setCell ⟨R,10,none⟩ (.int .i64 p)).cell? ⟨H,10,none⟩=some (.int .i64 p):=⟨KH8.out.cell 0,KH8.out.cell 1,KH8.out.cell 2,KH8.out.cell 3,KH8.out.cell 4,KH8.out.cell 5,KH8.out.cell 6,KH8.out.cell 7,KH8.out.cell 8,KH8.out.cell 9,KH8.out.cell 10⟩
   refine wpAnyH_ready (rs:=[3]) (by kernel_rfl) (by simp) ?_
   refine AllReadyH.cons rfl (fun K hK=>?_) AllReadyH.nil
   go_simp
   refine hK.out _ _ ?_ (fun hHeld=>?_)
   ·exact s8
   clear hK K
   try simp only [List.getElem_toArray,List.getElem_cons_zero,List.getElem_cons_succ,Act.put,List.setIfInBounds_toArray,List.set_cons_zero,List.set_cons_succ]
   refine wpAnyH_take (i:=4) (v:=.slice A7 bb.length c7) rfl (by kernel_rfl) (by kernel_rfl) (by kernel_rfl) (fun _ _ _ h=>h) (Or.inl ⟨by rfl,?_⟩) (by assumption) ?_
   ·intro V hV
    go_simp
   try simp only [List.getElem_toArray,List.getElem_cons_zero,List.getElem_cons_succ,Act.put,List.setIfInBounds_toArray,List.set_cons_zero,List.set_cons_succ]
   refine wpAnyH_take (i:=5) (v:=.int .i64 0) rfl (by kernel_rfl) (by kernel_rfl) (by kernel_rfl) (fun _ _ _ h=>h) (Or.inl ⟨by rfl,?_⟩) (by assumption) ?_
   ·intro V hV
    go_simp
   try simp only [List.getElem_toArray,List.getElem_cons_zero,List.getElem_cons_succ,Act.put,List.setIfInBounds_toArray,List.set_cons_zero,List.set_cons_succ]
   refine wpAnyH_done (by kernel_rfl) ?_ _
   go_wp2_with fail
   have hgx:=GX7.out.els_ (g:=R) (by omega) (toEls ON8.out)
   have how:=own_els OW7.out (g:=R) (by omega) (toEls ON8.out)
   have hgy:=gotx_len HQ.out hgx
   have hcells:(hdOf l p).cells (.slice A L.length c')=#[.int .i64 (x0 / 1048576 % 256),.int .i64 (x0 % 1048576),.int .i64 x7,.bool true,.int .u64 sh,.int .u64 sl,.bool true,.int .u64 dh,.int .u64 dl,.slice A q c',.int .i64 p]:=by rw [HD.out,← HQ.out]; rfl
   have hfin:=HSOME.out (((((((((((w7.setCell ⟨R,0,none⟩ (.int .i64 (x0 / 1048576 % 256))).setCell ⟨R,1,none⟩ (.int .i64 (x0 % 1048576))).setCell ⟨R,2,none⟩ (.int .i64 x7)).setCell ⟨R,3,none⟩ (.bool true)).setCell ⟨R,4,none⟩ (.int .u64 sh)).setCell ⟨R,5,none⟩ (.int .u64 sl)).setCell ⟨R,6,none⟩ (.bool true)).setCell ⟨R,7,none⟩ (.int .u64 dh)).setCell ⟨R,8,none⟩ (.int .u64 dl)).setCell ⟨R,9,none⟩ (.slice A q c')).setCell ⟨R,10,none⟩ (.int .i64 p)) L p A c' _ bb HCS.out (BB7.out.trans ON8.out.bel) (GotX.base hgy (by omega)) (own_base how (by omega))
   rw [hcells] at hfin
   have HFN:=Lib.hid hfin
   clear hfin hcells hgx hgy how
   refine bodyPost_ret (results_read rfl _ _ R #[.int .i64 (x0 / 1048576 % 256),.int .i64 (x0 % 1048576),.int .i64 x7,.bool true,.int .u64 sh,.int .u64 sl,.bool true,.int .u64 dh,.int .u64 dl,.slice A q c',.int .i64 p] rfl KR8.out rfl) rfl ?_
   exact HFN.out
  | true =>
   rw [hib] at IS
   have FR:=Lib.hid (show Calls Try.prog 48 #[.agg #[.int .i64 (x0 / 1048576 % 256),.int .i64 (x0 % 1048576),.int .i64 x7,.bool true,.int .u64 sh,.int .u64 sl,.bool true,.int .u64 dh,.int .u64 dl,.slice A q c',.int .i64 p]] wr _ from by
    have:=frag_any (hdOf l p) A q c' L wr HQ.out.symm HRX.out (by omega)
    rw [show (hdOf l p).cells (.slice A q c')=#[.int .i64 (x0 / 1048576 % 256),.int .i64 (x0 % 1048576),.int .i64 x7,.bool true,.int .u64 sh,.int .u64 sl,.bool true,.int .u64 dh,.int .u64 dl,.slice A q c',.int .i64 p] from by rw [HD.out]; rfl] at this
    exact this)
   obtain ⟨fr,hfr⟩:∃ fr,fr=lies (L.map Xt.re) / 8:=⟨_,rfl⟩
   have HFR:=Lib.hid hfr
   have HQL:=Lib.hid (show (L.map Xt.re).length=q from by rw [List.length_map]; exact HQ.out.symm)
   rw [← hfr] at FR
   clear hfr
   by_cases h0:fr=0
   rotate_left
   ·have t0:(fr == 0)=false:=by simpa using h0
    have HCN:=Lib.hid (show ch=none from by rw [← HC.out]; exact chn_no hib (.inl (by rw [← HFR.out]; exact h0)))
    clear hib h0
    go_wp2_with fail
    refine (IS.out _).mono ?_
    rintro o w' ⟨rfl,rfl⟩
    go_wp2_with fail
    refine FR.out.mono ?_
    rintro o w2 ⟨rfl,hb2⟩
    have RD2:=Lib.hid (HRD.out.below hb2)
    have e9:w2.cell? ⟨H,9,none⟩=some (.slice A q c'):=(hb2.cell (p:=⟨H,9,none⟩) HRD.out.kh.lt).trans d9
    have e10:w2.cell? ⟨H,10,none⟩=some (.int .i64 p):=(hb2.cell (p:=⟨H,10,none⟩) HRD.out.kh.lt).trans d10
    clear hb2
    go_wp2_with fail
    refine (IS.out _).mono ?_
    rintro o w' ⟨rfl,rfl⟩
    have r0:=RD2.out.kr.cell 0
    have r1:=RD2.out.kr.cell 1
    have r2:=RD2.out.kr.cell 2
    have r3:=RD2.out.kr.cell 3
    have r4:=RD2.out.kr.cell 4
    have r5:=RD2.out.kr.cell 5
    have r6:=RD2.out.kr.cell 6
    have r7:=RD2.out.kr.cell 7
    have r8:=RD2.out.kr.cell 8
    have r9:=RD2.out.kr.cell 9
    have r10:=RD2.out.kr.cell 10
    have z0:=RD2.out.kr.frozen 0
    have z1:=RD2.out.kr.frozen 1
    have z2:=RD2.out.kr.frozen 2
    have z3:=RD2.out.kr.frozen 3
    have z4:=RD2.out.kr.frozen 4
    have z5:=RD2.out.kr.frozen 5
    have z6:=RD2.out.kr.frozen 6
    have z7:=RD2.out.kr.frozen 7
    have z8:=RD2.out.kr.frozen 8
    have z9:=RD2.out.kr.frozen 9
    have z10:=RD2.out.kr.frozen 10
    go_wp2_with fail
    refine bodyPost_ret (results_read rfl _ _ R #[.int .i64 0,.int .i64 0,.int .i64 0,.bool false,.int .u64 0,.int .u64 0,.bool false,.int .u64 0,.int .u64 0,.slice none 0 0,.int .i64 0] rfl (zstore w2 R RD2.out.kr) rfl) rfl ?_
    exact HNONE.out _ HCN.out (RD2.out.bel.trans (zbelow w2 R R (Nat.le_refl _)))
   subst h0
   by_cases h8:q=8
   ·have HCN:=Lib.hid (show ch=none from by rw [← HC.out]; exact chn_no hib (.inr (.inl (HQL.out.trans h8))))
    have t8:((q:Int) == 8)=true:=by simp; omega
    have t8n:(q == 8)=true:=by simpa using h8
    clear hib h8
    go_wp2_with fail
    refine (IS.out _).mono ?_
    rintro o w' ⟨rfl,rfl⟩
    go_wp2_with fail
    refine FR.out.mono ?_
    rintro o w2 ⟨rfl,hb2⟩
    have RD2:=Lib.hid (HRD.out.below hb2)
    have e9:w2.cell? ⟨H,9,none⟩=some (.slice A q c'):=(hb2.cell (p:=⟨H,9,none⟩) HRD.out.kh.lt).trans d9
    have e10:w2.cell? ⟨H,10,none⟩=some (.int .i64 p):=(hb2.cell (p:=⟨H,10,none⟩) HRD.out.kh.lt).trans d10
    clear hb2
    have r0:=RD2.out.kr.cell 0
    have r1:=RD2.out.kr.cell 1
    have r2:=RD2.out.kr.cell 2
    have r3:=RD2.out.kr.cell 3
    have r4:=RD2.out.kr.cell 4
    have r5:=RD2.out.kr.cell 5
    have r6:=RD2.out.kr.cell 6
    have r7:=RD2.out.kr.cell 7
    have r8:=RD2.out.kr.cell 8
    have r9:=RD2.out.kr.cell 9
    have r10:=RD2.out.kr.cell 10
    have z0:=RD2.out.kr.frozen 0
    have z1:=RD2.out.kr.frozen 1
    have z2:=RD2.out.kr.frozen 2
    have z3:=RD2.out.kr.frozen 3
    have z4:=RD2.out.kr.frozen 4
    have z5:=RD2.out.kr.frozen 5
    have z6:=RD2.out.kr.frozen 6
    have z7:=RD2.out.kr.frozen 7
    have z8:=RD2.out.kr.frozen 8
    have z9:=RD2.out.kr.frozen 9
    have z10:=RD2.out.kr.frozen 10
    go_wp2_with fail
    refine bodyPost_ret (results_read rfl _ _ R #[.int .i64 0,.int .i64 0,.int .i64 0,.bool false,.int .u64 0,.int .u64 0,.bool false,.int .u64 0,.int .u64 0,.slice none 0 0,.int .i64 0] rfl (zstore w2 R RD2.out.kr) rfl) rfl ?_
    exact HNONE.out _ HCN.out (RD2.out.bel.trans (zbelow w2 R R (Nat.le_refl _)))
   have t8:((q:Int) == 8)=false:=by simp; omega
   have t8n:(q == 8)=false:=by simpa using h8
   by_cases hp0:p=0∧q≠0
   ·obtain ⟨hp1,hq1⟩:=hp0
    have HCN:=Lib.hid (show ch=none from by rw [← HC.out]; exact chn_no hib (.inr (.inr (.inr ⟨hp1,by rw [HQL.out]; exact hq1⟩))))
    have t1:(p == 0)=true:=by simpa using hp1
    have t2:decide (0<(q:Int))=true:=decide_eq_true (by omega)
    have t3:decide (0<q)=true:=decide_eq_true (by omega)
    clear hib hp1 hq1 h8
    go_wp2_with fail
    refine (IS.out _).mono ?_
    rintro o w' ⟨rfl,rfl⟩
    go_wp2_with fail
    refine FR.out.mono ?_
    rintro o w2 ⟨rfl,hb2⟩
    have RD2:=Lib.hid (HRD.out.below hb2)
    have e9:w2.cell? ⟨H,9,none⟩=some (.slice A q c'):=(hb2.cell (p:=⟨H,9,none⟩) HRD.out.kh.lt).trans d9
    have e10:w2.cell? ⟨H,10,none⟩=some (.int .i64 p):=(hb2.cell (p:=⟨H,10,none⟩) HRD.out.kh.lt).trans d10
    clear hb2
    have r0:=RD2.out.kr.cell 0
    have r1:=RD2.out.kr.cell 1
    have r2:=RD2.out.kr.cell 2
    have r3:=RD2.out.kr.cell 3
    have r4:=RD2.out.kr.cell 4
    have r5:=RD2.out.kr.cell 5
    have r6:=RD2.out.kr.cell 6
    have r7:=RD2.out.kr.cell 7
    have r8:=RD2.out.kr.cell 8
    have r9:=RD2.out.kr.cell 9
    have r10:=RD2.out.kr.cell 10
    have z0:=RD2.out.kr.frozen 0
    have z1:=RD2.out.kr.frozen 1
    have z2:=RD2.out.kr.frozen 2
    have z3:=RD2.out.kr.frozen 3
    have z4:=RD2.out.kr.frozen 4
    have z5:=RD2.out.kr.frozen 5
    have z6:=RD2.out.kr.frozen 6
    have z7:=RD2.out.kr.frozen 7
    have z8:=RD2.out.kr.frozen 8
    have z9:=RD2.out.kr.frozen 9
    have z10:=RD2.out.kr.frozen 10
    go_wp2_with fail
    refine bodyPost_ret (results_read rfl _ _ R #[.int .i64 0,.int .i64 0,.int .i64 0,.bool false,.int .u64 0,.int .u64 0,.bool false,.int .u64 0,.int .u64 0,.slice none 0 0,.int .i64 0] rfl (zstore w2 R RD2.out.kr) rfl) rfl ?_
    exact HNONE.out _ HCN.out (RD2.out.bel.trans (zbelow w2 R R (Nat.le_refl _)))
   by_cases hb1:bb.length<1
   ·have HCN:=Lib.hid (show ch=none from by rw [← HC.out]; exact chn_no hib (.inr (.inr (.inl (by omega)))))
    by_cases hp1:p=0
    ·have hq0:q=0:=Decidable.byContradiction fun h=>hp0 ⟨hp1,h⟩
     have t1:(p == 0)=true:=by simpa using hp1
     have t2:decide (0<(q:Int))=false:=decide_eq_false (by omega)
     have t3:decide (0<q)=false:=decide_eq_false (by omega)
     clear hp0 hp1 hq0 h8
     have NB:=Lib.hid (show ∀ V,Rdr V R g bb→Calls Try.prog 83 #[.pointer (some ⟨g,0,none⟩),.int .i64 1] V fun o w'=>o=.returned (.int .u64 0)∧St w' R g [] 2∧OnlyG g V w' from fun V hV=>num_bad R g 1 bb 0 V (Rdr.st hV) (.inr hb1) (by omega))
     have DN:=Lib.hid (show ∀ V,St V R g [] 2→Calls Try.prog 91 #[.pointer (some ⟨g,0,none⟩),.int .i64 p] V (FailP V R g) from fun V hV=>data_none R g p [] 2 V (by omega) hV (.inl (by omega)))
     clear hib hb1
     go_wp2_with fail
     refine (IS.out _).mono ?_
     rintro o w' ⟨rfl,rfl⟩
     go_wp2_with fail
     refine FR.out.mono ?_
     rintro o w2 ⟨rfl,hb2⟩
     have RD2:=Lib.hid (HRD.out.below hb2)
     have e9:w2.cell? ⟨H,9,none⟩=some (.slice A q c'):=(hb2.cell (p:=⟨H,9,none⟩) HRD.out.kh.lt).trans d9
     have e10:w2.cell? ⟨H,10,none⟩=some (.int .i64 p):=(hb2.cell (p:=⟨H,10,none⟩) HRD.out.kh.lt).trans d10
     clear hb2
     go_wp2_with fail
     refine (NB.out _ RD2.out.rd).mono ?_
     rintro o w3 ⟨rfl,hs3,ho3⟩
     have S3:=Lib.hid hs3
     have KR3:=Lib.hid (ho3.blk RD2.out.kr (by omega))
     have KH3:=Lib.hid (ho3.blk RD2.out.kh (by omega))
     have BB3:=Lib.hid (ho3.from RD2.out.bel (by omega))
     have SZ3:=Lib.hid (show H+1≤w3.heap.size from by rw [ho3.size]; exact RD2.out.sz)
     have j10:w3.cell? ⟨H,10,none⟩=some (.int .i64 p):=by rw [KH3.out.cell 10,HD.out]; rfl
     clear hs3 ho3
     go_wp2_with fail
     refine (DN.out _ S3.out).mono ?_
     rintro o w4 ⟨v4,l4,e4,rfl,hs4,hne4,hb4,he4,hz4⟩
     have ERR:=Lib.hid (err_gen R g l4 e4 w4 hs4)
     have KR4:=Lib.hid (show Blk w4 R 87 #[.int .i64 0,.int .i64 0,.int .i64 0,.bool false,.int .u64 0,.int .u64 0,.bool false,.int .u64 0,.int .u64 0,.slice none 0 0,.int .i64 0] from (he4 R KR3.out.lt (by omega)).trans KR3.out)
     have BB4:=Lib.hid (BB3.out.trans hb4)
     have te:(e4 != 0)=true:=by simpa using hne4
     clear hs4 hne4 hb4 he4 hz4
     go_wp2_with fail
     refine ERR.out.mono ?_
     rintro o w' ⟨rfl,rfl⟩
     have r0:=KR4.out.cell 0
     have r1:=KR4.out.cell 1
     have r2:=KR4.out.cell 2
     have r3:=KR4.out.cell 3
     have r4:=KR4.out.cell 4
     have r5:=KR4.out.cell 5
     have r6:=KR4.out.cell 6
     have r7:=KR4.out.cell 7
     have r8:=KR4.out.cell 8
     have r9:=KR4.out.cell 9
     have r10:=KR4.out.cell 10
     have z0:=KR4.out.frozen 0
     have z1:=KR4.out.frozen 1
     have z2:=KR4.out.frozen 2
     have z3:=KR4.out.frozen 3
     have z4:=KR4.out.frozen 4
     have z5:=KR4.out.frozen 5
     have z6:=KR4.out.frozen 6
     have z7:=KR4.out.frozen 7
     have z8:=KR4.out.frozen 8
     have z9:=KR4.out.frozen 9
     have z10:=KR4.out.frozen 10
     go_wp2_with fail
     refine bodyPost_ret (results_read rfl _ _ R #[.int .i64 0,.int .i64 0,.int .i64 0,.bool false,.int .u64 0,.int .u64 0,.bool false,.int .u64 0,.int .u64 0,.slice none 0 0,.int .i64 0] rfl (zstore w4 R KR4.out) rfl) rfl ?_
     exact HNONE.out _ HCN.out (BB4.out.trans (zbelow w4 R R (Nat.le_refl _)))
    ·have t1:(p == 0)=false:=by simpa using hp1
     clear hp0 hp1 h8
     have NB:=Lib.hid (show ∀ V,Rdr V R g bb→Calls Try.prog 83 #[.pointer (some ⟨g,0,none⟩),.int .i64 1] V fun o w'=>o=.returned (.int .u64 0)∧St w' R g [] 2∧OnlyG g V w' from fun V hV=>num_bad R g 1 bb 0 V (Rdr.st hV) (.inr hb1) (by omega))
     have DN:=Lib.hid (show ∀ V,St V R g [] 2→Calls Try.prog 91 #[.pointer (some ⟨g,0,none⟩),.int .i64 p] V (FailP V R g) from fun V hV=>data_none R g p [] 2 V (by omega) hV (.inl (by omega)))
     clear hib hb1
     go_wp2_with fail
     refine (IS.out _).mono ?_
     rintro o w' ⟨rfl,rfl⟩
     go_wp2_with fail
     refine FR.out.mono ?_
     rintro o w2 ⟨rfl,hb2⟩
     have RD2:=Lib.hid (HRD.out.below hb2)
     have e9:w2.cell? ⟨H,9,none⟩=some (.slice A q c'):=(hb2.cell (p:=⟨H,9,none⟩) HRD.out.kh.lt).trans d9
     have e10:w2.cell? ⟨H,10,none⟩=some (.int .i64 p):=(hb2.cell (p:=⟨H,10,none⟩) HRD.out.kh.lt).trans d10
     clear hb2
     go_wp2_with fail
     refine (NB.out _ RD2.out.rd).mono ?_
     rintro o w3 ⟨rfl,hs3,ho3⟩
     have S3:=Lib.hid hs3
     have KR3:=Lib.hid (ho3.blk RD2.out.kr (by omega))
     have KH3:=Lib.hid (ho3.blk RD2.out.kh (by omega))
     have BB3:=Lib.hid (ho3.from RD2.out.bel (by omega))
     have SZ3:=Lib.hid (show H+1≤w3.heap.size from by rw [ho3.size]; exact RD2.out.sz)
     have j10:w3.cell? ⟨H,10,none⟩=some (.int .i64 p):=by rw [KH3.out.cell 10,HD.out]; rfl
     clear hs3 ho3
     go_wp2_with fail
     refine (DN.out _ S3.out).mono ?_
     rintro o w4 ⟨v4,l4,e4,rfl,hs4,hne4,hb4,he4,hz4⟩
     have ERR:=Lib.hid (err_gen R g l4 e4 w4 hs4)
     have KR4:=Lib.hid (show Blk w4 R 87 #[.int .i64 0,.int .i64 0,.int .i64 0,.bool false,.int .u64 0,.int .u64 0,.bool false,.int .u64 0,.int .u64 0,.slice none 0 0,.int .i64 0] from (he4 R KR3.out.lt (by omega)).trans KR3.out)
     have BB4:=Lib.hid (BB3.out.trans hb4)
     have te:(e4 != 0)=true:=by simpa using hne4
     clear hs4 hne4 hb4 he4 hz4
     go_wp2_with fail
     refine ERR.out.mono ?_
     rintro o w' ⟨rfl,rfl⟩
     have r0:=KR4.out.cell 0
     have r1:=KR4.out.cell 1
     have r2:=KR4.out.cell 2
     have r3:=KR4.out.cell 3
     have r4:=KR4.out.cell 4
     have r5:=KR4.out.cell 5
     have r6:=KR4.out.cell 6
     have r7:=KR4.out.cell 7
     have r8:=KR4.out.cell 8
     have r9:=KR4.out.cell 9
     have r10:=KR4.out.cell 10
     have z0:=KR4.out.frozen 0
     have z1:=KR4.out.frozen 1
     have z2:=KR4.out.frozen 2
     have z3:=KR4.out.frozen 3
     have z4:=KR4.out.frozen 4
     have z5:=KR4.out.frozen 5
     have z6:=KR4.out.frozen 6
     have z7:=KR4.out.frozen 7
     have z8:=KR4.out.frozen 8
     have z9:=KR4.out.frozen 9
     have z10:=KR4.out.frozen 10
     go_wp2_with fail
     refine bodyPost_ret (results_read rfl _ _ R #[.int .i64 0,.int .i64 0,.int .i64 0,.bool false,.int .u64 0,.int .u64 0,.bool false,.int .u64 0,.int .u64 0,.slice none 0 0,.int .i64 0] rfl (zstore w4 R KR4.out) rfl) rfl ?_
     exact HNONE.out _ HCN.out (BB4.out.trans (zbelow w4 R R (Nat.le_refl _)))
   have HN1:=Lib.hid (show ∀ V,Rdr V R g bb→_ from fun V hV=>num_one R g 0 bb V (by omega) hV (by omega) HBB.out.1)
   obtain ⟨kd,hkd⟩:∃ kd,kd=bb.getD 0 0:=⟨_,rfl⟩
   have HKD:=Lib.hid hkd
   have kd1:0≤kd∧kd≤255:=by rw [hkd]; exact HBB.out.1.get 0
   have wkd:IntKind.i64.wrap kd=kd:=IntWalk.i64_in _ (by omega)
   rw [← hkd] at HN1
   clear hkd
   rcases Nat.lt_or_ge bb.length (siz p bb) with hsz | hsz
   ·have HCN:=Lib.hid (show ch=none from by rw [← HC.out]; exact chn_short hib hsz)
    by_cases hp1:p=0
    ·have hq0:q=0:=Decidable.byContradiction fun h=>hp0 ⟨hp1,h⟩
     have t1:(p == 0)=true:=by simpa using hp1
     have t2:decide (0<(q:Int))=false:=decide_eq_false (by omega)
     have t3:decide (0<q)=false:=decide_eq_false (by omega)
     clear hp0 hp1 hq0 h8
     have DK:=Lib.hid (show ∀ V,Rdr V R g (bb.drop 1)→Calls Try.prog 91 #[.pointer (some ⟨g,0,none⟩),.int .i64 p] V (FailP V R g) from fun V hV=>data_ko R g p bb V (by omega) hV HBB.out.1 hsz (by omega))
     clear hib
     go_wp2_with fail
     refine (IS.out _).mono ?_
     rintro o w' ⟨rfl,rfl⟩
     go_wp2_with fail
     refine FR.out.mono ?_
     rintro o w2 ⟨rfl,hb2⟩
     have RD2:=Lib.hid (HRD.out.below hb2)
     have e9:w2.cell? ⟨H,9,none⟩=some (.slice A q c'):=(hb2.cell (p:=⟨H,9,none⟩) HRD.out.kh.lt).trans d9
     have e10:w2.cell? ⟨H,10,none⟩=some (.int .i64 p):=(hb2.cell (p:=⟨H,10,none⟩) HRD.out.kh.lt).trans d10
     clear hb2
     go_wp2_with fail
     refine (HN1.out _ RD2.out.rd).mono ?_
     rintro o w3 ⟨he,hrd,ho3⟩
     subst he
     have RD3:=Lib.hid (show Rd w R g H L (hdOf l p) (.slice A q c') (bb.drop 1) w3 from RD2.out.els ((Only.g ho3).bel.mono (by omega)) (toEls (Only.g ho3)) hrd)
     have j10:w3.cell? ⟨H,10,none⟩=some (.int .i64 p):=by rw [RD3.out.kh.cell 10,HD.out]; rfl
     clear hrd ho3
     go_wp2_with fail
     refine (DK.out _ RD3.out.rd).mono ?_
     rintro o w4 ⟨v4,l4,e4,rfl,hs4,hne4,hb4,he4,hz4⟩
     have ERR:=Lib.hid (err_gen R g l4 e4 w4 hs4)
     have KR4:=Lib.hid (show Blk w4 R 87 #[.int .i64 0,.int .i64 0,.int .i64 0,.bool false,.int .u64 0,.int .u64 0,.bool false,.int .u64 0,.int .u64 0,.slice none 0 0,.int .i64 0] from (he4 R RD3.out.kr.lt (by omega)).trans RD3.out.kr)
     have BB4:=Lib.hid (RD3.out.bel.trans hb4)
     have te:(e4 != 0)=true:=by simpa using hne4
     clear hs4 hne4 hb4 he4 hz4
     go_wp2_with fail
     refine ERR.out.mono ?_
     rintro o w' ⟨rfl,rfl⟩
     have r0:=KR4.out.cell 0
     have r1:=KR4.out.cell 1
     have r2:=KR4.out.cell 2
     have r3:=KR4.out.cell 3
     have r4:=KR4.out.cell 4
     have r5:=KR4.out.cell 5
     have r6:=KR4.out.cell 6
     have r7:=KR4.out.cell 7
     have r8:=KR4.out.cell 8
     have r9:=KR4.out.cell 9
     have r10:=KR4.out.cell 10
     have z0:=KR4.out.frozen 0
     have z1:=KR4.out.frozen 1
     have z2:=KR4.out.frozen 2
     have z3:=KR4.out.frozen 3
     have z4:=KR4.out.frozen 4
     have z5:=KR4.out.frozen 5
     have z6:=KR4.out.frozen 6
     have z7:=KR4.out.frozen 7
     have z8:=KR4.out.frozen 8
     have z9:=KR4.out.frozen 9
     have z10:=KR4.out.frozen 10
     go_wp2_with fail
     refine bodyPost_ret (results_read rfl _ _ R #[.int .i64 0,.int .i64 0,.int .i64 0,.bool false,.int .u64 0,.int .u64 0,.bool false,.int .u64 0,.int .u64 0,.slice none 0 0,.int .i64 0] rfl (zstore w4 R KR4.out) rfl) rfl ?_
     exact HNONE.out _ HCN.out (BB4.out.trans (zbelow w4 R R (Nat.le_refl _)))
    ·have t1:(p == 0)=false:=by simpa using hp1
     clear hp0 hp1 h8
     have DK:=Lib.hid (show ∀ V,Rdr V R g (bb.drop 1)→Calls Try.prog 91 #[.pointer (some ⟨g,0,none⟩),.int .i64 p] V (FailP V R g) from fun V hV=>data_ko R g p bb V (by omega) hV HBB.out.1 hsz (by omega))
     clear hib
     go_wp2_with fail
     refine (IS.out _).mono ?_
     rintro o w' ⟨rfl,rfl⟩
     go_wp2_with fail
     refine FR.out.mono ?_
     rintro o w2 ⟨rfl,hb2⟩
     have RD2:=Lib.hid (HRD.out.below hb2)
     have e9:w2.cell? ⟨H,9,none⟩=some (.slice A q c'):=(hb2.cell (p:=⟨H,9,none⟩) HRD.out.kh.lt).trans d9
     have e10:w2.cell? ⟨H,10,none⟩=some (.int .i64 p):=(hb2.cell (p:=⟨H,10,none⟩) HRD.out.kh.lt).trans d10
     clear hb2
     go_wp2_with fail
     refine (HN1.out _ RD2.out.rd).mono ?_
     rintro o w3 ⟨he,hrd,ho3⟩
     subst he
     have RD3:=Lib.hid (show Rd w R g H L (hdOf l p) (.slice A q c') (bb.drop 1) w3 from RD2.out.els ((Only.g ho3).bel.mono (by omega)) (toEls (Only.g ho3)) hrd)
     have j10:w3.cell? ⟨H,10,none⟩=some (.int .i64 p):=by rw [RD3.out.kh.cell 10,HD.out]; rfl
     clear hrd ho3
     go_wp2_with fail
     refine (DK.out _ RD3.out.rd).mono ?_
     rintro o w4 ⟨v4,l4,e4,rfl,hs4,hne4,hb4,he4,hz4⟩
     have ERR:=Lib.hid (err_gen R g l4 e4 w4 hs4)
     have KR4:=Lib.hid (show Blk w4 R 87 #[.int .i64 0,.int .i64 0,.int .i64 0,.bool false,.int .u64 0,.int .u64 0,.bool false,.int .u64 0,.int .u64 0,.slice none 0 0,.int .i64 0] from (he4 R RD3.out.kr.lt (by omega)).trans RD3.out.kr)
     have BB4:=Lib.hid (RD3.out.bel.trans hb4)
     have te:(e4 != 0)=true:=by simpa using hne4
     clear hs4 hne4 hb4 he4 hz4
     go_wp2_with fail
     refine ERR.out.mono ?_
     rintro o w' ⟨rfl,rfl⟩
     have r0:=KR4.out.cell 0
     have r1:=KR4.out.cell 1
     have r2:=KR4.out.cell 2
     have r3:=KR4.out.cell 3
     have r4:=KR4.out.cell 4
     have r5:=KR4.out.cell 5
     have r6:=KR4.out.cell 6
     have r7:=KR4.out.cell 7
     have r8:=KR4.out.cell 8
     have r9:=KR4.out.cell 9
     have r10:=KR4.out.cell 10
     have z0:=KR4.out.frozen 0
     have z1:=KR4.out.frozen 1
     have z2:=KR4.out.frozen 2
     have z3:=KR4.out.frozen 3
     have z4:=KR4.out.frozen 4
     have z5:=KR4.out.frozen 5
     have z6:=KR4.out.frozen 6
     have z7:=KR4.out.frozen 7
     have z8:=KR4.out.frozen 8
     have z9:=KR4.out.frozen 9
     have z10:=KR4.out.frozen 10
     go_wp2_with fail
     refine bodyPost_ret (results_read rfl _ _ R #[.int .i64 0,.int .i64 0,.int .i64 0,.bool false,.int .u64 0,.int .u64 0,.bool false,.int .u64 0,.int .u64 0,.slice none 0 0,.int .i64 0] rfl (zstore w4 R KR4.out) rfl) rfl ?_
     exact HNONE.out _ HCN.out (BB4.out.trans (zbelow w4 R R (Nat.le_refl _)))
   have h88:=siz_8 p bb
   have hq8:q<8:=by omega
   obtain ⟨d,hd⟩:∃ d,d=(bb.take (siz p bb)).drop 1:=⟨_,rfl⟩
   obtain ⟨t,ht⟩:∃ t,t=bb.drop (siz p bb):=⟨_,rfl⟩
   have HDD:=Lib.hid hd
   have HTT:=Lib.hid ht
   have HCX:=Lib.hid (show chn f (L.map Xt.re++[(p,d)]) kd t=ch from by
    rw [← HC.out,HKD.out,hd,ht]
    refine (chn_next hib ?_ hsz).symm
    rw [HQL.out,← HFR.out]
    rintro (h | h | h | h)
    ·exact h rfl
    ·exact h8 h
    ·omega
    ·exact hp0 h)
   have HUD:=Lib.hid (show U8 d∧U8 t∧t.length≤100000 from ⟨hd ▸ (HBB.out.1.take _).drop _,ht ▸ HBB.out.1.drop _,by have:=HBB.out.2; rw [ht,List.length_drop]; omega⟩)
   clear hd ht
   by_cases hp1:p=0
   ·have hq0:q=0:=Decidable.byContradiction fun h=>hp0 ⟨hp1,h⟩
    have t1:(p == 0)=true:=by simpa using hp1
    have t2:decide (0<(q:Int))=false:=decide_eq_false (by omega)
    have t3:decide (0<q)=false:=decide_eq_false (by omega)
    clear hp0 hp1 hq0 h8
    have DG:=Lib.hid (show ∀ V,Rdr V R g (bb.drop 1)→Calls Try.prog 91 #[.pointer (some ⟨g,0,none⟩),.int .i64 p] V (DataP V R g d t) from fun V hV=>by rw [HDD.out,HTT.out]; exact data_ok R g p bb V (by omega) hV HBB.out.1 hsz)
    clear hib
    go_wp2_with fail
    refine (IS.out _).mono ?_
    rintro o w' ⟨rfl,rfl⟩
    go_wp2_with fail
    refine FR.out.mono ?_
    rintro o w2 ⟨rfl,hb2⟩
    have RD2:=Lib.hid (HRD.out.below hb2)
    have e9:w2.cell? ⟨H,9,none⟩=some (.slice A q c'):=(hb2.cell (p:=⟨H,9,none⟩) HRD.out.kh.lt).trans d9
    have e10:w2.cell? ⟨H,10,none⟩=some (.int .i64 p):=(hb2.cell (p:=⟨H,10,none⟩) HRD.out.kh.lt).trans d10
    clear hb2
    go_wp2_with fail
    refine (HN1.out _ RD2.out.rd).mono ?_
    rintro o w3 ⟨he,hrd,ho3⟩
    subst he
    have RD3:=Lib.hid (show Rd w R g H L (hdOf l p) (.slice A q c') (bb.drop 1) w3 from RD2.out.els ((Only.g ho3).bel.mono (by omega)) (toEls (Only.g ho3)) hrd)
    have j10:w3.cell? ⟨H,10,none⟩=some (.int .i64 p):=by rw [RD3.out.kh.cell 10,HD.out]; rfl
    clear hrd ho3
    go_wp2_with fail
    refine (DG.out _ RD3.out.rd).mono ?_
    rintro o w4 ⟨dA,dc,rfl,hown,hrd,hb4,he4,hz4⟩
    have RD4:=Lib.hid (show Rd w R g H L (hdOf l p) (.slice A q c') t w4 from RD3.out.els hb4 he4 hrd)
    have OW4:=Lib.hid (own_baseN hown (show H+1≤w3.heap.size from RD3.out.sz))
    have ERR:=Lib.hid (err_gen R g t 0 w4 (Rdr.st hrd))
    have i9:w4.cell? ⟨H,9,none⟩=some (.slice A q c'):=by rw [RD4.out.kh.cell 9,HD.out]; rfl
    have i10:w4.cell? ⟨H,10,none⟩=some (.int .i64 p):=by rw [RD4.out.kh.cell 10,HD.out]; rfl
    clear hown hrd hb4 he4 hz4
    go_wp2_with fail
    refine ERR.out.mono ?_
    rintro o w' ⟨rfl,rfl⟩
    obtain ⟨dn,hdn⟩:∃ dn,dn=d.length:=⟨_,rfl⟩
    have HDN:=Lib.hid hdn
    rw [← hdn] at OW4
    rw [← hdn]
    clear hdn
    obtain ⟨w5,hw5⟩:∃ w5,w5=w4.alloc (.cells #[.int .i64 p,.slice dA dn dc] 118):=⟨_,rfl⟩
    have E5:=Lib.hid hw5
    have BA5:=Lib.hid (show Below w4.heap.size w4 w5 from by rw [hw5]; exact (Below.refl _ _).alloc (Nat.le_refl _) _)
    have LIT:Blk w5 w4.heap.size 118 #[.int .i64 p,.slice dA dn dc]:=by rw [hw5]; exact Blk.new w4 _ _
    have HNEWS:=Lib.hid (show ∀ (i:Nat) (u:Value),([.int .i64 p,.slice dA dn dc]:List Value)[i]?=some u→w5.cell? ((⟨w4.heap.size,0,none⟩:Addr).add i)=some u from by
     intro i u hu
     rw [Addr.add_lit,Nat.zero_add,LIT.cell i,← hu,← Array.getElem?_toList])
    have RD5:=Lib.hid (RD4.out.below BA5.out)
    have OW5:=Lib.hid (own_below2 OW4.out BA5.out)
    have HOX:=Lib.hid (got_row HQ.out RD5.out.got)
    have Y1:=Lib.hid (show q+1≤maxLen by unfold maxLen; omega)
    have Y2:=Lib.hid (show (q+1)*32≤140737488355328 by omega)
    clear hw5 LIT
    go_upto_region 15 with (at_builtin; rw [← E5.out]; refine wpList_append_own _ rfl (.tmp 73) (.tmp 78) _ rfl (H+1) 118 i0 _ 2 32 Try.underlying85 HI0.out HZ0.out HZ1.out HZ2.out rfl (by omega) (.slice A q c') q (flatX L) rfl HOX.out ⟨w4.heap.size,0,none⟩ 1 1 [.int .i64 p,.slice dA dn dc] rfl rfl HNEWS.out (by simp [Value.oneCell']) Y1.out Y2.out RD5.out.sz ?_; intro va wa owna ga _; have HBl:=Lib.hid ((Below.refl (H+1) w5).grown ga RD5.out.sz (fun k hk=>(HOX.out.lt k hk).1)); have HGa:=Lib.hid (show GotX wa (H+1) va (L++[⟨p,dA,dc,d⟩]) from more_ext HQ.out HDN.out RD5.out.got OW5.out owna ga); obtain ⟨Aa,ca,hva⟩:=own_sliceN owna; subst hva; have KHa:=Lib.hid (RD5.out.kh.below HBl.out (Nat.lt_succ_self _)); have b9:=KHa.out.cell 9; have b10:=KHa.out.cell 10; have g9:=KHa.out.frozen 9; have g10:=KHa.out.frozen 10; clear owna ga)
    have RDZ:=Lib.hid (rd_next kd RD5.out HBl.out HGa.out HQ.out)
    have b11:=(KHa.out.set_ 9 (.slice Aa (q+1) ca)).cell 10
    have g11:=(KHa.out.set_ 9 (.slice Aa (q+1) ca)).frozen 10
    have HEZ:=Lib.hid (show extN ((wa.setCell ⟨H,9,none⟩ (.slice Aa (q+1) ca)).setCell ⟨H,10,none⟩ (.int .i64 kd)) H=q+1 from by
     unfold extN
     rw [((KHa.out.set_ 9 (.slice Aa (q+1) ca)).set_ 10 (.int .i64 kd)).cell 9]
     rfl)
    have HLL:=Lib.hid (show (L++[(⟨p,dA,dc,d⟩:Xt)]).length=q+1 from by rw [List.length_append,HQ.out]; rfl)
    have HCZ:=Lib.hid (show chn (9 - (L++[(⟨p,dA,dc,d⟩:Xt)]).length) ((L++[(⟨p,dA,dc,d⟩:Xt)]).map Xt.re) kd t=ch from by
     rw [HLL.out,show 9 - (q+1)=f by omega,List.map_append]
     exact HCX.out)
    have HUZ:=Lib.hid (show ∀ e ∈ (L++[(⟨p,dA,dc,d⟩:Xt)]),U8 e.d from fun e he=>by
     rcases List.mem_append.mp he with h | h
     ·exact HUE.out e h
     ·rw [List.mem_singleton.mp h]; exact HUD.out.1)
    go_wp2_with fail
    go_roundw
    case rel=>exact ⟨_,kd,Aa,ca,t,by rw [HLL.out]; omega,kd1,RDZ,HCZ,Lib.hid HUD.out.2,HUZ⟩
    case measure =>
     show 9 - extN ((wa.setCell ⟨H,9,none⟩ (.slice Aa (q+1) ca)).setCell ⟨H,10,none⟩ (.int .i64 kd)) H<9 - extN wr H
     rw [HEX.out,HEZ.out]
     omega
   ·have t1:(p == 0)=false:=by simpa using hp1
    clear hp0 hp1 h8
    have DG:=Lib.hid (show ∀ V,Rdr V R g (bb.drop 1)→Calls Try.prog 91 #[.pointer (some ⟨g,0,none⟩),.int .i64 p] V (DataP V R g d t) from fun V hV=>by rw [HDD.out,HTT.out]; exact data_ok R g p bb V (by omega) hV HBB.out.1 hsz)
    clear hib
    go_wp2_with fail
    refine (IS.out _).mono ?_
    rintro o w' ⟨rfl,rfl⟩
    go_wp2_with fail
    refine FR.out.mono ?_
    rintro o w2 ⟨rfl,hb2⟩
    have RD2:=Lib.hid (HRD.out.below hb2)
    have e9:w2.cell? ⟨H,9,none⟩=some (.slice A q c'):=(hb2.cell (p:=⟨H,9,none⟩) HRD.out.kh.lt).trans d9
    have e10:w2.cell? ⟨H,10,none⟩=some (.int .i64 p):=(hb2.cell (p:=⟨H,10,none⟩) HRD.out.kh.lt).trans d10
    clear hb2
    go_wp2_with fail
    refine (HN1.out _ RD2.out.rd).mono ?_
    rintro o w3 ⟨he,hrd,ho3⟩
    subst he
    have RD3:=Lib.hid (show Rd w R g H L (hdOf l p) (.slice A q c') (bb.drop 1) w3 from RD2.out.els ((Only.g ho3).bel.mono (by omega)) (toEls (Only.g ho3)) hrd)
    have j10:w3.cell? ⟨H,10,none⟩=some (.int .i64 p):=by rw [RD3.out.kh.cell 10,HD.out]; rfl
    clear hrd ho3
    go_wp2_with fail
    refine (DG.out _ RD3.out.rd).mono ?_
    rintro o w4 ⟨dA,dc,rfl,hown,hrd,hb4,he4,hz4⟩
    have RD4:=Lib.hid (show Rd w R g H L (hdOf l p) (.slice A q c') t w4 from RD3.out.els hb4 he4 hrd)
    have OW4:=Lib.hid (own_baseN hown (show H+1≤w3.heap.size from RD3.out.sz))
    have ERR:=Lib.hid (err_gen R g t 0 w4 (Rdr.st hrd))
    have i9:w4.cell? ⟨H,9,none⟩=some (.slice A q c'):=by rw [RD4.out.kh.cell 9,HD.out]; rfl
    have i10:w4.cell? ⟨H,10,none⟩=some (.int .i64 p):=by rw [RD4.out.kh.cell 10,HD.out]; rfl
    clear hown hrd hb4 he4 hz4
    go_wp2_with fail
    refine ERR.out.mono ?_
    rintro o w' ⟨rfl,rfl⟩
    obtain ⟨dn,hdn⟩:∃ dn,dn=d.length:=⟨_,rfl⟩
    have HDN:=Lib.hid hdn
    rw [← hdn] at OW4
    rw [← hdn]
    clear hdn
    obtain ⟨w5,hw5⟩:∃ w5,w5=w4.alloc (.cells #[.int .i64 p,.slice dA dn dc] 118):=⟨_,rfl⟩
    have E5:=Lib.hid hw5
    have BA5:=Lib.hid (show Below w4.heap.size w4 w5 from by rw [hw5]; exact (Below.refl _ _).alloc (Nat.le_refl _) _)
    have LIT:Blk w5 w4.heap.size 118 #[.int .i64 p,.slice dA dn dc]:=by rw [hw5]; exact Blk.new w4 _ _
    have HNEWS:=Lib.hid (show ∀ (i:Nat) (u:Value),([.int .i64 p,.slice dA dn dc]:List Value)[i]?=some u→w5.cell? ((⟨w4.heap.size,0,none⟩:Addr).add i)=some u from by
     intro i u hu
     rw [Addr.add_lit,Nat.zero_add,LIT.cell i,← hu,← Array.getElem?_toList])
    have RD5:=Lib.hid (RD4.out.below BA5.out)
    have OW5:=Lib.hid (own_below2 OW4.out BA5.out)
    have HOX:=Lib.hid (got_row HQ.out RD5.out.got)
    have Y1:=Lib.hid (show q+1≤maxLen by unfold maxLen; omega)
    have Y2:=Lib.hid (show (q+1)*32≤140737488355328 by omega)
    clear hw5 LIT
    go_upto_region 15 with (at_builtin; rw [← E5.out]; refine wpList_append_own _ rfl (.tmp 73) (.tmp 78) _ rfl (H+1) 118 i0 _ 2 32 Try.underlying85 HI0.out HZ0.out HZ1.out HZ2.out rfl (by omega) (.slice A q c') q (flatX L) rfl HOX.out ⟨w4.heap.size,0,none⟩ 1 1 [.int .i64 p,.slice dA dn dc] rfl rfl HNEWS.out (by simp [Value.oneCell']) Y1.out Y2.out RD5.out.sz ?_; intro va wa owna ga _; have HBl:=Lib.hid ((Below.refl (H+1) w5).grown ga RD5.out.sz (fun k hk=>(HOX.out.lt k hk).1)); have HGa:=Lib.hid (show GotX wa (H+1) va (L++[⟨p,dA,dc,d⟩]) from more_ext HQ.out HDN.out RD5.out.got OW5.out owna ga); obtain ⟨Aa,ca,hva⟩:=own_sliceN owna; subst hva; have KHa:=Lib.hid (RD5.out.kh.below HBl.out (Nat.lt_succ_self _)); have b9:=KHa.out.cell 9; have b10:=KHa.out.cell 10; have g9:=KHa.out.frozen 9; have g10:=KHa.out.frozen 10; clear owna ga)
    have RDZ:=Lib.hid (rd_next kd RD5.out HBl.out HGa.out HQ.out)
    have b11:=(KHa.out.set_ 9 (.slice Aa (q+1) ca)).cell 10
    have g11:=(KHa.out.set_ 9 (.slice Aa (q+1) ca)).frozen 10
    have HEZ:=Lib.hid (show extN ((wa.setCell ⟨H,9,none⟩ (.slice Aa (q+1) ca)).setCell ⟨H,10,none⟩ (.int .i64 kd)) H=q+1 from by
     unfold extN
     rw [((KHa.out.set_ 9 (.slice Aa (q+1) ca)).set_ 10 (.int .i64 kd)).cell 9]
     rfl)
    have HLL:=Lib.hid (show (L++[(⟨p,dA,dc,d⟩:Xt)]).length=q+1 from by rw [List.length_append,HQ.out]; rfl)
    have HCZ:=Lib.hid (show chn (9 - (L++[(⟨p,dA,dc,d⟩:Xt)]).length) ((L++[(⟨p,dA,dc,d⟩:Xt)]).map Xt.re) kd t=ch from by
     rw [HLL.out,show 9 - (q+1)=f by omega,List.map_append]
     exact HCX.out)
    have HUZ:=Lib.hid (show ∀ e ∈ (L++[(⟨p,dA,dc,d⟩:Xt)]),U8 e.d from fun e he=>by
     rcases List.mem_append.mp he with h | h
     ·exact HUE.out e h
     ·rw [List.mem_singleton.mp h]; exact HUD.out.1)
    go_wp2_with fail
    go_roundw
    case rel=>exact ⟨_,kd,Aa,ca,t,by rw [HLL.out]; omega,kd1,RDZ,HCZ,Lib.hid HUD.out.2,HUZ⟩
    case measure =>
     show 9 - extN ((wa.setCell ⟨H,9,none⟩ (.slice Aa (q+1) ca)).setCell ⟨H,10,none⟩ (.int .i64 kd)) H<9 - extN wr H
     rw [HEX.out,HEZ.out]
     omega
end Go.Proofs.Ytnofddbfogilaaa.sixE
