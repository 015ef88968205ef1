/- 2 texts in one. -/
import Derived.Deep.QuietTactic
import Derived.BigQuiet
import Derived.Test.YtnofddbfogilaaaGq11
/- Layer 9: Quote, Parse. -/
namespace Go.Proofs.Ytnofddbfogilaaa.sixF
set_option maxHeartbeats 4000000
set_option maxRecDepth 100000
open Go.ChangeShapes Go.WideShapes Go.ChangeAt Go.RowKit
open base octA rdrA rdrG sumB udpA tcpC sixW sixM sixA sixC sixD sixE
set_option linter.unusedVariables false
abbrev Res:=Int ⊕ (List XP × Int × List Int)
def ofC (c:Option (List XP × Int × List Int)):Res:=match c with
 | none=>.inl 11
 | some r=>.inr r
def sixQ (l:List Int):Res:=if l.length<40 then .inl 2 else if l.getD 0 0 / 16≠6 then .inl 10 else ofC (chn 9 [] (l.getD 6 0) (l.drop 40))
def sizeP (l:List Int):Nat:=(256*l.getD 4 0+l.getD 5 0).toNat
def sixP (l:List Int):Res:=if l.length<40 then .inl 2 else if l.getD 0 0 / 16≠6 then .inl 10 else if l.length - 40<sizeP l then .inl 12 else ofC (chn 9 [] (l.getD 6 0) ((l.take (40+sizeP l)).drop 40))
def HeadP (w:World) (l:List Int) (res:Res) (o:Ending) (w':World):Prop :=
 Below w.heap.size w w'∧((∃ e,res=.inl e∧o=.returned (.tuple #[.agg #[.int .i64 0,.int .i64 0,.int .i64 0,.bool false,.int .u64 0,.int .u64 0,.bool false,.int .u64 0,.int .u64 0,.slice none 0 0,.int .i64 0],.slice none 0 0,.int .i64 e])) ∨
  ∃ ys q r,res=.inr (ys,q,r)∧∃ L A c v,o=.returned (.tuple #[.agg ((hdOf l q).cells (.slice A ys.length c)),v,.int .i64 0])∧L.map Xt.re=ys∧GotX w' w.heap.size (.slice A ys.length c) L∧w'.ownsRow w.heap.size 5 1 v r.length (r.map (.int .u8)))
theorem getD_take (l:List Int) (n i:Nat) (h:i<n):(l.take n).getD i 0=l.getD i 0:=by
 rw [List.getD_eq_getElem?_getD,List.getD_eq_getElem?_getD,List.getElem?_take,if_pos h]
theorem hdOf_take (l:List Int) (n:Nat) (h:40≤n) (q:Int):hdOf (l.take n) q=hdOf l q:=by
 have e:∀ m,m≤24→(l.take n).drop m=(l.drop m).take (n - m):=fun m hm=>List.drop_take
 unfold hdOf w32 w16
 rw [e 8 (by omega),e 24 (by omega),atN_part _ 0 (n - 8) 8 (by omega),atN_part _ 8 (n - 8) 8 (by omega),atN_part _ 0 (n - 24) 8 (by omega),atN_part _ 8 (n - 24) 8 (by omega)]
 simp only [getD_take l n _ (show 0<n by omega),getD_take l n _ (show 0+1<n by omega),getD_take l n _ (show 0+2<n by omega),getD_take l n _ (show 0+2+1<n by omega),getD_take l n 7 (by omega)]
theorem slice_to (b off n c t:Nat) (ht:t≤c) (hc:0<c) :
  (∀ W:World,(Instr.slice 47 (.slice (some ⟨b,off,none⟩) n c) none (some (.int .i64 (t:Int))) none).run Try.prog W=.ok (.slice (some ⟨b,off,none⟩) t c) W) ∧
  (∀ W:World,(Instr.sliceAt 47 (.slice (some ⟨b,off,none⟩) n c) none (some (.int .i64 (t:Int))) none).run Try.prog W=.ok (.slice (some ⟨b,off,none⟩) t c) W):=by
 have hu:Try.prog.underlying 47=some (.slice (Try.prog.elem 47)):=by kernel_rfl
 have hz:∀ W:World,(sizeOf (Try.prog.elem 47)).run Try.prog W=.ok 1 W:=fun _=>by kernel_rfl
 have key:∀ W:World,(Instr.slice 47 (.slice (some ⟨b,off,none⟩) n c) none (some (.int .i64 (t:Int))) none).run Try.prog W=.ok (.slice (some ⟨b,off,none⟩) t c) W:=by
  intro W
  rw [run_slice_h W 47 (some ⟨b,off,none⟩) n c hu .i64 (t:Int) (by omega) (by omega),hz]
  simp only [Result.andThen,sliced,Int.toNat_natCast,Nat.mul_one,Option.map_some,Nat.sub_zero,Addr.add_lit,Nat.add_zero]
  split <;> rfl
 exact ⟨key,fun W=>by rw [run_sliceAt_slice W 47 _ _ _ _ hu,key]⟩
theorem quote_short (A:Option Addr) (n c:Nat) (l:List Int) (w:World) (hl:l.length=n) (hn:n<40) :
  Calls Try.prog 103 #[.slice A n c] w (HeadP w l (sixQ l)):=by
 obtain ⟨w1,hw1⟩:∃ w1,w1=w.alloc (.cells #[.int .i64 0,.int .i64 0,.int .i64 0,.bool false,.int .u64 0,.int .u64 0,.bool false,.int .u64 0,.int .u64 0,.slice none 0 0,.int .i64 0] 87):=⟨_,rfl⟩
 have E1:=Lib.hid hw1
 have BA1:=Lib.hid (show Below w.heap.size w w1 from by rw [hw1]; exact (Below.refl _ _).alloc (Nat.le_refl _) _)
 have KR1:=Lib.hid (show Blk w1 w.heap.size 87 #[.int .i64 0,.int .i64 0,.int .i64 0,.bool false,.int .u64 0,.int .u64 0,.bool false,.int .u64 0,.int .u64 0,.slice none 0 0,.int .i64 0] from by rw [hw1]; exact Blk.new w _ _)
 have SZ1:=Lib.hid (show w1.heap.size=w.heap.size+1 from by rw [hw1]; simp)
 have HBG:=Lib.hid (begin_short A n c w1 hn)
 have HRES:=Lib.hid (show sixQ l=.inl 2 from by unfold sixQ; rw [if_pos (by omega)])
 clear hw1 hl hn
 go_enter Try.func103,Try.ntmps103
 go_wp2_with fail
 rw [← E1.out]
 refine HBG.out.mono ?_
 rintro o w' ⟨rfl,rfl⟩
 have r0:=KR1.out.cell 0
 have r1:=KR1.out.cell 1
 have r2:=KR1.out.cell 2
 have r3:=KR1.out.cell 3
 have r4:=KR1.out.cell 4
 have r5:=KR1.out.cell 5
 have r6:=KR1.out.cell 6
 have r7:=KR1.out.cell 7
 have r8:=KR1.out.cell 8
 have r9:=KR1.out.cell 9
 have r10:=KR1.out.cell 10
 have z0:=KR1.out.frozen 0
 have z1:=KR1.out.frozen 1
 have z2:=KR1.out.frozen 2
 have z3:=KR1.out.frozen 3
 have z4:=KR1.out.frozen 4
 have z5:=KR1.out.frozen 5
 have z6:=KR1.out.frozen 6
 have z7:=KR1.out.frozen 7
 have z8:=KR1.out.frozen 8
 have z9:=KR1.out.frozen 9
 have z10:=KR1.out.frozen 10
 go_wp2_with fail
 refine bodyPost_ret (results_read rfl _ _ w.heap.size #[.int .i64 0,.int .i64 0,.int .i64 0,.bool false,.int .u64 0,.int .u64 0,.bool false,.int .u64 0,.int .u64 0,.slice none 0 0,.int .i64 0] rfl (zstore w1 w.heap.size KR1.out) rfl) rfl ?_
 exact ⟨BA1.out.trans (zbelow w1 w.heap.size w.heap.size (Nat.le_refl _)),.inl ⟨2,HRES.out,rfl⟩⟩
theorem parse_short (A:Option Addr) (n c:Nat) (l:List Int) (w:World) (hl:l.length=n) (hn:n<40) :
  Calls Try.prog 47 #[.slice A n c] w (HeadP w l (sixP l)):=by
 obtain ⟨w1,hw1⟩:∃ w1,w1=w.alloc (.cells #[.int .i64 0,.int .i64 0,.int .i64 0,.bool false,.int .u64 0,.int .u64 0,.bool false,.int .u64 0,.int .u64 0,.slice none 0 0,.int .i64 0] 87):=⟨_,rfl⟩
 have E1:=Lib.hid hw1
 have BA1:=Lib.hid (show Below w.heap.size w w1 from by rw [hw1]; exact (Below.refl _ _).alloc (Nat.le_refl _) _)
 have KR1:=Lib.hid (show Blk w1 w.heap.size 87 #[.int .i64 0,.int .i64 0,.int .i64 0,.bool false,.int .u64 0,.int .u64 0,.bool false,.int .u64 0,.int .u64 0,.slice none 0 0,.int .i64 0] from by rw [hw1]; exact Blk.new w _ _)
 have SZ1:=Lib.hid (show w1.heap.size=w.heap.size+1 from by rw [hw1]; simp)
 have HBG:=Lib.hid (begin_short A n c w1 hn)
 have HRES:=Lib.hid (show sixP l=.inl 2 from by unfold sixP; rw [if_pos (by omega)])
 clear hw1 hl hn
 go_enter Try.func47,Try.ntmps47
 go_wp2_with fail
 rw [← E1.out]
 refine HBG.out.mono ?_
 rintro o w' ⟨rfl,rfl⟩
 have r0:=KR1.out.cell 0
 have r1:=KR1.out.cell 1
 have r2:=KR1.out.cell 2
 have r3:=KR1.out.cell 3
 have r4:=KR1.out.cell 4
 have r5:=KR1.out.cell 5
 have r6:=KR1.out.cell 6
 have r7:=KR1.out.cell 7
 have r8:=KR1.out.cell 8
 have r9:=KR1.out.cell 9
 have r10:=KR1.out.cell 10
 have z0:=KR1.out.frozen 0
 have z1:=KR1.out.frozen 1
 have z2:=KR1.out.frozen 2
 have z3:=KR1.out.frozen 3
 have z4:=KR1.out.frozen 4
 have z5:=KR1.out.frozen 5
 have z6:=KR1.out.frozen 6
 have z7:=KR1.out.frozen 7
 have z8:=KR1.out.frozen 8
 have z9:=KR1.out.frozen 9
 have z10:=KR1.out.frozen 10
 go_wp2_with fail
 refine bodyPost_ret (results_read rfl _ _ w.heap.size #[.int .i64 0,.int .i64 0,.int .i64 0,.bool false,.int .u64 0,.int .u64 0,.bool false,.int .u64 0,.int .u64 0,.slice none 0 0,.int .i64 0] rfl (zstore w1 w.heap.size KR1.out) rfl) rfl ?_
 exact ⟨BA1.out.trans (zbelow w1 w.heap.size w.heap.size (Nat.le_refl _)),.inl ⟨2,HRES.out,rfl⟩⟩
theorem quote_vers (b off n c:Nat) (l:List Int) (w:World) (hl:l.length=n) (hn:40≤n) (hb:b<w.heap.size) (hs:Lies w b off l) (hx:U8 l) (hv:l.getD 0 0 / 16≠6) :
  Calls Try.prog 103 #[.slice (some ⟨b,off,none⟩) n c] w (HeadP w l (sixQ l)):=by
 obtain ⟨w1,hw1⟩:∃ w1,w1=w.alloc (.cells #[.int .i64 0,.int .i64 0,.int .i64 0,.bool false,.int .u64 0,.int .u64 0,.bool false,.int .u64 0,.int .u64 0,.slice none 0 0,.int .i64 0] 87):=⟨_,rfl⟩
 have E1:=Lib.hid hw1
 have BA1:=Lib.hid (show Below w.heap.size w w1 from by rw [hw1]; exact (Below.refl _ _).alloc (Nat.le_refl _) _)
 have KR1:=Lib.hid (show Blk w1 w.heap.size 87 #[.int .i64 0,.int .i64 0,.int .i64 0,.bool false,.int .u64 0,.int .u64 0,.bool false,.int .u64 0,.int .u64 0,.slice none 0 0,.int .i64 0] from by rw [hw1]; exact Blk.new w _ _)
 have SZ1:=Lib.hid (show w1.heap.size=w.heap.size+1 from by rw [hw1]; simp)
 have HBG:=Lib.hid (begin_any b off n c l w1 hl hn (by have:=SZ1.out; omega) (hs.below BA1.out hb) hx)
 rw [if_neg hv] at HBG
 have HRES:=Lib.hid (show sixQ l=.inl 10 from by unfold sixQ; rw [if_neg (by omega),if_pos hv])
 clear hw1 hl hn hs hx hv hb
 go_enter Try.func103,Try.ntmps103
 go_wp2_with fail
 rw [← E1.out]
 refine HBG.out.mono ?_
 rintro o w' ⟨rfl,rfl⟩
 have r0:=KR1.out.cell 0
 have r1:=KR1.out.cell 1
 have r2:=KR1.out.cell 2
 have r3:=KR1.out.cell 3
 have r4:=KR1.out.cell 4
 have r5:=KR1.out.cell 5
 have r6:=KR1.out.cell 6
 have r7:=KR1.out.cell 7
 have r8:=KR1.out.cell 8
 have r9:=KR1.out.cell 9
 have r10:=KR1.out.cell 10
 have z0:=KR1.out.frozen 0
 have z1:=KR1.out.frozen 1
 have z2:=KR1.out.frozen 2
 have z3:=KR1.out.frozen 3
 have z4:=KR1.out.frozen 4
 have z5:=KR1.out.frozen 5
 have z6:=KR1.out.frozen 6
 have z7:=KR1.out.frozen 7
 have z8:=KR1.out.frozen 8
 have z9:=KR1.out.frozen 9
 have z10:=KR1.out.frozen 10
 go_wp2_with fail
 refine bodyPost_ret (results_read rfl _ _ w.heap.size #[.int .i64 0,.int .i64 0,.int .i64 0,.bool false,.int .u64 0,.int .u64 0,.bool false,.int .u64 0,.int .u64 0,.slice none 0 0,.int .i64 0] rfl (zstore w1 w.heap.size KR1.out) rfl) rfl ?_
 exact ⟨BA1.out.trans (zbelow w1 w.heap.size w.heap.size (Nat.le_refl _)),.inl ⟨10,HRES.out,rfl⟩⟩
theorem quote_ok (b off n c:Nat) (l:List Int) (w:World) (hl:l.length=n) (hn:40≤n) (hn2:n≤100000) (hnc:n≤c) (hc:c≤9223372036854775807) (hb:b<w.heap.size) (hs:Lies w b off l) (hx:U8 l) (hv:l.getD 0 0 / 16=6) :
  Calls Try.prog 103 #[.slice (some ⟨b,off,none⟩) n c] w (HeadP w l (sixQ l)):=by
 obtain ⟨w1,hw1⟩:∃ w1,w1=w.alloc (.cells #[.int .i64 0,.int .i64 0,.int .i64 0,.bool false,.int .u64 0,.int .u64 0,.bool false,.int .u64 0,.int .u64 0,.slice none 0 0,.int .i64 0] 87):=⟨_,rfl⟩
 have E1:=Lib.hid hw1
 have BA1:=Lib.hid (show Below w.heap.size w w1 from by rw [hw1]; exact (Below.refl _ _).alloc (Nat.le_refl _) _)
 have KR1:=Lib.hid (show Blk w1 w.heap.size 87 #[.int .i64 0,.int .i64 0,.int .i64 0,.bool false,.int .u64 0,.int .u64 0,.bool false,.int .u64 0,.int .u64 0,.slice none 0 0,.int .i64 0] from by rw [hw1]; exact Blk.new w _ _)
 have SZ1:=Lib.hid (show w1.heap.size=w.heap.size+1 from by rw [hw1]; simp)
 have HBG:=Lib.hid (begin_any b off n c l w1 hl hn (by have:=SZ1.out; omega) (hs.below BA1.out hb) hx)
 rw [if_pos hv] at HBG
 have HQ:=Lib.hid (show sixQ l=ofC (chn 9 [] (l.getD 6 0) (l.drop 40)) from by unfold sixQ; rw [if_neg (by omega),if_neg (by omega)])
 have HR11:=Lib.hid (show chn 9 [] (l.getD 6 0) (l.drop 40)=none→sixQ l=.inl 11 from fun h=>by rw [HQ.out,h]; rfl)
 have HR0:=Lib.hid (show ∀ ys q r,chn 9 [] (l.getD 6 0) (l.drop 40)=some (ys,q,r)→sixQ l=.inr (ys,q,r) from fun ys q r h=>by rw [HQ.out,h]; rfl)
 have HRD:=Lib.hid (sixE.read_any b off n c l w1 hl hn hn2 hnc hc (by have:=SZ1.out; omega) (hs.below BA1.out hb) hx)
 clear hw1 hl hn hn2 hnc hc hs hx hv hb
 go_enter Try.func103,Try.ntmps103
 go_wp2_with fail
 rw [← E1.out]
 refine HBG.out.mono ?_
 rintro o w' ⟨rfl,rfl⟩
 go_wp2_with fail
 refine HRD.out.mono ?_
 rintro o w2 ⟨hb2,hrp⟩
 rcases hrp with ⟨hcn,rfl⟩ | ⟨ys,q,r,hcs,L,A,c2,v,rfl,hre,hgx,how⟩
 ·have HRES:=Lib.hid (HR11.out hcn)
  have B2:=Lib.hid (BA1.out.trans (hb2.mono (by have:=SZ1.out; omega)))
  have KR2:=Lib.hid (KR1.out.below hb2 (by have:=SZ1.out; omega))
  clear hcn hb2
  have r0:=KR2.out.cell 0
  have r1:=KR2.out.cell 1
  have r2:=KR2.out.cell 2
  have r3:=KR2.out.cell 3
  have r4:=KR2.out.cell 4
  have r5:=KR2.out.cell 5
  have r6:=KR2.out.cell 6
  have r7:=KR2.out.cell 7
  have r8:=KR2.out.cell 8
  have r9:=KR2.out.cell 9
  have r10:=KR2.out.cell 10
  have z0:=KR2.out.frozen 0
  have z1:=KR2.out.frozen 1
  have z2:=KR2.out.frozen 2
  have z3:=KR2.out.frozen 3
  have z4:=KR2.out.frozen 4
  have z5:=KR2.out.frozen 5
  have z6:=KR2.out.frozen 6
  have z7:=KR2.out.frozen 7
  have z8:=KR2.out.frozen 8
  have z9:=KR2.out.frozen 9
  have z10:=KR2.out.frozen 10
  go_wp2_with fail
  refine bodyPost_ret (results_read rfl _ _ w.heap.size #[.int .i64 0,.int .i64 0,.int .i64 0,.bool false,.int .u64 0,.int .u64 0,.bool false,.int .u64 0,.int .u64 0,.slice none 0 0,.int .i64 0] rfl (zstore w2 w.heap.size KR2.out) rfl) rfl ?_
  exact ⟨B2.out.trans (zbelow w2 w.heap.size w.heap.size (Nat.le_refl _)),.inl ⟨11,HRES.out,rfl⟩⟩
 ·have HRES:=Lib.hid (HR0.out ys q r hcs)
  have B2:=Lib.hid (BA1.out.trans (hb2.mono (by have:=SZ1.out; omega)))
  have KR2:=Lib.hid (KR1.out.below hb2 (by have:=SZ1.out; omega))
  have ON:=Lib.hid (fun v0 v1 v2 v3 v4 v5 v6 v7 v8 v9 v10=>honly w2 w.heap.size v0 v1 v2 v3 v4 v5 v6 v7 v8 v9 v10)
  have ST:=Lib.hid (fun v0 v1 v2 v3 v4 v5 v6 v7 v8 v9 v10=>hstore w2 w.heap.size v0 v1 v2 v3 v4 v5 v6 v7 v8 v9 v10 (.int .i64 0) (.int .i64 0) (.int .i64 0) (.bool false) (.int .u64 0) (.int .u64 0) (.bool false) (.int .u64 0) (.int .u64 0) (.slice none 0 0) (.int .i64 0) KR2.out)
  have GX:=Lib.hid (show ∀ W,OnlyG w.heap.size w2 W→GotX W w.heap.size (.slice A ys.length c2) L from fun W h=>(hgx.els_ (by have:=SZ1.out; omega) (toEls h)).base (by have:=SZ1.out; omega))
  have OW:=Lib.hid (show ∀ W,OnlyG w.heap.size w2 W→W.ownsRow w.heap.size 5 1 v r.length (r.map (.int .u8)) from fun W h=>own_base (own_els how (by have:=SZ1.out; omega) (toEls h)) (by have:=SZ1.out; omega))
  have HRE:=Lib.hid hre
  have HHD:=Lib.hid (show hdOf l q=hdOf l q from rfl)
  obtain ⟨x0,x1,x2,x3,x4,x5,x6,x7,x8,x9,hx⟩:∃ x0 x1 x2 x3 x4 x5 x6 x7 x8 x9,hdOf l q=⟨x0,x1,x2,x3,x4,x5,x6,x7,x8,x9⟩:=⟨_,_,_,_,_,_,_,_,_,_,rfl⟩
  have HXX:=Lib.hid hx
  rw [hx]
  have HCE:∀ V,Hs.cells ⟨x0,x1,x2,x3,x4,x5,x6,x7,x8,x9⟩ V=#[.int .i64 x0,.int .i64 x1,.int .i64 x2,.bool x3,.int .u64 x4,.int .u64 x5,.bool x6,.int .u64 x7,.int .u64 x8,V,.int .i64 x9]:=fun V=>rfl
  rw [HCE]
  clear HCE
  obtain ⟨ny,hny⟩:∃ ny,ny=ys.length:=⟨_,rfl⟩
  have HNY:=Lib.hid hny
  rw [← hny]
  clear hcs hb2 hre hgx how hx hny
  have r0:=KR2.out.cell 0
  have r1:=KR2.out.cell 1
  have r2:=KR2.out.cell 2
  have r3:=KR2.out.cell 3
  have r4:=KR2.out.cell 4
  have r5:=KR2.out.cell 5
  have r6:=KR2.out.cell 6
  have r7:=KR2.out.cell 7
  have r8:=KR2.out.cell 8
  have r9:=KR2.out.cell 9
  have r10:=KR2.out.cell 10
  have z0:=KR2.out.frozen 0
  have z1:=KR2.out.frozen 1
  have z2:=KR2.out.frozen 2
  have z3:=KR2.out.frozen 3
  have z4:=KR2.out.frozen 4
  have z5:=KR2.out.frozen 5
  have z6:=KR2.out.frozen 6
  have z7:=KR2.out.frozen 7
  have z8:=KR2.out.frozen 8
  have z9:=KR2.out.frozen 9
  have z10:=KR2.out.frozen 10
  go_wp2_with fail
  have KZ:=ST.out (.int .i64 x0) (.int .i64 x1) (.int .i64 x2) (.bool x3) (.int .u64 x4) (.int .u64 x5) (.bool x6) (.int .u64 x7) (.int .u64 x8) (.slice A ny c2) (.int .i64 x9)
  have OZ:=ON.out (.int .i64 x0) (.int .i64 x1) (.int .i64 x2) (.bool x3) (.int .u64 x4) (.int .u64 x5) (.bool x6) (.int .u64 x7) (.int .u64 x8) (.slice A ny c2) (.int .i64 x9)
  refine bodyPost_ret (results_read rfl _ _ w.heap.size _ rfl KZ rfl) rfl ?_
  refine ⟨B2.out.trans OZ.bel,.inr ⟨ys,q,r,HRES.out,L,A,c2,v,?_,HRE.out,GX.out _ OZ,OW.out _ OZ⟩⟩
  rw [HXX.out,← HNY.out]
  rfl
theorem parse_ok (b off n c:Nat) (l:List Int) (w:World) (hl:l.length=n) (hn:40≤n) (hn2:n≤100000) (hnc:n≤c) (hc:c≤9223372036854775807) (hb:b<w.heap.size) (hs:Lies w b off l) (hx:U8 l) (hv:l.getD 0 0 / 16=6) :
  Calls Try.prog 47 #[.slice (some ⟨b,off,none⟩) n c] w (HeadP w l (sixP l)):=by
 obtain ⟨w1,hw1⟩:∃ w1,w1=w.alloc (.cells #[.int .i64 0,.int .i64 0,.int .i64 0,.bool false,.int .u64 0,.int .u64 0,.bool false,.int .u64 0,.int .u64 0,.slice none 0 0,.int .i64 0] 87):=⟨_,rfl⟩
 have E1:=Lib.hid hw1
 have BA1:=Lib.hid (show Below w.heap.size w w1 from by rw [hw1]; exact (Below.refl _ _).alloc (Nat.le_refl _) _)
 have KR1:=Lib.hid (show Blk w1 w.heap.size 87 #[.int .i64 0,.int .i64 0,.int .i64 0,.bool false,.int .u64 0,.int .u64 0,.bool false,.int .u64 0,.int .u64 0,.slice none 0 0,.int .i64 0] from by rw [hw1]; exact Blk.new w _ _)
 have SZ1:=Lib.hid (show w1.heap.size=w.heap.size+1 from by rw [hw1]; simp)
 have HBG:=Lib.hid (begin_any b off n c l w1 hl hn (by have:=SZ1.out; omega) (hs.below BA1.out hb) hx)
 rw [if_pos hv] at HBG
 have HAT:=Lib.hid (at_2 4 (some ⟨b,off,none⟩) n c l w1 hl (by omega) hnc hc (by intro h; cases h) ((hs.below BA1.out hb).row (by have:=SZ1.out; omega)) hx (by omega))
 have g4:=hx.get 4
 have g5:0≤l.getD (4+1) 0∧l.getD (4+1) 0≤255:=hx.get 5
 obtain ⟨s,hs4⟩:∃ s,s=sizeP l:=⟨_,rfl⟩
 have e4:256*l.getD 4 0+l.getD (4+1) 0=(s:Int):=by rw [hs4]; unfold sizeP; show 256*l.getD 4 0+l.getD (4+1) 0=(((256*l.getD 4 0+l.getD (4+1) 0).toNat:Nat):Int); omega
 have hs6:s≤65535:=by omega
 rw [e4] at HAT
 have ws:IntKind.i64.wrap (s:Int)=(s:Int):=IntWalk.i64_in _ (by omega)
 have wn:IntKind.i64.wrap ((n:Int) - 40)=(n:Int) - 40:=IntWalk.i64_in _ (by omega)
 have ws4:IntKind.i64.wrap (40+(s:Int))=40+(s:Int):=IntWalk.i64_in _ (by omega)
 by_cases hlt:n - 40<s
 ·have t:decide ((n:Int) - 40<(s:Int))=true:=decide_eq_true (by omega)
  have HRES:=Lib.hid (show sixP l=.inl 12 from by unfold sixP; rw [if_neg (by omega),if_neg (by omega),← hs4,if_pos (by omega)])
  clear hw1 hl hs hx hv e4 g4 g5 hs4 hlt
  go_enter Try.func47,Try.ntmps47
  go_wp2_with fail
  rw [← E1.out]
  refine HBG.out.mono ?_
  rintro o w' ⟨rfl,rfl⟩
  go_wp2_with fail
  refine HAT.out.mono ?_
  rintro o w' ⟨rfl,rfl⟩
  have r0:=KR1.out.cell 0
  have r1:=KR1.out.cell 1
  have r2:=KR1.out.cell 2
  have r3:=KR1.out.cell 3
  have r4:=KR1.out.cell 4
  have r5:=KR1.out.cell 5
  have r6:=KR1.out.cell 6
  have r7:=KR1.out.cell 7
  have r8:=KR1.out.cell 8
  have r9:=KR1.out.cell 9
  have r10:=KR1.out.cell 10
  have z0:=KR1.out.frozen 0
  have z1:=KR1.out.frozen 1
  have z2:=KR1.out.frozen 2
  have z3:=KR1.out.frozen 3
  have z4:=KR1.out.frozen 4
  have z5:=KR1.out.frozen 5
  have z6:=KR1.out.frozen 6
  have z7:=KR1.out.frozen 7
  have z8:=KR1.out.frozen 8
  have z9:=KR1.out.frozen 9
  have z10:=KR1.out.frozen 10
  go_wp2_with fail
  refine bodyPost_ret (results_read rfl _ _ w.heap.size #[.int .i64 0,.int .i64 0,.int .i64 0,.bool false,.int .u64 0,.int .u64 0,.bool false,.int .u64 0,.int .u64 0,.slice none 0 0,.int .i64 0] rfl (zstore w1 w.heap.size KR1.out) rfl) rfl ?_
  exact ⟨BA1.out.trans (zbelow w1 w.heap.size w.heap.size (Nat.le_refl _)),.inl ⟨12,HRES.out,rfl⟩⟩
 ·have t:decide ((n:Int) - 40<(s:Int))=false:=decide_eq_false (by omega)
  have HQ:=Lib.hid (show sixP l=ofC (chn 9 [] (l.getD 6 0) ((l.take (40+s)).drop 40)) from by unfold sixP; rw [if_neg (by omega),if_neg (by omega),← hs4,if_neg (by omega)])
  have e6:(l.take (40+s)).getD 6 0=l.getD 6 0:=getD_take l _ 6 (by omega)
  have HR11:=Lib.hid (show chn 9 [] ((l.take (40+s)).getD 6 0) ((l.take (40+s)).drop 40)=none→sixP l=.inl 11 from fun h=>by rw [e6] at h; rw [HQ.out,h]; rfl)
  have HR0:=Lib.hid (show ∀ ys q r,chn 9 [] ((l.take (40+s)).getD 6 0) ((l.take (40+s)).drop 40)=some (ys,q,r)→sixP l=.inr (ys,q,r) from fun ys q r h=>by rw [e6] at h; rw [HQ.out,h]; rfl)
  have HRD:=Lib.hid (sixE.read_any b off (40+s) c (l.take (40+s)) w1 (by rw [List.length_take]; omega) (by omega) (by omega) (by omega) hc (by have:=SZ1.out; omega) ((hs.below BA1.out hb).take _) (hx.take _))
  obtain ⟨r1,r2⟩:=slice_to b off n c (40+s) (by omega) (by omega)
  rw [show (((40+s:Nat)):Int)=40+(s:Int) by omega] at r1 r2
  have u1:(0:Int)≤40+(s:Int):=by omega
  have u2:40+(s:Int)≤(c:Int):=by omega
  clear hw1 hl hs hx hv hb e4 g4 g5 hs4 e6
  go_enter Try.func47,Try.ntmps47
  go_wp2_with fail
  rw [← E1.out]
  refine HBG.out.mono ?_
  rintro o w' ⟨rfl,rfl⟩
  go_wp2_with fail
  refine HAT.out.mono ?_
  rintro o w' ⟨rfl,rfl⟩
  go_wp2_with fail
  refine HRD.out.mono ?_
  rintro o w2 ⟨hb2,hrp⟩
  clear r1 r2
  rcases hrp with ⟨hcn,rfl⟩ | ⟨ys,q,r,hcs,L,A,c2,v,rfl,hre,hgx,how⟩
  ·have HRES:=Lib.hid (HR11.out hcn)
   have B2:=Lib.hid (BA1.out.trans (hb2.mono (by have:=SZ1.out; omega)))
   have KR2:=Lib.hid (KR1.out.below hb2 (by have:=SZ1.out; omega))
   clear hcn hb2
   have r0:=KR2.out.cell 0
   have r1:=KR2.out.cell 1
   have r2:=KR2.out.cell 2
   have r3:=KR2.out.cell 3
   have r4:=KR2.out.cell 4
   have r5:=KR2.out.cell 5
   have r6:=KR2.out.cell 6
   have r7:=KR2.out.cell 7
   have r8:=KR2.out.cell 8
   have r9:=KR2.out.cell 9
   have r10:=KR2.out.cell 10
   have z0:=KR2.out.frozen 0
   have z1:=KR2.out.frozen 1
   have z2:=KR2.out.frozen 2
   have z3:=KR2.out.frozen 3
   have z4:=KR2.out.frozen 4
   have z5:=KR2.out.frozen 5
   have z6:=KR2.out.frozen 6
   have z7:=KR2.out.frozen 7
   have z8:=KR2.out.frozen 8
   have z9:=KR2.out.frozen 9
   have z10:=KR2.out.frozen 10
   go_wp2_with fail
   refine bodyPost_ret (results_read rfl _ _ w.heap.size #[.int .i64 0,.int .i64 0,.int .i64 0,.bool false,.int .u64 0,.int .u64 0,.bool false,.int .u64 0,.int .u64 0,.slice none 0 0,.int .i64 0] rfl (zstore w2 w.heap.size KR2.out) rfl) rfl ?_
   exact ⟨B2.out.trans (zbelow w2 w.heap.size w.heap.size (Nat.le_refl _)),.inl ⟨11,HRES.out,rfl⟩⟩
  ·have HRES:=Lib.hid (HR0.out ys q r hcs)
   have B2:=Lib.hid (BA1.out.trans (hb2.mono (by have:=SZ1.out; omega)))
   have KR2:=Lib.hid (KR1.out.below hb2 (by have:=SZ1.out; omega))
   have ON:=Lib.hid (fun v0 v1 v2 v3 v4 v5 v6 v7 v8 v9 v10=>honly w2 w.heap.size v0 v1 v2 v3 v4 v5 v6 v7 v8 v9 v10)
   have ST:=Lib.hid (fun v0 v1 v2 v3 v4 v5 v6 v7 v8 v9 v10=>hstore w2 w.heap.size v0 v1 v2 v3 v4 v5 v6 v7 v8 v9 v10 (.int .i64 0) (.int .i64 0) (.int .i64 0) (.bool false) (.int .u64 0) (.int .u64 0) (.bool false) (.int .u64 0) (.int .u64 0) (.slice none 0 0) (.int .i64 0) KR2.out)
   have GX:=Lib.hid (show ∀ W,OnlyG w.heap.size w2 W→GotX W w.heap.size (.slice A ys.length c2) L from fun W h=>(hgx.els_ (by have:=SZ1.out; omega) (toEls h)).base (by have:=SZ1.out; omega))
   have OW:=Lib.hid (show ∀ W,OnlyG w.heap.size w2 W→W.ownsRow w.heap.size 5 1 v r.length (r.map (.int .u8)) from fun W h=>own_base (own_els how (by have:=SZ1.out; omega) (toEls h)) (by have:=SZ1.out; omega))
   have HRE:=Lib.hid hre
   have HHD:=Lib.hid (show hdOf (l.take (40+s)) q=hdOf l q from hdOf_take l _ (by omega) q)
   obtain ⟨x0,x1,x2,x3,x4,x5,x6,x7,x8,x9,hx⟩:∃ x0 x1 x2 x3 x4 x5 x6 x7 x8 x9,hdOf (l.take (40+s)) q=⟨x0,x1,x2,x3,x4,x5,x6,x7,x8,x9⟩:=⟨_,_,_,_,_,_,_,_,_,_,rfl⟩
   have HXX:=Lib.hid hx
   rw [hx]
   have HCE:∀ V,Hs.cells ⟨x0,x1,x2,x3,x4,x5,x6,x7,x8,x9⟩ V=#[.int .i64 x0,.int .i64 x1,.int .i64 x2,.bool x3,.int .u64 x4,.int .u64 x5,.bool x6,.int .u64 x7,.int .u64 x8,V,.int .i64 x9]:=fun V=>rfl
   rw [HCE]
   clear HCE
   obtain ⟨ny,hny⟩:∃ ny,ny=ys.length:=⟨_,rfl⟩
   have HNY:=Lib.hid hny
   rw [← hny]
   clear hcs hb2 hre hgx how hx hny
   have r0:=KR2.out.cell 0
   have r1:=KR2.out.cell 1
   have r2:=KR2.out.cell 2
   have r3:=KR2.out.cell 3
   have r4:=KR2.out.cell 4
   have r5:=KR2.out.cell 5
   have r6:=KR2.out.cell 6
   have r7:=KR2.out.cell 7
   have r8:=KR2.out.cell 8
   have r9:=KR2.out.cell 9
   have r10:=KR2.out.cell 10
   have z0:=KR2.out.frozen 0
   have z1:=KR2.out.frozen 1
   have z2:=KR2.out.frozen 2
   have z3:=KR2.out.frozen 3
   have z4:=KR2.out.frozen 4
   have z5:=KR2.out.frozen 5
   have z6:=KR2.out.frozen 6
   have z7:=KR2.out.frozen 7
   have z8:=KR2.out.frozen 8
   have z9:=KR2.out.frozen 9
   have z10:=KR2.out.frozen 10
   go_wp2_with fail
   have KZ:=ST.out (.int .i64 x0) (.int .i64 x1) (.int .i64 x2) (.bool x3) (.int .u64 x4) (.int .u64 x5) (.bool x6) (.int .u64 x7) (.int .u64 x8) (.slice A ny c2) (.int .i64 x9)
   have OZ:=ON.out (.int .i64 x0) (.int .i64 x1) (.int .i64 x2) (.bool x3) (.int .u64 x4) (.int .u64 x5) (.bool x6) (.int .u64 x7) (.int .u64 x8) (.slice A ny c2) (.int .i64 x9)
   refine bodyPost_ret (results_read rfl _ _ w.heap.size _ rfl KZ rfl) rfl ?_
   refine ⟨B2.out.trans OZ.bel,.inr ⟨ys,q,r,HRES.out,L,A,c2,v,?_,HRE.out,GX.out _ OZ,OW.out _ OZ⟩⟩
   rw [← HHD.out,HXX.out,← HNY.out]
   rfl
end Go.Proofs.Ytnofddbfogilaaa.sixF
/- Layer 9: the law's frag and rightExt. -/
namespace Go.Proofs.Ytnofddbfogilaaa.sixG
set_option maxHeartbeats 4000000
set_option maxRecDepth 100000
open Go.ChangeShapes Go.WideShapes Go.ChangeAt Go.RowKit
open base octB rdrA rdrG sixW sixM sixA
set_option linter.unusedVariables false
theorem rext_any (x:Xt) (k:Nat) (w:World) (hr:Row w w.heap.size x.A (x.d.map (.int .u8))) (hu:U8 x.d) (hk:k≤1000000) (hn:x.d.length≤9223372036854775807) :
  Calls Try.prog 93 #[.agg x.cells,.int .i64 k] w fun o w'=>o=.returned (.bool (rightX x.re k))∧Below w.heap.size w w':=by
 obtain ⟨kd,A,c,d⟩:=x
 unfold Xt.cells Xt.re
 have HR:=Lib.hid (show Row w w.heap.size A (d.map (.int .u8)) from hr)
 have HU:=Lib.hid (show U8 d from hu)
 obtain ⟨q,hq⟩:∃ q,q=d.length:=⟨_,rfl⟩
 have HQ:=Lib.hid hq
 have HV:=Lib.hid (show rightX (kd,d) k=(isX kd && decide (¬ (kd=0∧k≠0)) && decide (q≤2047∧q % 8=7) && (if kd=44 then decide (q=7) else decide (d.getD 0 0=(q / 8:Nat)))) from by rw [hq]; rfl)
 show Calls _ _ #[.agg #[.int .i64 kd,.slice A d.length c],.int .i64 k] _ _
 have hn':q≤9223372036854775807:=by rw [hq]; exact hn
 rw [← hq]
 obtain ⟨v,hv⟩:∃ v,v=rightX (kd,d) k:=⟨_,rfl⟩
 rw [← hv] at HV ⊢
 obtain ⟨w1,hw1⟩:∃ w1,w1=w.alloc (.cells #[.int .i64 kd,.slice A q c] 118):=⟨_,rfl⟩
 have E1:=Lib.hid hw1
 have BA:=Lib.hid (show Below w.heap.size w w1 from by rw [hw1]; exact (Below.refl _ _).alloc (Nat.le_refl _) _)
 have KB:=Lib.hid (show Blk w1 w.heap.size 118 #[.int .i64 kd,.slice A q c] from by rw [hw1]; exact Blk.new w _ _)
 have x0:=KB.out.cell 0
 have x1:=KB.out.cell 1
 have IS:=Lib.hid (fun V=>is_any kd V)
 clear hw1 hr hu hq hn hv
 have tn:decide ((k:Int)<0)=false:=decide_eq_false (by omega)
 cases hib:isX kd with
 | false =>
  rw [hib] at IS HV
  obtain rfl:v=false:=HV.out
  clear hib
  go_enter Try.func93,Try.ntmps93
  go_wp2_with fail
  rw [← E1.out]
  refine (IS.out _).mono ?_
  rintro o w' ⟨rfl,rfl⟩
  go_wp2_with fail
  go_ret
  exact ⟨rfl,BA.out⟩
 | true =>
  rw [hib] at IS HV
  by_cases h0:kd=0∧k≠0
  ·obtain ⟨h1,h2⟩:=h0
   have t0:(kd == 0)=true:=by simpa using h1
   have t1:decide (0<(k:Int))=true:=decide_eq_true (by omega)
   have t2:decide (0<k)=true:=decide_eq_true (by omega)
   have t1p:((k:Int) != 0)=true:=by simp; omega
   obtain rfl:v=false:=by rw [HV.out,decide_eq_false (show ¬ ¬ (kd=0∧k≠0) from fun h=>h ⟨h1,h2⟩)]; rfl
   clear hib h1 h2
   go_enter Try.func93,Try.ntmps93
   go_wp2_with fail
   rw [← E1.out]
   refine (IS.out _).mono ?_
   rintro o w' ⟨rfl,rfl⟩
   go_wp2_with fail
   go_ret
   exact ⟨rfl,BA.out⟩
  have HV1:=Lib.hid (show v=(decide (q≤2047∧q % 8=7) && (if kd=44 then decide (q=7) else decide (d.getD 0 0=(q / 8:Nat)))) from by rw [HV.out,decide_eq_true h0]; rfl)
  by_cases hkd:kd=0
  ·have t0:(kd == 0)=true:=by simpa using hkd
   have hk0:k=0:=Decidable.byContradiction fun h=>h0 ⟨hkd,h⟩
   have t1:decide (0<(k:Int))=false:=decide_eq_false (by omega)
   have t2:decide (0<k)=false:=decide_eq_false (by omega)
   have t1p:((k:Int) != 0)=false:=by simp; omega
   have hk44:¬ kd=44:=by omega
   clear h0 hib hkd hk0
   by_cases h2047:2047<q
   ·have t3:decide (2047<(q:Int))=true:=decide_eq_true (by omega)
    have t4:decide (2047<q)=true:=decide_eq_true (by omega)
    obtain rfl:v=false:=by rw [HV1.out,decide_eq_false (by omega)]; rfl
    clear h2047
    go_enter Try.func93,Try.ntmps93
    go_wp2_with fail
    rw [← E1.out]
    refine (IS.out _).mono ?_
    rintro o w' ⟨rfl,rfl⟩
    go_wp2_with fail
    go_ret
    exact ⟨rfl,BA.out⟩
   have t3:decide (2047<(q:Int))=false:=decide_eq_false (by omega)
   have t4:decide (2047<q)=false:=decide_eq_false (by omega)
   by_cases h8:q % 8=7
   rotate_left
   ·have t5:((q:Int) % 8 != 7)=true:=by simp; omega
    obtain rfl:v=false:=by rw [HV1.out,decide_eq_false (by omega)]; rfl
    clear h2047 h8
    go_enter Try.func93,Try.ntmps93
    go_wp2_with fail
    rw [← E1.out]
    refine (IS.out _).mono ?_
    rintro o w' ⟨rfl,rfl⟩
    go_wp2_with fail
    go_ret
    exact ⟨rfl,BA.out⟩
   have t5:((q:Int) % 8 != 7)=false:=by simp; omega
   have HV2:=Lib.hid (show v=(if kd=44 then decide (q=7) else decide (d.getD 0 0=(q / 8:Nat))) from by rw [HV1.out,decide_eq_true (show q≤2047∧q % 8=7 by omega)]; rfl)
   have hq0:0<q:=by omega
   by_cases h44:kd=44
   ·have t6:(kd == 44)=true:=by simpa using h44
    have HV3:=HV2.out
    rw [if_pos h44] at HV3
    have t7:((q:Int) == 7)=v:=by rw [HV3]; by_cases h:q=7 <;> simp [h] <;> omega
    have t7n:(q == 7)=v:=by rw [HV3]; by_cases h:q=7 <;> simp [h]
    clear HV3 h44 h8 h2047
    go_enter Try.func93,Try.ntmps93
    go_wp2_with fail
    rw [← E1.out]
    refine (IS.out _).mono ?_
    rintro o w' ⟨rfl,rfl⟩
    go_wp2_with fail
    go_ret
    exact ⟨rfl,BA.out⟩
   have t6:(kd == 44)=false:=by simpa using h44
   have HV3:=HV2.out
   rw [if_neg h44] at HV3
   have g0:=HU.out.get 0
   obtain ⟨be,oe,hAe,hbe,hce⟩:=slice_from HR.out 0 (by have:=HQ.out; omega)
   subst hAe
   have m0:w1.cell? ⟨be,oe,none⟩=some (.int .u8 (d.getD 0 0)):=(BA.out.cell (p:=⟨be,oe,none⟩) hbe).trans (hce 0 (by have:=HQ.out; omega))
   obtain ⟨y,hy⟩:∃ y,y=d.getD 0 0:=⟨_,rfl⟩
   rw [← hy] at m0 g0 HV3
   have wy:IntKind.i64.wrap y=y:=IntWalk.i64_in _ (by omega)
   have t8:(y == (q:Int) / 8)=v:=by
    rw [HV3,show ((q / 8:Nat):Int)=(q:Int) / 8 by omega]
    by_cases h:y=(q:Int) / 8
    ·rw [h]; simp
    ·simp [h]
   clear HV3 h44 h8 h2047 hy hce hbe
   go_enter Try.func93,Try.ntmps93
   go_wp2_with fail
   rw [← E1.out]
   refine (IS.out _).mono ?_
   rintro o w' ⟨rfl,rfl⟩
   go_wp2_with fail
   go_ret
   exact ⟨rfl,BA.out⟩
  ·have t0:(kd == 0)=false:=by simpa using hkd
   clear h0 hib hkd
   by_cases h2047:2047<q
   ·have t3:decide (2047<(q:Int))=true:=decide_eq_true (by omega)
    have t4:decide (2047<q)=true:=decide_eq_true (by omega)
    obtain rfl:v=false:=by rw [HV1.out,decide_eq_false (by omega)]; rfl
    clear h2047
    go_enter Try.func93,Try.ntmps93
    go_wp2_with fail
    rw [← E1.out]
    refine (IS.out _).mono ?_
    rintro o w' ⟨rfl,rfl⟩
    go_wp2_with fail
    go_ret
    exact ⟨rfl,BA.out⟩
   have t3:decide (2047<(q:Int))=false:=decide_eq_false (by omega)
   have t4:decide (2047<q)=false:=decide_eq_false (by omega)
   by_cases h8:q % 8=7
   rotate_left
   ·have t5:((q:Int) % 8 != 7)=true:=by simp; omega
    obtain rfl:v=false:=by rw [HV1.out,decide_eq_false (by omega)]; rfl
    clear h2047 h8
    go_enter Try.func93,Try.ntmps93
    go_wp2_with fail
    rw [← E1.out]
    refine (IS.out _).mono ?_
    rintro o w' ⟨rfl,rfl⟩
    go_wp2_with fail
    go_ret
    exact ⟨rfl,BA.out⟩
   have t5:((q:Int) % 8 != 7)=false:=by simp; omega
   have HV2:=Lib.hid (show v=(if kd=44 then decide (q=7) else decide (d.getD 0 0=(q / 8:Nat))) from by rw [HV1.out,decide_eq_true (show q≤2047∧q % 8=7 by omega)]; rfl)
   have hq0:0<q:=by omega
   by_cases h44:kd=44
   ·have t6:(kd == 44)=true:=by simpa using h44
    have HV3:=HV2.out
    rw [if_pos h44] at HV3
    have t7:((q:Int) == 7)=v:=by rw [HV3]; by_cases h:q=7 <;> simp [h] <;> omega
    have t7n:(q == 7)=v:=by rw [HV3]; by_cases h:q=7 <;> simp [h]
    clear HV3 h44 h8 h2047
    go_enter Try.func93,Try.ntmps93
    go_wp2_with fail
    rw [← E1.out]
    refine (IS.out _).mono ?_
    rintro o w' ⟨rfl,rfl⟩
    go_wp2_with fail
    go_ret
    exact ⟨rfl,BA.out⟩
   have t6:(kd == 44)=false:=by simpa using h44
   have HV3:=HV2.out
   rw [if_neg h44] at HV3
   have g0:=HU.out.get 0
   obtain ⟨be,oe,hAe,hbe,hce⟩:=slice_from HR.out 0 (by have:=HQ.out; omega)
   subst hAe
   have m0:w1.cell? ⟨be,oe,none⟩=some (.int .u8 (d.getD 0 0)):=(BA.out.cell (p:=⟨be,oe,none⟩) hbe).trans (hce 0 (by have:=HQ.out; omega))
   obtain ⟨y,hy⟩:∃ y,y=d.getD 0 0:=⟨_,rfl⟩
   rw [← hy] at m0 g0 HV3
   have wy:IntKind.i64.wrap y=y:=IntWalk.i64_in _ (by omega)
   have t8:(y == (q:Int) / 8)=v:=by
    rw [HV3,show ((q / 8:Nat):Int)=(q:Int) / 8 by omega]
    by_cases h:y=(q:Int) / 8
    ·rw [h]; simp
    ·simp [h]
   clear HV3 h44 h8 h2047 hy hce hbe
   go_enter Try.func93,Try.ntmps93
   go_wp2_with fail
   rw [← E1.out]
   refine (IS.out _).mono ?_
   rintro o w' ⟨rfl,rfl⟩
   go_wp2_with fail
   go_ret
   exact ⟨rfl,BA.out⟩
end Go.Proofs.Ytnofddbfogilaaa.sixG
