/- 3 texts in one. -/
import Derived.Laws.AppendOwnNone
import Derived.Test.YtnofddbfogilaaaGq09
/- Layer 9: an address of 16 bytes; the bytes of a header that extends. -/
namespace Go.Proofs.Ytnofddbfogilaaa.sixB
set_option maxHeartbeats 4000000
set_option maxRecDepth 100000
open Go.ChangeShapes Go.WideShapes Go.ChangeAt Go.RowKit
open base octA octB rdrA rdrG sumB udpA sixM
set_option linter.unusedVariables false
def hi (n:Int):Int:=n / 18446744073709551616
def lo (n:Int):Int:=n % 18446744073709551616
theorem half_next (n c:Int) (h0:0≤n) (h1:n<1329227995784915872903807060280344576) (c0:0≤c) (c1:c≤255) :
  hi (n*256+c)=hi n*256+lo n / 72057594037927936∧lo (n*256+c)=lo n % 72057594037927936*256+c∧0≤hi n∧hi n<72057594037927936∧0≤lo n∧lo n<18446744073709551616:=by
 unfold hi lo
 omega
theorem atN_split (l:List Int):∀ j,atN l 0 (8+j)=atN l 0 8*256 ^ j+atN l 8 j
 | 0=>by simp [atN]
 | j+1=>by
  have e1:atN l 0 (8+(j+1))=atN l 0 (8+j)*256+l.getD (0+(8+j)) 0:=rfl
  have e2:atN l 8 (j+1)=atN l 8 j*256+l.getD (8+j) 0:=rfl
  rw [e1,e2,atN_split l j,Int.pow_succ,Int.add_mul,Int.mul_assoc,Int.add_assoc,Nat.zero_add]
theorem halves (l:List Int) (hb:∀ x ∈ l,0≤x∧x≤255):hi (atN l 0 16)=atN l 0 8∧lo (atN l 0 16)=atN l 8 8:=by
 have e:=atN_split l 8
 have b:=atN_in l 8 hb 8
 rw [show (256:Int) ^ 8=18446744073709551616 from by decide] at e b
 rw [show 16=8+8 from rfl,e]
 unfold hi lo
 omega
theorem pow16:∀ j:Fin 16,(256:Int) ^ j.val≤1329227995784915872903807060280344576:=by decide
theorem or_add2 (a b:Int) (ha:0≤a) (ha2:a<72057594037927936) (hb:0≤b) (hb2:b<256):bits .or .u64 (a*256) b=a*256+b:=by
 obtain ⟨x,rfl⟩:=Int.eq_ofNat_of_zero_le ha
 obtain ⟨y,rfl⟩:=Int.eq_ofNat_of_zero_le hb
 exact or_add x y (by omega) (by omega)
def OfPost (w:World) (hh ll:Int) (o:Ending) (w':World):Prop:=o=.returned (.tuple #[.agg #[.bool true,.int .u64 hh,.int .u64 ll],.int .i64 0])∧Below w.heap.size w w'
theorem results_addr {fn:Func} {p u:Tmp} (h:fn.results=#[.cell p 24,.tmp u]) (tmps:Array Value) (w:World) (g:Nat) (cs:Array Value) (hp:tmps.getD p undef=.pointer (some ⟨g,0,none⟩)) (hg:Blk w g 24 cs) (hs:cs.size=3) :
  (results fn tmps).run Try.prog w=.ok (.tuple #[.agg cs,tmps.getD u undef]) w:=by
 rw [results_cell_tmp h,hp]
 simp only [asAddr,Sem.run_pure,Result.andThen_ok]
 rw [run_loadVar_row w g 24 24 cs (0,0) _ hg Try.underlying24 rfl (by rw [hs]; kernel_rfl)]
 rfl
theorem of16 (A:Option Addr) (c:Nat) (l:List Int) (w:World) (hl:l.length=16) (hr:Row w w.heap.size A (l.map (.int .u8))) (hb:∀ x ∈ l,0≤x∧x≤255) :
  Calls Try.prog 100 #[.slice A 16 c] w (OfPost w (atN l 0 8) (atN l 8 8)):=by
 obtain ⟨b,off,rfl,hbl,hcl⟩:=slice_from hr 0 (by omega)
 rw [hl] at hcl
 have HCL:=Lib.hid hcl
 have HBL:=Lib.hid hbl
 obtain ⟨hv1,hv2⟩:=halves l hb
 obtain ⟨hh,hhh⟩:∃ hh,hh=atN l 0 8:=⟨_,rfl⟩
 obtain ⟨ll,hll⟩:∃ ll,ll=atN l 8 8:=⟨_,rfl⟩
 rw [← hhh] at hv1
 rw [← hll] at hv2
 rw [← hhh,← hll]
 have HV1:=Lib.hid hv1
 have HV2:=Lib.hid hv2
 have HG:=Lib.hid (show ∀ j,0≤l.getD j 0∧l.getD j 0≤255 from fun j=>getD_in l hb j)
 have HIN:=Lib.hid (show ∀ j,0≤atN l 0 j∧atN l 0 j<256 ^ j from fun j=>atN_in l 0 hb j)
 obtain ⟨g1,hg1⟩:∃ g,g=w.heap.size:=⟨_,rfl⟩
 obtain ⟨w1,hw1⟩:∃ w1,w1=w.alloc (.cells #[.bool false,.int .u64 0,.int .u64 0] 24):=⟨_,rfl⟩
 obtain ⟨w2,hw2⟩:∃ w2,w2=w1.alloc (.cells #[.bool true,.int .u64 0,.int .u64 0] 24):=⟨_,rfl⟩
 have E1:=Lib.hid hw1
 have E2:=Lib.hid hw2
 have EG:=Lib.hid hg1
 have s1:w1.heap.size=g1+1:=by rw [hw1,hg1]; simp
 have S1:=Lib.hid s1
 have K1:=Lib.hid (show Blk w1 g1 24 #[.bool false,.int .u64 0,.int .u64 0] from by rw [hw1,hg1]; exact Blk.new w _ _)
 have B2:=Lib.hid (show Below w1.heap.size w1 w2 from by rw [hw2]; exact (Below.refl _ _).alloc (Nat.le_refl _) _)
 have BB2:=Lib.hid (show Below g1 w w2 from by rw [hw2,hw1,hg1]; exact ((Below.refl _ _).alloc (Nat.le_refl _) _).alloc (by simp) _)
 have K2:=Lib.hid (show Blk w2 (g1+1) 24 #[.bool true,.int .u64 0,.int .u64 0] from by rw [hw2,← s1]; exact Blk.new w1 _ _)
 have KR:=Lib.hid (K1.out.below B2.out K1.out.lt)
 have H0:=Lib.hid (show hi (atN l 0 0)=0∧lo (atN l 0 0)=0 from ⟨rfl,rfl⟩)
 rw [← EG.out] at hbl
 unfold OfPost
 rw [← EG.out]
 clear hr hb hl hcl hv1 hv2 hw1 hw2 hg1 s1 hhh hll
 go_enter Try.func100,Try.ntmps100
 go_upto_region 4 with fail
 rw [← EG.out,← E1.out,← E2.out]
 have s1:=S1.out
 go_wp2_with fail
 go_loopw [22] (fun i wr=>∃ j:Nat,j≤16∧i=.int .i64 j∧Hid (Blk wr (g1+1) 24 #[.bool true,.int .u64 (hi (atN l 0 j)),.int .u64 (lo (atN l 0 j))])∧Hid (Blk wr g1 24 #[.bool false,.int .u64 0,.int .u64 0])∧Hid (Below g1 w wr)) (fun i _=>16 - (intOf i).toNat)
 case atStart=>exact ⟨0,by omega,rfl,Lib.hid (by rw [H0.out.1,H0.out.2]; exact K2.out),KR,BB2⟩
 case round =>
  obtain ⟨j,hj,rfl,HK,HKR,HB⟩:=hrel
  by_cases hlt:j<16
  ·obtain ⟨n,hn⟩:∃ n,n=atN l 0 j:=⟨_,rfl⟩
   have hin:=HIN.out j
   have hnx:atN l 0 (j+1)=n*256+l.getD j 0:=by rw [hn]; show _*256+l.getD (0+j) 0=_; rw [Nat.zero_add]
   rw [← hn] at hin HK
   have hp:(256:Int) ^ j≤1329227995784915872903807060280344576:=pow16 ⟨j,hlt⟩
   obtain ⟨cb,hcb⟩:∃ cb,cb=l.getD j 0:=⟨_,rfl⟩
   have hg:=HG.out j
   rw [← hcb] at hnx hg
   obtain ⟨q1,q2,q3,q4,q5,q6⟩:=half_next n cb hin.1 (by omega) hg.1 hg.2
   have HN1:=Lib.hid (show hi (atN l 0 (j+1))=hi n*256+lo n / 72057594037927936 from by rw [hnx,q1])
   have HN2:=Lib.hid (show lo (atN l 0 (j+1))=lo n % 72057594037927936*256+cb from by rw [hnx,q2])
   have d0:wr.cell? ⟨b,off+j,none⟩=some (.int .u8 cb):=by rw [hcb,← HCL.out j hlt]; exact HB.out.cell (p:=⟨b,off+j,none⟩) hbl
   obtain ⟨x,hx⟩:∃ x,x=hi n:=⟨_,rfl⟩
   obtain ⟨y,hy⟩:∃ y,y=lo n:=⟨_,rfl⟩
   rw [← hx,← hy] at HN1
   rw [← hy] at HN2
   rw [← hx,← hy] at HK
   rw [← hx] at q3 q4
   rw [← hy] at q5 q6
   have c1:=HK.out.cell 1
   have c2:=HK.out.cell 2
   have f1:=HK.out.frozen 1
   have f2:=HK.out.frozen 2
   have w8:IntKind.u64.wrap (x*256)=x*256:=by rw [IntKind.wrap_u64]; omega
   have w9:IntKind.u64.wrap (y*256)=y % 72057594037927936*256:=by rw [IntKind.wrap_u64]; omega
   have w10:IntKind.u64.wrap cb=cb:=by rw [IntKind.wrap_u64]; omega
   have o1:=or_add2 x (y / 72057594037927936) q3 q4 (by omega) (by omega)
   have o2:=or_add2 (y % 72057594037927936) cb (by omega) (by omega) hg.1 (by omega)
   have i0:(0:Int)≤j:=by omega
   have i1:(j:Int)<16:=by omega
   have HST:=Lib.hid (show ∀ u v,Blk ((wr.setCell ⟨g1+1,1,none⟩ (.int .u64 u)).setCell ⟨g1+1,2,none⟩ (.int .u64 v)) (g1+1) 24 #[.bool true,.int .u64 u,.int .u64 v] from fun u v=>(HK.out.set_ 1 (.int .u64 u)).set_ 2 (.int .u64 v))
   have HSR:=Lib.hid (show ∀ u v,Blk ((wr.setCell ⟨g1+1,1,none⟩ (.int .u64 u)).setCell ⟨g1+1,2,none⟩ (.int .u64 v)) g1 24 #[.bool false,.int .u64 0,.int .u64 0] from fun u v=>(HKR.out.far (p:=⟨g1+1,1,none⟩) (by simp) _).far (p:=⟨g1+1,2,none⟩) (by simp) _)
   have HSB:=Lib.hid (show ∀ u v,Below g1 w ((wr.setCell ⟨g1+1,1,none⟩ (.int .u64 u)).setCell ⟨g1+1,2,none⟩ (.int .u64 v)) from fun u v=>(HB.out.setCell (p:=⟨g1+1,1,none⟩) (by simp) _).setCell (p:=⟨g1+1,2,none⟩) (by simp) _)
   clear hn hin hnx hp hcb q1 q2 hx hy
   go_wp2_with fail
   go_roundw
   case rel=>exact ⟨j+1,by omega,by go_num,Lib.hid (by rw [HN1.out,HN2.out]; exact HST.out _ _),Lib.hid (HSR.out _ _),Lib.hid (HSB.out _ _)⟩
   case measure=>simp [intOf]; omega
  ·obtain rfl:j=16:=by omega
   have hk:=HK.out
   rw [HV1.out,HV2.out] at hk
   have HK3:=Lib.hid hk
   have c0:=HK3.out.cell 0
   have c1:=HK3.out.cell 1
   have c2:=HK3.out.cell 2
   have r0:=HKR.out.cell 0
   have r1:=HKR.out.cell 1
   have r2:=HKR.out.cell 2
   have f0:=HKR.out.frozen 0
   have f1:=HKR.out.frozen 1
   have f2:=HKR.out.frozen 2
   have KZ:=Lib.hid (show Blk (((wr.setCell ⟨g1,0,none⟩ (.bool true)).setCell ⟨g1,1,none⟩ (.int .u64 hh)).setCell ⟨g1,2,none⟩ (.int .u64 ll)) g1 24 #[.bool true,.int .u64 hh,.int .u64 ll] from ((HKR.out.set_ 0 (.bool true)).set_ 1 (.int .u64 hh)).set_ 2 (.int .u64 ll))
   have BZ:=Lib.hid (show Below g1 w (((wr.setCell ⟨g1,0,none⟩ (.bool true)).setCell ⟨g1,1,none⟩ (.int .u64 hh)).setCell ⟨g1,2,none⟩ (.int .u64 ll)) from ((HB.out.setCell (p:=⟨g1,0,none⟩) (Nat.le_refl g1) (.bool true)).setCell (p:=⟨g1,1,none⟩) (Nat.le_refl g1) (.int .u64 hh)).setCell (p:=⟨g1,2,none⟩) (Nat.le_refl g1) (.int .u64 ll))
   clear hk
   go_wp2_with fail
   exact bodyPost_ret (results_addr rfl _ _ g1 #[.bool true,.int .u64 hh,.int .u64 ll] rfl KZ.out rfl) rfl ⟨rfl,BZ.out⟩
end Go.Proofs.Ytnofddbfogilaaa.sixB
/- Layer 9: readAddr, readData. -/
namespace Go.Proofs.Ytnofddbfogilaaa.sixC
set_option maxHeartbeats 4000000
set_option maxRecDepth 100000
open Go.ChangeShapes Go.WideShapes Go.ChangeAt Go.RowKit
open base octA octB octF rdrA rdrG sixW sixM sixB
set_option linter.unusedVariables false
theorem atN_part (l:List Int) (f n:Nat):∀ k,f+k≤n→atN (l.take n) f k=atN l f k:=by
 intro k
 induction k with
 | zero=>intro _; rfl
 | succ j ih =>
  intro h
  rw [atN,atN,ih (by omega),List.getD_eq_getElem?_getD,List.getD_eq_getElem?_getD,List.getElem?_take,if_pos (by omega)]
def AddrP (w:World) (B g:Nat) (l:List Int) (o:Ending) (w':World):Prop :=
 o=.returned (.agg #[.bool true,.int .u64 (atN l 0 8),.int .u64 (atN l 8 8)])∧Rdr w' B g (l.drop 16)∧Below B w w'∧Els g w w'∧w.heap.size≤w'.heap.size
theorem addr_any (B g:Nat) (l:List Int) (w:World) (hB:B≤g) (h:Rdr w B g l) (hl:16≤l.length) (hb:U8 l) :
  Calls Try.prog 89 #[.pointer (some ⟨g,0,none⟩)] w (AddrP w B g l):=by
 have hgl:=h.lt
 obtain ⟨w1,hw1⟩:∃ w1,w1=w.alloc (.cells #[.bool false,.int .u64 0,.int .u64 0] 24):=⟨_,rfl⟩
 have E1:=Lib.hid hw1
 have BA1:=Lib.hid (show Below w.heap.size w w1 from by rw [hw1]; exact (Below.refl _ _).alloc (Nat.le_refl _) _)
 have KR1:=Lib.hid (show Blk w1 w.heap.size 24 #[.bool false,.int .u64 0,.int .u64 0] from by rw [hw1]; exact Blk.new w _ _)
 have SZ1:=Lib.hid (show w1.heap.size=w.heap.size+1 from by rw [hw1]; simp)
 have RAW:=Lib.hid (raw_any B g 16 l w1 hB (h.below BA1.out (by omega) hgl) hl)
 have HU:=Lib.hid hb
 have HL:=Lib.hid hl
 have HB:=Lib.hid hB
 unfold AddrP
 obtain ⟨hh,hhh⟩:∃ hh,hh=atN l 0 8:=⟨_,rfl⟩
 obtain ⟨ll,hll⟩:∃ ll,ll=atN l 8 8:=⟨_,rfl⟩
 have HH:=Lib.hid (show hh=atN (l.take 16) 0 8 from hhh.trans (atN_part l 0 16 8 (by omega)).symm)
 have LL:=Lib.hid (show ll=atN (l.take 16) 8 8 from hll.trans (atN_part l 8 16 8 (by omega)).symm)
 rw [← hhh,← hll]
 clear h hl hb hw1 hhh hll hB
 go_enter Try.func89,Try.ntmps89
 go_wp2_with fail
 rw [← E1.out]
 refine RAW.out.mono ?_
 rintro e w2 ⟨b,off,rfl,hbB,hli,hr2,ho2⟩
 have HR2:=Lib.hid hr2
 have KR2:=Lib.hid ((Only.g ho2).blk KR1.out (by omega))
 have SZ2:=Lib.hid (show w2.heap.size=w.heap.size+1 from ho2.size.trans SZ1.out)
 have BB2:=Lib.hid ((Only.g ho2).from (BA1.out.mono (show B≤w.heap.size by have:=HB.out; omega)) HB.out)
 have EL2:=Lib.hid ((Els.refl g w).below (Nat.le_refl _) BA1.out |>.trans BA1.out.size (Only.g ho2).toE)
 have OF:=Lib.hid (of16 (some ⟨b,off,none⟩) 16 (l.take 16) w2 (by have:=HL.out; rw [List.length_take]; omega) (hli.row (by have:=SZ2.out; have:=HB.out; omega)) (HU.out.take 16))
 unfold OfPost at OF
 rw [← HH.out,← LL.out] at OF
 clear hli hr2 ho2
 go_wp2_with fail
 refine OF.out.mono ?_
 rintro e w3 ⟨rfl,hb3⟩
 have SZ3:=Lib.hid (show w.heap.size+1≤w3.heap.size from by have:=SZ2.out; have:=hb3.size; omega)
 have KR3:=Lib.hid (KR2.out.below hb3 KR2.out.lt)
 have HR3:=Lib.hid (HR2.out.below hb3 (by have:=SZ2.out; have:=HB.out; omega) (by have:=SZ2.out; omega))
 have BB3:=Lib.hid (BB2.out.trans (hb3.mono (by have:=SZ2.out; have:=HB.out; omega)))
 have EL3:=Lib.hid (EL2.out.below (by have:=SZ2.out; omega) hb3)
 clear hb3
 obtain ⟨p,hp⟩:∃ p,p=w3.heap.size:=⟨_,rfl⟩
 obtain ⟨w4,hw4⟩:∃ w4,w4=w3.alloc (.cells #[.bool true,.int .u64 hh,.int .u64 ll] 24):=⟨_,rfl⟩
 have E4:=Lib.hid hw4
 have EP:=Lib.hid hp
 have BA4:=Lib.hid (show Below w3.heap.size w3 w4 from by rw [hw4]; exact (Below.refl _ _).alloc (Nat.le_refl _) _)
 have KP4:=Lib.hid (show Blk w4 p 24 #[.bool true,.int .u64 hh,.int .u64 ll] from by rw [hw4,hp]; exact Blk.new w3 _ _)
 have KR4:=Lib.hid (KR3.out.below BA4.out KR3.out.lt)
 have x0:=KP4.out.cell 0
 have x1:=KP4.out.cell 1
 have x2:=KP4.out.cell 2
 have y0:=KR4.out.cell 0
 have y1:=KR4.out.cell 1
 have y2:=KR4.out.cell 2
 have f0:=KR4.out.frozen 0
 have f1:=KR4.out.frozen 1
 have f2:=KR4.out.frozen 2
 have HKF:=Lib.hid (show Blk (((w4.setCell ⟨w.heap.size,0,none⟩ (.bool true)).setCell ⟨w.heap.size,1,none⟩ (.int .u64 hh)).setCell ⟨w.heap.size,2,none⟩ (.int .u64 ll)) w.heap.size 24 #[.bool true,.int .u64 hh,.int .u64 ll] from ((KR4.out.set_ 0 (.bool true)).set_ 1 (.int .u64 hh)).set_ 2 (.int .u64 ll))
 have BA5:=Lib.hid (show Below w.heap.size w4 (((w4.setCell ⟨w.heap.size,0,none⟩ (.bool true)).setCell ⟨w.heap.size,1,none⟩ (.int .u64 hh)).setCell ⟨w.heap.size,2,none⟩ (.int .u64 ll)) from (((Below.refl w.heap.size w4).setCell (p:=⟨w.heap.size,0,none⟩) (Nat.le_refl _) (.bool true)).setCell (p:=⟨w.heap.size,1,none⟩) (Nat.le_refl _) (.int .u64 hh)).setCell (p:=⟨w.heap.size,2,none⟩) (Nat.le_refl _) (.int .u64 ll))
 have HR4:=Lib.hid (HR3.out.below BA4.out (by have:=SZ3.out; have:=HB.out; omega) (by have:=SZ3.out; omega))
 clear hp hw4
 go_upto_region 2 with fail
 rw [← EP.out,← E4.out]
 go_wp2_with fail
 refine bodyPost_ret (results_cell_row rfl _ _ w.heap.size 24 #[.bool true,.int .u64 hh,.int .u64 ll] (0,0) _ rfl HKF.out Try.underlying24 rfl (by kernel_rfl)) rfl ?_
 have e1:=BA5.out.size
 have e2:=SZ3.out
 have e3:=BA4.out.size
 exact ⟨rfl,HR4.out.below BA5.out (by have:=HB.out; omega) hgl,BB3.out.trans ((BA4.out.mono (by have:=HB.out; omega)).trans (BA5.out.mono (by have:=HB.out; omega))),(EL3.out.below (by omega) BA4.out).below (Nat.le_refl _) BA5.out,by omega⟩
def DataP (w:World) (B g:Nat) (d t:List Int) (o:Ending) (w':World):Prop :=
 ∃ A c,o=.returned (.slice A d.length c)∧w'.ownsRow w.heap.size 5 1 (.slice A d.length c) d.length (d.map (.int .u8))∧Rdr w' B g t∧Below B w w'∧Els g w w'∧w.heap.size≤w'.heap.size
theorem data_part (B g:Nat) (l:List Int) (w:World) (hB:B≤g) (h:Rdr w B g l) (hl:7≤l.length) :
  Calls Try.prog 91 #[.pointer (some ⟨g,0,none⟩),.int .i64 44] w (DataP w B g (l.take 7) (l.drop 7)):=by
 have hgl:=h.lt
 have RAW:=Lib.hid (raw_any B g 7 l w hB h hl)
 have HL:=Lib.hid (show (l.take 7).length=7 from by rw [List.length_take]; omega)
 have HB:=Lib.hid hB
 unfold DataP
 rw [HL.out]
 clear h hl hB
 go_enter Try.func91,Try.ntmps91
 go_wp2_with fail
 refine RAW.out.mono ?_
 rintro e w2 ⟨b,off,rfl,hbB,hli,hr2,ho2⟩
 have HR2:=Lib.hid hr2
 have SZ2:=Lib.hid (show w2.heap.size=w.heap.size from ho2.size)
 have ON2:=Lib.hid (Only.g ho2)
 have CL:=Lib.hid (clone_any (some ⟨b,off,none⟩) 7 7 (l.take 7) w2 HL.out (by omega) (by intro h; cases h) (hli.row (by have:=SZ2.out; have:=HB.out; omega)))
 clear hli hr2 ho2
 go_wp2_with fail
 refine CL.out.mono ?_
 rintro o w3 ⟨v,rfl,ho3,hb3,hs3⟩
 obtain ⟨A,c,hv⟩:=own_slice ho3
 subst hv
 rw [SZ2.out] at ho3 hb3
 have OW:=Lib.hid ho3
 have B3:=Lib.hid hb3
 clear ho3 hb3 hs3
 go_wp2_with fail
 go_ret
 have hB:=HB.out
 exact ⟨A,c,rfl,OW.out,HR2.out.below B3.out (by omega) hgl,(ON2.out.bel.mono hB).trans (B3.out.mono (by omega)),(toEls ON2.out).below (Nat.le_refl _) B3.out,by have:=B3.out.size; have:=SZ2.out; omega⟩
theorem data_more (B g:Nat) (p:Int) (k:Nat) (l:List Int) (w:World) (hB:B≤g) (h:Rdr w B g l) (hp:p≠44) (hu:U8 l) (hk:l.getD 0 0=k) (hl:7+8*k≤l.length) :
  Calls Try.prog 91 #[.pointer (some ⟨g,0,none⟩),.int .i64 p] w (DataP w B g (l.take (7+8*k)) (l.drop (7+8*k))):=by
 obtain ⟨i0,hi0,hz0,hz1,hz2⟩:=info_parts info_u8
 have HI0:=Lib.hid hi0
 have HZ0:=Lib.hid hz0
 have HZ1:=Lib.hid hz1
 have HZ2:=Lib.hid hz2
 have hgl:=h.lt
 have hk255:k≤255:=by have:=hu.get 0; omega
 have RAW:=Lib.hid (raw_any B g 7 l w hB h (by omega))
 have RAW2:=Lib.hid (show ∀ V,Rdr V B g (l.drop 7)→_ from fun V hV=>raw_any B g (8*k) (l.drop 7) V hB hV (by rw [List.length_drop]; omega))
 have HL:=Lib.hid (show (l.take 7).length=7 from by rw [List.length_take]; omega)
 have HL2:=Lib.hid (show (l.take (7+8*k)).length=7+8*k from by rw [List.length_take]; omega)
 have HTK:=Lib.hid (show l.take (7+8*k)=l.take 7++(l.drop 7).take (8*k) from List.take_add)
 have HDR:=Lib.hid (show (l.drop 7).drop (8*k)=l.drop (7+8*k) from by rw [List.drop_drop])
 have HL3:=Lib.hid (show ((l.drop 7).take (8*k)).length=8*k from by rw [List.length_take,List.length_drop]; omega)
 have HK:=Lib.hid (show (l.take 7).getD 0 0=k from by rw [← hk,List.getD_eq_getElem?_getD,List.getD_eq_getElem?_getD,List.getElem?_take,if_pos (by omega)])
 have HB:=Lib.hid hB
 have t:(p == 44)=false:=by simpa using hp
 unfold DataP
 rw [HL2.out]
 clear h hl hB hi0 hz0 hz1 hz2 hu hk hp
 go_enter Try.func91,Try.ntmps91
 go_wp2_with fail
 refine RAW.out.mono ?_
 rintro e w2 ⟨b,off,rfl,hbB,hli,hr2,ho2⟩
 have HR2:=Lib.hid hr2
 have SZ2:=Lib.hid (show w2.heap.size=w.heap.size from ho2.size)
 have ON2:=Lib.hid (Only.g ho2)
 have CL:=Lib.hid (clone_any (some ⟨b,off,none⟩) 7 7 (l.take 7) w2 HL.out (by omega) (by intro h; cases h) (hli.row (by have:=SZ2.out; have:=HB.out; omega)))
 clear hli hr2 ho2
 go_wp2_with fail
 refine CL.out.mono ?_
 rintro o w3 ⟨v,rfl,ho3,hb3,hs3⟩
 obtain ⟨g3,c,rfl,o1,o2,o3,o4,o5,o6⟩:=own_form ho3 (by omega)
 rw [SZ2.out] at ho3 hb3 o1
 have OW:=Lib.hid ho3
 have B3:=Lib.hid hb3
 have HR3:=Lib.hid (HR2.out.below hb3 (by have:=HB.out; omega) hgl)
 have ERR:=Lib.hid (err_gen B g _ _ w3 (Rdr.st HR3.out))
 have d0:w3.cell? ⟨g3,0,none⟩=some (.int .u8 (k:Int)):=by
  rw [o5 0 (by omega),List.getElem?_map]
  have hk:=HK.out
  rw [List.getD_eq_getElem?_getD] at hk
  have hl7:=HL.out
  rw [List.getElem?_eq_getElem (by omega)] at hk ⊢
  simpa using hk
 have wk:IntKind.i64.wrap (k:Int)=(k:Int):=IntWalk.i64_in _ (by omega)
 have wk8:IntKind.i64.wrap (8*(k:Int))=8*(k:Int):=IntWalk.i64_in _ (by omega)
 clear ho3 hb3 hs3 o2 o3 o4 o5 o6 o1
 go_wp2_with fail
 refine ERR.out.mono ?_
 rintro o w' ⟨rfl,rfl⟩
 go_wp2_with fail
 refine (RAW2.out _ HR3.out).mono ?_
 rintro o w4 ⟨b4,off4,rfl,hb4B,hli4,hr4,ho4⟩
 rw [HDR.out] at hr4
 have ON4:=Lib.hid (Only.g ho4)
 have HR4:=Lib.hid hr4
 have S4:=Lib.hid (show w.heap.size≤w4.heap.size from by have:=B3.out.size; have:=SZ2.out; rw [ho4.size]; omega)
 have OW4:=Lib.hid (show w4.ownsRow w.heap.size 5 1 (.slice (some ⟨g3,0,none⟩) 7 c) 7 ((l.take 7).map (.int .u8)) from own_els OW.out hgl (Only.g ho4).toE)
 have HNE:=Lib.hid (show ∀ (i:Nat) (u:Value),(((l.drop 7).take (8*k)).map (Value.int .u8))[i]?=some u→w4.cell? ((⟨b4,off4,none⟩:Addr).add i)=some u from fun i u hu=>by
  rw [List.getElem?_map,Option.map_eq_some_iff] at hu
  obtain ⟨z,hz,rfl⟩:=hu
  have hi:=(List.getElem?_eq_some_iff.1 hz).1
  rw [Addr.add_lit,hli4 i hi,List.getD_eq_getElem?_getD,hz]
  rfl)
 have HLn:=Lib.hid (show (((l.drop 7).take (8*k)).map (Value.int .u8)).length=8*k*1 from by rw [List.length_map,HL3.out,Nat.mul_one])
 have H1c:=Lib.hid (show ∀ u ∈ ((l.drop 7).take (8*k)).map (Value.int .u8),u.oneCell'=true from fun u hu=>by
  rw [List.mem_map] at hu
  obtain ⟨x,_,rfl⟩:=hu
  rfl)
 have P1:=Lib.hid (show 7+8*k≤maxLen by unfold maxLen; omega)
 have P2:=Lib.hid (show (7+8*k)*1≤140737488355328 by omega)
 go_wp2_with (at_builtin; refine wpList_append_own _ rfl (.tmp 17) (.tmp 24) _ rfl w.heap.size 5 i0 _ 1 1 Try.underlying47 HI0.out HZ0.out HZ1.out HZ2.out rfl (by omega) (.slice (some ⟨g3,0,none⟩) 7 c) 7 ((l.take 7).map (.int .u8)) rfl OW4.out ⟨b4,off4,none⟩ (8*k) (8*k) (((l.drop 7).take (8*k)).map (.int .u8)) rfl HLn.out HNE.out H1c.out P1.out P2.out S4.out ?_; intro v5 w5 ho5 hg5 _; have OW5:=Lib.hid ho5; have HB5:=Lib.hid ((Below.refl w.heap.size w4).grown hg5 S4.out (fun k hk=>(OW4.out.lt k hk).1)); obtain ⟨A5,c5,hv5⟩:=own_slice ho5; subst hv5; clear ho5 hg5)
 go_ret
 have hB:=HB.out
 have hz:=HB5.out.size
 refine ⟨A5,c5,rfl,?_,HR4.out.below HB5.out (by omega) hgl,((ON2.out.bel.mono hB).trans (B3.out.mono (by omega))).trans ((ON4.out.bel.mono hB).trans (HB5.out.mono (by omega))),?_,by have:=S4.out; omega⟩
 ·rw [HTK.out,List.map_append]
  exact OW5.out
 ·have e1:=(toEls ON2.out).below (Nat.le_refl _) B3.out
  have e2:=e1.trans (by have:=B3.out.size; have:=SZ2.out; omega) (toEls ON4.out)
  exact e2.below (Nat.le_refl _) HB5.out
end Go.Proofs.Ytnofddbfogilaaa.sixC
/- Layer 9: readData where bytes lack; begin. -/
namespace Go.Proofs.Ytnofddbfogilaaa.sixD
set_option maxHeartbeats 4000000
set_option maxRecDepth 100000
open Go.ChangeShapes Go.WideShapes Go.ChangeAt Go.RowKit
open base octA octF net rdrA rdrG sixW sixM
set_option linter.unusedVariables false
def FailP (w:World) (B g:Nat) (o:Ending) (w':World):Prop :=
 ∃ v l' e',o=.returned v∧St w' B g l' e'∧e'≠0∧Below B w w'∧Els g w w'∧w.heap.size≤w'.heap.size
theorem data_none (B g:Nat) (p:Int) (l:List Int) (e:Int) (w:World) (hB:B≤g) (h:St w B g l e) (hf:e≠0∨l.length<7) :
  Calls Try.prog 91 #[.pointer (some ⟨g,0,none⟩),.int .i64 p] w (FailP w B g):=by
 have hgl:=h.lt
 have RAW:=Lib.hid (raw_bad B g 7 l e w h hf (by omega))
 have HB:=Lib.hid hB
 have HNE:=Lib.hid (sh_ne e)
 obtain ⟨e2,he2⟩:∃ e2,e2=sh e:=⟨_,rfl⟩
 rw [← he2] at RAW HNE
 have HF:=Lib.hid (show ∀ v w',St w' B g [] e2→Below B w w'→Els g w w'→w.heap.size≤w'.heap.size→FailP w B g (.returned v) w' from fun v w' h1 h2 h3 h4=>⟨v,[],e2,rfl,h1,HNE.out,h2,h3,h4⟩)
 have te:(e2 != 0)=true:=by simpa using HNE.out
 clear h hf hB he2
 cases hp:(p == 44) with
 | true =>
  go_enter Try.func91,Try.ntmps91
  go_wp2_with fail
  refine RAW.out.mono ?_
  rintro o w2 ⟨rfl,hs2,ho2⟩
  have S2:=Lib.hid hs2
  have ON2:=Lib.hid ho2
  have Z2:=Lib.hid (show w2.heap.size=w.heap.size from ho2.size)
  have CL:=Lib.hid (clone_any none 0 0 [] w2 rfl (by omega) (fun _=>rfl) (.inl rfl))
  clear hs2 ho2
  go_wp2_with fail
  refine CL.out.mono ?_
  rintro o w3 ⟨v,rfl,ho3,hb3,hs3⟩
  have hb:=HB.out
  have S3:=Lib.hid (S2.out.below hb3 (by have:=Z2.out; omega) (by have:=Z2.out; omega))
  have BB3:=Lib.hid ((ON2.out.bel.mono hb).trans (hb3.mono (by have:=Z2.out; omega)))
  have EL3:=Lib.hid ((toEls ON2.out).below (by have:=Z2.out; omega) hb3)
  have Z3:=Lib.hid (show w.heap.size≤w3.heap.size from by have:=hb3.size; have:=Z2.out; omega)
  clear ho3 hb3 hs3 hb
  go_wp2_with fail
  go_ret
  exact HF.out _ _ S3.out BB3.out EL3.out Z3.out
 | false =>
  go_enter Try.func91,Try.ntmps91
  go_wp2_with fail
  refine RAW.out.mono ?_
  rintro o w2 ⟨rfl,hs2,ho2⟩
  have S2:=Lib.hid hs2
  have ON2:=Lib.hid ho2
  have Z2:=Lib.hid (show w2.heap.size=w.heap.size from ho2.size)
  have CL:=Lib.hid (clone_any none 0 0 [] w2 rfl (by omega) (fun _=>rfl) (.inl rfl))
  clear hs2 ho2
  go_wp2_with fail
  refine CL.out.mono ?_
  rintro o w3 ⟨v,rfl,ho3,hb3,hs3⟩
  have hb:=HB.out
  have S3:=Lib.hid (S2.out.below hb3 (by have:=Z2.out; omega) (by have:=Z2.out; omega))
  have BB3:=Lib.hid ((ON2.out.bel.mono hb).trans (hb3.mono (by have:=Z2.out; omega)))
  have EL3:=Lib.hid ((toEls ON2.out).below (by have:=Z2.out; omega) hb3)
  have Z3:=Lib.hid (show w.heap.size≤w3.heap.size from by have:=hb3.size; have:=Z2.out; omega)
  clear ho3 hb3 hs3 hb
  have ERR:=Lib.hid (err_gen B g _ _ w3 S3.out)
  go_wp2_with fail
  refine ERR.out.mono ?_
  rintro o w' ⟨rfl,rfl⟩
  go_wp2_with fail
  go_ret
  exact HF.out _ _ S3.out BB3.out EL3.out Z3.out
theorem data_few (B g:Nat) (p:Int) (k:Nat) (l:List Int) (w:World) (hB:B≤g) (h:Rdr w B g l) (hp:p≠44) (hu:U8 l) (hk:l.getD 0 0=k) (hl7:7≤l.length) (hl:l.length<7+8*k) :
  Calls Try.prog 91 #[.pointer (some ⟨g,0,none⟩),.int .i64 p] w (FailP w B g):=by
 obtain ⟨i0,hi0,hz0,hz1,hz2⟩:=info_parts info_u8
 have HI0:=Lib.hid hi0
 have hgl:=h.lt
 have hk255:k≤255:=by have:=hu.get 0; omega
 have RAW:=Lib.hid (raw_any B g 7 l w hB h hl7)
 have RAW2:=Lib.hid (show ∀ V,St V B g (l.drop 7) 0→Calls Try.prog 95 #[.pointer (some ⟨g,0,none⟩),.int .i64 ((8*k:Nat):Int)] V fun o w'=>o=.returned (.slice none 0 0)∧St w' B g [] 2∧OnlyG g V w' from fun V hV=>raw_bad B g (8*k) (l.drop 7) 0 V hV (.inr (by rw [List.length_drop]; omega)) (by omega))
 have HL:=Lib.hid (show (l.take 7).length=7 from by rw [List.length_take]; omega)
 have HK:=Lib.hid (show (l.take 7).getD 0 0=k from by rw [← hk,List.getD_eq_getElem?_getD,List.getD_eq_getElem?_getD,List.getElem?_take,if_pos (by omega)])
 have HB:=Lib.hid hB
 have t:(p == 44)=false:=by simpa using hp
 have HF:=Lib.hid (show ∀ v w',St w' B g [] 2→Below B w w'→Els g w w'→w.heap.size≤w'.heap.size→FailP w B g (.returned v) w' from fun v w' h1 h2 h3 h4=>⟨v,[],2,rfl,h1,by omega,h2,h3,h4⟩)
 clear h hl hl7 hB hi0 hz0 hz1 hz2 hu hk hp
 go_enter Try.func91,Try.ntmps91
 go_wp2_with fail
 refine RAW.out.mono ?_
 rintro e w2 ⟨b,off,rfl,hbB,hli,hr2,ho2⟩
 have HR2:=Lib.hid hr2
 have SZ2:=Lib.hid (show w2.heap.size=w.heap.size from ho2.size)
 have ON2:=Lib.hid (Only.g ho2)
 have CL:=Lib.hid (clone_any (some ⟨b,off,none⟩) 7 7 (l.take 7) w2 HL.out (by omega) (by intro h; cases h) (hli.row (by have:=SZ2.out; have:=HB.out; omega)))
 clear hli hr2 ho2
 go_wp2_with fail
 refine CL.out.mono ?_
 rintro o w3 ⟨v,rfl,ho3,hb3,hs3⟩
 obtain ⟨g3,c,rfl,o1,o2,o3,o4,o5,o6⟩:=own_form ho3 (by omega)
 rw [SZ2.out] at ho3 hb3 o1
 have OW:=Lib.hid ho3
 have B3:=Lib.hid hb3
 have HR3:=Lib.hid (HR2.out.below hb3 (by have:=HB.out; omega) hgl)
 have ERR:=Lib.hid (err_gen B g _ _ w3 (Rdr.st HR3.out))
 have d0:w3.cell? ⟨g3,0,none⟩=some (.int .u8 (k:Int)):=by
  rw [o5 0 (by omega),List.getElem?_map]
  have hk:=HK.out
  rw [List.getD_eq_getElem?_getD] at hk
  have hl7:=HL.out
  rw [List.getElem?_eq_getElem (by omega)] at hk ⊢
  simpa using hk
 have wk:IntKind.i64.wrap (k:Int)=(k:Int):=IntWalk.i64_in _ (by omega)
 have wk8:IntKind.i64.wrap (8*(k:Int))=8*(k:Int):=IntWalk.i64_in _ (by omega)
 clear ho3 hb3 hs3 o2 o3 o4 o5 o6 o1
 go_wp2_with fail
 refine ERR.out.mono ?_
 rintro o w' ⟨rfl,rfl⟩
 go_wp2_with fail
 refine (RAW2.out _ (Rdr.st HR3.out)).mono ?_
 rintro o w4 ⟨rfl,hs4,ho4⟩
 have ON4:=Lib.hid ho4
 have S4:=Lib.hid hs4
 have Z4:=Lib.hid (show w.heap.size≤w4.heap.size from by have:=B3.out.size; have:=SZ2.out; rw [ho4.size]; omega)
 have OW4:=Lib.hid (show w4.ownsRow w.heap.size 5 1 (.slice (some ⟨g3,0,none⟩) 7 c) 7 ((l.take 7).map (.int .u8)) from own_els OW.out hgl (toEls ho4))
 clear hs4 ho4
 go_wp2_with (at_builtin; refine wpList_append_own_none rfl (.tmp 17) (.tmp 24) _ rfl w.heap.size 5 i0 1 Try.underlying47 HI0.out (.slice (some ⟨g3,0,none⟩) 7 c) 7 ((l.take 7).map (.int .u8)) rfl OW4.out rfl ?_)
 go_ret
 have hB:=HB.out
 refine HF.out _ _ S4.out (((ON2.out.bel.mono hB).trans (B3.out.mono (by omega))).trans (ON4.out.bel.mono hB)) ?_ Z4.out
 exact ((toEls ON2.out).below (Nat.le_refl _) B3.out).trans (by have:=B3.out.size; have:=SZ2.out; omega) (toEls ON4.out)
theorem begin_short (A:Option Addr) (n c:Nat) (w:World) (hn:n<40) :
  Calls Try.prog 71 #[.slice A n c] w fun e w'=>e=.returned (.int .i64 2)∧w=w':=by
 go_enter Try.func71,Try.ntmps71
 go_wp2
 go_ret
 exact ⟨rfl,rfl⟩
theorem begin_any (b off n c:Nat) (l:List Int) (w:World) (hl':l.length=n) (hn:40≤n) (hb:b<w.heap.size) (hs:Lies w b off l) (hx:U8 l) :
  Calls Try.prog 71 #[.slice (some ⟨b,off,none⟩) n c] w fun e w'=>e=.returned (.int .i64 (if l.getD 0 0 / 16=6 then 0 else 10))∧w=w':=by
 have hx0:=hx.get 0
 have q0:w.cell? ⟨b,off,none⟩=some (.int .u8 (l.getD 0 0)):=hs 0 (by omega)
 have y0:0<n:=by omega
 clear hs hx hl'
 generalize l.getD 0 0=y at *
 obtain ⟨z0,z1⟩:=hx0
 by_cases h:y / 16=6
 ·rw [if_pos h]
  have t1:(y / 16 != 6)=false:=bneF h
  clear h
  go_enter Try.func71,Try.ntmps71
  go_wp2
  go_ret
  exact ⟨rfl,rfl⟩
 ·rw [if_neg h]
  have t1:(y / 16 != 6)=true:=bneT h
  clear h
  go_enter Try.func71,Try.ntmps71
  go_wp2
  go_ret
  exact ⟨rfl,rfl⟩
end Go.Proofs.Ytnofddbfogilaaa.sixD
