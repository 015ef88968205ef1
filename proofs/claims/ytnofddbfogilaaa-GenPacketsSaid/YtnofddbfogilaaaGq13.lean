/- 7 texts in one. -/
import Derived.Laws.AppendOwnNone
import Derived.Deep.RegionHeldLaw
import Derived.Test.YtnofddbfogilaaaGq04
import Derived.Test.YtnofddbfogilaaaGq10
import Derived.Test.YtnofddbfogilaaaGq12
/- Layer 9: which headers may be. -/
namespace Go.Proofs.Ytnofddbfogilaaa.sixH
set_option maxHeartbeats 8000000
set_option maxRecDepth 100000
open Go.ChangeShapes Go.WideShapes Go.ChangeAt Go.RowKit
open base rdrA rdrG sumB sixW sixM sixA sixB sixE sixG
set_option linter.unusedVariables false
structure RightH (h:Hs) (l:List XP):Prop where
 c0:0≤h.cls
 c1:h.cls≤255
 h0:0≤h.hop
 h1:h.hop≤255
 l0:0≤h.lab
 l1:h.lab≤1048575
 s6:h.s6=true
 d6:h.d6=true
 p0:0≤h.p
 p1:h.p≤255
 pn:isX h.p=false
 e:RightE l
def RightP (w:World) (h:Hs) (l:List XP) (o:Ending) (w':World):Prop:=∃ v,o=.returned (.bool v)∧(v=true ↔ RightH h l)∧Below w.heap.size w w'
theorem slice_toX (b off n c t:Nat) (ht:t≤c) (hc:0<c) :
  (∀ W:World,(Instr.slice 85 (.slice (some ⟨b,off,none⟩) n c) none (some (.int .i64 (t:Int))) none).run Try.prog W=.ok (.slice (some ⟨b,off,none⟩) t c) W) ∧
  (∀ W:World,(Instr.sliceAt 85 (.slice (some ⟨b,off,none⟩) n c) none (some (.int .i64 (t:Int))) none).run Try.prog W=.ok (.slice (some ⟨b,off,none⟩) t c) W):=by
 have hu:Try.prog.underlying 85=some (.slice (Try.prog.elem 85)):=by kernel_rfl
 have hz:∀ W:World,(sizeOf (Try.prog.elem 85)).run Try.prog W=.ok 2 W:=fun _=>by kernel_rfl
 have key:∀ W:World,(Instr.slice 85 (.slice (some ⟨b,off,none⟩) n c) none (some (.int .i64 (t:Int))) none).run Try.prog W=.ok (.slice (some ⟨b,off,none⟩) t c) W:=by
  intro W
  rw [run_slice_h W 85 (some ⟨b,off,none⟩) n c hu .i64 (t:Int) (by omega) (by omega),hz]
  simp only [Result.andThen,sliced,Int.toNat_natCast,Option.map_some,Nat.sub_zero,Addr.add_lit,Nat.zero_mul,Nat.add_zero]
  split <;> rfl
 exact ⟨key,fun W=>by rw [run_sliceAt_slice W 85 _ _ _ _ hu,key]⟩
theorem map_take (l:List Xt) (k:Nat):(l.take k).map Xt.re=(l.map Xt.re).take k:=by rw [List.map_take]
theorem right_any (h:Hs) (A:Option Addr) (n c:Nat) (l:List Xt) (w:World) (hl:l.length=n) (hr:RdX w A l) (hnc:n≤c) (hn:n≤9223372036854775807) (hd:∀ x ∈ l,x.d.length≤9223372036854775807) :
  Calls Try.prog 76 #[.agg (h.cells (.slice A n c))] w (RightP w h (l.map Xt.re)):=by
 obtain ⟨cls,lab,hop,s6,sh,sl,d6,dh,dl,p⟩:=h
 obtain ⟨w1,hw1⟩:∃ w1,w1=w.alloc (.cells #[.int .i64 cls,.int .i64 lab,.int .i64 hop,.bool s6,.int .u64 sh,.int .u64 sl,.bool d6,.int .u64 dh,.int .u64 dl,.slice A n c,.int .i64 p] 87):=⟨_,rfl⟩
 have E1:=Lib.hid hw1
 have BA:=Lib.hid (show Below w.heap.size w w1 from by rw [hw1]; exact (Below.refl _ _).alloc (Nat.le_refl _) _)
 have KB:=Lib.hid (show Blk w1 w.heap.size 87 #[.int .i64 cls,.int .i64 lab,.int .i64 hop,.bool s6,.int .u64 sh,.int .u64 sl,.bool d6,.int .u64 dh,.int .u64 dl,.slice A n c,.int .i64 p] from by rw [hw1]; exact Blk.new w _ _)
 have HR1:=Lib.hid (hr.below BA.out)
 have HL:=Lib.hid hl
 have HD:=Lib.hid hd
 have IS:=Lib.hid (fun V=>is_any p V)
 have HNO:=Lib.hid (show ∀ w',¬ RightH ⟨cls,lab,hop,s6,sh,sl,d6,dh,dl,p⟩ (l.map Xt.re)→Below w.heap.size w w'→RightP w ⟨cls,lab,hop,s6,sh,sl,d6,dh,dl,p⟩ (l.map Xt.re) (.returned (.bool false)) w' from fun w' h1 h2=>⟨false,rfl,⟨fun h=>(by cases h),fun h=>absurd h h1⟩,h2⟩)
 have HYES:=Lib.hid (show ∀ w',RightH ⟨cls,lab,hop,s6,sh,sl,d6,dh,dl,p⟩ (l.map Xt.re)→Below w.heap.size w w'→RightP w ⟨cls,lab,hop,s6,sh,sl,d6,dh,dl,p⟩ (l.map Xt.re) (.returned (.bool true)) w' from fun w' h1 h2=>⟨true,rfl,⟨fun _=>h1,fun _=>rfl⟩,h2⟩)
 obtain ⟨HH,hHH⟩:∃ HH,HH=RightH ⟨cls,lab,hop,s6,sh,sl,d6,dh,dl,p⟩ (l.map Xt.re):=⟨_,rfl⟩
 have EHH:=Lib.hid hHH
 rw [← hHH] at HNO HYES
 show Calls _ _ #[.agg #[.int .i64 cls,.int .i64 lab,.int .i64 hop,.bool s6,.int .u64 sh,.int .u64 sl,.bool d6,.int .u64 dh,.int .u64 dl,.slice A n c,.int .i64 p]] _ _
 have dd0:=KB.out.cell 0
 have dd1:=KB.out.cell 1
 have dd2:=KB.out.cell 2
 have dd3:=KB.out.cell 3
 have dd4:=KB.out.cell 4
 have dd5:=KB.out.cell 5
 have dd6:=KB.out.cell 6
 have dd7:=KB.out.cell 7
 have dd8:=KB.out.cell 8
 have dd9:=KB.out.cell 9
 have dd10:=KB.out.cell 10
 clear hw1 hl hr hd hHH
 by_cases xc0:cls<0
 ·have HX:=Lib.hid (show ¬ HH from by rw [EHH.out]; intro H; have e:=H.c0; simp only at e; omega)
  have qc0_0:decide (cls<0)=true:=decide_eq_true (by omega)
  have qc0_1:decide (0≤cls)=false:=decide_eq_false (by omega)
  clear xc0
  go_enter Try.func76,Try.ntmps76
  go_upto_region 1 with fail
  rw [← E1.out]
  go_wp2_with fail
  go_ret
  exact HNO.out _ HX.out BA.out
 have qc0_0:decide (cls<0)=false:=decide_eq_false (by omega)
 have qc0_1:decide (0≤cls)=true:=decide_eq_true (by omega)
 by_cases xc1:255<cls
 ·have HX:=Lib.hid (show ¬ HH from by rw [EHH.out]; intro H; have e:=H.c1; simp only at e; omega)
  have qc1_0:decide (255<cls)=true:=decide_eq_true (by omega)
  have qc1_1:decide (cls≤255)=false:=decide_eq_false (by omega)
  clear xc1
  go_enter Try.func76,Try.ntmps76
  go_upto_region 1 with fail
  rw [← E1.out]
  go_wp2_with fail
  go_ret
  exact HNO.out _ HX.out BA.out
 have qc1_0:decide (255<cls)=false:=decide_eq_false (by omega)
 have qc1_1:decide (cls≤255)=true:=decide_eq_true (by omega)
 by_cases xh0:hop<0
 ·have HX:=Lib.hid (show ¬ HH from by rw [EHH.out]; intro H; have e:=H.h0; simp only at e; omega)
  have qh0_0:decide (hop<0)=true:=decide_eq_true (by omega)
  have qh0_1:decide (0≤hop)=false:=decide_eq_false (by omega)
  clear xh0
  go_enter Try.func76,Try.ntmps76
  go_upto_region 1 with fail
  rw [← E1.out]
  go_wp2_with fail
  go_ret
  exact HNO.out _ HX.out BA.out
 have qh0_0:decide (hop<0)=false:=decide_eq_false (by omega)
 have qh0_1:decide (0≤hop)=true:=decide_eq_true (by omega)
 by_cases xh1:255<hop
 ·have HX:=Lib.hid (show ¬ HH from by rw [EHH.out]; intro H; have e:=H.h1; simp only at e; omega)
  have qh1_0:decide (255<hop)=true:=decide_eq_true (by omega)
  have qh1_1:decide (hop≤255)=false:=decide_eq_false (by omega)
  clear xh1
  go_enter Try.func76,Try.ntmps76
  go_upto_region 1 with fail
  rw [← E1.out]
  go_wp2_with fail
  go_ret
  exact HNO.out _ HX.out BA.out
 have qh1_0:decide (255<hop)=false:=decide_eq_false (by omega)
 have qh1_1:decide (hop≤255)=true:=decide_eq_true (by omega)
 by_cases xl0:lab<0
 ·have HX:=Lib.hid (show ¬ HH from by rw [EHH.out]; intro H; have e:=H.l0; simp only at e; omega)
  have ql0_0:decide (lab<0)=true:=decide_eq_true (by omega)
  have ql0_1:decide (0≤lab)=false:=decide_eq_false (by omega)
  clear xl0
  go_enter Try.func76,Try.ntmps76
  go_upto_region 1 with fail
  rw [← E1.out]
  go_wp2_with fail
  go_ret
  exact HNO.out _ HX.out BA.out
 have ql0_0:decide (lab<0)=false:=decide_eq_false (by omega)
 have ql0_1:decide (0≤lab)=true:=decide_eq_true (by omega)
 by_cases xl1:1048575<lab
 ·have HX:=Lib.hid (show ¬ HH from by rw [EHH.out]; intro H; have e:=H.l1; simp only at e; omega)
  have ql1_0:decide (1048576≤lab)=true:=decide_eq_true (by omega)
  have ql1_1:decide (lab≤1048575)=false:=decide_eq_false (by omega)
  have ql1_2:decide (1048575<lab)=true:=decide_eq_true (by omega)
  clear xl1
  go_enter Try.func76,Try.ntmps76
  go_upto_region 1 with fail
  rw [← E1.out]
  go_wp2_with fail
  go_ret
  exact HNO.out _ HX.out BA.out
 have ql1_0:decide (1048576≤lab)=false:=decide_eq_false (by omega)
 have ql1_1:decide (lab≤1048575)=true:=decide_eq_true (by omega)
 have ql1_2:decide (1048575<lab)=false:=decide_eq_false (by omega)
 rcases (by cases s6 <;> simp:s6=false∨s6=true) with rfl | rfl
 ·have HX:=Lib.hid (show ¬ HH from by rw [EHH.out]; intro H; have e:false=true:=H.s6; cases e)
  go_enter Try.func76,Try.ntmps76
  go_upto_region 1 with fail
  rw [← E1.out]
  go_wp2_with fail
  go_ret
  exact HNO.out _ HX.out BA.out
 rcases (by cases d6 <;> simp:d6=false∨d6=true) with rfl | rfl
 ·have HX:=Lib.hid (show ¬ HH from by rw [EHH.out]; intro H; have e:false=true:=H.d6; cases e)
  go_enter Try.func76,Try.ntmps76
  go_upto_region 1 with fail
  rw [← E1.out]
  go_wp2_with fail
  go_ret
  exact HNO.out _ HX.out BA.out
 by_cases xp0:p<0
 ·have HX:=Lib.hid (show ¬ HH from by rw [EHH.out]; intro H; have e:=H.p0; simp only at e; omega)
  have qp0_0:decide (p<0)=true:=decide_eq_true (by omega)
  have qp0_1:decide (0≤p)=false:=decide_eq_false (by omega)
  clear xp0
  go_enter Try.func76,Try.ntmps76
  go_upto_region 1 with fail
  rw [← E1.out]
  go_wp2_with fail
  go_ret
  exact HNO.out _ HX.out BA.out
 have qp0_0:decide (p<0)=false:=decide_eq_false (by omega)
 have qp0_1:decide (0≤p)=true:=decide_eq_true (by omega)
 by_cases xp1:255<p
 ·have HX:=Lib.hid (show ¬ HH from by rw [EHH.out]; intro H; have e:=H.p1; simp only at e; omega)
  have qp1_0:decide (255<p)=true:=decide_eq_true (by omega)
  have qp1_1:decide (p≤255)=false:=decide_eq_false (by omega)
  clear xp1
  go_enter Try.func76,Try.ntmps76
  go_upto_region 1 with fail
  rw [← E1.out]
  go_wp2_with fail
  go_ret
  exact HNO.out _ HX.out BA.out
 have qp1_0:decide (255<p)=false:=decide_eq_false (by omega)
 have qp1_1:decide (p≤255)=true:=decide_eq_true (by omega)
 cases hpn:isX p with
 | true =>
  rw [hpn] at IS
  have HX:=Lib.hid (show ¬ HH from by rw [EHH.out]; intro H; have e:isX p=false:=H.pn; rw [hpn] at e; cases e)
  clear hpn
  go_enter Try.func76,Try.ntmps76
  go_upto_region 1 with fail
  rw [← E1.out]
  go_wp2_with fail
  refine (IS.out _).mono ?_
  rintro o w' ⟨rfl,rfl⟩
  go_wp2_with fail
  go_ret
  exact HNO.out _ HX.out BA.out
 | false =>
 have HPN:=Lib.hid hpn
 rw [hpn] at IS
 clear hpn
 by_cases h8:8<n
 ·have HX:=Lib.hid (show ¬ HH from by rw [EHH.out]; intro H; have e:=H.e.most; rw [List.length_map,HL.out] at e; omega)
  have q8:decide (8<(n:Int))=true:=decide_eq_true (by omega)
  have q9:decide (8<n)=true:=decide_eq_true h8
  clear h8
  go_enter Try.func76,Try.ntmps76
  go_upto_region 1 with fail
  rw [← E1.out]
  go_wp2_with fail
  refine (IS.out _).mono ?_
  rintro o w' ⟨rfl,rfl⟩
  go_wp2_with fail
  go_ret
  exact HNO.out _ HX.out BA.out
 have q8:decide (8<(n:Int))=false:=decide_eq_false (by omega)
 have q9:decide (8<n)=false:=decide_eq_false h8
 have hn8:n≤8:=by omega
 have HC:=Lib.hid (show RightE (l.map Xt.re)→HH from fun h=>by
  rw [EHH.out]
  exact ⟨by show 0≤cls; omega,by show cls≤255; omega,by show 0≤hop; omega,by show hop≤255; omega,by show 0≤lab; omega,by show lab≤1048575; omega,rfl,rfl,by show 0≤p; omega,by show p≤255; omega,HPN.out,h⟩)
 have HNE:=Lib.hid (show ∀ j,j<n→¬ (rightX ((l.map Xt.re)[j]?.getD (0,[])) j=true∧lies ((l.map Xt.re).take j) / 8=0)→¬ HH from fun j hj h=>by
  rw [EHH.out]
  intro H
  have hjl:j<(l.map Xt.re).length:=by rw [List.length_map,HL.out]; exact hj
  refine h ⟨?_,H.e.whole j hjl⟩
  rw [List.getElem?_eq_getElem hjl]
  exact H.e.each j hjl)
 clear xc0 xc1 xh0 xh1 xl0 xl1 xp0 xp1 h8
 go_enter Try.func76,Try.ntmps76
 go_upto_region 1 with fail
 rw [← E1.out]
 go_wp2_with fail
 refine (IS.out _).mono ?_
 rintro o w' ⟨rfl,rfl⟩
 go_wp2_with fail
 go_loopw [3,66] (fun _ i wr=>∃ j:Nat,j≤n∧i=.int .i64 j∧Hid (∀ k,k<j→rightX ((l.map Xt.re)[k]?.getD (0,[])) k=true∧lies ((l.map Xt.re).take k) / 8=0)∧Hid (Below w1.heap.size w1 wr)) (fun _ i _=>n - (intOf i).toNat)
 case atStart=>exact ⟨0,by omega,rfl,Lib.hid (fun k hk=>by omega),Lib.hid (Below.refl _ _)⟩
 case round =>
  obtain ⟨j,hj,rfl,HG,HBJ⟩:=hrel
  have k9:wr.cell? ⟨w.heap.size,9,none⟩=some (.slice A n c):=(HBJ.out.cell (p:=⟨w.heap.size,9,none⟩) KB.out.lt).trans dd9
  by_cases hlt:j<n
  ·have hjl:j<l.length:=HL.out.symm ▸ hlt
   obtain ⟨b,off,hA,hbl,hC⟩:=(HR1.out.below HBJ.out).at_ j hjl
   subst hA
   obtain ⟨x,hx⟩:∃ x,x=l[j]:=⟨_,rfl⟩
   have HXM:=Lib.hid (show x ∈ l from hx ▸ List.getElem_mem hjl)
   have HEL:=Lib.hid (HR1.out.els x HXM.out)
   rw [← hx] at hC
   obtain ⟨kd,hkd⟩:∃ kd,kd=x.kind:=⟨_,rfl⟩
   obtain ⟨xA,hxA⟩:∃ xA,xA=x.A:=⟨_,rfl⟩
   obtain ⟨xn,hxn⟩:∃ xn,xn=x.d.length:=⟨_,rfl⟩
   obtain ⟨xc,hxc⟩:∃ xc,xc=x.c:=⟨_,rfl⟩
   have HK:=Lib.hid hkd
   have HXA:=Lib.hid hxA
   have HXN:=Lib.hid hxn
   have HXC:=Lib.hid hxc
   have e0:wr.cell? ⟨b,off+j*2,none⟩=some (.int .i64 kd):=by rw [hkd]; exact hC 0 (by omega)
   have e1:wr.cell? ⟨b,off+j*2+1,none⟩=some (.slice xA xn xc):=by rw [hxA,hxn,hxc]; exact hC 1 (by omega)
   obtain ⟨rx,hrx⟩:∃ rx,rx=rightX x.re j:=⟨_,rfl⟩
   obtain ⟨fr,hfr⟩:∃ fr,fr=lies ((l.map Xt.re).take j) / 8:=⟨_,rfl⟩
   obtain ⟨frm,hfrm⟩:∃ frm,frm=decide (lies ((l.map Xt.re).take j) % 2=1):=⟨_,rfl⟩
   have HRX:=Lib.hid hrx
   have HFR:=Lib.hid hfr
   have HFM:=Lib.hid hfrm
   have HXR:=Lib.hid (show (l.map Xt.re)[j]?.getD (0,[])=x.re from by rw [List.getElem?_map,List.getElem?_eq_getElem hjl,← hx]; rfl)
   have hfr0:0≤fr:=by
    rw [hfr]
    have:=lies_in (l:=(l.map Xt.re).take j) (fun y hy=>by
     have hy:=List.mem_of_mem_take hy
     rw [List.mem_map] at hy
     obtain ⟨z,hz,rfl⟩:=hy
     exact (HR1.out.els z hz).2.2.2.1)
    omega
   have RX:=Lib.hid (show ∀ V,Below w1.heap.size w1 V→Calls Try.prog 93 #[.agg #[.int .i64 kd,.slice xA xn xc],.int .i64 (j:Int)] V fun o w'=>o=.returned (.bool rx)∧Below V.heap.size V w' from fun V hV=>by
    have:=rext_any x j V ((HEL.out.1.below hV).more hV.size) HEL.out.2.2.2.1 (by omega) (HD.out x HXM.out)
    unfold Xt.cells at this
    rw [← HK.out,← HXA.out,← HXN.out,← HXC.out,← HRX.out] at this
    exact this)
   have FR:=Lib.hid (show ∀ V,Below w1.heap.size w1 V→Calls Try.prog 48 #[.agg #[.int .i64 0,.int .i64 0,.int .i64 0,.bool false,.int .u64 0,.int .u64 0,.bool false,.int .u64 0,.int .u64 0,.slice (some ⟨b,off,none⟩) j c,.int .i64 0]] V fun o w'=>o=.returned (.int .i64 fr)∧Below V.heap.size V w' from fun V hV=>by
    have:=frag_any zeroH (some ⟨b,off,none⟩) j c (l.take j) V (by rw [List.length_take,HL.out]; omega) ((HR1.out.below hV).take j) (by omega)
    rw [map_take,← HFR.out] at this
    exact this)
   obtain ⟨r1,r2⟩:=slice_toX b off n c j (by omega) (by omega)
   have j0:(0:Int)≤j:=by omega
   have j1:(j:Int)<n:=by omega
   have j2:(j:Int)≤c:=by omega
   have t1:decide ((j:Int)<n)=true:=decide_eq_true (by omega)
   have t1n:decide (j<n)=true:=decide_eq_true hlt
   clear hx hC hkd hxA hxn hxc hrx hfr hfrm hjl hbl
   go_wp2_with fail
   refine (RX.out _ HBJ.out).mono ?_
   rintro o w2 ⟨rfl,hb2⟩
   have HB2:=Lib.hid (HBJ.out.trans (hb2.mono HBJ.out.size))
   clear hb2
   cases rx with
   | false =>
    have HX:=Lib.hid (HNE.out j hlt (fun h=>by rw [HXR.out,← HRX.out,← HFR.out] at h; cases h.1))
    go_wp2_with fail
    go_ret
    exact HNO.out _ HX.out (BA.out.trans (HB2.out.mono BA.out.size))
   | true =>
    have k9:w2.cell? ⟨w.heap.size,9,none⟩=some (.slice (some ⟨b,off,none⟩) n c):=(HB2.out.cell (p:=⟨w.heap.size,9,none⟩) KB.out.lt).trans dd9
    go_wp2_with fail
    refine (FR.out _ HB2.out).mono ?_
    rintro o w3 ⟨rfl,hb3⟩
    have HB3:=Lib.hid (HB2.out.trans (hb3.mono HB2.out.size))
    clear hb3
    by_cases h0:fr=0
    ·have t0:(fr != 0)=false:=by simpa using h0
     have HGN:=Lib.hid (show ∀ k,k<j+1→rightX ((l.map Xt.re)[k]?.getD (0,[])) k=true∧lies ((l.map Xt.re).take k) / 8=0 from fun k hk=>by
      rcases Nat.lt_or_ge k j with h | h
      ·exact HG.out k h
      ·obtain rfl:k=j:=by omega
       rw [HXR.out,← HRX.out,← HFR.out]
       exact ⟨rfl,h0⟩)
     clear h0
     go_wp2_with fail
     go_roundw
     case rel=>exact ⟨j+1,by omega,by go_num,HGN,HB3⟩
     case measure=>simp [intOf]; omega
    ·have t0:(fr != 0)=true:=by simpa using h0
     have HX:=Lib.hid (HNE.out j hlt (fun h=>by rw [HXR.out,← HRX.out,← HFR.out] at h; exact h0 h.2))
     clear h0
     go_wp2_with fail
     go_ret
     exact HNO.out _ HX.out (BA.out.trans (HB3.out.mono BA.out.size))
  ·obtain rfl:n=j:=by omega
   have t1:decide ((n:Int)<n)=false:=decide_eq_false (by omega)
   have t1n:decide (n<n)=false:=decide_eq_false (by omega)
   have HX:=Lib.hid (show HH from HC.out ⟨by rw [List.length_map,HL.out]; exact hn8,fun i hi=>by
    have:=(HG.out i (by rw [List.length_map,HL.out] at hi; exact hi)).1
    rwa [List.getElem?_eq_getElem hi] at this,fun i hi=>(HG.out i (by rw [List.length_map,HL.out] at hi; exact hi)).2⟩)
   go_wp2_with fail
   go_ret
   exact HYES.out _ HX.out (BA.out.trans (HBJ.out.mono BA.out.size))
end Go.Proofs.Ytnofddbfogilaaa.sixH
namespace Go.Proofs.Ytnofddbfogilaaa.sixI
end Go.Proofs.Ytnofddbfogilaaa.sixI
/- Layer 5: the bytes of an address of version 6. -/
namespace Go.Proofs.Ytnofddbfogilaaa.sixJ
open Go.ChangeShapes Go.WideShapes Go.ChangeAt Go.RowKit
open base octA rdrA sixM sixB
set_option linter.unusedVariables false
def aB (hh ll:Int) (j i:Nat):Int:=if i<8 then (if i<j then byteZ hh (7 - i) else 0) else (if i - 8<j then byteZ ll (7 - (i - 8)) else 0)
structure Ar (hh ll:Int) (j:Nat) (cs:Array Value):Prop where
 size:cs.size=16
 at_:∀ i,i<16→cs[i]?=some (.int .u8 (aB hh ll j i))
theorem Ar.zero (hh ll:Int):Ar hh ll 0 #[.int .u8 0,.int .u8 0,.int .u8 0,.int .u8 0,.int .u8 0,.int .u8 0,.int .u8 0,.int .u8 0,.int .u8 0,.int .u8 0,.int .u8 0,.int .u8 0,.int .u8 0,.int .u8 0,.int .u8 0,.int .u8 0]:=⟨rfl,fun i hi=>by
 have:aB hh ll 0 i=0:=by unfold aB; simp
 rw [this]
 show ((List.replicate 16 (Value.int .u8 0)).toArray)[i]?=_
 rw [List.getElem?_toArray,List.getElem?_replicate,if_pos hi]⟩
theorem Ar.next {hh ll:Int} {j:Nat} {cs:Array Value} (h:Ar hh ll j cs) (hj:j<8):Ar hh ll (j+1) ((cs.setIfInBounds j (.int .u8 (byteZ hh (7 - j)))).setIfInBounds (8+j) (.int .u8 (byteZ ll (7 - j)))):=by
 refine ⟨by rw [Array.size_setIfInBounds,Array.size_setIfInBounds]; exact h.size,fun i hi=>?_⟩
 have hs:=h.size
 rw [Array.getElem?_setIfInBounds,Array.getElem?_setIfInBounds,Array.size_setIfInBounds]
 by_cases h1:8+j=i
 ·subst h1
  rw [if_pos rfl,if_pos (by omega)]
  unfold aB
  rw [if_neg (by omega),show 8+j - 8=j by omega,if_pos (by omega)]
 ·rw [if_neg h1]
  by_cases h2:j=i
  ·subst h2
   rw [if_pos rfl,if_pos (by omega)]
   unfold aB
   rw [if_pos (by omega),if_pos (by omega)]
  ·rw [if_neg h2,h.at_ i hi]
   congr 2
   unfold aB
   by_cases h3:i<8
   ·rw [if_pos h3,if_pos h3]
    by_cases h4:i<j
    ·rw [if_pos h4,if_pos (by omega)]
    ·rw [if_neg h4,if_neg (by omega)]
   ·rw [if_neg h3,if_neg h3]
    by_cases h4:i - 8<j
    ·rw [if_pos h4,if_pos (by omega)]
    ·rw [if_neg h4,if_neg (by omega)]
end Go.Proofs.Ytnofddbfogilaaa.sixJ
/- Layer 9: the law's bytes. -/
namespace Go.Proofs.Ytnofddbfogilaaa.sixK
open Go.ChangeShapes Go.WideShapes Go.ChangeAt Go.RowKit
open octA rdrG sixW sixM
set_option linter.unusedVariables false
def hd8 (cls lab hop p0:Int) (n:Nat):List Int:=[96+cls / 16,cls % 16*16+lab / 65536,lab / 256 % 256,lab % 256,(n:Int) / 256 % 256,(n:Int) % 256,p0,hop]
def hdB (h:Hs) (p0:Int) (n:Nat):List Int:=hd8 h.cls h.lab h.hop p0 n++(pb h.sh 8 8++pb h.sl 8 8)++(pb h.dh 8 8++pb h.dl 8 8)
def sixB (h:Hs) (l:List XP) (r:List Int):List Int:=hdB h (nextK l h.p) (extL l+r.length)++(extB l h.p++r)
theorem one_map (l:List Int):∀ u ∈ l.map (Value.int .u8),u.oneCell'=true:=fun u hu=>by
 rw [List.mem_map] at hu
 obtain ⟨x,_,rfl⟩:=hu
 rfl
end Go.Proofs.Ytnofddbfogilaaa.sixK
/- Layer 9: the law's same. -/
namespace Go.Proofs.Ytnofddbfogilaaa.sixN
set_option maxRecDepth 100000
open Go.ChangeShapes Go.WideShapes Go.ChangeAt Go.RowKit
open base rdrG sumB sixM sixB
set_option linter.unusedVariables false
theorem conv_zero (w:World) (A:Option Addr) (c:Nat):(convert 47 9 (.slice A 0 c)).run Try.prog w=.ok (.string (strOfNums [])) w:=by
 rw [run_convert_bytes_string w 47 9 5 _ 0 c Try.underlying47 Try.underlying5 Try.underlying9]
 cases A <;> simp [Conv.bytesToString,loadCells]
 all_goals rfl
theorem row_noneL {w:World} {B:Nat} {l:List Int} (h:Row w B none (l.map (.int .u8))):l=[]:=by
 rcases h with h | ⟨_,_,h,_⟩
 ·exact List.map_eq_nil_iff.mp h
 ·cases h
theorem conv_row {w:World} {B:Nat} {A:Option Addr} {n c:Nat} {l:List Int} (h:Row w B A (l.map (.int .u8))) (hl:l.length=n) :
  (convert 47 9 (.slice A n c)).run Try.prog w=.ok (.string (strOfNums l)) w:=by
 cases A with
 | none =>
  have hl0:l=[]:=row_noneL h
  subst hl0
  exact run_convert_bytes_nil w 47 5 Try.underlying47 Try.underlying5 n c 9 Try.underlying9
 | some ad =>
  rcases Nat.eq_zero_or_pos l.length with h0 | h0
  ·have hl0:l=[]:=List.eq_nil_of_length_eq_zero h0
   subst hl0
   obtain rfl:n=0:=by simpa using hl.symm
   exact conv_zero w _ c
  ·obtain ⟨b,off,hA,_,hc⟩:=h.at_ (by intro e; rw [List.map_eq_nil_iff] at e; subst e; simp at h0)
   injection hA with hA
   subst hA
   refine run_convert_bytes_arg w 47 5 Try.underlying47 Try.underlying5 b off n c l hl (fun i hi=>?_) 9 Try.underlying9
   exact hc i _ (by rw [List.getElem?_map,List.getElem?_eq_getElem (by omega),List.getD_eq_getElem?_getD,List.getElem?_eq_getElem (by omega)]; rfl)
end Go.Proofs.Ytnofddbfogilaaa.sixN
/- Layer 9: next, Len, the law's cut. -/
namespace Go.Proofs.Ytnofddbfogilaaa.sixO
set_option maxHeartbeats 4000000
set_option maxRecDepth 100000
open Go.ChangeShapes Go.WideShapes Go.ChangeAt Go.RowKit
open base rdrA rdrG sixW sixM sixE
set_option linter.unusedVariables false
theorem next_any (h:Hs) (A:Option Addr) (n c k:Nat) (l:List Xt) (w:World) (hl:l.length=n) (hr:RdX w A l) (hn:n≤1000000) :
  Calls Try.prog 77 #[.agg (h.cells (.slice A n c)),.int .i64 k] w fun o w'=>o=.returned (.int .i64 (nextK ((l.map Xt.re).drop k) h.p))∧Below w.heap.size w w':=by
 obtain ⟨cls,lab,hop,s6,sh,sl,d6,dh,dl,p⟩:=h
 obtain ⟨w1,hw1⟩:∃ w1,w1=w.alloc (.cells #[.int .i64 cls,.int .i64 lab,.int .i64 hop,.bool s6,.int .u64 sh,.int .u64 sl,.bool d6,.int .u64 dh,.int .u64 dl,.slice A n c,.int .i64 p] 87):=⟨_,rfl⟩
 have E1:=Lib.hid hw1
 have BA:=Lib.hid (show Below w.heap.size w w1 from by rw [hw1]; exact (Below.refl _ _).alloc (Nat.le_refl _) _)
 have KB:=Lib.hid (show Blk w1 w.heap.size 87 #[.int .i64 cls,.int .i64 lab,.int .i64 hop,.bool s6,.int .u64 sh,.int .u64 sl,.bool d6,.int .u64 dh,.int .u64 dl,.slice A n c,.int .i64 p] from by rw [hw1]; exact Blk.new w _ _)
 have HR1:=Lib.hid (hr.below BA.out)
 have SZ1:=Lib.hid (show w1.heap.size=w.heap.size+1 from by rw [hw1]; simp)
 have HL:=Lib.hid hl
 have x9:=KB.out.cell 9
 have x10:=KB.out.cell 10
 show Calls _ _ #[.agg #[.int .i64 cls,.int .i64 lab,.int .i64 hop,.bool s6,.int .u64 sh,.int .u64 sl,.bool d6,.int .u64 dh,.int .u64 dl,.slice A n c,.int .i64 p],.int .i64 k] _ _
 by_cases hk:k<n
 ·have hkl:k<l.length:=by rw [hl]; exact hk
  obtain ⟨b,off,hA,hbl,hC⟩:=HR1.out.at_ k hkl
  subst hA
  have d0:w1.cell? ⟨b,off+k*2,none⟩=some (.int .i64 (l[k]).kind):=hC 0 (by omega)
  have hv:nextK ((l.map Xt.re).drop k) p=(l[k]).kind:=by
   rw [List.drop_eq_getElem_cons (by rw [List.length_map]; exact hkl),List.getElem_map]
   rfl
  show Calls _ _ _ _ fun o w'=>o=.returned (.int .i64 (nextK ((l.map Xt.re).drop k) p))∧_
  rw [hv]
  obtain ⟨y,hy⟩:∃ y,y=(l[k]).kind:=⟨_,rfl⟩
  rw [← hy] at d0 ⊢
  have j0:(0:Int)≤k:=by omega
  have j1:(k:Int)<n:=by omega
  have t1:decide ((k:Int)<n)=true:=decide_eq_true j1
  have t1n:decide (k<n)=true:=decide_eq_true hk
  clear hw1 hl hr hkl hC hv hy hk hbl
  go_enter Try.func77,Try.ntmps77
  go_upto_region 1 with fail
  rw [← E1.out]
  go_wp2_with fail
  go_ret
  exact ⟨rfl,BA.out⟩
 ·have hv:nextK ((l.map Xt.re).drop k) p=p:=by
   rw [List.drop_of_length_le (by rw [List.length_map,hl]; omega)]
   rfl
  show Calls _ _ _ _ fun o w'=>o=.returned (.int .i64 (nextK ((l.map Xt.re).drop k) p))∧_
  rw [hv]
  have t1:decide ((k:Int)<n)=false:=decide_eq_false (by omega)
  have t1n:decide (k<n)=false:=decide_eq_false hk
  clear hw1 hl hr hv hk
  go_enter Try.func77,Try.ntmps77
  go_upto_region 1 with fail
  rw [← E1.out]
  go_wp2_with fail
  go_ret
  exact ⟨rfl,BA.out⟩
theorem len_any (h:Hs) (A:Option Addr) (n c:Nat) (l:List Xt) (w:World) (hl:l.length=n) (hr:RdX w A l) (hn:n≤8) (hd:∀ x ∈ l,x.d.length≤2047) :
  Calls Try.prog 50 #[.agg (h.cells (.slice A n c))] w fun o w'=>o=.returned (.int .i64 (40+extL (l.map Xt.re):Nat))∧Below w.heap.size w w':=by
 obtain ⟨cls,lab,hop,s6,sh,sl,d6,dh,dl,p⟩:=h
 obtain ⟨w1,hw1⟩:∃ w1,w1=w.alloc (.cells #[.int .i64 cls,.int .i64 lab,.int .i64 hop,.bool s6,.int .u64 sh,.int .u64 sl,.bool d6,.int .u64 dh,.int .u64 dl,.slice A n c,.int .i64 p] 87):=⟨_,rfl⟩
 have E1:=Lib.hid hw1
 have BA:=Lib.hid (show Below w.heap.size w w1 from by rw [hw1]; exact (Below.refl _ _).alloc (Nat.le_refl _) _)
 have KB:=Lib.hid (show Blk w1 w.heap.size 87 #[.int .i64 cls,.int .i64 lab,.int .i64 hop,.bool s6,.int .u64 sh,.int .u64 sl,.bool d6,.int .u64 dh,.int .u64 dl,.slice A n c,.int .i64 p] from by rw [hw1]; exact Blk.new w _ _)
 have HR1:=Lib.hid (hr.below BA.out)
 have SZ1:=Lib.hid (show w1.heap.size=w.heap.size+1 from by rw [hw1]; simp)
 have HL:=Lib.hid hl
 have x9:=KB.out.cell 9
 have x10:=KB.out.cell 10
 show Calls _ _ #[.agg #[.int .i64 cls,.int .i64 lab,.int .i64 hop,.bool s6,.int .u64 sh,.int .u64 sl,.bool d6,.int .u64 dh,.int .u64 dl,.slice A n c,.int .i64 p]] _ _
 have HD:=Lib.hid (show ∀ k,k≤n→extL ((l.map Xt.re).take k)≤2048*k from fun k=>by
  induction k with
  | zero=>intro _; simp [extL]
  | succ k ih =>
   intro hk
   have hk2:k<(l.map Xt.re).length:=by rw [List.length_map,hl]; omega
   have:=hd (l[k]'(by rw [hl]; omega)) (List.getElem_mem _)
   rw [List.take_succ_eq_append_getElem hk2]
   have e:extL ((l.map Xt.re).take k++[(l.map Xt.re)[k]])=extL ((l.map Xt.re).take k)+(1+(l[k]'(by rw [hl]; omega)).d.length):=by
    unfold extL
    rw [List.map_append,List.sum_append]
    simp [Xt.re]
   rw [e]
   have:=ih (by omega)
   omega)
 have HST:=Lib.hid (show ∀ k (hk:k<l.length),extL ((l.map Xt.re).take (k+1))=extL ((l.map Xt.re).take k)+(1+l[k].d.length) from fun k hk=>by
  have hk2:k<(l.map Xt.re).length:=by rw [List.length_map]; exact hk
  rw [List.take_succ_eq_append_getElem hk2]
  unfold extL
  rw [List.map_append,List.sum_append]
  simp [Xt.re])
 have HALL:=Lib.hid (show extL ((l.map Xt.re).take n)=extL (l.map Xt.re) from by rw [List.take_of_length_le (by rw [List.length_map,hl]; exact Nat.le_refl _)])
 clear hw1 hl hr hd
 go_enter Try.func50,Try.ntmps50
 go_upto_region 3 with fail
 rw [← E1.out]
 go_loopw [3,9] (fun tv iv wr=>∃ k v:Nat,k≤n∧iv=.int .i64 k∧tv=.int .i64 v∧Hid (v=40+extL ((l.map Xt.re).take k))∧Hid (Below w1.heap.size w1 wr)) (fun _ i _=>n - (intOf i).toNat)
 case atStart=>exact ⟨0,40,by omega,rfl,rfl,Lib.hid (by simp [extL]),Lib.hid (Below.refl _ _)⟩
 case round =>
  obtain ⟨k,v,hk,rfl,rfl,HV,HB⟩:=hrel
  have hvb:v≤40+2048*k:=by have:=HV.out; have:=HD.out k hk; omega
  by_cases hlt:k<n
  ·have hkl:k<l.length:=by rw [HL.out]; exact hlt
   obtain ⟨b,off,hA,hbl,hC⟩:=(HR1.out.below HB.out).at_ k hkl
   subst hA
   have hst:=HST.out k hkl
   have hdk:=HD.out (k+1) (by omega)
   obtain ⟨e,he⟩:∃ e,e=l[k]:=⟨_,rfl⟩
   rw [← he] at hC hst
   obtain ⟨ek,eA,ec,ed⟩:=e
   obtain ⟨q,hq⟩:∃ q,q=ed.length:=⟨_,rfl⟩
   have d0:wr.cell? ⟨b,off+k*2,none⟩=some (.int .i64 ek):=hC 0 (by omega)
   have d1:wr.cell? ⟨b,off+k*2+1,none⟩=some (.slice eA q ec):=by rw [hq]; exact hC 1 (by omega)
   have HVN:=Lib.hid (show v+(1+q)=40+extL ((l.map Xt.re).take (k+1)) from by rw [hst,HV.out,hq]; show _=_; simp only [Nat.add_assoc])
   have hq9:v+(1+q)≤40+2048*(k+1):=by have:=HVN.out; omega
   obtain ⟨w3,hw3⟩:∃ w3,w3=wr.alloc (.cells #[.int .i64 ek,.slice eA q ec] 118):=⟨_,rfl⟩
   have E3:=Lib.hid hw3
   have B3:=Lib.hid (show Below wr.heap.size wr w3 from by rw [hw3]; exact (Below.refl _ _).alloc (Nat.le_refl _) _)
   have K3:=Lib.hid (show Blk w3 wr.heap.size 118 #[.int .i64 ek,.slice eA q ec] from by rw [hw3]; exact Blk.new wr _ _)
   have HB3:=Lib.hid (HB.out.trans (B3.out.mono HB.out.size))
   have j0:(0:Int)≤k:=by omega
   have j1:(k:Int)<n:=by omega
   have t1:decide ((k:Int)<n)=true:=decide_eq_true j1
   have t1n:decide (k<n)=true:=decide_eq_true hlt
   have wk:IntKind.i64.wrap ((k:Int)+1)=(k:Int)+1:=IntWalk.i64_in _ (by omega)
   have wq:IntKind.i64.wrap (1+(q:Int))=1+(q:Int):=IntWalk.i64_in _ (by omega)
   have wv:IntKind.i64.wrap ((v:Int)+(1+(q:Int)))=((v+(1+q):Nat):Int):=by rw [IntWalk.i64_in _ (by omega)]; omega
   clear hw3 hC hst hdk he hq hkl hbl hlt x9 x10
   go_upto_region 5 with fail
   rw [← E3.out]
   have z1:=K3.out.cell 1
   go_wp2_with fail
   go_roundw
   case rel=>exact ⟨k+1,v+(1+q),by omega,by go_num,by go_num,HVN,HB3⟩
   case measure=>simp [intOf]; omega
  ·obtain rfl:k=n:=by omega
   have t1:decide ((k:Int)<k)=false:=decide_eq_false (by omega)
   have t1n:decide (k<k)=false:=decide_eq_false (by omega)
   have hv:v=40+extL (l.map Xt.re):=by rw [HV.out,HALL.out]
   subst hv
   go_wp2_with fail
   go_ret
   exact ⟨rfl,BA.out.trans (HB.out.mono BA.out.size)⟩
end Go.Proofs.Ytnofddbfogilaaa.sixO
/- Layer 44: numbers put as bytes, every block of another type stays. -/
namespace Go.Proofs.Ytnofddbfogilaaa.snK
set_option maxHeartbeats 400000
set_option maxRecDepth 100000
open Go.ChangeShapes Go.WideShapes Go.ChangeAt Go.RowKit
open base octA octB
set_option linter.unusedVariables false
def KT (w w':World):Prop:=∀ k t cs,t≠5→Blk w k t cs→Blk w' k t cs
theorem KT.refl (w:World):KT w w:=fun _ _ _ _ h=>h
theorem KT.trans {a b c:World} (h1:KT a b) (h2:KT b c):KT a c:=fun k t cs ht h=>h2 k t cs ht (h1 k t cs ht h)
theorem own_neT {w:World} {base t:Nat} {v:Value} {n b:Nat} {xs:List Value} {cs:Array Value} (ht:t≠5) (h:w.ownsRow base 5 1 v n xs) (hb:Blk w b t cs):some b≠v.ownBlock:=fun e=>by
 rcases h.2 with ⟨rfl,_⟩ | ⟨g,cap,cur,rfl,hg,hgg,_⟩
 ·cases e
 ·injection e with e
  have e2:b=g:=e
  subst e2
  have h1:=Option.some.inj (hb.symm.trans hgg)
  injection h1 with h2 h3
  exact ht h3
theorem KT.grown {a w w':World} {base:Nat} {v:Value} {n:Nat} {xs:List Value} (h:KT a w) (ho:w.ownsRow base 5 1 v n xs) (hg:w.grownBy w' v.ownBlock):KT a w':=fun k t cs ht hb=>by
 have h1:=h k t cs ht hb
 exact (hg.block k h1.lt (own_neT ht ho h1)).trans h1
theorem KT.below {a w w':World} (h:KT a w) (hb:Below w.heap.size w w'):KT a w':=fun k t cs ht h1=>(hb.block k (h k t cs ht h1).lt).trans (h k t cs ht h1)
theorem kt_step {a w w':World} {base:Nat} {o:Obj} {v:Value} {n:Nat} {xs:List Value} (h:KT a w) (ho:(w.alloc o).ownsRow base 5 1 v n xs) (hg:(w.alloc o).grownBy w' v.ownBlock):KT a w':=(h.below ((Below.refl _ _).alloc (Nat.le_refl _) o)).grown ho hg
def PutPostT (w0:World) (base B:Nat) (a:World) (m k:Nat) (xs:List Value) (ys:List Int) (e:Ending) (w':World):Prop :=
 ∃ v',e=.returned v'∧w'.ownsRow base 5 1 v' (m+k) (xs++ys.map (.int .u8))∧Below B a w'∧base≤w'.heap.size∧KT w0 w'
theorem put_t (v:Value) (m:Nat) (xs:List Value) (n s:Int) (base B:Nat) (a w:World) (hown:w.ownsRow base 5 1 v m xs) (hbase:base≤w.heap.size) (hm:m≤1000000) (hbel:Below B a w) (hB:B≤base) (n0:0≤n) (n1:n<18446744073709551616) :
  Calls Try.prog 58 #[v,.int .u64 n,.int .i64 s] w (PutPostT w base B a m (hs s) xs (pb n (hs s) (hs s))):=by
 obtain ⟨i0,hi0,hz0,hz1,hz2⟩:=info_parts info_u8
 have HI0:=Lib.hid hi0
 have HZ0:=Lib.hid hz0
 have HZ1:=Lib.hid hz1
 have HZ2:=Lib.hid hz2
 have HOwn0:=Lib.hid hown
 have HBel0:=Lib.hid hbel
 have hk8:=hs_le s
 have HH:=Lib.hid (fun w=>held_any s w)
 have HK0:=Lib.hid (KT.refl w)
 clear hi0 hz0 hz1 hz2 hown hbel
 generalize hs s=k at *
 go_enter Try.func58,Try.ntmps58
 go_wp2_with fail
 refine (HH.out _).mono ?_
 rintro e w' ⟨rfl,rfl⟩
 go_wp2_with fail
 go_loopw [0,7] (fun out i wr=>∃ (j:Nat),j≤k∧i=.int .i64 ((k:Int) - 1 - j)∧wr.ownsRow base 5 1 out (m+j) (xs++(pb n k j).map (.int .u8))∧Below B a wr∧base≤wr.heap.size∧KT w wr) (fun _ i _=>(intOf i+1).toNat)
 case atStart=>exact ⟨0,by omega,by simp,by simpa [pb] using HOwn0.out,HBel0.out,hbase,HK0.out⟩
 case round =>
  obtain ⟨j,hj,rfl,hown,hbel,hbs,hblk⟩:=hrel
  obtain ⟨A3,c3,rfl⟩:=own_slice hown
  have HOwn:=Lib.hid hown
  have HBel:=Lib.hid hbel
  have HBK:=Lib.hid hblk
  by_cases hlt:j<k
  ·obtain ⟨q,hq⟩:∃ q:Nat,k=j+q+1:=⟨k - j - 1,by omega⟩
   have e1:(k:Int) - 1 - j=(q:Int):=by omega
   have hsn:=pb_snoc n k j
   rw [show k - 1 - j=q by omega] at hsn
   have HSN:=Lib.hid hsn
   have hq8:(q:Int)≤7:=by omega
   have hq9:q≤7:=by omega
   have HQ:=Lib.hid hq
   have hdiv:0≤n / 2 ^ (8*q):=Int.ediv_nonneg n0 (Int.le_of_lt (Int.pow_pos (by decide)))
   have hby:IntKind.u8.wrap (n / 2 ^ (8*q))=byteZ n q:=by rw [IntKind.wrap_u8']; rfl
   have hb1:=byteZ_in n q
   rw [e1]
   have hnx:(q:Int) - 1=(k:Int) - 1 - ((j+1:Nat):Int):=by omega
   have HNX:=Lib.hid hnx
   clear hown hbel hblk e1 hsn hq hnx
   go_wp2_with (at_builtin; refine wpList_append_own _ rfl (.tmp 15) (.tmp 21) _ rfl base 5 i0 _ 1 1 Try.underlying47 HI0.out HZ0.out HZ1.out HZ2.out rfl (by omega) _ (m+j) _ rfl (HOwn.out.alloc _) ⟨wr.heap.size,0,none⟩ 1 1 [.int .u8 (byteZ n q)] rfl rfl (one_new _ _ _) (by simp [Value.oneCell']) (by unfold maxLen; omega) (by omega) (by simp; omega) ?_; intro v1 w1 hown1 hg1 _; have HO1:=Lib.hid hown1; have HG1:=Lib.hid hg1; clear hown1 hg1)
   go_roundw
   case rel =>
    refine ⟨j+1,by omega,congrArg (Value.int .i64) HNX.out,?_,below_grown (HBel.out.alloc (by omega) _) (HOwn.out.alloc _) hB (by simp; omega) HG1.out,by have:=HG1.out.size; simp at this; omega,kt_step HBK.out (HOwn.out.alloc (.cells #[.int .u8 (byteZ n q)] 5)) HG1.out⟩
    rw [HSN.out,List.map_append,← List.append_assoc]
    exact HO1.out
   case measure=>first | (simp [intOf]; done) | (simp [intOf]; omega)
  ·obtain rfl:j=k:=by omega
   clear hown hbel hblk
   go_wp2_with fail
   go_ret
   exact ⟨_,rfl,HOwn.out,HBel.out,hbs,HBK.out⟩
theorem all_t (b:Nat) (cs:Array Value) (v:Value) (m:Nat) (xs:List Value) (s:Int) (n c:Nat) (l:List Int) (base B:Nat) (a w:World) (hown:w.ownsRow base 5 1 v m xs) (hbase:base≤w.heap.size) (hm:m+8*n≤1000000) (hbel:Below B a w) (hB:B≤base)
  (hl:l.length=n) (hK:Blk w b 22 cs) (hcs:cs.toList=l.map (.int .u64)) (hw:∀ x ∈ l,0≤x∧x<18446744073709551616) :
  Calls Try.prog 57 #[v,.int .i64 s,.slice (some ⟨b,0,none⟩) n c] w (PutPostT w base B a m (hs s*n) xs (allb (hs s) l)):=by
 have HK0:=Lib.hid hK
 have HCS:=Lib.hid hcs
 have HN:=Lib.hid hl
 have HW:=Lib.hid hw
 have HOwn0:=Lib.hid hown
 have HBel0:=Lib.hid hbel
 have hk8:=hs_le s
 have hkn:hs s*n≤8*n:=Nat.mul_le_mul_right n hk8
 clear hK hcs hl hw hown hbel
 go_enter Try.func57,Try.ntmps57
 go_wp2_with fail
 go_loopw [0,11] (fun out i wr=>∃ (j:Nat),j≤n∧i=.int .i64 j∧wr.ownsRow base 5 1 out (m+hs s*j) (xs++(allb (hs s) (l.take j)).map (.int .u8))∧Below B a wr∧base≤wr.heap.size∧KT w wr) (fun _ i _=>n - (intOf i).toNat)
 case atStart=>exact ⟨0,by omega,rfl,by simpa [allb] using HOwn0.out,HBel0.out,hbase,KT.refl w⟩
 case round =>
  obtain ⟨j,hj,rfl,hown,hbel,hbs,hkt⟩:=hrel
  have hblk:=hkt _ _ _ (by decide) HK0.out
  have HKT:=Lib.hid hkt
  clear hkt
  have HOwn:=Lib.hid hown
  have HBel:=Lib.hid hbel
  by_cases hlt:j<n
  ·have hkl:j<l.length:=by rw [HN.out]; exact hlt
   have hcell:wr.cell? ⟨b,j,none⟩=some (.int .u64 (l[j])):=by
    rw [hblk.cell j,← Array.getElem?_toList,HCS.out,List.getElem?_map,List.getElem?_eq_getElem hkl]
    rfl
   have HBK:=Lib.hid hblk
   have hx:=HW.out l[j] (List.getElem_mem hkl)
   have hsn:allb (hs s) (l.take (j+1))=allb (hs s) (l.take j)++pb l[j] (hs s) (hs s):=by rw [take_snoc l j hkl,allb_snoc]
   have HSN:=Lib.hid hsn
   have hmj:hs s*j≤8*j:=Nat.mul_le_mul_right j hk8
   have hmj2:m+hs s*j≤1000000:=by omega
   clear hown hbel hblk hsn hmj
   generalize l[j]=x at *
   obtain ⟨x0,x1⟩:=hx
   go_wp2_with fail
   refine (put_t _ _ _ x s base B a _ HOwn.out hbs hmj2 HBel.out hB x0 x1).mono ?_
   rintro e w1 ⟨v1,rfl,hown1,hbel1,hbs1,hbk1⟩
   have HO1:=Lib.hid hown1
   have HB1:=Lib.hid hbel1
   have HK1:=Lib.hid (HKT.out.trans hbk1)
   clear hown1 hbel1 hbk1
   go_wp2_with fail
   go_roundw
   case rel =>
    refine ⟨j+1,by omega,by go_num,?_,HB1.out,hbs1,HK1.out⟩
    ·rw [HSN.out,List.map_append,← List.append_assoc,Nat.mul_succ,← Nat.add_assoc]
     exact HO1.out
   case measure=>simp [intOf]; omega
  ·obtain rfl:j=n:=by omega
   have hz:l.take j=l:=List.take_of_length_le (by rw [HN.out]; omega)
   rw [hz] at HOwn
   have HBK:=Lib.hid hblk
   clear hown hbel hz hblk
   go_wp2_with fail
   go_ret
   exact ⟨_,rfl,HOwn.out,HBel.out,hbs,HKT.out⟩
end Go.Proofs.Ytnofddbfogilaaa.snK
