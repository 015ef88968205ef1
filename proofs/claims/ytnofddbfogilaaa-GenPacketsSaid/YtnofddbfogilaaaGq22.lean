/- 4 texts in one. -/
import Derived.Deep.RegionHeld3
import Derived.Deep.DeepCutAuto
import Derived.Laws.CopyOwn
import Derived.Test.YtnofddbfogilaaaGq03
import Derived.Test.YtnofddbfogilaaaGq14
import Derived.Test.YtnofddbfogilaaaGq15
import Derived.Test.YtnofddbfogilaaaGq21
/- Layer 9: the law SixParses where a header begins. -/
namespace Go.Proofs.Ytnofddbfogilaaa.sixU
open Go.ChangeShapes Go.WideShapes Go.ChangeAt Go.RowKit
open sixW sixB
set_option linter.unusedVariables false
theorem le2047 {l:List XP} (h:RightE l) (x:XP) (hx:x ∈ l):x.2.length≤2047:=by
 obtain ⟨i,hi,rfl⟩:=List.getElem_of_mem hx
 have:=h.each i hi
 unfold rightX at this
 simp only [Bool.and_eq_true,decide_eq_true_eq] at this
 exact this.1.2.1
end Go.Proofs.Ytnofddbfogilaaa.sixU
/- Layer 13: pkt.Parse. -/
namespace Go.Proofs.Ytnofddbfogilaaa.pktG
set_option maxHeartbeats 4000000
set_option maxRecDepth 100000
open Go.ChangeShapes Go.WideShapes Go.ChangeAt Go.RowKit
open base octA rdrA rdrG sixW sixM pktA pktB pktC pktD pktE sixA sixE sixF sixO pktF
set_option linter.unusedVariables false
def p4 (l:List Int):Pk × Int:=if fourE l≠0 then (zeroPk,fourE l) else if udpA.w16 l 6 % 8192≠0∨decide (udpA.w16 l 6 / 8192 % 2=1)=true then (zeroPk,21)
 else withP false ⟨l.getD 9 0,false,0,tcpC.w32 l 12,false,0,tcpC.w32 l 16,0,0⟩ (l.getD 8 0) (20+((fourS l - 20:Nat):Int)+((fourR l).length:Int)) (fourR l)
def p6 (l:List Int):Pk × Int:=match sixP l with
 | .inl e=>(zeroPk,e)
 | .inr (ys,q,r)=>if lies ys / 8≠0∨decide (lies ys % 2=1)=true then (zeroPk,21)
  else withP true ⟨q,true,(hdOf l q).sh,(hdOf l q).sl,true,(hdOf l q).dh,(hdOf l q).dl,0,0⟩ (l.getD 7 0) (((40+extL ys:Nat):Int)+(r.length:Int)) r
def pkP (l:List Int):Pk × Int:=if l.length=0 then (zeroPk,2) else if 9000<l.length then (zeroPk,25) else if l.getD 0 0 / 16=4 then p4 l else if l.getD 0 0 / 16=6 then p6 l else (zeroPk,10)
theorem w32_in8 (l:List Int) (hu:U8 l) (i:Nat):0≤tcpC.w32 l i∧tcpC.w32 l i<18446744073709551616:=by
 have a:=hu.get i; have b:=hu.get (i+1); have c:=hu.get (i+2); have d:=hu.get (i+2+1)
 show 0≤(l.getD i 0*256+l.getD (i+1) 0)*65536+(l.getD (i+2) 0*256+l.getD (i+2+1) 0)∧(l.getD i 0*256+l.getD (i+1) 0)*65536+(l.getD (i+2) 0*256+l.getD (i+2+1) 0)<18446744073709551616
 omega
theorem fourS_in (l:List Int) (hu:U8 l) (hn:l.length≤1000) (he:fourE l=0):20≤fourS l∧fourS l≤60∧(fourR l).length≤l.length:=by
 have k0:=hu.get 0
 have hs:0≤fourA.hl l∧fourA.hl l≤60:=by unfold fourA.hl; omega
 unfold fourE at he
 split at he
 ·omega
 ·split at he
  ·omega
  ·split at he
   ·omega
   ·refine ⟨by unfold fourS; omega,by unfold fourS; omega,?_⟩
    unfold fourR
    rw [List.length_take,List.length_drop]
    omega
theorem parse4_any (A:Option Addr) (n c:Nat) (l:List Int) (w:World) (h:Sl w A n c l) (hn:n≤1000) :
  Calls Try.prog 31 #[.slice A n c] w fun o w'=>o=.returned (.tuple #[.agg (p4 l).1.cells,.int .i64 (p4 l).2])∧Below w.heap.size w w':=by
 have HF:=fun V (hV:Below w.heap.size w V)=>four_any A n c l V (h.below hV) hn
 have hl:=h.len
 unfold p4
 by_cases he:fourE l=0
 ·rw [if_neg (by omega)]
  have HG:∀ V,Below w.heap.size w V→Calls Try.prog 44 #[.slice A n c] V fun o w'=>Below V.heap.size V w'∧(20≤fourS l∧fourS l≤60∧(fourR l).length≤l.length∧∃ (tos id:Int) (df:Bool) (AO:Option Addr) (co:Nat) (AR:Option Addr) (cr:Nat),o=.returned (.tuple #[.agg #[.int .i64 tos,.int .i64 id,.bool df,.bool (decide (udpA.w16 l 6 / 8192 % 2=1)),.int .i64 (udpA.w16 l 6 % 8192),.int .i64 (l.getD 8 0),.int .i64 (l.getD 9 0),.bool false,.int .u64 0,.int .u64 (tcpC.w32 l 12),.bool false,.int .u64 0,.int .u64 (tcpC.w32 l 16),.slice AO (fourS l - 20) co],.slice AR (fourR l).length cr,.int .i64 0])∧Sl w' AR (fourR l).length cr (fourR l)):=fun V hV=>(HF V hV).mono fun o w' k=>by
   obtain ⟨hb,k⟩:=k
   rcases k with ⟨k1,_⟩ | ⟨_,k2⟩
   ·exact absurd he k1
   ·exact ⟨hb,k2⟩
  have hs:=fourS_in l h.u8 (by omega) he
  have hr:(fourR l).length≤1000:=by omega
  have k6:=udpA.w16_in l h.u8 6
  by_cases hf:udpA.w16 l 6 % 8192≠0∨decide (udpA.w16 l 6 / 8192 % 2=1)=true
  ·rw [if_pos hf]
   exact parse4_frag A n c _ _ (l.getD 8 0) (l.getD 9 0) (tcpC.w32 l 12) (tcpC.w32 l 16) (fourS l - 20) (fourR l) hr hf w (Lib.hid fun V hV=>(HG V hV).mono fun o w' k=>⟨k.1,k.2.2.2.2⟩)
  ·rw [if_neg hf]
   have h1:udpA.w16 l 6 % 8192=0:=Classical.byContradiction fun e=>hf (.inl e)
   have h2:decide (udpA.w16 l 6 / 8192 % 2=1)=false:=by
    cases hd:decide (udpA.w16 l 6 / 8192 % 2=1) with
    | false=>rfl
    | true=>exact absurd (.inr hd) hf
   exact parse4_ok A n c _ _ (l.getD 8 0) (l.getD 9 0) (tcpC.w32 l 12) (tcpC.w32 l 16) (fourS l - 20) (fourR l) hr h1 h2 (by omega) _ _ _ rfl w (Lib.hid fun V hV=>(HG V hV).mono fun o w' k=>⟨k.1,k.2.2.2.2⟩)
    (Lib.hid fun V A2 c2 hV hsl=>with_any false (l.getD 9 0) false 0 (tcpC.w32 l 12) false 0 (tcpC.w32 l 16) (l.getD 8 0) _ A2 (fourR l).length c2 (fourR l) V hsl hr ⟨by omega,by omega⟩ (w32_in8 l h.u8 12) ⟨by omega,by omega⟩ (w32_in8 l h.u8 16) (h.u8.get 9))
 ·rw [if_pos he]
  exact parse4_fail A n c _ he w (Lib.hid fun V hV=>(HF V hV).mono fun o w' k=>by
   obtain ⟨hb,k⟩:=k
   rcases k with ⟨_,k2⟩ | ⟨k1,_⟩
   ·exact ⟨k2,hb⟩
   ·exact absurd k1 he)
theorem parse6_any (A:Option Addr) (n c:Nat) (l:List Int) (w:World) (h:Sl w A n c l) (hn:n≤1000) (hv:l.getD 0 0 / 16=6) :
  Calls Try.prog 32 #[.slice A n c] w fun o w'=>o=.returned (.tuple #[.agg (p6 l).1.cells,.int .i64 (p6 l).2])∧Below w.heap.size w w':=by
 have hl:=h.len
 have F:∀ e,e≠0→sixP l=.inl e→(∀ V,Below w.heap.size w V→Calls Try.prog 47 #[.slice A n c] V (HeadP V l (sixP l)))→Calls Try.prog 32 #[.slice A n c] w fun o w'=>o=.returned (.tuple #[.agg (p6 l).1.cells,.int .i64 (p6 l).2])∧Below w.heap.size w w':=fun e he hs hc=>by
  have e2:p6 l=(zeroPk,e):=by unfold p6; rw [hs]
  rw [e2]
  rw [hs] at hc
  exact parse6_fail A n c e he w (Lib.hid fun V hV=>(hc V hV).mono fun o w' k=>sixS.headP_fail k)
 by_cases h40:n<40
 ·exact F 2 (by omega) (by unfold sixP; rw [if_pos (by omega)]) fun V hV=>sixF.parse_short A n c l V hl h40
 obtain ⟨b,off,rfl,hb,hs⟩:=lies_of h.row (by omega)
 have HH:∀ V,Below w.heap.size w V→Calls Try.prog 47 #[.slice (some ⟨b,off,none⟩) n c] V (HeadP V l (sixP l)):=fun V hV=>sixF.parse_ok b off n c l V hl (by omega) (by omega) h.nc h.mx (Nat.lt_of_lt_of_le hb hV.size) (hs.below hV hb) h.u8 hv
 by_cases hz:l.length - 40<sizeP l
 ·exact F 12 (by omega) (by unfold sixP; rw [if_neg (by omega),if_neg (by omega),if_pos hz]) HH
 have e:sixP l=ofC (chn 9 [] (l.getD 6 0) ((l.take (40+sizeP l)).drop 40)):=by unfold sixP; rw [if_neg (by omega),if_neg (by omega),if_neg hz]
 rcases hC:chn 9 [] (l.getD 6 0) ((l.take (40+sizeP l)).drop 40) with _ | ⟨ys,q,r⟩
 ·exact F 11 (by omega) (by rw [e,hC]; rfl) HH
 have e1:sixP l=.inr (ys,q,r):=by rw [e,hC]; rfl
 obtain ⟨g1,g2,g3,g4,g5⟩:=sixT.put_back l h.u8 (by omega) hv (by omega) hC
 have hq:0≤q∧q≤255:=⟨g2.p0,g2.p1⟩
 have hxl:=extL_le g2.e
 have ub1:=h.u8.drop 8
 have ub2:=h.u8.drop 24
 have HG:∀ V,Below w.heap.size w V→Calls Try.prog 47 #[.slice (some ⟨b,off,none⟩) n c] V fun o w'=>Below V.heap.size V w'∧∃ (AX:Option Addr) (nx cx:Nat) (cls lab:Int) (AR:Option Addr) (cr:Nat),o=.returned (.tuple #[.agg #[.int .i64 cls,.int .i64 lab,.int .i64 (l.getD 7 0),.bool true,.int .u64 (hdOf l q).sh,.int .u64 (hdOf l q).sl,.bool true,.int .u64 (hdOf l q).dh,.int .u64 (hdOf l q).dl,.slice AX nx cx,.int .i64 q],.slice AR r.length cr,.int .i64 0])∧Sl w' AR r.length cr r
    ∧(∀ V2,Below w'.heap.size w' V2→Calls Try.prog 48 #[.agg #[.int .i64 cls,.int .i64 lab,.int .i64 (l.getD 7 0),.bool true,.int .u64 (hdOf l q).sh,.int .u64 (hdOf l q).sl,.bool true,.int .u64 (hdOf l q).dh,.int .u64 (hdOf l q).dl,.slice AX nx cx,.int .i64 q]] V2 fun o w'=>o=.returned (.int .i64 (lies ys / 8))∧Below V2.heap.size V2 w')
    ∧(∀ V2,Below w'.heap.size w' V2→Calls Try.prog 49 #[.agg #[.int .i64 cls,.int .i64 lab,.int .i64 (l.getD 7 0),.bool true,.int .u64 (hdOf l q).sh,.int .u64 (hdOf l q).sl,.bool true,.int .u64 (hdOf l q).dh,.int .u64 (hdOf l q).dl,.slice AX nx cx,.int .i64 q]] V2 fun o w'=>o=.returned (.bool (decide (lies ys % 2=1)))∧Below V2.heap.size V2 w')
    ∧(∀ V2,Below w'.heap.size w' V2→Calls Try.prog 50 #[.agg #[.int .i64 cls,.int .i64 lab,.int .i64 (l.getD 7 0),.bool true,.int .u64 (hdOf l q).sh,.int .u64 (hdOf l q).sl,.bool true,.int .u64 (hdOf l q).dh,.int .u64 (hdOf l q).dl,.slice AX nx cx,.int .i64 q]] V2 fun o w'=>o=.returned (.int .i64 (40+extL ys:Nat))∧Below V2.heap.size V2 w'):=fun V hV=>by
  have h9:=HH V hV
  rw [e1] at h9
  refine h9.mono fun o w' k=>?_
  obtain ⟨hb9,L,A9,c9,B9,d9,k1,k2,k3,k4⟩:=sixS.headP_good k
  have hU:∀ x ∈ L,U8 x.d:=fun x hx=>g3 x.re (by rw [← k2]; exact List.mem_map_of_mem hx)
  have hLn:L.length=ys.length:=by rw [← k2,List.length_map]
  have h8:=g2.e.most
  have hd7:∀ x ∈ L,x.d.length≤2047:=fun x hx=>sixU.le2047 g2.e x.re (by rw [← k2]; exact List.mem_map_of_mem hx)
  refine ⟨hb9,A9,ys.length,c9,_,_,B9,d9,k1,Sl.own k4 rfl g4,fun V2 hV2=>?_,fun V2 hV2=>?_,fun V2 hV2=>?_⟩
  ·have h7:=sixA.frag_any (hdOf l q) A9 ys.length c9 L V2 hLn ((k3.below hV2).rd hU) (by omega)
   rw [k2] at h7
   exact h7
  ·have h7:=sixA.more_any (hdOf l q) A9 ys.length c9 L V2 hLn ((k3.below hV2).rd hU) (by omega)
   rw [k2] at h7
   exact h7
  ·have h7:=sixO.len_any (hdOf l q) A9 ys.length c9 L V2 hLn ((k3.below hV2).rd hU) (by omega) hd7
   rw [k2] at h7
   exact h7
 have e2:p6 l=if lies ys / 8≠0∨decide (lies ys % 2=1)=true then (zeroPk,21) else withP true ⟨q,true,(hdOf l q).sh,(hdOf l q).sl,true,(hdOf l q).dh,(hdOf l q).dl,0,0⟩ (l.getD 7 0) (((40+extL ys:Nat):Int)+(r.length:Int)) r:=by unfold p6; rw [e1]
 rw [e2]
 by_cases hf:lies ys / 8≠0∨decide (lies ys % 2=1)=true
 ·rw [if_pos hf]
  exact parse6_frag _ n c (l.getD 7 0) true _ _ true _ _ q r (by omega) _ _ (extL ys) hf w (Lib.hid HG)
 ·rw [if_neg hf]
  have h1:lies ys / 8=0:=Classical.byContradiction fun e=>hf (.inl e)
  have h2:decide (lies ys % 2=1)=false:=by
   cases hd:decide (lies ys % 2=1) with
   | false=>rfl
   | true=>exact absurd (.inr hd) hf
  exact parse6_ok _ n c (l.getD 7 0) true _ _ true _ _ q r (by omega) _ _ (extL ys) h1 h2 (by omega) _ _ _ rfl w (Lib.hid HG)
   (Lib.hid fun V A2 c2 hV hsl=>with_any true q true _ _ true _ _ (l.getD 7 0) _ A2 r.length c2 r V hsl (by omega) (sixT.atN_in8 _ ub1 0) (sixT.atN_in8 _ ub1 8) (sixT.atN_in8 _ ub2 0) (sixT.atN_in8 _ ub2 8) hq)
theorem parse_any (A:Option Addr) (n c:Nat) (l:List Int) (w:World) (h:Sl w A n c l) (hn:n≤1000) :
  Calls Try.prog 16 #[.slice A n c] w fun o w'=>o=.returned (.tuple #[.agg (pkP l).1.cells,.int .i64 (pkP l).2])∧Below w.heap.size w w':=by
 have hl:=h.len
 obtain ⟨w1,hw1⟩:∃ w1,w1=w.alloc (.cells #[.bool false,.int .i64 0,.bool false,.int .u64 0,.int .u64 0,.bool false,.int .u64 0,.int .u64 0,.int .i64 0,.int .i64 0,.int .i64 0,.int .i64 0,.bool false,.int .i64 0,.bool false,.int .u64 0,.int .u64 0,.bool false,.int .u64 0,.int .u64 0,.int .i64 0,.int .i64 0,.int .i64 0] 53):=⟨_,rfl⟩
 have E1:=Lib.hid hw1
 have B1:=Lib.hid (show Below w.heap.size w w1 from by rw [hw1]; exact (Below.refl _ _).alloc (Nat.le_refl _) _)
 obtain ⟨q,hq⟩:∃ q,q=w.heap.size:=⟨_,rfl⟩
 have EQ:=Lib.hid hq
 have KQ:=Lib.hid (show Blk w1 q 53 #[.bool false,.int .i64 0,.bool false,.int .u64 0,.int .u64 0,.bool false,.int .u64 0,.int .u64 0,.int .i64 0,.int .i64 0,.int .i64 0,.int .i64 0,.bool false,.int .i64 0,.bool false,.int .u64 0,.int .u64 0,.bool false,.int .u64 0,.int .u64 0,.int .i64 0,.int .i64 0,.int .i64 0] from by rw [hw1,hq]; exact Blk.new w _ _)
 have HI:=Lib.hid pk_size
 clear hw1 hq
 have t9:decide (9000<(n:Int))=false:=decide_eq_false (by omega)
 have t9n:decide (9000<n)=false:=decide_eq_false (by omega)
 by_cases h0:n=0
 ·have e:pkP l=(zeroPk,2):=by unfold pkP; rw [if_pos (by omega)]
  rw [e]
  show Calls _ _ _ _ fun o w'=>o=.returned (.tuple #[.agg #[.bool false,.int .i64 0,.bool false,.int .u64 0,.int .u64 0,.bool false,.int .u64 0,.int .u64 0,.int .i64 0,.int .i64 0,.int .i64 0,.int .i64 0,.bool false,.int .i64 0,.bool false,.int .u64 0,.int .u64 0,.bool false,.int .u64 0,.int .u64 0,.int .i64 0,.int .i64 0,.int .i64 0],.int .i64 2])∧_
  subst h0
  clear h hl e
  go_enter Try.func16,Try.ntmps16
  go_upto_region 1 with fail
  rw [← E1.out,← EQ.out]
  go_wp2_with (refine wpList_store_row rfl 53 _ _ rfl q #[.bool false,.int .i64 0,.bool false,.int .u64 0,.int .u64 0,.bool false,.int .u64 0,.int .u64 0,.int .i64 0,.int .i64 0,.int .i64 0,.int .i64 0,.bool false,.int .i64 0,.bool false,.int .u64 0,.int .u64 0,.bool false,.int .u64 0,.int .u64 0,.int .i64 0,.int .i64 0,.int .i64 0] rfl rfl 53 #[.bool false,.int .i64 0,.bool false,.int .u64 0,.int .u64 0,.bool false,.int .u64 0,.int .u64 0,.int .i64 0,.int .i64 0,.int .i64 0,.int .i64 0,.bool false,.int .i64 0,.bool false,.int .u64 0,.int .u64 0,.bool false,.int .u64 0,.int .u64 0,.int .i64 0,.int .i64 0,.int .i64 0] KQ.out HI.out rfl (by kernel_rfl) ?_)
  refine bodyPost_ret (results_pk rfl _ _ q #[.bool false,.int .i64 0,.bool false,.int .u64 0,.int .u64 0,.bool false,.int .u64 0,.int .u64 0,.int .i64 0,.int .i64 0,.int .i64 0,.int .i64 0,.bool false,.int .i64 0,.bool false,.int .u64 0,.int .u64 0,.bool false,.int .u64 0,.int .u64 0,.int .i64 0,.int .i64 0,.int .i64 0] rfl (blkRow KQ.out _) rfl) rfl ?_
  exact ⟨rfl,(onlyRow _).from B1.out (by have:=EQ.out; omega)⟩
 obtain ⟨b,off,rfl,hb,hs⟩:=lies_of h.row (by omega)
 have y0:w1.cell? ⟨b,off,none⟩=some (.int .u8 (l.getD 0 0)):=(hs.below B1.out hb) 0 (by omega)
 have u0:=h.u8.get 0
 have c0:((n:Int) == 0)=false:=by simpa using h0
 have c0n:(n == 0)=false:=by simpa using h0
 have j0:0<n:=by omega
 have j1:(0:Int)<n:=by omega
 have HSL:=Lib.hid (h.below B1.out)
 obtain ⟨x,hx⟩:∃ x,x=l.getD 0 0:=⟨_,rfl⟩
 have HX:=Lib.hid hx
 rw [← hx] at y0 u0
 by_cases h4:x / 16=4
 ·have e:pkP l=p4 l:=by unfold pkP; rw [if_neg (by omega),if_neg (by omega),if_pos (by rw [← hx]; exact h4)]
  have HP:=Lib.hid (parse4_any (some ⟨b,off,none⟩) n c l w1 HSL.out hn)
  rw [e]
  generalize p4 l=z at HP ⊢
  obtain ⟨P,ee⟩:=z
  have PS2:=Lib.hid (show P.cells.all (·.oneCell')=true from by simp [Pk.cells,Value.oneCell'])
  have t4:(x / 16 == 4)=true:=by simpa using h4
  clear h hl e hb hs hx h0 h4
  go_enter Try.func16,Try.ntmps16
  go_upto_region 1 with fail
  rw [← E1.out,← EQ.out]
  go_wp2_with (first
   | (go_at_call 31; refine HP.out.mono ?_; rintro o w2 ⟨rfl,hb2⟩; have KQ2:=Lib.hid (KQ.out.below hb2 KQ.out.lt); have B2:=Lib.hid (B1.out.trans (hb2.mono B1.out.size)); clear hb2)
   | (refine wpList_store_row rfl 53 _ _ rfl q P.cells rfl rfl 53 #[.bool false,.int .i64 0,.bool false,.int .u64 0,.int .u64 0,.bool false,.int .u64 0,.int .u64 0,.int .i64 0,.int .i64 0,.int .i64 0,.int .i64 0,.bool false,.int .i64 0,.bool false,.int .u64 0,.int .u64 0,.bool false,.int .u64 0,.int .u64 0,.int .i64 0,.int .i64 0,.int .i64 0] KQ2.out HI.out rfl PS2.out ?_))
  refine bodyPost_ret (results_pk rfl _ _ q P.cells rfl (blkRow KQ2.out _) rfl) rfl ?_
  exact ⟨rfl,(onlyRow _).from B2.out (by have:=EQ.out; omega)⟩
 ·have t4:(x / 16 == 4)=false:=by simpa using h4
  by_cases h6:x / 16=6
  ·have e:pkP l=p6 l:=by unfold pkP; rw [if_neg (by omega),if_neg (by omega),if_neg (by rw [← hx]; exact h4),if_pos (by rw [← hx]; exact h6)]
   have HP:=Lib.hid (parse6_any (some ⟨b,off,none⟩) n c l w1 HSL.out hn (by rw [← hx]; exact h6))
   rw [e]
   generalize p6 l=z at HP ⊢
   obtain ⟨P,ee⟩:=z
   have PS2:=Lib.hid (show P.cells.all (·.oneCell')=true from by simp [Pk.cells,Value.oneCell'])
   have t6:(x / 16 == 6)=true:=by simpa using h6
   clear h hl e hb hs hx h0 h4 h6
   go_enter Try.func16,Try.ntmps16
   go_upto_region 1 with fail
   rw [← E1.out,← EQ.out]
   go_wp2_with (first
    | (go_at_call 32; refine HP.out.mono ?_; rintro o w2 ⟨rfl,hb2⟩; have KQ2:=Lib.hid (KQ.out.below hb2 KQ.out.lt); have B2:=Lib.hid (B1.out.trans (hb2.mono B1.out.size)); clear hb2)
    | (refine wpList_store_row rfl 53 _ _ rfl q P.cells rfl rfl 53 #[.bool false,.int .i64 0,.bool false,.int .u64 0,.int .u64 0,.bool false,.int .u64 0,.int .u64 0,.int .i64 0,.int .i64 0,.int .i64 0,.int .i64 0,.bool false,.int .i64 0,.bool false,.int .u64 0,.int .u64 0,.bool false,.int .u64 0,.int .u64 0,.int .i64 0,.int .i64 0,.int .i64 0] KQ2.out HI.out rfl PS2.out ?_))
   refine bodyPost_ret (results_pk rfl _ _ q P.cells rfl (blkRow KQ2.out _) rfl) rfl ?_
   exact ⟨rfl,(onlyRow _).from B2.out (by have:=EQ.out; omega)⟩
  ·have e:pkP l=(zeroPk,10):=by unfold pkP; rw [if_neg (by omega),if_neg (by omega),if_neg (by rw [← hx]; exact h4),if_neg (by rw [← hx]; exact h6)]
   rw [e]
   show Calls _ _ _ _ fun o w'=>o=.returned (.tuple #[.agg #[.bool false,.int .i64 0,.bool false,.int .u64 0,.int .u64 0,.bool false,.int .u64 0,.int .u64 0,.int .i64 0,.int .i64 0,.int .i64 0,.int .i64 0,.bool false,.int .i64 0,.bool false,.int .u64 0,.int .u64 0,.bool false,.int .u64 0,.int .u64 0,.int .i64 0,.int .i64 0,.int .i64 0],.int .i64 10])∧_
   have t6:(x / 16 == 6)=false:=by simpa using h6
   clear h hl e hb hs hx h0 h4 h6
   go_enter Try.func16,Try.ntmps16
   go_upto_region 1 with fail
   rw [← E1.out,← EQ.out]
   go_wp2_with (refine wpList_store_row rfl 53 _ _ rfl q #[.bool false,.int .i64 0,.bool false,.int .u64 0,.int .u64 0,.bool false,.int .u64 0,.int .u64 0,.int .i64 0,.int .i64 0,.int .i64 0,.int .i64 0,.bool false,.int .i64 0,.bool false,.int .u64 0,.int .u64 0,.bool false,.int .u64 0,.int .u64 0,.int .i64 0,.int .i64 0,.int .i64 0] rfl rfl 53 #[.bool false,.int .i64 0,.bool false,.int .u64 0,.int .u64 0,.bool false,.int .u64 0,.int .u64 0,.int .i64 0,.int .i64 0,.int .i64 0,.int .i64 0,.bool false,.int .i64 0,.bool false,.int .u64 0,.int .u64 0,.bool false,.int .u64 0,.int .u64 0,.int .i64 0,.int .i64 0,.int .i64 0] KQ.out HI.out rfl (by kernel_rfl) ?_)
   refine bodyPost_ret (results_pk rfl _ _ q #[.bool false,.int .i64 0,.bool false,.int .u64 0,.int .u64 0,.bool false,.int .u64 0,.int .u64 0,.int .i64 0,.int .i64 0,.int .i64 0,.int .i64 0,.bool false,.int .i64 0,.bool false,.int .u64 0,.int .u64 0,.bool false,.int .u64 0,.int .u64 0,.int .i64 0,.int .i64 0,.int .i64 0] rfl (blkRow KQ.out _) rfl) rfl ?_
   exact ⟨rfl,(onlyRow _).from B1.out (by have:=EQ.out; omega)⟩
end Go.Proofs.Ytnofddbfogilaaa.pktG
/- Layer 13: a packet whose bytes behind its header a closure makes. -/
namespace Go.Proofs.Ytnofddbfogilaaa.pktL
open Go.ChangeShapes Go.WideShapes Go.ChangeAt Go.RowKit
open rdrA rdrG pktA pktB
set_option linter.unusedVariables false
def MkP (e:Int) (out:List Int) (w:World) (o:Ending) (w':World):Prop:=Below w.heap.size w w'∧∃ (A:Option Addr) (n c:Nat),o=.returned (.tuple #[.slice A n c,.int .i64 e])∧Sl w' A n c out
theorem MkP.nil_ {e:Int} {w w':World} (h:Below w.heap.size w w'):MkP e [] w (.returned (.tuple #[.slice none 0 0,.int .i64 e])) w':=⟨h,none,0,0,rfl,Sl.none_ w'⟩
end Go.Proofs.Ytnofddbfogilaaa.pktL
/- Layer 11: a datagram as bytes. -/
namespace Go.Proofs.Ytnofddbfogilaaa.udpB
open Go.ChangeShapes Go.WideShapes Go.ChangeAt Go.RowKit
open base sumA sumB octA octB octE rdrA udpA
set_option linter.unusedVariables false
def ports (sp dp:Int):Prop:=0≤sp∧sp≤65535∧0≤dp∧dp≤65535
theorem right_yes (sp dp:Int) (bare:Bool) (w:World) (h:ports sp dp) :
  Calls Try.prog 56 #[.agg #[.int .i64 sp,.int .i64 dp,.bool bare]] w fun e w'=>e=.returned (.bool true)∧w.alloc (.cells #[.int .i64 sp,.int .i64 dp,.bool bare] 78)=w':=by
 obtain ⟨h1,h2,h3,h4⟩:=h
 go_enter Try.func56,Try.ntmps56
 go_wp2
 go_ret
 exact ⟨rfl,rfl⟩
theorem right_no (sp dp:Int) (bare:Bool) (w:World) (h:¬ ports sp dp) :
  Calls Try.prog 56 #[.agg #[.int .i64 sp,.int .i64 dp,.bool bare]] w fun e w'=>e=.returned (.bool false)∧w.alloc (.cells #[.int .i64 sp,.int .i64 dp,.bool bare] 78)=w':=by
 have h':sp<0∨(0≤sp∧65535<sp)∨(0≤sp∧sp≤65535∧dp<0)∨(0≤sp∧sp≤65535∧0≤dp∧65535<dp):=by unfold ports at h; omega
 clear h
 rcases h' with h | ⟨h1,h⟩ | ⟨h1,h2,h⟩ | ⟨h1,h2,h3,h⟩
 all_goals
  first | (have q:decide (dp≤65535)=false:=decide_eq_false (by omega)) | skip
  go_enter Try.func56,Try.ntmps56
  go_wp2
  go_ret
  exact ⟨rfl,rfl⟩
def chkZ (l:List Int):Int:=if 65535 - fo (wsum l)=0 then 65535 else 65535 - fo (wsum l)
theorem chkZ_in (l:List Int) (hb:∀ x ∈ l,0≤x∧x≤255):0≤chkZ l∧chkZ l≤65535:=by
 have:=fo_bd (wsum l) (wsum_bd l hb).1
 unfold chkZ
 split <;> omega
theorem check_any (A1 A2:Option Addr) (n1 n2 c1 c2:Nat) (l1 l2:List Int) (W:World) (h1:l1.length=n1) (h2:l2.length=n2) (k1:n1≤100000) (k2:n2≤100000)
  (r1:Row W W.heap.size A1 (l1.map (.int .u8))) (r2:Row W W.heap.size A2 (l2.map (.int .u8)))
  (b1:∀ x ∈ l1,0≤x∧x≤255) (b2:∀ x ∈ l2,0≤x∧x≤255) :
  Calls Try.prog 59 #[.slice A1 n1 c1,.slice A2 n2 c2] W fun e w'=>e=.returned (.int .u16 (chkZ (l1++l2)))∧Below W.heap.size W w':=by
 obtain ⟨x,y⟩:=two (c1:=c1) (c2:=c2) h1 h2 r1 r2 b1 b2 (Below.refl _ _) 47
 have e:flat [⟨A1,c1,l1⟩,⟨A2,c2,l2⟩]=l1++l2:=by simp [flat]
 have hc:=sumC.check_any (some ⟨W.heap.size,0,none⟩) 2 2 [⟨A1,c1,l1⟩,⟨A2,c2,l2⟩] (W.alloc (.cells #[.slice A1 n1 c1,.slice A2 n2 c2] 47)) (W.heap.size+1) rfl (by omega) (by rw [e,List.length_append,h1,h2]; omega) x y
 rw [e] at hc
 have hbd:=fo_bd (wsum (l1++l2)) (wsum_bd _ (fun x hx=>(List.mem_append.1 hx).elim (b1 x) (b2 x))).1
 have HC:=Lib.hid hc
 have hz:chkZ (l1++l2)=if 65535 - fo (wsum (l1++l2))=0 then 65535 else 65535 - fo (wsum (l1++l2)):=rfl
 have HZ:=Lib.hid hz
 clear hc x y e r1 r2 b1 b2 h1 h2 hz
 generalize 65535 - fo (wsum (l1++l2))=s at *
 by_cases hs:s=0
 ·rw [if_pos hs] at HZ
  subst hs
  rw [HZ.out]
  go_enter Try.func59,Try.ntmps59
  go_wp2_with fail
  refine HC.out.mono ?_
  rintro e w' ⟨rfl,rfl⟩
  go_wp2_with fail
  go_ret
  exact ⟨rfl,(Below.refl _ _).alloc (Nat.le_refl _) _⟩
 ·rw [if_neg hs] at HZ
  rw [HZ.out]
  have t1:(s != 0)=true:=by simpa using hs
  go_enter Try.func59,Try.ntmps59
  go_wp2_with fail
  refine HC.out.mono ?_
  rintro e w' ⟨rfl,rfl⟩
  go_wp2_with fail
  go_ret
  exact ⟨rfl,(Below.refl _ _).alloc (Nat.le_refl _) _⟩
def ub (sp dp:Int) (pl:List Int) (chk:Int):List Int:=allb 2 [sp,dp,((8+pl.length:Nat):Int)]++pb chk 2 2++pl
theorem ub_len (sp dp:Int) (pl:List Int) (chk:Int):(ub sp dp pl chk).length=8+pl.length:=by
 simp [ub,allb_len,pb_len]; omega
theorem splice_one (six pl:List Int) (h6:six.length=6):splice (splice (List.replicate (8+pl.length) (0:Int)) 0 six) 8 pl=six++[0,0]++pl:=by
 have e:List.replicate (8+pl.length) (0:Int)=List.replicate 6 0++([0,0]++List.replicate pl.length 0):=by
  rw [show 8+pl.length=6+(2+pl.length) by omega,← List.replicate_append_replicate,← List.replicate_append_replicate]
  rfl
 have s1:splice (List.replicate (8+pl.length) (0:Int)) 0 six=six++[0,0]++List.replicate pl.length 0:=by
  rw [e]
  unfold splice
  rw [h6,List.take_zero,List.nil_append,Nat.zero_add,List.drop_append,List.drop_of_length_le (by simp)]
  simp
 rw [s1]
 unfold splice
 rw [List.take_append,List.take_of_length_le (by simp [h6]),List.drop_append,List.drop_of_length_le (by simp [h6])]
 simp [h6]
theorem splice_two (six pl ck:List Int) (h6:six.length=6) (h2:ck.length=2):splice (six++[0,0]++pl) 6 ck=six++ck++pl:=by
 unfold splice
 rw [List.append_assoc,List.take_append,List.take_of_length_le (by omega),List.drop_append,List.drop_of_length_le (by omega),h6,h2]
 simp
theorem ub_zero (sp dp:Int) (pl:List Int):ub sp dp pl 0=allb 2 [sp,dp,((8+pl.length:Nat):Int)]++[0,0]++pl:=by
 unfold ub
 rw [show pb 0 2 2=[0,0] by decide]
theorem ub_in (sp dp:Int) (pl:List Int) (chk:Int) (hb:∀ x ∈ pl,0≤x∧x≤255):∀ x ∈ ub sp dp pl chk,0≤x∧x≤255:=by
 intro x hx
 unfold ub at hx
 rw [List.mem_append,List.mem_append] at hx
 rcases hx with (hx | hx) | hx
 ·exact allb_in 2 _ x hx
 ·unfold pb at hx
  rw [List.mem_map] at hx
  obtain ⟨i,_,rfl⟩:=hx
  exact byteZ_in _ _
 ·exact hb x hx
theorem bytes_wrong (sp dp:Int) (bare:Bool) (A A2:Option Addr) (n c n2 c2:Nat) (w:World) (h:¬ ports sp dp) :
  Calls Try.prog 41 #[.agg #[.int .i64 sp,.int .i64 dp,.bool bare],.slice A n c,.slice A2 n2 c2] w fun e w'=>e=.returned (.tuple #[.slice none 0 0,.int .i64 1])∧Below w.heap.size w w':=by
 have H:=Lib.hid (fun w=>right_no sp dp bare w h)
 clear h
 go_enter Try.func41,Try.ntmps41
 go_wp2_with fail
 refine (H.out _).mono ?_
 rintro e w' ⟨rfl,rfl⟩
 go_wp2_with fail
 go_ret2
 exact ⟨rfl,((Below.refl _ _).alloc (Nat.le_refl _) _).alloc (by simp) _⟩
def BPost (w:World) (n:Nat) (l:List Int) (e:Ending) (w':World):Prop :=
 ∃ v,e=.returned (.tuple #[v,.int .i64 0])∧w'.ownsRow w.heap.size 5 1 v n (l.map (.int .u8))∧Below w.heap.size w w'
end Go.Proofs.Ytnofddbfogilaaa.udpB
