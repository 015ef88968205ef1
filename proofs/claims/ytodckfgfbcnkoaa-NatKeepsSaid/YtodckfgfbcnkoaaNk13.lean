/- 5 texts in one. -/
import Derived.Laws.AppendOwnNone
import Derived.Deep.RegionHeldLaw
import Derived.Test.YtodckfgfbcnkoaaNk04
import Derived.Test.YtodckfgfbcnkoaaNk09
import Derived.Test.YtodckfgfbcnkoaaNk12
set_option linter.unusedVariables false
open Go.ChangeShapes Go.WideShapes Go.ChangeAt Go.RowKit
/- Layer 5: the bytes of an address of version 6. -/
namespace Go.Proofs.Ytodckfgfbcnkoaa.sixJ
set_option maxHeartbeats 4000000
set_option maxRecDepth 100000
open base octA octF rdrA rdrG sixM sixB
theorem bits_six (a b:Int) (w:World):Calls Try.prog 83 #[.agg #[.bool true,.int .u64 a,.int .u64 b]] w fun o w'=>o=.returned (.int .i64 128)∧Below w.heap.size w w':=by
 go_enter Try.func83,Try.ntmps83
 go_wp2
 go_ret
 exact ⟨rfl,(Below.refl _ _).alloc (Nat.le_refl _) _⟩
def aB (hh ll:Int) (j i:Nat):Int:=if i<8 then (if i<j then byteZ hh (7 - i) else 0) else (if i - 8<j then byteZ ll (7 - (i - 8)) else 0)
structure Ar (hh ll:Int) (j:Nat) (cs:Array Value):Prop where
 size:cs.size=16
 at_:∀ i,i<16→cs[i]?=some (.int .u8 (aB hh ll j i))
theorem Ar.zero (hh ll:Int):Ar hh ll 0 #[.int .u8 0,.int .u8 0,.int .u8 0,.int .u8 0,.int .u8 0,.int .u8 0,.int .u8 0,.int .u8 0,.int .u8 0,.int .u8 0,.int .u8 0,.int .u8 0,.int .u8 0,.int .u8 0,.int .u8 0,.int .u8 0]:=⟨rfl,fun i hi=>by
 have:aB hh ll 0 i=0:=by unfold aB; simp
 rw [this]
 show ((List.replicate 16 (Value.int .u8 0)).toArray)[i]?=_
 rw [List.getElem?_toArray,List.getElem?_replicate,if_pos hi]⟩
theorem Ar.next {hh ll:Int} {j:Nat} {cs:Array Value} (h:Ar hh ll j cs) (hj:j<8):Ar hh ll (j+1) ((cs.setIfInBounds j (.int .u8 (byteZ hh (7 - j)))).setIfInBounds (8+j) (.int .u8 (byteZ ll (7 - j)))):=by
 refine ⟨by rw [Array.size_setIfInBounds,Array.size_setIfInBounds]; exact h.size,fun i hi=>?_⟩
 have hs:=h.size
 rw [Array.getElem?_setIfInBounds,Array.getElem?_setIfInBounds,Array.size_setIfInBounds]
 by_cases h1:8+j=i
 ·subst h1
  rw [if_pos rfl,if_pos (by omega)]
  unfold aB
  rw [if_neg (by omega),show 8+j - 8=j by omega,if_pos (by omega)]
 ·rw [if_neg h1]
  by_cases h2:j=i
  ·subst h2
   rw [if_pos rfl,if_pos (by omega)]
   unfold aB
   rw [if_pos (by omega),if_pos (by omega)]
  ·rw [if_neg h2,h.at_ i hi]
   congr 2
   unfold aB
   by_cases h3:i<8
   ·rw [if_pos h3,if_pos h3]
    by_cases h4:i<j
    ·rw [if_pos h4,if_pos (by omega)]
    ·rw [if_neg h4,if_neg (by omega)]
   ·rw [if_neg h3,if_neg h3]
    by_cases h4:i - 8<j
    ·rw [if_pos h4,if_pos (by omega)]
    ·rw [if_neg h4,if_neg (by omega)]
theorem aB_list (hh ll:Int) (i:Nat) (hi:i<16):some (Value.int .u8 (aB hh ll 8 i))=((pb hh 8 8++pb ll 8 8).map (Value.int .u8))[i]?:=by
 have e1:(pb hh 8 8).length=8:=pb_len hh 8 8
 rw [List.getElem?_map]
 unfold aB
 by_cases h:i<8
 ·rw [if_pos h,if_pos h,List.getElem?_append_left (by omega)]
  unfold pb
  rw [List.getElem?_map,List.getElem?_range (by omega)]
  rfl
 ·rw [if_neg h,if_pos (by omega),List.getElem?_append_right (by omega),e1]
  unfold pb
  rw [List.getElem?_map,List.getElem?_range (by omega)]
  rfl
theorem abytes_any (hh ll:Int) (w:World) (h0:0≤hh) (h1:hh<18446744073709551616) (l0:0≤ll) (l1:ll<18446744073709551616) :
  Calls Try.prog 54 #[.agg #[.bool true,.int .u64 hh,.int .u64 ll]] w fun o w'=>∃ v,o=.returned v∧w'.ownsRow w.heap.size 5 1 v 16 ((pb hh 8 8++pb ll 8 8).map (.int .u8))∧Below w.heap.size w w':=by
 obtain ⟨i0,hi0,hz0,hz1,hz2⟩:=info_parts info_u8
 obtain ⟨g,hg⟩:∃ g,g=w.heap.size:=⟨_,rfl⟩
 obtain ⟨w1,hw1⟩:∃ w1,w1=w.alloc (.cells #[.bool true,.int .u64 hh,.int .u64 ll] 32):=⟨_,rfl⟩
 have E1:=Lib.hid hw1
 have EG:=Lib.hid hg
 have s1:w1.heap.size=g+1:=by rw [hw1,hg]; simp
 have K1:=Lib.hid (show Blk w1 g 32 #[.bool true,.int .u64 hh,.int .u64 ll] from by rw [hw1,hg]; exact Blk.new w _ _)
 obtain ⟨w2,hw2⟩:∃ w2,w2=w1.alloc (.cells #[.int .u8 0,.int .u8 0,.int .u8 0,.int .u8 0,.int .u8 0,.int .u8 0,.int .u8 0,.int .u8 0,.int .u8 0,.int .u8 0,.int .u8 0,.int .u8 0,.int .u8 0,.int .u8 0,.int .u8 0,.int .u8 0] 118):=⟨_,rfl⟩
 have E2:=Lib.hid hw2
 have B2:=Lib.hid (show Below g w w2 from by rw [hw2,hw1,hg]; exact ((Below.refl _ _).alloc (Nat.le_refl _) _).alloc (by simp) _)
 have BB:=Lib.hid (show Below w1.heap.size w1 w2 from by rw [hw2]; exact (Below.refl _ _).alloc (Nat.le_refl _) _)
 have K2:=Lib.hid (show Blk w2 (g+1) 118 #[.int .u8 0,.int .u8 0,.int .u8 0,.int .u8 0,.int .u8 0,.int .u8 0,.int .u8 0,.int .u8 0,.int .u8 0,.int .u8 0,.int .u8 0,.int .u8 0,.int .u8 0,.int .u8 0,.int .u8 0,.int .u8 0] from by rw [hw2,← s1]; exact Blk.new w1 _ _)
 have S2:=Lib.hid (show w2.heap.size=g+2 from by rw [hw2]; simp; omega)
 have KA:=Lib.hid (K1.out.below BB.out K1.out.lt)
 have S1:=Lib.hid s1
 rw [← EG.out]
 clear hw1 hw2 hg s1
 go_enter Try.func54,Try.ntmps54
 go_upto_region 2 with fail
 rw [← EG.out,← E1.out,← E2.out]
 go_wp2_with fail
 go_loopw [7] (fun i wr=>∃ (j:Nat) (cs:Array Value),j≤8∧i=.int .i64 j∧Hid (Ar hh ll j cs)∧Hid (Blk wr (g+1) 118 cs)∧Hid (Blk wr g 32 #[.bool true,.int .u64 hh,.int .u64 ll])∧Hid (Below g w wr)∧Hid (g+2≤wr.heap.size)) (fun i _=>8 - (intOf i).toNat)
 case atStart=>exact ⟨0,_,by omega,rfl,Lib.hid (Ar.zero hh ll),K2,KA,B2,Lib.hid (by have:=S2.out; omega)⟩
 case round =>
  obtain ⟨j,cs,hj,rfl,HA,HK,HKA,HB,HZ⟩:=hrel
  have d1:=HKA.out.cell 1
  have d2:=HKA.out.cell 2
  by_cases hlt:j<8
  ·obtain ⟨q,hq⟩:∃ q,q=7 - j:=⟨_,rfl⟩
   have w8:IntKind.i64.wrap (8*(j:Int))=8*(j:Int):=IntWalk.i64_in _ (by omega)
   have w56:IntKind.i64.wrap (56 - 8*(j:Int))=((8*q:Nat):Int):=by rw [IntWalk.i64_in _ (by omega)]; omega
   have c1:=(HK.out.cell j).trans (HA.out.at_ j (by omega))
   have c2:=(HK.out.cell (8+j)).trans (HA.out.at_ (8+j) (by omega))
   have f1:=HK.out.frozen j
   have f2:=HK.out.frozen (8+j)
   have t1:decide ((j:Int)<8)=true:=decide_eq_true (by omega)
   have i0:(0:Int)≤j:=by omega
   have i1:(j:Int)<16:=by omega
   have w88:IntKind.i64.wrap (8+(j:Int))=8+(j:Int):=IntWalk.i64_in _ (by omega)
   have HK2:=Lib.hid (show Blk (wr.setCell ⟨g+1,j,none⟩ (.int .u8 (byteZ hh q))) (g+1) 118 (cs.setIfInBounds j (.int .u8 (byteZ hh q))) from HK.out.set_ j _)
   have c3:(wr.setCell ⟨g+1,j,none⟩ (.int .u8 (byteZ hh q))).cell? ⟨g+1,8+j,none⟩=some (.int .u8 (aB hh ll j (8+j))):=by
    rw [HK2.out.cell,Array.getElem?_setIfInBounds,if_neg (by omega)]
    exact HA.out.at_ (8+j) (by omega)
   have f3:=HK2.out.frozen (8+j)
   have i2:(0:Int)≤8+j:=by omega
   have i3:8+(j:Int)<16:=by omega
   have HKZ:=Lib.hid (show Blk ((wr.setCell ⟨g+1,j,none⟩ (.int .u8 (byteZ hh q))).setCell ⟨g+1,8+j,none⟩ (.int .u8 (byteZ ll q))) (g+1) 118 ((cs.setIfInBounds j (.int .u8 (byteZ hh q))).setIfInBounds (8+j) (.int .u8 (byteZ ll q))) from HK2.out.set_ (8+j) _)
   have BZ:=Lib.hid (show Below (g+1) wr ((wr.setCell ⟨g+1,j,none⟩ (.int .u8 (byteZ hh q))).setCell ⟨g+1,8+j,none⟩ (.int .u8 (byteZ ll q))) from ((Below.refl _ _).setCell (p:=⟨g+1,j,none⟩) (Nat.le_refl (g+1)) _).setCell (p:=⟨g+1,8+j,none⟩) (Nat.le_refl (g+1)) _)
   have hq8:(q:Int)≤7:=by omega
   have hq9:q≤7:=by omega
   have hdh:0≤hh / 2 ^ (8*q):=Int.ediv_nonneg h0 (Int.le_of_lt (Int.pow_pos (by decide)))
   have hdl:0≤ll / 2 ^ (8*q):=Int.ediv_nonneg l0 (Int.le_of_lt (Int.pow_pos (by decide)))
   have hbh:IntKind.u8.wrap (hh / 2 ^ (8*q))=byteZ hh q:=by rw [IntKind.wrap_u8']; rfl
   have hbl:IntKind.u8.wrap (ll / 2 ^ (8*q))=byteZ ll q:=by rw [IntKind.wrap_u8']; rfl
   have HAN:=Lib.hid (show Ar hh ll (j+1) ((cs.setIfInBounds j (.int .u8 (byteZ hh q))).setIfInBounds (8+j) (.int .u8 (byteZ ll q))) from hq ▸ Ar.next HA.out hlt)
   clear hq
   go_wp2_with fail
   go_roundw
   case rel=>exact ⟨j+1,_,by omega,by go_num,HAN,HKZ,Lib.hid (HKA.out.below BZ.out (Nat.lt_succ_self g)),Lib.hid (HB.out.trans (BZ.out.mono (Nat.le_succ g))),Lib.hid (Nat.le_trans HZ.out BZ.out.size)⟩
   case measure=>simp [intOf]; omega
  ·obtain rfl:j=8:=by omega
   have d0:=HKA.out.cell 0
   have hmk:=fun (W:World)=>run_make_one (P:=Try.prog) 22 5 i0 _ Try.underlying22 hi0 hz0 hz1 rfl .i64 .i64 (16:Int) (by omega) (by rw [hz2]; omega) (by omega) W
   have HBT:=Lib.hid (fun V=>bits_six hh ll V)
   have t1:decide (((8:Nat):Int)<8)=false:=by decide
   go_wp2_with fail
   refine (HBT.out _).mono ?_
   rintro e w5 ⟨rfl,hb5⟩
   have B5:=Lib.hid (HK.out.below hb5 HK.out.lt)
   have L5:=Lib.hid (show Below g w w5 from HB.out.trans (hb5.mono (by have:=HZ.out; omega)))
   have Z5:=Lib.hid (show g+2≤w5.heap.size from Nat.le_trans HZ.out hb5.size)
   have BZ:=Lib.hid (show Blk (w5.alloc (.cells (zeros 16 (.int .u8 0)) 5)) w5.heap.size 5 ([Value.int .u8 0,.int .u8 0,.int .u8 0,.int .u8 0,.int .u8 0,.int .u8 0,.int .u8 0,.int .u8 0,.int .u8 0,.int .u8 0,.int .u8 0,.int .u8 0,.int .u8 0,.int .u8 0,.int .u8 0,.int .u8 0]:List Value).toArray from Blk.new w5 5 (zeros 16 (.int .u8 0)))
   have BA:=Lib.hid (B5.out.alloc (.cells (zeros 16 (.int .u8 0)) 5))
   have LZ:=Lib.hid (L5.out.alloc (by have:=Z5.out; omega) (.cells (zeros 16 (.int .u8 0)) 5))
   have SRC:=Lib.hid (show ∀ i v,((pb hh 8 8++pb ll 8 8).map (Value.int .u8))[i]?=some v→(w5.alloc (.cells (zeros 16 (.int .u8 0)) 5)).cell? ((⟨g+1,0,none⟩:Addr).add i)=some v from fun i v hv=>by
    have hi:i<16:=by have:=(List.getElem?_eq_some_iff.1 hv).1; simpa [pb] using this
    rw [Addr.add_lit,Nat.zero_add,BA.out.cell,HA.out.at_ i hi,← hv,aB_list hh ll i hi])
   have ONE:=Lib.hid (show ∀ v ∈ (pb hh 8 8++pb ll 8 8).map (Value.int .u8),v.oneCell'=true from fun v hv=>by
    rw [List.mem_map] at hv
    obtain ⟨x,_,rfl⟩:=hv
    rfl)
   have LE:=Lib.hid (show g≤w5.heap.size from by have:=Z5.out; omega)
   clear hb5 d0 d1 d2
   go_wp2_with (refine wpList_copy_splice (o:=⟨some 39,_,_,_,_,_⟩) rfl (.tmp 34) (.tmp 38) 22 22 rfl 5 Try.underlying22 info1 (some ⟨w5.heap.size,0,none⟩) (some ⟨g+1,0,none⟩) 16 16 16 16 rfl rfl w5.heap.size 0 [Value.int .u8 0,.int .u8 0,.int .u8 0,.int .u8 0,.int .u8 0,.int .u8 0,.int .u8 0,.int .u8 0,.int .u8 0,.int .u8 0,.int .u8 0,.int .u8 0,.int .u8 0,.int .u8 0,.int .u8 0,.int .u8 0] 5 BZ.out ((pb hh 8 8++pb ll 8 8).map (Value.int .u8)) rfl (fun _=>⟨rfl,_,rfl,SRC.out⟩) (Nat.le_refl _) ONE.out g w LZ.out LE.out ?_; intro w6 hg6 hb6; have G6:=hg6; have L6:=Lib.hid hb6; clear hg6 hb6)
   go_ret
   refine ⟨_,rfl,⟨rfl,.inr ⟨w5.heap.size,16,_,rfl,LE.out,G6.out,Nat.le_refl _,by unfold maxLen; omega,rfl,rfl⟩⟩,L6.out⟩
end Go.Proofs.Ytodckfgfbcnkoaa.sixJ
/- Layer 9: the law's bytes. -/
namespace Go.Proofs.Ytodckfgfbcnkoaa.sixK
open octA rdrG sixW sixM
def hd8 (cls lab hop p0:Int) (n:Nat):List Int:=[96+cls / 16,cls % 16*16+lab / 65536,lab / 256 % 256,lab % 256,(n:Int) / 256 % 256,(n:Int) % 256,p0,hop]
def hdB (h:Hs) (p0:Int) (n:Nat):List Int:=hd8 h.cls h.lab h.hop p0 n++(pb h.sh 8 8++pb h.sl 8 8)++(pb h.dh 8 8++pb h.dl 8 8)
def sixB (h:Hs) (l:List XP) (r:List Int):List Int:=hdB h (nextK l h.p) (extL l+r.length)++(extB l h.p++r)
theorem one_map (l:List Int):∀ u ∈ l.map (Value.int .u8),u.oneCell'=true:=fun u hu=>by
 rw [List.mem_map] at hu
 obtain ⟨x,_,rfl⟩:=hu
 rfl
end Go.Proofs.Ytodckfgfbcnkoaa.sixK
namespace Go.Proofs.Ytodckfgfbcnkoaa.sixN
end Go.Proofs.Ytodckfgfbcnkoaa.sixN
/- Layer 9: next, Len, the law's cut. -/
namespace Go.Proofs.Ytodckfgfbcnkoaa.sixO
set_option maxHeartbeats 4000000
set_option maxRecDepth 100000
open base rdrA rdrG sixW sixM sixE
theorem next_any (h:Hs) (A:Option Addr) (n c k:Nat) (l:List Xt) (w:World) (hl:l.length=n) (hr:RdX w A l) (hn:n≤1000000) :
  Calls Try.prog 69 #[.agg (h.cells (.slice A n c)),.int .i64 k] w fun o w'=>o=.returned (.int .i64 (nextK ((l.map Xt.re).drop k) h.p))∧Below w.heap.size w w':=by
 obtain ⟨cls,lab,hop,s6,sh,sl,d6,dh,dl,p⟩:=h
 obtain ⟨w1,hw1⟩:∃ w1,w1=w.alloc (.cells #[.int .i64 cls,.int .i64 lab,.int .i64 hop,.bool s6,.int .u64 sh,.int .u64 sl,.bool d6,.int .u64 dh,.int .u64 dl,.slice A n c,.int .i64 p] 48):=⟨_,rfl⟩
 have E1:=Lib.hid hw1
 have BA:=Lib.hid (show Below w.heap.size w w1 from by rw [hw1]; exact (Below.refl _ _).alloc (Nat.le_refl _) _)
 have KB:=Lib.hid (show Blk w1 w.heap.size 48 #[.int .i64 cls,.int .i64 lab,.int .i64 hop,.bool s6,.int .u64 sh,.int .u64 sl,.bool d6,.int .u64 dh,.int .u64 dl,.slice A n c,.int .i64 p] from by rw [hw1]; exact Blk.new w _ _)
 have HR1:=Lib.hid (hr.below BA.out)
 have SZ1:=Lib.hid (show w1.heap.size=w.heap.size+1 from by rw [hw1]; simp)
 have HL:=Lib.hid hl
 have x9:=KB.out.cell 9
 have x10:=KB.out.cell 10
 show Calls _ _ #[.agg #[.int .i64 cls,.int .i64 lab,.int .i64 hop,.bool s6,.int .u64 sh,.int .u64 sl,.bool d6,.int .u64 dh,.int .u64 dl,.slice A n c,.int .i64 p],.int .i64 k] _ _
 by_cases hk:k<n
 ·have hkl:k<l.length:=by rw [hl]; exact hk
  obtain ⟨b,off,hA,hbl,hC⟩:=HR1.out.at_ k hkl
  subst hA
  have d0:w1.cell? ⟨b,off+k*2,none⟩=some (.int .i64 (l[k]).kind):=hC 0 (by omega)
  have hv:nextK ((l.map Xt.re).drop k) p=(l[k]).kind:=by
   rw [List.drop_eq_getElem_cons (by rw [List.length_map]; exact hkl),List.getElem_map]
   rfl
  show Calls _ _ _ _ fun o w'=>o=.returned (.int .i64 (nextK ((l.map Xt.re).drop k) p))∧_
  rw [hv]
  obtain ⟨y,hy⟩:∃ y,y=(l[k]).kind:=⟨_,rfl⟩
  rw [← hy] at d0 ⊢
  have j0:(0:Int)≤k:=by omega
  have j1:(k:Int)<n:=by omega
  have t1:decide ((k:Int)<n)=true:=decide_eq_true j1
  have t1n:decide (k<n)=true:=decide_eq_true hk
  clear hw1 hl hr hkl hC hv hy hk hbl
  go_enter Try.func69,Try.ntmps69
  go_upto_region 1 with fail
  rw [← E1.out]
  go_wp2_with fail
  go_ret
  exact ⟨rfl,BA.out⟩
 ·have hv:nextK ((l.map Xt.re).drop k) p=p:=by
   rw [List.drop_of_length_le (by rw [List.length_map,hl]; omega)]
   rfl
  show Calls _ _ _ _ fun o w'=>o=.returned (.int .i64 (nextK ((l.map Xt.re).drop k) p))∧_
  rw [hv]
  have t1:decide ((k:Int)<n)=false:=decide_eq_false (by omega)
  have t1n:decide (k<n)=false:=decide_eq_false hk
  clear hw1 hl hr hv hk
  go_enter Try.func69,Try.ntmps69
  go_upto_region 1 with fail
  rw [← E1.out]
  go_wp2_with fail
  go_ret
  exact ⟨rfl,BA.out⟩
theorem len_any (h:Hs) (A:Option Addr) (n c:Nat) (l:List Xt) (w:World) (hl:l.length=n) (hr:RdX w A l) (hn:n≤8) (hd:∀ x ∈ l,x.d.length≤2047) :
  Calls Try.prog 33 #[.agg (h.cells (.slice A n c))] w fun o w'=>o=.returned (.int .i64 (40+extL (l.map Xt.re):Nat))∧Below w.heap.size w w':=by
 obtain ⟨cls,lab,hop,s6,sh,sl,d6,dh,dl,p⟩:=h
 obtain ⟨w1,hw1⟩:∃ w1,w1=w.alloc (.cells #[.int .i64 cls,.int .i64 lab,.int .i64 hop,.bool s6,.int .u64 sh,.int .u64 sl,.bool d6,.int .u64 dh,.int .u64 dl,.slice A n c,.int .i64 p] 48):=⟨_,rfl⟩
 have E1:=Lib.hid hw1
 have BA:=Lib.hid (show Below w.heap.size w w1 from by rw [hw1]; exact (Below.refl _ _).alloc (Nat.le_refl _) _)
 have KB:=Lib.hid (show Blk w1 w.heap.size 48 #[.int .i64 cls,.int .i64 lab,.int .i64 hop,.bool s6,.int .u64 sh,.int .u64 sl,.bool d6,.int .u64 dh,.int .u64 dl,.slice A n c,.int .i64 p] from by rw [hw1]; exact Blk.new w _ _)
 have HR1:=Lib.hid (hr.below BA.out)
 have SZ1:=Lib.hid (show w1.heap.size=w.heap.size+1 from by rw [hw1]; simp)
 have HL:=Lib.hid hl
 have x9:=KB.out.cell 9
 have x10:=KB.out.cell 10
 show Calls _ _ #[.agg #[.int .i64 cls,.int .i64 lab,.int .i64 hop,.bool s6,.int .u64 sh,.int .u64 sl,.bool d6,.int .u64 dh,.int .u64 dl,.slice A n c,.int .i64 p]] _ _
 have HD:=Lib.hid (show ∀ k,k≤n→extL ((l.map Xt.re).take k)≤2048*k from fun k=>by
  induction k with
  | zero=>intro _; simp [extL]
  | succ k ih =>
   intro hk
   have hk2:k<(l.map Xt.re).length:=by rw [List.length_map,hl]; omega
   have:=hd (l[k]'(by rw [hl]; omega)) (List.getElem_mem _)
   rw [List.take_succ_eq_append_getElem hk2]
   have e:extL ((l.map Xt.re).take k++[(l.map Xt.re)[k]])=extL ((l.map Xt.re).take k)+(1+(l[k]'(by rw [hl]; omega)).d.length):=by
    unfold extL
    rw [List.map_append,List.sum_append]
    simp [Xt.re]
   rw [e]
   have:=ih (by omega)
   omega)
 have HST:=Lib.hid (show ∀ k (hk:k<l.length),extL ((l.map Xt.re).take (k+1))=extL ((l.map Xt.re).take k)+(1+l[k].d.length) from fun k hk=>by
  have hk2:k<(l.map Xt.re).length:=by rw [List.length_map]; exact hk
  rw [List.take_succ_eq_append_getElem hk2]
  unfold extL
  rw [List.map_append,List.sum_append]
  simp [Xt.re])
 have HALL:=Lib.hid (show extL ((l.map Xt.re).take n)=extL (l.map Xt.re) from by rw [List.take_of_length_le (by rw [List.length_map,hl]; exact Nat.le_refl _)])
 clear hw1 hl hr hd
 go_enter Try.func33,Try.ntmps33
 go_upto_region 3 with fail
 rw [← E1.out]
 go_loopw [3,9] (fun tv iv wr=>∃ k v:Nat,k≤n∧iv=.int .i64 k∧tv=.int .i64 v∧Hid (v=40+extL ((l.map Xt.re).take k))∧Hid (Below w1.heap.size w1 wr)) (fun _ i _=>n - (intOf i).toNat)
 case atStart=>exact ⟨0,40,by omega,rfl,rfl,Lib.hid (by simp [extL]),Lib.hid (Below.refl _ _)⟩
 case round =>
  obtain ⟨k,v,hk,rfl,rfl,HV,HB⟩:=hrel
  have hvb:v≤40+2048*k:=by have:=HV.out; have:=HD.out k hk; omega
  by_cases hlt:k<n
  ·have hkl:k<l.length:=by rw [HL.out]; exact hlt
   obtain ⟨b,off,hA,hbl,hC⟩:=(HR1.out.below HB.out).at_ k hkl
   subst hA
   have hst:=HST.out k hkl
   have hdk:=HD.out (k+1) (by omega)
   obtain ⟨e,he⟩:∃ e,e=l[k]:=⟨_,rfl⟩
   rw [← he] at hC hst
   obtain ⟨ek,eA,ec,ed⟩:=e
   obtain ⟨q,hq⟩:∃ q,q=ed.length:=⟨_,rfl⟩
   have d0:wr.cell? ⟨b,off+k*2,none⟩=some (.int .i64 ek):=hC 0 (by omega)
   have d1:wr.cell? ⟨b,off+k*2+1,none⟩=some (.slice eA q ec):=by rw [hq]; exact hC 1 (by omega)
   have HVN:=Lib.hid (show v+(1+q)=40+extL ((l.map Xt.re).take (k+1)) from by rw [hst,HV.out,hq]; show _=_; simp only [Nat.add_assoc])
   have hq9:v+(1+q)≤40+2048*(k+1):=by have:=HVN.out; omega
   obtain ⟨w3,hw3⟩:∃ w3,w3=wr.alloc (.cells #[.int .i64 ek,.slice eA q ec] 101):=⟨_,rfl⟩
   have E3:=Lib.hid hw3
   have B3:=Lib.hid (show Below wr.heap.size wr w3 from by rw [hw3]; exact (Below.refl _ _).alloc (Nat.le_refl _) _)
   have K3:=Lib.hid (show Blk w3 wr.heap.size 101 #[.int .i64 ek,.slice eA q ec] from by rw [hw3]; exact Blk.new wr _ _)
   have HB3:=Lib.hid (HB.out.trans (B3.out.mono HB.out.size))
   have j0:(0:Int)≤k:=by omega
   have j1:(k:Int)<n:=by omega
   have t1:decide ((k:Int)<n)=true:=decide_eq_true j1
   have t1n:decide (k<n)=true:=decide_eq_true hlt
   have wk:IntKind.i64.wrap ((k:Int)+1)=(k:Int)+1:=IntWalk.i64_in _ (by omega)
   have wq:IntKind.i64.wrap (1+(q:Int))=1+(q:Int):=IntWalk.i64_in _ (by omega)
   have wv:IntKind.i64.wrap ((v:Int)+(1+(q:Int)))=((v+(1+q):Nat):Int):=by rw [IntWalk.i64_in _ (by omega)]; omega
   clear hw3 hC hst hdk he hq hkl hbl hlt x9 x10
   go_upto_region 5 with fail
   rw [← E3.out]
   have z1:=K3.out.cell 1
   go_wp2_with fail
   go_roundw
   case rel=>exact ⟨k+1,v+(1+q),by omega,by go_num,by go_num,HVN,HB3⟩
   case measure=>simp [intOf]; omega
  ·obtain rfl:k=n:=by omega
   have t1:decide ((k:Int)<k)=false:=decide_eq_false (by omega)
   have t1n:decide (k<k)=false:=decide_eq_false (by omega)
   have hv:v=40+extL (l.map Xt.re):=by rw [HV.out,HALL.out]
   subst hv
   go_wp2_with fail
   go_ret
   exact ⟨rfl,BA.out.trans (HB.out.mono BA.out.size)⟩
end Go.Proofs.Ytodckfgfbcnkoaa.sixO
/- Layer 44: numbers put as bytes, every block of another type stays. -/
namespace Go.Proofs.Ytodckfgfbcnkoaa.snK
set_option maxHeartbeats 400000
set_option maxRecDepth 100000
open base octA octB
def KT (w w':World):Prop:=∀ k t cs,t≠5→Blk w k t cs→Blk w' k t cs
theorem KT.refl (w:World):KT w w:=fun _ _ _ _ h=>h
theorem KT.trans {a b c:World} (h1:KT a b) (h2:KT b c):KT a c:=fun k t cs ht h=>h2 k t cs ht (h1 k t cs ht h)
theorem own_neT {w:World} {base t:Nat} {v:Value} {n b:Nat} {xs:List Value} {cs:Array Value} (ht:t≠5) (h:w.ownsRow base 5 1 v n xs) (hb:Blk w b t cs):some b≠v.ownBlock:=fun e=>by
 rcases h.2 with ⟨rfl,_⟩ | ⟨g,cap,cur,rfl,hg,hgg,_⟩
 ·cases e
 ·injection e with e
  have e2:b=g:=e
  subst e2
  have h1:=Option.some.inj (hb.symm.trans hgg)
  injection h1 with h2 h3
  exact ht h3
theorem KT.grown {a w w':World} {base:Nat} {v:Value} {n:Nat} {xs:List Value} (h:KT a w) (ho:w.ownsRow base 5 1 v n xs) (hg:w.grownBy w' v.ownBlock):KT a w':=fun k t cs ht hb=>by
 have h1:=h k t cs ht hb
 exact (hg.block k h1.lt (own_neT ht ho h1)).trans h1
theorem KT.below {a w w':World} (h:KT a w) (hb:Below w.heap.size w w'):KT a w':=fun k t cs ht h1=>(hb.block k (h k t cs ht h1).lt).trans (h k t cs ht h1)
theorem kt_step {a w w':World} {base:Nat} {o:Obj} {v:Value} {n:Nat} {xs:List Value} (h:KT a w) (ho:(w.alloc o).ownsRow base 5 1 v n xs) (hg:(w.alloc o).grownBy w' v.ownBlock):KT a w':=(h.below ((Below.refl _ _).alloc (Nat.le_refl _) o)).grown ho hg
def PutPostT (w0:World) (base B:Nat) (a:World) (m k:Nat) (xs:List Value) (ys:List Int) (e:Ending) (w':World):Prop :=
 ∃ v',e=.returned v'∧w'.ownsRow base 5 1 v' (m+k) (xs++ys.map (.int .u8))∧Below B a w'∧base≤w'.heap.size∧KT w0 w'
theorem put_t (v:Value) (m:Nat) (xs:List Value) (n s:Int) (base B:Nat) (a w:World) (hown:w.ownsRow base 5 1 v m xs) (hbase:base≤w.heap.size) (hm:m≤1000000) (hbel:Below B a w) (hB:B≤base) (n0:0≤n) (n1:n<18446744073709551616) :
  Calls Try.prog 55 #[v,.int .u64 n,.int .i64 s] w (PutPostT w base B a m (hs s) xs (pb n (hs s) (hs s))):=by
 obtain ⟨i0,hi0,hz0,hz1,hz2⟩:=info_parts info_u8
 have HI0:=Lib.hid hi0
 have HZ0:=Lib.hid hz0
 have HZ1:=Lib.hid hz1
 have HZ2:=Lib.hid hz2
 have HOwn0:=Lib.hid hown
 have HBel0:=Lib.hid hbel
 have hk8:=hs_le s
 have HH:=Lib.hid (fun w=>held_any s w)
 have HK0:=Lib.hid (KT.refl w)
 clear hi0 hz0 hz1 hz2 hown hbel
 generalize hs s=k at *
 go_enter Try.func55,Try.ntmps55
 go_wp2_with fail
 refine (HH.out _).mono ?_
 rintro e w' ⟨rfl,rfl⟩
 go_wp2_with fail
 go_loopw [0,7] (fun out i wr=>∃ (j:Nat),j≤k∧i=.int .i64 ((k:Int) - 1 - j)∧wr.ownsRow base 5 1 out (m+j) (xs++(pb n k j).map (.int .u8))∧Below B a wr∧base≤wr.heap.size∧KT w wr) (fun _ i _=>(intOf i+1).toNat)
 case atStart=>exact ⟨0,by omega,by simp,by simpa [pb] using HOwn0.out,HBel0.out,hbase,HK0.out⟩
 case round =>
  obtain ⟨j,hj,rfl,hown,hbel,hbs,hblk⟩:=hrel
  obtain ⟨A3,c3,rfl⟩:=own_slice hown
  have HOwn:=Lib.hid hown
  have HBel:=Lib.hid hbel
  have HBK:=Lib.hid hblk
  by_cases hlt:j<k
  ·obtain ⟨q,hq⟩:∃ q:Nat,k=j+q+1:=⟨k - j - 1,by omega⟩
   have e1:(k:Int) - 1 - j=(q:Int):=by omega
   have hsn:=pb_snoc n k j
   rw [show k - 1 - j=q by omega] at hsn
   have HSN:=Lib.hid hsn
   have hq8:(q:Int)≤7:=by omega
   have hq9:q≤7:=by omega
   have HQ:=Lib.hid hq
   have hdiv:0≤n / 2 ^ (8*q):=Int.ediv_nonneg n0 (Int.le_of_lt (Int.pow_pos (by decide)))
   have hby:IntKind.u8.wrap (n / 2 ^ (8*q))=byteZ n q:=by rw [IntKind.wrap_u8']; rfl
   have hb1:=byteZ_in n q
   rw [e1]
   have hnx:(q:Int) - 1=(k:Int) - 1 - ((j+1:Nat):Int):=by omega
   have HNX:=Lib.hid hnx
   clear hown hbel hblk e1 hsn hq hnx
   go_wp2_with (at_builtin; refine wpList_append_own _ rfl (.tmp 15) (.tmp 21) _ rfl base 5 i0 _ 1 1 Try.underlying22 HI0.out HZ0.out HZ1.out HZ2.out rfl (by omega) _ (m+j) _ rfl (HOwn.out.alloc _) ⟨wr.heap.size,0,none⟩ 1 1 [.int .u8 (byteZ n q)] rfl rfl (one_new _ _ _) (by simp [Value.oneCell']) (by unfold maxLen; omega) (by omega) (by simp; omega) ?_; intro v1 w1 hown1 hg1 _; have HO1:=Lib.hid hown1; have HG1:=Lib.hid hg1; clear hown1 hg1)
   go_roundw
   case rel =>
    refine ⟨j+1,by omega,congrArg (Value.int .i64) HNX.out,?_,below_grown (HBel.out.alloc (by omega) _) (HOwn.out.alloc _) hB (by simp; omega) HG1.out,by have:=HG1.out.size; simp at this; omega,kt_step HBK.out (HOwn.out.alloc (.cells #[.int .u8 (byteZ n q)] 5)) HG1.out⟩
    rw [HSN.out,List.map_append,← List.append_assoc]
    exact HO1.out
   case measure=>first | (simp [intOf]; done) | (simp [intOf]; omega)
  ·obtain rfl:j=k:=by omega
   clear hown hbel hblk
   go_wp2_with fail
   go_ret
   exact ⟨_,rfl,HOwn.out,HBel.out,hbs,HBK.out⟩
theorem all_t (b:Nat) (cs:Array Value) (v:Value) (m:Nat) (xs:List Value) (s:Int) (n c:Nat) (l:List Int) (base B:Nat) (a w:World) (hown:w.ownsRow base 5 1 v m xs) (hbase:base≤w.heap.size) (hm:m+8*n≤1000000) (hbel:Below B a w) (hB:B≤base)
  (hl:l.length=n) (hK:Blk w b 30 cs) (hcs:cs.toList=l.map (.int .u64)) (hw:∀ x ∈ l,0≤x∧x<18446744073709551616) :
  Calls Try.prog 65 #[v,.int .i64 s,.slice (some ⟨b,0,none⟩) n c] w (PutPostT w base B a m (hs s*n) xs (allb (hs s) l)):=by
 have HK0:=Lib.hid hK
 have HCS:=Lib.hid hcs
 have HN:=Lib.hid hl
 have HW:=Lib.hid hw
 have HOwn0:=Lib.hid hown
 have HBel0:=Lib.hid hbel
 have hk8:=hs_le s
 have hkn:hs s*n≤8*n:=Nat.mul_le_mul_right n hk8
 clear hK hcs hl hw hown hbel
 go_enter Try.func65,Try.ntmps65
 go_wp2_with fail
 go_loopw [0,11] (fun out i wr=>∃ (j:Nat),j≤n∧i=.int .i64 j∧wr.ownsRow base 5 1 out (m+hs s*j) (xs++(allb (hs s) (l.take j)).map (.int .u8))∧Below B a wr∧base≤wr.heap.size∧KT w wr) (fun _ i _=>n - (intOf i).toNat)
 case atStart=>exact ⟨0,by omega,rfl,by simpa [allb] using HOwn0.out,HBel0.out,hbase,KT.refl w⟩
 case round =>
  obtain ⟨j,hj,rfl,hown,hbel,hbs,hkt⟩:=hrel
  have hblk:=hkt _ _ _ (by decide) HK0.out
  have HKT:=Lib.hid hkt
  clear hkt
  have HOwn:=Lib.hid hown
  have HBel:=Lib.hid hbel
  by_cases hlt:j<n
  ·have hkl:j<l.length:=by rw [HN.out]; exact hlt
   have hcell:wr.cell? ⟨b,j,none⟩=some (.int .u64 (l[j])):=by
    rw [hblk.cell j,← Array.getElem?_toList,HCS.out,List.getElem?_map,List.getElem?_eq_getElem hkl]
    rfl
   have HBK:=Lib.hid hblk
   have hx:=HW.out l[j] (List.getElem_mem hkl)
   have hsn:allb (hs s) (l.take (j+1))=allb (hs s) (l.take j)++pb l[j] (hs s) (hs s):=by rw [take_snoc l j hkl,allb_snoc]
   have HSN:=Lib.hid hsn
   have hmj:hs s*j≤8*j:=Nat.mul_le_mul_right j hk8
   have hmj2:m+hs s*j≤1000000:=by omega
   clear hown hbel hblk hsn hmj
   generalize l[j]=x at *
   obtain ⟨x0,x1⟩:=hx
   go_wp2_with fail
   refine (put_t _ _ _ x s base B a _ HOwn.out hbs hmj2 HBel.out hB x0 x1).mono ?_
   rintro e w1 ⟨v1,rfl,hown1,hbel1,hbs1,hbk1⟩
   have HO1:=Lib.hid hown1
   have HB1:=Lib.hid hbel1
   have HK1:=Lib.hid (HKT.out.trans hbk1)
   clear hown1 hbel1 hbk1
   go_wp2_with fail
   go_roundw
   case rel =>
    refine ⟨j+1,by omega,by go_num,?_,HB1.out,hbs1,HK1.out⟩
    ·rw [HSN.out,List.map_append,← List.append_assoc,Nat.mul_succ,← Nat.add_assoc]
     exact HO1.out
   case measure=>simp [intOf]; omega
  ·obtain rfl:j=n:=by omega
   have hz:l.take j=l:=List.take_of_length_le (by rw [HN.out]; omega)
   rw [hz] at HOwn
   have HBK:=Lib.hid hblk
   clear hown hbel hz hblk
   go_wp2_with fail
   go_ret
   exact ⟨_,rfl,HOwn.out,HBel.out,hbs,HKT.out⟩
end Go.Proofs.Ytodckfgfbcnkoaa.snK
