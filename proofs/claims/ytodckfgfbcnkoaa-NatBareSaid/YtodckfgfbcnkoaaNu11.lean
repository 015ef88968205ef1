/- 8 texts in one. -/
import Derived.Laws.AppendOwnNone
import Derived.Deep.RegionHeldLaw
import Derived.Test.YtodckfgfbcnkoaaNu03
import Derived.Test.YtodckfgfbcnkoaaNu07
import Derived.Test.YtodckfgfbcnkoaaNu10
/- Layer 5: the bytes of an address of version 6. -/
namespace Go.Proofs.Ytodckfgfbcnkoaa.sixJ
set_option maxHeartbeats 4000000
set_option maxRecDepth 100000
open Go.ChangeShapes Go.WideShapes Go.ChangeAt Go.RowKit
open base octA octF rdrA rdrG sixM sixB
set_option linter.unusedVariables false
theorem bits_six (a b:Int) (w:World):Calls Try.prog 83 #[.agg #[.bool true,.int .u64 a,.int .u64 b]] w fun o w'=>o=.returned (.int .i64 128)∧Below w.heap.size w w':=by
  go_enter Try.func83,Try.ntmps83
  go_wp2
  go_ret
  exact ⟨rfl,(Below.refl _ _).alloc (Nat.le_refl _) _⟩
def aB (hh ll:Int) (j i:Nat):Int:=if i<8 then (if i<j then byteZ hh (7 - i) else 0) else (if i - 8<j then byteZ ll (7 - (i - 8)) else 0)
structure Ar (hh ll:Int) (j:Nat) (cs:Array Value):Prop where
  size:cs.size=16
  at_:∀ i,i<16→cs[i]?=some (.int .u8 (aB hh ll j i))
theorem Ar.zero (hh ll:Int):Ar hh ll 0 #[.int .u8 0,.int .u8 0,.int .u8 0,.int .u8 0,.int .u8 0,.int .u8 0,.int .u8 0,.int .u8 0,.int .u8 0,.int .u8 0,.int .u8 0,.int .u8 0,.int .u8 0,.int .u8 0,.int .u8 0,.int .u8 0]:=⟨rfl,fun i hi=>by
  have:aB hh ll 0 i=0:=by unfold aB; simp
  rw [this]
  show ((List.replicate 16 (Value.int .u8 0)).toArray)[i]?=_
  rw [List.getElem?_toArray,List.getElem?_replicate,if_pos hi]⟩
theorem Ar.next {hh ll:Int} {j:Nat} {cs:Array Value} (h:Ar hh ll j cs) (hj:j<8):Ar hh ll (j+1) ((cs.setIfInBounds j (.int .u8 (byteZ hh (7 - j)))).setIfInBounds (8+j) (.int .u8 (byteZ ll (7 - j)))):=by
  refine ⟨by rw [Array.size_setIfInBounds,Array.size_setIfInBounds]; exact h.size,fun i hi=>?_⟩
  have hs:=h.size
  rw [Array.getElem?_setIfInBounds,Array.getElem?_setIfInBounds,Array.size_setIfInBounds]
  by_cases h1:8+j=i
  · subst h1
    rw [if_pos rfl,if_pos (by omega)]
    unfold aB
    rw [if_neg (by omega),show 8+j - 8=j by omega,if_pos (by omega)]
  · rw [if_neg h1]
    by_cases h2:j=i
    · subst h2
      rw [if_pos rfl,if_pos (by omega)]
      unfold aB
      rw [if_pos (by omega),if_pos (by omega)]
    · rw [if_neg h2,h.at_ i hi]
      congr 2
      unfold aB
      by_cases h3:i<8
      · rw [if_pos h3,if_pos h3]
        by_cases h4:i<j
        · rw [if_pos h4,if_pos (by omega)]
        · rw [if_neg h4,if_neg (by omega)]
      · rw [if_neg h3,if_neg h3]
        by_cases h4:i - 8<j
        · rw [if_pos h4,if_pos (by omega)]
        · rw [if_neg h4,if_neg (by omega)]
theorem aB_list (hh ll:Int) (i:Nat) (hi:i<16):some (Value.int .u8 (aB hh ll 8 i))=((pb hh 8 8++pb ll 8 8).map (Value.int .u8))[i]?:=by
  have e1:(pb hh 8 8).length=8:=pb_len hh 8 8
  rw [List.getElem?_map]
  unfold aB
  by_cases h:i<8
  · rw [if_pos h,if_pos h,List.getElem?_append_left (by omega)]
    unfold pb
    rw [List.getElem?_map,List.getElem?_range (by omega)]
    rfl
  · rw [if_neg h,if_pos (by omega),List.getElem?_append_right (by omega),e1]
    unfold pb
    rw [List.getElem?_map,List.getElem?_range (by omega)]
    rfl
theorem abytes_any (hh ll:Int) (w:World) (h0:0≤hh) (h1:hh<18446744073709551616) (l0:0≤ll) (l1:ll<18446744073709551616) :
    Calls Try.prog 54 #[.agg #[.bool true,.int .u64 hh,.int .u64 ll]] w fun o w'=>∃ v,o=.returned v∧w'.ownsRow w.heap.size 5 1 v 16 ((pb hh 8 8++pb ll 8 8).map (.int .u8))∧Below w.heap.size w w':=by
  obtain ⟨i0,hi0,hz0,hz1,hz2⟩:=info_parts info_u8
  obtain ⟨g,hg⟩:∃ g,g=w.heap.size:=⟨_,rfl⟩
  obtain ⟨w1,hw1⟩:∃ w1,w1=w.alloc (.cells #[.bool true,.int .u64 hh,.int .u64 ll] 32):=⟨_,rfl⟩
  have E1:=Lib.hid hw1
  have EG:=Lib.hid hg
  have s1:w1.heap.size=g+1:=by rw [hw1,hg]; simp
  have K1:=Lib.hid (show Blk w1 g 32 #[.bool true,.int .u64 hh,.int .u64 ll] from by rw [hw1,hg]; exact Blk.new w _ _)
  obtain ⟨w2,hw2⟩:∃ w2,w2=w1.alloc (.cells #[.int .u8 0,.int .u8 0,.int .u8 0,.int .u8 0,.int .u8 0,.int .u8 0,.int .u8 0,.int .u8 0,.int .u8 0,.int .u8 0,.int .u8 0,.int .u8 0,.int .u8 0,.int .u8 0,.int .u8 0,.int .u8 0] 118):=⟨_,rfl⟩
  have E2:=Lib.hid hw2
  have B2:=Lib.hid (show Below g w w2 from by rw [hw2,hw1,hg]; exact ((Below.refl _ _).alloc (Nat.le_refl _) _).alloc (by simp) _)
  have BB:=Lib.hid (show Below w1.heap.size w1 w2 from by rw [hw2]; exact (Below.refl _ _).alloc (Nat.le_refl _) _)
  have K2:=Lib.hid (show Blk w2 (g+1) 118 #[.int .u8 0,.int .u8 0,.int .u8 0,.int .u8 0,.int .u8 0,.int .u8 0,.int .u8 0,.int .u8 0,.int .u8 0,.int .u8 0,.int .u8 0,.int .u8 0,.int .u8 0,.int .u8 0,.int .u8 0,.int .u8 0] from by rw [hw2,← s1]; exact Blk.new w1 _ _)
  have S2:=Lib.hid (show w2.heap.size=g+2 from by rw [hw2]; simp; omega)
  have KA:=Lib.hid (K1.out.below BB.out K1.out.lt)
  have S1:=Lib.hid s1
  rw [← EG.out]
  clear hw1 hw2 hg s1
  go_enter Try.func54,Try.ntmps54
  go_upto_region 2 with fail
  rw [← EG.out,← E1.out,← E2.out]
  go_wp2_with fail
  go_loopw [7] (fun i wr=>∃ (j:Nat) (cs:Array Value),j≤8∧i=.int .i64 j∧Hid (Ar hh ll j cs)∧Hid (Blk wr (g+1) 118 cs)∧Hid (Blk wr g 32 #[.bool true,.int .u64 hh,.int .u64 ll])∧Hid (Below g w wr)∧Hid (g+2≤wr.heap.size)) (fun i _=>8 - (intOf i).toNat)
  case atStart=>exact ⟨0,_,by omega,rfl,Lib.hid (Ar.zero hh ll),K2,KA,B2,Lib.hid (by have:=S2.out; omega)⟩
  case round =>
    obtain ⟨j,cs,hj,rfl,HA,HK,HKA,HB,HZ⟩:=hrel
    have d1:=HKA.out.cell 1
    have d2:=HKA.out.cell 2
    by_cases hlt:j<8
    · obtain ⟨q,hq⟩:∃ q,q=7 - j:=⟨_,rfl⟩
      have w8:IntKind.i64.wrap (8*(j:Int))=8*(j:Int):=IntWalk.i64_in _ (by omega)
      have w56:IntKind.i64.wrap (56 - 8*(j:Int))=((8*q:Nat):Int):=by rw [IntWalk.i64_in _ (by omega)]; omega
      have c1:=(HK.out.cell j).trans (HA.out.at_ j (by omega))
      have c2:=(HK.out.cell (8+j)).trans (HA.out.at_ (8+j) (by omega))
      have f1:=HK.out.frozen j
      have f2:=HK.out.frozen (8+j)
      have t1:decide ((j:Int)<8)=true:=decide_eq_true (by omega)
      have i0:(0:Int)≤j:=by omega
      have i1:(j:Int)<16:=by omega
      have w88:IntKind.i64.wrap (8+(j:Int))=8+(j:Int):=IntWalk.i64_in _ (by omega)
      have HK2:=Lib.hid (show Blk (wr.setCell ⟨g+1,j,none⟩ (.int .u8 (byteZ hh q))) (g+1) 118 (cs.setIfInBounds j (.int .u8 (byteZ hh q))) from HK.out.set_ j _)
      have c3:(wr.setCell ⟨g+1,j,none⟩ (.int .u8 (byteZ hh q))).cell? ⟨g+1,8+j,none⟩=some (.int .u8 (aB hh ll j (8+j))):=by
        rw [HK2.out.cell,Array.getElem?_setIfInBounds,if_neg (by omega)]
        exact HA.out.at_ (8+j) (by omega)
      have f3:=HK2.out.frozen (8+j)
      have i2:(0:Int)≤8+j:=by omega
      have i3:8+(j:Int)<16:=by omega
      have HKZ:=Lib.hid (show Blk ((wr.setCell ⟨g+1,j,none⟩ (.int .u8 (byteZ hh q))).setCell ⟨g+1,8+j,none⟩ (.int .u8 (byteZ ll q))) (g+1) 118 ((cs.setIfInBounds j (.int .u8 (byteZ hh q))).setIfInBounds (8+j) (.int .u8 (byteZ ll q))) from HK2.out.set_ (8+j) _)
      have BZ:=Lib.hid (show Below (g+1) wr ((wr.setCell ⟨g+1,j,none⟩ (.int .u8 (byteZ hh q))).setCell ⟨g+1,8+j,none⟩ (.int .u8 (byteZ ll q))) from ((Below.refl _ _).setCell (p:=⟨g+1,j,none⟩) (Nat.le_refl (g+1)) _).setCell (p:=⟨g+1,8+j,none⟩) (Nat.le_refl (g+1)) _)
      have hq8:(q:Int)≤7:=by omega
      have hq9:q≤7:=by omega
      have hdh:0≤hh / 2 ^ (8*q):=Int.ediv_nonneg h0 (Int.le_of_lt (Int.pow_pos (by decide)))
      have hdl:0≤ll / 2 ^ (8*q):=Int.ediv_nonneg l0 (Int.le_of_lt (Int.pow_pos (by decide)))
      have hbh:IntKind.u8.wrap (hh / 2 ^ (8*q))=byteZ hh q:=by rw [IntKind.wrap_u8']; rfl
      have hbl:IntKind.u8.wrap (ll / 2 ^ (8*q))=byteZ ll q:=by rw [IntKind.wrap_u8']; rfl
      have HAN:=Lib.hid (show Ar hh ll (j+1) ((cs.setIfInBounds j (.int .u8 (byteZ hh q))).setIfInBounds (8+j) (.int .u8 (byteZ ll q))) from hq ▸ Ar.next HA.out hlt)
      clear hq
      go_wp2_with fail
      go_roundw
      case rel=>exact ⟨j+1,_,by omega,by go_num,HAN,HKZ,Lib.hid (HKA.out.below BZ.out (Nat.lt_succ_self g)),Lib.hid (HB.out.trans (BZ.out.mono (Nat.le_succ g))),Lib.hid (Nat.le_trans HZ.out BZ.out.size)⟩
      case measure=>simp [intOf]; omega
    · obtain rfl:j=8:=by omega
      have d0:=HKA.out.cell 0
      have hmk:=fun (W:World)=>run_make_one (P:=Try.prog) 22 5 i0 _ Try.underlying22 hi0 hz0 hz1 rfl .i64 .i64 (16:Int) (by omega) (by rw [hz2]; omega) (by omega) W
      have HBT:=Lib.hid (fun V=>bits_six hh ll V)
      have t1:decide (((8:Nat):Int)<8)=false:=by decide
      go_wp2_with fail
      refine (HBT.out _).mono ?_
      rintro e w5 ⟨rfl,hb5⟩
      have B5:=Lib.hid (HK.out.below hb5 HK.out.lt)
      have L5:=Lib.hid (show Below g w w5 from HB.out.trans (hb5.mono (by have:=HZ.out; omega)))
      have Z5:=Lib.hid (show g+2≤w5.heap.size from Nat.le_trans HZ.out hb5.size)
      have BZ:=Lib.hid (show Blk (w5.alloc (.cells (zeros 16 (.int .u8 0)) 5)) w5.heap.size 5 ([Value.int .u8 0,.int .u8 0,.int .u8 0,.int .u8 0,.int .u8 0,.int .u8 0,.int .u8 0,.int .u8 0,.int .u8 0,.int .u8 0,.int .u8 0,.int .u8 0,.int .u8 0,.int .u8 0,.int .u8 0,.int .u8 0]:List Value).toArray from Blk.new w5 5 (zeros 16 (.int .u8 0)))
      have BA:=Lib.hid (B5.out.alloc (.cells (zeros 16 (.int .u8 0)) 5))
      have LZ:=Lib.hid (L5.out.alloc (by have:=Z5.out; omega) (.cells (zeros 16 (.int .u8 0)) 5))
      have SRC:=Lib.hid (show ∀ i v,((pb hh 8 8++pb ll 8 8).map (Value.int .u8))[i]?=some v→(w5.alloc (.cells (zeros 16 (.int .u8 0)) 5)).cell? ((⟨g+1,0,none⟩:Addr).add i)=some v from fun i v hv=>by
        have hi:i<16:=by have:=(List.getElem?_eq_some_iff.1 hv).1; simpa [pb] using this
        rw [Addr.add_lit,Nat.zero_add,BA.out.cell,HA.out.at_ i hi,← hv,aB_list hh ll i hi])
      have ONE:=Lib.hid (show ∀ v ∈ (pb hh 8 8++pb ll 8 8).map (Value.int .u8),v.oneCell'=true from fun v hv=>by
        rw [List.mem_map] at hv
        obtain ⟨x,_,rfl⟩:=hv
        rfl)
      have LE:=Lib.hid (show g≤w5.heap.size from by have:=Z5.out; omega)
      clear hb5 d0 d1 d2
      go_wp2_with (refine wpList_copy_splice (o:=⟨some 39,_,_,_,_,_⟩) rfl (.tmp 34) (.tmp 38) 22 22 rfl 5 Try.underlying22 info1 (some ⟨w5.heap.size,0,none⟩) (some ⟨g+1,0,none⟩) 16 16 16 16 rfl rfl w5.heap.size 0 [Value.int .u8 0,.int .u8 0,.int .u8 0,.int .u8 0,.int .u8 0,.int .u8 0,.int .u8 0,.int .u8 0,.int .u8 0,.int .u8 0,.int .u8 0,.int .u8 0,.int .u8 0,.int .u8 0,.int .u8 0,.int .u8 0] 5 BZ.out ((pb hh 8 8++pb ll 8 8).map (Value.int .u8)) rfl (fun _=>⟨rfl,_,rfl,SRC.out⟩) (Nat.le_refl _) ONE.out g w LZ.out LE.out ?_; intro w6 hg6 hb6; have G6:=hg6; have L6:=Lib.hid hb6; clear hg6 hb6)
      go_ret
      refine ⟨_,rfl,⟨rfl,.inr ⟨w5.heap.size,16,_,rfl,LE.out,G6.out,Nat.le_refl _,by unfold maxLen; omega,rfl,rfl⟩⟩,L6.out⟩
end Go.Proofs.Ytodckfgfbcnkoaa.sixJ
/- Layer 9: the law's bytes. -/
namespace Go.Proofs.Ytodckfgfbcnkoaa.sixK
open Go.ChangeShapes Go.WideShapes Go.ChangeAt Go.RowKit
open octA rdrG sixW sixM
set_option linter.unusedVariables false
def hd8 (cls lab hop p0:Int) (n:Nat):List Int:=[96+cls / 16,cls % 16*16+lab / 65536,lab / 256 % 256,lab % 256,(n:Int) / 256 % 256,(n:Int) % 256,p0,hop]
def hdB (h:Hs) (p0:Int) (n:Nat):List Int:=hd8 h.cls h.lab h.hop p0 n++(pb h.sh 8 8++pb h.sl 8 8)++(pb h.dh 8 8++pb h.dl 8 8)
def sixB (h:Hs) (l:List XP) (r:List Int):List Int:=hdB h (nextK l h.p) (extL l+r.length)++(extB l h.p++r)
theorem one_map (l:List Int):∀ u ∈ l.map (Value.int .u8),u.oneCell'=true:=fun u hu=>by
  rw [List.mem_map] at hu
  obtain ⟨x,_,rfl⟩:=hu
  rfl
end Go.Proofs.Ytodckfgfbcnkoaa.sixK
namespace Go.Proofs.Ytodckfgfbcnkoaa.sixN
end Go.Proofs.Ytodckfgfbcnkoaa.sixN
/- Layer 9: next, Len, the law's cut. -/
namespace Go.Proofs.Ytodckfgfbcnkoaa.sixO
set_option maxHeartbeats 4000000
set_option maxRecDepth 100000
open Go.ChangeShapes Go.WideShapes Go.ChangeAt Go.RowKit
open base rdrA rdrG sixW sixM sixE
set_option linter.unusedVariables false
theorem next_any (h:Hs) (A:Option Addr) (n c k:Nat) (l:List Xt) (w:World) (hl:l.length=n) (hr:RdX w A l) (hn:n≤1000000) :
    Calls Try.prog 69 #[.agg (h.cells (.slice A n c)),.int .i64 k] w fun o w'=>o=.returned (.int .i64 (nextK ((l.map Xt.re).drop k) h.p))∧Below w.heap.size w w':=by
  obtain ⟨cls,lab,hop,s6,sh,sl,d6,dh,dl,p⟩:=h
  obtain ⟨w1,hw1⟩:∃ w1,w1=w.alloc (.cells #[.int .i64 cls,.int .i64 lab,.int .i64 hop,.bool s6,.int .u64 sh,.int .u64 sl,.bool d6,.int .u64 dh,.int .u64 dl,.slice A n c,.int .i64 p] 48):=⟨_,rfl⟩
  have E1:=Lib.hid hw1
  have BA:=Lib.hid (show Below w.heap.size w w1 from by rw [hw1]; exact (Below.refl _ _).alloc (Nat.le_refl _) _)
  have KB:=Lib.hid (show Blk w1 w.heap.size 48 #[.int .i64 cls,.int .i64 lab,.int .i64 hop,.bool s6,.int .u64 sh,.int .u64 sl,.bool d6,.int .u64 dh,.int .u64 dl,.slice A n c,.int .i64 p] from by rw [hw1]; exact Blk.new w _ _)
  have HR1:=Lib.hid (hr.below BA.out)
  have SZ1:=Lib.hid (show w1.heap.size=w.heap.size+1 from by rw [hw1]; simp)
  have HL:=Lib.hid hl
  have x9:=KB.out.cell 9
  have x10:=KB.out.cell 10
  show Calls _ _ #[.agg #[.int .i64 cls,.int .i64 lab,.int .i64 hop,.bool s6,.int .u64 sh,.int .u64 sl,.bool d6,.int .u64 dh,.int .u64 dl,.slice A n c,.int .i64 p],.int .i64 k] _ _
  by_cases hk:k<n
  · have hkl:k<l.length:=by rw [hl]; exact hk
    obtain ⟨b,off,hA,hbl,hC⟩:=HR1.out.at_ k hkl
    subst hA
    have d0:w1.cell? ⟨b,off+k*2,none⟩=some (.int .i64 (l[k]).kind):=hC 0 (by omega)
    have hv:nextK ((l.map Xt.re).drop k) p=(l[k]).kind:=by
      rw [List.drop_eq_getElem_cons (by rw [List.length_map]; exact hkl),List.getElem_map]
      rfl
    show Calls _ _ _ _ fun o w'=>o=.returned (.int .i64 (nextK ((l.map Xt.re).drop k) p))∧_
    rw [hv]
    obtain ⟨y,hy⟩:∃ y,y=(l[k]).kind:=⟨_,rfl⟩
    rw [← hy] at d0 ⊢
    have j0:(0:Int)≤k:=by omega
    have j1:(k:Int)<n:=by omega
    have t1:decide ((k:Int)<n)=true:=decide_eq_true j1
    have t1n:decide (k<n)=true:=decide_eq_true hk
    clear hw1 hl hr hkl hC hv hy hk hbl
    go_enter Try.func69,Try.ntmps69
    go_upto_region 1 with fail
    rw [← E1.out]
    go_wp2_with fail
    go_ret
    exact ⟨rfl,BA.out⟩
  · have hv:nextK ((l.map Xt.re).drop k) p=p:=by
      rw [List.drop_of_length_le (by rw [List.length_map,hl]; omega)]
      rfl
    show Calls _ _ _ _ fun o w'=>o=.returned (.int .i64 (nextK ((l.map Xt.re).drop k) p))∧_
    rw [hv]
    have t1:decide ((k:Int)<n)=false:=decide_eq_false (by omega)
    have t1n:decide (k<n)=false:=decide_eq_false hk
    clear hw1 hl hr hv hk
    go_enter Try.func69,Try.ntmps69
    go_upto_region 1 with fail
    rw [← E1.out]
    go_wp2_with fail
    go_ret
    exact ⟨rfl,BA.out⟩
theorem len_any (h:Hs) (A:Option Addr) (n c:Nat) (l:List Xt) (w:World) (hl:l.length=n) (hr:RdX w A l) (hn:n≤8) (hd:∀ x ∈ l,x.d.length≤2047) :
    Calls Try.prog 33 #[.agg (h.cells (.slice A n c))] w fun o w'=>o=.returned (.int .i64 (40+extL (l.map Xt.re):Nat))∧Below w.heap.size w w':=by
  obtain ⟨cls,lab,hop,s6,sh,sl,d6,dh,dl,p⟩:=h
  obtain ⟨w1,hw1⟩:∃ w1,w1=w.alloc (.cells #[.int .i64 cls,.int .i64 lab,.int .i64 hop,.bool s6,.int .u64 sh,.int .u64 sl,.bool d6,.int .u64 dh,.int .u64 dl,.slice A n c,.int .i64 p] 48):=⟨_,rfl⟩
  have E1:=Lib.hid hw1
  have BA:=Lib.hid (show Below w.heap.size w w1 from by rw [hw1]; exact (Below.refl _ _).alloc (Nat.le_refl _) _)
  have KB:=Lib.hid (show Blk w1 w.heap.size 48 #[.int .i64 cls,.int .i64 lab,.int .i64 hop,.bool s6,.int .u64 sh,.int .u64 sl,.bool d6,.int .u64 dh,.int .u64 dl,.slice A n c,.int .i64 p] from by rw [hw1]; exact Blk.new w _ _)
  have HR1:=Lib.hid (hr.below BA.out)
  have SZ1:=Lib.hid (show w1.heap.size=w.heap.size+1 from by rw [hw1]; simp)
  have HL:=Lib.hid hl
  have x9:=KB.out.cell 9
  have x10:=KB.out.cell 10
  show Calls _ _ #[.agg #[.int .i64 cls,.int .i64 lab,.int .i64 hop,.bool s6,.int .u64 sh,.int .u64 sl,.bool d6,.int .u64 dh,.int .u64 dl,.slice A n c,.int .i64 p]] _ _
  have HD:=Lib.hid (show ∀ k,k≤n→extL ((l.map Xt.re).take k)≤2048*k from fun k=>by
    induction k with
    | zero=>intro _; simp [extL]
    | succ k ih =>
      intro hk
      have hk2:k<(l.map Xt.re).length:=by rw [List.length_map,hl]; omega
      have:=hd (l[k]'(by rw [hl]; omega)) (List.getElem_mem _)
      rw [List.take_succ_eq_append_getElem hk2]
      have e:extL ((l.map Xt.re).take k++[(l.map Xt.re)[k]])=extL ((l.map Xt.re).take k)+(1+(l[k]'(by rw [hl]; omega)).d.length):=by
        unfold extL
        rw [List.map_append,List.sum_append]
        simp [Xt.re]
      rw [e]
      have:=ih (by omega)
      omega)
  have HST:=Lib.hid (show ∀ k (hk:k<l.length),extL ((l.map Xt.re).take (k+1))=extL ((l.map Xt.re).take k)+(1+l[k].d.length) from fun k hk=>by
    have hk2:k<(l.map Xt.re).length:=by rw [List.length_map]; exact hk
    rw [List.take_succ_eq_append_getElem hk2]
    unfold extL
    rw [List.map_append,List.sum_append]
    simp [Xt.re])
  have HALL:=Lib.hid (show extL ((l.map Xt.re).take n)=extL (l.map Xt.re) from by rw [List.take_of_length_le (by rw [List.length_map,hl]; exact Nat.le_refl _)])
  clear hw1 hl hr hd
  go_enter Try.func33,Try.ntmps33
  go_upto_region 3 with fail
  rw [← E1.out]
  go_loopw [3,9] (fun tv iv wr=>∃ k v:Nat,k≤n∧iv=.int .i64 k∧tv=.int .i64 v∧Hid (v=40+extL ((l.map Xt.re).take k))∧Hid (Below w1.heap.size w1 wr)) (fun _ i _=>n - (intOf i).toNat)
  case atStart=>exact ⟨0,40,by omega,rfl,rfl,Lib.hid (by simp [extL]),Lib.hid (Below.refl _ _)⟩
  case round =>
    obtain ⟨k,v,hk,rfl,rfl,HV,HB⟩:=hrel
    have hvb:v≤40+2048*k:=by have:=HV.out; have:=HD.out k hk; omega
    by_cases hlt:k<n
    · have hkl:k<l.length:=by rw [HL.out]; exact hlt
      obtain ⟨b,off,hA,hbl,hC⟩:=(HR1.out.below HB.out).at_ k hkl
      subst hA
      have hst:=HST.out k hkl
      have hdk:=HD.out (k+1) (by omega)
      obtain ⟨e,he⟩:∃ e,e=l[k]:=⟨_,rfl⟩
      rw [← he] at hC hst
      obtain ⟨ek,eA,ec,ed⟩:=e
      obtain ⟨q,hq⟩:∃ q,q=ed.length:=⟨_,rfl⟩
      have d0:wr.cell? ⟨b,off+k*2,none⟩=some (.int .i64 ek):=hC 0 (by omega)
      have d1:wr.cell? ⟨b,off+k*2+1,none⟩=some (.slice eA q ec):=by rw [hq]; exact hC 1 (by omega)
      have HVN:=Lib.hid (show v+(1+q)=40+extL ((l.map Xt.re).take (k+1)) from by rw [hst,HV.out,hq]; show _=_; simp only [Nat.add_assoc])
      have hq9:v+(1+q)≤40+2048*(k+1):=by have:=HVN.out; omega
      obtain ⟨w3,hw3⟩:∃ w3,w3=wr.alloc (.cells #[.int .i64 ek,.slice eA q ec] 101):=⟨_,rfl⟩
      have E3:=Lib.hid hw3
      have B3:=Lib.hid (show Below wr.heap.size wr w3 from by rw [hw3]; exact (Below.refl _ _).alloc (Nat.le_refl _) _)
      have K3:=Lib.hid (show Blk w3 wr.heap.size 101 #[.int .i64 ek,.slice eA q ec] from by rw [hw3]; exact Blk.new wr _ _)
      have HB3:=Lib.hid (HB.out.trans (B3.out.mono HB.out.size))
      have j0:(0:Int)≤k:=by omega
      have j1:(k:Int)<n:=by omega
      have t1:decide ((k:Int)<n)=true:=decide_eq_true j1
      have t1n:decide (k<n)=true:=decide_eq_true hlt
      have wk:IntKind.i64.wrap ((k:Int)+1)=(k:Int)+1:=IntWalk.i64_in _ (by omega)
      have wq:IntKind.i64.wrap (1+(q:Int))=1+(q:Int):=IntWalk.i64_in _ (by omega)
      have wv:IntKind.i64.wrap ((v:Int)+(1+(q:Int)))=((v+(1+q):Nat):Int):=by rw [IntWalk.i64_in _ (by omega)]; omega
      clear hw3 hC hst hdk he hq hkl hbl hlt x9 x10
      go_upto_region 5 with fail
      rw [← E3.out]
      have z1:=K3.out.cell 1
      go_wp2_with fail
      go_roundw
      case rel=>exact ⟨k+1,v+(1+q),by omega,by go_num,by go_num,HVN,HB3⟩
      case measure=>simp [intOf]; omega
    · obtain rfl:k=n:=by omega
      have t1:decide ((k:Int)<k)=false:=decide_eq_false (by omega)
      have t1n:decide (k<k)=false:=decide_eq_false (by omega)
      have hv:v=40+extL (l.map Xt.re):=by rw [HV.out,HALL.out]
      subst hv
      go_wp2_with fail
      go_ret
      exact ⟨rfl,BA.out.trans (HB.out.mono BA.out.size)⟩
end Go.Proofs.Ytodckfgfbcnkoaa.sixO
/- Layer 44: numbers put as bytes, every block of another type stays. -/
namespace Go.Proofs.Ytodckfgfbcnkoaa.snK
set_option maxHeartbeats 400000
set_option maxRecDepth 100000
open Go.ChangeShapes Go.WideShapes Go.ChangeAt Go.RowKit
open base octA octB
set_option linter.unusedVariables false
def KT (w w':World):Prop:=∀ k t cs,t≠5→Blk w k t cs→Blk w' k t cs
theorem KT.refl (w:World):KT w w:=fun _ _ _ _ h=>h
theorem KT.trans {a b c:World} (h1:KT a b) (h2:KT b c):KT a c:=fun k t cs ht h=>h2 k t cs ht (h1 k t cs ht h)
theorem own_neT {w:World} {base t:Nat} {v:Value} {n b:Nat} {xs:List Value} {cs:Array Value} (ht:t≠5) (h:w.ownsRow base 5 1 v n xs) (hb:Blk w b t cs):some b≠v.ownBlock:=fun e=>by
  rcases h.2 with ⟨rfl,_⟩ | ⟨g,cap,cur,rfl,hg,hgg,_⟩
  · cases e
  · injection e with e
    have e2:b=g:=e
    subst e2
    have h1:=Option.some.inj (hb.symm.trans hgg)
    injection h1 with h2 h3
    exact ht h3
theorem KT.grown {a w w':World} {base:Nat} {v:Value} {n:Nat} {xs:List Value} (h:KT a w) (ho:w.ownsRow base 5 1 v n xs) (hg:w.grownBy w' v.ownBlock):KT a w':=fun k t cs ht hb=>by
  have h1:=h k t cs ht hb
  exact (hg.block k h1.lt (own_neT ht ho h1)).trans h1
theorem KT.below {a w w':World} (h:KT a w) (hb:Below w.heap.size w w'):KT a w':=fun k t cs ht h1=>(hb.block k (h k t cs ht h1).lt).trans (h k t cs ht h1)
theorem kt_step {a w w':World} {base:Nat} {o:Obj} {v:Value} {n:Nat} {xs:List Value} (h:KT a w) (ho:(w.alloc o).ownsRow base 5 1 v n xs) (hg:(w.alloc o).grownBy w' v.ownBlock):KT a w':=(h.below ((Below.refl _ _).alloc (Nat.le_refl _) o)).grown ho hg
def PutPostT (w0:World) (base B:Nat) (a:World) (m k:Nat) (xs:List Value) (ys:List Int) (e:Ending) (w':World):Prop :=
  ∃ v',e=.returned v'∧w'.ownsRow base 5 1 v' (m+k) (xs++ys.map (.int .u8))∧Below B a w'∧base≤w'.heap.size∧KT w0 w'
theorem put_t (v:Value) (m:Nat) (xs:List Value) (n s:Int) (base B:Nat) (a w:World) (hown:w.ownsRow base 5 1 v m xs) (hbase:base≤w.heap.size) (hm:m≤1000000) (hbel:Below B a w) (hB:B≤base) (n0:0≤n) (n1:n<18446744073709551616) :
    Calls Try.prog 55 #[v,.int .u64 n,.int .i64 s] w (PutPostT w base B a m (hs s) xs (pb n (hs s) (hs s))):=by
  obtain ⟨i0,hi0,hz0,hz1,hz2⟩:=info_parts info_u8
  have HI0:=Lib.hid hi0
  have HZ0:=Lib.hid hz0
  have HZ1:=Lib.hid hz1
  have HZ2:=Lib.hid hz2
  have HOwn0:=Lib.hid hown
  have HBel0:=Lib.hid hbel
  have hk8:=hs_le s
  have HH:=Lib.hid (fun w=>held_any s w)
  have HK0:=Lib.hid (KT.refl w)
  clear hi0 hz0 hz1 hz2 hown hbel
  generalize hs s=k at *
  go_enter Try.func55,Try.ntmps55
  go_wp2_with fail
  refine (HH.out _).mono ?_
  rintro e w' ⟨rfl,rfl⟩
  go_wp2_with fail
  go_loopw [0,7] (fun out i wr=>∃ (j:Nat),j≤k∧i=.int .i64 ((k:Int) - 1 - j)∧wr.ownsRow base 5 1 out (m+j) (xs++(pb n k j).map (.int .u8))∧Below B a wr∧base≤wr.heap.size∧KT w wr) (fun _ i _=>(intOf i+1).toNat)
  case atStart=>exact ⟨0,by omega,by simp,by simpa [pb] using HOwn0.out,HBel0.out,hbase,HK0.out⟩
  case round =>
    obtain ⟨j,hj,rfl,hown,hbel,hbs,hblk⟩:=hrel
    obtain ⟨A3,c3,rfl⟩:=own_slice hown
    have HOwn:=Lib.hid hown
    have HBel:=Lib.hid hbel
    have HBK:=Lib.hid hblk
    by_cases hlt:j<k
    · obtain ⟨q,hq⟩:∃ q:Nat,k=j+q+1:=⟨k - j - 1,by omega⟩
      have e1:(k:Int) - 1 - j=(q:Int):=by omega
      have hsn:=pb_snoc n k j
      rw [show k - 1 - j=q by omega] at hsn
      have HSN:=Lib.hid hsn
      have hq8:(q:Int)≤7:=by omega
      have hq9:q≤7:=by omega
      have HQ:=Lib.hid hq
      have hdiv:0≤n / 2 ^ (8*q):=Int.ediv_nonneg n0 (Int.le_of_lt (Int.pow_pos (by decide)))
      have hby:IntKind.u8.wrap (n / 2 ^ (8*q))=byteZ n q:=by rw [IntKind.wrap_u8']; rfl
      have hb1:=byteZ_in n q
      rw [e1]
      have hnx:(q:Int) - 1=(k:Int) - 1 - ((j+1:Nat):Int):=by omega
      have HNX:=Lib.hid hnx
      clear hown hbel hblk e1 hsn hq hnx
      go_wp2_with (at_builtin; refine wpList_append_own _ rfl (.tmp 15) (.tmp 21) _ rfl base 5 i0 _ 1 1 Try.underlying22 HI0.out HZ0.out HZ1.out HZ2.out rfl (by omega) _ (m+j) _ rfl (HOwn.out.alloc _) ⟨wr.heap.size,0,none⟩ 1 1 [.int .u8 (byteZ n q)] rfl rfl (one_new _ _ _) (by simp [Value.oneCell']) (by unfold maxLen; omega) (by omega) (by simp; omega) ?_; intro v1 w1 hown1 hg1 _; have HO1:=Lib.hid hown1; have HG1:=Lib.hid hg1; clear hown1 hg1)
      go_roundw
      case rel =>
        refine ⟨j+1,by omega,congrArg (Value.int .i64) HNX.out,?_,below_grown (HBel.out.alloc (by omega) _) (HOwn.out.alloc _) hB (by simp; omega) HG1.out,by have:=HG1.out.size; simp at this; omega,kt_step HBK.out (HOwn.out.alloc (.cells #[.int .u8 (byteZ n q)] 5)) HG1.out⟩
        rw [HSN.out,List.map_append,← List.append_assoc]
        exact HO1.out
      case measure=>first | (simp [intOf]; done) | (simp [intOf]; omega)
    · obtain rfl:j=k:=by omega
      clear hown hbel hblk
      go_wp2_with fail
      go_ret
      exact ⟨_,rfl,HOwn.out,HBel.out,hbs,HBK.out⟩
theorem all_t (b:Nat) (cs:Array Value) (v:Value) (m:Nat) (xs:List Value) (s:Int) (n c:Nat) (l:List Int) (base B:Nat) (a w:World) (hown:w.ownsRow base 5 1 v m xs) (hbase:base≤w.heap.size) (hm:m+8*n≤1000000) (hbel:Below B a w) (hB:B≤base)
    (hl:l.length=n) (hK:Blk w b 30 cs) (hcs:cs.toList=l.map (.int .u64)) (hw:∀ x ∈ l,0≤x∧x<18446744073709551616) :
    Calls Try.prog 65 #[v,.int .i64 s,.slice (some ⟨b,0,none⟩) n c] w (PutPostT w base B a m (hs s*n) xs (allb (hs s) l)):=by
  have HK0:=Lib.hid hK
  have HCS:=Lib.hid hcs
  have HN:=Lib.hid hl
  have HW:=Lib.hid hw
  have HOwn0:=Lib.hid hown
  have HBel0:=Lib.hid hbel
  have hk8:=hs_le s
  have hkn:hs s*n≤8*n:=Nat.mul_le_mul_right n hk8
  clear hK hcs hl hw hown hbel
  go_enter Try.func65,Try.ntmps65
  go_wp2_with fail
  go_loopw [0,11] (fun out i wr=>∃ (j:Nat),j≤n∧i=.int .i64 j∧wr.ownsRow base 5 1 out (m+hs s*j) (xs++(allb (hs s) (l.take j)).map (.int .u8))∧Below B a wr∧base≤wr.heap.size∧KT w wr) (fun _ i _=>n - (intOf i).toNat)
  case atStart=>exact ⟨0,by omega,rfl,by simpa [allb] using HOwn0.out,HBel0.out,hbase,KT.refl w⟩
  case round =>
    obtain ⟨j,hj,rfl,hown,hbel,hbs,hkt⟩:=hrel
    have hblk:=hkt _ _ _ (by decide) HK0.out
    have HKT:=Lib.hid hkt
    clear hkt
    have HOwn:=Lib.hid hown
    have HBel:=Lib.hid hbel
    by_cases hlt:j<n
    · have hkl:j<l.length:=by rw [HN.out]; exact hlt
      have hcell:wr.cell? ⟨b,j,none⟩=some (.int .u64 (l[j])):=by
        rw [hblk.cell j,← Array.getElem?_toList,HCS.out,List.getElem?_map,List.getElem?_eq_getElem hkl]
        rfl
      have HBK:=Lib.hid hblk
      have hx:=HW.out l[j] (List.getElem_mem hkl)
      have hsn:allb (hs s) (l.take (j+1))=allb (hs s) (l.take j)++pb l[j] (hs s) (hs s):=by rw [take_snoc l j hkl,allb_snoc]
      have HSN:=Lib.hid hsn
      have hmj:hs s*j≤8*j:=Nat.mul_le_mul_right j hk8
      have hmj2:m+hs s*j≤1000000:=by omega
      clear hown hbel hblk hsn hmj
      generalize l[j]=x at *
      obtain ⟨x0,x1⟩:=hx
      go_wp2_with fail
      refine (put_t _ _ _ x s base B a _ HOwn.out hbs hmj2 HBel.out hB x0 x1).mono ?_
      rintro e w1 ⟨v1,rfl,hown1,hbel1,hbs1,hbk1⟩
      have HO1:=Lib.hid hown1
      have HB1:=Lib.hid hbel1
      have HK1:=Lib.hid (HKT.out.trans hbk1)
      clear hown1 hbel1 hbk1
      go_wp2_with fail
      go_roundw
      case rel =>
        refine ⟨j+1,by omega,by go_num,?_,HB1.out,hbs1,HK1.out⟩
        · rw [HSN.out,List.map_append,← List.append_assoc,Nat.mul_succ,← Nat.add_assoc]
          exact HO1.out
      case measure=>simp [intOf]; omega
    · obtain rfl:j=n:=by omega
      have hz:l.take j=l:=List.take_of_length_le (by rw [HN.out]; omega)
      rw [hz] at HOwn
      have HBK:=Lib.hid hblk
      clear hown hbel hz hblk
      go_wp2_with fail
      go_ret
      exact ⟨_,rfl,HOwn.out,HBel.out,hbs,HKT.out⟩
end Go.Proofs.Ytodckfgfbcnkoaa.snK
/- Layer 9: Bytes of a header that may be. -/
namespace Go.Proofs.Ytodckfgfbcnkoaa.sixQ
set_option maxHeartbeats 8000000
set_option maxRecDepth 100000
open Go.ChangeShapes Go.WideShapes Go.ChangeAt Go.RowKit
open base octA octB net rdrA rdrG sixW sixM snK sixE sixH sixK sixO
set_option linter.unusedVariables false
theorem i64_or (a b:Nat) (ha:a<9223372036854775808) (hb:b<9223372036854775808):bits .or .i64 (a:Int) (b:Int)=((a ||| b:Nat):Int):=by
  have hA:(BitVec.ofInt 64 (a:Int)).toNat=a:=by rw [BitVec.ofInt_natCast,BitVec.toNat_ofNat]; exact Nat.mod_eq_of_lt (by omega)
  have hB:(BitVec.ofInt 64 (b:Int)).toNat=b:=by rw [BitVec.ofInt_natCast,BitVec.toNat_ofNat]; exact Nat.mod_eq_of_lt (by omega)
  show IntKind.i64.wrap ((BitVec.ofInt 64 (a:Int) ||| BitVec.ofInt 64 (b:Int)).toNat:Nat)=_
  rw [BitVec.toNat_or,hA,hB]
  have:a ||| b<2 ^ 63:=Nat.or_lt_two_pow (by omega) (by omega)
  exact IntWalk.i64_in _ (by omega)
theorem or_six (cls lab:Int) (c0:0≤cls) (c1:cls≤255) (l0:0≤lab) (l1:lab≤1048575):bits .or .i64 (bits .or .i64 1610612736 (cls*1048576)) lab=1610612736+cls*1048576+lab:=by
  obtain ⟨a,rfl⟩:=Int.eq_ofNat_of_zero_le c0
  obtain ⟨b,rfl⟩:=Int.eq_ofNat_of_zero_le l0
  have e1:bits .or .i64 ((1610612736:Nat):Int) ((a*1048576:Nat):Int)=((1610612736 ||| a*1048576:Nat):Int):=i64_or _ _ (by omega) (by omega)
  have e2:1610612736 ||| a*1048576=1610612736+a*1048576:=by
    have:=Nat.shiftLeft_add_eq_or_of_lt (b:=a*1048576) (i:=28) (by omega) 6
    rw [Nat.shiftLeft_eq] at this
    exact this.symm
  have e3:bits .or .i64 ((1610612736+a*1048576:Nat):Int) (b:Int)=((1610612736+a*1048576 ||| b:Nat):Int):=i64_or _ _ (by omega) (by omega)
  have e4:1610612736+a*1048576 ||| b=1610612736+a*1048576+b:=by
    have:=Nat.shiftLeft_add_eq_or_of_lt (b:=b) (i:=20) (by omega) (1536+a)
    rw [Nat.shiftLeft_eq] at this
    rw [show 1610612736+a*1048576=(1536+a)*2 ^ 20 by omega]
    exact this.symm
  have h1:bits .or .i64 1610612736 ((a:Int)*1048576)=((1610612736+a*1048576:Nat):Int):=by
    rw [← e2]
    exact e1
  show bits .or .i64 (bits .or .i64 1610612736 ((a:Int)*1048576)) (b:Int)=_
  rw [h1,e3,e4]
  show ((1610612736+a*1048576+b:Nat):Int)=_
  omega
theorem next_in {l:List XP} {p:Int} (h:RightE l) (hp:0≤p∧p≤255) (k:Nat):0≤nextK (l.drop k) p∧nextK (l.drop k) p≤255:=by
  rcases Nat.lt_or_ge k l.length with hk | hk
  · rw [List.drop_eq_getElem_cons hk]
    show 0≤l[k].1∧l[k].1≤255
    have:=h.each k hk
    unfold rightX at this
    simp only [Bool.and_eq_true] at this
    exact isX_in this.1.1.1
  · rw [List.drop_of_length_le hk]
    exact hp
def extP (X:List XP) (p:Int):Nat→List Int
  | 0=>[]
  | k+1=>extP X p k++(nextK (X.drop (k+1)) p::(X.getD k (0,[])).2)
theorem extP_ext (X:List XP) (p:Int):∀ k,k≤X.length→extP X p k++extB (X.drop k) p=extB X p
  | 0,_=>rfl
  | k+1,h=>by
    have ih:=extP_ext X p k (by omega)
    rw [List.drop_eq_getElem_cons (by omega)] at ih
    have e:(X.getD k (0,[])).2=X[k].2:=by rw [List.getD_eq_getElem?_getD,List.getElem?_eq_getElem (by omega)]; rfl
    rw [← ih]
    show extP X p k++(nextK (X.drop (k+1)) p::(X.getD k (0,[])).2)++_=extP X p k++(nextK (X.drop (k+1)) p::(X[k].2++extB (X.drop (k+1)) p))
    rw [e,List.append_assoc]
    rfl
theorem extP_all (X:List XP) (p:Int):extP X p X.length=extB X p:=by
  have:=extP_ext X p X.length (Nat.le_refl _)
  rw [List.drop_length] at this
  rw [← this]
  exact (List.append_nil _).symm
theorem extP_len (X:List XP) (p:Int) (k:Nat) (hk:k≤X.length):(extP X p k).length≤extL X:=by
  have h:=congrArg List.length (extP_ext X p k hk)
  rw [List.length_append,extB_len,extB_len] at h
  omega
structure BS (w:World) (g:Nat) (cs:Array Value) (V:World) (v:Value) (k:Nat) (xs:List Int):Prop where
  own:V.ownsRow g 5 1 v k (xs.map (.int .u8))
  bel:Below g w V
  hd:Blk V g 48 cs
  sz:g≤V.heap.size
theorem BS.below {w:World} {g:Nat} {cs:Array Value} {V V':World} {v:Value} {k:Nat} {xs:List Int} (h:BS w g cs V v k xs) (hb:Below V.heap.size V V'):BS w g cs V' v k xs:=⟨own_below2 h.own hb,h.bel.trans (hb.mono h.sz),h.hd.below hb h.hd.lt,Nat.le_trans h.sz hb.size⟩
theorem BS.put {w:World} {g:Nat} {cs:Array Value} {V:World} {v:Value} {k:Nat} {xs:List Int} (h:BS w g cs V v k xs) (n s:Int) (hk:k≤1000000) (n0:0≤n) (n1:n<18446744073709551616) :
    Calls Try.prog 55 #[v,.int .u64 n,.int .i64 s] V fun o w'=>∃ v',o=.returned v'∧BS w g cs w' v' (k+hs s) (xs++pb n (hs s) (hs s)):=by
  refine (put_t v k (xs.map (.int .u8)) n s g g w V h.own h.sz hk h.bel (Nat.le_refl _) n0 n1).mono ?_
  rintro o w' ⟨v',rfl,h1,h2,h3,h4⟩
  exact ⟨v',rfl,by rw [List.map_append]; exact h1,h2,h4 g _ _ (by decide) h.hd,h3⟩
theorem BS.all {w:World} {g:Nat} {cs:Array Value} {V:World} {v:Value} {k:Nat} {xs:List Int} (h:BS w g cs V v k xs) (s:Int) (b n c:Nat) (bs:Array Value) (l:List Int) (hk:k+8*n≤1000000) (hl:l.length=n) (hK:Blk V b 30 bs) (hcs:bs.toList=l.map (.int .u64)) (hw:∀ x ∈ l,0≤x∧x<18446744073709551616) :
    Calls Try.prog 65 #[v,.int .i64 s,.slice (some ⟨b,0,none⟩) n c] V fun o w'=>∃ v',o=.returned v'∧BS w g cs w' v' (k+hs s*n) (xs++allb (hs s) l):=by
  refine (all_t b bs v k (xs.map (.int .u8)) s n c l g g w V h.own h.sz hk h.bel (Nat.le_refl _) hl hK hcs hw).mono ?_
  rintro o w' ⟨v',rfl,h1,h2,h3,h4⟩
  exact ⟨v',rfl,by rw [List.map_append]; exact h1,h2,h4 g _ _ (by decide) h.hd,h3⟩
theorem BS.put2 {w:World} {g:Nat} {cs:Array Value} {V:World} {v:Value} {k:Nat} {xs:List Int} (h:BS w g cs V v k xs) (n s:Int) (hk:k≤1000000) (n0:0≤n) (n1:n<18446744073709551616) :
    Calls Try.prog 55 #[v,.int .u64 n,.int .i64 s] V fun o w'=>∃ v',o=.returned v'∧BS w g cs w' v' (k+hs s) (xs++pb n (hs s) (hs s))∧KT V w':=by
  refine (put_t v k (xs.map (.int .u8)) n s g g w V h.own h.sz hk h.bel (Nat.le_refl _) n0 n1).mono ?_
  rintro o w' ⟨v',rfl,h1,h2,h3,h4⟩
  exact ⟨v',rfl,⟨by rw [List.map_append]; exact h1,h2,h4 g _ _ (by decide) h.hd,h3⟩,h4⟩
theorem BS.app {w:World} {g:Nat} {cs:Array Value} {V V':World} {v v':Value} {k m:Nat} {xs ys:List Int} (h:BS w g cs V v k xs) (ho:V'.ownsRow g 5 1 v' (k+m) (xs.map (.int .u8)++ys.map (.int .u8))) (hg:V.grownBy V' v.ownBlock):BS w g cs V' v' (k+m) (xs++ys) :=
  ⟨by rw [List.map_append]; exact ho,below_grown h.bel h.own (Nat.le_refl _) h.sz hg,((KT.refl V).grown h.own hg) g _ _ (by decide) h.hd,Nat.le_trans h.sz hg.size⟩
theorem hd_eq (X0 cls lab hop nk sh sl dh dl:Int) (N:Nat) (hN:N≤65535) (c0:0≤cls) (c1:cls≤255) (l0:0≤lab) (l1:lab≤1048575) (h0:0≤hop) (h1:hop≤255) (n0:0≤nk) (n1:nk≤255) (hX:X0=1610612736+cls*1048576+lab) (s6 d6:Bool) (p:Int) :
    pb X0 4 4++pb ((N:Nat):Int) 2 2++allb 1 [nk,hop]++allb 8 [sh,sl,dh,dl]=hdB ⟨cls,lab,hop,s6,sh,sl,d6,dh,dl,p⟩ nk N:=by
  have e1:=pb_four X0 (by omega) (by omega)
  have e2:=pb_two (N:Int) (by omega) (by omega)
  have e3:allb 1 [nk,hop]=[nk,hop]:=by
    show pb nk 1 1++(pb hop 1 1++[])=_
    rw [pb_one nk n0 n1,pb_one hop h0 h1]
    rfl
  have e4:allb 8 [sh,sl,dh,dl]=pb sh 8 8++pb sl 8 8++(pb dh 8 8++pb dl 8 8):=by
    show pb sh 8 8++(pb sl 8 8++(pb dh 8 8++(pb dl 8 8++[])))=_
    simp only [List.append_nil,List.append_assoc]
  have k1:X0 / 65536 / 256=96+cls / 16:=by omega
  have k2:X0 / 65536 % 256=cls % 16*16+lab / 65536:=by omega
  have k3:X0 % 65536 / 256=lab / 256 % 256:=by omega
  have k4:X0 % 65536 % 256=lab % 256:=by omega
  have k5:(N:Int) / 256=(N:Int) / 256 % 256:=by omega
  rw [e1,e2,e3,e4,k1,k2,k3,k4]
  show _=[96+cls / 16,cls % 16*16+lab / 65536,lab / 256 % 256,lab % 256,(N:Int) / 256 % 256,(N:Int) % 256,nk,hop]++(pb sh 8 8++pb sl 8 8)++(pb dh 8 8++pb dl 8 8)
  rw [← k5]
  simp only [List.append_assoc,List.cons_append,List.nil_append]
theorem bytes_any (h:Hs) (A:Option Addr) (n c:Nat) (l:List Xt) (R:Option Addr) (m rc:Nat) (r:List Int) (w:World) (hl:l.length=n) (hr:RdX w A l) (hnc:n≤c) (hR:RightH h (l.map Xt.re)) (hsh:0≤h.sh∧h.sh<18446744073709551616) (hsl:0≤h.sl∧h.sl<18446744073709551616) (hdh:0≤h.dh∧h.dh<18446744073709551616) (hdl:0≤h.dl∧h.dl<18446744073709551616)
    (hm:r.length=m) (hrr:Row w w.heap.size R (r.map (.int .u8))) (hm2:m≤1000) (hrc:R=none→rc=0) :
    Calls Try.prog 37 #[.agg (h.cells (.slice A n c)),.slice R m rc] w fun o w'=>∃ v,o=.returned (.tuple #[v,.int .i64 0])∧w'.ownsRow w.heap.size 5 1 v (sixB h (l.map Xt.re) r).length ((sixB h (l.map Xt.re) r).map (.int .u8))∧Below w.heap.size w w':=by
  obtain ⟨i0,hi0,hz0,hz1,hz2⟩:=info_parts info_u8
  have HI0:=Lib.hid hi0
  have HZ0:=Lib.hid hz0
  have HZ1:=Lib.hid hz1
  have HZ2:=Lib.hid hz2
  have HRH:=Lib.hid hR
  have hn8:n≤8:=by have:=hR.e.most; rw [List.length_map] at this; omega
  have hd:∀ x ∈ l,x.d.length≤2047:=fun x hx=>by
    obtain ⟨j,hj,he⟩:=List.getElem_of_mem hx
    have:=hR.e.each j (by rw [List.length_map]; exact hj)
    unfold rightX at this
    simp only [Bool.and_eq_true,decide_eq_true_eq,List.getElem_map,he] at this
    exact this.1.2.1
  have RG:=Lib.hid (show ∀ V,Below w.heap.size w V→Calls Try.prog 68 #[.agg (h.cells (.slice A n c))] V fun o w'=>o=.returned (.bool true)∧Below V.heap.size V w' from fun V hV=>by
    refine (right_any h A n c l V hl (hr.below hV) hnc (by omega) (fun x hx=>by have:=hd x hx; omega)).mono ?_
    rintro o w' ⟨v,rfl,h1,h2⟩
    exact ⟨by rw [h1.mpr HRH.out],h2⟩)
  have LG:=Lib.hid (show ∀ V,Below w.heap.size w V→_ from fun V hV=>len_any h A n c l V hl (hr.below hV) hn8 hd)
  have NG:=Lib.hid (show ∀ k V,Below w.heap.size w V→_ from fun k V hV=>next_any h A n c k l V hl (hr.below hV) (by omega))
  obtain ⟨cls,lab,hop,s6,sh,sl,d6,dh,dl,p⟩:=h
  obtain rfl:s6=true:=hR.s6
  obtain rfl:d6=true:=hR.d6
  have c0:0≤cls:=hR.c0
  have c1:cls≤255:=hR.c1
  have h0:0≤hop:=hR.h0
  have h1:hop≤255:=hR.h1
  have l0:0≤lab:=hR.l0
  have l1:lab≤1048575:=hR.l1
  have p0:0≤p:=hR.p0
  have p1:p≤255:=hR.p1
  have HRE:=Lib.hid hR.e
  have HL:=Lib.hid hl
  have HM:=Lib.hid hm
  have HRR:=Lib.hid hrr
  have HRC:=Lib.hid hrc
  obtain ⟨g,hg⟩:∃ g,g=w.heap.size:=⟨_,rfl⟩
  have EG:=Lib.hid hg
  obtain ⟨w1,hw1⟩:∃ w1,w1=w.alloc (.cells #[.int .i64 cls,.int .i64 lab,.int .i64 hop,.bool true,.int .u64 sh,.int .u64 sl,.bool true,.int .u64 dh,.int .u64 dl,.slice A n c,.int .i64 p] 48):=⟨_,rfl⟩
  have E1:=Lib.hid hw1
  have BA:=Lib.hid (show Below w.heap.size w w1 from by rw [hw1]; exact (Below.refl _ _).alloc (Nat.le_refl _) _)
  have KB:=Lib.hid (show Blk w1 g 48 #[.int .i64 cls,.int .i64 lab,.int .i64 hop,.bool true,.int .u64 sh,.int .u64 sl,.bool true,.int .u64 dh,.int .u64 dl,.slice A n c,.int .i64 p] from by rw [hw1,hg]; exact Blk.new w _ _)
  have SZ1:=Lib.hid (show w1.heap.size=g+1 from by rw [hw1,hg]; simp)
  have HR0:=Lib.hid hr
  have hxl:extL (l.map Xt.re)≤16384:=extL_le HRE.out
  obtain ⟨xl,hxle⟩:∃ xl,xl=extL (l.map Xt.re):=⟨_,rfl⟩
  have HXL:=Lib.hid hxle
  rw [← hxle] at hxl
  have RG1:=Lib.hid (RG.out w1 BA.out)
  clear hi0 hz0 hz1 hz2 hl hr hR hm hrr hrc hw1 hg hxle hd RG
  show Calls _ _ #[.agg #[.int .i64 cls,.int .i64 lab,.int .i64 hop,.bool true,.int .u64 sh,.int .u64 sl,.bool true,.int .u64 dh,.int .u64 dl,.slice A n c,.int .i64 p],.slice R m rc] _ _
  go_enter Try.func37,Try.ntmps37
  go_upto_region 1 with fail
  rw [← E1.out,← EG.out]
  have x0:=KB.out.cell 0
  have x1:=KB.out.cell 1
  have x2:=KB.out.cell 2
  have x3:=KB.out.cell 3
  have x4:=KB.out.cell 4
  have x5:=KB.out.cell 5
  have x6:=KB.out.cell 6
  have x7:=KB.out.cell 7
  have x8:=KB.out.cell 8
  have x9:=KB.out.cell 9
  have x10:=KB.out.cell 10
  go_wp2_with fail
  refine RG1.out.mono ?_
  rintro o w2 ⟨rfl,hb2⟩
  clear x0 x1 x2 x3 x4 x5 x6 x7 x8 x9 x10
  have K2:=Lib.hid (KB.out.below hb2 KB.out.lt)
  have B2:=Lib.hid (BA.out.trans (hb2.mono BA.out.size))
  have LG2:=Lib.hid (LG.out w2 B2.out)
  clear hb2
  have x0:=K2.out.cell 0
  have x1:=K2.out.cell 1
  have x2:=K2.out.cell 2
  have x3:=K2.out.cell 3
  have x4:=K2.out.cell 4
  have x5:=K2.out.cell 5
  have x6:=K2.out.cell 6
  have x7:=K2.out.cell 7
  have x8:=K2.out.cell 8
  have x9:=K2.out.cell 9
  have x10:=K2.out.cell 10
  go_wp2_with fail
  refine LG2.out.mono ?_
  rintro o w3 ⟨rfl,hb3⟩
  rw [← HXL.out]
  clear x0 x1 x2 x3 x4 x5 x6 x7 x8 x9 x10
  have K3:=Lib.hid (K2.out.below hb3 K2.out.lt)
  have B3:=Lib.hid (B2.out.trans (hb3.mono B2.out.size))
  clear hb3
  have q1:IntKind.i64.wrap (((40+xl:Nat):Int) - 40)=(xl:Int):=by rw [IntKind.wrap_i64]; omega
  have q2:IntKind.i64.wrap ((xl:Int)+m)=((xl+m:Nat):Int):=by rw [IntKind.wrap_i64]; omega
  have q3:decide (65535<((xl+m:Nat):Int))=false:=decide_eq_false (by omega)
  have q4:decide (65535<(xl+m))=false:=decide_eq_false (by omega)
  have x0:=K3.out.cell 0
  have x1:=K3.out.cell 1
  have qb:=or_six cls lab c0 c1 l0 l1
  obtain ⟨X0,hX0⟩:∃ X0,X0=1610612736+cls*1048576+lab:=⟨_,rfl⟩
  have HX0:=Lib.hid hX0
  rw [← hX0] at qb
  have qw:IntKind.u64.wrap X0=X0:=by rw [IntKind.wrap_u64]; omega
  have qe:(40:Int)+xl - 40+m=((xl+m:Nat):Int):=by omega
  have S0:=Lib.hid (show BS w g #[.int .i64 cls,.int .i64 lab,.int .i64 hop,.bool true,.int .u64 sh,.int .u64 sl,.bool true,.int .u64 dh,.int .u64 dl,.slice A n c,.int .i64 p] w3 (.slice none 0 0) 0 [] from ⟨World.ownsRow_nil _ _ _ _,by rw [EG.out]; exact B3.out,K3.out,by rw [EG.out]; exact B3.out.size⟩)
  have P0:=Lib.hid (S0.out.put X0 4 (by omega) (by omega) (by omega))
  clear hX0
  go_upto_region 6 with fail
  go_wp2_with fail
  refine P0.out.mono ?_
  rintro o w4 ⟨v4,rfl,hs4⟩
  have S4:=Lib.hid (show BS w g #[.int .i64 cls,.int .i64 lab,.int .i64 hop,.bool true,.int .u64 sh,.int .u64 sl,.bool true,.int .u64 dh,.int .u64 dl,.slice A n c,.int .i64 p] w4 v4 4 (pb X0 4 4) from hs4)
  have q5:IntKind.u64.wrap ((xl+m:Nat):Int)=((xl+m:Nat):Int):=by rw [IntKind.wrap_u64]; omega
  have P1:=Lib.hid (S4.out.put ((xl+m:Nat):Int) 2 (by omega) (by omega) (by omega))
  clear hs4 x0 x1 q1 q2 q3 q4 qb qw
  go_upto_region 7 with fail
  go_wp2_with fail
  refine P1.out.mono ?_
  rintro o w5 ⟨v5,rfl,hs5⟩
  have S5:=Lib.hid (show BS w g #[.int .i64 cls,.int .i64 lab,.int .i64 hop,.bool true,.int .u64 sh,.int .u64 sl,.bool true,.int .u64 dh,.int .u64 dl,.slice A n c,.int .i64 p] w5 v5 6 (pb X0 4 4++pb ((xl+m:Nat):Int) 2 2) from hs5)
  clear hs5
  obtain ⟨nk,hnk⟩:∃ nk,nk=nextK (l.map Xt.re) p:=⟨_,rfl⟩
  have HNK:=Lib.hid hnk
  have hnk9:0≤nk∧nk≤255:=by
    rw [hnk]
    exact next_in HRE.out ⟨p0,p1⟩ 0
  have qn:IntKind.u64.wrap nk=nk:=by rw [IntKind.wrap_u64]; omega
  have qh:IntKind.u64.wrap hop=hop:=by rw [IntKind.wrap_u64]; omega
  have D5:=Lib.hid (S5.out.below (Below.refl _ _).drew)
  have HKV:=Lib.hid (show w5.drew.cell? ⟨g,0,none⟩=some (.int .i64 cls)∧w5.drew.cell? ⟨g,1,none⟩=some (.int .i64 lab)∧w5.drew.cell? ⟨g,2,none⟩=some (.int .i64 hop)∧w5.drew.cell? ⟨g,3,none⟩=some (.bool true)∧w5.drew.cell? ⟨g,4,none⟩=some (.int .u64 sh)∧w5.drew.cell? ⟨g,5,none⟩=some (.int .u64 sl)∧w5.drew.cell? ⟨g,6,none⟩=some (.bool true)∧w5.drew.cell? ⟨g,7,none⟩=some (.int .u64 dh)∧w5.drew.cell? ⟨g,8,none⟩=some (.int .u64 dl)∧w5.drew.cell? ⟨g,9,none⟩=some (.slice A n c)∧w5.drew.cell? ⟨g,10,none⟩=some (.int .i64 p) from ⟨D5.out.hd.cell 0,D5.out.hd.cell 1,D5.out.hd.cell 2,D5.out.hd.cell 3,D5.out.hd.cell 4,D5.out.hd.cell 5,D5.out.hd.cell 6,D5.out.hd.cell 7,D5.out.hd.cell 8,D5.out.hd.cell 9,D5.out.hd.cell 10⟩)
  have N0:=Lib.hid (show Calls Try.prog 69 #[.agg #[.int .i64 cls,.int .i64 lab,.int .i64 hop,.bool true,.int .u64 sh,.int .u64 sl,.bool true,.int .u64 dh,.int .u64 dl,.slice A n c,.int .i64 p],.int .i64 0] w5.drew fun o w'=>o=.returned (.int .i64 nk)∧Below w5.drew.heap.size w5.drew w' from by
    rw [hnk]
    exact NG.out 0 w5.drew (by have:=D5.out.bel; rw [EG.out] at this; exact this))
  have U1:=Lib.hid (show ∀ x ∈ [nk,hop],0≤x∧x<18446744073709551616 from fun x hx=>by
    simp only [List.mem_cons,List.not_mem_nil,or_false] at hx
    rcases hx with rfl | rfl <;> omega)
  clear hnk
  go_upto_region 8 with fail
  go_region_held3 (fun w'=>w'.cell? ⟨g,0,none⟩=some (.int .i64 cls)∧w'.cell? ⟨g,1,none⟩=some (.int .i64 lab)∧w'.cell? ⟨g,2,none⟩=some (.int .i64 hop)∧w'.cell? ⟨g,3,none⟩=some (.bool true)∧w'.cell? ⟨g,4,none⟩=some (.int .u64 sh)∧w'.cell? ⟨g,5,none⟩=some (.int .u64 sl)∧w'.cell? ⟨g,6,none⟩=some (.bool true)∧w'.cell? ⟨g,7,none⟩=some (.int .u64 dh)∧w'.cell? ⟨g,8,none⟩=some (.int .u64 dl)∧w'.cell? ⟨g,9,none⟩=some (.slice A n c)∧w'.cell? ⟨g,10,none⟩=some (.int .i64 p)) (first | with_reducible assumption | with_reducible exact HK8.out | with_reducible exact HK7.out | with_reducible exact HK6.out | with_reducible exact HKV.out) (first
    | (go_at_call 65; refine AL.out.mono ?_; rintro o w8 ⟨v8,rfl,hs8⟩; have S8:=Lib.hid (show BS w g #[.int .i64 cls,.int .i64 lab,.int .i64 hop,.bool true,.int .u64 sh,.int .u64 sl,.bool true,.int .u64 dh,.int .u64 dl,.slice A n c,.int .i64 p] w8 v8 8 (pb X0 4 4++pb ((xl+m:Nat):Int) 2 2++allb 1 [nk,hop]) from hs8); have HK8:=Lib.hid (show w8.cell? ⟨g,0,none⟩=some (.int .i64 cls)∧w8.cell? ⟨g,1,none⟩=some (.int .i64 lab)∧w8.cell? ⟨g,2,none⟩=some (.int .i64 hop)∧w8.cell? ⟨g,3,none⟩=some (.bool true)∧w8.cell? ⟨g,4,none⟩=some (.int .u64 sh)∧w8.cell? ⟨g,5,none⟩=some (.int .u64 sl)∧w8.cell? ⟨g,6,none⟩=some (.bool true)∧w8.cell? ⟨g,7,none⟩=some (.int .u64 dh)∧w8.cell? ⟨g,8,none⟩=some (.int .u64 dl)∧w8.cell? ⟨g,9,none⟩=some (.slice A n c)∧w8.cell? ⟨g,10,none⟩=some (.int .i64 p) from ⟨hs8.hd.cell 0,hs8.hd.cell 1,hs8.hd.cell 2,hs8.hd.cell 3,hs8.hd.cell 4,hs8.hd.cell 5,hs8.hd.cell 6,hs8.hd.cell 7,hs8.hd.cell 8,hs8.hd.cell 9,hs8.hd.cell 10⟩); clear hs8)
    | (go_at_call 69; refine N0.out.mono ?_; rintro o w6 ⟨rfl,hb6⟩; have S6:=Lib.hid (D5.out.below hb6); have S7:=Lib.hid (S6.out.below ((Below.refl w6.heap.size w6).alloc (Nat.le_refl _) (.cells #[.int .u64 nk,.int .u64 hop] 30))); have HK6:=Lib.hid (show w6.cell? ⟨g,0,none⟩=some (.int .i64 cls)∧w6.cell? ⟨g,1,none⟩=some (.int .i64 lab)∧w6.cell? ⟨g,2,none⟩=some (.int .i64 hop)∧w6.cell? ⟨g,3,none⟩=some (.bool true)∧w6.cell? ⟨g,4,none⟩=some (.int .u64 sh)∧w6.cell? ⟨g,5,none⟩=some (.int .u64 sl)∧w6.cell? ⟨g,6,none⟩=some (.bool true)∧w6.cell? ⟨g,7,none⟩=some (.int .u64 dh)∧w6.cell? ⟨g,8,none⟩=some (.int .u64 dl)∧w6.cell? ⟨g,9,none⟩=some (.slice A n c)∧w6.cell? ⟨g,10,none⟩=some (.int .i64 p) from ⟨S6.out.hd.cell 0,S6.out.hd.cell 1,S6.out.hd.cell 2,S6.out.hd.cell 3,S6.out.hd.cell 4,S6.out.hd.cell 5,S6.out.hd.cell 6,S6.out.hd.cell 7,S6.out.hd.cell 8,S6.out.hd.cell 9,S6.out.hd.cell 10⟩); have HK7:=Lib.hid (show (w6.alloc (.cells #[.int .u64 nk,.int .u64 hop] 30)).cell? ⟨g,0,none⟩=some (.int .i64 cls)∧(w6.alloc (.cells #[.int .u64 nk,.int .u64 hop] 30)).cell? ⟨g,1,none⟩=some (.int .i64 lab)∧(w6.alloc (.cells #[.int .u64 nk,.int .u64 hop] 30)).cell? ⟨g,2,none⟩=some (.int .i64 hop)∧(w6.alloc (.cells #[.int .u64 nk,.int .u64 hop] 30)).cell? ⟨g,3,none⟩=some (.bool true)∧(w6.alloc (.cells #[.int .u64 nk,.int .u64 hop] 30)).cell? ⟨g,4,none⟩=some (.int .u64 sh)∧(w6.alloc (.cells #[.int .u64 nk,.int .u64 hop] 30)).cell? ⟨g,5,none⟩=some (.int .u64 sl)∧(w6.alloc (.cells #[.int .u64 nk,.int .u64 hop] 30)).cell? ⟨g,6,none⟩=some (.bool true)∧(w6.alloc (.cells #[.int .u64 nk,.int .u64 hop] 30)).cell? ⟨g,7,none⟩=some (.int .u64 dh)∧(w6.alloc (.cells #[.int .u64 nk,.int .u64 hop] 30)).cell? ⟨g,8,none⟩=some (.int .u64 dl)∧(w6.alloc (.cells #[.int .u64 nk,.int .u64 hop] 30)).cell? ⟨g,9,none⟩=some (.slice A n c)∧(w6.alloc (.cells #[.int .u64 nk,.int .u64 hop] 30)).cell? ⟨g,10,none⟩=some (.int .i64 p) from ⟨S7.out.hd.cell 0,S7.out.hd.cell 1,S7.out.hd.cell 2,S7.out.hd.cell 3,S7.out.hd.cell 4,S7.out.hd.cell 5,S7.out.hd.cell 6,S7.out.hd.cell 7,S7.out.hd.cell 8,S7.out.hd.cell 9,S7.out.hd.cell 10⟩); have AL:=Lib.hid (S7.out.all 1 w6.heap.size 2 2 #[.int .u64 nk,.int .u64 hop] [nk,hop] (by omega) rfl (Blk.new w6 30 #[.int .u64 nk,.int .u64 hop]) rfl U1.out); clear hb6))
  clear S6 S7 HK6 HK7 AL HKV D5 N0 HK8
  go_wp2_with fail
  have U2:=Lib.hid (show ∀ x ∈ [sh,sl,dh,dl],0≤x∧x<18446744073709551616 from fun x hx=>by
    simp only [List.mem_cons,List.not_mem_nil,or_false] at hx
    rcases hx with rfl | rfl | rfl | rfl
    · exact hsh
    · exact hsl
    · exact hdh
    · exact hdl)
  have S9:=Lib.hid (S8.out.below ((Below.refl w8.heap.size w8).alloc (Nat.le_refl _) (.cells #[.int .u64 sh,.int .u64 sl,.int .u64 dh,.int .u64 dl] 30)))
  have AL9:=Lib.hid (S9.out.all 8 w8.heap.size 4 4 #[.int .u64 sh,.int .u64 sl,.int .u64 dh,.int .u64 dl] [sh,sl,dh,dl] (by omega) rfl (Blk.new w8 30 #[.int .u64 sh,.int .u64 sl,.int .u64 dh,.int .u64 dl]) rfl U2.out)
  have y4:=S8.out.hd.cell 4
  have y5:=S8.out.hd.cell 5
  have y7:=S8.out.hd.cell 7
  have y8:=S8.out.hd.cell 8
  go_upto_region 9 with fail
  go_wp2_with fail
  refine AL9.out.mono ?_
  rintro o w10 ⟨v10,rfl,hs10⟩
  obtain ⟨XH,hXH⟩:∃ XH,XH=pb X0 4 4++pb ((xl+m:Nat):Int) 2 2++allb 1 [nk,hop]++allb 8 [sh,sl,dh,dl]:=⟨_,rfl⟩
  have HXH:=Lib.hid hXH
  have S10:=Lib.hid (show BS w g #[.int .i64 cls,.int .i64 lab,.int .i64 hop,.bool true,.int .u64 sh,.int .u64 sl,.bool true,.int .u64 dh,.int .u64 dl,.slice A n c,.int .i64 p] w10 v10 40 XH from by rw [hXH]; exact hs10)
  clear hs10 hXH y4 y5 y7 y8 S9 AL9
  have y9:=S10.out.hd.cell 9
  have NN:=Lib.hid (show ∀ (k:Nat) (V:World),Below g w V→Calls Try.prog 69 #[.agg #[.int .i64 cls,.int .i64 lab,.int .i64 hop,.bool true,.int .u64 sh,.int .u64 sl,.bool true,.int .u64 dh,.int .u64 dl,.slice A n c,.int .i64 p],.int .i64 ((k+1:Nat):Int)] V fun o w'=>o=.returned (.int .i64 (nextK ((l.map Xt.re).drop (k+1)) p))∧Below V.heap.size V w' from fun k V hV=>NG.out (k+1) V (EG.out ▸ hV))
  go_upto_region 11 with fail
  clear y9
  obtain ⟨X,hX⟩:∃ X,X=l.map Xt.re:=⟨_,rfl⟩
  have HX:=Lib.hid hX
  have HRX:=Lib.hid (show RightE X from by rw [hX]; exact HRE.out)
  have HXN:=Lib.hid (show X.length=n from by rw [hX,List.length_map]; exact HL.out)
  have HXX:=Lib.hid (show xl=extL X from by rw [hX]; exact HXL.out)
  clear hX
  go_loopw [7,61] (fun bv iv wr=>∃ (k:Nat),k≤n∧iv=.int .i64 k∧Hid (BS w g #[.int .i64 cls,.int .i64 lab,.int .i64 hop,.bool true,.int .u64 sh,.int .u64 sl,.bool true,.int .u64 dh,.int .u64 dl,.slice A n c,.int .i64 p] wr bv (40+(extP X p k).length) (XH++extP X p k))) (fun _ i _=>n - (intOf i).toNat)
  case atStart=>exact ⟨0,by omega,rfl,Lib.hid (by show BS w g _ w10 v10 (40+0) (XH++[]); rw [List.append_nil]; exact S10.out)⟩
  case round =>
    obtain ⟨k,hk,rfl,HB⟩:=hrel
    have hel:(extP X p k).length≤xl:=by rw [HXX.out]; exact extP_len X p k (by rw [HXN.out]; exact hk)
    obtain ⟨ne,hne⟩:∃ ne,ne=(extP X p k).length:=⟨_,rfl⟩
    rw [← hne] at HB hel
    have HNE:=Lib.hid hne
    clear hne
    by_cases hlt:k<n
    · have hkl:k<l.length:=by rw [HL.out]; exact hlt
      have HBW:Below w.heap.size w wr:=by have:=HB.out.bel; rw [EG.out] at this; exact this
      obtain ⟨b,off,hA,hbl,hC⟩:=(HR0.out.below HBW).at_ k hkl
      subst hA
      obtain ⟨r1,r2,r3,r4,r5⟩:=HR0.out.els l[k] (List.getElem_mem hkl)
      obtain ⟨e,he⟩:∃ e,e=l[k]:=⟨_,rfl⟩
      have hgd:(X.getD k (0,[])).2=e.d:=by
        rw [List.getD_eq_getElem?_getD,List.getElem?_eq_getElem (by rw [HXN.out]; exact hlt),he]
        simp [HX.out,Xt.re]
      have hrx:=HRX.out.each k (by rw [HXN.out]; exact hlt)
      rw [← he] at hC r1 r2 r3 r4 r5
      obtain ⟨ek,eA,ec,ed⟩:=e
      obtain ⟨q,hq⟩:∃ q,q=ed.length:=⟨_,rfl⟩
      have HQ:=Lib.hid hq
      have hq9:q≤2047:=by
        have h9:=hrx
        unfold rightX at h9
        simp only [Bool.and_eq_true,decide_eq_true_eq] at h9
        have h8:=h9.1.2.1
        have h7:(X[k]'(by rw [HXN.out]; exact hlt)).2=ed:=by
          have:=hgd
          rw [List.getD_eq_getElem?_getD,List.getElem?_eq_getElem (by rw [HXN.out]; exact hlt)] at this
          exact this
        rw [h7] at h8
        omega
      have d0:wr.cell? ⟨b,off+k*2,none⟩=some (.int .i64 ek):=hC 0 (by omega)
      have d1:wr.cell? ⟨b,off+k*2+1,none⟩=some (.slice eA q ec):=by rw [hq]; exact hC 1 (by omega)
      have HRD:=Lib.hid (show Row w g eA (ed.map (.int .u8)) from by rw [EG.out]; exact r1)
      have HND:=Lib.hid (show eA=none→ec=0 from r5)
      obtain ⟨w3b,hw3⟩:∃ w3b,w3b=wr.alloc (.cells #[.int .i64 ek,.slice eA q ec] 101):=⟨_,rfl⟩
      have E3:=Lib.hid hw3
      have BB3:=Lib.hid (show Below wr.heap.size wr w3b from by rw [hw3]; exact (Below.refl _ _).alloc (Nat.le_refl _) _)
      have KE3:=Lib.hid (show Blk w3b wr.heap.size 101 #[.int .i64 ek,.slice eA q ec] from by rw [hw3]; exact Blk.new wr _ _)
      have T3:=Lib.hid (HB.out.below BB3.out)
      have j0:(0:Int)≤k:=by omega
      have j1:(k:Int)<n:=by omega
      have t1:decide ((k:Int)<n)=true:=decide_eq_true j1
      have t1n:decide (k<n)=true:=decide_eq_true hlt
      have wk:IntKind.i64.wrap ((k:Int)+1)=((k+1:Nat):Int):=by rw [IntWalk.i64_in _ (by omega)]; omega
      obtain ⟨nx,hnx⟩:∃ nx,nx=nextK ((l.map Xt.re).drop (k+1)) p:=⟨_,rfl⟩
      have hnx9:0≤nx∧nx≤255:=by rw [hnx]; exact next_in HRE.out ⟨p0,p1⟩ (k+1)
      have NNK:=NN.out k
      rw [← hnx] at NNK
      have NNk:=Lib.hid NNK
      clear NNK
      rw [← HX.out] at hnx
      have HXK:=Lib.hid (show extP X p (k+1)=extP X p k++(nx::ed) from by
        show extP X p k++(nextK (X.drop (k+1)) p::(X.getD k (0,[])).2)=_
        rw [hgd,hnx])
      have wx:IntKind.u64.wrap nx=nx:=by rw [IntKind.wrap_u64]; omega
      clear hw3 hC he hq hkl hbl hlt r1 r2 r3 r4 r5 hgd hrx hnx HBW
      go_upto_region 13 with fail
      rw [← E3.out]
      have x0:=T3.out.hd.cell 0
      have x1:=T3.out.hd.cell 1
      have x2:=T3.out.hd.cell 2
      have x3:=T3.out.hd.cell 3
      have x4:=T3.out.hd.cell 4
      have x5:=T3.out.hd.cell 5
      have x6:=T3.out.hd.cell 6
      have x7:=T3.out.hd.cell 7
      have x8:=T3.out.hd.cell 8
      have x9:=T3.out.hd.cell 9
      have x10:=T3.out.hd.cell 10
      go_wp2_with fail
      refine (NNk.out w3b T3.out.bel).mono ?_
      rintro o w4b ⟨rfl,hb4⟩
      have T4:=Lib.hid (T3.out.below hb4)
      have KE4:=Lib.hid (KE3.out.below hb4 KE3.out.lt)
      have P4:=Lib.hid (T4.out.put2 nx 1 (by omega) (by omega) (by omega))
      clear hb4 x0 x1 x2 x3 x4 x5 x6 x7 x8 x9 x10
      go_wp2_with fail
      refine P4.out.mono ?_
      rintro o w5b ⟨v5b,rfl,hs5,kt5⟩
      have KE5:=Lib.hid (kt5 _ _ _ (by decide) KE4.out)
      obtain ⟨A5,c5,hv5⟩:=own_slice hs5.own
      subst hv5
      have S5b:=Lib.hid (show BS w g _ w5b (.slice A5 (40+ne+1) c5) (40+ne+1) (XH++extP X p k++[nx]) from by rw [← pb_one nx hnx9.1 hnx9.2]; exact hs5)
      have HR5:=Lib.hid (HRD.out.below S5b.out.bel)
      have HLD:=Lib.hid (show (ed.map (Value.int .u8)).length=q from by rw [List.length_map,HQ.out])
      have HG5:=Lib.hid S5b.out.sz
      have PA:=Lib.hid (show 40+ne+1+q≤maxLen by unfold maxLen; omega)
      have PB:=Lib.hid (show (40+ne+1+q)*1≤140737488355328 by omega)
      have z1:=KE5.out.cell 1
      clear hs5 kt5
      go_wp2_with (at_builtin; refine wpList_append_row rfl (.tmp 73) (.tmp 75) _ rfl g 5 i0 _ 1 Try.underlying22 HI0.out HZ0.out HZ1.out HZ2.out rfl (.slice A5 (40+ne+1) c5) (40+ne+1) ((XH++extP X p k++[nx]).map (.int .u8)) rfl S5b.out.own eA q ec g (ed.map (.int .u8)) rfl HND.out HLD.out HR5.out (one_map _) PA.out PB.out HG5.out ?_; intro v6b w6b ho6 hg6; have S6b:=Lib.hid (S5b.out.app ho6 hg6); clear ho6 hg6)
      go_roundw
      case rel=>exact ⟨k+1,by omega,by go_num,Lib.hid (by
        have e:(extP X p (k+1)).length=ne+1+q:=by rw [HXK.out,List.length_append,List.length_cons,HNE.out,HQ.out]; omega
        have e2:XH++extP X p (k+1)=XH++extP X p k++[nx]++ed:=by rw [HXK.out]; simp
        rw [e,e2,show 40+(ne+1+q)=40+ne+1+q by omega]
        exact S6b.out)⟩
      case measure=>first | (simp [intOf]; done) | (simp [intOf]; omega)
    · obtain rfl:k=n:=by omega
      have t1:decide ((k:Int)<k)=false:=decide_eq_false (by omega)
      have t1n:decide (k<k)=false:=decide_eq_false (by omega)
      have hv:=HB.out.own
      obtain ⟨A5,c5,hv5⟩:=own_slice hv
      subst hv5
      have S5b:=Lib.hid (show BS w g _ wr (.slice A5 (40+ne) c5) (40+ne) (XH++extP X p k) from HB.out)
      have HRW:=Lib.hid (show Row wr g R (r.map (.int .u8)) from by have h9:=HRR.out; rw [← EG.out] at h9; exact h9.below S5b.out.bel)
      have HLM:=Lib.hid (show (r.map (Value.int .u8)).length=m from by rw [List.length_map,HM.out])
      have HG5:=Lib.hid S5b.out.sz
      have PA:=Lib.hid (show 40+ne+m≤maxLen by unfold maxLen; omega)
      have PB:=Lib.hid (show (40+ne+m)*1≤140737488355328 by omega)
      have HEQ:=Lib.hid (show XH++extP X p k++r=sixB ⟨cls,lab,hop,true,sh,sl,true,dh,dl,p⟩ X r from by
        have e1:extP X p k=extB X p:=by rw [← HXN.out]; exact extP_all X p
        rw [e1,HXH.out]
        show _=hdB _ (nextK X p) (extL X+r.length)++(extB X p++r)
        rw [hd_eq X0 cls lab hop nk sh sl dh dl (xl+m) (by omega) c0 c1 l0 l1 h0 h1 hnk9.1 hnk9.2 HX0.out true true p,HNK.out,HXX.out,HM.out,HX.out,List.append_assoc])
      clear hv HB
      go_wp2_with (at_builtin; refine wpList_append_row rfl (.tmp 78) (.tmp 79) _ rfl g 5 i0 _ 1 Try.underlying22 HI0.out HZ0.out HZ1.out HZ2.out rfl (.slice A5 (40+ne) c5) (40+ne) ((XH++extP X p k).map (.int .u8)) rfl S5b.out.own R m rc g (r.map (.int .u8)) rfl HRC.out HLM.out HRW.out (one_map _) PA.out PB.out HG5.out ?_; intro v6b w6b ho6 hg6; have S6b:=Lib.hid (S5b.out.app ho6 hg6); clear ho6 hg6)
      go_ret2
      have S7:=S6b.out.own
      rw [HEQ.out,EG.out,HX.out] at S7
      have hln:=S7.1
      rw [List.length_map] at hln
      refine ⟨_,rfl,?_,EG.out ▸ S6b.out.bel⟩
      rw [hln,Nat.mul_one]
      exact S7
end Go.Proofs.Ytodckfgfbcnkoaa.sixQ
namespace Go.Proofs.Ytodckfgfbcnkoaa.sixR
end Go.Proofs.Ytodckfgfbcnkoaa.sixR
/- Layer 9: the law's chain. -/
namespace Go.Proofs.Ytodckfgfbcnkoaa.sixL
open Go.ChangeShapes Go.WideShapes Go.ChangeAt Go.RowKit
open base rdrA rdrG sixW sixM sixE
set_option linter.unusedVariables false
def OldX (w:World) (l:List Xt):Prop:=∀ e ∈ l,Row w w.heap.size e.A (e.d.map (.int .u8))∧e.d.length≤e.c∧e.c≤9223372036854775807∧U8 e.d∧(e.A=none→e.c=0)
theorem OldX.below {w w':World} {l:List Xt} (h:OldX w l) (hb:Below w.heap.size w w'):OldX w' l:=fun e he=>by
  obtain ⟨h1,h2⟩:=h e he
  exact ⟨(h1.below hb).more hb.size,h2⟩
end Go.Proofs.Ytodckfgfbcnkoaa.sixL
