/- 4 texts in one. -/
import Derived.Test.YtodckfgfbcnkoaaNk11
import Derived.Test.YtodckfgfbcnkoaaNk12
import Derived.Test.YtodckfgfbcnkoaaNk22
import Derived.Test.YtodckfgfbcnkoaaNk24
import Derived.Test.YtodckfgfbcnkoaaNk30
set_option linter.unusedVariables false
set_option linter.unusedSimpArgs false
open Go.ChangeShapes Go.WideShapes Go.ChangeAt Go.RowKit
/- Layer 5: the bytes of an address that isn't V6. -/
namespace Go.Proofs.Ytodckfgfbcnkoaa.fourL
set_option maxHeartbeats 4000000
set_option maxRecDepth 100000
open base octA octF rdrA fourD fourE
def bt (lo:Int) (k:Nat):Int:=lo / (2:Int) ^ (56 - 8*k) % 256
def Arr (lo:Int) (j:Nat) (cs:Array Value):Prop:=cs.size=16∧(∀ (i:Nat) (v:Value),cs[i]?=some v→v.oneCell'=true)∧∀ k,k<j→cs[8+k]?=some (.int .u8 (bt lo k))
theorem arr_zero (lo:Int):Arr lo 0 (Array.replicate 16 (.int .u8 0)):=by
 refine ⟨by simp,?_,fun k hk=>by omega⟩
 intro i v h
 rw [Array.getElem?_replicate] at h
 split at h
 ·obtain rfl:=Option.some.inj h; rfl
 ·cases h
theorem arr_next {lo:Int} {j:Nat} {cs:Array Value} (h:Arr lo j cs) (hj:j<8) (x y:Int) (hy:y=bt lo j):Arr lo (j+1) ((cs.setIfInBounds j (.int .u8 x)).setIfInBounds (8+j) (.int .u8 y)):=by
 obtain ⟨h1,h2,h3⟩:=h
 refine ⟨by simp [h1],?_,?_⟩
 ·intro i v hv
  rw [Array.getElem?_setIfInBounds] at hv
  split at hv
  ·split at hv
   ·obtain rfl:=Option.some.inj hv; rfl
   ·cases hv
  ·rw [Array.getElem?_setIfInBounds] at hv
   split at hv
   ·split at hv
    ·obtain rfl:=Option.some.inj hv; rfl
    ·cases hv
   ·exact h2 i v hv
 ·intro k hk
  rw [Array.getElem?_setIfInBounds]
  by_cases hkj:k=j
  ·subst hkj
   rw [if_pos rfl,if_pos (by simp [h1]; omega),hy]
  ·rw [if_neg (by omega),Array.getElem?_setIfInBounds,if_neg (by omega)]
   exact h3 k (by omega)
theorem arr_at {lo:Int} {j:Nat} {cs:Array Value} (h:Arr lo j cs) (i:Nat) (hi:i<16):∃ v,cs[i]?=some v:=by
 obtain ⟨h1,_⟩:=h
 exact ⟨_,Array.getElem?_eq_getElem (by omega)⟩
theorem arr_src {lo:Int} {w:World} {g:Nat} {t:TypeId} {cs:Array Value} (h:Arr lo 8 cs) (hB:Blk w g t cs):∀ j v,([bt lo 4,bt lo 5,bt lo 6,bt lo 7].map (Value.int .u8))[j]?=some v→w.cell? ((⟨g,12,none⟩:Addr).add j)=some v:=by
 intro j v hv
 rw [Addr.add_lit,hB.cell]
 have hj:j<4:=by
  have:=(List.getElem?_eq_some_iff.mp hv).1
  simpa using this
 have:=h.2.2 (4+j) (by omega)
 rw [show 12+j=8+(4+j) by omega,this,← hv]
 match j,hj with
 | 0,_=>rfl
 | 1,_=>rfl
 | 2,_=>rfl
 | 3,_=>rfl
theorem arr_one (lo:Int):∀ u ∈ [bt lo 4,bt lo 5,bt lo 6,bt lo 7].map (Value.int .u8),u.oneCell'=true:=by
 intro u hu
 rw [List.mem_map] at hu
 obtain ⟨x,_,rfl⟩:=hu
 rfl
theorem bits_four (hi lo:Int) (w:World) :
  Calls Try.prog 83 #[.agg #[.bool false,.int .u64 hi,.int .u64 lo]] w fun e w'=>e=.returned (.int .i64 32)∧Below w.heap.size w w':=by
 go_enter Try.func83,Try.ntmps83
 go_wp2
 go_ret
 exact ⟨rfl,(Below.refl _ _).alloc (Nat.le_refl _) _⟩
theorem addr_four (hi lo:Int) (w:World) (h0:0≤hi) (h1:0≤lo) :
  Calls Try.prog 54 #[.agg #[.bool false,.int .u64 hi,.int .u64 lo]] w fun e w'=>∃ v,e=.returned v∧w'.ownsRow w.heap.size 5 1 v 4 ([bt lo 4,bt lo 5,bt lo 6,bt lo 7].map (.int .u8))∧Below w.heap.size w w':=by
 have HSZ:=Lib.hid (show (w.alloc (.cells #[.bool false,.int .u64 hi,.int .u64 lo] 32)).heap.size=w.heap.size+1 by simp)
 have BOX:=Lib.hid (Blk.new w 32 #[.bool false,.int .u64 hi,.int .u64 lo])
 have HB0:=Lib.hid (show Below w.heap.size w (w.alloc (.cells #[.bool false,.int .u64 hi,.int .u64 lo] 32)) from (Below.refl _ _).alloc (Nat.le_refl _) _)
 have HBT:=Lib.hid (bits_four hi lo)
 obtain ⟨i0,hi0,hz0,hz1,hz2⟩:=info_parts info_u8
 go_enter Try.func54,Try.ntmps54
 go_wp2_with fail
 go_loopw [7,4] (fun i _ wr=>∃ (j:Nat) (cs:Array Value),j≤8∧i=.int .i64 j∧Arr lo j cs∧Blk wr (w.heap.size+1) 118 cs∧Blk wr w.heap.size 32 #[.bool false,.int .u64 hi,.int .u64 lo]∧Below w.heap.size w wr) (fun i _ _=>8 - (intOf i).toNat)
 case atStart =>
  refine ⟨0,_,by omega,rfl,arr_zero lo,?_,?_,?_⟩
  ·have:=Blk.new (w.alloc (.cells #[.bool false,.int .u64 hi,.int .u64 lo] 32)) 118 (Array.replicate 16 (.int .u8 0))
   rw [HSZ.out] at this
   exact this
  ·exact BOX.out.alloc _
  ·exact HB0.out.alloc (by rw [HSZ.out]; omega) _
 case round =>
  obtain ⟨j,cs,hj,rfl,hA,hB,hX,hbel⟩:=hrel
  have q0:=hX.cell 0
  have q1:=hX.cell 1
  have q2:=hX.cell 2
  by_cases hj8:j<8
  ·obtain ⟨u,hu⟩:=arr_at hA j (by omega)
   obtain ⟨u',hu'⟩:=arr_at hA (8+j) (by omega)
   have p1:decide ((j:Int)<8)=true:=decide_eq_true (by omega)
   have d1:=(hB.cell j).trans hu
   have d2:=(hB.cell (8+j)).trans hu'
   have d3:=hB.frozen j
   have d4:=hB.frozen (8+j)
   go_wp2_with fail
   refine ⟨⟨j+1,_,by omega,rfl,arr_next hA hj8 _ _ rfl,(hB.set_ _ _).set_ _ _,(hX.far (by show w.heap.size≠w.heap.size+1; omega) _).far (by show w.heap.size≠w.heap.size+1; omega) _,(hbel.setCell (by show w.heap.size≤w.heap.size+1; omega) _).setCell (by show w.heap.size≤w.heap.size+1; omega) _⟩,?_⟩
   show 8 - ((j:Int)+1).toNat<8 - ((j:Int)).toNat
   omega
  ·obtain rfl:j=8:=by omega
   have hmk:=fun (W:World)=>run_make_one (P:=Try.prog) 22 5 i0 _ Try.underlying22 hi0 hz0 hz1 rfl .i64 .i64 (4:Int) (by omega) (by rw [hz2]; omega) (by omega) W
   go_wp2_with fail
   refine (HBT.out _).mono ?_
   rintro e w5 ⟨rfl,hb5⟩
   have B5:=Lib.hid (hB.below hb5 hB.lt)
   have L5:=Lib.hid (bel_to hbel hb5 hbel.size)
   have BZ:=Lib.hid (show Blk (w5.alloc (.cells (zeros 4 (.int .u8 0)) 5)) w5.heap.size 5 [Value.int .u8 0,.int .u8 0,.int .u8 0,.int .u8 0].toArray from Blk.new w5 5 (zeros 4 (.int .u8 0)))
   have BA:=Lib.hid (B5.out.alloc (.cells (zeros 4 (.int .u8 0)) 5))
   have LZ:=Lib.hid (L5.out.alloc L5.out.size (.cells (zeros 4 (.int .u8 0)) 5))
   have SRC:=Lib.hid (arr_src hA BA.out)
   have ONE:=Lib.hid (arr_one lo)
   have LE:=Lib.hid L5.out.size
   clear hB hX hb5 hbel
   go_wp2_with (refine wpList_copy_splice (o:=⟨some 39,_,_,_,_,_⟩) rfl (.tmp 34) (.tmp 38) 22 22 rfl 5 Try.underlying22 info1 (some ⟨w5.heap.size,0,none⟩) (some ⟨w.heap.size+1,12,none⟩) 4 4 4 4 rfl rfl w5.heap.size 0 [Value.int .u8 0,.int .u8 0,.int .u8 0,.int .u8 0] 5 BZ.out ([bt lo 4,bt lo 5,bt lo 6,bt lo 7].map (Value.int .u8)) rfl (fun _=>⟨rfl,_,rfl,SRC.out⟩) (Nat.le_refl _) ONE.out w.heap.size w LZ.out LE.out ?_; intro w6 hg6 hb6; have G6:=hg6; have L6:=Lib.hid hb6; clear hg6 hb6)
   go_ret
   refine ⟨_,rfl,⟨rfl,.inr ⟨w5.heap.size,4,_,rfl,by have:=LE.out; omega,G6.out,Nat.le_refl _,by unfold maxLen; omega,rfl,rfl⟩⟩,L6.out⟩
end Go.Proofs.Ytodckfgfbcnkoaa.fourL
/- Layer 15: a packet with another side, as one contract. -/
namespace Go.Proofs.Ytodckfgfbcnkoaa.natE
set_option maxHeartbeats 1000000
open base octA rdrA rdrG sixW sixM pktA pktB pktC pktE sixE sixF pktG  tunW tunV tunC natW natY natZ natA natB pktL natC natD natZb
structure PkG (l:List Int) (P:Pk) (v:Bool) (pr sh sl dh dl ttl fl:Int) (S N:Nat) (R:List Int):Prop where
 eq:P=⟨v,⟨pr,v,sh,sl,v,dh,dl,udpA.w16 R 0,udpA.w16 R 2⟩,ttl,fl,false,zeroT,(N:Int)⟩
 prs:(pr=6∧20≤R.length)∨(pr=17∧8≤R.length)
 sum:S+R.length=N
 le:N≤l.length
 s20:(if v=true then 40 else 20)≤S
 u8:U8 R
 b1:0≤sh∧sh<18446744073709551616
 b2:0≤sl∧sl<18446744073709551616
 b3:0≤dh∧dh<18446744073709551616
 b4:0≤dl∧dl<18446744073709551616
 again:∀ (s:Nat) (th tl port:Int),s≤1→0≤th→th<18446744073709551616→0≤tl→tl<18446744073709551616→0≤port→port≤65535→(v=false→th=0∧tl<4294967296)→∀ out,out=natO l N S v s pr (aw v (sdH P.t s) (sdL P.t s)) (aw v th tl) (sdP P.t s) port→pkP out=({ P with t:=turnT P.t s th tl port },0)∧out.length=N∧U8 out
 head:∀ (A:Option Addr) (n c:Nat) (w:World),Sl w A n c l→Calls Try.prog 52 #[.slice A n c] w fun o w'=>o=.returned (.int .i64 (S:Int))∧Below w.heap.size w w'
 at4:v=false→S=fourS l
 at6:v=true→∃ ys q r,sixP l=.inr (ys,q,r)∧S=40+extL ys
theorem tcp_long {R ps:List Int} (h:tcpE R ps=0):20≤R.length:=by
 unfold tcpE at h
 split at h
 ·cases h
 ·omega
theorem udp_long {R ps:List Int} {b:Bool} (h:udpE_ R ps b=0):8≤R.length:=by
 unfold udpE_ at h
 split at h
 ·cases h
 ·omega
theorem inv_any (l:List Int) (hu:U8 l) (hn:l.length≤1000) (P:Pk) (hP:pkP l=(P,0)) (her:P.er=false):∃ v pr sh sl dh dl ttl fl S N R,PkG l P v pr sh sl dh dl ttl fl S N R:=by
 have hl0:¬ l.length=0:=fun k=>by
  unfold pkP at hP
  rw [if_pos k] at hP
  injection hP with _ h
  cases h
 have hP0:=hP
 unfold pkP at hP
 rw [if_neg hl0,if_neg (show ¬ 9000<l.length by omega)] at hP
 by_cases h4:l.getD 0 0 / 16=4
 ·rw [if_pos h4] at hP
  obtain ⟨hE,hF,hW⟩:=p4_inv hP
  obtain ⟨_,s20,s60,es,ew,sw,wl,sr,hf,hfo⟩:=four_sizes l hu hE
  have b12:=w32_in8 l hu 12
  have b16:=w32_in8 l hu 16
  have hR:U8 (fourR l):=(hu.drop _).take _
  have hsz:(20+((fourS l - 20:Nat):Int)+((fourR l).length:Int))=(((udpA.w16 l 2).toNat:Nat):Int):=by omega
  have hag:∀ (s:Nat) (th tl port:Int),s≤1→0≤th→th<18446744073709551616→0≤tl→tl<18446744073709551616→0≤port→port≤65535→(false=false→th=0∧tl<4294967296)→∀ out,out=natO l (udpA.w16 l 2).toNat (fourS l) false s (l.getD 9 0) (aw false (sdH P.t s) (sdL P.t s)) (aw false th tl) (sdP P.t s) port→pkP out=({ P with t:=turnT P.t s th tl port },0)∧out.length=(udpA.w16 l 2).toNat∧U8 out:=by
   intro s th tl port hs _ _ t0 _ p0 p9 hlo out ho
   obtain ⟨rfl,t9⟩:=hlo rfl
   have hpp:P.t.pr=l.getD 9 0:=by rcases with_inv hW her with ⟨_,_,e⟩ | ⟨_,_,e⟩ <;> rw [e]
   rw [← hpp] at ho
   exact nat4 l hu hn h4 P hP0 her s hs tl port t0 t9 p0 p9 out ho
  have hhd:∀ (A:Option Addr) (n c:Nat) (w:World),Sl w A n c l→Calls Try.prog 52 #[.slice A n c] w fun o w'=>o=.returned (.int .i64 (fourS l:Int))∧Below w.heap.size w w':=by
   intro A n c w hs
   have hl:=hs.len
   obtain ⟨b,off,rfl,hb,hc⟩:=lies_of hs.row (by omega)
   have h9:=head_4 b off n c (l.getD 0 0) _ _ _ _ _ _ (fourS l - 20) (by omega) (fourR l) (by omega) w (by omega) hb (hc 0 (by omega)) (hu.get 0) (Lib.hid fun V hV=>(four_any (some ⟨b,off,none⟩) n c l V (hs.below hV) (by omega)).mono fun o w' k=>by
    obtain ⟨hb,k⟩:=k
    rcases k with ⟨k1,_⟩ | ⟨_,_,_,_,k2⟩
    ·exact absurd hE k1
    ·exact ⟨hb,k2⟩)
   have e:(20+((fourS l - 20:Nat):Int))=(fourS l:Int):=by omega
   rw [e] at h9
   exact h9
  rw [hsz] at hW
  have w12:tcpC.w32 l 12<4294967296:=by
   have a:=udpA.w16_in l hu 12; have b:=udpA.w16_in l hu (12+2)
   show udpA.w16 l 12*65536+udpA.w16 l (12+2)<_
   omega
  rcases with_inv hW her with ⟨hp,hE2,e⟩ | ⟨hp,hE2,e⟩
  ·exact ⟨false,_,_,_,_,_,_,_,fourS l,(udpA.w16 l 2).toNat,fourR l,⟨e,.inl ⟨hp,tcp_long hE2⟩,by omega,wl,by simpa using s20,hR,show (0:Int)≤0∧(0:Int)<18446744073709551616 from ⟨Int.le_refl _,by decide⟩,b12,show (0:Int)≤0∧(0:Int)<18446744073709551616 from ⟨Int.le_refl _,by decide⟩,b16,hag,hhd,(fun _=>rfl),(fun h=>by cases h)⟩⟩
  ·exact ⟨false,_,_,_,_,_,_,_,fourS l,(udpA.w16 l 2).toNat,fourR l,⟨e,.inr ⟨hp,udp_long hE2⟩,by omega,wl,by simpa using s20,hR,show (0:Int)≤0∧(0:Int)<18446744073709551616 from ⟨Int.le_refl _,by decide⟩,b12,show (0:Int)≤0∧(0:Int)<18446744073709551616 from ⟨Int.le_refl _,by decide⟩,b16,hag,hhd,(fun _=>rfl),(fun h=>by cases h)⟩⟩
 ·rw [if_neg h4] at hP
  by_cases h6:l.getD 0 0 / 16=6
  ·rw [if_pos h6] at hP
   obtain ⟨ys,q,r,hC,hF,hW⟩:=p6_inv hP
   obtain ⟨_,hlen,hsum,hru,q0,q9⟩:=six_sizes l hu hC
   have hV8:∀ p,0≤V8 l p∧V8 l p<18446744073709551616:=fun p=>by
    have a:=udpA.w16_in l hu p; have b:=udpA.w16_in l hu (p+2); have c:=udpA.w16_in l hu (p+4); have d:=udpA.w16_in l hu (p+6)
    unfold V8
    omega
   have hsz:(((40+extL ys:Nat):Int)+(r.length:Int))=((40+sizeP l:Nat):Int):=by omega
   have hag:∀ (s:Nat) (th tl port:Int),s≤1→0≤th→th<18446744073709551616→0≤tl→tl<18446744073709551616→0≤port→port≤65535→(true=false→th=0∧tl<4294967296)→∀ out,out=natO l (40+sizeP l) (40+extL ys) true s q (aw true (sdH P.t s) (sdL P.t s)) (aw true th tl) (sdP P.t s) port→pkP out=({ P with t:=turnT P.t s th tl port },0)∧out.length=40+sizeP l∧U8 out:=by
    intro s th tl port hs th0 th9 t0 t9 p0 p9 _ out ho
    obtain ⟨ys2,q2,r2,hC2,hag⟩:=nat6 l hu hn h6 P hP0 her s hs th tl port th0 th9 t0 t9 p0 p9
    rw [hC] at hC2
    injection hC2 with hC2
    injection hC2 with e1 e2
    injection e2 with e2 e3
    subst e1
    have hpp:P.t.pr=q:=by rcases with_inv hW her with ⟨_,_,e⟩ | ⟨_,_,e⟩ <;> rw [e]
    rw [← hpp] at ho
    exact hag out ho
   have hhd:∀ (A:Option Addr) (n c:Nat) (w:World),Sl w A n c l→Calls Try.prog 52 #[.slice A n c] w fun o w'=>o=.returned (.int .i64 ((40+extL ys:Nat):Int))∧Below w.heap.size w w':=by
    intro A n c w hs
    have hl:=hs.len
    obtain ⟨b,off,rfl,hb,hc⟩:=lies_of hs.row (by omega)
    exact head_6 b off n c (l.getD 0 0) _ _ _ _ _ _ _ _ _ r h6 w (by omega) hb (hc 0 (by omega)) (hu.get 0) (Lib.hid fun V hV=>(six_good (some ⟨b,off,none⟩) n c l V (hs.below hV) (by omega) h6 hC).mono fun o w' k=>by
     obtain ⟨hb,AX,nx,cx,cls,lab,AR,cr,e,hs,_,hln⟩:=k
     exact ⟨hb,cls,lab,AX,nx,cx,AR,cr,e,hs,hln⟩)
   rw [hsz] at hW
   rcases with_inv hW her with ⟨hp,hE2,e⟩ | ⟨hp,hE2,e⟩
   ·exact ⟨true,_,_,_,_,_,_,_,40+extL ys,40+sizeP l,r,⟨e,.inl ⟨hp,tcp_long hE2⟩,by omega,hlen,by simp,hru,hV8 8,hV8 16,hV8 24,hV8 32,hag,hhd,(fun h=>by cases h),(fun _=>⟨ys,q,r,hC,rfl⟩)⟩⟩
   ·exact ⟨true,_,_,_,_,_,_,_,40+extL ys,40+sizeP l,r,⟨e,.inr ⟨hp,udp_long hE2⟩,by omega,hlen,by simp,hru,hV8 8,hV8 16,hV8 24,hV8 32,hag,hhd,(fun h=>by cases h),(fun _=>⟨ys,q,r,hC,rfl⟩)⟩⟩
  ·rw [if_neg h6] at hP
   injection hP with _ h
   cases h
theorem bt_four (lo:Int):[fourL.bt lo 4,fourL.bt lo 5,fourL.bt lo 6,fourL.bt lo 7]=pb lo 4 4:=rfl
theorem abytes_go (v6:Bool) (h l:Int) (w:World) (h0:0≤h∧h<18446744073709551616) (l0:0≤l∧l<18446744073709551616) :
  Calls Try.prog 54 #[.agg #[.bool v6,.int .u64 h,.int .u64 l]] w fun o w'=>∃ v,o=.returned v∧w'.ownsRow w.heap.size 5 1 v (ab v6 h l).length ((ab v6 h l).map (.int .u8))∧Below w.heap.size w w':=by
 cases v6 with
 | true =>
  have e:(ab true h l).length=16:=by show (pb h 8 8++pb l 8 8).length=16; simp [pb_len]
  rw [e]
  exact sixJ.abytes_any h l w h0.1 h0.2 l0.1 l0.2
 | false =>
  have e:(ab false h l).length=4:=pb_len _ _ _
  rw [e]
  have h9:=fourL.addr_four h l w h0.1 l0.1
  rw [bt_four] at h9
  exact h9
theorem natO_is (l:List Int) (N S:Nat) (v:Bool) (s:Nat) (pr:Int) (fs:List Int) (th tl wp port:Int) (hs:s≤1) (hN:N≤l.length) (hS:(if v=true then 40 else 20)≤S) (hSN:S+8≤N) :
  x4 pr S (fs++[wp]) (aw v th tl++[port]) (x3 v fs (aw v th tl) (x2 l N S (plc v s) s (ab v th tl) port))=natO l N S v s pr fs (aw v th tl) wp port:=by
 have hL:(l.take N).length=N:=by rw [List.length_take]; omega
 have hpl:plc v s+2*(aw v th tl).length≤S:=by
  rw [aw_len]
  unfold plc
  cases v
  ·simp at hS ⊢; omega
  ·simp at hS ⊢; omega
 have e1:x1 l N (plc v s) (ab v th tl)=setws (l.take N) (plc v s) (aw v th tl):=by
  unfold x1 splice
  rw [← List.append_assoc,ab_words,wbytes_len]
  exact splice_words (aw v th tl) (l.take N) (plc v s) (by rw [hL]; omega)
 have e2:x2 l N S (plc v s) s (ab v th tl) port=setw (setws (l.take N) (plc v s) (aw v th tl)) (S+2*s) port:=by unfold x2; rw [e1]
 have e3:x3 v fs (aw v th tl) (x2 l N S (plc v s) s (ab v th tl) port)=natX l N S v s fs (aw v th tl) port:=by
  rw [e2]
  cases v with
  | true =>
   unfold x3 natX
   rw [if_pos rfl,if_pos rfl]
  | false =>
   have hS2:20≤S:=by simpa using hS
   have hp2:plc false s=12+4*s:=by unfold plc; rw [if_neg (by decide)]
   generalize aw false th tl=ts at *
   have ew:udpA.w16 (setw (setws (l.take N) (plc false s) ts) (S+2*s) port) 10=udpA.w16 l 10:=by
    rw [w16_set _ _ _ _ (by rw [setws_len]; omega) (by omega),setws_w16 _ _ _ _ (by omega) (by omega),fourB.w16_take l N 10 (by omega)]
   unfold x3 natX
   rw [if_neg (by decide),if_neg (by decide),ew]
 rw [e3]
 unfold x4 natO L4
 rfl
theorem ab_u8 (v:Bool) (h l:Int):U8 (ab v h l):=by
 cases v
 ·exact pktB.pb_u8 _ _ _
 ·exact (pktB.pb_u8 _ _ _).join (pktB.pb_u8 _ _ _)
theorem ab_len (v:Bool) (h l:Int):(ab v h l).length=2*(aw v h l).length:=by rw [ab_words,wbytes_len]
theorem turn_good (l:List Int) (hu:U8 l) (hn:l.length≤1000) (P:Pk) (hP:pkP l=(P,0)) (her:P.er=false) (s:Nat) (hs:s≤1) (th tl port:Int) (th0:0≤th) (th9:th<18446744073709551616) (t0:0≤tl) (t9:tl<18446744073709551616) (p0:0≤port) (p9:port≤65535) (hok:okAd P.v6 th tl=true) :
  ∃ X:List Int,pkP X=({ P with t:=turnT P.t s th tl port },0)∧(X.length:Int)=P.sz∧U8 X∧X.length≤l.length ∧
   (∃ S N R pr sh sl dh dl ttl fl,PkG l P P.v6 pr sh sl dh dl ttl fl S N R∧X=natO l N S P.v6 s pr (aw P.v6 (sdH P.t s) (sdL P.t s)) (aw P.v6 th tl) (sdP P.t s) port) ∧
   ∀ (A:Option Addr) (n c:Nat) (w:World),Sl w A n c l→Calls Try.prog 22 #[.slice A n c,.int .i64 s,.agg #[.bool P.v6,.int .u64 th,.int .u64 tl],.int .i64 port] w (MkP 0 X w):=by
 obtain ⟨v,pr,sh,sl,dh,dl,ttl,fl,S,N,R,G⟩:=inv_any l hu hn P hP her
 have hPv:P.v6=v:=by rw [G.eq]
 have hPsz:P.sz=(N:Int):=by rw [G.eq]
 have G0:=G
 rw [hPv] at hok
 have hlo:v=false→th=0∧tl<4294967296:=fun h=>by
  rw [h] at hok
  simpa [okAd] using hok
 have w0:=udpA.w16_in R G.u8 0
 have w2:=udpA.w16_in R G.u8 2
 have hsum:=G.sum
 have h20:=G.s20
 have hprs:=G.prs
 have hle:=G.le
 have hwp:0≤sdP P.t s∧sdP P.t s≤65535:=by
  rw [G.eq]
  unfold sdP
  split
  ·exact w0
  ·exact w2
 have hsH:0≤sdH P.t s∧sdH P.t s<18446744073709551616:=by
  rw [G.eq]
  unfold sdH
  split
  ·exact G.b1
  ·exact G.b3
 have hsL:0≤sdL P.t s∧sdL P.t s<18446744073709551616:=by
  rw [G.eq]
  unfold sdL
  split
  ·exact G.b2
  ·exact G.b4
 have hS8:S+8≤N:=by omega
 have hpb:plc v s+2*(aw v th tl).length≤S:=by
  rw [aw_len]
  unfold plc
  cases v
  ·simp at h20 ⊢; omega
  ·simp at h20 ⊢; omega
 have hS20:20≤S:=by
  cases v
  ·simpa using h20
  ·simp at h20; omega
 have hal:(aw v (sdH P.t s) (sdL P.t s)).length=(aw v th tl).length:=by rw [aw_len,aw_len]
 have hk:1≤(aw v th tl).length∧(aw v th tl).length≤8:=by rw [aw_len]; cases v <;> simp
 have hp0:0<plc v s:=by unfold plc; split <;> omega
 obtain ⟨a1,a2,a3⟩:=G.again s th tl port hs th0 th9 t0 t9 p0 p9 hlo _ rfl
 refine ⟨_,a1,by rw [a2,hPsz],a3,by omega,⟨S,N,R,pr,sh,sl,dh,dl,ttl,fl,by rw [hPv]; exact G0,by rw [hPv]⟩,fun A n c w hsl=>?_⟩
 rw [hPv]
 have hl:=hsl.len
 obtain ⟨b,off,rfl,hb,hc⟩:=lies_of hsl.row (by omega)
 rw [← natO_is l N S v s pr _ th tl _ port hs hle h20 hS8]
 have hPar:=fun V (hV:Below w.heap.size w V)=>parse_any (some ⟨b,off,none⟩) n c l V (hsl.below hV) (by omega)
 have HSD:∀ V:World,Calls Try.prog 50 #[.agg #[.int .i64 pr,.bool v,.int .u64 sh,.int .u64 sl,.bool v,.int .u64 dh,.int .u64 dl,.int .i64 (udpA.w16 R 0),.int .i64 (udpA.w16 R 2)],.int .i64 s] V fun o w'=>o=.returned (.tuple #[.agg #[.bool v,.int .u64 (sdH P.t s),.int .u64 (sdL P.t s)],.int .i64 (sdP P.t s)])∧Below V.heap.size V w':=by
  intro V
  rw [G.eq]
  have hs2:s=0∨s=1:=by omega
  rcases hs2 with rfl | rfl
  ·exact side_0 pr v sh sl v dh dl (udpA.w16 R 0) (udpA.w16 R 2) V
  ·exact side_1 pr v sh sl v dh dl (udpA.w16 R 0) (udpA.w16 R 2) V
 have HRT:=fun V:World=>aright_any v th tl V t0
 rw [hok] at HRT
 rw [hP,G.eq] at hPar
 refine turn_OK b off n c s hs v th tl port p0 p9 v pr v sh sl v dh dl (udpA.w16 R 0) (udpA.w16 R 2) ttl fl 0 false 0 0 false 0 0 0 0 rfl v _ _ (sdP P.t s) hwp.1 hwp.2 (aw v th tl).length hk _ _ (ab v th tl) l S N (plc v s) (ab v th tl).length hal rfl (aw_in _ _ _) (aw_in _ _ _) rfl (ab_u8 _ _ _) (by rw [ab_len]; omega) hp0 (by rw [ab_len]; exact hpb) hS20 hS8 (fun h6=>by omega) (by omega) (by omega) w hsl (Lib.hid hPar) (Lib.hid HRT) (Lib.hid HSD) (Lib.hid fun V=>?_) (Lib.hid fun V=>words_go v th tl V ⟨th0,th9⟩ ⟨t0,t9⟩) (Lib.hid fun V hV=>G.head _ n c V (hsl.below hV)) (Lib.hid fun V=>place_go v s V hs) (Lib.hid fun V=>abytes_go v th tl V ⟨th0,th9⟩ ⟨t0,t9⟩)
 have h9:=words_go v (sdH P.t s) (sdL P.t s) V hsH hsL
 rw [hal] at h9
 exact h9
theorem turn_bad (l:List Int) (hn:l.length≤1000) (s th tl port:Int) (t6:Bool) (t0:0≤tl) (e:Int) (he:e≠0)
  (hE:e=if (pkP l).2≠0 then (pkP l).2 else if (s≠0∧s≠1)∨port<0∨65535<port∨(pkP l).1.er=true then 1 else if t6≠(pkP l).1.v6∨okAd t6 th tl=false then 18 else 0) (A:Option Addr) (n c:Nat) (w:World) (hsl:Sl w A n c l) :
  Calls Try.prog 22 #[.slice A n c,.int .i64 s,.agg #[.bool t6,.int .u64 th,.int .u64 tl],.int .i64 port] w (MkP e [] w):=by
 have hl:=hsl.len
 have hPar:=fun V (hV:Below w.heap.size w V)=>parse_any A n c l V (hsl.below hV) (by omega)
 generalize pkP l=z at hPar hE
 obtain ⟨⟨v6,⟨pr,s6,sh,sl,d6,dh,dl,sp,dp⟩,ttl,fl,er,⟨apr,as6,ash,asl,ad6,adh,adl,asp,adp⟩,sz⟩,k⟩:=z
 simp only at hE hPar
 by_cases hk:k≠0
 ·rw [if_pos hk] at hE
  subst hE
  exact turn_E A n c s t6 th tl port v6 pr s6 sh sl d6 dh dl sp dp ttl fl er apr as6 ash asl ad6 adh adl asp adp sz e hk w (Lib.hid hPar)
 ·rw [if_neg hk] at hE
  have hk0:k=0:=by omega
  subst hk0
  by_cases ha:(s≠0∧s≠1)∨port<0∨65535<port∨er=true
  ·rw [if_pos ha] at hE
   subst hE
   exact turn_G A n c s t6 th tl port v6 pr s6 sh sl d6 dh dl sp dp ttl fl er apr as6 ash asl ad6 adh adl asp adp sz ha w (Lib.hid hPar)
  ·rw [if_neg ha] at hE
   have her:er=false:=by
    cases er
    ·rfl
    ·exact absurd (.inr (.inr (.inr rfl))) ha
   subst her
   have hs:s=0∨s=1:=by omega
   by_cases hv:t6=v6
   ·cases hr:okAd t6 th tl with
    | true =>
     rw [if_neg (by rintro (a | a); · exact a hv
                    ·rw [hr] at a; cases a)] at hE
     exact absurd hE he
    | false =>
     rw [if_pos (.inr hr)] at hE
     subst hE
     have HRT:=fun V:World=>aright_any t6 th tl V t0
     rw [hr] at HRT
     exact turn_R A n c s t6 th tl port v6 pr s6 sh sl d6 dh dl sp dp ttl fl apr as6 ash asl ad6 adh adl asp adp sz hs (by omega) (by omega) hv w (Lib.hid hPar) (Lib.hid HRT)
   ·rw [if_pos (.inl hv)] at hE
    subst hE
    exact turn_V A n c s t6 th tl port v6 pr s6 sh sl d6 dh dl sp dp ttl fl apr as6 ash asl ad6 adh adl asp adp sz hs (by omega) (by omega) hv w (Lib.hid hPar)
end Go.Proofs.Ytodckfgfbcnkoaa.natE
/- Layer 13: a packet whose bytes behind its header a closure makes. -/
namespace Go.Proofs.Ytodckfgfbcnkoaa.pktL2
set_option maxHeartbeats 4000000
set_option maxRecDepth 100000
open base rdrA rdrG sixM pktA pktB pktL
theorem whole_sg_bad (pr:Int) (s6:Bool) (sh sl:Int) (d6:Bool) (dh dl sp dp ttl sz:Int) (c1 c2 c3:Nat) (ps bs:List Int) (e:Int) (he:e≠0) (w:World)
  (HPS:Hid (∀ V,Below w.heap.size w V→Calls Try.prog 85 #[.agg #[.bool s6,.int .u64 sh,.int .u64 sl],.agg #[.bool d6,.int .u64 dh,.int .u64 dl],.int .i64 pr,.int .i64 sz] V (Gives ps V)))
  (HC:Hid (∀ V A2 n2 k2,Below w.heap.size w V→Sl V A2 n2 k2 ps→Calls Try.prog 60 #[.slice A2 n2 k2,.pointer (some ⟨c1,0,none⟩),.pointer (some ⟨c2,0,none⟩),.pointer (some ⟨c3,0,none⟩)] V (MkP e bs V))) :
  Calls Try.prog 59 #[.agg #[.int .i64 pr,.bool s6,.int .u64 sh,.int .u64 sl,.bool d6,.int .u64 dh,.int .u64 dl,.int .i64 sp,.int .i64 dp],.int .i64 ttl,.int .i64 sz,.func (.func 60) #[] #[.pointer (some ⟨c1,0,none⟩),.pointer (some ⟨c2,0,none⟩),.pointer (some ⟨c3,0,none⟩)]] w (MkP e [] w):=by
 have te:(e != 0)=true:=by simpa using he
 clear he
 obtain ⟨w1,hw1⟩:∃ w1,w1=w.alloc (.cells #[.int .i64 pr,.bool s6,.int .u64 sh,.int .u64 sl,.bool d6,.int .u64 dh,.int .u64 dl,.int .i64 sp,.int .i64 dp] 34):=⟨_,rfl⟩
 have E1:=Lib.hid hw1
 have B1:=Lib.hid (show Below w.heap.size w w1 from by rw [hw1]; exact (Below.refl _ _).alloc (Nat.le_refl _) _)
 obtain ⟨g,hg⟩:∃ g,g=w.heap.size:=⟨_,rfl⟩
 have EG:=Lib.hid hg
 have KP:=Lib.hid (show Blk w1 g 34 #[.int .i64 pr,.bool s6,.int .u64 sh,.int .u64 sl,.bool d6,.int .u64 dh,.int .u64 dl,.int .i64 sp,.int .i64 dp] from by rw [hw1,hg]; exact Blk.new w _ _)
 clear hw1 hg
 go_enter Try.func59,Try.ntmps59
 go_upto_region 1 with fail
 rw [← E1.out,← EG.out]
 have p0:=KP.out.cell 0
 have p1:=KP.out.cell 1
 have p2:=KP.out.cell 2
 have p3:=KP.out.cell 3
 have p4:=KP.out.cell 4
 have p5:=KP.out.cell 5
 have p6:=KP.out.cell 6
 go_wp2_with fail
 refine (HPS.out _ B1.out).mono ?_
 rintro o w2 ⟨hb2,A2,n2,k2,rfl,hsl,hge⟩
 have KP2:=Lib.hid (KP.out.below hb2 KP.out.lt)
 have B2:=Lib.hid (B1.out.trans (hb2.mono B1.out.size))
 have HC2:=Lib.hid (HC.out w2 A2 n2 k2 B2.out hsl)
 clear hb2 hsl hge p0 p1 p2 p3 p4 p5 p6
 go_wp2_with fail
 refine HC2.out.mono ?_
 rintro o w3 ⟨hb3,A3,n3,c3,rfl,hs3⟩
 have KP3:=Lib.hid (KP2.out.below hb3 KP2.out.lt)
 have B3:=Lib.hid (B2.out.trans (hb3.mono B2.out.size))
 clear hb3 hs3
 have p0:=KP3.out.cell 0
 have p1:=KP3.out.cell 1
 have p2:=KP3.out.cell 2
 have p3:=KP3.out.cell 3
 have p4:=KP3.out.cell 4
 have p5:=KP3.out.cell 5
 have p6:=KP3.out.cell 6
 go_wp2_with fail
 go_ret2
 exact MkP.nil_ B3.out
theorem whole_sg_four (pr:Int) (sh sl:Int) (d6:Bool) (dh dl sp dp ttl sz:Int) (c1 c2 c3:Nat) (ps bs:List Int) (e:Int) (out:List Int) (w:World)
  (HPS:Hid (∀ V,Below w.heap.size w V→Calls Try.prog 85 #[.agg #[.bool false,.int .u64 sh,.int .u64 sl],.agg #[.bool d6,.int .u64 dh,.int .u64 dl],.int .i64 pr,.int .i64 sz] V (Gives ps V)))
  (HC:Hid (∀ V A2 n2 k2,Below w.heap.size w V→Sl V A2 n2 k2 ps→Calls Try.prog 60 #[.slice A2 n2 k2,.pointer (some ⟨c1,0,none⟩),.pointer (some ⟨c2,0,none⟩),.pointer (some ⟨c3,0,none⟩)] V (MkP 0 bs V)))
  (HB:Hid (∀ V A2 n2 k2,Below w.heap.size w V→Sl V A2 n2 k2 bs→Calls Try.prog 38 #[.agg #[.int .i64 0,.int .i64 0,.bool false,.bool false,.int .i64 0,.int .i64 ttl,.int .i64 pr,.bool false,.int .u64 sh,.int .u64 sl,.bool d6,.int .u64 dh,.int .u64 dl,.slice none 0 0],.slice A2 n2 k2] V (MkP e out V))) :
  Calls Try.prog 59 #[.agg #[.int .i64 pr,.bool false,.int .u64 sh,.int .u64 sl,.bool d6,.int .u64 dh,.int .u64 dl,.int .i64 sp,.int .i64 dp],.int .i64 ttl,.int .i64 sz,.func (.func 60) #[] #[.pointer (some ⟨c1,0,none⟩),.pointer (some ⟨c2,0,none⟩),.pointer (some ⟨c3,0,none⟩)]] w (MkP e out w):=by
 obtain ⟨w1,hw1⟩:∃ w1,w1=w.alloc (.cells #[.int .i64 pr,.bool false,.int .u64 sh,.int .u64 sl,.bool d6,.int .u64 dh,.int .u64 dl,.int .i64 sp,.int .i64 dp] 34):=⟨_,rfl⟩
 have E1:=Lib.hid hw1
 have B1:=Lib.hid (show Below w.heap.size w w1 from by rw [hw1]; exact (Below.refl _ _).alloc (Nat.le_refl _) _)
 obtain ⟨g,hg⟩:∃ g,g=w.heap.size:=⟨_,rfl⟩
 have EG:=Lib.hid hg
 have KP:=Lib.hid (show Blk w1 g 34 #[.int .i64 pr,.bool false,.int .u64 sh,.int .u64 sl,.bool d6,.int .u64 dh,.int .u64 dl,.int .i64 sp,.int .i64 dp] from by rw [hw1,hg]; exact Blk.new w _ _)
 clear hw1 hg
 go_enter Try.func59,Try.ntmps59
 go_upto_region 1 with fail
 rw [← E1.out,← EG.out]
 have p0:=KP.out.cell 0
 have p1:=KP.out.cell 1
 have p2:=KP.out.cell 2
 have p3:=KP.out.cell 3
 have p4:=KP.out.cell 4
 have p5:=KP.out.cell 5
 have p6:=KP.out.cell 6
 go_wp2_with fail
 refine (HPS.out _ B1.out).mono ?_
 rintro o w2 ⟨hb2,A2,n2,k2,rfl,hsl,hge⟩
 have KP2:=Lib.hid (KP.out.below hb2 KP.out.lt)
 have B2:=Lib.hid (B1.out.trans (hb2.mono B1.out.size))
 have HC2:=Lib.hid (HC.out w2 A2 n2 k2 B2.out hsl)
 clear hb2 hsl hge p0 p1 p2 p3 p4 p5 p6
 go_wp2_with fail
 refine HC2.out.mono ?_
 rintro o w3 ⟨hb3,A3,n3,c3,rfl,hs3⟩
 have KP3:=Lib.hid (KP2.out.below hb3 KP2.out.lt)
 have B3:=Lib.hid (B2.out.trans (hb3.mono B2.out.size))
 have HB3:=Lib.hid (HB.out w3 A3 n3 c3 B3.out hs3)
 clear hb3 hs3
 have p0:=KP3.out.cell 0
 have p1:=KP3.out.cell 1
 have p2:=KP3.out.cell 2
 have p3:=KP3.out.cell 3
 have p4:=KP3.out.cell 4
 have p5:=KP3.out.cell 5
 have p6:=KP3.out.cell 6
 go_wp2_with fail
 refine HB3.out.mono ?_
 rintro o w4 ⟨hb4,A4,n4,c4,rfl,hs4⟩
 have B4:=Lib.hid (B3.out.trans (hb4.mono B3.out.size))
 clear hb4
 go_wp2_with fail
 go_ret2
 exact ⟨B4.out,A4,n4,c4,rfl,hs4⟩
theorem whole_sg_six (pr:Int) (sh sl:Int) (d6:Bool) (dh dl sp dp ttl sz:Int) (c1 c2 c3:Nat) (ps bs:List Int) (e:Int) (out:List Int) (w:World)
  (HPS:Hid (∀ V,Below w.heap.size w V→Calls Try.prog 85 #[.agg #[.bool true,.int .u64 sh,.int .u64 sl],.agg #[.bool d6,.int .u64 dh,.int .u64 dl],.int .i64 pr,.int .i64 sz] V (Gives ps V)))
  (HC:Hid (∀ V A2 n2 k2,Below w.heap.size w V→Sl V A2 n2 k2 ps→Calls Try.prog 60 #[.slice A2 n2 k2,.pointer (some ⟨c1,0,none⟩),.pointer (some ⟨c2,0,none⟩),.pointer (some ⟨c3,0,none⟩)] V (MkP 0 bs V)))
  (HB:Hid (∀ V A2 n2 k2,Below w.heap.size w V→Sl V A2 n2 k2 bs→Calls Try.prog 37 #[.agg #[.int .i64 0,.int .i64 0,.int .i64 ttl,.bool true,.int .u64 sh,.int .u64 sl,.bool d6,.int .u64 dh,.int .u64 dl,.slice none 0 0,.int .i64 pr],.slice A2 n2 k2] V (MkP e out V))) :
  Calls Try.prog 59 #[.agg #[.int .i64 pr,.bool true,.int .u64 sh,.int .u64 sl,.bool d6,.int .u64 dh,.int .u64 dl,.int .i64 sp,.int .i64 dp],.int .i64 ttl,.int .i64 sz,.func (.func 60) #[] #[.pointer (some ⟨c1,0,none⟩),.pointer (some ⟨c2,0,none⟩),.pointer (some ⟨c3,0,none⟩)]] w (MkP e out w):=by
 obtain ⟨w1,hw1⟩:∃ w1,w1=w.alloc (.cells #[.int .i64 pr,.bool true,.int .u64 sh,.int .u64 sl,.bool d6,.int .u64 dh,.int .u64 dl,.int .i64 sp,.int .i64 dp] 34):=⟨_,rfl⟩
 have E1:=Lib.hid hw1
 have B1:=Lib.hid (show Below w.heap.size w w1 from by rw [hw1]; exact (Below.refl _ _).alloc (Nat.le_refl _) _)
 obtain ⟨g,hg⟩:∃ g,g=w.heap.size:=⟨_,rfl⟩
 have EG:=Lib.hid hg
 have KP:=Lib.hid (show Blk w1 g 34 #[.int .i64 pr,.bool true,.int .u64 sh,.int .u64 sl,.bool d6,.int .u64 dh,.int .u64 dl,.int .i64 sp,.int .i64 dp] from by rw [hw1,hg]; exact Blk.new w _ _)
 clear hw1 hg
 go_enter Try.func59,Try.ntmps59
 go_upto_region 1 with fail
 rw [← E1.out,← EG.out]
 have p0:=KP.out.cell 0
 have p1:=KP.out.cell 1
 have p2:=KP.out.cell 2
 have p3:=KP.out.cell 3
 have p4:=KP.out.cell 4
 have p5:=KP.out.cell 5
 have p6:=KP.out.cell 6
 go_wp2_with fail
 refine (HPS.out _ B1.out).mono ?_
 rintro o w2 ⟨hb2,A2,n2,k2,rfl,hsl,hge⟩
 have KP2:=Lib.hid (KP.out.below hb2 KP.out.lt)
 have B2:=Lib.hid (B1.out.trans (hb2.mono B1.out.size))
 have HC2:=Lib.hid (HC.out w2 A2 n2 k2 B2.out hsl)
 clear hb2 hsl hge p0 p1 p2 p3 p4 p5 p6
 go_wp2_with fail
 refine HC2.out.mono ?_
 rintro o w3 ⟨hb3,A3,n3,c3,rfl,hs3⟩
 have KP3:=Lib.hid (KP2.out.below hb3 KP2.out.lt)
 have B3:=Lib.hid (B2.out.trans (hb3.mono B2.out.size))
 have HB3:=Lib.hid (HB.out w3 A3 n3 c3 B3.out hs3)
 clear hb3 hs3
 have p0:=KP3.out.cell 0
 have p1:=KP3.out.cell 1
 have p2:=KP3.out.cell 2
 have p3:=KP3.out.cell 3
 have p4:=KP3.out.cell 4
 have p5:=KP3.out.cell 5
 have p6:=KP3.out.cell 6
 go_wp2_with fail
 refine HB3.out.mono ?_
 rintro o w4 ⟨hb4,A4,n4,c4,rfl,hs4⟩
 have B4:=Lib.hid (B3.out.trans (hb4.mono B3.out.size))
 clear hb4
 go_wp2_with fail
 go_ret2
 exact ⟨B4.out,A4,n4,c4,rfl,hs4⟩
end Go.Proofs.Ytodckfgfbcnkoaa.pktL2
/- Layer 9: the law SixPuts. -/
namespace Go.Proofs.Ytodckfgfbcnkoaa.sixZn
set_option maxHeartbeats 2000000
set_option maxRecDepth 100000
open base rdrA rdrG sixM
theorem bytes_no (cls lab hop:Int) (s6:Bool) (sh sl:Int) (d6:Bool) (dh dl p:Int) (A:Option Addr) (n c:Nat) (rv:Value) (w:World)
  (HR:Hid (∀ V,Below w.heap.size w V→Calls Try.prog 68 #[.agg #[.int .i64 cls,.int .i64 lab,.int .i64 hop,.bool s6,.int .u64 sh,.int .u64 sl,.bool d6,.int .u64 dh,.int .u64 dl,.slice A n c,.int .i64 p]] V fun o w'=>o=.returned (.bool false)∧Below V.heap.size V w')) :
  Calls Try.prog 37 #[.agg #[.int .i64 cls,.int .i64 lab,.int .i64 hop,.bool s6,.int .u64 sh,.int .u64 sl,.bool d6,.int .u64 dh,.int .u64 dl,.slice A n c,.int .i64 p],rv] w fun o w'=>o=.returned (.tuple #[.slice none 0 0,.int .i64 1])∧Below w.heap.size w w':=by
 obtain ⟨w1,hw1⟩:∃ w1,w1=w.alloc (.cells #[.int .i64 cls,.int .i64 lab,.int .i64 hop,.bool s6,.int .u64 sh,.int .u64 sl,.bool d6,.int .u64 dh,.int .u64 dl,.slice A n c,.int .i64 p] 48):=⟨_,rfl⟩
 have E1:=Lib.hid hw1
 have BA:=Lib.hid (show Below w.heap.size w w1 from by rw [hw1]; exact (Below.refl _ _).alloc (Nat.le_refl _) _)
 have KB:=Lib.hid (show Blk w1 w.heap.size 48 #[.int .i64 cls,.int .i64 lab,.int .i64 hop,.bool s6,.int .u64 sh,.int .u64 sl,.bool d6,.int .u64 dh,.int .u64 dl,.slice A n c,.int .i64 p] from by rw [hw1]; exact Blk.new w _ _)
 clear hw1
 go_enter Try.func37,Try.ntmps37
 go_upto_region 1 with fail
 rw [← E1.out]
 have x0:=KB.out.cell 0
 have x1:=KB.out.cell 1
 have x2:=KB.out.cell 2
 have x3:=KB.out.cell 3
 have x4:=KB.out.cell 4
 have x5:=KB.out.cell 5
 have x6:=KB.out.cell 6
 have x7:=KB.out.cell 7
 have x8:=KB.out.cell 8
 have x9:=KB.out.cell 9
 have x10:=KB.out.cell 10
 go_wp2_with fail
 refine (HR.out _ BA.out).mono ?_
 rintro o w2 ⟨rfl,hb2⟩
 have B2:=Lib.hid (BA.out.trans (hb2.mono BA.out.size))
 clear hb2 x0 x1 x2 x3 x4 x5 x6 x7 x8 x9 x10
 go_wp2_with fail
 go_ret2
 exact ⟨rfl,B2.out⟩
end Go.Proofs.Ytodckfgfbcnkoaa.sixZn
