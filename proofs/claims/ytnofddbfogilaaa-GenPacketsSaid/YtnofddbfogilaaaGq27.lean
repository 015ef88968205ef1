/- 5 texts in one. -/
import Derived.Deep.RegionHeld3
import Derived.Deep.DeepCutAuto
import Derived.Deep.WholeRow
import Derived.Laws.AppendOwn
import Derived.Laws.OwnMore
import Derived.OwnWalk
import Derived.ArgAppend
import Derived.Test.YtnofddbfogilaaaGq01
import Derived.Test.YtnofddbfogilaaaGq18
import Derived.Test.YtnofddbfogilaaaGq24
import Derived.Test.YtnofddbfogilaaaGq26
/- Layer 14: a packet in another one: plain words. -/
namespace Go.Proofs.Ytnofddbfogilaaa.tunW
open Go.ChangeShapes Go.WideShapes Go.ChangeAt Go.RowKit
open base rdrA rdrG sixM
set_option linter.unusedVariables false
def okAd (v6:Bool) (h l:Int):Bool:=v6 || (decide (h=0) && decide (l<4294967296))
theorem aright_any (v6:Bool) (h l:Int) (w:World) (h0:0≤l):Calls Try.prog 30 #[.agg #[.bool v6,.int .u64 h,.int .u64 l]] w fun o w'=>o=.returned (.bool (okAd v6 h l))∧Below w.heap.size w w':=by
 cases v6 with
 | false =>
  by_cases hk:fourOn.okA false h l
  ·obtain ⟨_,rfl,h2⟩:=hk
   rw [show okAd false 0 l=true from by unfold okAd; rw [decide_eq_true (show l<4294967296 by omega)]; rfl]
   exact fourOn.addr_yes l w h0 h2
  ·have e:okAd false h l=false:=by
    unfold okAd
    by_cases a:h=0
    ·rw [decide_eq_false (show ¬ l<4294967296 from fun b=>hk ⟨rfl,a,by omega⟩)]
     simp
    ·rw [decide_eq_false a]
     rfl
   rw [e]
   exact fourOn.addr_no h l w hk
 | true =>
  go_enter Try.func30,Try.ntmps30
  go_wp2
  go_ret
  exact ⟨rfl,(Below.refl _ _).alloc (Nat.le_refl _) _⟩
end Go.Proofs.Ytnofddbfogilaaa.tunW
/- Layer 35: traffic in plain words. -/
namespace Go.Proofs.Ytnofddbfogilaaa.genW
open Go.ChangeShapes Go.WideShapes Go.ChangeAt Go.RowKit
open base mixA mixB pktA pktC pktE pktS sixW tunW
set_option linter.unusedVariables false
def gAdv (a:Int):Int:=IntKind.u64.wrap (a+11400714819323198485)
def gAt (a:Int):Nat→Int
 | 0=>a
 | k+1=>gAdv (gAt a k)
def gNum (a:Int) (k:Nat):Int:=oneZ (gAdv (gAt a k))
theorem gAt_add (a:Int) (j:Nat):∀ k,gAt (gAt a j) k=gAt a (j+k)
 | 0=>rfl
 | k+1=>by
  show gAdv (gAt (gAt a j) k)=gAdv (gAt a (j+k))
  rw [gAt_add a j k]
theorem gNum_add (a:Int) (j k:Nat):gNum (gAt a j) k=gNum a (j+k):=by
 unfold gNum
 rw [gAt_add]
theorem wrap_in (x:Int):0≤IntKind.u64.wrap x∧IntKind.u64.wrap x<18446744073709551616:=by
 rw [IntKind.wrap_u64]
 omega
theorem oneZ_in (x:Int) (h0:0≤x) (h1:x<18446744073709551616):0≤oneZ x∧oneZ x<18446744073709551616:=by
 obtain ⟨n,rfl⟩:=Int.eq_ofNat_of_zero_le h0
 rw [oneZ_eq (by omega)]
 have:=one_lt n
 omega
theorem gNum_in (a:Int) (k:Nat):0≤gNum a k∧gNum a k<18446744073709551616:=by
 have h:=wrap_in (gAt a k+11400714819323198485)
 exact oneZ_in _ h.1 h.2
structure Pl where
 key:Int
 cl:Int
 po:Int
 v6:Bool
 hi:Int
 lo:Int
 pr:Int
 dp:Int
 co:Int
 nt:Bool
 mo:Int
def Pl.cells (p:Pl):Array Value:=#[.int .u64 p.key,.int .i64 p.cl,.int .i64 p.po,.bool p.v6,.int .u64 p.hi,.int .u64 p.lo,.int .i64 p.pr,.int .i64 p.dp,.int .i64 p.co,.bool p.nt,.int .i64 p.mo]
def Pl.right (p:Pl):Prop:=(1≤p.cl∧p.cl≤65536∧1≤p.po∧p.po≤32768∧0≤p.mo∧p.mo≤1400)∧okAd p.v6 p.hi p.lo=true∧(p.pr=6∨p.pr=17)∧0≤p.dp∧p.dp≤65535
instance (p:Pl):Decidable p.right:=by unfold Pl.right; infer_instance
structure Pl.In (p:Pl):Prop where
 k0:0≤p.key
 k1:p.key<18446744073709551616
 h0:0≤p.hi
 h1:p.hi<18446744073709551616
 l0:0≤p.lo
 l1:p.lo<18446744073709551616
def gFlow (p:Pl) (a:Int):Tp:=⟨p.pr,p.v6,if p.v6=true then 2306139568115548160 else 0,if p.v6=true then below (gNum a 0) p.cl+1 else 167772161+below (gNum a 0) p.cl,p.v6,p.hi,p.lo,32768+below (gNum a 1) p.po,p.dp⟩
def gMany (p:Pl) (a:Int):Nat:=(below (gNum a 0) (p.mo+1)).toNat
def gPay (a:Int) (n:Nat):List Int:=(List.range n).map fun i=>gNum a i % 256
theorem gPay_len (a:Int) (n:Nat):(gPay a n).length=n:=by simp [gPay]
theorem gPay_u8 (a:Int) (n:Nat):U8 (gPay a n):=fun x hx=>by
 simp only [gPay,List.mem_map,List.mem_range] at hx
 obtain ⟨i,_,rfl⟩:=hx
 have:=gNum_in a i
 omega
theorem gPay_succ (a:Int) (n:Nat):gPay a (n+1)=gPay a n++[gNum a n % 256]:=by simp [gPay,List.range_succ]
theorem below_in (a:Int) (k:Nat) (n:Int) (h:1≤n):0≤below (gNum a k) n∧below (gNum a k) n<n:=by
 have:=gNum_in a k
 unfold below
 rw [if_neg (by omega)]
 exact mul_lt this.1 this.2 h
theorem gMany_in (p:Pl) (a:Int) (h:0≤p.mo):(gMany p a:Int)=below (gNum a 0) (p.mo+1)∧(gMany p a:Int)≤p.mo:=by
 have:=below_in a 0 (p.mo+1) (by omega)
 unfold gMany
 omega
structure FOk (p:Pl) (t:Tp):Prop where
 pr:t.pr=p.pr
 s6:t.s6=p.v6
 d6:t.d6=p.v6
 dh:t.dh=p.hi
 dl:t.dl=p.lo
 dp:t.dp=p.dp
 sp0:0≤t.sp
 sp1:t.sp≤65535
 sh0:0≤t.sh
 sh1:t.sh<18446744073709551616
 sl0:0≤t.sl
 sl1:t.sl<18446744073709551616
 s4:p.v6=false→t.sh=0∧t.sl<4294967296
theorem gFlow_ok (p:Pl) (hp:p.right) (a:Int):FOk p (gFlow p a):=by
 obtain ⟨⟨h1,h2,h3,h4,h5,h6⟩,h7,h8,h9,h10⟩:=hp
 have b1:=below_in a 0 p.cl h1
 have b2:=below_in a 1 p.po h3
 refine ⟨rfl,rfl,rfl,rfl,rfl,rfl,?_,?_,?_,?_,?_,?_,fun h=>?_⟩
 ·show 0≤32768+below (gNum a 1) p.po; omega
 ·show 32768+below (gNum a 1) p.po≤65535; omega
 ·show 0≤(if p.v6=true then (2306139568115548160:Int) else 0); split <;> omega
 ·show (if p.v6=true then (2306139568115548160:Int) else 0)<18446744073709551616; split <;> omega
 ·show 0≤(if p.v6=true then below (gNum a 0) p.cl+1 else 167772161+below (gNum a 0) p.cl); split <;> omega
 ·show (if p.v6=true then below (gNum a 0) p.cl+1 else 167772161+below (gNum a 0) p.cl)<18446744073709551616; split <;> omega
 ·have e:¬ p.v6=true:=by simp [h]
  refine ⟨?_,?_⟩
  ·show (if p.v6=true then (2306139568115548160:Int) else 0)=0; rw [if_neg e]
  ·show (if p.v6=true then below (gNum a 0) p.cl+1 else 167772161+below (gNum a 0) p.cl)<4294967296; rw [if_neg e]; omega
theorem FOk.made {p:Pl} {t:Tp} (h:FOk p t) (hp:p.right) (hi:p.In) (fl proto:Int) (hf:0≤fl∧fl≤255) (hpr:p.pr=proto):Made t.pr t.s6 t.sh t.sl t.d6 t.dh t.dl t.sp t.dp 64 fl proto:=by
 obtain ⟨⟨h1,h2,h3,h4,h5,h6⟩,h7,h8,h9,h10⟩:=hp
 refine ⟨h.pr.trans hpr,h.s6.trans h.d6.symm,by omega,⟨h.sp0,h.sp1,by rw [h.dp]; exact h9,by rw [h.dp]; exact h10⟩,hf,?_⟩
 cases hv:p.v6 with
 | true=>exact .inl (h.s6.trans hv)
 | false =>
  unfold okAd at h7
  rw [hv] at h7
  simp at h7
  exact .inr ⟨(h.s4 hv).1,h.dh.trans h7.1,(h.s4 hv).2,by rw [h.dl]; exact h7.2⟩
structure Gs where
 t:Tp
 fl:Int
 a:Int
 op:List Tp
def gSeg (p:Pl) (a:Int) (op:List Tp):Gs :=
 if op.length=0∨(below (gNum a 0) 4=0∧op.length<256) then ⟨gFlow p (gAt a 1),2,gAt a 3,op++[gFlow p (gAt a 1)]⟩
 else if below (gNum a 0) 4=1 then ⟨op.getD (below (gNum a 1) op.length).toNat zeroT,17,gAt a 2,op.eraseIdx (below (gNum a 1) op.length).toNat⟩
 else ⟨op.getD (below (gNum a 1) op.length).toNat zeroT,16,gAt a 2,op⟩
theorem gSeg_ok (p:Pl) (hp:p.right) (a:Int) (op:List Tp) (h:∀ t ∈ op,FOk p t) (hn:op.length≤256):FOk p (gSeg p a op).t∧(∀ t ∈ (gSeg p a op).op,FOk p t)∧(gSeg p a op).op.length≤256∧(0≤(gSeg p a op).fl∧(gSeg p a op).fl≤255):=by
 unfold gSeg
 split
 case isTrue h1 =>
  refine ⟨gFlow_ok p hp _,fun t ht=>?_,?_,(by decide:(0:Int)≤2),(by decide:(2:Int)≤255)⟩
  ·rcases List.mem_append.1 ht with ht | ht
   ·exact h t ht
   ·rw [List.mem_singleton.1 ht]; exact gFlow_ok p hp _
  ·show (op++[gFlow p (gAt a 1)]).length≤256
   rw [List.length_append]
   simp only [List.length_cons,List.length_nil]
   omega
 case isFalse h1 =>
  have hop:1≤op.length:=by omega
  have b:=below_in a 1 op.length (by omega)
  have hlt:(below (gNum a 1) op.length).toNat<op.length:=by omega
  have hm:FOk p (op.getD (below (gNum a 1) op.length).toNat zeroT):=by
   rw [List.getD_eq_getElem?_getD,List.getElem?_eq_getElem hlt]
   exact h _ (List.getElem_mem hlt)
  split
  ·refine ⟨hm,fun t ht=>h t (List.mem_of_mem_eraseIdx ht),?_,(by decide:(0:Int)≤17),(by decide:(17:Int)≤255)⟩
   have:=List.length_eraseIdx_le op (below (gNum a 1) op.length).toNat
   show (op.eraseIdx _).length≤256
   omega
  ·exact ⟨hm,h,hn,(by decide:(0:Int)≤16),(by decide:(16:Int)≤255)⟩
end Go.Proofs.Ytnofddbfogilaaa.genW
/- Layer 35: which plans may be. -/
namespace Go.Proofs.Ytnofddbfogilaaa.genA
set_option maxHeartbeats 4000000
set_option maxRecDepth 100000
open Go.ChangeShapes Go.WideShapes Go.ChangeAt Go.RowKit
open base mixB pktA pktC tunW genW
set_option linter.unusedVariables false
set_option linter.unusedSimpArgs false
structure Frg (g q:Nat) (v:Value) (w w':World):Prop where
 os:w'.os=w.os
 tape:w'.tape=w.tape
 output:w'.output=w.output
 size:w.heap.size≤w'.heap.size
 block:∀ k,k<w.heap.size→k≠g→k≠q→some k≠v.ownBlock→w'.heap[k]?=w.heap[k]?
theorem Frg.refl (g q:Nat) (v:Value) (w:World):Frg g q v w w:=⟨rfl,rfl,rfl,Nat.le_refl _,fun _ _ _ _ _=>rfl⟩
theorem Frg.trans {g q:Nat} {v v2:Value} {a b c:World} (h:Frg g q v a b) (h2:Frg g q v2 b c) (hv:∀ x,v2.ownBlock=some x→v.ownBlock=some x∨a.heap.size≤x):Frg g q v a c :=
 ⟨h2.os.trans h.os,h2.tape.trans h.tape,h2.output.trans h.output,Nat.le_trans h.size h2.size,fun k h1 h3 h4 h5=>(h2.block k (Nat.lt_of_lt_of_le h1 h.size) h3 h4 (fun e=>by
  rcases hv k e.symm with e2 | e2
  ·exact h5 e2.symm
  ·omega)).trans (h.block k h1 h3 h4 h5)⟩
theorem Frg.then {g q:Nat} {v:Value} {a b c:World} (h:Frg g q v a b) (h2:Frg g q v b c):Frg g q v a c:=h.trans h2 fun _ e=>.inl e
theorem Frg.of_below {g q:Nat} {v:Value} {w w':World} (h:Below w.heap.size w w'):Frg g q v w w':=⟨h.os,h.tape,h.output,h.size,fun k hk _ _ _=>h.block k hk⟩
theorem Frg.blk {g q:Nat} {v:Value} {w w':World} (h:Frg g q v w w') {k:Nat} {T:TypeId} {cs:Array Value} (hb:Blk w k T cs) (h1:k≠g) (h2:k≠q) (h3:some k≠v.ownBlock):Blk w' k T cs:=(h.block k hb.lt h1 h2 h3).trans hb
theorem Frg.drew {g q:Nat} {v:Value} {w w':World} (h:Frg g q v w w'):Frg g q v w w'.drew:=⟨h.os,h.tape,h.output,h.size,h.block⟩
theorem Frg.alloc {g q:Nat} {v:Value} {w w':World} (h:Frg g q v w w') (o:Obj):Frg g q v w (w'.alloc o):=h.then (Frg.of_below ((Below.refl w'.heap.size w').alloc (Nat.le_refl _) o))
theorem Frg.setCell {g q:Nat} {v:Value} {w w':World} (h:Frg g q v w w') {p:Addr} (hp:p.block=g∨p.block=q∨some p.block=v.ownBlock∨w.heap.size≤p.block) (x:Value):Frg g q v w (w'.setCell p x):=by
 have hs:(w'.setCell p x).heap.size=w'.heap.size:=by simp
 refine ⟨h.os,h.tape,h.output,by rw [hs]; exact h.size,fun k h1 h3 h4 h5=>?_⟩
 have hne:k≠p.block:=by
  intro e
  rcases hp with a | a | a | a
  ·exact h3 (e.trans a)
  ·exact h4 (e.trans a)
  ·exact h5 (e ▸ a)
  ·omega
 refine Eq.trans ?_ (h.block k h1 h3 h4 h5)
 simp [World.setCell,Array.getElem?_modify,Ne.symm hne]
theorem Frg.below {g q B:Nat} {v:Value} {w w':World} (h:Frg g q v w w') (h1:B≤g) (h2:B≤q) (h3:∀ x,v.ownBlock=some x→B≤x) (hs:B≤w.heap.size):Below B w w' :=
 ⟨h.os,h.tape,h.output,h.size,fun k hk=>h.block k (Nat.lt_of_lt_of_le hk hs) (by omega) (by omega) (fun e=>by have:=h3 k e.symm; omega)⟩
theorem Frg.grown {g q:Nat} {v:Value} {w w' w2:World} (h:Frg g q v w w') (hg:w'.grownBy w2 v.ownBlock):Frg g q v w w2 :=
 ⟨hg.os.trans h.os,hg.tape.trans h.tape,hg.output.trans h.output,Nat.le_trans h.size hg.size,fun k h1 h3 h4 h5=>(hg.block k (Nat.lt_of_lt_of_le h1 h.size) h5).trans (h.block k h1 h3 h4 h5)⟩
theorem right_any (p:Pl) (hin:p.In) (w:World):Calls Try.prog 14 #[.agg p.cells] w fun o w'=>o=.returned (.bool (decide p.right))∧Below w.heap.size w w':=by
 obtain ⟨r,hr⟩:∃ r,r=decide p.right:=⟨_,rfl⟩
 rw [← hr]
 have l0:=hin.l0
 clear hin
 obtain ⟨key,cl,po,v6,hh,lo,pr,dp,co,nt,mo⟩:=p
 have HRT:=Lib.hid (fun V=>aright_any v6 hh lo V l0)
 clear l0
 obtain ⟨ra,hra⟩:∃ ra,ra=okAd v6 hh lo:=⟨_,rfl⟩
 rw [← hra] at HRT
 have HR:=Lib.hid (show r=decide ((1≤cl∧cl≤65536∧1≤po∧po≤32768∧0≤mo∧mo≤1400)∧ra=true∧(pr=6∨pr=17)∧0≤dp∧dp≤65535) from by rw [hr,hra]; rfl)
 clear hr hra
 show Calls Try.prog 14 #[.agg #[.int .u64 key,.int .i64 cl,.int .i64 po,.bool v6,.int .u64 hh,.int .u64 lo,.int .i64 pr,.int .i64 dp,.int .i64 co,.bool nt,.int .i64 mo]] w _
 have B1:=Lib.hid (show Below w.heap.size w (w.alloc (.cells #[.int .u64 key,.int .i64 cl,.int .i64 po,.bool v6,.int .u64 hh,.int .u64 lo,.int .i64 pr,.int .i64 dp,.int .i64 co,.bool nt,.int .i64 mo] 28)) from (Below.refl _ _).alloc (Nat.le_refl _) _)
 go_enter Try.func14,Try.ntmps14
 by_cases h0:cl<1
 ·have t0:decide (cl<1)=true:=decide_eq_true h0
  have M0:=Lib.hid h0
  clear h0
  go_wp2_with fail
  go_ret
  exact ⟨by rw [show r=false from by rw [HR.out]; exact decide_eq_false (fun k=>by rcases k with ⟨⟨k1,k2,k3,k4,k5,k6⟩,k7,k8,k9,k10⟩; have HH:=M0.out; omega)]; rfl,B1.out⟩
 have t0:decide (cl<1)=false:=decide_eq_false h0
 have M0:=Lib.hid h0
 clear h0
 by_cases h1:65536<cl
 ·have t1:decide (65536<cl)=true:=decide_eq_true h1
  have M1:=Lib.hid h1
  clear h1
  go_wp2_with fail
  go_ret
  exact ⟨by rw [show r=false from by rw [HR.out]; exact decide_eq_false (fun k=>by rcases k with ⟨⟨k1,k2,k3,k4,k5,k6⟩,k7,k8,k9,k10⟩; have HH:=M1.out; omega)]; rfl,B1.out⟩
 have t1:decide (65536<cl)=false:=decide_eq_false h1
 have M1:=Lib.hid h1
 clear h1
 by_cases h2:po<1
 ·have t2:decide (po<1)=true:=decide_eq_true h2
  have M2:=Lib.hid h2
  clear h2
  go_wp2_with fail
  go_ret
  exact ⟨by rw [show r=false from by rw [HR.out]; exact decide_eq_false (fun k=>by rcases k with ⟨⟨k1,k2,k3,k4,k5,k6⟩,k7,k8,k9,k10⟩; have HH:=M2.out; omega)]; rfl,B1.out⟩
 have t2:decide (po<1)=false:=decide_eq_false h2
 have M2:=Lib.hid h2
 clear h2
 by_cases h3:32768<po
 ·have t3:decide (32768<po)=true:=decide_eq_true h3
  have M3:=Lib.hid h3
  clear h3
  go_wp2_with fail
  go_ret
  exact ⟨by rw [show r=false from by rw [HR.out]; exact decide_eq_false (fun k=>by rcases k with ⟨⟨k1,k2,k3,k4,k5,k6⟩,k7,k8,k9,k10⟩; have HH:=M3.out; omega)]; rfl,B1.out⟩
 have t3:decide (32768<po)=false:=decide_eq_false h3
 have M3:=Lib.hid h3
 clear h3
 by_cases h4:mo<0
 ·have t4:decide (mo<0)=true:=decide_eq_true h4
  have M4:=Lib.hid h4
  clear h4
  go_wp2_with fail
  go_ret
  exact ⟨by rw [show r=false from by rw [HR.out]; exact decide_eq_false (fun k=>by rcases k with ⟨⟨k1,k2,k3,k4,k5,k6⟩,k7,k8,k9,k10⟩; have HH:=M4.out; omega)]; rfl,B1.out⟩
 have t4:decide (mo<0)=false:=decide_eq_false h4
 have M4:=Lib.hid h4
 clear h4
 by_cases h5:1400<mo
 ·have t5:decide (1400<mo)=true:=decide_eq_true h5
  have M5:=Lib.hid h5
  clear h5
  go_wp2_with fail
  go_ret
  exact ⟨by rw [show r=false from by rw [HR.out]; exact decide_eq_false (fun k=>by rcases k with ⟨⟨k1,k2,k3,k4,k5,k6⟩,k7,k8,k9,k10⟩; have HH:=M5.out; omega)]; rfl,B1.out⟩
 have t5:decide (1400<mo)=false:=decide_eq_false h5
 have M5:=Lib.hid h5
 clear h5
 go_wp2_with fail
 refine (HRT.out _).mono ?_
 rintro o w2 ⟨rfl,hb2⟩
 have B2:=Lib.hid ((B1.out.alloc B1.out.size _).trans (hb2.mono (B1.out.alloc B1.out.size _).size))
 have KV:=Lib.hid (show Blk w2 (w.heap.size+1) 26 #[.bool v6,.int .u64 hh,.int .u64 lo,.int .i64 pr,.int .i64 dp,.int .i64 co,.bool nt] from by
  have h9:=(Blk.new (w.alloc (.cells #[.int .u64 key,.int .i64 cl,.int .i64 po,.bool v6,.int .u64 hh,.int .u64 lo,.int .i64 pr,.int .i64 dp,.int .i64 co,.bool nt,.int .i64 mo] 28)) 26 #[.bool v6,.int .u64 hh,.int .u64 lo,.int .i64 pr,.int .i64 dp,.int .i64 co,.bool nt]).below hb2 (Blk.new _ _ _).lt
  simpa using h9)
 clear hb2
 have c3:=KV.out.cell 3
 have c4:=KV.out.cell 4
 cases ra with
 | false =>
  go_wp2_with fail
  go_ret
  exact ⟨by rw [show r=false from by rw [HR.out]; exact decide_eq_false (fun k=>by rcases k with ⟨⟨k1,k2,k3,k4,k5,k6⟩,k7,k8,k9,k10⟩; cases k7)]; rfl,B2.out⟩
 | true =>
  by_cases h6:pr=6
  ·have q6:(pr == 6)=true:=by simp [h6]
   have MP:=Lib.hid (show pr=6∨pr=17 from .inl h6)
   clear h6
   by_cases hd:0≤dp
   case neg =>
    have td:decide (0≤dp)=false:=decide_eq_false hd
    have MD:=Lib.hid hd
    clear hd
    go_wp2_with fail
    go_ret
    exact ⟨by rw [show r=false from by rw [HR.out]; exact decide_eq_false (fun k=>by rcases k with ⟨⟨k1,k2,k3,k4,k5,k6⟩,k7,k8,k9,k10⟩; have:=MD.out; omega)]; rfl,B2.out⟩
   have td:decide (0≤dp)=true:=decide_eq_true hd
   have MD:=Lib.hid hd
   clear hd
   by_cases he:dp≤65535
   case neg =>
    have te:decide (dp≤65535)=false:=decide_eq_false he
    have ME:=Lib.hid he
    clear he
    go_wp2_with fail
    go_ret
    exact ⟨by rw [show r=false from by rw [HR.out]; exact decide_eq_false (fun k=>by rcases k with ⟨⟨k1,k2,k3,k4,k5,k6⟩,k7,k8,k9,k10⟩; have:=ME.out; omega)]; rfl,B2.out⟩
   have te:decide (dp≤65535)=true:=decide_eq_true he
   have ME:=Lib.hid he
   clear he
   go_wp2_with fail
   go_ret
   exact ⟨by rw [show r=true from by rw [HR.out]; exact decide_eq_true ⟨⟨by have:=M0.out; omega,by have:=M1.out; omega,by have:=M2.out; omega,by have:=M3.out; omega,by have:=M4.out; omega,by have:=M5.out; omega⟩,by first | rfl | trivial,MP.out,by have:=MD.out; omega,by have:=ME.out; omega⟩]; rfl,B2.out⟩
  ·have q6:(pr == 6)=false:=by simp [h6]
   by_cases h7:pr=17
   ·have q7:(pr == 17)=true:=by simp [h7]
    have MP:=Lib.hid (show pr=6∨pr=17 from .inr h7)
    clear h6 h7
    by_cases hd:0≤dp
    case neg =>
     have td:decide (0≤dp)=false:=decide_eq_false hd
     have MD:=Lib.hid hd
     clear hd
     go_wp2_with fail
     go_ret
     exact ⟨by rw [show r=false from by rw [HR.out]; exact decide_eq_false (fun k=>by rcases k with ⟨⟨k1,k2,k3,k4,k5,k6⟩,k7,k8,k9,k10⟩; have:=MD.out; omega)]; rfl,B2.out⟩
    have td:decide (0≤dp)=true:=decide_eq_true hd
    have MD:=Lib.hid hd
    clear hd
    by_cases he:dp≤65535
    case neg =>
     have te:decide (dp≤65535)=false:=decide_eq_false he
     have ME:=Lib.hid he
     clear he
     go_wp2_with fail
     go_ret
     exact ⟨by rw [show r=false from by rw [HR.out]; exact decide_eq_false (fun k=>by rcases k with ⟨⟨k1,k2,k3,k4,k5,k6⟩,k7,k8,k9,k10⟩; have:=ME.out; omega)]; rfl,B2.out⟩
    have te:decide (dp≤65535)=true:=decide_eq_true he
    have ME:=Lib.hid he
    clear he
    go_wp2_with fail
    go_ret
    exact ⟨by rw [show r=true from by rw [HR.out]; exact decide_eq_true ⟨⟨by have:=M0.out; omega,by have:=M1.out; omega,by have:=M2.out; omega,by have:=M3.out; omega,by have:=M4.out; omega,by have:=M5.out; omega⟩,by first | rfl | trivial,MP.out,by have:=MD.out; omega,by have:=ME.out; omega⟩]; rfl,B2.out⟩
   ·have q7:(pr == 17)=false:=by simp [h7]
    have MP:=Lib.hid (show ¬ (pr=6∨pr=17) from fun k=>k.elim h6 h7)
    clear h6 h7
    go_wp2_with fail
    go_ret
    exact ⟨by rw [show r=false from by rw [HR.out]; exact decide_eq_false (fun k=>by rcases k with ⟨⟨k1,k2,k3,k4,k5,k6⟩,k7,k8,k9,k10⟩; exact MP.out k8)]; rfl,B2.out⟩
theorem lright_any (p:Pl) (hin:p.In) (w:World):Calls Try.prog 15 #[.agg p.cells] w fun o w'=>o=.returned (.bool (decide p.right))∧Below w.heap.size w w':=by
 obtain ⟨r,hr⟩:∃ r,r=decide p.right:=⟨_,rfl⟩
 rw [← hr]
 have l0:=hin.l0
 clear hin
 obtain ⟨key,cl,po,v6,hh,lo,pr,dp,co,nt,mo⟩:=p
 have HRT:=Lib.hid (fun V=>aright_any v6 hh lo V l0)
 clear l0
 obtain ⟨ra,hra⟩:∃ ra,ra=okAd v6 hh lo:=⟨_,rfl⟩
 rw [← hra] at HRT
 have HR:=Lib.hid (show r=decide ((1≤cl∧cl≤65536∧1≤po∧po≤32768∧0≤mo∧mo≤1400)∧ra=true∧(pr=6∨pr=17)∧0≤dp∧dp≤65535) from by rw [hr,hra]; rfl)
 clear hr hra
 show Calls Try.prog 15 #[.agg #[.int .u64 key,.int .i64 cl,.int .i64 po,.bool v6,.int .u64 hh,.int .u64 lo,.int .i64 pr,.int .i64 dp,.int .i64 co,.bool nt,.int .i64 mo]] w _
 have B1:=Lib.hid (show Below w.heap.size w (w.alloc (.cells #[.int .u64 key,.int .i64 cl,.int .i64 po,.bool v6,.int .u64 hh,.int .u64 lo,.int .i64 pr,.int .i64 dp,.int .i64 co,.bool nt,.int .i64 mo] 28)) from (Below.refl _ _).alloc (Nat.le_refl _) _)
 go_enter Try.func15,Try.ntmps15
 by_cases h0:1≤cl
 case neg =>
  have t0:decide (1≤cl)=false:=decide_eq_false h0
  have M0:=Lib.hid h0
  clear h0
  go_wp2_with fail
  go_ret
  exact ⟨by rw [show r=false from by rw [HR.out]; exact decide_eq_false (fun k=>by rcases k with ⟨⟨k1,k2,k3,k4,k5,k6⟩,k7,k8,k9,k10⟩; have HH:=M0.out; omega)]; rfl,B1.out.alloc B1.out.size _⟩
 have t0:decide (1≤cl)=true:=decide_eq_true h0
 have M0:=Lib.hid h0
 clear h0
 by_cases h1:cl≤65536
 case neg =>
  have t1:decide (cl≤65536)=false:=decide_eq_false h1
  have M1:=Lib.hid h1
  clear h1
  go_wp2_with fail
  go_ret
  exact ⟨by rw [show r=false from by rw [HR.out]; exact decide_eq_false (fun k=>by rcases k with ⟨⟨k1,k2,k3,k4,k5,k6⟩,k7,k8,k9,k10⟩; have HH:=M1.out; omega)]; rfl,B1.out.alloc B1.out.size _⟩
 have t1:decide (cl≤65536)=true:=decide_eq_true h1
 have M1:=Lib.hid h1
 clear h1
 by_cases h2:1≤po
 case neg =>
  have t2:decide (1≤po)=false:=decide_eq_false h2
  have M2:=Lib.hid h2
  clear h2
  go_wp2_with fail
  go_ret
  exact ⟨by rw [show r=false from by rw [HR.out]; exact decide_eq_false (fun k=>by rcases k with ⟨⟨k1,k2,k3,k4,k5,k6⟩,k7,k8,k9,k10⟩; have HH:=M2.out; omega)]; rfl,B1.out.alloc B1.out.size _⟩
 have t2:decide (1≤po)=true:=decide_eq_true h2
 have M2:=Lib.hid h2
 clear h2
 by_cases h3:po≤32768
 case neg =>
  have t3:decide (po≤32768)=false:=decide_eq_false h3
  have M3:=Lib.hid h3
  clear h3
  go_wp2_with fail
  go_ret
  exact ⟨by rw [show r=false from by rw [HR.out]; exact decide_eq_false (fun k=>by rcases k with ⟨⟨k1,k2,k3,k4,k5,k6⟩,k7,k8,k9,k10⟩; have HH:=M3.out; omega)]; rfl,B1.out.alloc B1.out.size _⟩
 have t3:decide (po≤32768)=true:=decide_eq_true h3
 have M3:=Lib.hid h3
 clear h3
 by_cases h4:0≤mo
 case neg =>
  have t4:decide (0≤mo)=false:=decide_eq_false h4
  have M4:=Lib.hid h4
  clear h4
  go_wp2_with fail
  go_ret
  exact ⟨by rw [show r=false from by rw [HR.out]; exact decide_eq_false (fun k=>by rcases k with ⟨⟨k1,k2,k3,k4,k5,k6⟩,k7,k8,k9,k10⟩; have HH:=M4.out; omega)]; rfl,B1.out.alloc B1.out.size _⟩
 have t4:decide (0≤mo)=true:=decide_eq_true h4
 have M4:=Lib.hid h4
 clear h4
 by_cases h5:mo≤1400
 case neg =>
  have t5:decide (mo≤1400)=false:=decide_eq_false h5
  have M5:=Lib.hid h5
  clear h5
  go_wp2_with fail
  go_ret
  exact ⟨by rw [show r=false from by rw [HR.out]; exact decide_eq_false (fun k=>by rcases k with ⟨⟨k1,k2,k3,k4,k5,k6⟩,k7,k8,k9,k10⟩; have HH:=M5.out; omega)]; rfl,B1.out.alloc B1.out.size _⟩
 have t5:decide (mo≤1400)=true:=decide_eq_true h5
 have M5:=Lib.hid h5
 clear h5
 go_wp2_with fail
 refine (HRT.out _).mono ?_
 rintro o w2 ⟨rfl,hb2⟩
 have B2:=Lib.hid ((B1.out.alloc B1.out.size _).trans (hb2.mono (B1.out.alloc B1.out.size _).size))
 have KV:=Lib.hid (show Blk w2 (w.heap.size+1) 26 #[.bool v6,.int .u64 hh,.int .u64 lo,.int .i64 pr,.int .i64 dp,.int .i64 co,.bool nt] from by
  have h9:=(Blk.new (w.alloc (.cells #[.int .u64 key,.int .i64 cl,.int .i64 po,.bool v6,.int .u64 hh,.int .u64 lo,.int .i64 pr,.int .i64 dp,.int .i64 co,.bool nt,.int .i64 mo] 28)) 26 #[.bool v6,.int .u64 hh,.int .u64 lo,.int .i64 pr,.int .i64 dp,.int .i64 co,.bool nt]).below hb2 (Blk.new _ _ _).lt
  simpa using h9)
 clear hb2
 have c3:=KV.out.cell 3
 have c4:=KV.out.cell 4
 cases ra with
 | false =>
  go_wp2_with fail
  go_ret
  exact ⟨by rw [show r=false from by rw [HR.out]; exact decide_eq_false (fun k=>by rcases k with ⟨⟨k1,k2,k3,k4,k5,k6⟩,k7,k8,k9,k10⟩; cases k7)]; rfl,B2.out⟩
 | true =>
  by_cases h6:pr=6
  ·have q6:(pr == 6)=true:=by simp [h6]
   have MP:=Lib.hid (show pr=6∨pr=17 from .inl h6)
   clear h6
   by_cases hd:0≤dp
   case neg =>
    have td:decide (0≤dp)=false:=decide_eq_false hd
    have MD:=Lib.hid hd
    clear hd
    go_wp2_with fail
    go_ret
    exact ⟨by rw [show r=false from by rw [HR.out]; exact decide_eq_false (fun k=>by rcases k with ⟨⟨k1,k2,k3,k4,k5,k6⟩,k7,k8,k9,k10⟩; have:=MD.out; omega)]; rfl,B2.out⟩
   have td:decide (0≤dp)=true:=decide_eq_true hd
   have MD:=Lib.hid hd
   clear hd
   by_cases he:dp≤65535
   case neg =>
    have te:decide (dp≤65535)=false:=decide_eq_false he
    have ME:=Lib.hid he
    clear he
    go_wp2_with fail
    go_ret
    exact ⟨by rw [show r=false from by rw [HR.out]; exact decide_eq_false (fun k=>by rcases k with ⟨⟨k1,k2,k3,k4,k5,k6⟩,k7,k8,k9,k10⟩; have:=ME.out; omega)]; rfl,B2.out⟩
   have te:decide (dp≤65535)=true:=decide_eq_true he
   have ME:=Lib.hid he
   clear he
   go_wp2_with fail
   go_ret
   exact ⟨by rw [show r=true from by rw [HR.out]; exact decide_eq_true ⟨⟨by have:=M0.out; omega,by have:=M1.out; omega,by have:=M2.out; omega,by have:=M3.out; omega,by have:=M4.out; omega,by have:=M5.out; omega⟩,by first | rfl | trivial,MP.out,by have:=MD.out; omega,by have:=ME.out; omega⟩]; rfl,B2.out⟩
  ·have q6:(pr == 6)=false:=by simp [h6]
   by_cases h7:pr=17
   ·have q7:(pr == 17)=true:=by simp [h7]
    have MP:=Lib.hid (show pr=6∨pr=17 from .inr h7)
    clear h6 h7
    by_cases hd:0≤dp
    case neg =>
     have td:decide (0≤dp)=false:=decide_eq_false hd
     have MD:=Lib.hid hd
     clear hd
     go_wp2_with fail
     go_ret
     exact ⟨by rw [show r=false from by rw [HR.out]; exact decide_eq_false (fun k=>by rcases k with ⟨⟨k1,k2,k3,k4,k5,k6⟩,k7,k8,k9,k10⟩; have:=MD.out; omega)]; rfl,B2.out⟩
    have td:decide (0≤dp)=true:=decide_eq_true hd
    have MD:=Lib.hid hd
    clear hd
    by_cases he:dp≤65535
    case neg =>
     have te:decide (dp≤65535)=false:=decide_eq_false he
     have ME:=Lib.hid he
     clear he
     go_wp2_with fail
     go_ret
     exact ⟨by rw [show r=false from by rw [HR.out]; exact decide_eq_false (fun k=>by rcases k with ⟨⟨k1,k2,k3,k4,k5,k6⟩,k7,k8,k9,k10⟩; have:=ME.out; omega)]; rfl,B2.out⟩
    have te:decide (dp≤65535)=true:=decide_eq_true he
    have ME:=Lib.hid he
    clear he
    go_wp2_with fail
    go_ret
    exact ⟨by rw [show r=true from by rw [HR.out]; exact decide_eq_true ⟨⟨by have:=M0.out; omega,by have:=M1.out; omega,by have:=M2.out; omega,by have:=M3.out; omega,by have:=M4.out; omega,by have:=M5.out; omega⟩,by first | rfl | trivial,MP.out,by have:=MD.out; omega,by have:=ME.out; omega⟩]; rfl,B2.out⟩
   ·have q7:(pr == 17)=false:=by simp [h7]
    have MP:=Lib.hid (show ¬ (pr=6∨pr=17) from fun k=>k.elim h6 h7)
    clear h6 h7
    go_wp2_with fail
    go_ret
    exact ⟨by rw [show r=false from by rw [HR.out]; exact decide_eq_false (fun k=>by rcases k with ⟨⟨k1,k2,k3,k4,k5,k6⟩,k7,k8,k9,k10⟩; exact MP.out k8)]; rfl,B2.out⟩
end Go.Proofs.Ytnofddbfogilaaa.genA
/- Layer 35: the next flow. -/
namespace Go.Proofs.Ytnofddbfogilaaa.genB
open Go.ChangeShapes Go.WideShapes Go.ChangeAt Go.RowKit
open base mixB mixC rdrG pktA pktC genW genA pktD
set_option linter.unusedVariables false
set_option linter.unusedSimpArgs false
def srcC (q:Nat) (p:Pl) (v:Value):Array Value:=#[.pointer (some ⟨q,0,none⟩),.int .u64 p.key,.int .i64 p.cl,.int .i64 p.po,.bool p.v6,.int .u64 p.hi,.int .u64 p.lo,.int .i64 p.pr,.int .i64 p.dp,.int .i64 p.co,.bool p.nt,.int .i64 p.mo,v]
structure SM (w:World) (g q:Nat) (p:Pl) (a:Int) (v:Value):Prop where
 src:Blk w g 44 (srcC q p v)
 gen:Blk w q 66 #[.int .u64 a]
theorem SM.ne {w:World} {g q:Nat} {p:Pl} {a:Int} {v:Value} (h:SM w g q p a v):g≠q:=by
 rintro rfl
 have:=h.src.symm.trans h.gen
 injection this with this
 injection this with _ this _
 exact absurd this (by decide)
theorem SM.below {w w':World} {g q:Nat} {p:Pl} {a:Int} {v:Value} (h:SM w g q p a v) (hb:Below w.heap.size w w'):SM w' g q p a v:=⟨h.src.below hb h.src.lt,h.gen.below hb h.gen.lt⟩
theorem SM.drew {w:World} {g q:Nat} {p:Pl} {a:Int} {v:Value} (h:SM w g q p a v):SM w.drew g q p a v:=h.below ((Below.refl _ _).drew)
theorem SM.step {w:World} {g q:Nat} {p:Pl} {a:Int} {v:Value} (h:SM w g q p a v) (b:Int):SM (w.setCell ⟨q,0,none⟩ (.int .u64 b)) g q p b v :=
 ⟨((OnlyG.refl q w).set 0 _).blk h.src h.ne,h.gen.set_ 0 _⟩
theorem below_src {w:World} {g q:Nat} {p:Pl} {a:Int} {v:Value} (h:SM w g q p a v) (n:Int) (n0:-9223372036854775808≤n) (n1:n<9223372036854775808) :
  Calls Try.prog 22 #[.pointer (some ⟨g,0,none⟩),.int .i64 n] w fun o w'=>o=.returned (.int .i64 (below (gNum a 0) n))∧SM w' g q p (gAdv a) v∧OnlyG q w w':=by
 have c0:w.cell? ⟨g,0,none⟩=some (.pointer (some ⟨q,0,none⟩)):=h.src.cell 0
 have ca:=h.gen.cell 0
 have cf:=h.gen.frozen 0
 have HN:=Lib.hid (next_any q a w ca cf)
 have hi:=gNum_in a 0
 have HB:=Lib.hid (fun V=>below_any (gNum a 0) n hi.1 hi.2 n0 n1 V)
 have HS:=Lib.hid (h.step (gAdv a))
 have HO:=Lib.hid ((OnlyG.refl q w).set 0 (.int .u64 (gAdv a)))
 clear ca cf hi n0 n1 h
 go_enter Try.func22,Try.ntmps22
 go_wp2_with fail
 refine HN.out.mono ?_
 rintro o w' ⟨rfl,rfl⟩
 go_wp2_with fail
 refine (HB.out _).mono ?_
 rintro o w' ⟨rfl,rfl⟩
 go_wp2_with fail
 go_ret
 exact ⟨rfl,HS.out,HO.out⟩
theorem v6_any (h l:Int) (w:World):Calls Try.prog 35 #[.int .u64 h,.int .u64 l] w fun o w'=>o=.returned (.agg #[.bool true,.int .u64 h,.int .u64 l])∧Below w.heap.size w w':=by
 go_enter Try.func35,Try.ntmps35
 go_wp2_with fail
 exact bodyPost_ret (v:=.agg #[.bool true,.int .u64 h,.int .u64 l]) (by simp [results,Try.results35,go_sem]) rfl ⟨rfl,(Below.refl _ _).alloc (Nat.le_refl _) _⟩
theorem client_any (v6:Bool) (n:Int) (n0:0≤n) (n1:n<65536) (w:World):Calls Try.prog 21 #[.bool v6,.int .i64 n] w fun o w'=>o=.returned (.agg #[.bool v6,.int .u64 (if v6=true then 2306139568115548160 else 0),.int .u64 (if v6=true then n+1 else 167772161+n)])∧Below w.heap.size w w':=by
 have u1:IntKind.u64.wrap n=n:=by rw [IntKind.wrap_u64]; omega
 have u2:IntKind.u64.wrap (1+n)=n+1:=by rw [IntKind.wrap_u64]; omega
 have u3:IntKind.u32.wrap n=n:=by rw [IntKind.wrap_u32]; omega
 obtain ⟨m,hm⟩:∃ m,m=167772161+n:=⟨_,rfl⟩
 have u4:IntKind.u32.wrap (167772161+n)=m:=by rw [IntKind.wrap_u32]; omega
 have H6:=Lib.hid (fun V=>v6_any 2306139568115548160 (n+1) V)
 have H4:=Lib.hid (fun V=>fourA.v4_any m (by omega) (by omega) V)
 have HM:=Lib.hid hm
 have B1:=Lib.hid (show Below w.heap.size w (w.alloc (.cells #[.bool false,.int .u64 0,.int .u64 0] 24)) from (Below.refl _ _).alloc (Nat.le_refl _) _)
 have K1:=Lib.hid (Blk.new w 24 #[.bool false,.int .u64 0,.int .u64 0])
 clear hm n0 n1
 cases v6 with
 | true =>
  go_enter Try.func21,Try.ntmps21
  go_wp2_with fail
  refine (H6.out _).mono ?_
  rintro o w2 ⟨rfl,hb2⟩
  have B2:=Lib.hid (B1.out.trans (hb2.mono B1.out.size))
  have K2:=K1.out.below hb2 K1.out.lt
  have K3:=Lib.hid (show Blk (((w2.setCell ⟨w.heap.size,0,none⟩ (.bool true)).setCell ⟨w.heap.size,1,none⟩ (.int .u64 2306139568115548160)).setCell ⟨w.heap.size,2,none⟩ (.int .u64 (n+1))) w.heap.size 24 #[.bool true,.int .u64 2306139568115548160,.int .u64 (n+1)] from by
   have h1:=K2.set_ 0 (.bool true)
   have h2:=h1.set_ 1 (.int .u64 2306139568115548160)
   exact h2.set_ 2 (.int .u64 (n+1)))
  have c0:=K2.cell 0
  have c1:=K2.cell 1
  have c2:=K2.cell 2
  have f0:=K2.frozen 0
  have f1:=K2.frozen 1
  have f2:=K2.frozen 2
  clear hb2 K2
  go_wp2_with fail
  refine bodyPost_ret (v:=.agg #[.bool true,.int .u64 2306139568115548160,.int .u64 (n+1)]) (results_cell_row rfl _ _ w.heap.size 24 #[.bool true,.int .u64 2306139568115548160,.int .u64 (n+1)] (0,0) _ rfl K3.out Try.underlying24 rfl (by kernel_rfl)) rfl ?_
  exact ⟨rfl,((B2.out.setCell (p:=⟨w.heap.size,0,none⟩) (Nat.le_refl _) _).setCell (p:=⟨w.heap.size,1,none⟩) (Nat.le_refl _) _).setCell (p:=⟨w.heap.size,2,none⟩) (Nat.le_refl _) _⟩
 | false =>
  go_enter Try.func21,Try.ntmps21
  go_wp2_with fail
  refine (H4.out _).mono ?_
  rintro o w2 ⟨rfl,hb2⟩
  have B2:=Lib.hid (B1.out.trans (hb2.mono B1.out.size))
  have K2:=K1.out.below hb2 K1.out.lt
  have K3:=Lib.hid (show Blk (((w2.setCell ⟨w.heap.size,0,none⟩ (.bool false)).setCell ⟨w.heap.size,1,none⟩ (.int .u64 0)).setCell ⟨w.heap.size,2,none⟩ (.int .u64 m)) w.heap.size 24 #[.bool false,.int .u64 0,.int .u64 m] from by
   have h1:=K2.set_ 0 (.bool false)
   have h2:=h1.set_ 1 (.int .u64 0)
   exact h2.set_ 2 (.int .u64 m))
  have c0:=K2.cell 0
  have c1:=K2.cell 1
  have c2:=K2.cell 2
  have f0:=K2.frozen 0
  have f1:=K2.frozen 1
  have f2:=K2.frozen 2
  clear hb2 K2
  go_wp2_with fail
  refine bodyPost_ret (v:=.agg #[.bool false,.int .u64 0,.int .u64 m]) (results_cell_row rfl _ _ w.heap.size 24 #[.bool false,.int .u64 0,.int .u64 m] (0,0) _ rfl K3.out Try.underlying24 rfl (by kernel_rfl)) rfl ?_
  exact ⟨by rw [HM.out],((B2.out.setCell (p:=⟨w.heap.size,0,none⟩) (Nat.le_refl _) _).setCell (p:=⟨w.heap.size,1,none⟩) (Nat.le_refl _) _).setCell (p:=⟨w.heap.size,2,none⟩) (Nat.le_refl _) _⟩
end Go.Proofs.Ytnofddbfogilaaa.genB
/- Layer 35: flows that are open, in memory. -/
namespace Go.Proofs.Ytnofddbfogilaaa.genC
open Go.ChangeShapes Go.WideShapes Go.ChangeAt Go.RowKit
open base pktC
set_option linter.unusedVariables false
set_option linter.unusedSimpArgs false
theorem addk (g o j:Nat):(⟨g,o,none⟩:Addr).add j=⟨g,o+j,none⟩:=by unfold Addr.add; split <;> simp_all
theorem add0 (g j:Nat):(⟨g,0,none⟩:Addr).add j=⟨g,j,none⟩:=by rw [addk,Nat.zero_add]
theorem cells9 (t:Tp):t.cells.toList.length=9:=rfl
def flatT:List Tp→List Value
 | []=>[]
 | t::l=>t.cells.toList++flatT l
theorem flatT_len:∀ l:List Tp,(flatT l).length=l.length*9
 | []=>rfl
 | t::l=>by
  show (t.cells.toList++flatT l).length=(l.length+1)*9
  rw [List.length_append,flatT_len l,cells9]
  omega
theorem flatT_app:∀ a b:List Tp,flatT (a++b)=flatT a++flatT b
 | [],b=>rfl
 | t::a,b=>by
  show t.cells.toList++flatT (a++b)=(t.cells.toList++flatT a)++flatT b
  rw [flatT_app a b,List.append_assoc]
theorem flatT_one (t:Tp):flatT [t]=t.cells.toList:=List.append_nil _
theorem flatT_get:∀ (l:List Tp) (i j:Nat),i<l.length→j<9→(flatT l)[i*9+j]?=(l.getD i zeroT).cells[j]?
 | [],i,j,h,_=>absurd h (Nat.not_lt_zero i)
 | t::l,0,j,_,hj=>by
  show (t.cells.toList++flatT l)[0*9+j]?=_
  rw [List.getElem?_append_left (by rw [cells9]; omega),Nat.zero_mul,Nat.zero_add]
  simp
 | t::l,i+1,j,h,hj=>by
  show (t.cells.toList++flatT l)[(i+1)*9+j]?=_
  rw [List.getElem?_append_right (by rw [cells9]; omega),cells9,show (i+1)*9+j - 9=i*9+j by omega,flatT_get l i j (by simpa using h) hj]
  simp
theorem flatT_take:∀ (l:List Tp) (k:Nat),(flatT l).take (k*9)=flatT (l.take k)
 | [],k=>by simp [flatT]
 | t::l,0=>by simp [flatT]
 | t::l,k+1=>by
  show (t.cells.toList++flatT l).take ((k+1)*9)=t.cells.toList++flatT (l.take k)
  rw [List.take_append,List.take_of_length_le (by rw [cells9]; omega),cells9,show (k+1)*9 - 9=k*9 by omega,flatT_take l k]
theorem flatT_drop:∀ (l:List Tp) (k:Nat),(flatT l).drop (k*9)=flatT (l.drop k)
 | [],k=>by simp [flatT]
 | t::l,0=>by simp [flatT]
 | t::l,k+1=>by
  show (t.cells.toList++flatT l).drop ((k+1)*9)=flatT (l.drop k)
  rw [List.drop_append,List.drop_of_length_le (by rw [cells9]; omega),cells9,show (k+1)*9 - 9=k*9 by omega,flatT_drop l k,List.nil_append]
theorem flatT_one':∀ (l:List Tp),∀ u ∈ flatT l,u.oneCell'=true
 | [],u,h=>by cases h
 | t::l,u,h=>by
  rcases List.mem_append.1 h with h | h
  ·simp only [Tp.cells,List.mem_cons,List.not_mem_nil,or_false] at h
   rcases h with rfl | rfl | rfl | rfl | rfl | rfl | rfl | rfl | rfl <;> rfl
  ·exact flatT_one' l u h
def OwT (w:World) (B:Nat) (v:Value) (l:List Tp):Prop :=
 w.ownsRow B 39 9 v l.length (flatT l)∨∃ g cur,v=.slice (some ⟨g,0,none⟩) l.length l.length∧B≤g∧w.heap[g]?=some (.cells cur 39 (0,0))∧l.length≤maxLen∧cur.toList.take (l.length*9)=flatT l
theorem OwT.nil_ (w:World) (B:Nat):OwT w B (.slice none 0 0) []:=.inl (World.ownsRow_nil w B _ 9)
theorem OwT.form {w:World} {B:Nat} {v:Value} {l:List Tp} (h:OwT w B v l):(v=.slice none 0 0∧l=[])∨∃ g c cur,v=.slice (some ⟨g,0,none⟩) l.length c∧l.length≤c∧c≤maxLen∧B≤g∧w.heap[g]?=some (.cells cur 39 (0,0))∧cur.toList.take (l.length*9)=flatT l:=by
 rcases h with h | ⟨g,cur,h1,h2,h3,h4,h5⟩
 ·rcases h.2 with ⟨h1,h2⟩ | ⟨g,cap,cur,h1,h2,h3,h4,h5,h6,h7⟩
  ·exact .inl ⟨h1,List.length_eq_zero_iff.1 h2⟩
  ·exact .inr ⟨g,cap,cur,h1,h4,h5,h2,h3,h7⟩
 ·exact .inr ⟨g,l.length,cur,h1,Nat.le_refl _,h4,h2,h3,h5⟩
theorem OwT.lt {w:World} {B:Nat} {v:Value} {l:List Tp} (h:OwT w B v l):∀ x,v.ownBlock=some x→B≤x∧x<w.heap.size:=by
 intro x hx
 rcases h.form with ⟨rfl,_⟩ | ⟨g,c,cur,rfl,_,_,hB,hg,_⟩
 ·simp [Value.ownBlock] at hx
 ·simp [Value.ownBlock] at hx
  subst hx
  exact ⟨hB,(Array.getElem?_eq_some_iff.1 hg).1⟩
theorem OwT.keep {w w':World} {B:Nat} {v:Value} {l:List Tp} (h:OwT w B v l) (hk:∀ x,v.ownBlock=some x→w'.heap[x]?=w.heap[x]?):OwT w' B v l:=by
 rcases h with h | ⟨g,cur,rfl,h2,h3,h4,h5⟩
 ·refine .inl ⟨h.1,?_⟩
  rcases h.2 with h1 | ⟨g,cap,cur,rfl,h2,h3,h4⟩
  ·exact .inl h1
  ·exact .inr ⟨g,cap,cur,rfl,h2,(hk g rfl).trans h3,h4⟩
 ·exact .inr ⟨g,cur,rfl,h2,(hk g rfl).trans h3,h4,h5⟩
theorem OwT.below {w w':World} {B:Nat} {v:Value} {l:List Tp} (h:OwT w B v l) (hb:Below w.heap.size w w'):OwT w' B v l:=h.keep fun x hx=>hb.block x (h.lt x hx).2
theorem OwT.slice {w:World} {B:Nat} {v:Value} {l:List Tp} (h:OwT w B v l):∃ A c,v=.slice A l.length c∧l.length≤c∧c≤maxLen:=by
 rcases h.form with ⟨rfl,rfl⟩ | ⟨g,c,cur,rfl,h1,h2,_⟩
 ·exact ⟨none,0,rfl,Nat.le_refl _,by decide⟩
 ·exact ⟨_,c,rfl,h1,h2⟩
theorem cell_flat {w:World} {g:Nat} {cur:Array Value} {l:List Tp} (hg:w.heap[g]?=some (.cells cur 39 (0,0))) (ht:cur.toList.take (l.length*9)=flatT l) (i:Nat) (u:Value) (hu:(flatT l)[i]?=some u):w.cell? ⟨g,i,none⟩=some u:=by
 rw [cell_of_row w g i cur _ (0,0) hg]
 rw [← ht,List.getElem?_take] at hu
 split at hu
 ·simpa using hu
 ·cases hu
theorem OwT.cell {w:World} {B:Nat} {v:Value} {l:List Tp} (h:OwT w B v l) (i:Nat) (hi:i<l.length):∃ g c,v=.slice (some ⟨g,0,none⟩) l.length c∧l.length≤c∧∀ j,j<9→w.cell? ⟨g,i*9+j,none⟩=(l.getD i zeroT).cells[j]?:=by
 rcases h.form with ⟨_,rfl⟩ | ⟨g,c,cur,rfl,h1,h2,h3,h4,h5⟩
 ·exact absurd hi (Nat.not_lt_zero i)
 ·refine ⟨g,c,rfl,h1,fun j hj=>?_⟩
  have hj9:j<(l.getD i zeroT).cells.size:=hj
  rw [Array.getElem?_eq_getElem hj9]
  exact cell_flat h4 h5 _ _ (by rw [flatT_get l i j hi hj,Array.getElem?_eq_getElem hj9])
theorem info_t:(Try.prog.info? 39).map (fun i=>(i.zero,i.size,i.bytes))=some (some (.agg zeroT.cells),9,72):=by kernel_rfl
theorem und_t:Try.prog.underlying 35=some (.slice 39):=by kernel_rfl
theorem app_one (w:World) (B:Nat) (v:Value) (l:List Tp) (hown:OwT w B v l) (f:Tp) (ad:Addr) (c:Nat) (hnews:∀ j u,f.cells.toList[j]?=some u→w.cell? (ad.add j)=some u) (hn:l.length≤100000) (hB:B≤w.heap.size) (ty:TypeId) :
  ∃ v' w',(Builtin.append_ #[35,35] ty #[v,.slice (some ad) 1 c]).run Try.prog w=.ok v' w'∧OwT w' B v' (l++[f])∧w.grownBy w' v.ownBlock∧(∀ g,v'.ownBlock=some g→v.ownBlock=some g∨w.heap.size≤g):=by
 obtain ⟨i,hi,hz,hsize,hby⟩:=info_parts info_t
 have h1:∀ u ∈ f.cells.toList,u.oneCell'=true:=fun u hu=>flatT_one' [f] u (by rw [flatT_one]; exact hu)
 have hfl:flatT (l++[f])=flatT l++f.cells.toList:=by rw [flatT_app,flatT_one]
 have hll:(l++[f]).length=l.length+1:=by rw [List.length_append]; rfl
 have hbytes:(l.length+1)*72≤140737488355328:=by omega
 have h63:l.length+1≤maxLen:=by unfold maxLen; omega
 have up:∀ {v':Value} {w':World},w'.ownsRow w.heap.size 39 9 v' (l.length+1) (flatT l++f.cells.toList)→OwT w' B v' (l++[f]):=fun {v' w'} ho=>by
  refine .inl ?_
  rw [hfl,hll]
  refine ⟨ho.1,?_⟩
  rcases ho.2 with h0 | ⟨g,cap,cur,h1,h2,h3⟩
  ·exact .inl h0
  ·exact .inr ⟨g,cap,cur,h1,Nat.le_trans hB h2,h3⟩
 rcases hown.form with ⟨h0,rfl⟩ | ⟨g,c0,cur,hv,hn2,hm,hBg,hgc,htk⟩
 ·subst h0
  obtain ⟨v',w',h2,h3,h4,_⟩:=run_append_own (P:=Try.prog) (w:=w) w.heap.size 35 ty 39 i _ 9 72 und_t hi hz hsize hby rfl (by omega) (.slice none 0 0) 0 [] (World.ownsRow_nil w _ _ 9) ad 1 c f.cells.toList rfl hnews h1 h63 hbytes (Nat.le_refl _)
  exact ⟨v',w',h2,up h3,h4,fun g e=>.inr (h3.lt g e).1⟩
 ·by_cases hr:l.length+1≤c0
  ·have hown2:w.ownsRow B 39 9 v l.length (flatT l):=by
    rcases hown with h2 | ⟨g2,cur2,h2,_⟩
    ·exact h2
    ·rw [hv] at h2
     injection h2 with _ _ h2
     omega
   subst hv
   obtain ⟨w',h2,h3,h4⟩:=run_append_fits (P:=Try.prog) w B 35 ty 39 i 9 und_t hi hsize g l.length c0 (flatT l) hown2 ad 1 c f.cells.toList rfl hnews h1 hr
   exact ⟨_,w',h2,.inl (by rw [hfl,hll]; exact h3),h4,fun g2 e2=>.inl e2⟩
  ·subst hv
   obtain ⟨v',w',h2,h3,h4⟩:=run_append_arg_grows (P:=Try.prog) w 35 ty 39 i _ 9 72 und_t hi hz hsize hby rfl (by omega) ⟨g,0,none⟩ l.length c0 (flatT l) (flatT_len l) (fun j u hu=>by rw [add0]; exact cell_flat hgc htk j u hu) ad 1 c f.cells.toList rfl hnews (by omega) h63 hbytes
   exact ⟨v',w',h2,up h3,⟨h4.os,h4.tape,h4.output,h4.size,fun k hk _=>h4.block k hk (by simp)⟩,fun x e=>.inr (h3.lt x e).1⟩
theorem app_cut (w:World) (B g:Nat) (cur:Array Value) (l:List Tp) (k:Nat) (hk:k+1<l.length) (hg:w.heap[g]?=some (.cells cur 39 (0,0))) (ht2:cur.toList.take (l.length*9)=flatT l)
  (m c:Nat) (hm:m=l.length - (k+1)) (o9:Nat) (ho9:o9=(k+1)*9) (hn:l.length≤100000) (hB:B≤w.heap.size) (ty:TypeId) :
  ∃ v' w',(Builtin.append_ #[35,35] ty #[.slice (some ⟨g,0,none⟩) k k,.slice (some ⟨g,o9,none⟩) m c]).run Try.prog w=.ok v' w'∧OwT w' B v' (l.eraseIdx k)∧w.grownBy w' none∧(∀ g,v'.ownBlock=some g→w.heap.size≤g):=by
 subst hm ho9
 obtain ⟨i,hi,hz,hsize,hby⟩:=info_parts info_t
 have he:l.eraseIdx k=l.take k++l.drop (k+1):=List.eraseIdx_eq_take_drop_succ ..
 have hel:(l.eraseIdx k).length=k+(l.length - (k+1)):=by rw [he,List.length_append,List.length_take,List.length_drop]; omega
 have hfe:flatT (l.eraseIdx k)=flatT (l.take k)++flatT (l.drop (k+1)):=by rw [he,flatT_app]
 have hct:∀ (j:Nat) (u:Value),(flatT (l.take k))[j]?=some u→w.cell? ⟨g,j,none⟩=some u:=fun j u hu=>by
  refine cell_flat hg ht2 j u ?_
  rw [← flatT_take,List.getElem?_take] at hu
  split at hu
  ·exact hu
  ·cases hu
 have hcd:∀ (j:Nat) (u:Value),(flatT (l.drop (k+1)))[j]?=some u→w.cell? ⟨g,(k+1)*9+j,none⟩=some u:=fun j u hu=>by
  refine cell_flat hg ht2 _ u ?_
  rw [← flatT_drop,List.getElem?_drop] at hu
  exact hu
 obtain ⟨v',w',h2,h3,h4⟩:=run_append_arg_grows (P:=Try.prog) w 35 ty 39 i _ 9 72 und_t hi hz hsize hby rfl (by omega) ⟨g,0,none⟩ k k (flatT (l.take k)) (by rw [flatT_len,List.length_take]; omega) (fun j u hu=>by rw [add0]; exact hct j u hu) ⟨g,(k+1)*9,none⟩ (l.length - (k+1)) c (flatT (l.drop (k+1))) (by rw [flatT_len,List.length_drop]) (fun j u hu=>by rw [addk]; exact hcd j u hu) (by omega) (by unfold maxLen; omega) (by omega)
 refine ⟨v',w',h2,.inl ?_,h4,fun x e=>(h3.lt x e).1⟩
 rw [hfe,hel]
 refine ⟨h3.1,?_⟩
 rcases h3.2 with h0 | ⟨g3,cap,cur3,h1,h2,h3⟩
 ·exact .inl h0
 ·exact .inr ⟨g3,cap,cur3,h1,Nat.le_trans hB h2,h3⟩
theorem cut_last {w:World} {B:Nat} {v:Value} {l:List Tp} (h:OwT w B v l) (k:Nat) (hk:k+1=l.length) (g c:Nat) (hv:v=.slice (some ⟨g,0,none⟩) l.length c):OwT w B (.slice (some ⟨g,0,none⟩) k k) (l.eraseIdx k):=by
 have he:l.eraseIdx k=l.take k:=by
  rw [List.eraseIdx_eq_take_drop_succ,List.drop_of_length_le (by omega),List.append_nil]
 have hel:(l.take k).length=k:=by rw [List.length_take]; omega
 rw [he]
 rcases h.form with ⟨h1,rfl⟩ | ⟨g2,c2,cur,h1,h2,h3,h4,h5,h6⟩
 ·simp at hk
 ·rw [hv] at h1
  injection h1 with h1
  injection h1 with h1
  injection h1 with h1
  subst h1
  refine .inr ⟨g,cur,by rw [hel],h4,h5,by rw [hel]; omega,?_⟩
  rw [hel,← flatT_take,← h6,List.take_take]
  congr 1
  omega
end Go.Proofs.Ytnofddbfogilaaa.genC
