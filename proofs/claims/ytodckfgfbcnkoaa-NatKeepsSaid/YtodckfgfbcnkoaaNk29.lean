/- 1 texts in one. -/
import Derived.Deep.DeepCutAuto
import Derived.Deep.RegionHeld3
import Derived.Test.YtodckfgfbcnkoaaNk22
import Derived.Test.YtodckfgfbcnkoaaNk28
set_option linter.unusedVariables false
set_option linter.unusedSimpArgs false
open Go.ChangeShapes Go.WideShapes Go.ChangeAt Go.RowKit
/- Layer 15: a packet with another side. -/
namespace Go.Proofs.Ytodckfgfbcnkoaa.natC
set_option maxHeartbeats 4000000
set_option maxRecDepth 100000
open base octA rdrA rdrG sixM pktA pktB pktC pktD pktE sixE  natW sumE natA pktL
theorem own_type {w:World} {B:Nat} {v:Value} {n:Nat} {xs:List Value} {g:Nat} {cs:Array Value} (h:w.ownsRow B 97 1 v n xs) (hg:Blk w g 5 cs):∀ k,v.ownBlock=some k→k≠g:=by
 intro k hk e
 rcases h.2 with ⟨rfl,_⟩ | ⟨q,cap,cur,rfl,_,hq,_⟩
 ·cases hk
 ·have:q=k:=by injection hk
  subst this
  subst e
  rw [show w.heap[q]?=some (.cells cs 5 (0,0)) from hg] at hq
  injection hq with hq
  injection hq with _ h2
  revert h2
  decide
theorem own_E {w w':World} {B:Nat} {v:Value} {n:Nat} {xs:List Value} {g:Nat} {cs:Array Value} (h:w.ownsRow B 97 1 v n xs) (hg:Blk w g 5 cs) (o:OnE g w w'):w'.ownsRow B 97 1 v n xs:=by
 have ht:=own_type h hg
 refine ⟨h.1,?_⟩
 rcases h.2 with e | ⟨q,cap,cur,rfl,hb,hq,rest⟩
 ·exact .inl e
 ·have hlt:q<w.heap.size:=by
   rcases Nat.lt_or_ge q w.heap.size with k | k
   ·exact k
   ·rw [Array.getElem?_eq_none k] at hq
    cases hq
  exact .inr ⟨q,cap,cur,rfl,hb,(o.els q hlt (ht q rfl)).trans hq,rest⟩
theorem Wd_own {w:World} {B:Nat} {A:Option Addr} {n c:Nat} {l:List Int} {g:Nat} {cs:Array Value} (h:w.ownsRow B 97 1 (.slice A n c) n (l.map (.int .u16))) (hl:l.length=n) (hw:W16 l) (hg:Blk w g 5 cs):Wd w g A n c l:=by
 refine ⟨hl,own_row h,hw,fun b off hA=>?_⟩
 subst hA
 exact own_type h hg b rfl
theorem OnE_grown {w w':World} {B:Nat} {v:Value} {n:Nat} {xs:List Value} {g:Nat} {cs:Array Value} (h:w.ownsRow B 97 1 v n xs) (hg:Blk w g 5 cs) (hk:w.grownBy w' v.ownBlock):Blk w' g 5 cs:=hg.grown hk (by
 intro e
 exact own_type h hg g e.symm rfl)
theorem words1 (n:Int) (h0:0≤n) (h9:n≤65535):words n 1 1=[n]:=by
 show [n / 1 % 65536]=[n]
 simp only [List.cons.injEq,and_true]
 omega
theorem turn_E (A:Option Addr) (n c:Nat) (s:Int) (t6:Bool) (th tl port:Int) (v6:Bool) (pr:Int) (s6:Bool) (sh sl:Int) (d6:Bool) (dh dl sp dp ttl fl:Int) (er:Bool) (apr:Int) (as6:Bool) (ash asl:Int) (ad6:Bool) (adh adl asp adp sz:Int) (e:Int) (he:e≠0) (w:World)
  (HP:Hid (∀ V,Below w.heap.size w V→Calls Try.prog 14 #[.slice A n c] V fun o w'=>o=.returned (.tuple #[.agg #[.bool v6,.int .i64 pr,.bool s6,.int .u64 sh,.int .u64 sl,.bool d6,.int .u64 dh,.int .u64 dl,.int .i64 sp,.int .i64 dp,.int .i64 ttl,.int .i64 fl,.bool er,.int .i64 apr,.bool as6,.int .u64 ash,.int .u64 asl,.bool ad6,.int .u64 adh,.int .u64 adl,.int .i64 asp,.int .i64 adp,.int .i64 sz],.int .i64 e])∧Below V.heap.size V w')) :
  Calls Try.prog 22 #[.slice A n c,.int .i64 s,.agg #[.bool t6,.int .u64 th,.int .u64 tl],.int .i64 port] w (MkP e [] w):=by
 have te:(e != 0)=true:=by simpa using he
 clear he
 obtain ⟨Y,hY⟩:∃ Y:Array Value,Y=#[.bool v6,.int .i64 pr,.bool s6,.int .u64 sh,.int .u64 sl,.bool d6,.int .u64 dh,.int .u64 dl,.int .i64 sp,.int .i64 dp,.int .i64 ttl,.int .i64 fl,.bool er,.int .i64 apr,.bool as6,.int .u64 ash,.int .u64 asl,.bool ad6,.int .u64 adh,.int .u64 adl,.int .i64 asp,.int .i64 adp,.int .i64 sz]:=⟨_,rfl⟩
 have ys:Y.size=23:=by rw [hY]; rfl
 have ONE:=Lib.hid (show Y.all (·.oneCell')=true from by rw [hY]; simp [Value.oneCell'])
 have HIY:=Lib.hid (show (Try.prog.info? 36).map (·.size)=some Y.size from by rw [ys]; exact pk_size)
 have ZY:=Lib.hid (show (#[.bool false,.int .i64 0,.bool false,.int .u64 0,.int .u64 0,.bool false,.int .u64 0,.int .u64 0,.int .i64 0,.int .i64 0,.int .i64 0,.int .i64 0,.bool false,.int .i64 0,.bool false,.int .u64 0,.int .u64 0,.bool false,.int .u64 0,.int .u64 0,.int .i64 0,.int .i64 0,.int .i64 0]:Array Value).size=Y.size from by rw [ys]; rfl)
 rw [← hY] at HP
 have HY:=Lib.hid hY
 clear hY ys
 obtain ⟨w1,hw1⟩:∃ w1,w1=w.alloc (.cells #[.bool t6,.int .u64 th,.int .u64 tl] 32):=⟨_,rfl⟩
 obtain ⟨p,hp⟩:∃ p,p=w.heap.size:=⟨_,rfl⟩
 have E1:=Lib.hid hw1
 have EP:=Lib.hid hp
 have B1:=Lib.hid (show Below w.heap.size w w1 from by rw [hw1]; exact (Below.refl _ _).alloc (Nat.le_refl _) _)
 have KT1:=Lib.hid (show Blk w1 p 32 #[.bool t6,.int .u64 th,.int .u64 tl] from by rw [hw1,hp]; exact Blk.new w _ _)
 clear hw1 hp
 go_enter Try.func22,Try.ntmps22
 go_upto_region 1 with fail
 rw [← E1.out,← EP.out]
 go_wp2_with fail
 refine (HP.out _ B1.out).mono ?_
 rintro o w2 ⟨rfl,hb2⟩
 obtain ⟨w3,hw3⟩:∃ w3,w3=(w2.alloc (.cells #[.bool false,.int .i64 0,.bool false,.int .u64 0,.int .u64 0,.bool false,.int .u64 0,.int .u64 0,.int .i64 0,.int .i64 0,.int .i64 0,.int .i64 0,.bool false,.int .i64 0,.bool false,.int .u64 0,.int .u64 0,.bool false,.int .u64 0,.int .u64 0,.int .i64 0,.int .i64 0,.int .i64 0] 36)).setRow w2.heap.size Y:=⟨_,rfl⟩
 obtain ⟨g,hg⟩:∃ g,g=w2.heap.size:=⟨_,rfl⟩
 have E3:=Lib.hid hw3
 have EG:=Lib.hid hg
 have KP3:=Lib.hid (show Blk w3 g 36 Y from by rw [hw3,hg]; exact blkRow (Blk.new w2 _ _) _)
 have B23:=Lib.hid (show Below w2.heap.size w2 w3 from by rw [hw3]; exact (onlyRow _).from ((Below.refl _ _).alloc (Nat.le_refl _) _) (Nat.le_refl _))
 have B13:=Lib.hid (hb2.trans (B23.out.mono hb2.size))
 have KT3:=Lib.hid (KT1.out.below B13.out KT1.out.lt)
 have B3:=Lib.hid (B1.out.trans (B13.out.mono B1.out.size))
 clear hw3 hg hb2
 go_upto_region 2 with (refine wpList_store_row rfl 36 _ _ rfl w2.heap.size Y rfl rfl 36 #[.bool false,.int .i64 0,.bool false,.int .u64 0,.int .u64 0,.bool false,.int .u64 0,.int .u64 0,.int .i64 0,.int .i64 0,.int .i64 0,.int .i64 0,.bool false,.int .i64 0,.bool false,.int .u64 0,.int .u64 0,.bool false,.int .u64 0,.int .u64 0,.int .i64 0,.int .i64 0,.int .i64 0] (Blk.new w2 _ _) HIY.out ZY.out ONE.out ?_)
 rw [← E3.out,← EG.out]
 go_wp2_with fail
 go_ret2
 exact MkP.nil_ B3.out
theorem turn_G (A:Option Addr) (n c:Nat) (s:Int) (t6:Bool) (th tl port:Int) (v6:Bool) (pr:Int) (s6:Bool) (sh sl:Int) (d6:Bool) (dh dl sp dp ttl fl:Int) (er:Bool) (apr:Int) (as6:Bool) (ash asl:Int) (ad6:Bool) (adh adl asp adp sz:Int) (harg:(s≠0∧s≠1)∨port<0∨65535<port∨er=true) (w:World)
  (HP:Hid (∀ V,Below w.heap.size w V→Calls Try.prog 14 #[.slice A n c] V fun o w'=>o=.returned (.tuple #[.agg #[.bool v6,.int .i64 pr,.bool s6,.int .u64 sh,.int .u64 sl,.bool d6,.int .u64 dh,.int .u64 dl,.int .i64 sp,.int .i64 dp,.int .i64 ttl,.int .i64 fl,.bool er,.int .i64 apr,.bool as6,.int .u64 ash,.int .u64 asl,.bool ad6,.int .u64 adh,.int .u64 adl,.int .i64 asp,.int .i64 adp,.int .i64 sz],.int .i64 0])∧Below V.heap.size V w')) :
  Calls Try.prog 22 #[.slice A n c,.int .i64 s,.agg #[.bool t6,.int .u64 th,.int .u64 tl],.int .i64 port] w (MkP 1 [] w):=by
 obtain ⟨Y,hY⟩:∃ Y:Array Value,Y=#[.bool v6,.int .i64 pr,.bool s6,.int .u64 sh,.int .u64 sl,.bool d6,.int .u64 dh,.int .u64 dl,.int .i64 sp,.int .i64 dp,.int .i64 ttl,.int .i64 fl,.bool er,.int .i64 apr,.bool as6,.int .u64 ash,.int .u64 asl,.bool ad6,.int .u64 adh,.int .u64 adl,.int .i64 asp,.int .i64 adp,.int .i64 sz]:=⟨_,rfl⟩
 have ys:Y.size=23:=by rw [hY]; rfl
 have ONE:=Lib.hid (show Y.all (·.oneCell')=true from by rw [hY]; simp [Value.oneCell'])
 have HIY:=Lib.hid (show (Try.prog.info? 36).map (·.size)=some Y.size from by rw [ys]; exact pk_size)
 have ZY:=Lib.hid (show (#[.bool false,.int .i64 0,.bool false,.int .u64 0,.int .u64 0,.bool false,.int .u64 0,.int .u64 0,.int .i64 0,.int .i64 0,.int .i64 0,.int .i64 0,.bool false,.int .i64 0,.bool false,.int .u64 0,.int .u64 0,.bool false,.int .u64 0,.int .u64 0,.int .i64 0,.int .i64 0,.int .i64 0]:Array Value).size=Y.size from by rw [ys]; rfl)
 rw [← hY] at HP
 have HY:=Lib.hid hY
 clear hY ys
 obtain ⟨w1,hw1⟩:∃ w1,w1=w.alloc (.cells #[.bool t6,.int .u64 th,.int .u64 tl] 32):=⟨_,rfl⟩
 obtain ⟨p,hp⟩:∃ p,p=w.heap.size:=⟨_,rfl⟩
 have E1:=Lib.hid hw1
 have EP:=Lib.hid hp
 have B1:=Lib.hid (show Below w.heap.size w w1 from by rw [hw1]; exact (Below.refl _ _).alloc (Nat.le_refl _) _)
 have KT1:=Lib.hid (show Blk w1 p 32 #[.bool t6,.int .u64 th,.int .u64 tl] from by rw [hw1,hp]; exact Blk.new w _ _)
 clear hw1 hp
 go_enter Try.func22,Try.ntmps22
 go_upto_region 1 with fail
 rw [← E1.out,← EP.out]
 go_wp2_with fail
 refine (HP.out _ B1.out).mono ?_
 rintro o w2 ⟨rfl,hb2⟩
 obtain ⟨w3,hw3⟩:∃ w3,w3=(w2.alloc (.cells #[.bool false,.int .i64 0,.bool false,.int .u64 0,.int .u64 0,.bool false,.int .u64 0,.int .u64 0,.int .i64 0,.int .i64 0,.int .i64 0,.int .i64 0,.bool false,.int .i64 0,.bool false,.int .u64 0,.int .u64 0,.bool false,.int .u64 0,.int .u64 0,.int .i64 0,.int .i64 0,.int .i64 0] 36)).setRow w2.heap.size Y:=⟨_,rfl⟩
 obtain ⟨g,hg⟩:∃ g,g=w2.heap.size:=⟨_,rfl⟩
 have E3:=Lib.hid hw3
 have EG:=Lib.hid hg
 have KP3:=Lib.hid (show Blk w3 g 36 Y from by rw [hw3,hg]; exact blkRow (Blk.new w2 _ _) _)
 have B23:=Lib.hid (show Below w2.heap.size w2 w3 from by rw [hw3]; exact (onlyRow _).from ((Below.refl _ _).alloc (Nat.le_refl _) _) (Nat.le_refl _))
 have B13:=Lib.hid (hb2.trans (B23.out.mono hb2.size))
 have KT3:=Lib.hid (KT1.out.below B13.out KT1.out.lt)
 have B3:=Lib.hid (B1.out.trans (B13.out.mono B1.out.size))
 clear hw3 hg hb2
 go_upto_region 2 with (refine wpList_store_row rfl 36 _ _ rfl w2.heap.size Y rfl rfl 36 #[.bool false,.int .i64 0,.bool false,.int .u64 0,.int .u64 0,.bool false,.int .u64 0,.int .u64 0,.int .i64 0,.int .i64 0,.int .i64 0,.int .i64 0,.bool false,.int .i64 0,.bool false,.int .u64 0,.int .u64 0,.bool false,.int .u64 0,.int .u64 0,.int .i64 0,.int .i64 0,.int .i64 0] (Blk.new w2 _ _) HIY.out ZY.out ONE.out ?_)
 rw [← E3.out,← EG.out]
 have kp:=KP3.out
 rw [HY.out] at kp
 have c0:=kp.cell 0
 have c12:=kp.cell 12
 clear kp
 by_cases h1:s≠0∧s≠1
 ·have t0:(s != 0)=true:=by simpa using h1.1
  have t1:(s != 1)=true:=by simpa using h1.2
  clear harg h1
  go_wp2_with fail
  go_ret2
  exact MkP.nil_ B3.out
 have hs:s=0∨s=1:=by omega
 go_upto_region 4 with fail
 go_cut [27] (fun v wx=>v=.bool true∧wx=w3)
 case first =>
  by_cases hp0:port<0
  ·have q0:decide (port<0)=true:=decide_eq_true hp0
   rcases hs with h | h
   ·have t0:(s != 0)=false:=by simp [h]
    clear h hp0 harg h1
    go_wp2_with fail
    go_meet
    exact ⟨rfl,rfl⟩
   ·have t0:(s != 0)=true:=by simp [h]
    have t1:(s != 1)=false:=by simp [h]
    clear h hp0 harg h1
    go_wp2_with fail
    go_meet
    exact ⟨rfl,rfl⟩
  ·have q0:decide (port<0)=false:=decide_eq_false hp0
   by_cases hp9:65535<port
   ·have q9:decide (65535<port)=true:=decide_eq_true hp9
    rcases hs with h | h
    ·have t0:(s != 0)=false:=by simp [h]
     clear h hp0 hp9 harg h1
     go_wp2_with fail
     go_meet
     exact ⟨rfl,rfl⟩
    ·have t0:(s != 0)=true:=by simp [h]
     have t1:(s != 1)=false:=by simp [h]
     clear h hp0 hp9 harg h1
     go_wp2_with fail
     go_meet
     exact ⟨rfl,rfl⟩
   ·have q9:decide (65535<port)=false:=decide_eq_false hp9
    have her:er=true:=by
     rcases harg with h | h | h | h
     ·exact absurd h h1
     ·exact absurd h hp0
     ·exact absurd h hp9
     ·exact h
    subst her
    rcases hs with h | h
    ·have t0:(s != 0)=false:=by simp [h]
     clear h hp0 hp9 harg h1
     go_wp2_with fail
     go_meet
     exact ⟨rfl,rfl⟩
    ·have t0:(s != 0)=true:=by simp [h]
     have t1:(s != 1)=false:=by simp [h]
     clear h hp0 hp9 harg h1
     go_wp2_with fail
     go_meet
     exact ⟨rfl,rfl⟩
 case rest =>
 obtain ⟨rfl,hwc⟩:=hcut
 rw [hwc]
 clear hwc
 go_wp2_with fail
 go_ret2
 exact MkP.nil_ B3.out
theorem turn_V (A:Option Addr) (n c:Nat) (s:Int) (t6:Bool) (th tl port:Int) (v6:Bool) (pr:Int) (s6:Bool) (sh sl:Int) (d6:Bool) (dh dl sp dp ttl fl:Int) (apr:Int) (as6:Bool) (ash asl:Int) (ad6:Bool) (adh adl asp adp sz:Int) (hs:s=0∨s=1) (p0:0≤port) (p9:port≤65535) (hv:t6≠v6) (w:World)
  (HP:Hid (∀ V,Below w.heap.size w V→Calls Try.prog 14 #[.slice A n c] V fun o w'=>o=.returned (.tuple #[.agg #[.bool v6,.int .i64 pr,.bool s6,.int .u64 sh,.int .u64 sl,.bool d6,.int .u64 dh,.int .u64 dl,.int .i64 sp,.int .i64 dp,.int .i64 ttl,.int .i64 fl,.bool false,.int .i64 apr,.bool as6,.int .u64 ash,.int .u64 asl,.bool ad6,.int .u64 adh,.int .u64 adl,.int .i64 asp,.int .i64 adp,.int .i64 sz],.int .i64 0])∧Below V.heap.size V w')) :
  Calls Try.prog 22 #[.slice A n c,.int .i64 s,.agg #[.bool t6,.int .u64 th,.int .u64 tl],.int .i64 port] w (MkP 18 [] w):=by
 have HSS:=Lib.hid hs
 have P0:=Lib.hid p0
 have P9:=Lib.hid p9
 clear hs p0 p9
 have tv:(t6 != v6)=true:=by simpa using hv
 have tv2:(t6 == v6)=false:=by simpa using hv
 clear hv
 obtain ⟨Y,hY⟩:∃ Y:Array Value,Y=#[.bool v6,.int .i64 pr,.bool s6,.int .u64 sh,.int .u64 sl,.bool d6,.int .u64 dh,.int .u64 dl,.int .i64 sp,.int .i64 dp,.int .i64 ttl,.int .i64 fl,.bool false,.int .i64 apr,.bool as6,.int .u64 ash,.int .u64 asl,.bool ad6,.int .u64 adh,.int .u64 adl,.int .i64 asp,.int .i64 adp,.int .i64 sz]:=⟨_,rfl⟩
 have ys:Y.size=23:=by rw [hY]; rfl
 have ONE:=Lib.hid (show Y.all (·.oneCell')=true from by rw [hY]; simp [Value.oneCell'])
 have HIY:=Lib.hid (show (Try.prog.info? 36).map (·.size)=some Y.size from by rw [ys]; exact pk_size)
 have ZY:=Lib.hid (show (#[.bool false,.int .i64 0,.bool false,.int .u64 0,.int .u64 0,.bool false,.int .u64 0,.int .u64 0,.int .i64 0,.int .i64 0,.int .i64 0,.int .i64 0,.bool false,.int .i64 0,.bool false,.int .u64 0,.int .u64 0,.bool false,.int .u64 0,.int .u64 0,.int .i64 0,.int .i64 0,.int .i64 0]:Array Value).size=Y.size from by rw [ys]; rfl)
 rw [← hY] at HP
 have HY:=Lib.hid hY
 clear hY ys
 obtain ⟨w1,hw1⟩:∃ w1,w1=w.alloc (.cells #[.bool t6,.int .u64 th,.int .u64 tl] 32):=⟨_,rfl⟩
 obtain ⟨p,hp⟩:∃ p,p=w.heap.size:=⟨_,rfl⟩
 have E1:=Lib.hid hw1
 have EP:=Lib.hid hp
 have B1:=Lib.hid (show Below w.heap.size w w1 from by rw [hw1]; exact (Below.refl _ _).alloc (Nat.le_refl _) _)
 have KT1:=Lib.hid (show Blk w1 p 32 #[.bool t6,.int .u64 th,.int .u64 tl] from by rw [hw1,hp]; exact Blk.new w _ _)
 clear hw1 hp
 go_enter Try.func22,Try.ntmps22
 go_upto_region 1 with fail
 rw [← E1.out,← EP.out]
 go_wp2_with fail
 refine (HP.out _ B1.out).mono ?_
 rintro o w2 ⟨rfl,hb2⟩
 obtain ⟨w3,hw3⟩:∃ w3,w3=(w2.alloc (.cells #[.bool false,.int .i64 0,.bool false,.int .u64 0,.int .u64 0,.bool false,.int .u64 0,.int .u64 0,.int .i64 0,.int .i64 0,.int .i64 0,.int .i64 0,.bool false,.int .i64 0,.bool false,.int .u64 0,.int .u64 0,.bool false,.int .u64 0,.int .u64 0,.int .i64 0,.int .i64 0,.int .i64 0] 36)).setRow w2.heap.size Y:=⟨_,rfl⟩
 obtain ⟨g,hg⟩:∃ g,g=w2.heap.size:=⟨_,rfl⟩
 have E3:=Lib.hid hw3
 have EG:=Lib.hid hg
 have KP3:=Lib.hid (show Blk w3 g 36 Y from by rw [hw3,hg]; exact blkRow (Blk.new w2 _ _) _)
 have B23:=Lib.hid (show Below w2.heap.size w2 w3 from by rw [hw3]; exact (onlyRow _).from ((Below.refl _ _).alloc (Nat.le_refl _) _) (Nat.le_refl _))
 have B13:=Lib.hid (hb2.trans (B23.out.mono hb2.size))
 have KT3:=Lib.hid (KT1.out.below B13.out KT1.out.lt)
 have B3:=Lib.hid (B1.out.trans (B13.out.mono B1.out.size))
 clear hw3 hg hb2
 go_upto_region 2 with (refine wpList_store_row rfl 36 _ _ rfl w2.heap.size Y rfl rfl 36 #[.bool false,.int .i64 0,.bool false,.int .u64 0,.int .u64 0,.bool false,.int .u64 0,.int .u64 0,.int .i64 0,.int .i64 0,.int .i64 0,.int .i64 0,.bool false,.int .i64 0,.bool false,.int .u64 0,.int .u64 0,.bool false,.int .u64 0,.int .u64 0,.int .i64 0,.int .i64 0,.int .i64 0] (Blk.new w2 _ _) HIY.out ZY.out ONE.out ?_)
 rw [← E3.out,← EG.out]
 have kp:=KP3.out
 rw [HY.out] at kp
 have c0:=kp.cell 0
 have c12:=kp.cell 12
 clear kp
 go_upto_region 4 with fail
 go_cut [27] (fun v wx=>v=.bool false∧wx=w3)
 case first =>
  have p0:=P0.out
  have p9:=P9.out
  have q0:decide (port<0)=false:=decide_eq_false (by omega)
  have q9:decide (65535<port)=false:=decide_eq_false (by omega)
  clear p0 p9
  rcases HSS.out with h | h
  ·have t0:(s != 0)=false:=by simp [h]
   clear h
   go_wp2_with fail
   go_meet
   exact ⟨rfl,rfl⟩
  ·have t0:(s != 0)=true:=by simp [h]
   have t1:(s != 1)=false:=by simp [h]
   clear h
   go_wp2_with fail
   go_meet
   exact ⟨rfl,rfl⟩
 case rest =>
 obtain ⟨rfl,hwc⟩:=hcut
 rw [hwc]
 clear hwc
 have x0:=KT3.out.cell 0
 have x1:=KT3.out.cell 1
 have x2:=KT3.out.cell 2
 go_wp2_with fail
 go_ret2
 exact MkP.nil_ B3.out
theorem turn_R (A:Option Addr) (n c:Nat) (s:Int) (t6:Bool) (th tl port:Int) (v6:Bool) (pr:Int) (s6:Bool) (sh sl:Int) (d6:Bool) (dh dl sp dp ttl fl:Int) (apr:Int) (as6:Bool) (ash asl:Int) (ad6:Bool) (adh adl asp adp sz:Int) (hs:s=0∨s=1) (p0:0≤port) (p9:port≤65535) (hv:t6=v6) (w:World)
  (HP:Hid (∀ V,Below w.heap.size w V→Calls Try.prog 14 #[.slice A n c] V fun o w'=>o=.returned (.tuple #[.agg #[.bool v6,.int .i64 pr,.bool s6,.int .u64 sh,.int .u64 sl,.bool d6,.int .u64 dh,.int .u64 dl,.int .i64 sp,.int .i64 dp,.int .i64 ttl,.int .i64 fl,.bool false,.int .i64 apr,.bool as6,.int .u64 ash,.int .u64 asl,.bool ad6,.int .u64 adh,.int .u64 adl,.int .i64 asp,.int .i64 adp,.int .i64 sz],.int .i64 0])∧Below V.heap.size V w'))
  (HRT:Hid (∀ V,Calls Try.prog 16 #[.agg #[.bool t6,.int .u64 th,.int .u64 tl]] V fun o w'=>o=.returned (.bool false)∧Below V.heap.size V w')) :
  Calls Try.prog 22 #[.slice A n c,.int .i64 s,.agg #[.bool t6,.int .u64 th,.int .u64 tl],.int .i64 port] w (MkP 18 [] w):=by
 have HSS:=Lib.hid hs
 have P0:=Lib.hid p0
 have P9:=Lib.hid p9
 clear hs p0 p9
 have tv:(t6 != v6)=false:=by simpa using hv
 have tv2:(t6 == v6)=true:=by simpa using hv
 clear hv
 obtain ⟨Y,hY⟩:∃ Y:Array Value,Y=#[.bool v6,.int .i64 pr,.bool s6,.int .u64 sh,.int .u64 sl,.bool d6,.int .u64 dh,.int .u64 dl,.int .i64 sp,.int .i64 dp,.int .i64 ttl,.int .i64 fl,.bool false,.int .i64 apr,.bool as6,.int .u64 ash,.int .u64 asl,.bool ad6,.int .u64 adh,.int .u64 adl,.int .i64 asp,.int .i64 adp,.int .i64 sz]:=⟨_,rfl⟩
 have ys:Y.size=23:=by rw [hY]; rfl
 have ONE:=Lib.hid (show Y.all (·.oneCell')=true from by rw [hY]; simp [Value.oneCell'])
 have HIY:=Lib.hid (show (Try.prog.info? 36).map (·.size)=some Y.size from by rw [ys]; exact pk_size)
 have ZY:=Lib.hid (show (#[.bool false,.int .i64 0,.bool false,.int .u64 0,.int .u64 0,.bool false,.int .u64 0,.int .u64 0,.int .i64 0,.int .i64 0,.int .i64 0,.int .i64 0,.bool false,.int .i64 0,.bool false,.int .u64 0,.int .u64 0,.bool false,.int .u64 0,.int .u64 0,.int .i64 0,.int .i64 0,.int .i64 0]:Array Value).size=Y.size from by rw [ys]; rfl)
 rw [← hY] at HP
 have HY:=Lib.hid hY
 clear hY ys
 obtain ⟨w1,hw1⟩:∃ w1,w1=w.alloc (.cells #[.bool t6,.int .u64 th,.int .u64 tl] 32):=⟨_,rfl⟩
 obtain ⟨p,hp⟩:∃ p,p=w.heap.size:=⟨_,rfl⟩
 have E1:=Lib.hid hw1
 have EP:=Lib.hid hp
 have B1:=Lib.hid (show Below w.heap.size w w1 from by rw [hw1]; exact (Below.refl _ _).alloc (Nat.le_refl _) _)
 have KT1:=Lib.hid (show Blk w1 p 32 #[.bool t6,.int .u64 th,.int .u64 tl] from by rw [hw1,hp]; exact Blk.new w _ _)
 clear hw1 hp
 go_enter Try.func22,Try.ntmps22
 go_upto_region 1 with fail
 rw [← E1.out,← EP.out]
 go_wp2_with fail
 refine (HP.out _ B1.out).mono ?_
 rintro o w2 ⟨rfl,hb2⟩
 obtain ⟨w3,hw3⟩:∃ w3,w3=(w2.alloc (.cells #[.bool false,.int .i64 0,.bool false,.int .u64 0,.int .u64 0,.bool false,.int .u64 0,.int .u64 0,.int .i64 0,.int .i64 0,.int .i64 0,.int .i64 0,.bool false,.int .i64 0,.bool false,.int .u64 0,.int .u64 0,.bool false,.int .u64 0,.int .u64 0,.int .i64 0,.int .i64 0,.int .i64 0] 36)).setRow w2.heap.size Y:=⟨_,rfl⟩
 obtain ⟨g,hg⟩:∃ g,g=w2.heap.size:=⟨_,rfl⟩
 have E3:=Lib.hid hw3
 have EG:=Lib.hid hg
 have KP3:=Lib.hid (show Blk w3 g 36 Y from by rw [hw3,hg]; exact blkRow (Blk.new w2 _ _) _)
 have B23:=Lib.hid (show Below w2.heap.size w2 w3 from by rw [hw3]; exact (onlyRow _).from ((Below.refl _ _).alloc (Nat.le_refl _) _) (Nat.le_refl _))
 have B13:=Lib.hid (hb2.trans (B23.out.mono hb2.size))
 have KT3:=Lib.hid (KT1.out.below B13.out KT1.out.lt)
 have B3:=Lib.hid (B1.out.trans (B13.out.mono B1.out.size))
 clear hw3 hg hb2
 go_upto_region 2 with (refine wpList_store_row rfl 36 _ _ rfl w2.heap.size Y rfl rfl 36 #[.bool false,.int .i64 0,.bool false,.int .u64 0,.int .u64 0,.bool false,.int .u64 0,.int .u64 0,.int .i64 0,.int .i64 0,.int .i64 0,.int .i64 0,.bool false,.int .i64 0,.bool false,.int .u64 0,.int .u64 0,.bool false,.int .u64 0,.int .u64 0,.int .i64 0,.int .i64 0,.int .i64 0] (Blk.new w2 _ _) HIY.out ZY.out ONE.out ?_)
 rw [← E3.out,← EG.out]
 have kp:=KP3.out
 rw [HY.out] at kp
 have c0:=kp.cell 0
 have c12:=kp.cell 12
 clear kp
 go_upto_region 4 with fail
 go_cut [27] (fun v wx=>v=.bool false∧wx=w3)
 case first =>
  have p0:=P0.out
  have p9:=P9.out
  have q0:decide (port<0)=false:=decide_eq_false (by omega)
  have q9:decide (65535<port)=false:=decide_eq_false (by omega)
  clear p0 p9
  rcases HSS.out with h | h
  ·have t0:(s != 0)=false:=by simp [h]
   clear h
   go_wp2_with fail
   go_meet
   exact ⟨rfl,rfl⟩
  ·have t0:(s != 0)=true:=by simp [h]
   have t1:(s != 1)=false:=by simp [h]
   clear h
   go_wp2_with fail
   go_meet
   exact ⟨rfl,rfl⟩
 case rest =>
 obtain ⟨rfl,hwc⟩:=hcut
 rw [hwc]
 clear hwc
 have x0:=KT3.out.cell 0
 have x1:=KT3.out.cell 1
 have x2:=KT3.out.cell 2
 go_wp2_with fail
 refine (HRT.out _).mono ?_
 rintro o w4 ⟨rfl,hb4⟩
 go_wp2_with fail
 go_ret2
 exact MkP.nil_ (B3.out.trans (hb4.mono B3.out.size))
end Go.Proofs.Ytodckfgfbcnkoaa.natC
