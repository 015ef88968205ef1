/- 1 texts in one. -/
import Derived.Deep.DeepCutAuto
import Derived.Deep.RegionHeld3
import Derived.Test.YtodckfgfbcnkoaaNu25
/- Layer 15: any packet with another address and port, and back. -/
namespace Go.Proofs.Ytodckfgfbcnkoaa.natH
set_option maxHeartbeats 8000000
set_option maxRecDepth 100000
open Go.ChangeShapes Go.WideShapes Go.ChangeAt Go.RowKit
open base octA rdrA rdrG sumB sixW sixM pktA pktB pktC pktD pktE sixE pktG  tunW natY natZ natA pktL natE pktCut natF natZb
set_option linter.unusedVariables false
set_option linter.unusedSimpArgs false
theorem pk_same (P:Pk) (W:World):(binOp .eql 36 (.agg P.cells) (.agg P.cells)).run Try.prog W=.ok (.bool true) W:=by
  unfold Pk.cells
  go_simp
theorem pk_neq (P:Pk) (W:World):(binOp .neq 36 (.agg P.cells) (.agg P.cells)).run Try.prog W=.ok (.bool false) W:=by
  unfold Pk.cells
  go_simp
theorem load_row_g {P:Program} {ops:Array Oper} {rest:List Oper} {o:Oper} {a:Act} {w:World} {Q:Exit→Act→World→Prop} (hw:Region.wanted o (yielded ops a.tmps)=true) (ty:TypeId) (x:Operand) (ho:o.op=.load ty x)
    (g:Nat) (hx:a.eval x=.pointer (some ⟨g,0,none⟩)) (t:TypeId) (cs:Array Value) (fr:Nat × Nat) (d:TypeDesc) (hg:w.heap[g]?=some (.cells cs t fr))
    (hu:P.underlying ty=some d) (hd:(match d with | .struct _ | .array _ _=>true | _=>false)=true) (hi:(P.info? ty).map (·.size)=some cs.size)
    (h:wpList P ops Q rest (a.put o.dst (.agg cs)) w):wpList P ops Q (o::rest) a w :=
  wpList_step fun K hK=>by
    rw [if_pos hw]
    exact wp_load_row ty x ho g hx t cs fr d hg hu hd hi (hK _ _ h)
theorem law_E (A:Option Addr) (n0 n c:Nat) (s:Int) (t6:Bool) (th tl port:Int) (v6:Bool) (pr:Int) (s6:Bool) (sh sl:Int) (d6:Bool) (dh dl sp dp ttl fl:Int) (er:Bool) (apr:Int) (as6:Bool) (ash asl:Int) (ad6:Bool) (adh adl asp adp sz:Int) (e:Int) (he:e≠0) (w:World)
    (HC:Hid (∀ W,Calls Try.prog 10 #[.slice A n0 c] W fun o w'=>o=.returned (.slice A n c)∧W=w'))
    (HT:Hid (∀ V,Below w.heap.size w V→Calls Try.prog 22 #[.slice A n c,.int .i64 s,.agg #[.bool t6,.int .u64 th,.int .u64 tl],.int .i64 port] V (MkP e [] V)))
    (HP:Hid (∀ V,Below w.heap.size w V→Calls Try.prog 14 #[.slice A n c] V fun o w'=>o=.returned (.tuple #[.agg #[.bool v6,.int .i64 pr,.bool s6,.int .u64 sh,.int .u64 sl,.bool d6,.int .u64 dh,.int .u64 dl,.int .i64 sp,.int .i64 dp,.int .i64 ttl,.int .i64 fl,.bool er,.int .i64 apr,.bool as6,.int .u64 ash,.int .u64 asl,.bool ad6,.int .u64 adh,.int .u64 adl,.int .i64 asp,.int .i64 adp,.int .i64 sz],.int .i64 e])∧Below V.heap.size V w')) :
    Calls Try.prog 6 #[.slice A n0 c,.int .i64 s,.agg #[.bool t6,.int .u64 th,.int .u64 tl],.int .i64 port] w fun o w'=>o=.returned (.bool true)∧Below w.heap.size w w':=by
  have HAW:=Lib.hid awake_any
  have te:(e != 0)=true:=by simpa using he
  have te2:(e == 0)=false:=by simpa using he
  have tq:(e == e)=true:=by simp
  clear he
  obtain ⟨Y,hY⟩:∃ Y:Array Value,Y=#[.bool v6,.int .i64 pr,.bool s6,.int .u64 sh,.int .u64 sl,.bool d6,.int .u64 dh,.int .u64 dl,.int .i64 sp,.int .i64 dp,.int .i64 ttl,.int .i64 fl,.bool er,.int .i64 apr,.bool as6,.int .u64 ash,.int .u64 asl,.bool ad6,.int .u64 adh,.int .u64 adl,.int .i64 asp,.int .i64 adp,.int .i64 sz]:=⟨_,rfl⟩
  have ys:Y.size=23:=by rw [hY]; rfl
  have ONE:=Lib.hid (show Y.all (·.oneCell')=true from by rw [hY]; simp [Value.oneCell'])
  have HIY:=Lib.hid (show (Try.prog.info? 36).map (·.size)=some Y.size from by rw [ys]; exact pk_size)
  have ZY:=Lib.hid (show (#[.bool false,.int .i64 0,.bool false,.int .u64 0,.int .u64 0,.bool false,.int .u64 0,.int .u64 0,.int .i64 0,.int .i64 0,.int .i64 0,.int .i64 0,.bool false,.int .i64 0,.bool false,.int .u64 0,.int .u64 0,.bool false,.int .u64 0,.int .u64 0,.int .i64 0,.int .i64 0,.int .i64 0]:Array Value).size=Y.size from by rw [ys]; rfl)
  rw [← hY] at HP
  have HY:=Lib.hid hY
  clear hY ys
  obtain ⟨w1,hw1⟩:∃ w1,w1=w.alloc (.cells #[.bool t6,.int .u64 th,.int .u64 tl] 32):=⟨_,rfl⟩
  obtain ⟨p,hp⟩:∃ p,p=w.heap.size:=⟨_,rfl⟩
  have E1:=Lib.hid hw1
  have EP:=Lib.hid hp
  have B1:=Lib.hid (show Below w.heap.size w w1 from by rw [hw1]; exact (Below.refl _ _).alloc (Nat.le_refl _) _)
  have KT1:=Lib.hid (show Blk w1 p 32 #[.bool t6,.int .u64 th,.int .u64 tl] from by rw [hw1,hp]; exact Blk.new w _ _)
  clear hw1 hp
  have x0:=KT1.out.cell 0
  have x1:=KT1.out.cell 1
  have x2:=KT1.out.cell 2
  go_enter Try.func6,Try.ntmps6
  go_upto_region 1 with fail
  rw [← E1.out,← EP.out]
  go_wp2_with fail
  refine (HC.out _).mono ?_
  rintro o w' ⟨rfl,rfl⟩
  go_wp2_with fail
  refine (HT.out _ B1.out).mono ?_
  rintro o w2 ⟨hb2,AX,nx,cx,rfl,hsx⟩
  clear x0 x1 x2
  obtain rfl:nx=0:=by have:=hsx.len; simp at this; omega
  have KT2:=Lib.hid (KT1.out.below hb2 KT1.out.lt)
  have B2:=Lib.hid (B1.out.trans (hb2.mono B1.out.size))
  clear hb2 hsx
  go_wp2_with fail
  refine (HP.out _ B2.out).mono ?_
  rintro o w3 ⟨rfl,hb3⟩
  obtain ⟨w4,hw4⟩:∃ w4,w4=(w3.alloc (.cells #[.bool false,.int .i64 0,.bool false,.int .u64 0,.int .u64 0,.bool false,.int .u64 0,.int .u64 0,.int .i64 0,.int .i64 0,.int .i64 0,.int .i64 0,.bool false,.int .i64 0,.bool false,.int .u64 0,.int .u64 0,.bool false,.int .u64 0,.int .u64 0,.int .i64 0,.int .i64 0,.int .i64 0] 36)).setRow w3.heap.size Y:=⟨_,rfl⟩
  obtain ⟨g,hg⟩:∃ g,g=w3.heap.size:=⟨_,rfl⟩
  have E4:=Lib.hid hw4
  have EG:=Lib.hid hg
  have KP4:=Lib.hid (show Blk w4 g 36 Y from by rw [hw4,hg]; exact blkRow (Blk.new w3 _ _) _)
  have B34:=Lib.hid (show Below w3.heap.size w3 w4 from by rw [hw4]; exact (onlyRow _).from ((Below.refl _ _).alloc (Nat.le_refl _) _) (Nat.le_refl _))
  have B24:=Lib.hid (hb3.trans (B34.out.mono hb3.size))
  have KT4:=Lib.hid (KT2.out.below B24.out KT2.out.lt)
  have B4:=Lib.hid (B2.out.trans (B24.out.mono B2.out.size))
  clear hw4 hg hb3
  go_upto_region 4 with (refine wpList_store_row rfl 36 _ _ rfl w3.heap.size Y rfl rfl 36 #[.bool false,.int .i64 0,.bool false,.int .u64 0,.int .u64 0,.bool false,.int .u64 0,.int .u64 0,.int .i64 0,.int .i64 0,.int .i64 0,.int .i64 0,.bool false,.int .i64 0,.bool false,.int .u64 0,.int .u64 0,.bool false,.int .u64 0,.int .u64 0,.int .i64 0,.int .i64 0,.int .i64 0] (Blk.new w3 _ _) HIY.out ZY.out ONE.out ?_)
  rw [← E4.out,← EG.out]
  go_wp2_with fail
  refine (HAW.out _).mono ?_
  rintro o w9 ⟨rfl,hb9⟩
  go_wp2_with fail
  go_ret
  exact ⟨rfl,B4.out.trans (hb9.mono B4.out.size)⟩
theorem law_G (A:Option Addr) (n0 n c:Nat) (s:Int) (t6:Bool) (th tl port:Int) (v6:Bool) (pr:Int) (s6:Bool) (sh sl:Int) (d6:Bool) (dh dl sp dp ttl fl:Int) (er:Bool) (apr:Int) (as6:Bool) (ash asl:Int) (ad6:Bool) (adh adl asp adp sz:Int) (harg:(s≠0∧s≠1)∨port<0∨65535<port∨er=true) (w:World)
    (HC:Hid (∀ W,Calls Try.prog 10 #[.slice A n0 c] W fun o w'=>o=.returned (.slice A n c)∧W=w'))
    (HT:Hid (∀ V,Below w.heap.size w V→Calls Try.prog 22 #[.slice A n c,.int .i64 s,.agg #[.bool t6,.int .u64 th,.int .u64 tl],.int .i64 port] V (MkP 1 [] V)))
    (HP:Hid (∀ V,Below w.heap.size w V→Calls Try.prog 14 #[.slice A n c] V fun o w'=>o=.returned (.tuple #[.agg #[.bool v6,.int .i64 pr,.bool s6,.int .u64 sh,.int .u64 sl,.bool d6,.int .u64 dh,.int .u64 dl,.int .i64 sp,.int .i64 dp,.int .i64 ttl,.int .i64 fl,.bool er,.int .i64 apr,.bool as6,.int .u64 ash,.int .u64 asl,.bool ad6,.int .u64 adh,.int .u64 adl,.int .i64 asp,.int .i64 adp,.int .i64 sz],.int .i64 0])∧Below V.heap.size V w')) :
    Calls Try.prog 6 #[.slice A n0 c,.int .i64 s,.agg #[.bool t6,.int .u64 th,.int .u64 tl],.int .i64 port] w fun o w'=>o=.returned (.bool true)∧Below w.heap.size w w':=by
  have HAW:=Lib.hid awake_any
  have HARG:=Lib.hid harg
  clear harg
  obtain ⟨Y,hY⟩:∃ Y:Array Value,Y=#[.bool v6,.int .i64 pr,.bool s6,.int .u64 sh,.int .u64 sl,.bool d6,.int .u64 dh,.int .u64 dl,.int .i64 sp,.int .i64 dp,.int .i64 ttl,.int .i64 fl,.bool er,.int .i64 apr,.bool as6,.int .u64 ash,.int .u64 asl,.bool ad6,.int .u64 adh,.int .u64 adl,.int .i64 asp,.int .i64 adp,.int .i64 sz]:=⟨_,rfl⟩
  have ys:Y.size=23:=by rw [hY]; rfl
  have ONE:=Lib.hid (show Y.all (·.oneCell')=true from by rw [hY]; simp [Value.oneCell'])
  have HIY:=Lib.hid (show (Try.prog.info? 36).map (·.size)=some Y.size from by rw [ys]; exact pk_size)
  have ZY:=Lib.hid (show (#[.bool false,.int .i64 0,.bool false,.int .u64 0,.int .u64 0,.bool false,.int .u64 0,.int .u64 0,.int .i64 0,.int .i64 0,.int .i64 0,.int .i64 0,.bool false,.int .i64 0,.bool false,.int .u64 0,.int .u64 0,.bool false,.int .u64 0,.int .u64 0,.int .i64 0,.int .i64 0,.int .i64 0]:Array Value).size=Y.size from by rw [ys]; rfl)
  rw [← hY] at HP
  have HY:=Lib.hid hY
  clear hY ys
  obtain ⟨w1,hw1⟩:∃ w1,w1=w.alloc (.cells #[.bool t6,.int .u64 th,.int .u64 tl] 32):=⟨_,rfl⟩
  obtain ⟨p,hp⟩:∃ p,p=w.heap.size:=⟨_,rfl⟩
  have E1:=Lib.hid hw1
  have EP:=Lib.hid hp
  have B1:=Lib.hid (show Below w.heap.size w w1 from by rw [hw1]; exact (Below.refl _ _).alloc (Nat.le_refl _) _)
  have KT1:=Lib.hid (show Blk w1 p 32 #[.bool t6,.int .u64 th,.int .u64 tl] from by rw [hw1,hp]; exact Blk.new w _ _)
  clear hw1 hp
  have x0:=KT1.out.cell 0
  have x1:=KT1.out.cell 1
  have x2:=KT1.out.cell 2
  go_enter Try.func6,Try.ntmps6
  go_upto_region 1 with fail
  rw [← E1.out,← EP.out]
  go_wp2_with fail
  refine (HC.out _).mono ?_
  rintro o w' ⟨rfl,rfl⟩
  go_wp2_with fail
  refine (HT.out _ B1.out).mono ?_
  rintro o w2 ⟨hb2,AX,nx,cx,rfl,hsx⟩
  clear x0 x1 x2
  obtain rfl:nx=0:=by have:=hsx.len; simp at this; omega
  have KT2:=Lib.hid (KT1.out.below hb2 KT1.out.lt)
  have B2:=Lib.hid (B1.out.trans (hb2.mono B1.out.size))
  clear hb2 hsx
  go_wp2_with fail
  refine (HP.out _ B2.out).mono ?_
  rintro o w3 ⟨rfl,hb3⟩
  obtain ⟨w4,hw4⟩:∃ w4,w4=(w3.alloc (.cells #[.bool false,.int .i64 0,.bool false,.int .u64 0,.int .u64 0,.bool false,.int .u64 0,.int .u64 0,.int .i64 0,.int .i64 0,.int .i64 0,.int .i64 0,.bool false,.int .i64 0,.bool false,.int .u64 0,.int .u64 0,.bool false,.int .u64 0,.int .u64 0,.int .i64 0,.int .i64 0,.int .i64 0] 36)).setRow w3.heap.size Y:=⟨_,rfl⟩
  obtain ⟨g,hg⟩:∃ g,g=w3.heap.size:=⟨_,rfl⟩
  have E4:=Lib.hid hw4
  have EG:=Lib.hid hg
  have KP4:=Lib.hid (show Blk w4 g 36 Y from by rw [hw4,hg]; exact blkRow (Blk.new w3 _ _) _)
  have B34:=Lib.hid (show Below w3.heap.size w3 w4 from by rw [hw4]; exact (onlyRow _).from ((Below.refl _ _).alloc (Nat.le_refl _) _) (Nat.le_refl _))
  have B24:=Lib.hid (hb3.trans (B34.out.mono hb3.size))
  have KT4:=Lib.hid (KT2.out.below B24.out KT2.out.lt)
  have B4:=Lib.hid (B2.out.trans (B24.out.mono B2.out.size))
  clear hw4 hg hb3
  go_upto_region 4 with (refine wpList_store_row rfl 36 _ _ rfl w3.heap.size Y rfl rfl 36 #[.bool false,.int .i64 0,.bool false,.int .u64 0,.int .u64 0,.bool false,.int .u64 0,.int .u64 0,.int .i64 0,.int .i64 0,.int .i64 0,.int .i64 0,.bool false,.int .i64 0,.bool false,.int .u64 0,.int .u64 0,.bool false,.int .u64 0,.int .u64 0,.int .i64 0,.int .i64 0,.int .i64 0] (Blk.new w3 _ _) HIY.out ZY.out ONE.out ?_)
  rw [← E4.out,← EG.out]
  have kp:=KP4.out
  rw [HY.out] at kp
  have c0:=kp.cell 0
  have c12:=kp.cell 12
  clear kp
  go_upto_region 5 with fail
  go_cut [60] (fun v wx=>v=.bool true∧wx=w4)
  case first =>
    have harg:=HARG.out
    by_cases h1:s≠0∧s≠1
    · have t0:(s != 0)=true:=by simpa using h1.1
      have t1:(s != 1)=true:=by simpa using h1.2
      clear harg h1
      go_wp2_with fail
      go_meet
      exact ⟨rfl,rfl⟩
    · have hs:s=0∨s=1:=by omega
      by_cases hp0:port<0
      · have q0:decide (port<0)=true:=decide_eq_true hp0
        rcases hs with h | h
        · have t0:(s != 0)=false:=by simp [h]
          clear h hp0 harg h1
          go_wp2_with fail
          go_meet
          exact ⟨rfl,rfl⟩
        · have t0:(s != 0)=true:=by simp [h]
          have t1:(s != 1)=false:=by simp [h]
          clear h hp0 harg h1
          go_wp2_with fail
          go_meet
          exact ⟨rfl,rfl⟩
      · have q0:decide (port<0)=false:=decide_eq_false hp0
        by_cases hp9:65535<port
        · have q9:decide (65535<port)=true:=decide_eq_true hp9
          rcases hs with h | h
          · have t0:(s != 0)=false:=by simp [h]
            clear h hp0 hp9 harg h1
            go_wp2_with fail
            go_meet
            exact ⟨rfl,rfl⟩
          · have t0:(s != 0)=true:=by simp [h]
            have t1:(s != 1)=false:=by simp [h]
            clear h hp0 hp9 harg h1
            go_wp2_with fail
            go_meet
            exact ⟨rfl,rfl⟩
        · have q9:decide (65535<port)=false:=decide_eq_false hp9
          have her:er=true:=by
            rcases harg with h | h | h | h
            · exact absurd h h1
            · exact absurd h hp0
            · exact absurd h hp9
            · exact h
          subst her
          rcases hs with h | h
          · have t0:(s != 0)=false:=by simp [h]
            clear h hp0 hp9 harg h1
            go_wp2_with fail
            go_meet
            exact ⟨rfl,rfl⟩
          · have t0:(s != 0)=true:=by simp [h]
            have t1:(s != 1)=false:=by simp [h]
            clear h hp0 hp9 harg h1
            go_wp2_with fail
            go_meet
            exact ⟨rfl,rfl⟩
  case rest =>
  obtain ⟨rfl,hwc⟩:=hcut
  rw [hwc]
  clear hwc
  go_wp2_with fail
  refine (HAW.out _).mono ?_
  rintro o w9 ⟨rfl,hb9⟩
  go_wp2_with fail
  go_ret
  exact ⟨rfl,B4.out.trans (hb9.mono B4.out.size)⟩
theorem law_V (A:Option Addr) (n0 n c:Nat) (s:Int) (t6:Bool) (th tl port:Int) (v6:Bool) (pr:Int) (s6:Bool) (sh sl:Int) (d6:Bool) (dh dl sp dp ttl fl:Int) (apr:Int) (as6:Bool) (ash asl:Int) (ad6:Bool) (adh adl asp adp sz:Int) (hs:s=0∨s=1) (p0:0≤port) (p9:port≤65535) (hv:t6≠v6) (w:World)
    (HC:Hid (∀ W,Calls Try.prog 10 #[.slice A n0 c] W fun o w'=>o=.returned (.slice A n c)∧W=w'))
    (HT:Hid (∀ V,Below w.heap.size w V→Calls Try.prog 22 #[.slice A n c,.int .i64 s,.agg #[.bool t6,.int .u64 th,.int .u64 tl],.int .i64 port] V (MkP 18 [] V)))
    (HP:Hid (∀ V,Below w.heap.size w V→Calls Try.prog 14 #[.slice A n c] V fun o w'=>o=.returned (.tuple #[.agg #[.bool v6,.int .i64 pr,.bool s6,.int .u64 sh,.int .u64 sl,.bool d6,.int .u64 dh,.int .u64 dl,.int .i64 sp,.int .i64 dp,.int .i64 ttl,.int .i64 fl,.bool false,.int .i64 apr,.bool as6,.int .u64 ash,.int .u64 asl,.bool ad6,.int .u64 adh,.int .u64 adl,.int .i64 asp,.int .i64 adp,.int .i64 sz],.int .i64 0])∧Below V.heap.size V w')) :
    Calls Try.prog 6 #[.slice A n0 c,.int .i64 s,.agg #[.bool t6,.int .u64 th,.int .u64 tl],.int .i64 port] w fun o w'=>o=.returned (.bool true)∧Below w.heap.size w w':=by
  have HAW:=Lib.hid awake_any
  have HSS:=Lib.hid hs
  have P0:=Lib.hid p0
  have P9:=Lib.hid p9
  clear hs p0 p9
  have tv:(t6 != v6)=true:=by simpa using hv
  have tv2:(t6 == v6)=false:=by simpa using hv
  clear hv
  obtain ⟨Y,hY⟩:∃ Y:Array Value,Y=#[.bool v6,.int .i64 pr,.bool s6,.int .u64 sh,.int .u64 sl,.bool d6,.int .u64 dh,.int .u64 dl,.int .i64 sp,.int .i64 dp,.int .i64 ttl,.int .i64 fl,.bool false,.int .i64 apr,.bool as6,.int .u64 ash,.int .u64 asl,.bool ad6,.int .u64 adh,.int .u64 adl,.int .i64 asp,.int .i64 adp,.int .i64 sz]:=⟨_,rfl⟩
  have ys:Y.size=23:=by rw [hY]; rfl
  have ONE:=Lib.hid (show Y.all (·.oneCell')=true from by rw [hY]; simp [Value.oneCell'])
  have HIY:=Lib.hid (show (Try.prog.info? 36).map (·.size)=some Y.size from by rw [ys]; exact pk_size)
  have ZY:=Lib.hid (show (#[.bool false,.int .i64 0,.bool false,.int .u64 0,.int .u64 0,.bool false,.int .u64 0,.int .u64 0,.int .i64 0,.int .i64 0,.int .i64 0,.int .i64 0,.bool false,.int .i64 0,.bool false,.int .u64 0,.int .u64 0,.bool false,.int .u64 0,.int .u64 0,.int .i64 0,.int .i64 0,.int .i64 0]:Array Value).size=Y.size from by rw [ys]; rfl)
  rw [← hY] at HP
  have HY:=Lib.hid hY
  clear hY ys
  obtain ⟨w1,hw1⟩:∃ w1,w1=w.alloc (.cells #[.bool t6,.int .u64 th,.int .u64 tl] 32):=⟨_,rfl⟩
  obtain ⟨p,hp⟩:∃ p,p=w.heap.size:=⟨_,rfl⟩
  have E1:=Lib.hid hw1
  have EP:=Lib.hid hp
  have B1:=Lib.hid (show Below w.heap.size w w1 from by rw [hw1]; exact (Below.refl _ _).alloc (Nat.le_refl _) _)
  have KT1:=Lib.hid (show Blk w1 p 32 #[.bool t6,.int .u64 th,.int .u64 tl] from by rw [hw1,hp]; exact Blk.new w _ _)
  clear hw1 hp
  have x0:=KT1.out.cell 0
  have x1:=KT1.out.cell 1
  have x2:=KT1.out.cell 2
  go_enter Try.func6,Try.ntmps6
  go_upto_region 1 with fail
  rw [← E1.out,← EP.out]
  go_wp2_with fail
  refine (HC.out _).mono ?_
  rintro o w' ⟨rfl,rfl⟩
  go_wp2_with fail
  refine (HT.out _ B1.out).mono ?_
  rintro o w2 ⟨hb2,AX,nx,cx,rfl,hsx⟩
  clear x0 x1 x2
  obtain rfl:nx=0:=by have:=hsx.len; simp at this; omega
  have KT2:=Lib.hid (KT1.out.below hb2 KT1.out.lt)
  have B2:=Lib.hid (B1.out.trans (hb2.mono B1.out.size))
  clear hb2 hsx
  go_wp2_with fail
  refine (HP.out _ B2.out).mono ?_
  rintro o w3 ⟨rfl,hb3⟩
  obtain ⟨w4,hw4⟩:∃ w4,w4=(w3.alloc (.cells #[.bool false,.int .i64 0,.bool false,.int .u64 0,.int .u64 0,.bool false,.int .u64 0,.int .u64 0,.int .i64 0,.int .i64 0,.int .i64 0,.int .i64 0,.bool false,.int .i64 0,.bool false,.int .u64 0,.int .u64 0,.bool false,.int .u64 0,.int .u64 0,.int .i64 0,.int .i64 0,.int .i64 0] 36)).setRow w3.heap.size Y:=⟨_,rfl⟩
  obtain ⟨g,hg⟩:∃ g,g=w3.heap.size:=⟨_,rfl⟩
  have E4:=Lib.hid hw4
  have EG:=Lib.hid hg
  have KP4:=Lib.hid (show Blk w4 g 36 Y from by rw [hw4,hg]; exact blkRow (Blk.new w3 _ _) _)
  have B34:=Lib.hid (show Below w3.heap.size w3 w4 from by rw [hw4]; exact (onlyRow _).from ((Below.refl _ _).alloc (Nat.le_refl _) _) (Nat.le_refl _))
  have B24:=Lib.hid (hb3.trans (B34.out.mono hb3.size))
  have KT4:=Lib.hid (KT2.out.below B24.out KT2.out.lt)
  have B4:=Lib.hid (B2.out.trans (B24.out.mono B2.out.size))
  clear hw4 hg hb3
  go_upto_region 4 with (refine wpList_store_row rfl 36 _ _ rfl w3.heap.size Y rfl rfl 36 #[.bool false,.int .i64 0,.bool false,.int .u64 0,.int .u64 0,.bool false,.int .u64 0,.int .u64 0,.int .i64 0,.int .i64 0,.int .i64 0,.int .i64 0,.bool false,.int .i64 0,.bool false,.int .u64 0,.int .u64 0,.bool false,.int .u64 0,.int .u64 0,.int .i64 0,.int .i64 0,.int .i64 0] (Blk.new w3 _ _) HIY.out ZY.out ONE.out ?_)
  rw [← E4.out,← EG.out]
  have kp:=KP4.out
  rw [HY.out] at kp
  have c0:=kp.cell 0
  have c12:=kp.cell 12
  clear kp
  go_upto_region 5 with fail
  go_cut [60] (fun v wx=>v=.bool false∧wx=w4)
  case first =>
    have p0:=P0.out
    have p9:=P9.out
    have q0:decide (port<0)=false:=decide_eq_false (by omega)
    have q9:decide (65535<port)=false:=decide_eq_false (by omega)
    clear p0 p9
    rcases HSS.out with h | h
    · have t0:(s != 0)=false:=by simp [h]
      clear h
      go_wp2_with fail
      go_meet
      exact ⟨rfl,rfl⟩
    · have t0:(s != 0)=true:=by simp [h]
      have t1:(s != 1)=false:=by simp [h]
      clear h
      go_wp2_with fail
      go_meet
      exact ⟨rfl,rfl⟩
  case rest =>
  obtain ⟨rfl,hwc⟩:=hcut
  rw [hwc]
  clear hwc
  have x0:=KT4.out.cell 0
  have x1:=KT4.out.cell 1
  have x2:=KT4.out.cell 2
  go_wp2_with fail
  refine (HAW.out _).mono ?_
  rintro o w9 ⟨rfl,hb9⟩
  go_wp2_with fail
  go_ret
  exact ⟨rfl,B4.out.trans (hb9.mono B4.out.size)⟩
theorem law_R (A:Option Addr) (n0 n c:Nat) (s:Int) (t6:Bool) (th tl port:Int) (v6:Bool) (pr:Int) (s6:Bool) (sh sl:Int) (d6:Bool) (dh dl sp dp ttl fl:Int) (apr:Int) (as6:Bool) (ash asl:Int) (ad6:Bool) (adh adl asp adp sz:Int) (hs:s=0∨s=1) (p0:0≤port) (p9:port≤65535) (hv:t6=v6) (w:World)
    (HC:Hid (∀ W,Calls Try.prog 10 #[.slice A n0 c] W fun o w'=>o=.returned (.slice A n c)∧W=w'))
    (HT:Hid (∀ V,Below w.heap.size w V→Calls Try.prog 22 #[.slice A n c,.int .i64 s,.agg #[.bool t6,.int .u64 th,.int .u64 tl],.int .i64 port] V (MkP 18 [] V)))
    (HP:Hid (∀ V,Below w.heap.size w V→Calls Try.prog 14 #[.slice A n c] V fun o w'=>o=.returned (.tuple #[.agg #[.bool v6,.int .i64 pr,.bool s6,.int .u64 sh,.int .u64 sl,.bool d6,.int .u64 dh,.int .u64 dl,.int .i64 sp,.int .i64 dp,.int .i64 ttl,.int .i64 fl,.bool false,.int .i64 apr,.bool as6,.int .u64 ash,.int .u64 asl,.bool ad6,.int .u64 adh,.int .u64 adl,.int .i64 asp,.int .i64 adp,.int .i64 sz],.int .i64 0])∧Below V.heap.size V w'))
    (HRT:Hid (∀ V,Calls Try.prog 16 #[.agg #[.bool t6,.int .u64 th,.int .u64 tl]] V fun o w'=>o=.returned (.bool false)∧Below V.heap.size V w')) :
    Calls Try.prog 6 #[.slice A n0 c,.int .i64 s,.agg #[.bool t6,.int .u64 th,.int .u64 tl],.int .i64 port] w fun o w'=>o=.returned (.bool true)∧Below w.heap.size w w':=by
  have HAW:=Lib.hid awake_any
  have HSS:=Lib.hid hs
  have P0:=Lib.hid p0
  have P9:=Lib.hid p9
  clear hs p0 p9
  have tv:(t6 != v6)=false:=by simpa using hv
  have tv2:(t6 == v6)=true:=by simpa using hv
  clear hv
  obtain ⟨Y,hY⟩:∃ Y:Array Value,Y=#[.bool v6,.int .i64 pr,.bool s6,.int .u64 sh,.int .u64 sl,.bool d6,.int .u64 dh,.int .u64 dl,.int .i64 sp,.int .i64 dp,.int .i64 ttl,.int .i64 fl,.bool false,.int .i64 apr,.bool as6,.int .u64 ash,.int .u64 asl,.bool ad6,.int .u64 adh,.int .u64 adl,.int .i64 asp,.int .i64 adp,.int .i64 sz]:=⟨_,rfl⟩
  have ys:Y.size=23:=by rw [hY]; rfl
  have ONE:=Lib.hid (show Y.all (·.oneCell')=true from by rw [hY]; simp [Value.oneCell'])
  have HIY:=Lib.hid (show (Try.prog.info? 36).map (·.size)=some Y.size from by rw [ys]; exact pk_size)
  have ZY:=Lib.hid (show (#[.bool false,.int .i64 0,.bool false,.int .u64 0,.int .u64 0,.bool false,.int .u64 0,.int .u64 0,.int .i64 0,.int .i64 0,.int .i64 0,.int .i64 0,.bool false,.int .i64 0,.bool false,.int .u64 0,.int .u64 0,.bool false,.int .u64 0,.int .u64 0,.int .i64 0,.int .i64 0,.int .i64 0]:Array Value).size=Y.size from by rw [ys]; rfl)
  rw [← hY] at HP
  have HY:=Lib.hid hY
  clear hY ys
  obtain ⟨w1,hw1⟩:∃ w1,w1=w.alloc (.cells #[.bool t6,.int .u64 th,.int .u64 tl] 32):=⟨_,rfl⟩
  obtain ⟨p,hp⟩:∃ p,p=w.heap.size:=⟨_,rfl⟩
  have E1:=Lib.hid hw1
  have EP:=Lib.hid hp
  have B1:=Lib.hid (show Below w.heap.size w w1 from by rw [hw1]; exact (Below.refl _ _).alloc (Nat.le_refl _) _)
  have KT1:=Lib.hid (show Blk w1 p 32 #[.bool t6,.int .u64 th,.int .u64 tl] from by rw [hw1,hp]; exact Blk.new w _ _)
  clear hw1 hp
  have x0:=KT1.out.cell 0
  have x1:=KT1.out.cell 1
  have x2:=KT1.out.cell 2
  go_enter Try.func6,Try.ntmps6
  go_upto_region 1 with fail
  rw [← E1.out,← EP.out]
  go_wp2_with fail
  refine (HC.out _).mono ?_
  rintro o w' ⟨rfl,rfl⟩
  go_wp2_with fail
  refine (HT.out _ B1.out).mono ?_
  rintro o w2 ⟨hb2,AX,nx,cx,rfl,hsx⟩
  clear x0 x1 x2
  obtain rfl:nx=0:=by have:=hsx.len; simp at this; omega
  have KT2:=Lib.hid (KT1.out.below hb2 KT1.out.lt)
  have B2:=Lib.hid (B1.out.trans (hb2.mono B1.out.size))
  clear hb2 hsx
  go_wp2_with fail
  refine (HP.out _ B2.out).mono ?_
  rintro o w3 ⟨rfl,hb3⟩
  obtain ⟨w4,hw4⟩:∃ w4,w4=(w3.alloc (.cells #[.bool false,.int .i64 0,.bool false,.int .u64 0,.int .u64 0,.bool false,.int .u64 0,.int .u64 0,.int .i64 0,.int .i64 0,.int .i64 0,.int .i64 0,.bool false,.int .i64 0,.bool false,.int .u64 0,.int .u64 0,.bool false,.int .u64 0,.int .u64 0,.int .i64 0,.int .i64 0,.int .i64 0] 36)).setRow w3.heap.size Y:=⟨_,rfl⟩
  obtain ⟨g,hg⟩:∃ g,g=w3.heap.size:=⟨_,rfl⟩
  have E4:=Lib.hid hw4
  have EG:=Lib.hid hg
  have KP4:=Lib.hid (show Blk w4 g 36 Y from by rw [hw4,hg]; exact blkRow (Blk.new w3 _ _) _)
  have B34:=Lib.hid (show Below w3.heap.size w3 w4 from by rw [hw4]; exact (onlyRow _).from ((Below.refl _ _).alloc (Nat.le_refl _) _) (Nat.le_refl _))
  have B24:=Lib.hid (hb3.trans (B34.out.mono hb3.size))
  have KT4:=Lib.hid (KT2.out.below B24.out KT2.out.lt)
  have B4:=Lib.hid (B2.out.trans (B24.out.mono B2.out.size))
  clear hw4 hg hb3
  go_upto_region 4 with (refine wpList_store_row rfl 36 _ _ rfl w3.heap.size Y rfl rfl 36 #[.bool false,.int .i64 0,.bool false,.int .u64 0,.int .u64 0,.bool false,.int .u64 0,.int .u64 0,.int .i64 0,.int .i64 0,.int .i64 0,.int .i64 0,.bool false,.int .i64 0,.bool false,.int .u64 0,.int .u64 0,.bool false,.int .u64 0,.int .u64 0,.int .i64 0,.int .i64 0,.int .i64 0] (Blk.new w3 _ _) HIY.out ZY.out ONE.out ?_)
  rw [← E4.out,← EG.out]
  have kp:=KP4.out
  rw [HY.out] at kp
  have c0:=kp.cell 0
  have c12:=kp.cell 12
  clear kp
  go_upto_region 5 with fail
  go_cut [60] (fun v wx=>v=.bool false∧wx=w4)
  case first =>
    have p0:=P0.out
    have p9:=P9.out
    have q0:decide (port<0)=false:=decide_eq_false (by omega)
    have q9:decide (65535<port)=false:=decide_eq_false (by omega)
    clear p0 p9
    rcases HSS.out with h | h
    · have t0:(s != 0)=false:=by simp [h]
      clear h
      go_wp2_with fail
      go_meet
      exact ⟨rfl,rfl⟩
    · have t0:(s != 0)=true:=by simp [h]
      have t1:(s != 1)=false:=by simp [h]
      clear h
      go_wp2_with fail
      go_meet
      exact ⟨rfl,rfl⟩
  case rest =>
  obtain ⟨rfl,hwc⟩:=hcut
  rw [hwc]
  clear hwc
  have x0:=KT4.out.cell 0
  have x1:=KT4.out.cell 1
  have x2:=KT4.out.cell 2
  go_wp2_with fail
  refine (HRT.out _).mono ?_
  rintro o w5 ⟨rfl,hb5⟩
  have B5:=Lib.hid (B4.out.trans (hb5.mono B4.out.size))
  clear hb5
  go_wp2_with fail
  refine (HAW.out _).mono ?_
  rintro o w9 ⟨rfl,hb9⟩
  go_wp2_with fail
  go_ret
  exact ⟨rfl,B5.out.trans (hb9.mono B5.out.size)⟩
theorem Sl_pk {w w':World} {g:Nat} {A:Option Addr} {n c:Nat} {l:List Int} {Y:Array Value} {v6:Bool} {pr:Int} {s6:Bool} {sh sl:Int} {d6:Bool} {dh dl sp dp ttl fl:Int} {er:Bool} {apr:Int} {as6:Bool} {ash asl:Int} {ad6:Bool} {adh adl asp adp sz:Int} (h:Sl w A n c l) (hg:Blk w g 36 Y) (hY:Y=#[.bool v6,.int .i64 pr,.bool s6,.int .u64 sh,.int .u64 sl,.bool d6,.int .u64 dh,.int .u64 dl,.int .i64 sp,.int .i64 dp,.int .i64 ttl,.int .i64 fl,.bool er,.int .i64 apr,.bool as6,.int .u64 ash,.int .u64 asl,.bool ad6,.int .u64 adh,.int .u64 adl,.int .i64 asp,.int .i64 adp,.int .i64 sz]) (o:OnlyG g w w'):Sl w' A n c l:=by
  refine ⟨h.len,?_,h.nc,h.mx,h.nil,h.u8⟩
  rcases h.row with e | ⟨k,off,rfl,hlt,hc⟩
  · exact .inl e
  · rcases l with _ | ⟨x,l⟩
    · exact .inl rfl
    · have h0:=hc 0 (.int .u8 x) rfl
      have hne:k≠g:=by
        intro e
        rw [e,Nat.add_zero,hg.cell off,hY] at h0
        have hall:∀ j:Fin 23,(#[.bool v6,.int .i64 pr,.bool s6,.int .u64 sh,.int .u64 sl,.bool d6,.int .u64 dh,.int .u64 dl,.int .i64 sp,.int .i64 dp,.int .i64 ttl,.int .i64 fl,.bool er,.int .i64 apr,.bool as6,.int .u64 ash,.int .u64 asl,.bool ad6,.int .u64 adh,.int .u64 adl,.int .i64 asp,.int .i64 adp,.int .i64 sz]:Array Value)[j.val]?≠some (.int .u8 x):=fun j=>by
          match j with
          | ⟨0,_⟩ | ⟨1,_⟩ | ⟨2,_⟩ | ⟨3,_⟩ | ⟨4,_⟩ | ⟨5,_⟩ | ⟨6,_⟩ | ⟨7,_⟩ | ⟨8,_⟩ | ⟨9,_⟩ | ⟨10,_⟩ | ⟨11,_⟩ | ⟨12,_⟩ | ⟨13,_⟩ | ⟨14,_⟩ | ⟨15,_⟩ | ⟨16,_⟩ | ⟨17,_⟩ | ⟨18,_⟩ | ⟨19,_⟩ | ⟨20,_⟩ | ⟨21,_⟩ | ⟨22,_⟩=>intro k; cases k
          | ⟨i+23,hi⟩=>exact absurd hi (by omega)
        by_cases ho:off<23
        · exact hall ⟨off,ho⟩ h0
        · rw [Array.getElem?_eq_none (by show 23≤off; omega)] at h0
          cases h0
      exact .inr ⟨k,off,rfl,by rw [o.size]; exact hlt,fun i u hu=>by
        have e:=hc i u hu
        unfold World.cell? at e ⊢
        rw [show w'.heap[k]?=w.heap[k]? from o.els k hne]
        exact e⟩
theorem law_g0 (A:Option Addr) (n0 n c:Nat) (t6:Bool) (th tl port:Int) (p0:0≤port) (p9:port≤65535) (v6:Bool) (pr:Int) (s6:Bool) (sh sl:Int) (d6:Bool) (dh dl sp dp ttl fl:Int) (apr:Int) (as6:Bool) (ash asl:Int) (ad6:Bool) (adh adl asp adp:Int) (N:Nat) (hN:N≤1000) (hv:t6=v6) (X X2:List Int) (hXl:X.length=N) (w:World)
    (HC:Hid (∀ W,Calls Try.prog 10 #[.slice A n0 c] W fun o w'=>o=.returned (.slice A n c)∧W=w'))
    (HT:Hid (∀ V,Below w.heap.size w V→Calls Try.prog 22 #[.slice A n c,.int .i64 0,.agg #[.bool t6,.int .u64 th,.int .u64 tl],.int .i64 port] V (MkP 0 X V)))
    (HP:Hid (∀ V,Below w.heap.size w V→Calls Try.prog 14 #[.slice A n c] V fun o w'=>o=.returned (.tuple #[.agg #[.bool v6,.int .i64 pr,.bool s6,.int .u64 sh,.int .u64 sl,.bool d6,.int .u64 dh,.int .u64 dl,.int .i64 sp,.int .i64 dp,.int .i64 ttl,.int .i64 fl,.bool false,.int .i64 apr,.bool as6,.int .u64 ash,.int .u64 asl,.bool ad6,.int .u64 adh,.int .u64 adl,.int .i64 asp,.int .i64 adp,.int .i64 (N:Int)],.int .i64 0])∧Below V.heap.size V w'))
    (HRT:Hid (∀ V,Calls Try.prog 16 #[.agg #[.bool t6,.int .u64 th,.int .u64 tl]] V fun o w'=>o=.returned (.bool true)∧Below V.heap.size V w'))
    (HP2:Hid (∀ V A2 n2 c2,Sl V A2 n2 c2 X→Calls Try.prog 14 #[.slice A2 n2 c2] V fun o w'=>o=.returned (.tuple #[.agg #[.bool v6,.int .i64 pr,.bool t6,.int .u64 th,.int .u64 tl,.bool d6,.int .u64 dh,.int .u64 dl,.int .i64 port,.int .i64 dp,.int .i64 ttl,.int .i64 fl,.bool false,.int .i64 apr,.bool as6,.int .u64 ash,.int .u64 asl,.bool ad6,.int .u64 adh,.int .u64 adl,.int .i64 asp,.int .i64 adp,.int .i64 (N:Int)],.int .i64 0])∧Below V.heap.size V w'))
    (HT2:Hid (∀ V A2 n2 c2,Sl V A2 n2 c2 X→Calls Try.prog 22 #[.slice A2 n2 c2,.int .i64 0,.agg #[.bool s6,.int .u64 sh,.int .u64 sl],.int .i64 sp] V (MkP 0 X2 V)))
    (HP3:Hid (∀ V A2 n2 c2,Sl V A2 n2 c2 X2→Calls Try.prog 14 #[.slice A2 n2 c2] V fun o w'=>o=.returned (.tuple #[.agg #[.bool v6,.int .i64 pr,.bool s6,.int .u64 sh,.int .u64 sl,.bool d6,.int .u64 dh,.int .u64 dl,.int .i64 sp,.int .i64 dp,.int .i64 ttl,.int .i64 fl,.bool false,.int .i64 apr,.bool as6,.int .u64 ash,.int .u64 asl,.bool ad6,.int .u64 adh,.int .u64 adl,.int .i64 asp,.int .i64 adp,.int .i64 (N:Int)],.int .i64 0])∧Below V.heap.size V w')) :
    Calls Try.prog 6 #[.slice A n0 c,.int .i64 0,.agg #[.bool t6,.int .u64 th,.int .u64 tl],.int .i64 port] w fun o w'=>o=.returned (.bool true)∧Below w.heap.size w w':=by
  have HAW:=Lib.hid awake_any
  have HTN:=Lib.hid (fun V=>turned_0 pr s6 sh sl d6 dh dl sp dp t6 th tl port V)
  have tv:(t6 != v6)=false:=by simpa using hv
  have tv2:(t6 == v6)=true:=by simpa using hv
  have P0:=Lib.hid p0
  have P9:=Lib.hid p9
  have HXL:=Lib.hid hXl
  have HNN:=Lib.hid hN
  have qN:((N:Int) != (N:Int))=false:=by simp
  have qNn:(N != N)=false:=by simp
  clear hv p0 p9 hXl hN
  obtain ⟨Y2,hY2⟩:∃ Y2:Array Value,Y2=#[.bool v6,.int .i64 pr,.bool t6,.int .u64 th,.int .u64 tl,.bool d6,.int .u64 dh,.int .u64 dl,.int .i64 port,.int .i64 dp,.int .i64 ttl,.int .i64 fl,.bool false,.int .i64 apr,.bool as6,.int .u64 ash,.int .u64 asl,.bool ad6,.int .u64 adh,.int .u64 adl,.int .i64 asp,.int .i64 adp,.int .i64 (N:Int)]:=⟨_,rfl⟩
  have ys2:Y2.size=23:=by rw [hY2]; rfl
  have ONE2:=Lib.hid (show Y2.all (·.oneCell')=true from by rw [hY2]; simp [Value.oneCell'])
  have HIY2:=Lib.hid (show (Try.prog.info? 36).map (·.size)=some Y2.size from by rw [ys2]; exact pk_size)
  have ZY2:=Lib.hid (show (#[.bool false,.int .i64 0,.bool false,.int .u64 0,.int .u64 0,.bool false,.int .u64 0,.int .u64 0,.int .i64 0,.int .i64 0,.int .i64 0,.int .i64 0,.bool false,.int .i64 0,.bool false,.int .u64 0,.int .u64 0,.bool false,.int .u64 0,.int .u64 0,.int .i64 0,.int .i64 0,.int .i64 0]:Array Value).size=Y2.size from by rw [ys2]; rfl)
  rw [← hY2] at HP2
  have HY2:=Lib.hid hY2
  have NQ:∀ W:World,(binOp .neq 36 (.agg Y2) (.agg Y2)).run Try.prog W=.ok (.bool false) W:=fun W=>by rw [hY2]; exact pk_neq (⟨v6,⟨pr,t6,th,tl,d6,dh,dl,port,dp⟩,ttl,fl,false,⟨apr,as6,ash,asl,ad6,adh,adl,asp,adp⟩,(N:Int)⟩:Pk) W
  clear hY2 ys2
  obtain ⟨Y,hY⟩:∃ Y:Array Value,Y=#[.bool v6,.int .i64 pr,.bool s6,.int .u64 sh,.int .u64 sl,.bool d6,.int .u64 dh,.int .u64 dl,.int .i64 sp,.int .i64 dp,.int .i64 ttl,.int .i64 fl,.bool false,.int .i64 apr,.bool as6,.int .u64 ash,.int .u64 asl,.bool ad6,.int .u64 adh,.int .u64 adl,.int .i64 asp,.int .i64 adp,.int .i64 (N:Int)]:=⟨_,rfl⟩
  have ys:Y.size=23:=by rw [hY]; rfl
  have ONE:=Lib.hid (show Y.all (·.oneCell')=true from by rw [hY]; simp [Value.oneCell'])
  have HIY:=Lib.hid (show (Try.prog.info? 36).map (·.size)=some Y.size from by rw [ys]; exact pk_size)
  have ZY:=Lib.hid (show (#[.bool false,.int .i64 0,.bool false,.int .u64 0,.int .u64 0,.bool false,.int .u64 0,.int .u64 0,.int .i64 0,.int .i64 0,.int .i64 0,.int .i64 0,.bool false,.int .i64 0,.bool false,.int .u64 0,.int .u64 0,.bool false,.int .u64 0,.int .u64 0,.int .i64 0,.int .i64 0,.int .i64 0]:Array Value).size=Y.size from by rw [ys]; rfl)
  rw [← hY] at HP
  have HY:=Lib.hid hY
  clear hY ys
  obtain ⟨w1,hw1⟩:∃ w1,w1=w.alloc (.cells #[.bool t6,.int .u64 th,.int .u64 tl] 32):=⟨_,rfl⟩
  obtain ⟨p,hp⟩:∃ p,p=w.heap.size:=⟨_,rfl⟩
  have E1:=Lib.hid hw1
  have EP:=Lib.hid hp
  have B1:=Lib.hid (show Below w.heap.size w w1 from by rw [hw1]; exact (Below.refl _ _).alloc (Nat.le_refl _) _)
  have KT1:=Lib.hid (show Blk w1 p 32 #[.bool t6,.int .u64 th,.int .u64 tl] from by rw [hw1,hp]; exact Blk.new w _ _)
  clear hw1 hp
  have x0:=KT1.out.cell 0
  have x1:=KT1.out.cell 1
  have x2:=KT1.out.cell 2
  go_enter Try.func6,Try.ntmps6
  go_upto_region 1 with fail
  rw [← E1.out,← EP.out]
  go_wp2_with fail
  refine (HC.out _).mono ?_
  rintro o w' ⟨rfl,rfl⟩
  go_wp2_with fail
  refine (HT.out _ B1.out).mono ?_
  rintro o w2 ⟨hb2,AX,nx,cx,rfl,hsx⟩
  clear x0 x1 x2
  obtain rfl:N=nx:=by have:=hsx.len; have:=HXL.out; omega
  have SX2:=Lib.hid hsx
  have KT2:=Lib.hid (KT1.out.below hb2 KT1.out.lt)
  have B2:=Lib.hid (B1.out.trans (hb2.mono B1.out.size))
  clear hb2 hsx
  go_wp2_with fail
  refine (HP.out _ B2.out).mono ?_
  rintro o w3 ⟨rfl,hb3⟩
  obtain ⟨w4,hw4⟩:∃ w4,w4=(w3.alloc (.cells #[.bool false,.int .i64 0,.bool false,.int .u64 0,.int .u64 0,.bool false,.int .u64 0,.int .u64 0,.int .i64 0,.int .i64 0,.int .i64 0,.int .i64 0,.bool false,.int .i64 0,.bool false,.int .u64 0,.int .u64 0,.bool false,.int .u64 0,.int .u64 0,.int .i64 0,.int .i64 0,.int .i64 0] 36)).setRow w3.heap.size Y:=⟨_,rfl⟩
  obtain ⟨g,hg⟩:∃ g,g=w3.heap.size:=⟨_,rfl⟩
  have E4:=Lib.hid hw4
  have EG:=Lib.hid hg
  have KP4:=Lib.hid (show Blk w4 g 36 Y from by rw [hw4,hg]; exact blkRow (Blk.new w3 _ _) _)
  have B34:=Lib.hid (show Below w3.heap.size w3 w4 from by rw [hw4]; exact (onlyRow _).from ((Below.refl _ _).alloc (Nat.le_refl _) _) (Nat.le_refl _))
  have B24:=Lib.hid (hb3.trans (B34.out.mono hb3.size))
  have KT4:=Lib.hid (KT2.out.below B24.out KT2.out.lt)
  have B4:=Lib.hid (B2.out.trans (B24.out.mono B2.out.size))
  have SX4:=Lib.hid (SX2.out.below B24.out)
  clear hw4 hg hb3
  go_upto_region 4 with (refine wpList_store_row rfl 36 _ _ rfl w3.heap.size Y rfl rfl 36 #[.bool false,.int .i64 0,.bool false,.int .u64 0,.int .u64 0,.bool false,.int .u64 0,.int .u64 0,.int .i64 0,.int .i64 0,.int .i64 0,.int .i64 0,.bool false,.int .i64 0,.bool false,.int .u64 0,.int .u64 0,.bool false,.int .u64 0,.int .u64 0,.int .i64 0,.int .i64 0,.int .i64 0] (Blk.new w3 _ _) HIY.out ZY.out ONE.out ?_)
  rw [← E4.out,← EG.out]
  have HP3Y:=Lib.hid (show ∀ V A2 n2 c2,Sl V A2 n2 c2 X2→Calls Try.prog 14 #[.slice A2 n2 c2] V fun o w'=>o=.returned (.tuple #[.agg Y,.int .i64 0])∧Below V.heap.size V w' from fun V A2 n2 c2 h=>by rw [HY.out]; exact HP3.out V A2 n2 c2 h)
  have EQQ:∀ W:World,(binOp .eql 36 (.agg Y) (.agg Y)).run Try.prog W=.ok (.bool true) W:=fun W=>by rw [HY.out]; exact pk_same (⟨v6,⟨pr,s6,sh,sl,d6,dh,dl,sp,dp⟩,ttl,fl,false,⟨apr,as6,ash,asl,ad6,adh,adl,asp,adp⟩,(N:Int)⟩:Pk) W
  clear HP3
  have kp:=KP4.out
  rw [HY.out] at kp
  have c0:=kp.cell 0
  have c12:=kp.cell 12
  clear kp
  have q0:decide (port<0)=false:=decide_eq_false (by have:=P0.out; omega)
  have q9:decide (65535<port)=false:=decide_eq_false (by have:=P9.out; omega)
  have x0:=KT4.out.cell 0
  have x1:=KT4.out.cell 1
  have x2:=KT4.out.cell 2
  go_wp2_with fail
  refine (HRT.out _).mono ?_
  rintro o w5 ⟨rfl,hb5⟩
  have KT5:=Lib.hid (KT4.out.below hb5 KT4.out.lt)
  have KP5:=Lib.hid (KP4.out.below hb5 KP4.out.lt)
  have SX5:=Lib.hid (SX4.out.below hb5)
  have B5:=Lib.hid (B4.out.trans (hb5.mono B4.out.size))
  clear hb5 c0 c12 x0 x1 x2 q0 q9
  go_wp2_with fail
  refine (HP2.out _ _ _ _ SX5.out).mono ?_
  rintro o w6 ⟨rfl,hb6⟩
  obtain ⟨w7,hw7⟩:∃ w7,w7=(w6.alloc (.cells #[.bool false,.int .i64 0,.bool false,.int .u64 0,.int .u64 0,.bool false,.int .u64 0,.int .u64 0,.int .i64 0,.int .i64 0,.int .i64 0,.int .i64 0,.bool false,.int .i64 0,.bool false,.int .u64 0,.int .u64 0,.bool false,.int .u64 0,.int .u64 0,.int .i64 0,.int .i64 0,.int .i64 0] 36)).setRow w6.heap.size Y2:=⟨_,rfl⟩
  obtain ⟨g2,hg2⟩:∃ g2,g2=w6.heap.size:=⟨_,rfl⟩
  have E7:=Lib.hid hw7
  have EG2:=Lib.hid hg2
  have KQ7:=Lib.hid (show Blk w7 g2 36 Y2 from by rw [hw7,hg2]; exact blkRow (Blk.new w6 _ _) _)
  have B67:=Lib.hid (show Below w6.heap.size w6 w7 from by rw [hw7]; exact (onlyRow _).from ((Below.refl _ _).alloc (Nat.le_refl _) _) (Nat.le_refl _))
  have B57:=Lib.hid (hb6.trans (B67.out.mono hb6.size))
  have KT7:=Lib.hid (KT5.out.below B57.out KT5.out.lt)
  have KP7:=Lib.hid (KP5.out.below B57.out KP5.out.lt)
  have SX7:=Lib.hid (SX5.out.below B57.out)
  have B7:=Lib.hid (B5.out.trans (B57.out.mono B5.out.size))
  clear hw7 hg2 hb6
  go_upto_region 12 with (refine wpList_store_row rfl 36 _ _ rfl w6.heap.size Y2 rfl rfl 36 #[.bool false,.int .i64 0,.bool false,.int .u64 0,.int .u64 0,.bool false,.int .u64 0,.int .u64 0,.int .i64 0,.int .i64 0,.int .i64 0,.int .i64 0,.bool false,.int .i64 0,.bool false,.int .u64 0,.int .u64 0,.bool false,.int .u64 0,.int .u64 0,.int .i64 0,.int .i64 0,.int .i64 0] (Blk.new w6 _ _) HIY2.out ZY2.out ONE2.out ?_)
  rw [← E7.out,← EG2.out]
  obtain ⟨w8,hw8⟩:∃ w8,w8=(w7.alloc (.cells #[.bool false,.int .i64 0,.bool false,.int .u64 0,.int .u64 0,.bool false,.int .u64 0,.int .u64 0,.int .i64 0,.int .i64 0,.int .i64 0,.int .i64 0,.bool false,.int .i64 0,.bool false,.int .u64 0,.int .u64 0,.bool false,.int .u64 0,.int .u64 0,.int .i64 0,.int .i64 0,.int .i64 0] 36)).setRow w7.heap.size Y:=⟨_,rfl⟩
  obtain ⟨g3,hg3⟩:∃ g3,g3=w7.heap.size:=⟨_,rfl⟩
  have E8:=Lib.hid hw8
  have EG3:=Lib.hid hg3
  have KS8:=Lib.hid (show Blk w8 g3 36 Y from by rw [hw8,hg3]; exact blkRow (Blk.new w7 _ _) _)
  have B78:=Lib.hid (show Below w7.heap.size w7 w8 from by rw [hw8]; exact (onlyRow _).from ((Below.refl _ _).alloc (Nat.le_refl _) _) (Nat.le_refl _))
  have KT8:=Lib.hid (KT7.out.below B78.out KT7.out.lt)
  have KP8:=Lib.hid (KP7.out.below B78.out KP7.out.lt)
  have KQ8:=Lib.hid (KQ7.out.below B78.out KQ7.out.lt)
  have SX8:=Lib.hid (SX7.out.below B78.out)
  have B8:=Lib.hid (B7.out.trans (B78.out.mono B7.out.size))
  clear hw8 hg3
  go_upto_region 13 with (first
    | (refine wpList_load_row rfl 36 _ rfl g rfl 36 Y (0,0) _ KP7.out Try.underlying36 rfl HIY.out ?_)
    | (refine wpList_store_row rfl 36 _ _ rfl w7.heap.size Y rfl rfl 36 #[.bool false,.int .i64 0,.bool false,.int .u64 0,.int .u64 0,.bool false,.int .u64 0,.int .u64 0,.int .i64 0,.int .i64 0,.int .i64 0,.int .i64 0,.bool false,.int .i64 0,.bool false,.int .u64 0,.int .u64 0,.bool false,.int .u64 0,.int .u64 0,.int .i64 0,.int .i64 0,.int .i64 0] (Blk.new w7 _ _) HIY.out ZY.out ONE.out ?_))
  rw [← E8.out,← EG3.out]
  have kp:=KP8.out
  rw [HY.out] at kp
  have c1:=kp.cell 1
  have c2:=kp.cell 2
  have c3:=kp.cell 3
  have c4:=kp.cell 4
  have c5:=kp.cell 5
  have c6:=kp.cell 6
  have c7:=kp.cell 7
  have c8:=kp.cell 8
  have c9:=kp.cell 9
  clear kp
  have x0:=KT8.out.cell 0
  have x1:=KT8.out.cell 1
  have x2:=KT8.out.cell 2
  go_wp2_with fail
  refine (HTN.out _).mono ?_
  rintro o w10 ⟨rfl,hb10⟩
  have KT10:=Lib.hid (KT8.out.below hb10 KT8.out.lt)
  have KP10:=Lib.hid (KP8.out.below hb10 KP8.out.lt)
  have KQ10:=Lib.hid (KQ8.out.below hb10 KQ8.out.lt)
  have KS10:=Lib.hid (KS8.out.below hb10 KS8.out.lt)
  have SX10:=Lib.hid (SX8.out.below hb10)
  have B10:=Lib.hid (B8.out.trans (hb10.mono B8.out.size))
  have NE1:=Lib.hid (show g≠g3 from by have:=EG3.out; have:=KP7.out.lt; omega)
  have NE2:=Lib.hid (show g2≠g3 from by have:=EG3.out; have:=KQ7.out.lt; omega)
  have NE3:=Lib.hid (show p≠g3 from by have:=EG3.out; have:=KT7.out.lt; omega)
  have WG3:=Lib.hid (show w.heap.size≤g3 from by have:=EG3.out; have:=B7.out.size; omega)
  clear hb10 x0 x1 x2 c1 c2 c3 c4 c5 c6 c7 c8 c9
  have ks:=KS10.out
  rw [HY.out] at ks
  have y1:=ks.cell 1
  have f1:=ks.frozen 1
  have y2:=ks.cell 2
  have f2:=ks.frozen 2
  have y3:=ks.cell 3
  have f3:=ks.frozen 3
  have y4:=ks.cell 4
  have f4:=ks.frozen 4
  have y5:=ks.cell 5
  have f5:=ks.frozen 5
  have y6:=ks.cell 6
  have f6:=ks.frozen 6
  have y7:=ks.cell 7
  have f7:=ks.frozen 7
  have y8:=ks.cell 8
  have f8:=ks.frozen 8
  have y9:=ks.cell 9
  have f9:=ks.frozen 9
  obtain ⟨w11,hw11⟩:∃ w11,w11=(((((((((w10.setCell ⟨g3,1,none⟩ (.int .i64 pr)).setCell ⟨g3,2,none⟩ (.bool t6)).setCell ⟨g3,3,none⟩ (.int .u64 th)).setCell ⟨g3,4,none⟩ (.int .u64 tl)).setCell ⟨g3,5,none⟩ (.bool d6)).setCell ⟨g3,6,none⟩ (.int .u64 dh)).setCell ⟨g3,7,none⟩ (.int .u64 dl)).setCell ⟨g3,8,none⟩ (.int .i64 port)).setCell ⟨g3,9,none⟩ (.int .i64 dp)):=⟨_,rfl⟩
  have E11:=Lib.hid hw11
  have o11:OnlyG g3 w10 w11:=by rw [hw11]; exact ((((((((((OnlyG.refl g3 w10).set 1 _).set 2 _).set 3 _).set 4 _).set 5 _).set 6 _).set 7 _).set 8 _).set 9 _)
  have q0:=Blk.set_ (ks) 1 (.int .i64 pr)
  simp only [List.setIfInBounds_toArray,List.set_cons_zero,List.set_cons_succ] at q0
  have q1:=Blk.set_ (q0) 2 (.bool t6)
  simp only [List.setIfInBounds_toArray,List.set_cons_zero,List.set_cons_succ] at q1
  clear q0
  have q2:=Blk.set_ (q1) 3 (.int .u64 th)
  simp only [List.setIfInBounds_toArray,List.set_cons_zero,List.set_cons_succ] at q2
  clear q1
  have q3:=Blk.set_ (q2) 4 (.int .u64 tl)
  simp only [List.setIfInBounds_toArray,List.set_cons_zero,List.set_cons_succ] at q3
  clear q2
  have q4:=Blk.set_ (q3) 5 (.bool d6)
  simp only [List.setIfInBounds_toArray,List.set_cons_zero,List.set_cons_succ] at q4
  clear q3
  have q5:=Blk.set_ (q4) 6 (.int .u64 dh)
  simp only [List.setIfInBounds_toArray,List.set_cons_zero,List.set_cons_succ] at q5
  clear q4
  have q6:=Blk.set_ (q5) 7 (.int .u64 dl)
  simp only [List.setIfInBounds_toArray,List.set_cons_zero,List.set_cons_succ] at q6
  clear q5
  have q7:=Blk.set_ (q6) 8 (.int .i64 port)
  simp only [List.setIfInBounds_toArray,List.set_cons_zero,List.set_cons_succ] at q7
  clear q6
  have q8:=Blk.set_ (q7) 9 (.int .i64 dp)
  simp only [List.setIfInBounds_toArray,List.set_cons_zero,List.set_cons_succ] at q8
  clear q7
  have KS11:=Lib.hid (show Blk w11 g3 36 Y2 from by rw [hw11,HY2.out]; exact q8)
  have O11:=Lib.hid o11
  have KT11:=Lib.hid (O11.out.blk KT10.out NE3.out)
  have KP11:=Lib.hid (O11.out.blk KP10.out NE1.out)
  have KQ11:=Lib.hid (O11.out.blk KQ10.out NE2.out)
  have SX11:=Lib.hid (Sl_pk SX10.out KS10.out HY.out O11.out)
  have B11:=Lib.hid (O11.out.from B10.out WG3.out)
  clear q8 hw11 o11 ks
  go_upto_region 14 with fail
  rw [← E11.out]
  clear y1 f1 y2 f2 y3 f3 y4 f4 y5 f5 y6 f6 y7 f7 y8 f8 y9 f9
  have kp:=KP11.out
  rw [HY.out] at kp
  have c22:=kp.cell 22
  clear kp
  go_upto_region 16 with (first
    | (refine load_row_g rfl 36 _ rfl g2 rfl 36 Y2 _ _ KQ11.out Try.underlying36 rfl HIY2.out ?_)
    | (refine load_row_g rfl 36 _ rfl g3 rfl 36 Y2 _ _ KS11.out Try.underlying36 rfl HIY2.out ?_))
  have DR:=Lib.hid (show ∀ (V:World) (g:Nat) (T:TypeId) (cs:Array Value),Blk V g T cs→Blk V.drew g T cs from fun V g T cs q=>q.below (Below.refl _ _).drew q.lt)
  have HSF:=Lib.hid (show ∀ V,Blk V g 36 Y→(V.cell? ⟨g,2,none⟩=some (.bool s6)∧V.cell? ⟨g,3,none⟩=some (.int .u64 sh)∧V.cell? ⟨g,4,none⟩=some (.int .u64 sl)∧V.cell? ⟨g,8,none⟩=some (.int .i64 sp)) from fun V q=>by
    rw [HY.out] at q
    exact ⟨q.cell 2,q.cell 3,q.cell 4,q.cell 8⟩)
  have BA1:=Lib.hid (show Below w11.heap.size w11 (w11.alloc (.cells #[.bool false,.int .u64 0,.int .u64 0] 32)) from (Below.refl _ _).alloc (Nat.le_refl _) _)
  have BA2:=Lib.hid (show Below w11.heap.size w11 (w11.alloc (.cells #[.bool s6,.int .u64 sh,.int .u64 sl] 32)) from (Below.refl _ _).alloc (Nat.le_refl _) _)
  have KPa:=Lib.hid (KP11.out.below BA1.out KP11.out.lt)
  have KPb:=Lib.hid (KP11.out.below BA2.out KP11.out.lt)
  have HS0:=Lib.hid (HSF.out w11.drew (DR.out _ _ _ _ KP11.out))
  have HSa:=Lib.hid (HSF.out _ (DR.out _ _ _ _ KPa.out))
  have HSb:=Lib.hid (HSF.out _ (DR.out _ _ _ _ KPb.out))
  obtain ⟨wd,hwd⟩:∃ wd,wd=(w11.alloc (.cells #[.bool s6,.int .u64 sh,.int .u64 sl] 32)).drew:=⟨_,rfl⟩
  have EWD:=Lib.hid hwd
  clear hwd
  go_region_held3 (fun V=>V.cell? ⟨g,2,none⟩=some (.bool s6)∧V.cell? ⟨g,3,none⟩=some (.int .u64 sh)∧V.cell? ⟨g,4,none⟩=some (.int .u64 sl)∧V.cell? ⟨g,8,none⟩=some (.int .i64 sp)) (first | with_reducible assumption | with_reducible exact HS0.out | with_reducible exact HSa.out | with_reducible exact HSb.out) (first | fail)
  rw [← EWD.out]
  have KPd:=Lib.hid (show Blk wd g 36 Y from by rw [EWD.out]; exact DR.out _ _ _ _ KPb.out)
  have SXd:=Lib.hid (show Sl wd AX N cx X from by rw [EWD.out]; exact SX11.out.below BA2.out.drew)
  have BWd:=Lib.hid (show Below w11.heap.size w11 wd from by rw [EWD.out]; exact BA2.out.drew)
  have KVd:=Lib.hid (show Blk wd w11.heap.size 32 #[.bool s6,.int .u64 sh,.int .u64 sl] from by rw [EWD.out]; exact DR.out _ _ _ _ (Blk.new w11 _ _))
  have Bd:=Lib.hid (B11.out.trans (BWd.out.mono B11.out.size))
  obtain ⟨v,hvn⟩:∃ v,v=w11.heap.size:=⟨_,rfl⟩
  have EV:=Lib.hid hvn
  rw [← hvn] at KVd
  rw [← EV.out]
  clear hvn EWD BA1 BA2 KPa KPb HS0 HSa HSb c22
  clear HSF DR
  have v0:=KVd.out.cell 0
  have v1:=KVd.out.cell 1
  have v2:=KVd.out.cell 2
  go_wp2_with fail
  refine (HT2.out _ _ _ _ SXd.out).mono ?_
  rintro o w20 ⟨hb20,AY,ny,cy,rfl,hsy⟩
  clear v0 v1 v2
  have KP20:=Lib.hid (KPd.out.below hb20 KPd.out.lt)
  have B20:=Lib.hid (Bd.out.trans (hb20.mono Bd.out.size))
  have LY:=Lib.hid hsy.len
  have SY:=Lib.hid hsy
  clear hb20 hsy
  go_wp2_with fail
  obtain rfl:ny=X2.length:=LY.out.symm
  refine (HP3Y.out _ _ _ _ SY.out).mono ?_
  rintro o w21 ⟨rfl,hb21⟩
  obtain ⟨w22,hw22⟩:∃ w22,w22=(w21.alloc (.cells #[.bool false,.int .i64 0,.bool false,.int .u64 0,.int .u64 0,.bool false,.int .u64 0,.int .u64 0,.int .i64 0,.int .i64 0,.int .i64 0,.int .i64 0,.bool false,.int .i64 0,.bool false,.int .u64 0,.int .u64 0,.bool false,.int .u64 0,.int .u64 0,.int .i64 0,.int .i64 0,.int .i64 0] 36)).setRow w21.heap.size Y:=⟨_,rfl⟩
  obtain ⟨g4,hg4⟩:∃ g4,g4=w21.heap.size:=⟨_,rfl⟩
  have E22:=Lib.hid hw22
  have EG4:=Lib.hid hg4
  have KR22:=Lib.hid (show Blk w22 g4 36 Y from by rw [hw22,hg4]; exact blkRow (Blk.new w21 _ _) _)
  have B122:=Lib.hid (show Below w21.heap.size w21 w22 from by rw [hw22]; exact (onlyRow _).from ((Below.refl _ _).alloc (Nat.le_refl _) _) (Nat.le_refl _))
  have B022:=Lib.hid (hb21.trans (B122.out.mono hb21.size))
  have KP22:=Lib.hid (KP20.out.below B022.out KP20.out.lt)
  have B22:=Lib.hid (B20.out.trans (B022.out.mono B20.out.size))
  clear hw22 hg4 hb21
  go_upto_region 21 with (refine wpList_store_row rfl 36 _ _ rfl w21.heap.size Y rfl rfl 36 #[.bool false,.int .i64 0,.bool false,.int .u64 0,.int .u64 0,.bool false,.int .u64 0,.int .u64 0,.int .i64 0,.int .i64 0,.int .i64 0,.int .i64 0,.bool false,.int .i64 0,.bool false,.int .u64 0,.int .u64 0,.bool false,.int .u64 0,.int .u64 0,.int .i64 0,.int .i64 0,.int .i64 0] (Blk.new w21 _ _) HIY.out ZY.out ONE.out ?_)
  rw [← E22.out,← EG4.out]
  go_wp2_with (first
    | (refine load_row_g rfl 36 _ rfl g4 rfl 36 Y _ _ KR22.out Try.underlying36 rfl HIY.out ?_)
    | (refine load_row_g rfl 36 _ rfl g rfl 36 Y _ _ KP22.out Try.underlying36 rfl HIY.out ?_))
  refine (HAW.out _).mono ?_
  rintro o w23 ⟨rfl,hb23⟩
  go_wp2_with fail
  go_ret
  exact ⟨rfl,B22.out.trans (hb23.mono B22.out.size)⟩
theorem law_g1 (A:Option Addr) (n0 n c:Nat) (t6:Bool) (th tl port:Int) (p0:0≤port) (p9:port≤65535) (v6:Bool) (pr:Int) (s6:Bool) (sh sl:Int) (d6:Bool) (dh dl sp dp ttl fl:Int) (apr:Int) (as6:Bool) (ash asl:Int) (ad6:Bool) (adh adl asp adp:Int) (N:Nat) (hN:N≤1000) (hv:t6=v6) (X X2:List Int) (hXl:X.length=N) (w:World)
    (HC:Hid (∀ W,Calls Try.prog 10 #[.slice A n0 c] W fun o w'=>o=.returned (.slice A n c)∧W=w'))
    (HT:Hid (∀ V,Below w.heap.size w V→Calls Try.prog 22 #[.slice A n c,.int .i64 1,.agg #[.bool t6,.int .u64 th,.int .u64 tl],.int .i64 port] V (MkP 0 X V)))
    (HP:Hid (∀ V,Below w.heap.size w V→Calls Try.prog 14 #[.slice A n c] V fun o w'=>o=.returned (.tuple #[.agg #[.bool v6,.int .i64 pr,.bool s6,.int .u64 sh,.int .u64 sl,.bool d6,.int .u64 dh,.int .u64 dl,.int .i64 sp,.int .i64 dp,.int .i64 ttl,.int .i64 fl,.bool false,.int .i64 apr,.bool as6,.int .u64 ash,.int .u64 asl,.bool ad6,.int .u64 adh,.int .u64 adl,.int .i64 asp,.int .i64 adp,.int .i64 (N:Int)],.int .i64 0])∧Below V.heap.size V w'))
    (HRT:Hid (∀ V,Calls Try.prog 16 #[.agg #[.bool t6,.int .u64 th,.int .u64 tl]] V fun o w'=>o=.returned (.bool true)∧Below V.heap.size V w'))
    (HP2:Hid (∀ V A2 n2 c2,Sl V A2 n2 c2 X→Calls Try.prog 14 #[.slice A2 n2 c2] V fun o w'=>o=.returned (.tuple #[.agg #[.bool v6,.int .i64 pr,.bool s6,.int .u64 sh,.int .u64 sl,.bool t6,.int .u64 th,.int .u64 tl,.int .i64 sp,.int .i64 port,.int .i64 ttl,.int .i64 fl,.bool false,.int .i64 apr,.bool as6,.int .u64 ash,.int .u64 asl,.bool ad6,.int .u64 adh,.int .u64 adl,.int .i64 asp,.int .i64 adp,.int .i64 (N:Int)],.int .i64 0])∧Below V.heap.size V w'))
    (HT2:Hid (∀ V A2 n2 c2,Sl V A2 n2 c2 X→Calls Try.prog 22 #[.slice A2 n2 c2,.int .i64 1,.agg #[.bool d6,.int .u64 dh,.int .u64 dl],.int .i64 dp] V (MkP 0 X2 V)))
    (HP3:Hid (∀ V A2 n2 c2,Sl V A2 n2 c2 X2→Calls Try.prog 14 #[.slice A2 n2 c2] V fun o w'=>o=.returned (.tuple #[.agg #[.bool v6,.int .i64 pr,.bool s6,.int .u64 sh,.int .u64 sl,.bool d6,.int .u64 dh,.int .u64 dl,.int .i64 sp,.int .i64 dp,.int .i64 ttl,.int .i64 fl,.bool false,.int .i64 apr,.bool as6,.int .u64 ash,.int .u64 asl,.bool ad6,.int .u64 adh,.int .u64 adl,.int .i64 asp,.int .i64 adp,.int .i64 (N:Int)],.int .i64 0])∧Below V.heap.size V w')) :
    Calls Try.prog 6 #[.slice A n0 c,.int .i64 1,.agg #[.bool t6,.int .u64 th,.int .u64 tl],.int .i64 port] w fun o w'=>o=.returned (.bool true)∧Below w.heap.size w w':=by
  have HAW:=Lib.hid awake_any
  have HTN:=Lib.hid (fun V=>turned_1 pr s6 sh sl d6 dh dl sp dp 1 (by decide) t6 th tl port V)
  have tv:(t6 != v6)=false:=by simpa using hv
  have tv2:(t6 == v6)=true:=by simpa using hv
  have P0:=Lib.hid p0
  have P9:=Lib.hid p9
  have HXL:=Lib.hid hXl
  have HNN:=Lib.hid hN
  have qN:((N:Int) != (N:Int))=false:=by simp
  have qNn:(N != N)=false:=by simp
  clear hv p0 p9 hXl hN
  obtain ⟨Y2,hY2⟩:∃ Y2:Array Value,Y2=#[.bool v6,.int .i64 pr,.bool s6,.int .u64 sh,.int .u64 sl,.bool t6,.int .u64 th,.int .u64 tl,.int .i64 sp,.int .i64 port,.int .i64 ttl,.int .i64 fl,.bool false,.int .i64 apr,.bool as6,.int .u64 ash,.int .u64 asl,.bool ad6,.int .u64 adh,.int .u64 adl,.int .i64 asp,.int .i64 adp,.int .i64 (N:Int)]:=⟨_,rfl⟩
  have ys2:Y2.size=23:=by rw [hY2]; rfl
  have ONE2:=Lib.hid (show Y2.all (·.oneCell')=true from by rw [hY2]; simp [Value.oneCell'])
  have HIY2:=Lib.hid (show (Try.prog.info? 36).map (·.size)=some Y2.size from by rw [ys2]; exact pk_size)
  have ZY2:=Lib.hid (show (#[.bool false,.int .i64 0,.bool false,.int .u64 0,.int .u64 0,.bool false,.int .u64 0,.int .u64 0,.int .i64 0,.int .i64 0,.int .i64 0,.int .i64 0,.bool false,.int .i64 0,.bool false,.int .u64 0,.int .u64 0,.bool false,.int .u64 0,.int .u64 0,.int .i64 0,.int .i64 0,.int .i64 0]:Array Value).size=Y2.size from by rw [ys2]; rfl)
  rw [← hY2] at HP2
  have HY2:=Lib.hid hY2
  have NQ:∀ W:World,(binOp .neq 36 (.agg Y2) (.agg Y2)).run Try.prog W=.ok (.bool false) W:=fun W=>by rw [hY2]; exact pk_neq (⟨v6,⟨pr,s6,sh,sl,t6,th,tl,sp,port⟩,ttl,fl,false,⟨apr,as6,ash,asl,ad6,adh,adl,asp,adp⟩,(N:Int)⟩:Pk) W
  clear hY2 ys2
  obtain ⟨Y,hY⟩:∃ Y:Array Value,Y=#[.bool v6,.int .i64 pr,.bool s6,.int .u64 sh,.int .u64 sl,.bool d6,.int .u64 dh,.int .u64 dl,.int .i64 sp,.int .i64 dp,.int .i64 ttl,.int .i64 fl,.bool false,.int .i64 apr,.bool as6,.int .u64 ash,.int .u64 asl,.bool ad6,.int .u64 adh,.int .u64 adl,.int .i64 asp,.int .i64 adp,.int .i64 (N:Int)]:=⟨_,rfl⟩
  have ys:Y.size=23:=by rw [hY]; rfl
  have ONE:=Lib.hid (show Y.all (·.oneCell')=true from by rw [hY]; simp [Value.oneCell'])
  have HIY:=Lib.hid (show (Try.prog.info? 36).map (·.size)=some Y.size from by rw [ys]; exact pk_size)
  have ZY:=Lib.hid (show (#[.bool false,.int .i64 0,.bool false,.int .u64 0,.int .u64 0,.bool false,.int .u64 0,.int .u64 0,.int .i64 0,.int .i64 0,.int .i64 0,.int .i64 0,.bool false,.int .i64 0,.bool false,.int .u64 0,.int .u64 0,.bool false,.int .u64 0,.int .u64 0,.int .i64 0,.int .i64 0,.int .i64 0]:Array Value).size=Y.size from by rw [ys]; rfl)
  rw [← hY] at HP
  have HY:=Lib.hid hY
  clear hY ys
  obtain ⟨w1,hw1⟩:∃ w1,w1=w.alloc (.cells #[.bool t6,.int .u64 th,.int .u64 tl] 32):=⟨_,rfl⟩
  obtain ⟨p,hp⟩:∃ p,p=w.heap.size:=⟨_,rfl⟩
  have E1:=Lib.hid hw1
  have EP:=Lib.hid hp
  have B1:=Lib.hid (show Below w.heap.size w w1 from by rw [hw1]; exact (Below.refl _ _).alloc (Nat.le_refl _) _)
  have KT1:=Lib.hid (show Blk w1 p 32 #[.bool t6,.int .u64 th,.int .u64 tl] from by rw [hw1,hp]; exact Blk.new w _ _)
  clear hw1 hp
  have x0:=KT1.out.cell 0
  have x1:=KT1.out.cell 1
  have x2:=KT1.out.cell 2
  go_enter Try.func6,Try.ntmps6
  go_upto_region 1 with fail
  rw [← E1.out,← EP.out]
  go_wp2_with fail
  refine (HC.out _).mono ?_
  rintro o w' ⟨rfl,rfl⟩
  go_wp2_with fail
  refine (HT.out _ B1.out).mono ?_
  rintro o w2 ⟨hb2,AX,nx,cx,rfl,hsx⟩
  clear x0 x1 x2
  obtain rfl:N=nx:=by have:=hsx.len; have:=HXL.out; omega
  have SX2:=Lib.hid hsx
  have KT2:=Lib.hid (KT1.out.below hb2 KT1.out.lt)
  have B2:=Lib.hid (B1.out.trans (hb2.mono B1.out.size))
  clear hb2 hsx
  go_wp2_with fail
  refine (HP.out _ B2.out).mono ?_
  rintro o w3 ⟨rfl,hb3⟩
  obtain ⟨w4,hw4⟩:∃ w4,w4=(w3.alloc (.cells #[.bool false,.int .i64 0,.bool false,.int .u64 0,.int .u64 0,.bool false,.int .u64 0,.int .u64 0,.int .i64 0,.int .i64 0,.int .i64 0,.int .i64 0,.bool false,.int .i64 0,.bool false,.int .u64 0,.int .u64 0,.bool false,.int .u64 0,.int .u64 0,.int .i64 0,.int .i64 0,.int .i64 0] 36)).setRow w3.heap.size Y:=⟨_,rfl⟩
  obtain ⟨g,hg⟩:∃ g,g=w3.heap.size:=⟨_,rfl⟩
  have E4:=Lib.hid hw4
  have EG:=Lib.hid hg
  have KP4:=Lib.hid (show Blk w4 g 36 Y from by rw [hw4,hg]; exact blkRow (Blk.new w3 _ _) _)
  have B34:=Lib.hid (show Below w3.heap.size w3 w4 from by rw [hw4]; exact (onlyRow _).from ((Below.refl _ _).alloc (Nat.le_refl _) _) (Nat.le_refl _))
  have B24:=Lib.hid (hb3.trans (B34.out.mono hb3.size))
  have KT4:=Lib.hid (KT2.out.below B24.out KT2.out.lt)
  have B4:=Lib.hid (B2.out.trans (B24.out.mono B2.out.size))
  have SX4:=Lib.hid (SX2.out.below B24.out)
  clear hw4 hg hb3
  go_upto_region 4 with (refine wpList_store_row rfl 36 _ _ rfl w3.heap.size Y rfl rfl 36 #[.bool false,.int .i64 0,.bool false,.int .u64 0,.int .u64 0,.bool false,.int .u64 0,.int .u64 0,.int .i64 0,.int .i64 0,.int .i64 0,.int .i64 0,.bool false,.int .i64 0,.bool false,.int .u64 0,.int .u64 0,.bool false,.int .u64 0,.int .u64 0,.int .i64 0,.int .i64 0,.int .i64 0] (Blk.new w3 _ _) HIY.out ZY.out ONE.out ?_)
  rw [← E4.out,← EG.out]
  have HP3Y:=Lib.hid (show ∀ V A2 n2 c2,Sl V A2 n2 c2 X2→Calls Try.prog 14 #[.slice A2 n2 c2] V fun o w'=>o=.returned (.tuple #[.agg Y,.int .i64 0])∧Below V.heap.size V w' from fun V A2 n2 c2 h=>by rw [HY.out]; exact HP3.out V A2 n2 c2 h)
  have EQQ:∀ W:World,(binOp .eql 36 (.agg Y) (.agg Y)).run Try.prog W=.ok (.bool true) W:=fun W=>by rw [HY.out]; exact pk_same (⟨v6,⟨pr,s6,sh,sl,d6,dh,dl,sp,dp⟩,ttl,fl,false,⟨apr,as6,ash,asl,ad6,adh,adl,asp,adp⟩,(N:Int)⟩:Pk) W
  clear HP3
  have kp:=KP4.out
  rw [HY.out] at kp
  have c0:=kp.cell 0
  have c12:=kp.cell 12
  clear kp
  have q0:decide (port<0)=false:=decide_eq_false (by have:=P0.out; omega)
  have q9:decide (65535<port)=false:=decide_eq_false (by have:=P9.out; omega)
  have x0:=KT4.out.cell 0
  have x1:=KT4.out.cell 1
  have x2:=KT4.out.cell 2
  go_wp2_with fail
  refine (HRT.out _).mono ?_
  rintro o w5 ⟨rfl,hb5⟩
  have KT5:=Lib.hid (KT4.out.below hb5 KT4.out.lt)
  have KP5:=Lib.hid (KP4.out.below hb5 KP4.out.lt)
  have SX5:=Lib.hid (SX4.out.below hb5)
  have B5:=Lib.hid (B4.out.trans (hb5.mono B4.out.size))
  clear hb5 c0 c12 x0 x1 x2 q0 q9
  go_wp2_with fail
  refine (HP2.out _ _ _ _ SX5.out).mono ?_
  rintro o w6 ⟨rfl,hb6⟩
  obtain ⟨w7,hw7⟩:∃ w7,w7=(w6.alloc (.cells #[.bool false,.int .i64 0,.bool false,.int .u64 0,.int .u64 0,.bool false,.int .u64 0,.int .u64 0,.int .i64 0,.int .i64 0,.int .i64 0,.int .i64 0,.bool false,.int .i64 0,.bool false,.int .u64 0,.int .u64 0,.bool false,.int .u64 0,.int .u64 0,.int .i64 0,.int .i64 0,.int .i64 0] 36)).setRow w6.heap.size Y2:=⟨_,rfl⟩
  obtain ⟨g2,hg2⟩:∃ g2,g2=w6.heap.size:=⟨_,rfl⟩
  have E7:=Lib.hid hw7
  have EG2:=Lib.hid hg2
  have KQ7:=Lib.hid (show Blk w7 g2 36 Y2 from by rw [hw7,hg2]; exact blkRow (Blk.new w6 _ _) _)
  have B67:=Lib.hid (show Below w6.heap.size w6 w7 from by rw [hw7]; exact (onlyRow _).from ((Below.refl _ _).alloc (Nat.le_refl _) _) (Nat.le_refl _))
  have B57:=Lib.hid (hb6.trans (B67.out.mono hb6.size))
  have KT7:=Lib.hid (KT5.out.below B57.out KT5.out.lt)
  have KP7:=Lib.hid (KP5.out.below B57.out KP5.out.lt)
  have SX7:=Lib.hid (SX5.out.below B57.out)
  have B7:=Lib.hid (B5.out.trans (B57.out.mono B5.out.size))
  clear hw7 hg2 hb6
  go_upto_region 12 with (refine wpList_store_row rfl 36 _ _ rfl w6.heap.size Y2 rfl rfl 36 #[.bool false,.int .i64 0,.bool false,.int .u64 0,.int .u64 0,.bool false,.int .u64 0,.int .u64 0,.int .i64 0,.int .i64 0,.int .i64 0,.int .i64 0,.bool false,.int .i64 0,.bool false,.int .u64 0,.int .u64 0,.bool false,.int .u64 0,.int .u64 0,.int .i64 0,.int .i64 0,.int .i64 0] (Blk.new w6 _ _) HIY2.out ZY2.out ONE2.out ?_)
  rw [← E7.out,← EG2.out]
  obtain ⟨w8,hw8⟩:∃ w8,w8=(w7.alloc (.cells #[.bool false,.int .i64 0,.bool false,.int .u64 0,.int .u64 0,.bool false,.int .u64 0,.int .u64 0,.int .i64 0,.int .i64 0,.int .i64 0,.int .i64 0,.bool false,.int .i64 0,.bool false,.int .u64 0,.int .u64 0,.bool false,.int .u64 0,.int .u64 0,.int .i64 0,.int .i64 0,.int .i64 0] 36)).setRow w7.heap.size Y:=⟨_,rfl⟩
  obtain ⟨g3,hg3⟩:∃ g3,g3=w7.heap.size:=⟨_,rfl⟩
  have E8:=Lib.hid hw8
  have EG3:=Lib.hid hg3
  have KS8:=Lib.hid (show Blk w8 g3 36 Y from by rw [hw8,hg3]; exact blkRow (Blk.new w7 _ _) _)
  have B78:=Lib.hid (show Below w7.heap.size w7 w8 from by rw [hw8]; exact (onlyRow _).from ((Below.refl _ _).alloc (Nat.le_refl _) _) (Nat.le_refl _))
  have KT8:=Lib.hid (KT7.out.below B78.out KT7.out.lt)
  have KP8:=Lib.hid (KP7.out.below B78.out KP7.out.lt)
  have KQ8:=Lib.hid (KQ7.out.below B78.out KQ7.out.lt)
  have SX8:=Lib.hid (SX7.out.below B78.out)
  have B8:=Lib.hid (B7.out.trans (B78.out.mono B7.out.size))
  clear hw8 hg3
  go_upto_region 13 with (first
    | (refine wpList_load_row rfl 36 _ rfl g rfl 36 Y (0,0) _ KP7.out Try.underlying36 rfl HIY.out ?_)
    | (refine wpList_store_row rfl 36 _ _ rfl w7.heap.size Y rfl rfl 36 #[.bool false,.int .i64 0,.bool false,.int .u64 0,.int .u64 0,.bool false,.int .u64 0,.int .u64 0,.int .i64 0,.int .i64 0,.int .i64 0,.int .i64 0,.bool false,.int .i64 0,.bool false,.int .u64 0,.int .u64 0,.bool false,.int .u64 0,.int .u64 0,.int .i64 0,.int .i64 0,.int .i64 0] (Blk.new w7 _ _) HIY.out ZY.out ONE.out ?_))
  rw [← E8.out,← EG3.out]
  have kp:=KP8.out
  rw [HY.out] at kp
  have c1:=kp.cell 1
  have c2:=kp.cell 2
  have c3:=kp.cell 3
  have c4:=kp.cell 4
  have c5:=kp.cell 5
  have c6:=kp.cell 6
  have c7:=kp.cell 7
  have c8:=kp.cell 8
  have c9:=kp.cell 9
  clear kp
  have x0:=KT8.out.cell 0
  have x1:=KT8.out.cell 1
  have x2:=KT8.out.cell 2
  go_wp2_with fail
  refine (HTN.out _).mono ?_
  rintro o w10 ⟨rfl,hb10⟩
  have KT10:=Lib.hid (KT8.out.below hb10 KT8.out.lt)
  have KP10:=Lib.hid (KP8.out.below hb10 KP8.out.lt)
  have KQ10:=Lib.hid (KQ8.out.below hb10 KQ8.out.lt)
  have KS10:=Lib.hid (KS8.out.below hb10 KS8.out.lt)
  have SX10:=Lib.hid (SX8.out.below hb10)
  have B10:=Lib.hid (B8.out.trans (hb10.mono B8.out.size))
  have NE1:=Lib.hid (show g≠g3 from by have:=EG3.out; have:=KP7.out.lt; omega)
  have NE2:=Lib.hid (show g2≠g3 from by have:=EG3.out; have:=KQ7.out.lt; omega)
  have NE3:=Lib.hid (show p≠g3 from by have:=EG3.out; have:=KT7.out.lt; omega)
  have WG3:=Lib.hid (show w.heap.size≤g3 from by have:=EG3.out; have:=B7.out.size; omega)
  clear hb10 x0 x1 x2 c1 c2 c3 c4 c5 c6 c7 c8 c9
  have ks:=KS10.out
  rw [HY.out] at ks
  have y1:=ks.cell 1
  have f1:=ks.frozen 1
  have y2:=ks.cell 2
  have f2:=ks.frozen 2
  have y3:=ks.cell 3
  have f3:=ks.frozen 3
  have y4:=ks.cell 4
  have f4:=ks.frozen 4
  have y5:=ks.cell 5
  have f5:=ks.frozen 5
  have y6:=ks.cell 6
  have f6:=ks.frozen 6
  have y7:=ks.cell 7
  have f7:=ks.frozen 7
  have y8:=ks.cell 8
  have f8:=ks.frozen 8
  have y9:=ks.cell 9
  have f9:=ks.frozen 9
  obtain ⟨w11,hw11⟩:∃ w11,w11=(((((((((w10.setCell ⟨g3,1,none⟩ (.int .i64 pr)).setCell ⟨g3,2,none⟩ (.bool s6)).setCell ⟨g3,3,none⟩ (.int .u64 sh)).setCell ⟨g3,4,none⟩ (.int .u64 sl)).setCell ⟨g3,5,none⟩ (.bool t6)).setCell ⟨g3,6,none⟩ (.int .u64 th)).setCell ⟨g3,7,none⟩ (.int .u64 tl)).setCell ⟨g3,8,none⟩ (.int .i64 sp)).setCell ⟨g3,9,none⟩ (.int .i64 port)):=⟨_,rfl⟩
  have E11:=Lib.hid hw11
  have o11:OnlyG g3 w10 w11:=by rw [hw11]; exact ((((((((((OnlyG.refl g3 w10).set 1 _).set 2 _).set 3 _).set 4 _).set 5 _).set 6 _).set 7 _).set 8 _).set 9 _)
  have q0:=Blk.set_ (ks) 1 (.int .i64 pr)
  simp only [List.setIfInBounds_toArray,List.set_cons_zero,List.set_cons_succ] at q0
  have q1:=Blk.set_ (q0) 2 (.bool s6)
  simp only [List.setIfInBounds_toArray,List.set_cons_zero,List.set_cons_succ] at q1
  clear q0
  have q2:=Blk.set_ (q1) 3 (.int .u64 sh)
  simp only [List.setIfInBounds_toArray,List.set_cons_zero,List.set_cons_succ] at q2
  clear q1
  have q3:=Blk.set_ (q2) 4 (.int .u64 sl)
  simp only [List.setIfInBounds_toArray,List.set_cons_zero,List.set_cons_succ] at q3
  clear q2
  have q4:=Blk.set_ (q3) 5 (.bool t6)
  simp only [List.setIfInBounds_toArray,List.set_cons_zero,List.set_cons_succ] at q4
  clear q3
  have q5:=Blk.set_ (q4) 6 (.int .u64 th)
  simp only [List.setIfInBounds_toArray,List.set_cons_zero,List.set_cons_succ] at q5
  clear q4
  have q6:=Blk.set_ (q5) 7 (.int .u64 tl)
  simp only [List.setIfInBounds_toArray,List.set_cons_zero,List.set_cons_succ] at q6
  clear q5
  have q7:=Blk.set_ (q6) 8 (.int .i64 sp)
  simp only [List.setIfInBounds_toArray,List.set_cons_zero,List.set_cons_succ] at q7
  clear q6
  have q8:=Blk.set_ (q7) 9 (.int .i64 port)
  simp only [List.setIfInBounds_toArray,List.set_cons_zero,List.set_cons_succ] at q8
  clear q7
  have KS11:=Lib.hid (show Blk w11 g3 36 Y2 from by rw [hw11,HY2.out]; exact q8)
  have O11:=Lib.hid o11
  have KT11:=Lib.hid (O11.out.blk KT10.out NE3.out)
  have KP11:=Lib.hid (O11.out.blk KP10.out NE1.out)
  have KQ11:=Lib.hid (O11.out.blk KQ10.out NE2.out)
  have SX11:=Lib.hid (Sl_pk SX10.out KS10.out HY.out O11.out)
  have B11:=Lib.hid (O11.out.from B10.out WG3.out)
  clear q8 hw11 o11 ks
  go_upto_region 14 with fail
  rw [← E11.out]
  clear y1 f1 y2 f2 y3 f3 y4 f4 y5 f5 y6 f6 y7 f7 y8 f8 y9 f9
  have kp:=KP11.out
  rw [HY.out] at kp
  have c22:=kp.cell 22
  clear kp
  go_upto_region 16 with (first
    | (refine load_row_g rfl 36 _ rfl g2 rfl 36 Y2 _ _ KQ11.out Try.underlying36 rfl HIY2.out ?_)
    | (refine load_row_g rfl 36 _ rfl g3 rfl 36 Y2 _ _ KS11.out Try.underlying36 rfl HIY2.out ?_))
  have DR:=Lib.hid (show ∀ (V:World) (g:Nat) (T:TypeId) (cs:Array Value),Blk V g T cs→Blk V.drew g T cs from fun V g T cs q=>q.below (Below.refl _ _).drew q.lt)
  have HSF:=Lib.hid (show ∀ V,Blk V g 36 Y→(V.cell? ⟨g,2,none⟩=some (.bool s6)∧V.cell? ⟨g,3,none⟩=some (.int .u64 sh)∧V.cell? ⟨g,4,none⟩=some (.int .u64 sl)∧V.cell? ⟨g,8,none⟩=some (.int .i64 sp)) from fun V q=>by
    rw [HY.out] at q
    exact ⟨q.cell 2,q.cell 3,q.cell 4,q.cell 8⟩)
  have BA1:=Lib.hid (show Below w11.heap.size w11 (w11.alloc (.cells #[.bool false,.int .u64 0,.int .u64 0] 32)) from (Below.refl _ _).alloc (Nat.le_refl _) _)
  have BA2:=Lib.hid (show Below w11.heap.size w11 (w11.alloc (.cells #[.bool s6,.int .u64 sh,.int .u64 sl] 32)) from (Below.refl _ _).alloc (Nat.le_refl _) _)
  have KPa:=Lib.hid (KP11.out.below BA1.out KP11.out.lt)
  have KPb:=Lib.hid (KP11.out.below BA2.out KP11.out.lt)
  have HS0:=Lib.hid (HSF.out w11.drew (DR.out _ _ _ _ KP11.out))
  have HSa:=Lib.hid (HSF.out _ (DR.out _ _ _ _ KPa.out))
  have HSb:=Lib.hid (HSF.out _ (DR.out _ _ _ _ KPb.out))
  obtain ⟨wd,hwd⟩:∃ wd,wd=(w11.alloc (.cells #[.bool s6,.int .u64 sh,.int .u64 sl] 32)).drew:=⟨_,rfl⟩
  have EWD:=Lib.hid hwd
  clear hwd
  go_region_held3 (fun V=>V.cell? ⟨g,2,none⟩=some (.bool s6)∧V.cell? ⟨g,3,none⟩=some (.int .u64 sh)∧V.cell? ⟨g,4,none⟩=some (.int .u64 sl)∧V.cell? ⟨g,8,none⟩=some (.int .i64 sp)) (first | with_reducible assumption | with_reducible exact HS0.out | with_reducible exact HSa.out | with_reducible exact HSb.out) (first | fail)
  rw [← EWD.out]
  have KPd:=Lib.hid (show Blk wd g 36 Y from by rw [EWD.out]; exact DR.out _ _ _ _ KPb.out)
  have SXd:=Lib.hid (show Sl wd AX N cx X from by rw [EWD.out]; exact SX11.out.below BA2.out.drew)
  have BWd:=Lib.hid (show Below w11.heap.size w11 wd from by rw [EWD.out]; exact BA2.out.drew)
  have KVd:=Lib.hid (show Blk wd w11.heap.size 32 #[.bool s6,.int .u64 sh,.int .u64 sl] from by rw [EWD.out]; exact DR.out _ _ _ _ (Blk.new w11 _ _))
  have Bd:=Lib.hid (B11.out.trans (BWd.out.mono B11.out.size))
  obtain ⟨v,hvn⟩:∃ v,v=w11.heap.size:=⟨_,rfl⟩
  have EV:=Lib.hid hvn
  rw [← hvn] at KVd
  rw [← EV.out]
  clear hvn EWD BA1 BA2 KPa KPb HS0 HSa HSb c22
  have HSG:=Lib.hid (show ∀ V,Blk V g 36 Y→(V.cell? ⟨g,5,none⟩=some (.bool d6)∧V.cell? ⟨g,6,none⟩=some (.int .u64 dh)∧V.cell? ⟨g,7,none⟩=some (.int .u64 dl)∧V.cell? ⟨g,9,none⟩=some (.int .i64 dp)) from fun V q=>by
    rw [HY.out] at q
    exact ⟨q.cell 5,q.cell 6,q.cell 7,q.cell 9⟩)
  have NV:=Lib.hid (show g≠v from by have:=EV.out; have:=KP11.out.lt; omega)
  have OA3:=Lib.hid (show OnlyG v wd (((wd.setCell ⟨v,0,none⟩ (.bool d6)).setCell ⟨v,1,none⟩ (.int .u64 dh)).setCell ⟨v,2,none⟩ (.int .u64 dl)) from (((OnlyG.refl v wd).set 0 _).set 1 _).set 2 _)
  have KP3:=Lib.hid (OA3.out.blk KPd.out NV.out)
  have BA3:=Lib.hid (OA3.out.from BWd.out (by have:=EV.out; omega))
  have HS0:=Lib.hid (HSG.out _ (DR.out _ _ _ _ KPd.out))
  have HSa:=Lib.hid (HSG.out _ (DR.out _ _ _ _ KP3.out))
  have z0:=Blk.set_ KVd.out 0 (.bool d6)
  simp only [List.setIfInBounds_toArray,List.set_cons_zero,List.set_cons_succ] at z0
  have z1:=Blk.set_ z0 1 (.int .u64 dh)
  simp only [List.setIfInBounds_toArray,List.set_cons_zero,List.set_cons_succ] at z1
  have z2:=Blk.set_ z1 2 (.int .u64 dl)
  simp only [List.setIfInBounds_toArray,List.set_cons_zero,List.set_cons_succ] at z2
  have KV3:=Lib.hid z2
  have y0:=KVd.out.cell 0
  have y1:=KVd.out.cell 1
  have y2:=KVd.out.cell 2
  have f0:=KVd.out.frozen 0
  have f1:=KVd.out.frozen 1
  have f2:=KVd.out.frozen 2
  clear z0 z1 z2 HSF
  obtain ⟨we,hwe⟩:∃ we,we=(((wd.setCell ⟨v,0,none⟩ (.bool d6)).setCell ⟨v,1,none⟩ (.int .u64 dh)).setCell ⟨v,2,none⟩ (.int .u64 dl)).drew:=⟨_,rfl⟩
  have EWE:=Lib.hid hwe
  clear hwe
  go_upto_region 18 with fail
  go_region_held3 (fun V=>V.cell? ⟨g,5,none⟩=some (.bool d6)∧V.cell? ⟨g,6,none⟩=some (.int .u64 dh)∧V.cell? ⟨g,7,none⟩=some (.int .u64 dl)∧V.cell? ⟨g,9,none⟩=some (.int .i64 dp)) (first | with_reducible assumption | with_reducible exact HS0.out | with_reducible exact HSa.out) (first | fail)
  rw [← EWE.out]
  have KPe:=Lib.hid (show Blk we g 36 Y from by rw [EWE.out]; exact DR.out _ _ _ _ KP3.out)
  have KVe:=Lib.hid (show Blk we v 32 #[.bool d6,.int .u64 dh,.int .u64 dl] from by rw [EWE.out]; exact DR.out _ _ _ _ KV3.out)
  have BWe:=Lib.hid (show Below w11.heap.size w11 we from by rw [EWE.out]; exact BA3.out.drew)
  have SXe:=Lib.hid (show Sl we AX N cx X from SX11.out.below BWe.out)
  have Be:=Lib.hid (B11.out.trans (BWe.out.mono B11.out.size))
  clear EWE DR HSG NV OA3 KP3 BA3 HS0 HSa KV3 y0 y1 y2 f0 f1 f2
  have v0:=KVe.out.cell 0
  have v1:=KVe.out.cell 1
  have v2:=KVe.out.cell 2
  go_wp2_with fail
  refine (HT2.out _ _ _ _ SXe.out).mono ?_
  rintro o w20 ⟨hb20,AY,ny,cy,rfl,hsy⟩
  clear v0 v1 v2
  have KP20:=Lib.hid (KPe.out.below hb20 KPe.out.lt)
  have B20:=Lib.hid (Be.out.trans (hb20.mono Be.out.size))
  have LY:=Lib.hid hsy.len
  have SY:=Lib.hid hsy
  clear hb20 hsy
  go_wp2_with fail
  obtain rfl:ny=X2.length:=LY.out.symm
  refine (HP3Y.out _ _ _ _ SY.out).mono ?_
  rintro o w21 ⟨rfl,hb21⟩
  obtain ⟨w22,hw22⟩:∃ w22,w22=(w21.alloc (.cells #[.bool false,.int .i64 0,.bool false,.int .u64 0,.int .u64 0,.bool false,.int .u64 0,.int .u64 0,.int .i64 0,.int .i64 0,.int .i64 0,.int .i64 0,.bool false,.int .i64 0,.bool false,.int .u64 0,.int .u64 0,.bool false,.int .u64 0,.int .u64 0,.int .i64 0,.int .i64 0,.int .i64 0] 36)).setRow w21.heap.size Y:=⟨_,rfl⟩
  obtain ⟨g4,hg4⟩:∃ g4,g4=w21.heap.size:=⟨_,rfl⟩
  have E22:=Lib.hid hw22
  have EG4:=Lib.hid hg4
  have KR22:=Lib.hid (show Blk w22 g4 36 Y from by rw [hw22,hg4]; exact blkRow (Blk.new w21 _ _) _)
  have B122:=Lib.hid (show Below w21.heap.size w21 w22 from by rw [hw22]; exact (onlyRow _).from ((Below.refl _ _).alloc (Nat.le_refl _) _) (Nat.le_refl _))
  have B022:=Lib.hid (hb21.trans (B122.out.mono hb21.size))
  have KP22:=Lib.hid (KP20.out.below B022.out KP20.out.lt)
  have B22:=Lib.hid (B20.out.trans (B022.out.mono B20.out.size))
  clear hw22 hg4 hb21
  go_upto_region 21 with (refine wpList_store_row rfl 36 _ _ rfl w21.heap.size Y rfl rfl 36 #[.bool false,.int .i64 0,.bool false,.int .u64 0,.int .u64 0,.bool false,.int .u64 0,.int .u64 0,.int .i64 0,.int .i64 0,.int .i64 0,.int .i64 0,.bool false,.int .i64 0,.bool false,.int .u64 0,.int .u64 0,.bool false,.int .u64 0,.int .u64 0,.int .i64 0,.int .i64 0,.int .i64 0] (Blk.new w21 _ _) HIY.out ZY.out ONE.out ?_)
  rw [← E22.out,← EG4.out]
  go_wp2_with (first
    | (refine load_row_g rfl 36 _ rfl g4 rfl 36 Y _ _ KR22.out Try.underlying36 rfl HIY.out ?_)
    | (refine load_row_g rfl 36 _ rfl g rfl 36 Y _ _ KP22.out Try.underlying36 rfl HIY.out ?_))
  refine (HAW.out _).mono ?_
  rintro o w23 ⟨rfl,hb23⟩
  go_wp2_with fail
  go_ret
  exact ⟨rfl,B22.out.trans (hb23.mono B22.out.size)⟩
theorem ok_of (l:List Int) (hu:U8 l) (hn:l.length≤1000) (P:Pk) (hP:pkP l=(P,0)) (her:P.er=false) (hv:P.v6=false):P.t.sh=0∧P.t.sl<4294967296∧P.t.dh=0∧P.t.dl<4294967296:=by
  have hl0:¬ l.length=0:=fun k=>by
    unfold pkP at hP
    rw [if_pos k] at hP
    injection hP with _ h
    cases h
  unfold pkP at hP
  rw [if_neg hl0,if_neg (show ¬ 9000<l.length by omega)] at hP
  have w32:∀ p,tcpC.w32 l p<4294967296:=fun p=>by
    have a:=udpA.w16_in l hu p; have b:=udpA.w16_in l hu (p+2)
    show udpA.w16 l p*65536+udpA.w16 l (p+2)<_
    omega
  by_cases h4:l.getD 0 0 / 16=4
  · rw [if_pos h4] at hP
    obtain ⟨hE,hF,hW⟩:=p4_inv hP
    rcases with_inv hW her with ⟨_,_,e⟩ | ⟨_,_,e⟩ <;> rw [e] <;> exact ⟨rfl,w32 12,rfl,w32 16⟩
  · rw [if_neg h4] at hP
    by_cases h6:l.getD 0 0 / 16=6
    · rw [if_pos h6] at hP
      obtain ⟨ys,q,r,hC,hF,hW⟩:=p6_inv hP
      rcases with_inv hW her with ⟨_,_,e⟩ | ⟨_,_,e⟩ <;> rw [e] at hv <;> cases hv
    · rw [if_neg h6] at hP
      injection hP with _ h
      cases h
theorem turns_law (s:Int) (t6:Bool) (th tl port:Int) (k1:0≤th∧th<18446744073709551616) (k2:0≤tl∧tl<18446744073709551616) (A:Option Addr) (n0 c:Nat) (l0:List Int) (w:World) (hl0:l0.length=n0) (hr0:Row w w.heap.size A (l0.map (.int .u8))) (hu0:U8 l0) (hnc0:n0≤c) (hc:c≤9223372036854775807) (hnil:A=none→c=0) :
    Calls Try.prog 6 #[.slice A n0 c,.int .i64 s,.agg #[.bool t6,.int .u64 th,.int .u64 tl],.int .i64 port] w fun o w'=>o=.returned (.bool true)∧Below w.heap.size w w':=by
  have HC:=Lib.hid fun W=>cut_any A n0 c W (fun h=>by
    obtain ⟨b,off,hA,_,_⟩:=lies_of hr0 (by omega)
    exact ⟨b,off,hA⟩) hnc0 hc
  obtain ⟨n,hn⟩:∃ n,n=min n0 500:=⟨_,rfl⟩
  obtain ⟨l,hll⟩:∃ l,l=l0.take n:=⟨_,rfl⟩
  have hl:l.length=n:=by rw [hll,List.length_take]; omega
  have hu:U8 l:=by rw [hll]; exact hu0.take n
  have hr:Row w w.heap.size A (l.map (.int .u8)):=by
    have:=hr0.take n
    rw [← List.map_take,← hll] at this
    exact this
  have hsl:Sl w A n c l:=⟨hl,hr,by omega,hc,hnil,hu⟩
  rw [← hn] at HC
  have HP:=fun V (hV:Below w.heap.size w V)=>parse_any A n c l V (hsl.below hV) (by omega)
  obtain ⟨z,hz⟩:∃ z,z=pkP l:=⟨_,rfl⟩
  rw [← hz] at HP
  obtain ⟨⟨v6,⟨pr,s6,sh,sl,d6,dh,dl,sp,dp⟩,ttl,fl,er,⟨apr,as6,ash,asl,ad6,adh,adl,asp,adp⟩,sz⟩,e⟩:=z
  by_cases he:e=0
  · subst he
    by_cases ha:(s≠0∧s≠1)∨port<0∨65535<port∨er=true
    · exact law_G A n0 n c s t6 th tl port v6 pr s6 sh sl d6 dh dl sp dp ttl fl er apr as6 ash asl ad6 adh adl asp adp sz ha w HC (Lib.hid fun V hV=>turn_bad l (by omega) s th tl port t6 k2.1 1 (by decide) (by rw [← hz,if_neg (fun h=>h rfl),if_pos ha]) A n c V (hsl.below hV)) (Lib.hid HP)
    · have her:er=false:=by
        cases er
        · rfl
        · exact absurd (.inr (.inr (.inr rfl))) ha
      have hs:s=0∨s=1:=by omega
      have p0:0≤port:=by omega
      have p9:port≤65535:=by omega
      subst her
      by_cases hv:t6=v6
      · cases hok:okAd t6 th tl with
        | false =>
          have HRT:=fun V:World=>aright_any t6 th tl V k2.1
          rw [hok] at HRT
          exact law_R A n0 n c s t6 th tl port v6 pr s6 sh sl d6 dh dl sp dp ttl fl apr as6 ash asl ad6 adh adl asp adp sz hs p0 p9 hv w HC (Lib.hid fun V hV=>turn_bad l (by omega) s th tl port t6 k2.1 18 (by decide) (by rw [← hz,if_neg (fun h=>h rfl),if_neg ha,if_pos (.inr hok)]) A n c V (hsl.below hV)) (Lib.hid HP) (Lib.hid HRT)
        | true =>
          subst hv
          rcases hs with rfl | rfl
          · obtain ⟨X,hX,hXl,hXu,hXle,⟨S,M,R,pr',sh',sl',dh',dl',ttl',fl',G,_⟩,hT⟩:=turn_good l hu (by omega) _ hz.symm rfl 0 (by omega) th tl port k1.1 k1.2 k2.1 k2.2 p0 p9 hok
            have he:=G.eq
            simp only [Pk.mk.injEq,Tp.mk.injEq] at he
            obtain ⟨_,⟨_,e1,e2,e3,e4,e5,e6,e7,e8⟩,_⟩:=he
            have b1:=G.b1; have b2:=G.b2; have b3:=G.b3; have b4:=G.b4
            have w0:=udpA.w16_in R G.u8 0
            have w2:=udpA.w16_in R G.u8 2
            rw [← e2] at b1; rw [← e3] at b2; rw [← e5] at b3; rw [← e6] at b4; rw [← e7] at w0; rw [← e8] at w2
            have OK:=ok_of l hu (by omega) _ hz.symm rfl
            simp only at e1 e4 OK
            have hok2:okAd t6 sh sl=true:=by
              cases t6 with
              | true=>rfl
              | false =>
                obtain ⟨f1,f2,f3,f4⟩:=OK rfl
                unfold okAd
                simp [f1,f2]
            clear G OK e2 e3 e5 e6 e7 e8
            obtain rfl:t6=s6:=e1.symm
            obtain rfl:t6=d6:=e4.symm
            obtain ⟨X2,hX2,hX2l,hX2u,_,_,hT2⟩:=turn_good X hXu (by omega) _ hX rfl 0 (by omega) sh sl sp (by omega) (by omega) (by omega) (by omega) (by omega) (by omega) hok2
            simp only at hXl
            obtain ⟨N,hN⟩:∃ N,N=X.length:=⟨_,rfl⟩
            rw [← hN] at hXl
            subst hXl
            have HRT:=fun V:World=>aright_any t6 th tl V k2.1
            rw [hok] at HRT
            exact law_g0 A n0 n c t6 th tl port p0 p9 t6 pr t6 sh sl t6 dh dl sp dp ttl fl apr as6 ash asl ad6 adh adl asp adp N (by omega) rfl X X2 hN.symm w HC (Lib.hid fun V hV=>hT A n c V (hsl.below hV)) (Lib.hid HP) (Lib.hid HRT)
              (Lib.hid fun V A2 n2 c2 h2=>by
                have:=parse_any A2 n2 c2 X V h2 (by have:=h2.len; omega)
                rw [hX] at this
                exact this)
              (Lib.hid fun V A2 n2 c2 h2=>hT2 A2 n2 c2 V h2)
              (Lib.hid fun V A2 n2 c2 h2=>by
                have:=parse_any A2 n2 c2 X2 V h2 (by have:=h2.len; simp only at hX2l; omega)
                rw [hX2] at this
                exact this)
          · obtain ⟨X,hX,hXl,hXu,hXle,⟨S,M,R,pr',sh',sl',dh',dl',ttl',fl',G,_⟩,hT⟩:=turn_good l hu (by omega) _ hz.symm rfl 1 (by omega) th tl port k1.1 k1.2 k2.1 k2.2 p0 p9 hok
            have he:=G.eq
            simp only [Pk.mk.injEq,Tp.mk.injEq] at he
            obtain ⟨_,⟨_,e1,e2,e3,e4,e5,e6,e7,e8⟩,_⟩:=he
            have b1:=G.b1; have b2:=G.b2; have b3:=G.b3; have b4:=G.b4
            have w0:=udpA.w16_in R G.u8 0
            have w2:=udpA.w16_in R G.u8 2
            rw [← e2] at b1; rw [← e3] at b2; rw [← e5] at b3; rw [← e6] at b4; rw [← e7] at w0; rw [← e8] at w2
            have OK:=ok_of l hu (by omega) _ hz.symm rfl
            simp only at e1 e4 OK
            have hok2:okAd t6 dh dl=true:=by
              cases t6 with
              | true=>rfl
              | false =>
                obtain ⟨f1,f2,f3,f4⟩:=OK rfl
                unfold okAd
                simp [f3,f4]
            clear G OK e2 e3 e5 e6 e7 e8
            obtain rfl:t6=s6:=e1.symm
            obtain rfl:t6=d6:=e4.symm
            obtain ⟨X2,hX2,hX2l,hX2u,_,_,hT2⟩:=turn_good X hXu (by omega) _ hX rfl 1 (by omega) dh dl dp (by omega) (by omega) (by omega) (by omega) (by omega) (by omega) hok2
            simp only at hXl
            obtain ⟨N,hN⟩:∃ N,N=X.length:=⟨_,rfl⟩
            rw [← hN] at hXl
            subst hXl
            have HRT:=fun V:World=>aright_any t6 th tl V k2.1
            rw [hok] at HRT
            exact law_g1 A n0 n c t6 th tl port p0 p9 t6 pr t6 sh sl t6 dh dl sp dp ttl fl apr as6 ash asl ad6 adh adl asp adp N (by omega) rfl X X2 hN.symm w HC (Lib.hid fun V hV=>hT A n c V (hsl.below hV)) (Lib.hid HP) (Lib.hid HRT)
              (Lib.hid fun V A2 n2 c2 h2=>by
                have:=parse_any A2 n2 c2 X V h2 (by have:=h2.len; omega)
                rw [hX] at this
                exact this)
              (Lib.hid fun V A2 n2 c2 h2=>hT2 A2 n2 c2 V h2)
              (Lib.hid fun V A2 n2 c2 h2=>by
                have:=parse_any A2 n2 c2 X2 V h2 (by have:=h2.len; simp only at hX2l; omega)
                rw [hX2] at this
                exact this)
      · exact law_V A n0 n c s t6 th tl port v6 pr s6 sh sl d6 dh dl sp dp ttl fl apr as6 ash asl ad6 adh adl asp adp sz hs p0 p9 hv w HC (Lib.hid fun V hV=>turn_bad l (by omega) s th tl port t6 k2.1 18 (by decide) (by rw [← hz,if_neg (fun h=>h rfl),if_neg ha,if_pos (.inl hv)]) A n c V (hsl.below hV)) (Lib.hid HP)
  · exact law_E A n0 n c s t6 th tl port v6 pr s6 sh sl d6 dh dl sp dp ttl fl er apr as6 ash asl ad6 adh adl asp adp sz e he w HC (Lib.hid fun V hV=>turn_bad l (by omega) s th tl port t6 k2.1 e he (by rw [← hz,if_pos he]) A n c V (hsl.below hV)) (Lib.hid HP)
end Go.Proofs.Ytodckfgfbcnkoaa.natH
