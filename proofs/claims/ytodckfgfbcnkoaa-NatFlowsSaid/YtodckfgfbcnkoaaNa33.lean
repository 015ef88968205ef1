/- 2 texts in one. -/
import Derived.Lib.SmallJoins
import Derived.Deep.Slices
import Derived.Deep.Fields
import Derived.Test.YtodckfgfbcnkoaaNa01
import Derived.Test.YtodckfgfbcnkoaaNa32
/- Layer 15: which flow a packet has with another side. -/
namespace Go.Proofs.Ytodckfgfbcnkoaa.natG
set_option maxHeartbeats 4000000
set_option maxRecDepth 100000
open Go.ChangeShapes Go.WideShapes Go.ChangeAt Go.RowKit
open base octA rdrA rdrG sumB sixW sixM pktA pktB pktC pktD pktE sixE pktG  natA pktCut natF
set_option linter.unusedVariables false
set_option linter.unusedSimpArgs false
theorem tp_same (t:Tp) (W:World):(binOp .eql 34 (.agg t.cells) (.agg t.cells)).run Try.prog W = .ok (.bool true) W := by
  unfold Tp.cells
  go_simp
theorem law_e (A:Option Addr) (n0 n c:Nat) (s:Int) (t6:Bool) (th tl port:Int) (v6:Bool) (pr:Int) (s6:Bool) (sh sl:Int) (d6:Bool) (dh dl sp dp ttl fl:Int) (er:Bool) (apr:Int) (as6:Bool) (ash asl:Int) (ad6:Bool) (adh adl asp adp sz:Int) (e:Int) (he:e ≠ 0) (w:World)
    (HC:Hid (∀ W,Calls Try.prog 10 #[.slice A n0 c] W fun o w' => o = .returned (.slice A n c)∧W = w'))
    (HW:Hid (∀ V,Below w.heap.size w V → Calls Try.prog 28 #[.slice A n c,.int .i64 s,.agg #[.bool t6,.int .u64 th,.int .u64 tl],.int .i64 port] V fun o w' => o = .returned (.tuple #[.agg #[.int .i64 0,.bool false,.int .u64 0,.int .u64 0,.bool false,.int .u64 0,.int .u64 0,.int .i64 0,.int .i64 0],.int .i64 e])∧Below V.heap.size V w'))
    (HP:Hid (∀ V,Below w.heap.size w V → Calls Try.prog 14 #[.slice A n c] V fun o w' => o = .returned (.tuple #[.agg #[.bool v6,.int .i64 pr,.bool s6,.int .u64 sh,.int .u64 sl,.bool d6,.int .u64 dh,.int .u64 dl,.int .i64 sp,.int .i64 dp,.int .i64 ttl,.int .i64 fl,.bool er,.int .i64 apr,.bool as6,.int .u64 ash,.int .u64 asl,.bool ad6,.int .u64 adh,.int .u64 adl,.int .i64 asp,.int .i64 adp,.int .i64 sz],.int .i64 e])∧Below V.heap.size V w')) :
    Calls Try.prog 8 #[.slice A n0 c,.int .i64 s,.agg #[.bool t6,.int .u64 th,.int .u64 tl],.int .i64 port] w fun o w' => o = .returned (.bool true)∧Below w.heap.size w w' := by
  have HAW := Lib.hid awake_any
  have te:(e != 0) = true := by simpa using he
  have tq:(e == e) = true := by simp
  have TQ:∀ W:World,(binOp .eql 34 (.agg #[.int .i64 0,.bool false,.int .u64 0,.int .u64 0,.bool false,.int .u64 0,.int .u64 0,.int .i64 0,.int .i64 0]) (.agg #[.int .i64 0,.bool false,.int .u64 0,.int .u64 0,.bool false,.int .u64 0,.int .u64 0,.int .i64 0,.int .i64 0])).run Try.prog W = .ok (.bool true) W := fun W => tp_same ⟨0,false,0,0,false,0,0,0,0⟩ W
  clear he
  obtain ⟨Y,hY⟩:∃ Y:Array Value,Y = #[.bool v6,.int .i64 pr,.bool s6,.int .u64 sh,.int .u64 sl,.bool d6,.int .u64 dh,.int .u64 dl,.int .i64 sp,.int .i64 dp,.int .i64 ttl,.int .i64 fl,.bool er,.int .i64 apr,.bool as6,.int .u64 ash,.int .u64 asl,.bool ad6,.int .u64 adh,.int .u64 adl,.int .i64 asp,.int .i64 adp,.int .i64 sz] := ⟨_,rfl⟩
  have ys:Y.size = 23 := by rw [hY]; rfl
  have ONE := Lib.hid (show Y.all (·.oneCell') = true from by rw [hY]; simp [Value.oneCell'])
  have HIY := Lib.hid (show (Try.prog.info? 36).map (·.size) = some Y.size from by rw [ys]; exact pk_size)
  have ZY := Lib.hid (show (#[.bool false,.int .i64 0,.bool false,.int .u64 0,.int .u64 0,.bool false,.int .u64 0,.int .u64 0,.int .i64 0,.int .i64 0,.int .i64 0,.int .i64 0,.bool false,.int .i64 0,.bool false,.int .u64 0,.int .u64 0,.bool false,.int .u64 0,.int .u64 0,.int .i64 0,.int .i64 0,.int .i64 0]:Array Value).size = Y.size from by rw [ys]; rfl)
  rw [← hY] at HP
  have HY := Lib.hid hY
  have HIT := Lib.hid tpz
  clear hY ys
  obtain ⟨w1,hw1⟩:∃ w1,w1 = w.alloc (.cells #[.bool t6,.int .u64 th,.int .u64 tl] 32) := ⟨_,rfl⟩
  obtain ⟨p,hp⟩:∃ p,p = w.heap.size := ⟨_,rfl⟩
  have E1 := Lib.hid hw1
  have EP := Lib.hid hp
  have B1 := Lib.hid (show Below w.heap.size w w1 from by rw [hw1]; exact (Below.refl _ _).alloc (Nat.le_refl _) _)
  have KT1 := Lib.hid (show Blk w1 p 32 #[.bool t6,.int .u64 th,.int .u64 tl] from by rw [hw1,hp]; exact Blk.new w _ _)
  clear hw1 hp
  have x0 := KT1.out.cell 0
  have x1 := KT1.out.cell 1
  have x2 := KT1.out.cell 2
  go_enter Try.func8,Try.ntmps8
  go_upto_region 1 with fail
  rw [← E1.out,← EP.out]
  go_wp2_with fail
  refine (HC.out _).mono ?_
  rintro o w' ⟨rfl,rfl⟩
  go_wp2_with fail
  refine (HW.out _ B1.out).mono ?_
  rintro o w2 ⟨rfl,hb2⟩
  clear x0 x1 x2
  obtain ⟨w3,hw3⟩:∃ w3,w3 = w2.alloc (.cells #[.int .i64 0,.bool false,.int .u64 0,.int .u64 0,.bool false,.int .u64 0,.int .u64 0,.int .i64 0,.int .i64 0] 34) := ⟨_,rfl⟩
  obtain ⟨a,ha⟩:∃ a,a = w2.heap.size := ⟨_,rfl⟩
  have E3 := Lib.hid hw3
  have EA := Lib.hid ha
  have KA3 := Lib.hid (show Blk w3 a 34 #[.int .i64 0,.bool false,.int .u64 0,.int .u64 0,.bool false,.int .u64 0,.int .u64 0,.int .i64 0,.int .i64 0] from by rw [hw3,ha]; exact Blk.new w2 _ _)
  have B23 := Lib.hid (show Below w2.heap.size w2 w3 from by rw [hw3]; exact (Below.refl _ _).alloc (Nat.le_refl _) _)
  have B13 := Lib.hid (hb2.trans (B23.out.mono hb2.size))
  have KT3 := Lib.hid (KT1.out.below B13.out KT1.out.lt)
  have B3 := Lib.hid (B1.out.trans (B13.out.mono B1.out.size))
  clear hw3 ha hb2
  go_upto_region 3 with fail
  rw [← E3.out,← EA.out]
  go_wp2_with fail
  refine (HP.out _ B3.out).mono ?_
  rintro o w4 ⟨rfl,hb4⟩
  obtain ⟨w5,hw5⟩:∃ w5,w5 = (w4.alloc (.cells #[.bool false,.int .i64 0,.bool false,.int .u64 0,.int .u64 0,.bool false,.int .u64 0,.int .u64 0,.int .i64 0,.int .i64 0,.int .i64 0,.int .i64 0,.bool false,.int .i64 0,.bool false,.int .u64 0,.int .u64 0,.bool false,.int .u64 0,.int .u64 0,.int .i64 0,.int .i64 0,.int .i64 0] 36)).setRow w4.heap.size Y := ⟨_,rfl⟩
  obtain ⟨g,hg⟩:∃ g,g = w4.heap.size := ⟨_,rfl⟩
  have E5 := Lib.hid hw5
  have EG := Lib.hid hg
  have KP5 := Lib.hid (show Blk w5 g 36 Y from by rw [hw5,hg]; exact blkRow (Blk.new w4 _ _) _)
  have B45 := Lib.hid (show Below w4.heap.size w4 w5 from by rw [hw5]; exact (onlyRow _).from ((Below.refl _ _).alloc (Nat.le_refl _) _) (Nat.le_refl _))
  have B35 := Lib.hid (hb4.trans (B45.out.mono hb4.size))
  have KT5 := Lib.hid (KT3.out.below B35.out KT3.out.lt)
  have KA5 := Lib.hid (KA3.out.below B35.out KA3.out.lt)
  have B5 := Lib.hid (B3.out.trans (B35.out.mono B3.out.size))
  clear hw5 hg hb4
  go_upto_region 4 with (refine wpList_store_row rfl 36 _ _ rfl w4.heap.size Y rfl rfl 36 #[.bool false,.int .i64 0,.bool false,.int .u64 0,.int .u64 0,.bool false,.int .u64 0,.int .u64 0,.int .i64 0,.int .i64 0,.int .i64 0,.int .i64 0,.bool false,.int .i64 0,.bool false,.int .u64 0,.int .u64 0,.bool false,.int .u64 0,.int .u64 0,.int .i64 0,.int .i64 0,.int .i64 0] (Blk.new w4 _ _) HIY.out ZY.out ONE.out ?_)
  rw [← E5.out,← EG.out]
  have c0 := KA5.out.cell 0
  have c1 := KA5.out.cell 1
  have c2 := KA5.out.cell 2
  have c3 := KA5.out.cell 3
  have c4 := KA5.out.cell 4
  have c5 := KA5.out.cell 5
  have c6 := KA5.out.cell 6
  have c7 := KA5.out.cell 7
  have c8 := KA5.out.cell 8
  go_wp2_with fail
  refine (HAW.out _).mono ?_
  rintro o w6 ⟨rfl,hb6⟩
  go_wp2_with fail
  go_ret
  exact ⟨rfl,B5.out.trans (hb6.mono B5.out.size)⟩
theorem law_0 (A:Option Addr) (n0 n c:Nat) (t6:Bool) (th tl port:Int) (v6:Bool) (pr:Int) (s6:Bool) (sh sl:Int) (d6:Bool) (dh dl sp dp ttl fl:Int) (er:Bool) (apr:Int) (as6:Bool) (ash asl:Int) (ad6:Bool) (adh adl asp adp sz:Int) (w:World)
    (HC:Hid (∀ W,Calls Try.prog 10 #[.slice A n0 c] W fun o w' => o = .returned (.slice A n c)∧W = w'))
    (HW:Hid (∀ V,Below w.heap.size w V → Calls Try.prog 28 #[.slice A n c,.int .i64 0,.agg #[.bool t6,.int .u64 th,.int .u64 tl],.int .i64 port] V fun o w' => o = .returned (.tuple #[.agg #[.int .i64 pr,.bool t6,.int .u64 th,.int .u64 tl,.bool d6,.int .u64 dh,.int .u64 dl,.int .i64 port,.int .i64 dp],.int .i64 0])∧Below V.heap.size V w'))
    (HP:Hid (∀ V,Below w.heap.size w V → Calls Try.prog 14 #[.slice A n c] V fun o w' => o = .returned (.tuple #[.agg #[.bool v6,.int .i64 pr,.bool s6,.int .u64 sh,.int .u64 sl,.bool d6,.int .u64 dh,.int .u64 dl,.int .i64 sp,.int .i64 dp,.int .i64 ttl,.int .i64 fl,.bool er,.int .i64 apr,.bool as6,.int .u64 ash,.int .u64 asl,.bool ad6,.int .u64 adh,.int .u64 adl,.int .i64 asp,.int .i64 adp,.int .i64 sz],.int .i64 0])∧Below V.heap.size V w')) :
    Calls Try.prog 8 #[.slice A n0 c,.int .i64 0,.agg #[.bool t6,.int .u64 th,.int .u64 tl],.int .i64 port] w fun o w' => o = .returned (.bool true)∧Below w.heap.size w w' := by
  have HAW := Lib.hid awake_any
  have TQ:∀ W:World,(binOp .eql 34 (.agg #[.int .i64 pr,.bool t6,.int .u64 th,.int .u64 tl,.bool d6,.int .u64 dh,.int .u64 dl,.int .i64 port,.int .i64 dp]) (.agg #[.int .i64 pr,.bool t6,.int .u64 th,.int .u64 tl,.bool d6,.int .u64 dh,.int .u64 dl,.int .i64 port,.int .i64 dp])).run Try.prog W = .ok (.bool true) W := fun W => tp_same (⟨pr,t6,th,tl,d6,dh,dl,port,dp⟩:Tp) W
  have HTN := Lib.hid (fun V => turned_0 pr s6 sh sl d6 dh dl sp dp t6 th tl port V)
  obtain ⟨Y,hY⟩:∃ Y:Array Value,Y = #[.bool v6,.int .i64 pr,.bool s6,.int .u64 sh,.int .u64 sl,.bool d6,.int .u64 dh,.int .u64 dl,.int .i64 sp,.int .i64 dp,.int .i64 ttl,.int .i64 fl,.bool er,.int .i64 apr,.bool as6,.int .u64 ash,.int .u64 asl,.bool ad6,.int .u64 adh,.int .u64 adl,.int .i64 asp,.int .i64 adp,.int .i64 sz] := ⟨_,rfl⟩
  have ys:Y.size = 23 := by rw [hY]; rfl
  have ONE := Lib.hid (show Y.all (·.oneCell') = true from by rw [hY]; simp [Value.oneCell'])
  have HIY := Lib.hid (show (Try.prog.info? 36).map (·.size) = some Y.size from by rw [ys]; exact pk_size)
  have ZY := Lib.hid (show (#[.bool false,.int .i64 0,.bool false,.int .u64 0,.int .u64 0,.bool false,.int .u64 0,.int .u64 0,.int .i64 0,.int .i64 0,.int .i64 0,.int .i64 0,.bool false,.int .i64 0,.bool false,.int .u64 0,.int .u64 0,.bool false,.int .u64 0,.int .u64 0,.int .i64 0,.int .i64 0,.int .i64 0]:Array Value).size = Y.size from by rw [ys]; rfl)
  rw [← hY] at HP
  have HY := Lib.hid hY
  have HIT := Lib.hid tpz
  clear hY ys
  obtain ⟨w1,hw1⟩:∃ w1,w1 = w.alloc (.cells #[.bool t6,.int .u64 th,.int .u64 tl] 32) := ⟨_,rfl⟩
  obtain ⟨p,hp⟩:∃ p,p = w.heap.size := ⟨_,rfl⟩
  have E1 := Lib.hid hw1
  have EP := Lib.hid hp
  have B1 := Lib.hid (show Below w.heap.size w w1 from by rw [hw1]; exact (Below.refl _ _).alloc (Nat.le_refl _) _)
  have KT1 := Lib.hid (show Blk w1 p 32 #[.bool t6,.int .u64 th,.int .u64 tl] from by rw [hw1,hp]; exact Blk.new w _ _)
  clear hw1 hp
  have x0 := KT1.out.cell 0
  have x1 := KT1.out.cell 1
  have x2 := KT1.out.cell 2
  go_enter Try.func8,Try.ntmps8
  go_upto_region 1 with fail
  rw [← E1.out,← EP.out]
  go_wp2_with fail
  refine (HC.out _).mono ?_
  rintro o w' ⟨rfl,rfl⟩
  go_wp2_with fail
  refine (HW.out _ B1.out).mono ?_
  rintro o w2 ⟨rfl,hb2⟩
  clear x0 x1 x2
  obtain ⟨w3,hw3⟩:∃ w3,w3 = w2.alloc (.cells #[.int .i64 pr,.bool t6,.int .u64 th,.int .u64 tl,.bool d6,.int .u64 dh,.int .u64 dl,.int .i64 port,.int .i64 dp] 34) := ⟨_,rfl⟩
  obtain ⟨a,ha⟩:∃ a,a = w2.heap.size := ⟨_,rfl⟩
  have E3 := Lib.hid hw3
  have EA := Lib.hid ha
  have KA3 := Lib.hid (show Blk w3 a 34 #[.int .i64 pr,.bool t6,.int .u64 th,.int .u64 tl,.bool d6,.int .u64 dh,.int .u64 dl,.int .i64 port,.int .i64 dp] from by rw [hw3,ha]; exact Blk.new w2 _ _)
  have B23 := Lib.hid (show Below w2.heap.size w2 w3 from by rw [hw3]; exact (Below.refl _ _).alloc (Nat.le_refl _) _)
  have B13 := Lib.hid (hb2.trans (B23.out.mono hb2.size))
  have KT3 := Lib.hid (KT1.out.below B13.out KT1.out.lt)
  have B3 := Lib.hid (B1.out.trans (B13.out.mono B1.out.size))
  clear hw3 ha hb2
  go_upto_region 3 with fail
  rw [← E3.out,← EA.out]
  go_wp2_with fail
  refine (HP.out _ B3.out).mono ?_
  rintro o w4 ⟨rfl,hb4⟩
  obtain ⟨w5,hw5⟩:∃ w5,w5 = (w4.alloc (.cells #[.bool false,.int .i64 0,.bool false,.int .u64 0,.int .u64 0,.bool false,.int .u64 0,.int .u64 0,.int .i64 0,.int .i64 0,.int .i64 0,.int .i64 0,.bool false,.int .i64 0,.bool false,.int .u64 0,.int .u64 0,.bool false,.int .u64 0,.int .u64 0,.int .i64 0,.int .i64 0,.int .i64 0] 36)).setRow w4.heap.size Y := ⟨_,rfl⟩
  obtain ⟨g,hg⟩:∃ g,g = w4.heap.size := ⟨_,rfl⟩
  have E5 := Lib.hid hw5
  have EG := Lib.hid hg
  have KP5 := Lib.hid (show Blk w5 g 36 Y from by rw [hw5,hg]; exact blkRow (Blk.new w4 _ _) _)
  have B45 := Lib.hid (show Below w4.heap.size w4 w5 from by rw [hw5]; exact (onlyRow _).from ((Below.refl _ _).alloc (Nat.le_refl _) _) (Nat.le_refl _))
  have B35 := Lib.hid (hb4.trans (B45.out.mono hb4.size))
  have KT5 := Lib.hid (KT3.out.below B35.out KT3.out.lt)
  have KA5 := Lib.hid (KA3.out.below B35.out KA3.out.lt)
  have B5 := Lib.hid (B3.out.trans (B35.out.mono B3.out.size))
  clear hw5 hg hb4
  go_upto_region 4 with (refine wpList_store_row rfl 36 _ _ rfl w4.heap.size Y rfl rfl 36 #[.bool false,.int .i64 0,.bool false,.int .u64 0,.int .u64 0,.bool false,.int .u64 0,.int .u64 0,.int .i64 0,.int .i64 0,.int .i64 0,.int .i64 0,.bool false,.int .i64 0,.bool false,.int .u64 0,.int .u64 0,.bool false,.int .u64 0,.int .u64 0,.int .i64 0,.int .i64 0,.int .i64 0] (Blk.new w4 _ _) HIY.out ZY.out ONE.out ?_)
  rw [← E5.out,← EG.out]
  have HSF := Lib.hid (show ∀ V,Below w5.heap.size w5 V → (V.cell? ⟨a,0,none⟩ = some (.int .i64 pr)∧V.cell? ⟨a,1,none⟩ = some (.bool t6)∧V.cell? ⟨a,2,none⟩ = some (.int .u64 th)∧V.cell? ⟨a,3,none⟩ = some (.int .u64 tl)∧V.cell? ⟨a,4,none⟩ = some (.bool d6)∧V.cell? ⟨a,5,none⟩ = some (.int .u64 dh)∧V.cell? ⟨a,6,none⟩ = some (.int .u64 dl)∧V.cell? ⟨a,7,none⟩ = some (.int .i64 port)∧V.cell? ⟨a,8,none⟩ = some (.int .i64 dp)∧V.cell? ⟨g,1,none⟩ = some (.int .i64 pr)∧V.cell? ⟨g,2,none⟩ = some (.bool s6)∧V.cell? ⟨g,3,none⟩ = some (.int .u64 sh)∧V.cell? ⟨g,4,none⟩ = some (.int .u64 sl)∧V.cell? ⟨g,5,none⟩ = some (.bool d6)∧V.cell? ⟨g,6,none⟩ = some (.int .u64 dh)∧V.cell? ⟨g,7,none⟩ = some (.int .u64 dl)∧V.cell? ⟨g,8,none⟩ = some (.int .i64 sp)∧V.cell? ⟨g,9,none⟩ = some (.int .i64 dp)∧V.cell? ⟨p,0,none⟩ = some (.bool t6)∧V.cell? ⟨p,1,none⟩ = some (.int .u64 th)∧V.cell? ⟨p,2,none⟩ = some (.int .u64 tl)) from fun V hV => by
    have h1 := KA5.out.below hV KA5.out.lt
    have h2 := KP5.out.below hV KP5.out.lt
    have h3 := KT5.out.below hV KT5.out.lt
    rw [HY.out] at h2
    exact ⟨h1.cell 0,h1.cell 1,h1.cell 2,h1.cell 3,h1.cell 4,h1.cell 5,h1.cell 6,h1.cell 7,h1.cell 8,h2.cell 1,h2.cell 2,h2.cell 3,h2.cell 4,h2.cell 5,h2.cell 6,h2.cell 7,h2.cell 8,h2.cell 9,h3.cell 0,h3.cell 1,h3.cell 2⟩)
  have HS0 := Lib.hid (HSF.out w5.drew (Below.refl _ _).drew)
  go_upto_region 6 with fail
  go_region_held3 (fun V => V.cell? ⟨a,0,none⟩ = some (.int .i64 pr)∧V.cell? ⟨a,1,none⟩ = some (.bool t6)∧V.cell? ⟨a,2,none⟩ = some (.int .u64 th)∧V.cell? ⟨a,3,none⟩ = some (.int .u64 tl)∧V.cell? ⟨a,4,none⟩ = some (.bool d6)∧V.cell? ⟨a,5,none⟩ = some (.int .u64 dh)∧V.cell? ⟨a,6,none⟩ = some (.int .u64 dl)∧V.cell? ⟨a,7,none⟩ = some (.int .i64 port)∧V.cell? ⟨a,8,none⟩ = some (.int .i64 dp)∧V.cell? ⟨g,1,none⟩ = some (.int .i64 pr)∧V.cell? ⟨g,2,none⟩ = some (.bool s6)∧V.cell? ⟨g,3,none⟩ = some (.int .u64 sh)∧V.cell? ⟨g,4,none⟩ = some (.int .u64 sl)∧V.cell? ⟨g,5,none⟩ = some (.bool d6)∧V.cell? ⟨g,6,none⟩ = some (.int .u64 dh)∧V.cell? ⟨g,7,none⟩ = some (.int .u64 dl)∧V.cell? ⟨g,8,none⟩ = some (.int .i64 sp)∧V.cell? ⟨g,9,none⟩ = some (.int .i64 dp)∧V.cell? ⟨p,0,none⟩ = some (.bool t6)∧V.cell? ⟨p,1,none⟩ = some (.int .u64 th)∧V.cell? ⟨p,2,none⟩ = some (.int .u64 tl)) (first | with_reducible assumption | with_reducible exact HS0.out | with_reducible exact HS7.out | with_reducible exact HS6.out) (first
    | (go_at_call 24; (with_reducible refine (HTN.out _).mono ?_); rintro o w6 ⟨rfl,hb6⟩; have B56 := Lib.hid ((Below.refl w5.heap.size w5).drew.trans (hb6.mono (Nat.le_refl _))); have HS6 := Lib.hid (HSF.out w6 B56.out); clear hb6)
    | (go_at_call 23; (with_reducible refine (HAW.out _).mono ?_); rintro o w7 ⟨rfl,hb7⟩; have B57 := Lib.hid (B56.out.trans (hb7.mono B56.out.size)); have HS7 := Lib.hid (HSF.out w7 B57.out); clear hb7))
  go_wp2_with fail
  go_ret
  exact ⟨rfl,B5.out.trans (B57.out.mono B5.out.size)⟩
theorem law_1 (A:Option Addr) (n0 n c:Nat) (s:Int) (hs:s ≠ 0) (t6:Bool) (th tl port:Int) (v6:Bool) (pr:Int) (s6:Bool) (sh sl:Int) (d6:Bool) (dh dl sp dp ttl fl:Int) (er:Bool) (apr:Int) (as6:Bool) (ash asl:Int) (ad6:Bool) (adh adl asp adp sz:Int) (w:World)
    (HC:Hid (∀ W,Calls Try.prog 10 #[.slice A n0 c] W fun o w' => o = .returned (.slice A n c)∧W = w'))
    (HW:Hid (∀ V,Below w.heap.size w V → Calls Try.prog 28 #[.slice A n c,.int .i64 s,.agg #[.bool t6,.int .u64 th,.int .u64 tl],.int .i64 port] V fun o w' => o = .returned (.tuple #[.agg #[.int .i64 pr,.bool s6,.int .u64 sh,.int .u64 sl,.bool t6,.int .u64 th,.int .u64 tl,.int .i64 sp,.int .i64 port],.int .i64 0])∧Below V.heap.size V w'))
    (HP:Hid (∀ V,Below w.heap.size w V → Calls Try.prog 14 #[.slice A n c] V fun o w' => o = .returned (.tuple #[.agg #[.bool v6,.int .i64 pr,.bool s6,.int .u64 sh,.int .u64 sl,.bool d6,.int .u64 dh,.int .u64 dl,.int .i64 sp,.int .i64 dp,.int .i64 ttl,.int .i64 fl,.bool er,.int .i64 apr,.bool as6,.int .u64 ash,.int .u64 asl,.bool ad6,.int .u64 adh,.int .u64 adl,.int .i64 asp,.int .i64 adp,.int .i64 sz],.int .i64 0])∧Below V.heap.size V w')) :
    Calls Try.prog 8 #[.slice A n0 c,.int .i64 s,.agg #[.bool t6,.int .u64 th,.int .u64 tl],.int .i64 port] w fun o w' => o = .returned (.bool true)∧Below w.heap.size w w' := by
  have HAW := Lib.hid awake_any
  have TQ:∀ W:World,(binOp .eql 34 (.agg #[.int .i64 pr,.bool s6,.int .u64 sh,.int .u64 sl,.bool t6,.int .u64 th,.int .u64 tl,.int .i64 sp,.int .i64 port]) (.agg #[.int .i64 pr,.bool s6,.int .u64 sh,.int .u64 sl,.bool t6,.int .u64 th,.int .u64 tl,.int .i64 sp,.int .i64 port])).run Try.prog W = .ok (.bool true) W := fun W => tp_same (⟨pr,s6,sh,sl,t6,th,tl,sp,port⟩:Tp) W
  have HTN := Lib.hid (fun V => turned_1 pr s6 sh sl d6 dh dl sp dp s hs t6 th tl port V)
  clear hs
  obtain ⟨Y,hY⟩:∃ Y:Array Value,Y = #[.bool v6,.int .i64 pr,.bool s6,.int .u64 sh,.int .u64 sl,.bool d6,.int .u64 dh,.int .u64 dl,.int .i64 sp,.int .i64 dp,.int .i64 ttl,.int .i64 fl,.bool er,.int .i64 apr,.bool as6,.int .u64 ash,.int .u64 asl,.bool ad6,.int .u64 adh,.int .u64 adl,.int .i64 asp,.int .i64 adp,.int .i64 sz] := ⟨_,rfl⟩
  have ys:Y.size = 23 := by rw [hY]; rfl
  have ONE := Lib.hid (show Y.all (·.oneCell') = true from by rw [hY]; simp [Value.oneCell'])
  have HIY := Lib.hid (show (Try.prog.info? 36).map (·.size) = some Y.size from by rw [ys]; exact pk_size)
  have ZY := Lib.hid (show (#[.bool false,.int .i64 0,.bool false,.int .u64 0,.int .u64 0,.bool false,.int .u64 0,.int .u64 0,.int .i64 0,.int .i64 0,.int .i64 0,.int .i64 0,.bool false,.int .i64 0,.bool false,.int .u64 0,.int .u64 0,.bool false,.int .u64 0,.int .u64 0,.int .i64 0,.int .i64 0,.int .i64 0]:Array Value).size = Y.size from by rw [ys]; rfl)
  rw [← hY] at HP
  have HY := Lib.hid hY
  have HIT := Lib.hid tpz
  clear hY ys
  obtain ⟨w1,hw1⟩:∃ w1,w1 = w.alloc (.cells #[.bool t6,.int .u64 th,.int .u64 tl] 32) := ⟨_,rfl⟩
  obtain ⟨p,hp⟩:∃ p,p = w.heap.size := ⟨_,rfl⟩
  have E1 := Lib.hid hw1
  have EP := Lib.hid hp
  have B1 := Lib.hid (show Below w.heap.size w w1 from by rw [hw1]; exact (Below.refl _ _).alloc (Nat.le_refl _) _)
  have KT1 := Lib.hid (show Blk w1 p 32 #[.bool t6,.int .u64 th,.int .u64 tl] from by rw [hw1,hp]; exact Blk.new w _ _)
  clear hw1 hp
  have x0 := KT1.out.cell 0
  have x1 := KT1.out.cell 1
  have x2 := KT1.out.cell 2
  go_enter Try.func8,Try.ntmps8
  go_upto_region 1 with fail
  rw [← E1.out,← EP.out]
  go_wp2_with fail
  refine (HC.out _).mono ?_
  rintro o w' ⟨rfl,rfl⟩
  go_wp2_with fail
  refine (HW.out _ B1.out).mono ?_
  rintro o w2 ⟨rfl,hb2⟩
  clear x0 x1 x2
  obtain ⟨w3,hw3⟩:∃ w3,w3 = w2.alloc (.cells #[.int .i64 pr,.bool s6,.int .u64 sh,.int .u64 sl,.bool t6,.int .u64 th,.int .u64 tl,.int .i64 sp,.int .i64 port] 34) := ⟨_,rfl⟩
  obtain ⟨a,ha⟩:∃ a,a = w2.heap.size := ⟨_,rfl⟩
  have E3 := Lib.hid hw3
  have EA := Lib.hid ha
  have KA3 := Lib.hid (show Blk w3 a 34 #[.int .i64 pr,.bool s6,.int .u64 sh,.int .u64 sl,.bool t6,.int .u64 th,.int .u64 tl,.int .i64 sp,.int .i64 port] from by rw [hw3,ha]; exact Blk.new w2 _ _)
  have B23 := Lib.hid (show Below w2.heap.size w2 w3 from by rw [hw3]; exact (Below.refl _ _).alloc (Nat.le_refl _) _)
  have B13 := Lib.hid (hb2.trans (B23.out.mono hb2.size))
  have KT3 := Lib.hid (KT1.out.below B13.out KT1.out.lt)
  have B3 := Lib.hid (B1.out.trans (B13.out.mono B1.out.size))
  clear hw3 ha hb2
  go_upto_region 3 with fail
  rw [← E3.out,← EA.out]
  go_wp2_with fail
  refine (HP.out _ B3.out).mono ?_
  rintro o w4 ⟨rfl,hb4⟩
  obtain ⟨w5,hw5⟩:∃ w5,w5 = (w4.alloc (.cells #[.bool false,.int .i64 0,.bool false,.int .u64 0,.int .u64 0,.bool false,.int .u64 0,.int .u64 0,.int .i64 0,.int .i64 0,.int .i64 0,.int .i64 0,.bool false,.int .i64 0,.bool false,.int .u64 0,.int .u64 0,.bool false,.int .u64 0,.int .u64 0,.int .i64 0,.int .i64 0,.int .i64 0] 36)).setRow w4.heap.size Y := ⟨_,rfl⟩
  obtain ⟨g,hg⟩:∃ g,g = w4.heap.size := ⟨_,rfl⟩
  have E5 := Lib.hid hw5
  have EG := Lib.hid hg
  have KP5 := Lib.hid (show Blk w5 g 36 Y from by rw [hw5,hg]; exact blkRow (Blk.new w4 _ _) _)
  have B45 := Lib.hid (show Below w4.heap.size w4 w5 from by rw [hw5]; exact (onlyRow _).from ((Below.refl _ _).alloc (Nat.le_refl _) _) (Nat.le_refl _))
  have B35 := Lib.hid (hb4.trans (B45.out.mono hb4.size))
  have KT5 := Lib.hid (KT3.out.below B35.out KT3.out.lt)
  have KA5 := Lib.hid (KA3.out.below B35.out KA3.out.lt)
  have B5 := Lib.hid (B3.out.trans (B35.out.mono B3.out.size))
  clear hw5 hg hb4
  go_upto_region 4 with (refine wpList_store_row rfl 36 _ _ rfl w4.heap.size Y rfl rfl 36 #[.bool false,.int .i64 0,.bool false,.int .u64 0,.int .u64 0,.bool false,.int .u64 0,.int .u64 0,.int .i64 0,.int .i64 0,.int .i64 0,.int .i64 0,.bool false,.int .i64 0,.bool false,.int .u64 0,.int .u64 0,.bool false,.int .u64 0,.int .u64 0,.int .i64 0,.int .i64 0,.int .i64 0] (Blk.new w4 _ _) HIY.out ZY.out ONE.out ?_)
  rw [← E5.out,← EG.out]
  have HSF := Lib.hid (show ∀ V,Below w5.heap.size w5 V → (V.cell? ⟨a,0,none⟩ = some (.int .i64 pr)∧V.cell? ⟨a,1,none⟩ = some (.bool s6)∧V.cell? ⟨a,2,none⟩ = some (.int .u64 sh)∧V.cell? ⟨a,3,none⟩ = some (.int .u64 sl)∧V.cell? ⟨a,4,none⟩ = some (.bool t6)∧V.cell? ⟨a,5,none⟩ = some (.int .u64 th)∧V.cell? ⟨a,6,none⟩ = some (.int .u64 tl)∧V.cell? ⟨a,7,none⟩ = some (.int .i64 sp)∧V.cell? ⟨a,8,none⟩ = some (.int .i64 port)∧V.cell? ⟨g,1,none⟩ = some (.int .i64 pr)∧V.cell? ⟨g,2,none⟩ = some (.bool s6)∧V.cell? ⟨g,3,none⟩ = some (.int .u64 sh)∧V.cell? ⟨g,4,none⟩ = some (.int .u64 sl)∧V.cell? ⟨g,5,none⟩ = some (.bool d6)∧V.cell? ⟨g,6,none⟩ = some (.int .u64 dh)∧V.cell? ⟨g,7,none⟩ = some (.int .u64 dl)∧V.cell? ⟨g,8,none⟩ = some (.int .i64 sp)∧V.cell? ⟨g,9,none⟩ = some (.int .i64 dp)∧V.cell? ⟨p,0,none⟩ = some (.bool t6)∧V.cell? ⟨p,1,none⟩ = some (.int .u64 th)∧V.cell? ⟨p,2,none⟩ = some (.int .u64 tl)) from fun V hV => by
    have h1 := KA5.out.below hV KA5.out.lt
    have h2 := KP5.out.below hV KP5.out.lt
    have h3 := KT5.out.below hV KT5.out.lt
    rw [HY.out] at h2
    exact ⟨h1.cell 0,h1.cell 1,h1.cell 2,h1.cell 3,h1.cell 4,h1.cell 5,h1.cell 6,h1.cell 7,h1.cell 8,h2.cell 1,h2.cell 2,h2.cell 3,h2.cell 4,h2.cell 5,h2.cell 6,h2.cell 7,h2.cell 8,h2.cell 9,h3.cell 0,h3.cell 1,h3.cell 2⟩)
  have HS0 := Lib.hid (HSF.out w5.drew (Below.refl _ _).drew)
  go_upto_region 6 with fail
  go_region_held3 (fun V => V.cell? ⟨a,0,none⟩ = some (.int .i64 pr)∧V.cell? ⟨a,1,none⟩ = some (.bool s6)∧V.cell? ⟨a,2,none⟩ = some (.int .u64 sh)∧V.cell? ⟨a,3,none⟩ = some (.int .u64 sl)∧V.cell? ⟨a,4,none⟩ = some (.bool t6)∧V.cell? ⟨a,5,none⟩ = some (.int .u64 th)∧V.cell? ⟨a,6,none⟩ = some (.int .u64 tl)∧V.cell? ⟨a,7,none⟩ = some (.int .i64 sp)∧V.cell? ⟨a,8,none⟩ = some (.int .i64 port)∧V.cell? ⟨g,1,none⟩ = some (.int .i64 pr)∧V.cell? ⟨g,2,none⟩ = some (.bool s6)∧V.cell? ⟨g,3,none⟩ = some (.int .u64 sh)∧V.cell? ⟨g,4,none⟩ = some (.int .u64 sl)∧V.cell? ⟨g,5,none⟩ = some (.bool d6)∧V.cell? ⟨g,6,none⟩ = some (.int .u64 dh)∧V.cell? ⟨g,7,none⟩ = some (.int .u64 dl)∧V.cell? ⟨g,8,none⟩ = some (.int .i64 sp)∧V.cell? ⟨g,9,none⟩ = some (.int .i64 dp)∧V.cell? ⟨p,0,none⟩ = some (.bool t6)∧V.cell? ⟨p,1,none⟩ = some (.int .u64 th)∧V.cell? ⟨p,2,none⟩ = some (.int .u64 tl)) (first | with_reducible assumption | with_reducible exact HS0.out | with_reducible exact HS7.out | with_reducible exact HS6.out) (first
    | (go_at_call 24; (with_reducible refine (HTN.out _).mono ?_); rintro o w6 ⟨rfl,hb6⟩; have B56 := Lib.hid ((Below.refl w5.heap.size w5).drew.trans (hb6.mono (Nat.le_refl _))); have HS6 := Lib.hid (HSF.out w6 B56.out); clear hb6)
    | (go_at_call 23; (with_reducible refine (HAW.out _).mono ?_); rintro o w7 ⟨rfl,hb7⟩; have B57 := Lib.hid (B56.out.trans (hb7.mono B56.out.size)); have HS7 := Lib.hid (HSF.out w7 B57.out); clear hb7))
  go_wp2_with fail
  go_ret
  exact ⟨rfl,B5.out.trans (B57.out.mono B5.out.size)⟩
theorem flows_law (s:Int) (t6:Bool) (th tl port:Int) (A:Option Addr) (n0 c:Nat) (l0:List Int) (w:World) (hl0:l0.length = n0) (hr0:Row w w.heap.size A (l0.map (.int .u8))) (hu0:U8 l0) (hnc0:n0 ≤ c) (hc:c ≤ 9223372036854775807) (hnil:A = none → c = 0) :
    Calls Try.prog 8 #[.slice A n0 c,.int .i64 s,.agg #[.bool t6,.int .u64 th,.int .u64 tl],.int .i64 port] w fun o w' => o = .returned (.bool true)∧Below w.heap.size w w' := by
  have HC := Lib.hid fun W => cut_any A n0 c W (fun h => by
    obtain ⟨b,off,hA,_,_⟩ := lies_of hr0 (by omega)
    exact ⟨b,off,hA⟩) hnc0 hc
  obtain ⟨n,hn⟩:∃ n,n = min n0 500 := ⟨_,rfl⟩
  obtain ⟨l,hll⟩:∃ l,l = l0.take n := ⟨_,rfl⟩
  have hl:l.length = n := by rw [hll,List.length_take]; omega
  have hu:U8 l := by rw [hll]; exact hu0.take n
  have hr:Row w w.heap.size A (l.map (.int .u8)) := by
    have := hr0.take n
    rw [← List.map_take,← hll] at this
    exact this
  have hsl:Sl w A n c l := ⟨hl,hr,by omega,hc,hnil,hu⟩
  rw [← hn] at HC
  have HP := fun V (hV:Below w.heap.size w V) => parse_any A n c l V (hsl.below hV) (by omega)
  generalize pkP l = z at HP
  obtain ⟨⟨v6,⟨pr,s6,sh,sl,d6,dh,dl,sp,dp⟩,ttl,fl,er,⟨apr,as6,ash,asl,ad6,adh,adl,asp,adp⟩,sz⟩,e⟩ := z
  by_cases he:e = 0
  · subst he
    by_cases hs:s = 0
    · subst hs
      exact law_0 A n0 n c t6 th tl port v6 pr s6 sh sl d6 dh dl sp dp ttl fl er apr as6 ash asl ad6 adh adl asp adp sz w HC (Lib.hid fun V hV => whole_0 A n c t6 th tl port v6 pr s6 sh sl d6 dh dl sp dp ttl fl er apr as6 ash asl ad6 adh adl asp adp sz V (Lib.hid fun V2 hV2 => HP V2 (hV.trans (hV2.mono hV.size)))) (Lib.hid HP)
    · exact law_1 A n0 n c s hs t6 th tl port v6 pr s6 sh sl d6 dh dl sp dp ttl fl er apr as6 ash asl ad6 adh adl asp adp sz w HC (Lib.hid fun V hV => whole_1 A n c s hs t6 th tl port v6 pr s6 sh sl d6 dh dl sp dp ttl fl er apr as6 ash asl ad6 adh adl asp adp sz V (Lib.hid fun V2 hV2 => HP V2 (hV.trans (hV2.mono hV.size)))) (Lib.hid HP)
  · exact law_e A n0 n c s t6 th tl port v6 pr s6 sh sl d6 dh dl sp dp ttl fl er apr as6 ash asl ad6 adh adl asp adp sz e he w HC (Lib.hid fun V hV => whole_e A n c s t6 th tl port v6 pr s6 sh sl d6 dh dl sp dp ttl fl er apr as6 ash asl ad6 adh adl asp adp sz e he V (Lib.hid fun V2 hV2 => HP V2 (hV.trans (hV2.mono hV.size)))) (Lib.hid HP)
end Go.Proofs.Ytodckfgfbcnkoaa.natG
/- Arguments opened. -/
namespace Go.Proofs.Ytodckfgfbcnkoaa.base
open Go.RowKit Go.WideShapes Go.ChangeShapes Go.Joins Go.Deep
set_option linter.unusedVariables false
section
variable {H:Type} {enc:TypeId × Value → H} {P:Program} {w:World} {b0 base:Nat} {spare:Nat → Bool} {held:Bool}
theorem open_i64 {r:Reach} {t:TypeId} {v:Value} {d:DataW H} {p:List MemPlace} (he:P.underlying t = some (.int .i64)) (hv:Value.okWide P w r b0 t v) (h:DataW.Trod enc P w base spare held t v d p) :
    ∃ x:Int,v = .int .i64 x∧-9223372036854775808 ≤ x∧x < 9223372036854775808 := by
  obtain ⟨x,rfl,rfl,rfl,wx⟩ := open_int he hv h
  have hx := bounds_i64 wx
  exact ⟨x,rfl,hx.1,by omega⟩
end
end Go.Proofs.Ytodckfgfbcnkoaa.base
