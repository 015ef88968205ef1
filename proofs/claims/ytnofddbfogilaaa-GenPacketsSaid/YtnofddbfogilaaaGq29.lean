/- 2 texts in one. -/
import Derived.Test.YtnofddbfogilaaaGq26
import Derived.Test.YtnofddbfogilaaaGq28
/- Layer 35: Datagram and Segment, their bytes in a block of their own. -/
namespace Go.Proofs.Ytnofddbfogilaaa.genO
set_option maxHeartbeats 4000000
set_option maxRecDepth 100000
open Go.ChangeShapes Go.WideShapes Go.ChangeAt Go.RowKit
open base octA rdrA rdrG sumA sumB sixW sixM pktA pktB pktC pktE sixE sixF pktG pktL pktM pktR pktS
set_option linter.unusedVariables false
set_option linter.unusedSimpArgs false
structure OwB (w:World) (K:Nat) (A:Option Addr) (n c:Nat) (l:List Int):Prop where
 own:w.ownsRow K 5 1 (.slice A n c) n (l.map (.int .u8))
 len:l.length=n
 u8:U8 l
theorem OwB.sl {w:World} {K:Nat} {A:Option Addr} {n c:Nat} {l:List Int} (h:OwB w K A n c l):Sl w A n c l:=Sl.own h.own h.len h.u8
def MkO (K:Nat) (e:Int) (out:List Int) (w:World) (o:Ending) (w':World):Prop:=Below w.heap.size w w'∧∃ (A:Option Addr) (n c:Nat),o=.returned (.tuple #[.slice A n c,.int .i64 e])∧OwB w' K A n c out
theorem whole_dg_fourO (K:Nat) (pr:Int) (sh sl:Int) (d6:Bool) (dh dl sp dp ttl sz:Int) (c1 c2:Nat) (ps bs:List Int) (e:Int) (out:List Int) (w:World)
  (HPS:Hid (∀ V,Below w.heap.size w V→Calls Try.prog 53 #[.agg #[.bool false,.int .u64 sh,.int .u64 sl],.agg #[.bool d6,.int .u64 dh,.int .u64 dl],.int .i64 pr,.int .i64 sz] V (Gives ps V)))
  (HC:Hid (∀ V A2 n2 k2,Below w.heap.size w V→Sl V A2 n2 k2 ps→Calls Try.prog 40 #[.slice A2 n2 k2,.pointer (some ⟨c1,0,none⟩),.pointer (some ⟨c2,0,none⟩)] V (MkP 0 bs V)))
  (HB:Hid (∀ V A2 n2 k2,Below w.heap.size w V→Sl V A2 n2 k2 bs→Calls Try.prog 55 #[.agg #[.int .i64 0,.int .i64 0,.bool false,.bool false,.int .i64 0,.int .i64 ttl,.int .i64 pr,.bool false,.int .u64 sh,.int .u64 sl,.bool d6,.int .u64 dh,.int .u64 dl,.slice none 0 0],.slice A2 n2 k2] V (MkO K e out V))) :
  Calls Try.prog 39 #[.agg #[.int .i64 pr,.bool false,.int .u64 sh,.int .u64 sl,.bool d6,.int .u64 dh,.int .u64 dl,.int .i64 sp,.int .i64 dp],.int .i64 ttl,.int .i64 sz,.func (.func 40) #[] #[.pointer (some ⟨c1,0,none⟩),.pointer (some ⟨c2,0,none⟩)]] w (MkO K e out w):=by
 obtain ⟨w1,hw1⟩:∃ w1,w1=w.alloc (.cells #[.int .i64 pr,.bool false,.int .u64 sh,.int .u64 sl,.bool d6,.int .u64 dh,.int .u64 dl,.int .i64 sp,.int .i64 dp] 39):=⟨_,rfl⟩
 have E1:=Lib.hid hw1
 have B1:=Lib.hid (show Below w.heap.size w w1 from by rw [hw1]; exact (Below.refl _ _).alloc (Nat.le_refl _) _)
 obtain ⟨g,hg⟩:∃ g,g=w.heap.size:=⟨_,rfl⟩
 have EG:=Lib.hid hg
 have KP:=Lib.hid (show Blk w1 g 39 #[.int .i64 pr,.bool false,.int .u64 sh,.int .u64 sl,.bool d6,.int .u64 dh,.int .u64 dl,.int .i64 sp,.int .i64 dp] from by rw [hw1,hg]; exact Blk.new w _ _)
 clear hw1 hg
 go_enter Try.func39,Try.ntmps39
 go_upto_region 1 with fail
 rw [← E1.out,← EG.out]
 have p0:=KP.out.cell 0
 have p1:=KP.out.cell 1
 have p2:=KP.out.cell 2
 have p3:=KP.out.cell 3
 have p4:=KP.out.cell 4
 have p5:=KP.out.cell 5
 have p6:=KP.out.cell 6
 go_wp2_with fail
 refine (HPS.out _ B1.out).mono ?_
 rintro o w2 ⟨hb2,A2,n2,k2,rfl,hsl,hge⟩
 have KP2:=Lib.hid (KP.out.below hb2 KP.out.lt)
 have B2:=Lib.hid (B1.out.trans (hb2.mono B1.out.size))
 have HC2:=Lib.hid (HC.out w2 A2 n2 k2 B2.out hsl)
 clear hb2 hsl hge p0 p1 p2 p3 p4 p5 p6
 go_wp2_with fail
 refine HC2.out.mono ?_
 rintro o w3 ⟨hb3,A3,n3,c3,rfl,hs3⟩
 have KP3:=Lib.hid (KP2.out.below hb3 KP2.out.lt)
 have B3:=Lib.hid (B2.out.trans (hb3.mono B2.out.size))
 have HB3:=Lib.hid (HB.out w3 A3 n3 c3 B3.out hs3)
 clear hb3 hs3
 have p0:=KP3.out.cell 0
 have p1:=KP3.out.cell 1
 have p2:=KP3.out.cell 2
 have p3:=KP3.out.cell 3
 have p4:=KP3.out.cell 4
 have p5:=KP3.out.cell 5
 have p6:=KP3.out.cell 6
 go_wp2_with fail
 refine HB3.out.mono ?_
 rintro o w4 ⟨hb4,A4,n4,c4,rfl,hs4⟩
 have B4:=Lib.hid (B3.out.trans (hb4.mono B3.out.size))
 clear hb4
 go_wp2_with fail
 go_ret2
 exact ⟨B4.out,A4,n4,c4,rfl,hs4⟩
theorem whole_dg_sixO (K:Nat) (pr:Int) (sh sl:Int) (d6:Bool) (dh dl sp dp ttl sz:Int) (c1 c2:Nat) (ps bs:List Int) (e:Int) (out:List Int) (w:World)
  (HPS:Hid (∀ V,Below w.heap.size w V→Calls Try.prog 53 #[.agg #[.bool true,.int .u64 sh,.int .u64 sl],.agg #[.bool d6,.int .u64 dh,.int .u64 dl],.int .i64 pr,.int .i64 sz] V (Gives ps V)))
  (HC:Hid (∀ V A2 n2 k2,Below w.heap.size w V→Sl V A2 n2 k2 ps→Calls Try.prog 40 #[.slice A2 n2 k2,.pointer (some ⟨c1,0,none⟩),.pointer (some ⟨c2,0,none⟩)] V (MkP 0 bs V)))
  (HB:Hid (∀ V A2 n2 k2,Below w.heap.size w V→Sl V A2 n2 k2 bs→Calls Try.prog 54 #[.agg #[.int .i64 0,.int .i64 0,.int .i64 ttl,.bool true,.int .u64 sh,.int .u64 sl,.bool d6,.int .u64 dh,.int .u64 dl,.slice none 0 0,.int .i64 pr],.slice A2 n2 k2] V (MkO K e out V))) :
  Calls Try.prog 39 #[.agg #[.int .i64 pr,.bool true,.int .u64 sh,.int .u64 sl,.bool d6,.int .u64 dh,.int .u64 dl,.int .i64 sp,.int .i64 dp],.int .i64 ttl,.int .i64 sz,.func (.func 40) #[] #[.pointer (some ⟨c1,0,none⟩),.pointer (some ⟨c2,0,none⟩)]] w (MkO K e out w):=by
 obtain ⟨w1,hw1⟩:∃ w1,w1=w.alloc (.cells #[.int .i64 pr,.bool true,.int .u64 sh,.int .u64 sl,.bool d6,.int .u64 dh,.int .u64 dl,.int .i64 sp,.int .i64 dp] 39):=⟨_,rfl⟩
 have E1:=Lib.hid hw1
 have B1:=Lib.hid (show Below w.heap.size w w1 from by rw [hw1]; exact (Below.refl _ _).alloc (Nat.le_refl _) _)
 obtain ⟨g,hg⟩:∃ g,g=w.heap.size:=⟨_,rfl⟩
 have EG:=Lib.hid hg
 have KP:=Lib.hid (show Blk w1 g 39 #[.int .i64 pr,.bool true,.int .u64 sh,.int .u64 sl,.bool d6,.int .u64 dh,.int .u64 dl,.int .i64 sp,.int .i64 dp] from by rw [hw1,hg]; exact Blk.new w _ _)
 clear hw1 hg
 go_enter Try.func39,Try.ntmps39
 go_upto_region 1 with fail
 rw [← E1.out,← EG.out]
 have p0:=KP.out.cell 0
 have p1:=KP.out.cell 1
 have p2:=KP.out.cell 2
 have p3:=KP.out.cell 3
 have p4:=KP.out.cell 4
 have p5:=KP.out.cell 5
 have p6:=KP.out.cell 6
 go_wp2_with fail
 refine (HPS.out _ B1.out).mono ?_
 rintro o w2 ⟨hb2,A2,n2,k2,rfl,hsl,hge⟩
 have KP2:=Lib.hid (KP.out.below hb2 KP.out.lt)
 have B2:=Lib.hid (B1.out.trans (hb2.mono B1.out.size))
 have HC2:=Lib.hid (HC.out w2 A2 n2 k2 B2.out hsl)
 clear hb2 hsl hge p0 p1 p2 p3 p4 p5 p6
 go_wp2_with fail
 refine HC2.out.mono ?_
 rintro o w3 ⟨hb3,A3,n3,c3,rfl,hs3⟩
 have KP3:=Lib.hid (KP2.out.below hb3 KP2.out.lt)
 have B3:=Lib.hid (B2.out.trans (hb3.mono B2.out.size))
 have HB3:=Lib.hid (HB.out w3 A3 n3 c3 B3.out hs3)
 clear hb3 hs3
 have p0:=KP3.out.cell 0
 have p1:=KP3.out.cell 1
 have p2:=KP3.out.cell 2
 have p3:=KP3.out.cell 3
 have p4:=KP3.out.cell 4
 have p5:=KP3.out.cell 5
 have p6:=KP3.out.cell 6
 go_wp2_with fail
 refine HB3.out.mono ?_
 rintro o w4 ⟨hb4,A4,n4,c4,rfl,hs4⟩
 have B4:=Lib.hid (B3.out.trans (hb4.mono B3.out.size))
 clear hb4
 go_wp2_with fail
 go_ret2
 exact ⟨B4.out,A4,n4,c4,rfl,hs4⟩
theorem whole_sg_fourO (K:Nat) (pr:Int) (sh sl:Int) (d6:Bool) (dh dl sp dp ttl sz:Int) (c1 c2 c3:Nat) (ps bs:List Int) (e:Int) (out:List Int) (w:World)
  (HPS:Hid (∀ V,Below w.heap.size w V→Calls Try.prog 53 #[.agg #[.bool false,.int .u64 sh,.int .u64 sl],.agg #[.bool d6,.int .u64 dh,.int .u64 dl],.int .i64 pr,.int .i64 sz] V (Gives ps V)))
  (HC:Hid (∀ V A2 n2 k2,Below w.heap.size w V→Sl V A2 n2 k2 ps→Calls Try.prog 42 #[.slice A2 n2 k2,.pointer (some ⟨c1,0,none⟩),.pointer (some ⟨c2,0,none⟩),.pointer (some ⟨c3,0,none⟩)] V (MkP 0 bs V)))
  (HB:Hid (∀ V A2 n2 k2,Below w.heap.size w V→Sl V A2 n2 k2 bs→Calls Try.prog 55 #[.agg #[.int .i64 0,.int .i64 0,.bool false,.bool false,.int .i64 0,.int .i64 ttl,.int .i64 pr,.bool false,.int .u64 sh,.int .u64 sl,.bool d6,.int .u64 dh,.int .u64 dl,.slice none 0 0],.slice A2 n2 k2] V (MkO K e out V))) :
  Calls Try.prog 39 #[.agg #[.int .i64 pr,.bool false,.int .u64 sh,.int .u64 sl,.bool d6,.int .u64 dh,.int .u64 dl,.int .i64 sp,.int .i64 dp],.int .i64 ttl,.int .i64 sz,.func (.func 42) #[] #[.pointer (some ⟨c1,0,none⟩),.pointer (some ⟨c2,0,none⟩),.pointer (some ⟨c3,0,none⟩)]] w (MkO K e out w):=by
 obtain ⟨w1,hw1⟩:∃ w1,w1=w.alloc (.cells #[.int .i64 pr,.bool false,.int .u64 sh,.int .u64 sl,.bool d6,.int .u64 dh,.int .u64 dl,.int .i64 sp,.int .i64 dp] 39):=⟨_,rfl⟩
 have E1:=Lib.hid hw1
 have B1:=Lib.hid (show Below w.heap.size w w1 from by rw [hw1]; exact (Below.refl _ _).alloc (Nat.le_refl _) _)
 obtain ⟨g,hg⟩:∃ g,g=w.heap.size:=⟨_,rfl⟩
 have EG:=Lib.hid hg
 have KP:=Lib.hid (show Blk w1 g 39 #[.int .i64 pr,.bool false,.int .u64 sh,.int .u64 sl,.bool d6,.int .u64 dh,.int .u64 dl,.int .i64 sp,.int .i64 dp] from by rw [hw1,hg]; exact Blk.new w _ _)
 clear hw1 hg
 go_enter Try.func39,Try.ntmps39
 go_upto_region 1 with fail
 rw [← E1.out,← EG.out]
 have p0:=KP.out.cell 0
 have p1:=KP.out.cell 1
 have p2:=KP.out.cell 2
 have p3:=KP.out.cell 3
 have p4:=KP.out.cell 4
 have p5:=KP.out.cell 5
 have p6:=KP.out.cell 6
 go_wp2_with fail
 refine (HPS.out _ B1.out).mono ?_
 rintro o w2 ⟨hb2,A2,n2,k2,rfl,hsl,hge⟩
 have KP2:=Lib.hid (KP.out.below hb2 KP.out.lt)
 have B2:=Lib.hid (B1.out.trans (hb2.mono B1.out.size))
 have HC2:=Lib.hid (HC.out w2 A2 n2 k2 B2.out hsl)
 clear hb2 hsl hge p0 p1 p2 p3 p4 p5 p6
 go_wp2_with fail
 refine HC2.out.mono ?_
 rintro o w3 ⟨hb3,A3,n3,c3,rfl,hs3⟩
 have KP3:=Lib.hid (KP2.out.below hb3 KP2.out.lt)
 have B3:=Lib.hid (B2.out.trans (hb3.mono B2.out.size))
 have HB3:=Lib.hid (HB.out w3 A3 n3 c3 B3.out hs3)
 clear hb3 hs3
 have p0:=KP3.out.cell 0
 have p1:=KP3.out.cell 1
 have p2:=KP3.out.cell 2
 have p3:=KP3.out.cell 3
 have p4:=KP3.out.cell 4
 have p5:=KP3.out.cell 5
 have p6:=KP3.out.cell 6
 go_wp2_with fail
 refine HB3.out.mono ?_
 rintro o w4 ⟨hb4,A4,n4,c4,rfl,hs4⟩
 have B4:=Lib.hid (B3.out.trans (hb4.mono B3.out.size))
 clear hb4
 go_wp2_with fail
 go_ret2
 exact ⟨B4.out,A4,n4,c4,rfl,hs4⟩
theorem whole_sg_sixO (K:Nat) (pr:Int) (sh sl:Int) (d6:Bool) (dh dl sp dp ttl sz:Int) (c1 c2 c3:Nat) (ps bs:List Int) (e:Int) (out:List Int) (w:World)
  (HPS:Hid (∀ V,Below w.heap.size w V→Calls Try.prog 53 #[.agg #[.bool true,.int .u64 sh,.int .u64 sl],.agg #[.bool d6,.int .u64 dh,.int .u64 dl],.int .i64 pr,.int .i64 sz] V (Gives ps V)))
  (HC:Hid (∀ V A2 n2 k2,Below w.heap.size w V→Sl V A2 n2 k2 ps→Calls Try.prog 42 #[.slice A2 n2 k2,.pointer (some ⟨c1,0,none⟩),.pointer (some ⟨c2,0,none⟩),.pointer (some ⟨c3,0,none⟩)] V (MkP 0 bs V)))
  (HB:Hid (∀ V A2 n2 k2,Below w.heap.size w V→Sl V A2 n2 k2 bs→Calls Try.prog 54 #[.agg #[.int .i64 0,.int .i64 0,.int .i64 ttl,.bool true,.int .u64 sh,.int .u64 sl,.bool d6,.int .u64 dh,.int .u64 dl,.slice none 0 0,.int .i64 pr],.slice A2 n2 k2] V (MkO K e out V))) :
  Calls Try.prog 39 #[.agg #[.int .i64 pr,.bool true,.int .u64 sh,.int .u64 sl,.bool d6,.int .u64 dh,.int .u64 dl,.int .i64 sp,.int .i64 dp],.int .i64 ttl,.int .i64 sz,.func (.func 42) #[] #[.pointer (some ⟨c1,0,none⟩),.pointer (some ⟨c2,0,none⟩),.pointer (some ⟨c3,0,none⟩)]] w (MkO K e out w):=by
 obtain ⟨w1,hw1⟩:∃ w1,w1=w.alloc (.cells #[.int .i64 pr,.bool true,.int .u64 sh,.int .u64 sl,.bool d6,.int .u64 dh,.int .u64 dl,.int .i64 sp,.int .i64 dp] 39):=⟨_,rfl⟩
 have E1:=Lib.hid hw1
 have B1:=Lib.hid (show Below w.heap.size w w1 from by rw [hw1]; exact (Below.refl _ _).alloc (Nat.le_refl _) _)
 obtain ⟨g,hg⟩:∃ g,g=w.heap.size:=⟨_,rfl⟩
 have EG:=Lib.hid hg
 have KP:=Lib.hid (show Blk w1 g 39 #[.int .i64 pr,.bool true,.int .u64 sh,.int .u64 sl,.bool d6,.int .u64 dh,.int .u64 dl,.int .i64 sp,.int .i64 dp] from by rw [hw1,hg]; exact Blk.new w _ _)
 clear hw1 hg
 go_enter Try.func39,Try.ntmps39
 go_upto_region 1 with fail
 rw [← E1.out,← EG.out]
 have p0:=KP.out.cell 0
 have p1:=KP.out.cell 1
 have p2:=KP.out.cell 2
 have p3:=KP.out.cell 3
 have p4:=KP.out.cell 4
 have p5:=KP.out.cell 5
 have p6:=KP.out.cell 6
 go_wp2_with fail
 refine (HPS.out _ B1.out).mono ?_
 rintro o w2 ⟨hb2,A2,n2,k2,rfl,hsl,hge⟩
 have KP2:=Lib.hid (KP.out.below hb2 KP.out.lt)
 have B2:=Lib.hid (B1.out.trans (hb2.mono B1.out.size))
 have HC2:=Lib.hid (HC.out w2 A2 n2 k2 B2.out hsl)
 clear hb2 hsl hge p0 p1 p2 p3 p4 p5 p6
 go_wp2_with fail
 refine HC2.out.mono ?_
 rintro o w3 ⟨hb3,A3,n3,c3,rfl,hs3⟩
 have KP3:=Lib.hid (KP2.out.below hb3 KP2.out.lt)
 have B3:=Lib.hid (B2.out.trans (hb3.mono B2.out.size))
 have HB3:=Lib.hid (HB.out w3 A3 n3 c3 B3.out hs3)
 clear hb3 hs3
 have p0:=KP3.out.cell 0
 have p1:=KP3.out.cell 1
 have p2:=KP3.out.cell 2
 have p3:=KP3.out.cell 3
 have p4:=KP3.out.cell 4
 have p5:=KP3.out.cell 5
 have p6:=KP3.out.cell 6
 go_wp2_with fail
 refine HB3.out.mono ?_
 rintro o w4 ⟨hb4,A4,n4,c4,rfl,hs4⟩
 have B4:=Lib.hid (B3.out.trans (hb4.mono B3.out.size))
 clear hb4
 go_wp2_with fail
 go_ret2
 exact ⟨B4.out,A4,n4,c4,rfl,hs4⟩
theorem dgram_goO (K:Nat) (s6:Bool) (sh sl:Int) (dh dl sp dp ttl:Int) (A:Option Addr) (n c:Nat) (e:Int) (bs:List Int) (w:World) (hn:n≤1000)
  (HW:Hid (∀ V c1 c2,Below w.heap.size w V→Blk V c1 39 #[.int .i64 17,.bool s6,.int .u64 sh,.int .u64 sl,.bool s6,.int .u64 dh,.int .u64 dl,.int .i64 sp,.int .i64 dp]→Blk V c2 47 #[.slice A n c]→Calls Try.prog 39 #[.agg #[.int .i64 17,.bool s6,.int .u64 sh,.int .u64 sl,.bool s6,.int .u64 dh,.int .u64 dl,.int .i64 sp,.int .i64 dp],.int .i64 ttl,.int .i64 (8+(n:Int)),.func (.func 40) #[] #[.pointer (some ⟨c1,0,none⟩),.pointer (some ⟨c2,0,none⟩)]] V (MkO K e bs V))) :
  Calls Try.prog 25 #[.agg #[.int .i64 17,.bool s6,.int .u64 sh,.int .u64 sl,.bool s6,.int .u64 dh,.int .u64 dl,.int .i64 sp,.int .i64 dp],.int .i64 ttl,.slice A n c] w (MkO K e bs w):=by
 have hmf:∀ (fn:Fn) (first cap:Array Value) (w:World),(Instr.makeFunc fn first cap).run Try.prog w=.ok (.func fn first cap) w:=fun _ _ _ _=>rfl
 obtain ⟨w1,hw1⟩:∃ w1,w1=(w.alloc (.cells #[.int .i64 17,.bool s6,.int .u64 sh,.int .u64 sl,.bool s6,.int .u64 dh,.int .u64 dl,.int .i64 sp,.int .i64 dp] 39)).alloc (.cells #[.slice A n c] 47):=⟨_,rfl⟩
 have E1:=Lib.hid hw1
 have B1:=Lib.hid (show Below w.heap.size w w1 from by rw [hw1]; exact ((Below.refl _ _).alloc (Nat.le_refl _) _).alloc (by simp) _)
 obtain ⟨g,hg⟩:∃ g,g=w.heap.size:=⟨_,rfl⟩
 obtain ⟨q,hq⟩:∃ q,q=w.heap.size+1:=⟨_,rfl⟩
 have EG:=Lib.hid hg
 have EQ:=Lib.hid hq
 have KP:=Lib.hid (show Blk w1 g 39 #[.int .i64 17,.bool s6,.int .u64 sh,.int .u64 sl,.bool s6,.int .u64 dh,.int .u64 dl,.int .i64 sp,.int .i64 dp] from by rw [hw1,hg]; exact (Blk.new w _ _).below ((Below.refl _ _).alloc (Nat.le_refl _) _) (Blk.new w _ _).lt)
 have KQ:=Lib.hid (show Blk w1 q 47 #[.slice A n c] from by
  have h9:=Blk.new (w.alloc (.cells #[.int .i64 17,.bool s6,.int .u64 sh,.int .u64 sl,.bool s6,.int .u64 dh,.int .u64 dl,.int .i64 sp,.int .i64 dp] 39)) 47 #[.slice A n c]
  rw [← hw1] at h9
  rw [hq]
  simpa using h9)
 have HW1:=Lib.hid (HW.out w1 g q B1.out KP.out KQ.out)
 have tv:(s6 == s6)=true:=by simp
 clear hw1 hg hq
 go_enter Try.func25,Try.ntmps25
 go_upto_region 1 with fail
 rw [← E1.out,← EQ.out,← EG.out]
 have p0:=KP.out.cell 0
 have p1:=KP.out.cell 1
 have p2:=KP.out.cell 2
 have p3:=KP.out.cell 3
 have p4:=KP.out.cell 4
 have p5:=KP.out.cell 5
 have p6:=KP.out.cell 6
 have p7:=KP.out.cell 7
 have p8:=KP.out.cell 8
 have q0:=KQ.out.cell 0
 go_wp2_with fail
 refine HW1.out.mono ?_
 rintro o w4 ⟨hb4,A4,n4,c4,rfl,hs4⟩
 have B4:=Lib.hid (B1.out.trans (hb4.mono B1.out.size))
 clear hb4
 go_wp2_with fail
 go_ret2
 exact ⟨B4.out,A4,n4,c4,rfl,hs4⟩
theorem segm_goO (K:Nat) (s6:Bool) (sh sl:Int) (dh dl sp dp ttl fl:Int) (A:Option Addr) (n c:Nat) (e:Int) (bs:List Int) (w:World) (hn:n≤1000)
  (HW:Hid (∀ V c1 c2 c3,Below w.heap.size w V→Blk V c1 39 #[.int .i64 6,.bool s6,.int .u64 sh,.int .u64 sl,.bool s6,.int .u64 dh,.int .u64 dl,.int .i64 sp,.int .i64 dp]→Blk V c2 3 #[.int .i64 fl]→Blk V c3 47 #[.slice A n c]→Calls Try.prog 39 #[.agg #[.int .i64 6,.bool s6,.int .u64 sh,.int .u64 sl,.bool s6,.int .u64 dh,.int .u64 dl,.int .i64 sp,.int .i64 dp],.int .i64 ttl,.int .i64 (20+(n:Int)),.func (.func 42) #[] #[.pointer (some ⟨c1,0,none⟩),.pointer (some ⟨c2,0,none⟩),.pointer (some ⟨c3,0,none⟩)]] V (MkO K e bs V))) :
  Calls Try.prog 28 #[.agg #[.int .i64 6,.bool s6,.int .u64 sh,.int .u64 sl,.bool s6,.int .u64 dh,.int .u64 dl,.int .i64 sp,.int .i64 dp],.int .i64 ttl,.int .i64 fl,.slice A n c] w (MkO K e bs w):=by
 have hmf:∀ (fn:Fn) (first cap:Array Value) (w:World),(Instr.makeFunc fn first cap).run Try.prog w=.ok (.func fn first cap) w:=fun _ _ _ _=>rfl
 obtain ⟨w0,hw0⟩:∃ w0,w0=(w.alloc (.cells #[.int .i64 6,.bool s6,.int .u64 sh,.int .u64 sl,.bool s6,.int .u64 dh,.int .u64 dl,.int .i64 sp,.int .i64 dp] 39)).alloc (.cells #[.int .i64 fl] 3):=⟨_,rfl⟩
 obtain ⟨w1,hw1⟩:∃ w1,w1=w0.alloc (.cells #[.slice A n c] 47):=⟨_,rfl⟩
 have E1:=Lib.hid (show w1=((w.alloc (.cells #[.int .i64 6,.bool s6,.int .u64 sh,.int .u64 sl,.bool s6,.int .u64 dh,.int .u64 dl,.int .i64 sp,.int .i64 dp] 39)).alloc (.cells #[.int .i64 fl] 3)).alloc (.cells #[.slice A n c] 47) from by rw [hw1,hw0])
 have B0:=(show Below w.heap.size w w0 from by rw [hw0]; exact ((Below.refl _ _).alloc (Nat.le_refl _) _).alloc (by simp) _)
 have s0:w0.heap.size=w.heap.size+2:=by rw [hw0]; simp
 have B1:=Lib.hid (show Below w.heap.size w w1 from by rw [hw1]; exact B0.alloc B0.size _)
 obtain ⟨g,hg⟩:∃ g,g=w.heap.size:=⟨_,rfl⟩
 obtain ⟨q,hq⟩:∃ q,q=w.heap.size+1:=⟨_,rfl⟩
 obtain ⟨r,hr⟩:∃ r,r=w.heap.size+1+1:=⟨_,rfl⟩
 have EG:=Lib.hid hg
 have EQ:=Lib.hid hq
 have ER:=Lib.hid hr
 have B01:=(show Below w0.heap.size w0 w1 from by rw [hw1]; exact (Below.refl _ _).alloc (Nat.le_refl _) _)
 have KP0:=(show Blk w0 g 39 #[.int .i64 6,.bool s6,.int .u64 sh,.int .u64 sl,.bool s6,.int .u64 dh,.int .u64 dl,.int .i64 sp,.int .i64 dp] from by rw [hw0,hg]; exact (Blk.new w _ _).below ((Below.refl _ _).alloc (Nat.le_refl _) _) (Blk.new w _ _).lt)
 have KQ0:=(show Blk w0 q 3 #[.int .i64 fl] from by
  have h9:=Blk.new (w.alloc (.cells #[.int .i64 6,.bool s6,.int .u64 sh,.int .u64 sl,.bool s6,.int .u64 dh,.int .u64 dl,.int .i64 sp,.int .i64 dp] 39)) 3 #[.int .i64 fl]
  rw [← hw0] at h9
  rw [hq]
  simpa using h9)
 have KP:=Lib.hid (KP0.below B01 KP0.lt)
 have KQ:=Lib.hid (KQ0.below B01 KQ0.lt)
 have KR:=Lib.hid (show Blk w1 r 47 #[.slice A n c] from by rw [hw1,hr,show w.heap.size+1+1=w0.heap.size from s0.symm]; exact Blk.new w0 _ _)
 have HW1:=Lib.hid (HW.out w1 g q r B1.out KP.out KQ.out KR.out)
 have tv:(s6 == s6)=true:=by simp
 clear hw0 hw1 hg hq hr B0 s0 B01 KP0 KQ0
 go_enter Try.func28,Try.ntmps28
 go_upto_region 1 with fail
 rw [← E1.out,← ER.out,← EQ.out,← EG.out]
 have p0:=KP.out.cell 0
 have p1:=KP.out.cell 1
 have p2:=KP.out.cell 2
 have p3:=KP.out.cell 3
 have p4:=KP.out.cell 4
 have p5:=KP.out.cell 5
 have p6:=KP.out.cell 6
 have p7:=KP.out.cell 7
 have p8:=KP.out.cell 8
 have r0:=KR.out.cell 0
 go_wp2_with fail
 refine HW1.out.mono ?_
 rintro o w4 ⟨hb4,A4,n4,c4,rfl,hs4⟩
 have B4:=Lib.hid (B1.out.trans (hb4.mono B1.out.size))
 clear hb4
 go_wp2_with fail
 go_ret2
 exact ⟨B4.out,A4,n4,c4,rfl,hs4⟩
theorem six_bytesO (K:Nat) (ttl pr sh sl dh dl:Int) (A:Option Addr) (n c:Nat) (bl:List Int) (w:World) (hK:K≤w.heap.size) (h:Sl w A n c bl) (hn:n≤900) (h1:0≤ttl∧ttl≤255) (h2:0≤pr∧pr≤255) (h3:isX pr=false) (b1:0≤sh∧sh<18446744073709551616) (b2:0≤sl∧sl<18446744073709551616) (b3:0≤dh∧dh<18446744073709551616) (b4:0≤dl∧dl<18446744073709551616) :
  Calls Try.prog 54 #[.agg #[.int .i64 0,.int .i64 0,.int .i64 ttl,.bool true,.int .u64 sh,.int .u64 sl,.bool true,.int .u64 dh,.int .u64 dl,.slice none 0 0,.int .i64 pr],.slice A n c] w (MkO K 0 (mkB6 ttl pr sh sl dh dl bl) w):=by
 refine (sixQ.bytes_any ⟨0,0,ttl,true,sh,sl,true,dh,dl,pr⟩ none 0 0 [] A n c bl w rfl (⟨.inl rfl,fun o ho=>by cases ho⟩:RdX w none []) (Nat.le_refl _) (right6 ttl pr sh sl dh dl h1 h2 h3) b1 b2 b3 b4 h.len h.row (by omega) h.nil).mono ?_
 rintro o w' ⟨v,rfl,h5,h6⟩
 obtain ⟨B,d,rfl⟩:=own_slice h5
 refine ⟨h6,B,_,d,rfl,own_base h5 hK,rfl,?_⟩
 have u8:∀ n:Int,U8 (pb n 8 8):=fun n=>pb_u8 n 8 8
 intro x hx
 have hx2:x ∈ sixK.hdB ⟨0,0,ttl,true,sh,sl,true,dh,dl,pr⟩ pr (extL []+bl.length)++([]++bl):=hx
 unfold sixK.hdB sixK.hd8 at hx2
 rw [List.nil_append] at hx2
 have hbn:=h.len
 rcases List.mem_append.1 hx2 with hx2 | hx2
 ·rcases List.mem_append.1 hx2 with hx2 | hx2
  ·rcases List.mem_append.1 hx2 with hx2 | hx2
   ·simp only [List.mem_cons,List.not_mem_nil,or_false] at hx2
    rcases hx2 with rfl | rfl | rfl | rfl | rfl | rfl | rfl | rfl <;> omega
   ·exact (List.mem_append.1 hx2).elim (u8 _ x) (u8 _ x)
  ·exact (List.mem_append.1 hx2).elim (u8 _ x) (u8 _ x)
 ·exact h.u8 x hx2
theorem four_bytesO (K:Nat) (ttl pr sl dl:Int) (A:Option Addr) (n c:Nat) (bl:List Int) (w:World) (hK:K≤w.heap.size) (h:Sl w A n c bl) (hn:n≤900) (h1:0≤ttl∧ttl≤255) (h2:0≤pr∧pr≤255) (h3:0≤sl∧sl≤4294967295) (h4:0≤dl∧dl≤4294967295) :
  Calls Try.prog 55 #[.agg #[.int .i64 0,.int .i64 0,.bool false,.bool false,.int .i64 0,.int .i64 ttl,.int .i64 pr,.bool false,.int .u64 0,.int .u64 sl,.bool false,.int .u64 0,.int .u64 dl,.slice none 0 0],.slice A n c] w (MkO K 0 (mkB4 ttl pr sl dl bl) w):=by
 have hl:=h.len
 subst hl
 refine (fourE.bytes_any 0 0 false false 0 ttl pr sl dl none 0 0 [] A bl.length c bl w ⟨by omega,by omega,by omega,h1,h2,h3,h4,by omega,by omega⟩ rfl (.inl rfl) (fun _=>rfl) (fun x hx=>by cases hx) rfl hn h.row h.nil _ rfl).mono ?_
 rintro o w' ⟨v,rfl,h5,h6⟩
 obtain ⟨B,d,rfl⟩:=own_slice h5
 refine ⟨h6,B,_,d,rfl,own_base h5 hK,rfl,?_⟩
 have hin:=fourD.hk_in 0 0 0 ttl pr sl dl 0 (20+((0:Nat):Int)+(bl.length:Int)) [] (by omega) (by omega) (by omega) h1 h2 h3 h4 (by omega) (by omega) (by simp) (fun x hx=>by cases hx)
 have hck:=fo_bd _ (wsum_bd _ hin).1
 exact U8.join (fourD.hk_in 0 0 0 ttl pr sl dl _ (20+((0:Nat):Int)+(bl.length:Int)) [] (by omega) (by omega) (by omega) h1 h2 h3 h4 (by omega) (by omega) (by simp) (fun x hx=>by cases hx)) h.u8
theorem dgram_withO (K:Nat) (s6:Bool) (sh sl dh dl sp dp ttl fl:Int) (A:Option Addr) (n c:Nat) (pl:List Int) (w:World) (h:Sl w A n c pl) (hn:n≤500) (b1:0≤sh∧sh<18446744073709551616) (b2:0≤sl∧sl<18446744073709551616) (b3:0≤dh∧dh<18446744073709551616) (b4:0≤dl∧dl<18446744073709551616) (ps:List Int) (hps:ps=psd s6 sh sl dh dl 17 (8+(pl.length:Int))) (e e2:Int) (bs out:List Int) (hM:udpM sp dp pl ps=(e,bs))
  (HB:(e=0∧s6=false∧∀ V A2 n2 k2,Below w.heap.size w V→Sl V A2 n2 k2 bs→Calls Try.prog 55 #[.agg #[.int .i64 0,.int .i64 0,.bool false,.bool false,.int .i64 0,.int .i64 ttl,.int .i64 17,.bool false,.int .u64 sh,.int .u64 sl,.bool false,.int .u64 dh,.int .u64 dl,.slice none 0 0],.slice A2 n2 k2] V (MkO K e2 out V))∨(e=0∧s6=true∧∀ V A2 n2 k2,Below w.heap.size w V→Sl V A2 n2 k2 bs→Calls Try.prog 54 #[.agg #[.int .i64 0,.int .i64 0,.int .i64 ttl,.bool true,.int .u64 sh,.int .u64 sl,.bool true,.int .u64 dh,.int .u64 dl,.slice none 0 0,.int .i64 17],.slice A2 n2 k2] V (MkO K e2 out V))) :
  Calls Try.prog 25 #[.agg #[.int .i64 17,.bool s6,.int .u64 sh,.int .u64 sl,.bool s6,.int .u64 dh,.int .u64 dl,.int .i64 sp,.int .i64 dp],.int .i64 ttl,.slice A n c] w (MkO K e2 out w):=by
 have hl:=h.len
 have hp40:ps.length≤1000:=by rw [hps]; have:=psd_len s6 sh sl dh dl 17 (8+(pl.length:Int)); omega
 have HPS:=fun V=>psd_any s6 sh sl s6 dh dl 17 (8+(n:Int)) V b1 b2 b3 b4 (by omega) (by omega)
 rw [← hl] at HPS
 rw [← hps] at HPS
 refine dgram_goO K s6 sh sl dh dl sp dp ttl A n c _ _ w (by omega) (Lib.hid fun V c1 c2 hV k1 k2=>?_)
 have HC:∀ W A2 n2 cc2,Below V.heap.size V W→Sl W A2 n2 cc2 ps→Calls Try.prog 40 #[.slice A2 n2 cc2,.pointer (some ⟨c1,0,none⟩),.pointer (some ⟨c2,0,none⟩)] W (MkP e bs W):=fun W A2 n2 cc2 hW hs=>by
  have h9:=udp_bytes sp dp A A2 n c n2 cc2 pl ps W (h.below (hV.trans (hW.mono hV.size))) hs (by omega) (by have:=hs.len; omega)
  rw [hM] at h9
  exact dg_closure 17 s6 sh sl s6 dh dl sp dp c1 c2 A A2 n c n2 cc2 e bs W (k1.below hW k1.lt) (k2.below hW k2.lt) (Lib.hid h9)
 rw [← hl]
 rcases HB with ⟨rfl,rfl,HB⟩ | ⟨rfl,rfl,HB⟩
 ·exact whole_dg_fourO K 17 sh sl false dh dl sp dp ttl _ c1 c2 ps bs _ _ V (Lib.hid fun W hW=>HPS W) (Lib.hid HC) (Lib.hid fun W A2 n2 k2 hW hs=>HB W A2 n2 k2 (hV.trans (hW.mono hV.size)) hs)
 ·exact whole_dg_sixO K 17 sh sl true dh dl sp dp ttl _ c1 c2 ps bs _ _ V (Lib.hid fun W hW=>HPS W) (Lib.hid HC) (Lib.hid fun W A2 n2 k2 hW hs=>HB W A2 n2 k2 (hV.trans (hW.mono hV.size)) hs)
theorem segm_withO (K:Nat) (s6:Bool) (sh sl dh dl sp dp ttl fl:Int) (A:Option Addr) (n c:Nat) (pl:List Int) (w:World) (h:Sl w A n c pl) (hn:n≤500) (b1:0≤sh∧sh<18446744073709551616) (b2:0≤sl∧sl<18446744073709551616) (b3:0≤dh∧dh<18446744073709551616) (b4:0≤dl∧dl<18446744073709551616) (ps:List Int) (hps:ps=psd s6 sh sl dh dl 6 (20+(pl.length:Int))) (e e2:Int) (bs out:List Int) (hM:tcpM sp dp fl pl ps=(e,bs))
  (HB:(e=0∧s6=false∧∀ V A2 n2 k2,Below w.heap.size w V→Sl V A2 n2 k2 bs→Calls Try.prog 55 #[.agg #[.int .i64 0,.int .i64 0,.bool false,.bool false,.int .i64 0,.int .i64 ttl,.int .i64 6,.bool false,.int .u64 sh,.int .u64 sl,.bool false,.int .u64 dh,.int .u64 dl,.slice none 0 0],.slice A2 n2 k2] V (MkO K e2 out V))∨(e=0∧s6=true∧∀ V A2 n2 k2,Below w.heap.size w V→Sl V A2 n2 k2 bs→Calls Try.prog 54 #[.agg #[.int .i64 0,.int .i64 0,.int .i64 ttl,.bool true,.int .u64 sh,.int .u64 sl,.bool true,.int .u64 dh,.int .u64 dl,.slice none 0 0,.int .i64 6],.slice A2 n2 k2] V (MkO K e2 out V))) :
  Calls Try.prog 28 #[.agg #[.int .i64 6,.bool s6,.int .u64 sh,.int .u64 sl,.bool s6,.int .u64 dh,.int .u64 dl,.int .i64 sp,.int .i64 dp],.int .i64 ttl,.int .i64 fl,.slice A n c] w (MkO K e2 out w):=by
 have hl:=h.len
 have hp40:ps.length≤1000:=by rw [hps]; have:=psd_len s6 sh sl dh dl 6 (20+(pl.length:Int)); omega
 have HPS:=fun V=>psd_any s6 sh sl s6 dh dl 6 (20+(n:Int)) V b1 b2 b3 b4 (by omega) (by omega)
 rw [← hl] at HPS
 rw [← hps] at HPS
 refine segm_goO K s6 sh sl dh dl sp dp ttl fl A n c _ _ w (by omega) (Lib.hid fun V c1 c2 c3 hV k1 k2 k3=>?_)
 have HC:∀ W A2 n2 cc2,Below V.heap.size V W→Sl W A2 n2 cc2 ps→Calls Try.prog 42 #[.slice A2 n2 cc2,.pointer (some ⟨c1,0,none⟩),.pointer (some ⟨c2,0,none⟩),.pointer (some ⟨c3,0,none⟩)] W (MkP e bs W):=fun W A2 n2 cc2 hW hs=>by
  have h9:=tcp_bytes sp dp fl A A2 n c n2 cc2 pl ps W (h.below (hV.trans (hW.mono hV.size))) hs (by omega) (by have:=hs.len; omega)
  rw [hM] at h9
  exact sg_closure 6 s6 sh sl s6 dh dl sp dp fl c1 c2 c3 A A2 n c n2 cc2 e bs W (k1.below hW k1.lt) (k2.below hW k2.lt) (k3.below hW k3.lt) (Lib.hid h9)
 rw [← hl]
 rcases HB with ⟨rfl,rfl,HB⟩ | ⟨rfl,rfl,HB⟩
 ·exact whole_sg_fourO K 6 sh sl false dh dl sp dp ttl _ c1 c2 c3 ps bs _ _ V (Lib.hid fun W hW=>HPS W) (Lib.hid HC) (Lib.hid fun W A2 n2 k2 hW hs=>HB W A2 n2 k2 (hV.trans (hW.mono hV.size)) hs)
 ·exact whole_sg_sixO K 6 sh sl true dh dl sp dp ttl _ c1 c2 c3 ps bs _ _ V (Lib.hid fun W hW=>HPS W) (Lib.hid HC) (Lib.hid fun W A2 n2 k2 hW hs=>HB W A2 n2 k2 (hV.trans (hW.mono hV.size)) hs)
theorem dgram_madeO (pr:Int) (s6:Bool) (sh sl:Int) (d6:Bool) (dh dl sp dp ttl fl:Int) (pl:List Int) (hn:pl.length≤500) (hu:U8 pl) (b1:0≤sh∧sh<18446744073709551616) (b2:0≤sl∧sl<18446744073709551616) (b3:0≤dh∧dh<18446744073709551616) (b4:0≤dl∧dl<18446744073709551616) (hm:Made pr s6 sh sl d6 dh dl sp dp ttl 0 17) :
  ∃ B:List Int,B.length=(if s6=true then 40 else 20)+8+pl.length∧B.drop ((if s6=true then 40 else 20)+8)=pl∧pkP B=(⟨s6,⟨pr,s6,sh,sl,d6,dh,dl,sp,dp⟩,ttl,0,false,zeroT,(B.length:Int)⟩,0)∧∀ (K:Nat) (A:Option Addr) (n c:Nat) (w:World),K≤w.heap.size→Sl w A n c pl →
   Calls Try.prog 25 #[.agg #[.int .i64 pr,.bool s6,.int .u64 sh,.int .u64 sl,.bool d6,.int .u64 dh,.int .u64 dl,.int .i64 sp,.int .i64 dp],.int .i64 ttl,.slice A n c] w (MkO K 0 B w):=by
 obtain ⟨rfl,rfl,ht,hp,hf,ha⟩:=hm
 obtain ⟨ps,hps⟩:∃ ps,ps=psd s6 sh sl dh dl 17 (8+(pl.length:Int)):=⟨_,rfl⟩
 obtain ⟨bs,hbs⟩:∃ bs,bs=udpB.ub sp dp pl (udpB.chkZ (ps++udpB.ub sp dp pl 0)):=⟨_,rfl⟩
 have hM:udpM sp dp pl ps=(0,bs):=by unfold udpM; rw [if_pos hp,hbs]
 have hPA:=fun v6 d6 sz=>udp_parse v6 s6 sh sl d6 dh dl sp dp ttl sz pl hp (by omega) hu bs (by rw [hbs,hps])
 have hlb:bs.length=8+pl.length:=by
  rw [hbs]
  exact udpB.ub_len _ _ _ _
 have hdb:bs.drop 8=pl:=by
  rw [hbs]
  rfl
 cases s6 with
 | false =>
   obtain ⟨rfl,rfl,hs,hd⟩:sh=0∧dh=0∧sl<4294967296∧dl<4294967296:=by
    rcases ha with ha | ha
    ·cases ha
    ·exact ha
   refine ⟨mkB4 ttl 17 sl dl bs,by rw [mk4_len,hlb,if_neg (by decide)]; omega,?_,?_,fun K A n c w hK h=>?_⟩
   ·rw [if_neg (by decide),← List.drop_drop,mk4_drop,hdb]
   ·rw [mk4_parse ttl 17 sl dl bs ht (by omega) ⟨b2.1,by omega⟩ ⟨b4.1,by omega⟩ (by omega),hPA false false,mk4_len]
    rfl
   ·refine dgram_withO K false 0 sl 0 dl sp dp ttl fl A n c pl w h (by have:=h.len; omega) b1 b2 b3 b4 ps hps 0 0 bs _ hM (.inl ⟨rfl,rfl,fun V A2 n2 k2 hV hs2=>?_⟩)
    exact four_bytesO K ttl 17 sl dl A2 n2 k2 bs V (Nat.le_trans hK hV.size) hs2 (by have:=hs2.len; omega) ht (by omega) ⟨b2.1,by omega⟩ ⟨b4.1,by omega⟩
 | true =>
   obtain ⟨m1,m2⟩:=mk6_parse ttl 17 sh sl dh dl bs ht (by omega) (by decide) b1 b2 b3 b4 (by omega)
   refine ⟨mkB6 ttl 17 sh sl dh dl bs,by rw [m2,hlb,if_pos rfl]; omega,?_,?_,fun K A n c w hK h=>?_⟩
   ·rw [if_pos rfl,← List.drop_drop,mk6_drop,hdb]
   ·rw [m1,hPA true true,m2]
    rfl
   ·refine dgram_withO K true sh sl dh dl sp dp ttl fl A n c pl w h (by have:=h.len; omega) b1 b2 b3 b4 ps hps 0 0 bs _ hM (.inr ⟨rfl,rfl,fun V A2 n2 k2 hV hs2=>?_⟩)
    exact six_bytesO K ttl 17 sh sl dh dl A2 n2 k2 bs V (Nat.le_trans hK hV.size) hs2 (by have:=hs2.len; omega) ht (by omega) (by decide) b1 b2 b3 b4
theorem segm_madeO (pr:Int) (s6:Bool) (sh sl:Int) (d6:Bool) (dh dl sp dp ttl fl:Int) (pl:List Int) (hn:pl.length≤500) (hu:U8 pl) (b1:0≤sh∧sh<18446744073709551616) (b2:0≤sl∧sl<18446744073709551616) (b3:0≤dh∧dh<18446744073709551616) (b4:0≤dl∧dl<18446744073709551616) (hm:Made pr s6 sh sl d6 dh dl sp dp ttl fl 6) :
  ∃ B:List Int,B.length=(if s6=true then 40 else 20)+20+pl.length∧B.drop ((if s6=true then 40 else 20)+20)=pl∧pkP B=(⟨s6,⟨pr,s6,sh,sl,d6,dh,dl,sp,dp⟩,ttl,fl,false,zeroT,(B.length:Int)⟩,0)∧∀ (K:Nat) (A:Option Addr) (n c:Nat) (w:World),K≤w.heap.size→Sl w A n c pl →
   Calls Try.prog 28 #[.agg #[.int .i64 pr,.bool s6,.int .u64 sh,.int .u64 sl,.bool d6,.int .u64 dh,.int .u64 dl,.int .i64 sp,.int .i64 dp],.int .i64 ttl,.int .i64 fl,.slice A n c] w (MkO K 0 B w):=by
 obtain ⟨rfl,rfl,ht,hp,hf,ha⟩:=hm
 obtain ⟨ps,hps⟩:∃ ps,ps=psd s6 sh sl dh dl 6 (20+(pl.length:Int)):=⟨_,rfl⟩
 obtain ⟨bs,hbs⟩:∃ bs,bs=tcpLn.tk sp dp 0 0 fl 1024 0 (65535 - fo (wsum (ps++tcpLn.tk sp dp 0 0 fl 1024 0 0 [] pl))) [] pl:=⟨_,rfl⟩
 have hM:tcpM sp dp fl pl ps=(0,bs):=by unfold tcpM; rw [if_pos ⟨hp,hf⟩,hbs]
 have hPA:=fun v6 d6 sz=>tcp_parse v6 s6 sh sl d6 dh dl sp dp ttl fl sz pl hp hf (by omega) hu bs (by rw [hbs,hps])
 have hlb:bs.length=20+pl.length:=by
  rw [hbs]
  rw [(tcpLn.tk_says sp dp 0 0 fl 1024 0 _ [] pl rfl).1]; rfl
 have hdb:bs.drop 20=pl:=by
  rw [hbs]
  rfl
 cases s6 with
 | false =>
   obtain ⟨rfl,rfl,hs,hd⟩:sh=0∧dh=0∧sl<4294967296∧dl<4294967296:=by
    rcases ha with ha | ha
    ·cases ha
    ·exact ha
   refine ⟨mkB4 ttl 6 sl dl bs,by rw [mk4_len,hlb,if_neg (by decide)]; omega,?_,?_,fun K A n c w hK h=>?_⟩
   ·rw [if_neg (by decide),← List.drop_drop,mk4_drop,hdb]
   ·rw [mk4_parse ttl 6 sl dl bs ht (by omega) ⟨b2.1,by omega⟩ ⟨b4.1,by omega⟩ (by omega),hPA false false,mk4_len]
    rfl
   ·refine segm_withO K false 0 sl 0 dl sp dp ttl fl A n c pl w h (by have:=h.len; omega) b1 b2 b3 b4 ps hps 0 0 bs _ hM (.inl ⟨rfl,rfl,fun V A2 n2 k2 hV hs2=>?_⟩)
    exact four_bytesO K ttl 6 sl dl A2 n2 k2 bs V (Nat.le_trans hK hV.size) hs2 (by have:=hs2.len; omega) ht (by omega) ⟨b2.1,by omega⟩ ⟨b4.1,by omega⟩
 | true =>
   obtain ⟨m1,m2⟩:=mk6_parse ttl 6 sh sl dh dl bs ht (by omega) (by decide) b1 b2 b3 b4 (by omega)
   refine ⟨mkB6 ttl 6 sh sl dh dl bs,by rw [m2,hlb,if_pos rfl]; omega,?_,?_,fun K A n c w hK h=>?_⟩
   ·rw [if_pos rfl,← List.drop_drop,mk6_drop,hdb]
   ·rw [m1,hPA true true,m2]
    rfl
   ·refine segm_withO K true sh sl dh dl sp dp ttl fl A n c pl w h (by have:=h.len; omega) b1 b2 b3 b4 ps hps 0 0 bs _ hM (.inr ⟨rfl,rfl,fun V A2 n2 k2 hV hs2=>?_⟩)
    exact six_bytesO K ttl 6 sh sl dh dl A2 n2 k2 bs V (Nat.le_trans hK hV.size) hs2 (by have:=hs2.len; omega) ht (by omega) (by decide) b1 b2 b3 b4
end Go.Proofs.Ytnofddbfogilaaa.genO
/- Layer 35: the next bytes. -/
namespace Go.Proofs.Ytnofddbfogilaaa.genF
set_option maxHeartbeats 4000000
set_option maxRecDepth 100000
open Go.ChangeShapes Go.WideShapes Go.ChangeAt Go.RowKit
open base mixB mixC rdrG pktA pktC pktD genO genW genA genB genC genE
set_option linter.unusedVariables false
set_option linter.unusedSimpArgs false
def fil (a:Int) (n k:Nat):List Int:=(List.range n).map fun i=>if i<k then gNum a i % 256 else 0
theorem fil_len (a:Int) (n k:Nat):(fil a n k).length=n:=by simp [fil]
theorem fil_get (a:Int) (n k i:Nat) (h:i<n):(fil a n k)[i]?=some (if i<k then gNum a i % 256 else 0):=by simp [fil,h]
theorem fil_zero (a:Int) (n:Nat):fil a n 0=List.replicate n 0:=by
 refine List.ext_getElem? fun i=>?_
 by_cases h:i<n
 ·rw [fil_get a n 0 i h,List.getElem?_replicate,if_pos h,if_neg (by omega)]
 ·rw [List.getElem?_eq_none (by rw [fil_len]; omega),List.getElem?_eq_none (by rw [List.length_replicate]; omega)]
theorem fil_all (a:Int) (n:Nat):fil a n n=gPay a n:=by
 refine List.ext_getElem? fun i=>?_
 by_cases h:i<n
 ·rw [fil_get a n n i h,if_pos h]
  simp [gPay,h]
 ·rw [List.getElem?_eq_none (by rw [fil_len]; omega),List.getElem?_eq_none (by rw [gPay_len]; omega)]
theorem fil_set (a:Int) (n k:Nat) (h:k<n):(fil a n k).set k (gNum a k % 256)=fil a n (k+1):=by
 refine List.ext_getElem? fun i=>?_
 by_cases hi:i<n
 ·rw [List.getElem?_set,fil_get a n (k+1) i hi,fil_get a n k i hi,fil_len]
  by_cases e:k=i
  ·subst e
   rw [if_pos rfl,if_pos h,if_pos (by omega)]
  ·rw [if_neg e]
   by_cases h2:i<k
   ·rw [if_pos h2,if_pos (by omega)]
   ·rw [if_neg h2,if_neg (by omega)]
 ·rw [List.getElem?_eq_none (by rw [List.length_set,fil_len]; omega),List.getElem?_eq_none (by rw [fil_len]; omega)]
def arrF (a:Int) (n k:Nat):Array Value:=((fil a n k).map (Value.int .u8)).toArray
theorem arrF_set (a:Int) (n k:Nat) (h:k<n):(arrF a n k).setIfInBounds k (.int .u8 (gNum a k % 256))=arrF a n (k+1):=by
 unfold arrF
 rw [← fil_set a n k h]
 simp [List.map_set]
theorem next_src {w:World} {g q:Nat} {p:Pl} {a:Int} {v:Value} (h:SM w g q p a v) :
  Calls Try.prog 13 #[.pointer (some ⟨q,0,none⟩)] w fun o w'=>o=.returned (.int .u64 (gNum a 0))∧SM w' g q p (gAdv a) v∧OnlyG q w w':=by
 refine (next_any q a w (h.gen.cell 0) (h.gen.frozen 0)).mono ?_
 rintro o w' ⟨rfl,rfl⟩
 exact ⟨rfl,h.step _,(OnlyG.refl q w).set 0 _⟩
theorem info_u8f:(Try.prog.info? 5).map (fun i=>(i.zero,i.size,i.bytes))=some (some (.int .u8 0),1,1):=by kernel_rfl
theorem bytes_src {w:World} {g q:Nat} {p:Pl} {a:Int} {v:Value} (h:SM w g q p a v) (hp:p.right) (hm:p.mo≤400) :
  Calls Try.prog 26 #[.pointer (some ⟨g,0,none⟩)] w fun o w'=>∃ A n c,o=.returned (.slice A n c)∧OwB w' w.heap.size A n c (gPay (gAt a 1) (gMany p a))∧SM w' g q p (gAt a (1+gMany p a)) v∧OnQ q w w':=by
 obtain ⟨i0,hi0,hz0,hz1,hz2⟩:=info_parts info_u8f
 obtain ⟨n,hn⟩:∃ n,n=gMany p a:=⟨_,rfl⟩
 have hmm:=gMany_in p a hp.1.2.2.2.2.1
 rw [← hn] at hmm ⊢
 have hmo:=hp.1.2.2.2.2.1
 have BL:=Lib.hid (show ∀ W,SM W g q p a v→Calls Try.prog 22 #[.pointer (some ⟨g,0,none⟩),.int .i64 (p.mo+1)] W fun o w'=>o=.returned (.int .i64 (n:Int))∧SM w' g q p (gAt a 1) v∧OnlyG q W w' from fun W hW=>by rw [hmm.1]; exact below_src hW (p.mo+1) (by omega) (by omega))
 have HN:=Lib.hid (show n≤400 from by omega)
 have hmk:=Lib.hid (fun (W:World)=>run_make_one (P:=Try.prog) 47 5 i0 _ Try.underlying47 hi0 hz0 hz1 rfl .i64 .i64 (n:Int) (by omega) (by rw [hz2]; omega) (by omega) W)
 have um:IntKind.i64.wrap (p.mo+1)=p.mo+1:=IntWalk.i64_in _ (by omega)
 have S0:=Lib.hid h
 have NQ:=Lib.hid (show q<w.heap.size∧g<w.heap.size from ⟨h.gen.lt,h.src.lt⟩)
 have c11:w.cell? ⟨g,11,none⟩=some (.int .i64 p.mo):=h.src.cell 11
 obtain ⟨mo,hmo2⟩:∃ mo,mo=p.mo:=⟨_,rfl⟩
 rw [← hmo2] at BL um c11
 clear hz0 hz1 hz2 hi0 hn hmm hmo h hm hp hmo2
 go_enter Try.func26,Try.ntmps26
 go_wp2_with fail
 refine (BL.out _ S0.out).mono ?_
 rintro o w2 ⟨rfl,hs2,ho2⟩
 have S2:=Lib.hid hs2
 have Q2:=Lib.hid (OnQ.of_only ho2)
 have E2:=Lib.hid ho2.size
 clear hs2 ho2 c11
 have hm2:=hmk.out w2
 go_wp2_with fail
 clear hm2
 obtain ⟨b,hb⟩:∃ b,b=w2.heap.size:=⟨_,rfl⟩
 obtain ⟨w3,hw3⟩:∃ w3,w3=w2.alloc (.cells (zeros n (.int .u8 0)) 5):=⟨_,rfl⟩
 rw [← hw3,← hb]
 have D3:Below w2.heap.size w2 w3:=by rw [hw3]; exact al_below _ _
 have K3:=Lib.hid (show Blk w3 b 5 (arrF (gAt a 1) n 0) from by
  have h9:=Blk.new w2 5 (zeros n (.int .u8 0))
  rw [← hw3,← hb] at h9
  have e:arrF (gAt a 1) n 0=zeros n (.int .u8 0):=by unfold arrF zeros; rw [fil_zero]; simp
  rw [e]
  exact h9)
 have S3:=Lib.hid (S2.out.below D3)
 have Q3:=Lib.hid (Q2.out.then (OnQ.of_below D3))
 have EB:=Lib.hid (show b=w.heap.size from by rw [hb]; exact E2.out)
 have NB:=Lib.hid (show b≠q∧b≠g from by have:=EB.out; have:=NQ.out; omega)
 clear hw3 hb D3
 go_loopw [16,4] (fun i _ wr=>∃ k:Nat,k≤n∧i=.int .i64 k∧Hid (Blk wr b 5 (arrF (gAt a 1) n k))∧Hid (SM wr g q p (gAt (gAt a 1) k) v)∧Hid (OnQ q w wr)) (fun i _ _=>n - (intOf i).toNat)
 case atStart=>exact ⟨0,by omega,rfl,K3,S3,Q3⟩
 case round =>
 obtain ⟨k,hk,rfl,KR,SR,QR⟩:=hrel
 by_cases hkn:k<n
 case neg =>
  obtain rfl:n=k:=by omega
  have p2:decide ((n:Int)<(n:Int))=false:=decide_eq_false (by omega)
  go_wp2_with fail
  go_ret
  refine ⟨_,_,_,rfl,⟨⟨by simp [gPay_len],.inr ⟨b,n,_,rfl,by rw [EB.out]; omega,KR.out,Nat.le_refl _,by have:=HN.out; unfold maxLen; omega,by simp [arrF,fil_len],?_⟩⟩,gPay_len _ _,gPay_u8 _ _⟩,by rw [← gAt_add]; exact SR.out,QR.out⟩
  unfold arrF
  rw [fil_all,Nat.mul_one]
  exact List.take_of_length_le (by simp [gPay_len])
 case pos =>
  have p2:decide ((k:Int)<(n:Int))=true:=decide_eq_true (by omega)
  obtain ⟨x,hx⟩:∃ x,x=gNum (gAt a 1) k:=⟨_,rfl⟩
  obtain ⟨y,hy⟩:∃ y,y=x % 256:=⟨_,rfl⟩
  have ux:IntKind.u8.wrap x=y:=by rw [hy]; rw [IntKind.wrap_u8]
  have NX:=Lib.hid (show Calls Try.prog 13 #[.pointer (some ⟨q,0,none⟩)] wr fun o w'=>o=.returned (.int .u64 x)∧SM w' g q p (gAt (gAt a 1) (k+1)) v∧OnlyG q wr w' from by
   have h9:=next_src SR.out
   rw [gNum_add] at h9
   rw [hx]
   exact h9)
  have HY:=Lib.hid (show gNum (gAt a 1) k % 256=y from by rw [hy,hx])
  have c0:wr.cell? ⟨g,0,none⟩=some (.pointer (some ⟨q,0,none⟩)):=SR.out.src.cell 0
  have j1:(0:Int)≤(k:Int):=by omega
  have j2:(k:Int)<(n:Int):=by omega
  have HK:=Lib.hid hkn
  have ku:IntKind.i64.wrap ((k:Int)+1)=((k+1:Nat):Int):=by have:=HN.out; rw [IntWalk.i64_in _ (by omega)]; omega
  clear hx hy
  go_wp2_with fail
  refine NX.out.mono ?_
  rintro o w6 ⟨rfl,hs6,ho6⟩
  have S6:=Lib.hid hs6
  have K6:=Lib.hid (ho6.blk KR.out NB.out.1)
  have Q6:=Lib.hid (QR.out.then (OnQ.of_only ho6))
  have c1:w6.cell? ⟨b,k,none⟩=some (.int .u8 0):=(K6.out.cell k).trans (by unfold arrF; rw [List.getElem?_toArray,List.getElem?_map,fil_get _ _ _ _ HK.out,if_neg (by omega)]; rfl)
  have f1:=K6.out.frozen k
  clear hs6 ho6 c0
  go_wp2_with fail
  go_roundw
  case rel =>
   have hO:OnlyG b w6 (w6.setCell ⟨b,k,none⟩ (.int .u8 y)):=(OnlyG.refl b w6).set k _
   refine ⟨k+1,HK.out,by simp,Lib.hid ?_,Lib.hid ⟨hO.blk S6.out.src NB.out.2.symm,hO.blk S6.out.gen NB.out.1.symm⟩,Lib.hid (Q6.out.put hO (by rw [EB.out]; omega))⟩
   have h9:=K6.out.set_ k (.int .u8 y)
   rw [← HY.out] at h9 ⊢
   rw [arrF_set _ _ _ HK.out] at h9
   exact h9
  case measure=>have:=HK.out; simp [intOf]; omega
end Go.Proofs.Ytnofddbfogilaaa.genF
