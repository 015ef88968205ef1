/- 1 texts in one. -/
import Derived.Laws.Tables
import Derived.Laws.ResultCell
import Derived.Test.YtnofddbfogilaaaGq15
import Derived.Test.YtnofddbfogilaaaGq18
/- Layer 13: a packet with what is behind its header. -/
namespace Go.Proofs.Ytnofddbfogilaaa.pktD
set_option maxHeartbeats 8000000
set_option maxRecDepth 100000
open Go.ChangeShapes Go.WideShapes Go.ChangeAt Go.RowKit
open base octA rdrA rdrG sumB sixW sixM pktA pktB pktC
set_option linter.unusedVariables false
theorem onlyRow {g:Nat} {w:World} (cs:Array Value):OnlyG g w (w.setRow g cs) :=
 ⟨⟨by simp [World.setRow],by simp [World.setRow],by simp [World.setRow],by simp,fun k hk=>setRow_other w g k cs (by omega)⟩,by simp,fun k hk=>setRow_other w g k cs hk⟩
theorem blkRow {g:Nat} {w:World} {t:TypeId} {old:Array Value} (h:Blk w g t old) (cs:Array Value):Blk (w.setRow g cs) g t cs:=setRow_heap w g old cs t (0,0) h
theorem results_pk {fn:Func} {p u:Tmp} (h:fn.results=#[.cell p 53,.tmp u]) (tmps:Array Value) (w:World) (g:Nat) (cs:Array Value) (hp:tmps.getD p undef=.pointer (some ⟨g,0,none⟩)) (hg:Blk w g 53 cs) (hs:cs.size=23) :
  (results fn tmps).run Try.prog w=.ok (.tuple #[.agg cs,tmps.getD u undef]) w:=by
 rw [results_cell_tmp h,hp]
 simp only [asAddr,Sem.run_pure,Result.andThen_ok]
 rw [run_loadVar_row w g 53 53 cs (0,0) _ hg Try.underlying53 rfl (by rw [hs]; kernel_rfl)]
 rfl
theorem only_cell {g:Nat} {w w':World} (h:OnlyG g w w') {p:Addr} (hp:p.block≠g):w'.cell? p=w.cell? p:=by
 have:=h.els p.block hp
 simp [World.cell?,this]
theorem _root_.Go.Proofs.Ytnofddbfogilaaa.pktA.Sl.set_ {w w':World} {A:Option Addr} {n c g:Nat} {l:List Int} (h:Sl w A n c l) (hne:∀ ad,A=some ad→ad.block≠g) (ho:OnlyG g w w'):Sl w' A n c l:=by
 refine ⟨h.len,?_,h.nc,h.mx,h.nil,h.u8⟩
 rcases h.row with h0 | ⟨b,off,hA,hb,hc⟩
 ·exact .inl h0
 ·refine .inr ⟨b,off,hA,by rw [ho.size]; exact hb,fun i u hu=>?_⟩
  rw [← hc i u hu]
  exact only_cell ho (p:=⟨b,off+i,none⟩) (hne ⟨b,off,none⟩ hA)
theorem pk_size:(Try.prog.info? 53).map (·.size)=some 23:=by kernel_rfl
theorem with_none_no (v6:Bool) (pr:Int) (h6:pr≠6) (h17:pr≠17) (h1:¬ (pr=1∧v6=false)) (h58:¬ (pr=58∧v6=true)) (s6:Bool) (sh sl:Int) (d6:Bool) (dh dl ttl sz:Int) (A:Option Addr) (n c:Nat) (ps:List Int) (w:World)
  (HPS:Hid (∀ V,Below w.heap.size w V→Calls Try.prog 53 #[.agg #[.bool s6,.int .u64 sh,.int .u64 sl],.agg #[.bool d6,.int .u64 dh,.int .u64 dl],.int .i64 pr,.int .i64 n] V (Gives ps V))) :
  Calls Try.prog 46 #[.agg #[.bool v6,.int .i64 pr,.bool s6,.int .u64 sh,.int .u64 sl,.bool d6,.int .u64 dh,.int .u64 dl,.int .i64 0,.int .i64 0,.int .i64 ttl,.int .i64 0,.bool false,.int .i64 0,.bool false,.int .u64 0,.int .u64 0,.bool false,.int .u64 0,.int .u64 0,.int .i64 0,.int .i64 0,.int .i64 sz],.slice A n c] w fun o w'=>o=.returned (.tuple #[.agg #[.bool false,.int .i64 0,.bool false,.int .u64 0,.int .u64 0,.bool false,.int .u64 0,.int .u64 0,.int .i64 0,.int .i64 0,.int .i64 0,.int .i64 0,.bool false,.int .i64 0,.bool false,.int .u64 0,.int .u64 0,.bool false,.int .u64 0,.int .u64 0,.int .i64 0,.int .i64 0,.int .i64 0],.int .i64 14])∧Below w.heap.size w w':=by
 have t6:(pr == 6)=false:=by simpa using h6
 have t17:(pr == 17)=false:=by simpa using h17
 have H1:=Lib.hid h1
 have H58:=Lib.hid h58
 clear h6 h17 h1 h58
 obtain ⟨w1,hw1⟩:∃ w1,w1=(w.alloc (.cells #[.bool v6,.int .i64 pr,.bool s6,.int .u64 sh,.int .u64 sl,.bool d6,.int .u64 dh,.int .u64 dl,.int .i64 0,.int .i64 0,.int .i64 ttl,.int .i64 0,.bool false,.int .i64 0,.bool false,.int .u64 0,.int .u64 0,.bool false,.int .u64 0,.int .u64 0,.int .i64 0,.int .i64 0,.int .i64 sz] 53)).alloc (.cells #[.bool false,.int .i64 0,.bool false,.int .u64 0,.int .u64 0,.bool false,.int .u64 0,.int .u64 0,.int .i64 0,.int .i64 0,.int .i64 0,.int .i64 0,.bool false,.int .i64 0,.bool false,.int .u64 0,.int .u64 0,.bool false,.int .u64 0,.int .u64 0,.int .i64 0,.int .i64 0,.int .i64 0] 53):=⟨_,rfl⟩
 have E1:=Lib.hid hw1
 have BA:=Lib.hid (show Below w.heap.size w (w.alloc (.cells #[.bool v6,.int .i64 pr,.bool s6,.int .u64 sh,.int .u64 sl,.bool d6,.int .u64 dh,.int .u64 dl,.int .i64 0,.int .i64 0,.int .i64 ttl,.int .i64 0,.bool false,.int .i64 0,.bool false,.int .u64 0,.int .u64 0,.bool false,.int .u64 0,.int .u64 0,.int .i64 0,.int .i64 0,.int .i64 sz] 53)) from (Below.refl _ _).alloc (Nat.le_refl _) _)
 have B1:=Lib.hid (show Below w.heap.size w w1 from by rw [hw1]; exact BA.out.alloc BA.out.size _)
 obtain ⟨g,hg⟩:∃ g,g=w.heap.size:=⟨_,rfl⟩
 obtain ⟨q,hq⟩:∃ q,q=w.heap.size+1:=⟨_,rfl⟩
 have EG:=Lib.hid hg
 have EQ:=Lib.hid hq
 have NE:=Lib.hid (show g≠q from by omega)
 have KP:=Lib.hid (show Blk w1 g 53 #[.bool v6,.int .i64 pr,.bool s6,.int .u64 sh,.int .u64 sl,.bool d6,.int .u64 dh,.int .u64 dl,.int .i64 0,.int .i64 0,.int .i64 ttl,.int .i64 0,.bool false,.int .i64 0,.bool false,.int .u64 0,.int .u64 0,.bool false,.int .u64 0,.int .u64 0,.int .i64 0,.int .i64 0,.int .i64 sz] from by rw [hw1,hg]; exact (Blk.new w _ _).alloc _)
 have KQ:=Lib.hid (show Blk w1 q 53 #[.bool false,.int .i64 0,.bool false,.int .u64 0,.int .u64 0,.bool false,.int .u64 0,.int .u64 0,.int .i64 0,.int .i64 0,.int .i64 0,.int .i64 0,.bool false,.int .i64 0,.bool false,.int .u64 0,.int .u64 0,.bool false,.int .u64 0,.int .u64 0,.int .i64 0,.int .i64 0,.int .i64 0] from by
  have h9:=Blk.new (w.alloc (.cells #[.bool v6,.int .i64 pr,.bool s6,.int .u64 sh,.int .u64 sl,.bool d6,.int .u64 dh,.int .u64 dl,.int .i64 0,.int .i64 0,.int .i64 ttl,.int .i64 0,.bool false,.int .i64 0,.bool false,.int .u64 0,.int .u64 0,.bool false,.int .u64 0,.int .u64 0,.int .i64 0,.int .i64 0,.int .i64 sz] 53)) 53 #[.bool false,.int .i64 0,.bool false,.int .u64 0,.int .u64 0,.bool false,.int .u64 0,.int .u64 0,.int .i64 0,.int .i64 0,.int .i64 0,.int .i64 0,.bool false,.int .i64 0,.bool false,.int .u64 0,.int .u64 0,.bool false,.int .u64 0,.int .u64 0,.int .i64 0,.int .i64 0,.int .i64 0]
  rw [← hw1] at h9
  rw [hq]
  simpa using h9)
 have HI:=Lib.hid pk_size
 clear hw1 hg hq
 go_enter Try.func46,Try.ntmps46
 go_upto_region 1 with fail
 rw [← E1.out,← EQ.out,← EG.out]
 have p0:=KP.out.cell 0
 have p1:=KP.out.cell 1
 have p2:=KP.out.cell 2
 have p3:=KP.out.cell 3
 have p4:=KP.out.cell 4
 have p5:=KP.out.cell 5
 have p6:=KP.out.cell 6
 have p7:=KP.out.cell 7
 go_wp2_with fail
 refine (HPS.out _ B1.out).mono ?_
 rintro o w2 ⟨hb2,A2,n2,c2,rfl,hsl,hge⟩
 have KP2:=Lib.hid (KP.out.below hb2 KP.out.lt)
 have KQ2:=Lib.hid (KQ.out.below hb2 KQ.out.lt)
 have B2:=Lib.hid (B1.out.trans (hb2.mono B1.out.size))
 have HSL:=Lib.hid hsl
 have HGE:=Lib.hid hge
 have SZ1:=Lib.hid (show w1.heap.size=w.heap.size+2 from by rw [E1.out]; simp)
 clear hb2 hsl hge p0 p1 p2 p3 p4 p5 p6 p7
 have p0:=KP2.out.cell 0
 have p1:=KP2.out.cell 1
 cases v6 with
 | true =>
  have t58:(pr == 58)=false:=beq_eq_false_iff_ne.mpr fun e=>H58.out ⟨e,rfl⟩
  cases t1:(pr == 1)
  ·go_wp2_with (refine wpList_store_row rfl 53 _ _ rfl q #[.bool false,.int .i64 0,.bool false,.int .u64 0,.int .u64 0,.bool false,.int .u64 0,.int .u64 0,.int .i64 0,.int .i64 0,.int .i64 0,.int .i64 0,.bool false,.int .i64 0,.bool false,.int .u64 0,.int .u64 0,.bool false,.int .u64 0,.int .u64 0,.int .i64 0,.int .i64 0,.int .i64 0] rfl rfl 53 #[.bool false,.int .i64 0,.bool false,.int .u64 0,.int .u64 0,.bool false,.int .u64 0,.int .u64 0,.int .i64 0,.int .i64 0,.int .i64 0,.int .i64 0,.bool false,.int .i64 0,.bool false,.int .u64 0,.int .u64 0,.bool false,.int .u64 0,.int .u64 0,.int .i64 0,.int .i64 0,.int .i64 0] KQ2.out HI.out rfl (by kernel_rfl) ?_)
   refine bodyPost_ret (results_pk rfl _ _ q #[.bool false,.int .i64 0,.bool false,.int .u64 0,.int .u64 0,.bool false,.int .u64 0,.int .u64 0,.int .i64 0,.int .i64 0,.int .i64 0,.int .i64 0,.bool false,.int .i64 0,.bool false,.int .u64 0,.int .u64 0,.bool false,.int .u64 0,.int .u64 0,.int .i64 0,.int .i64 0,.int .i64 0] rfl (blkRow KQ2.out _) rfl) rfl ?_
   exact ⟨rfl,(onlyRow _).from B2.out (by have:=EQ.out; omega)⟩
  ·go_wp2_with (refine wpList_store_row rfl 53 _ _ rfl q #[.bool false,.int .i64 0,.bool false,.int .u64 0,.int .u64 0,.bool false,.int .u64 0,.int .u64 0,.int .i64 0,.int .i64 0,.int .i64 0,.int .i64 0,.bool false,.int .i64 0,.bool false,.int .u64 0,.int .u64 0,.bool false,.int .u64 0,.int .u64 0,.int .i64 0,.int .i64 0,.int .i64 0] rfl rfl 53 #[.bool false,.int .i64 0,.bool false,.int .u64 0,.int .u64 0,.bool false,.int .u64 0,.int .u64 0,.int .i64 0,.int .i64 0,.int .i64 0,.int .i64 0,.bool false,.int .i64 0,.bool false,.int .u64 0,.int .u64 0,.bool false,.int .u64 0,.int .u64 0,.int .i64 0,.int .i64 0,.int .i64 0] KQ2.out HI.out rfl (by kernel_rfl) ?_)
   refine bodyPost_ret (results_pk rfl _ _ q #[.bool false,.int .i64 0,.bool false,.int .u64 0,.int .u64 0,.bool false,.int .u64 0,.int .u64 0,.int .i64 0,.int .i64 0,.int .i64 0,.int .i64 0,.bool false,.int .i64 0,.bool false,.int .u64 0,.int .u64 0,.bool false,.int .u64 0,.int .u64 0,.int .i64 0,.int .i64 0,.int .i64 0] rfl (blkRow KQ2.out _) rfl) rfl ?_
   exact ⟨rfl,(onlyRow _).from B2.out (by have:=EQ.out; omega)⟩
 | false =>
  have t1:(pr == 1)=false:=beq_eq_false_iff_ne.mpr fun e=>H1.out ⟨e,rfl⟩
  cases t58:(pr == 58)
  ·go_wp2_with (refine wpList_store_row rfl 53 _ _ rfl q #[.bool false,.int .i64 0,.bool false,.int .u64 0,.int .u64 0,.bool false,.int .u64 0,.int .u64 0,.int .i64 0,.int .i64 0,.int .i64 0,.int .i64 0,.bool false,.int .i64 0,.bool false,.int .u64 0,.int .u64 0,.bool false,.int .u64 0,.int .u64 0,.int .i64 0,.int .i64 0,.int .i64 0] rfl rfl 53 #[.bool false,.int .i64 0,.bool false,.int .u64 0,.int .u64 0,.bool false,.int .u64 0,.int .u64 0,.int .i64 0,.int .i64 0,.int .i64 0,.int .i64 0,.bool false,.int .i64 0,.bool false,.int .u64 0,.int .u64 0,.bool false,.int .u64 0,.int .u64 0,.int .i64 0,.int .i64 0,.int .i64 0] KQ2.out HI.out rfl (by kernel_rfl) ?_)
   refine bodyPost_ret (results_pk rfl _ _ q #[.bool false,.int .i64 0,.bool false,.int .u64 0,.int .u64 0,.bool false,.int .u64 0,.int .u64 0,.int .i64 0,.int .i64 0,.int .i64 0,.int .i64 0,.bool false,.int .i64 0,.bool false,.int .u64 0,.int .u64 0,.bool false,.int .u64 0,.int .u64 0,.int .i64 0,.int .i64 0,.int .i64 0] rfl (blkRow KQ2.out _) rfl) rfl ?_
   exact ⟨rfl,(onlyRow _).from B2.out (by have:=EQ.out; omega)⟩
  ·go_wp2_with (refine wpList_store_row rfl 53 _ _ rfl q #[.bool false,.int .i64 0,.bool false,.int .u64 0,.int .u64 0,.bool false,.int .u64 0,.int .u64 0,.int .i64 0,.int .i64 0,.int .i64 0,.int .i64 0,.bool false,.int .i64 0,.bool false,.int .u64 0,.int .u64 0,.bool false,.int .u64 0,.int .u64 0,.int .i64 0,.int .i64 0,.int .i64 0] rfl rfl 53 #[.bool false,.int .i64 0,.bool false,.int .u64 0,.int .u64 0,.bool false,.int .u64 0,.int .u64 0,.int .i64 0,.int .i64 0,.int .i64 0,.int .i64 0,.bool false,.int .i64 0,.bool false,.int .u64 0,.int .u64 0,.bool false,.int .u64 0,.int .u64 0,.int .i64 0,.int .i64 0,.int .i64 0] KQ2.out HI.out rfl (by kernel_rfl) ?_)
   refine bodyPost_ret (results_pk rfl _ _ q #[.bool false,.int .i64 0,.bool false,.int .u64 0,.int .u64 0,.bool false,.int .u64 0,.int .u64 0,.int .i64 0,.int .i64 0,.int .i64 0,.int .i64 0,.bool false,.int .i64 0,.bool false,.int .u64 0,.int .u64 0,.bool false,.int .u64 0,.int .u64 0,.int .i64 0,.int .i64 0,.int .i64 0] rfl (blkRow KQ2.out _) rfl) rfl ?_
   exact ⟨rfl,(onlyRow _).from B2.out (by have:=EQ.out; omega)⟩
theorem with_tcp_no (v6:Bool) (sp dp:Int) (fl:Int) (e:Int) (he:e≠0) (s6:Bool) (sh sl:Int) (d6:Bool) (dh dl ttl sz:Int) (A:Option Addr) (n c:Nat) (ps:List Int) (w:World)
  (HPS:Hid (∀ V,Below w.heap.size w V→Calls Try.prog 53 #[.agg #[.bool s6,.int .u64 sh,.int .u64 sl],.agg #[.bool d6,.int .u64 dh,.int .u64 dl],.int .i64 6,.int .i64 n] V (Gives ps V)))
  (HT:Hid (∀ V A2 n2 c2,Below w.heap.size w V→Sl V A2 n2 c2 ps→Calls Try.prog 68 #[.slice A n c,.slice A2 n2 c2] V fun o w'=>Below V.heap.size V w'∧∃ (sq ak wn ur:Int) (AO:Option Addr) (m co:Nat) (v:Value),o=.returned (.tuple #[.agg #[.int .i64 sp,.int .i64 dp,.int .u32 sq,.int .u32 ak,.int .i64 fl,.int .i64 wn,.int .i64 ur,.slice AO m co],v,.int .i64 e]))) :
  Calls Try.prog 46 #[.agg #[.bool v6,.int .i64 6,.bool s6,.int .u64 sh,.int .u64 sl,.bool d6,.int .u64 dh,.int .u64 dl,.int .i64 0,.int .i64 0,.int .i64 ttl,.int .i64 0,.bool false,.int .i64 0,.bool false,.int .u64 0,.int .u64 0,.bool false,.int .u64 0,.int .u64 0,.int .i64 0,.int .i64 0,.int .i64 sz],.slice A n c] w fun o w'=>o=.returned (.tuple #[.agg #[.bool false,.int .i64 0,.bool false,.int .u64 0,.int .u64 0,.bool false,.int .u64 0,.int .u64 0,.int .i64 0,.int .i64 0,.int .i64 0,.int .i64 0,.bool false,.int .i64 0,.bool false,.int .u64 0,.int .u64 0,.bool false,.int .u64 0,.int .u64 0,.int .i64 0,.int .i64 0,.int .i64 0],.int .i64 e])∧Below w.heap.size w w':=by
 have te:(e != 0)=true:=by simpa using he
 clear he
 obtain ⟨w1,hw1⟩:∃ w1,w1=(w.alloc (.cells #[.bool v6,.int .i64 6,.bool s6,.int .u64 sh,.int .u64 sl,.bool d6,.int .u64 dh,.int .u64 dl,.int .i64 0,.int .i64 0,.int .i64 ttl,.int .i64 0,.bool false,.int .i64 0,.bool false,.int .u64 0,.int .u64 0,.bool false,.int .u64 0,.int .u64 0,.int .i64 0,.int .i64 0,.int .i64 sz] 53)).alloc (.cells #[.bool false,.int .i64 0,.bool false,.int .u64 0,.int .u64 0,.bool false,.int .u64 0,.int .u64 0,.int .i64 0,.int .i64 0,.int .i64 0,.int .i64 0,.bool false,.int .i64 0,.bool false,.int .u64 0,.int .u64 0,.bool false,.int .u64 0,.int .u64 0,.int .i64 0,.int .i64 0,.int .i64 0] 53):=⟨_,rfl⟩
 have E1:=Lib.hid hw1
 have BA:=Lib.hid (show Below w.heap.size w (w.alloc (.cells #[.bool v6,.int .i64 6,.bool s6,.int .u64 sh,.int .u64 sl,.bool d6,.int .u64 dh,.int .u64 dl,.int .i64 0,.int .i64 0,.int .i64 ttl,.int .i64 0,.bool false,.int .i64 0,.bool false,.int .u64 0,.int .u64 0,.bool false,.int .u64 0,.int .u64 0,.int .i64 0,.int .i64 0,.int .i64 sz] 53)) from (Below.refl _ _).alloc (Nat.le_refl _) _)
 have B1:=Lib.hid (show Below w.heap.size w w1 from by rw [hw1]; exact BA.out.alloc BA.out.size _)
 obtain ⟨g,hg⟩:∃ g,g=w.heap.size:=⟨_,rfl⟩
 obtain ⟨q,hq⟩:∃ q,q=w.heap.size+1:=⟨_,rfl⟩
 have EG:=Lib.hid hg
 have EQ:=Lib.hid hq
 have NE:=Lib.hid (show g≠q from by omega)
 have KP:=Lib.hid (show Blk w1 g 53 #[.bool v6,.int .i64 6,.bool s6,.int .u64 sh,.int .u64 sl,.bool d6,.int .u64 dh,.int .u64 dl,.int .i64 0,.int .i64 0,.int .i64 ttl,.int .i64 0,.bool false,.int .i64 0,.bool false,.int .u64 0,.int .u64 0,.bool false,.int .u64 0,.int .u64 0,.int .i64 0,.int .i64 0,.int .i64 sz] from by rw [hw1,hg]; exact (Blk.new w _ _).alloc _)
 have KQ:=Lib.hid (show Blk w1 q 53 #[.bool false,.int .i64 0,.bool false,.int .u64 0,.int .u64 0,.bool false,.int .u64 0,.int .u64 0,.int .i64 0,.int .i64 0,.int .i64 0,.int .i64 0,.bool false,.int .i64 0,.bool false,.int .u64 0,.int .u64 0,.bool false,.int .u64 0,.int .u64 0,.int .i64 0,.int .i64 0,.int .i64 0] from by
  have h9:=Blk.new (w.alloc (.cells #[.bool v6,.int .i64 6,.bool s6,.int .u64 sh,.int .u64 sl,.bool d6,.int .u64 dh,.int .u64 dl,.int .i64 0,.int .i64 0,.int .i64 ttl,.int .i64 0,.bool false,.int .i64 0,.bool false,.int .u64 0,.int .u64 0,.bool false,.int .u64 0,.int .u64 0,.int .i64 0,.int .i64 0,.int .i64 sz] 53)) 53 #[.bool false,.int .i64 0,.bool false,.int .u64 0,.int .u64 0,.bool false,.int .u64 0,.int .u64 0,.int .i64 0,.int .i64 0,.int .i64 0,.int .i64 0,.bool false,.int .i64 0,.bool false,.int .u64 0,.int .u64 0,.bool false,.int .u64 0,.int .u64 0,.int .i64 0,.int .i64 0,.int .i64 0]
  rw [← hw1] at h9
  rw [hq]
  simpa using h9)
 have HI:=Lib.hid pk_size
 clear hw1 hg hq
 go_enter Try.func46,Try.ntmps46
 go_upto_region 1 with fail
 rw [← E1.out,← EQ.out,← EG.out]
 have p0:=KP.out.cell 0
 have p1:=KP.out.cell 1
 have p2:=KP.out.cell 2
 have p3:=KP.out.cell 3
 have p4:=KP.out.cell 4
 have p5:=KP.out.cell 5
 have p6:=KP.out.cell 6
 have p7:=KP.out.cell 7
 go_wp2_with fail
 refine (HPS.out _ B1.out).mono ?_
 rintro o w2 ⟨hb2,A2,n2,c2,rfl,hsl,hge⟩
 have KP2:=Lib.hid (KP.out.below hb2 KP.out.lt)
 have KQ2:=Lib.hid (KQ.out.below hb2 KQ.out.lt)
 have B2:=Lib.hid (B1.out.trans (hb2.mono B1.out.size))
 have HSL:=Lib.hid hsl
 have HGE:=Lib.hid hge
 have SZ1:=Lib.hid (show w1.heap.size=w.heap.size+2 from by rw [E1.out]; simp)
 clear hb2 hsl hge p0 p1 p2 p3 p4 p5 p6 p7
 have p0:=KP2.out.cell 0
 have p1:=KP2.out.cell 1
 obtain ⟨w3,hw3⟩:∃ w3,w3=w2.alloc (.cells #[.int .i64 0,.int .i64 0,.int .u32 0,.int .u32 0,.int .i64 0,.int .i64 0,.int .i64 0,.slice none 0 0] 72):=⟨_,rfl⟩
 have E3:=Lib.hid hw3
 have B23:=Lib.hid (show Below w2.heap.size w2 w3 from by rw [hw3]; exact (Below.refl _ _).alloc (Nat.le_refl _) _)
 have KH3:=Lib.hid (show Blk w3 w2.heap.size 72 #[.int .i64 0,.int .i64 0,.int .u32 0,.int .u32 0,.int .i64 0,.int .i64 0,.int .i64 0,.slice none 0 0] from by rw [hw3]; exact Blk.new w2 _ _)
 have KP3:=Lib.hid (KP2.out.below B23.out KP2.out.lt)
 have KQ3:=Lib.hid (KQ2.out.below B23.out KQ2.out.lt)
 have B3:=Lib.hid (B2.out.trans (B23.out.mono B2.out.size))
 have PC:=Lib.hid (HT.out w3 A2 n2 c2 B3.out (HSL.out.below B23.out))
 have GLT:=Lib.hid (show g<w2.heap.size from KP2.out.lt)
 clear hw3
 go_upto_region 5 with fail
 rw [← E3.out]
 clear p0 p1
 have p0:=KP3.out.cell 0
 go_wp2_with (first
  | (go_at_call 68; refine PC.out.mono ?_; rintro o w4 ⟨hb4,sq,ak,wn,ur,AO,m,co,vv,rfl⟩; have KH4:=Lib.hid (KH3.out.below hb4 KH3.out.lt); have KP4:=Lib.hid (KP3.out.below hb4 KP3.out.lt); have KQ4:=Lib.hid (KQ3.out.below hb4 KQ3.out.lt); have B4:=Lib.hid (B3.out.trans (hb4.mono B3.out.size)); clear hb4)
  | (refine wpList_store_row rfl 72 _ _ rfl w2.heap.size #[.int .i64 sp,.int .i64 dp,.int .u32 sq,.int .u32 ak,.int .i64 fl,.int .i64 wn,.int .i64 ur,.slice AO m co] rfl rfl 72 #[.int .i64 0,.int .i64 0,.int .u32 0,.int .u32 0,.int .i64 0,.int .i64 0,.int .i64 0,.slice none 0 0] KH4.out (by kernel_rfl) rfl (by kernel_rfl) ?_))
 obtain ⟨w5,hw5⟩:∃ w5,w5=w4.setRow w2.heap.size #[.int .i64 sp,.int .i64 dp,.int .u32 sq,.int .u32 ak,.int .i64 fl,.int .i64 wn,.int .i64 ur,.slice AO m co]:=⟨_,rfl⟩
 have E5:=Lib.hid hw5
 have OH:=Lib.hid (show OnlyG w2.heap.size w4 w5 from by rw [hw5]; exact onlyRow _)
 have KH5:=Lib.hid (show Blk w5 w2.heap.size 72 #[.int .i64 sp,.int .i64 dp,.int .u32 sq,.int .u32 ak,.int .i64 fl,.int .i64 wn,.int .i64 ur,.slice AO m co] from by rw [hw5]; exact blkRow KH4.out _)
 have NGH:=Lib.hid (show g≠w2.heap.size from by have:=GLT.out; omega)
 have NQH:=Lib.hid (show q≠w2.heap.size from by have:=KQ2.out.lt; omega)
 have KP5:=Lib.hid (OH.out.blk KP4.out NGH.out)
 have KQ5:=Lib.hid (OH.out.blk KQ4.out NQH.out)
 have B5:=Lib.hid (OH.out.from B4.out B2.out.size)
 rw [← E5.out]
 clear hw5 p0
 have HS0:=Lib.hid (show w5.drew.cell? ⟨w2.heap.size,0,none⟩=some (.int .i64 sp)∧w5.drew.cell? ⟨w2.heap.size,1,none⟩=some (.int .i64 dp)∧w5.drew.cell? ⟨w2.heap.size,4,none⟩=some (.int .i64 fl) from ⟨(KH5.out.below (Below.refl _ _).drew KH5.out.lt).cell 0,(KH5.out.below (Below.refl _ _).drew KH5.out.lt).cell 1,(KH5.out.below (Below.refl _ _).drew KH5.out.lt).cell 4⟩)
 have y0:=KP5.out.cell 8
 have z0:=KP5.out.frozen 8
 have KP50:=Lib.hid (show Blk (w5.setCell ⟨g,8,none⟩ (.int .i64 sp)) g 53 #[.bool v6,.int .i64 6,.bool s6,.int .u64 sh,.int .u64 sl,.bool d6,.int .u64 dh,.int .u64 dl,.int .i64 sp,.int .i64 0,.int .i64 ttl,.int .i64 0,.bool false,.int .i64 0,.bool false,.int .u64 0,.int .u64 0,.bool false,.int .u64 0,.int .u64 0,.int .i64 0,.int .i64 0,.int .i64 sz] from KP5.out.set_ 8 _)
 have KH50:=Lib.hid (KH5.out.far (p:=⟨g,8,none⟩) (Ne.symm NGH.out) (.int .i64 sp))
 have HS1:=Lib.hid (show (w5.setCell ⟨g,8,none⟩ (.int .i64 sp)).drew.cell? ⟨w2.heap.size,0,none⟩=some (.int .i64 sp)∧(w5.setCell ⟨g,8,none⟩ (.int .i64 sp)).drew.cell? ⟨w2.heap.size,1,none⟩=some (.int .i64 dp)∧(w5.setCell ⟨g,8,none⟩ (.int .i64 sp)).drew.cell? ⟨w2.heap.size,4,none⟩=some (.int .i64 fl) from ⟨(KH50.out.below (Below.refl _ _).drew KH50.out.lt).cell 0,(KH50.out.below (Below.refl _ _).drew KH50.out.lt).cell 1,(KH50.out.below (Below.refl _ _).drew KH50.out.lt).cell 4⟩)
 have y1:=KP50.out.cell 9
 have z1:=KP50.out.frozen 9
 have KP51:=Lib.hid (show Blk ((w5.setCell ⟨g,8,none⟩ (.int .i64 sp)).setCell ⟨g,9,none⟩ (.int .i64 dp)) g 53 #[.bool v6,.int .i64 6,.bool s6,.int .u64 sh,.int .u64 sl,.bool d6,.int .u64 dh,.int .u64 dl,.int .i64 sp,.int .i64 dp,.int .i64 ttl,.int .i64 0,.bool false,.int .i64 0,.bool false,.int .u64 0,.int .u64 0,.bool false,.int .u64 0,.int .u64 0,.int .i64 0,.int .i64 0,.int .i64 sz] from KP50.out.set_ 9 _)
 have KH51:=Lib.hid (KH50.out.far (p:=⟨g,9,none⟩) (Ne.symm NGH.out) (.int .i64 dp))
 have HS2:=Lib.hid (show ((w5.setCell ⟨g,8,none⟩ (.int .i64 sp)).setCell ⟨g,9,none⟩ (.int .i64 dp)).drew.cell? ⟨w2.heap.size,0,none⟩=some (.int .i64 sp)∧((w5.setCell ⟨g,8,none⟩ (.int .i64 sp)).setCell ⟨g,9,none⟩ (.int .i64 dp)).drew.cell? ⟨w2.heap.size,1,none⟩=some (.int .i64 dp)∧((w5.setCell ⟨g,8,none⟩ (.int .i64 sp)).setCell ⟨g,9,none⟩ (.int .i64 dp)).drew.cell? ⟨w2.heap.size,4,none⟩=some (.int .i64 fl) from ⟨(KH51.out.below (Below.refl _ _).drew KH51.out.lt).cell 0,(KH51.out.below (Below.refl _ _).drew KH51.out.lt).cell 1,(KH51.out.below (Below.refl _ _).drew KH51.out.lt).cell 4⟩)
 have y2:=KP51.out.cell 11
 have z2:=KP51.out.frozen 11
 have KP52:=Lib.hid (show Blk (((w5.setCell ⟨g,8,none⟩ (.int .i64 sp)).setCell ⟨g,9,none⟩ (.int .i64 dp)).setCell ⟨g,11,none⟩ (.int .i64 fl)) g 53 #[.bool v6,.int .i64 6,.bool s6,.int .u64 sh,.int .u64 sl,.bool d6,.int .u64 dh,.int .u64 dl,.int .i64 sp,.int .i64 dp,.int .i64 ttl,.int .i64 fl,.bool false,.int .i64 0,.bool false,.int .u64 0,.int .u64 0,.bool false,.int .u64 0,.int .u64 0,.int .i64 0,.int .i64 0,.int .i64 sz] from KP51.out.set_ 11 _)
 have KH52:=Lib.hid (KH51.out.far (p:=⟨g,11,none⟩) (Ne.symm NGH.out) (.int .i64 fl))
 have HS3:=Lib.hid (show (((w5.setCell ⟨g,8,none⟩ (.int .i64 sp)).setCell ⟨g,9,none⟩ (.int .i64 dp)).setCell ⟨g,11,none⟩ (.int .i64 fl)).drew.cell? ⟨w2.heap.size,0,none⟩=some (.int .i64 sp)∧(((w5.setCell ⟨g,8,none⟩ (.int .i64 sp)).setCell ⟨g,9,none⟩ (.int .i64 dp)).setCell ⟨g,11,none⟩ (.int .i64 fl)).drew.cell? ⟨w2.heap.size,1,none⟩=some (.int .i64 dp)∧(((w5.setCell ⟨g,8,none⟩ (.int .i64 sp)).setCell ⟨g,9,none⟩ (.int .i64 dp)).setCell ⟨g,11,none⟩ (.int .i64 fl)).drew.cell? ⟨w2.heap.size,4,none⟩=some (.int .i64 fl) from ⟨(KH52.out.below (Below.refl _ _).drew KH52.out.lt).cell 0,(KH52.out.below (Below.refl _ _).drew KH52.out.lt).cell 1,(KH52.out.below (Below.refl _ _).drew KH52.out.lt).cell 4⟩)
 have OG6:=Lib.hid (show OnlyG g w5 (((w5.setCell ⟨g,8,none⟩ (.int .i64 sp)).setCell ⟨g,9,none⟩ (.int .i64 dp)).setCell ⟨g,11,none⟩ (.int .i64 fl)) from ((((OnlyG.refl g w5).set 8 (.int .i64 sp)).set 9 (.int .i64 dp)).set 11 (.int .i64 fl)))
 go_region_held3 (fun V=>V.cell? ⟨w2.heap.size,0,none⟩=some (.int .i64 sp)∧V.cell? ⟨w2.heap.size,1,none⟩=some (.int .i64 dp)∧V.cell? ⟨w2.heap.size,4,none⟩=some (.int .i64 fl)) (first | with_reducible assumption | with_reducible exact HS0.out | with_reducible exact HS1.out | with_reducible exact HS2.out | with_reducible exact HS3.out) (first | fail)
 obtain ⟨w7,hw7⟩:∃ w7,w7=(((w5.setCell ⟨g,8,none⟩ (.int .i64 sp)).setCell ⟨g,9,none⟩ (.int .i64 dp)).setCell ⟨g,11,none⟩ (.int .i64 fl)).drew:=⟨_,rfl⟩
 have E7:=Lib.hid hw7
 have KP7:=Lib.hid (show Blk w7 g 53 #[.bool v6,.int .i64 6,.bool s6,.int .u64 sh,.int .u64 sl,.bool d6,.int .u64 dh,.int .u64 dl,.int .i64 sp,.int .i64 dp,.int .i64 ttl,.int .i64 fl,.bool false,.int .i64 0,.bool false,.int .u64 0,.int .u64 0,.bool false,.int .u64 0,.int .u64 0,.int .i64 0,.int .i64 0,.int .i64 sz] from by rw [hw7]; exact KP52.out.below (Below.refl _ _).drew KP52.out.lt)
 have KQ7:=Lib.hid (show Blk w7 q 53 #[.bool false,.int .i64 0,.bool false,.int .u64 0,.int .u64 0,.bool false,.int .u64 0,.int .u64 0,.int .i64 0,.int .i64 0,.int .i64 0,.int .i64 0,.bool false,.int .i64 0,.bool false,.int .u64 0,.int .u64 0,.bool false,.int .u64 0,.int .u64 0,.int .i64 0,.int .i64 0,.int .i64 0] from by
  rw [hw7]
  have h9:=OG6.out.blk KQ5.out (Ne.symm NE.out)
  exact h9.below (Below.refl _ _).drew h9.lt)
 have B7:=Lib.hid (show Below w.heap.size w w7 from by rw [hw7]; exact (OG6.out.from B5.out (by have:=EG.out; omega)).drew)
 rw [← E7.out]
 clear hw7 y0 z0 y1 z1 y2 z2
 go_wp2_with (refine wpList_store_row rfl 53 _ _ rfl q #[.bool false,.int .i64 0,.bool false,.int .u64 0,.int .u64 0,.bool false,.int .u64 0,.int .u64 0,.int .i64 0,.int .i64 0,.int .i64 0,.int .i64 0,.bool false,.int .i64 0,.bool false,.int .u64 0,.int .u64 0,.bool false,.int .u64 0,.int .u64 0,.int .i64 0,.int .i64 0,.int .i64 0] rfl rfl 53 #[.bool false,.int .i64 0,.bool false,.int .u64 0,.int .u64 0,.bool false,.int .u64 0,.int .u64 0,.int .i64 0,.int .i64 0,.int .i64 0,.int .i64 0,.bool false,.int .i64 0,.bool false,.int .u64 0,.int .u64 0,.bool false,.int .u64 0,.int .u64 0,.int .i64 0,.int .i64 0,.int .i64 0] KQ7.out HI.out rfl (by kernel_rfl) ?_)
 refine bodyPost_ret (results_pk rfl _ _ q #[.bool false,.int .i64 0,.bool false,.int .u64 0,.int .u64 0,.bool false,.int .u64 0,.int .u64 0,.int .i64 0,.int .i64 0,.int .i64 0,.int .i64 0,.bool false,.int .i64 0,.bool false,.int .u64 0,.int .u64 0,.bool false,.int .u64 0,.int .u64 0,.int .i64 0,.int .i64 0,.int .i64 0] rfl (blkRow KQ7.out _) rfl) rfl ?_
 exact ⟨rfl,(onlyRow _).from B7.out (by have:=EQ.out; omega)⟩
theorem with_tcp_ok (v6:Bool) (sp dp:Int) (fl:Int) (s6:Bool) (sh sl:Int) (d6:Bool) (dh dl ttl sz:Int) (A:Option Addr) (n c:Nat) (ps:List Int) (w:World)
  (HPS:Hid (∀ V,Below w.heap.size w V→Calls Try.prog 53 #[.agg #[.bool s6,.int .u64 sh,.int .u64 sl],.agg #[.bool d6,.int .u64 dh,.int .u64 dl],.int .i64 6,.int .i64 n] V (Gives ps V)))
  (HT:Hid (∀ V A2 n2 c2,Below w.heap.size w V→Sl V A2 n2 c2 ps→Calls Try.prog 68 #[.slice A n c,.slice A2 n2 c2] V fun o w'=>Below V.heap.size V w'∧∃ (sq ak wn ur:Int) (AO:Option Addr) (m co:Nat) (v:Value),o=.returned (.tuple #[.agg #[.int .i64 sp,.int .i64 dp,.int .u32 sq,.int .u32 ak,.int .i64 fl,.int .i64 wn,.int .i64 ur,.slice AO m co],v,.int .i64 0]))) :
  Calls Try.prog 46 #[.agg #[.bool v6,.int .i64 6,.bool s6,.int .u64 sh,.int .u64 sl,.bool d6,.int .u64 dh,.int .u64 dl,.int .i64 0,.int .i64 0,.int .i64 ttl,.int .i64 0,.bool false,.int .i64 0,.bool false,.int .u64 0,.int .u64 0,.bool false,.int .u64 0,.int .u64 0,.int .i64 0,.int .i64 0,.int .i64 sz],.slice A n c] w fun o w'=>o=.returned (.tuple #[.agg #[.bool v6,.int .i64 6,.bool s6,.int .u64 sh,.int .u64 sl,.bool d6,.int .u64 dh,.int .u64 dl,.int .i64 sp,.int .i64 dp,.int .i64 ttl,.int .i64 fl,.bool false,.int .i64 0,.bool false,.int .u64 0,.int .u64 0,.bool false,.int .u64 0,.int .u64 0,.int .i64 0,.int .i64 0,.int .i64 sz],.int .i64 0])∧Below w.heap.size w w':=by
 obtain ⟨w1,hw1⟩:∃ w1,w1=(w.alloc (.cells #[.bool v6,.int .i64 6,.bool s6,.int .u64 sh,.int .u64 sl,.bool d6,.int .u64 dh,.int .u64 dl,.int .i64 0,.int .i64 0,.int .i64 ttl,.int .i64 0,.bool false,.int .i64 0,.bool false,.int .u64 0,.int .u64 0,.bool false,.int .u64 0,.int .u64 0,.int .i64 0,.int .i64 0,.int .i64 sz] 53)).alloc (.cells #[.bool false,.int .i64 0,.bool false,.int .u64 0,.int .u64 0,.bool false,.int .u64 0,.int .u64 0,.int .i64 0,.int .i64 0,.int .i64 0,.int .i64 0,.bool false,.int .i64 0,.bool false,.int .u64 0,.int .u64 0,.bool false,.int .u64 0,.int .u64 0,.int .i64 0,.int .i64 0,.int .i64 0] 53):=⟨_,rfl⟩
 have E1:=Lib.hid hw1
 have BA:=Lib.hid (show Below w.heap.size w (w.alloc (.cells #[.bool v6,.int .i64 6,.bool s6,.int .u64 sh,.int .u64 sl,.bool d6,.int .u64 dh,.int .u64 dl,.int .i64 0,.int .i64 0,.int .i64 ttl,.int .i64 0,.bool false,.int .i64 0,.bool false,.int .u64 0,.int .u64 0,.bool false,.int .u64 0,.int .u64 0,.int .i64 0,.int .i64 0,.int .i64 sz] 53)) from (Below.refl _ _).alloc (Nat.le_refl _) _)
 have B1:=Lib.hid (show Below w.heap.size w w1 from by rw [hw1]; exact BA.out.alloc BA.out.size _)
 obtain ⟨g,hg⟩:∃ g,g=w.heap.size:=⟨_,rfl⟩
 obtain ⟨q,hq⟩:∃ q,q=w.heap.size+1:=⟨_,rfl⟩
 have EG:=Lib.hid hg
 have EQ:=Lib.hid hq
 have NE:=Lib.hid (show g≠q from by omega)
 have KP:=Lib.hid (show Blk w1 g 53 #[.bool v6,.int .i64 6,.bool s6,.int .u64 sh,.int .u64 sl,.bool d6,.int .u64 dh,.int .u64 dl,.int .i64 0,.int .i64 0,.int .i64 ttl,.int .i64 0,.bool false,.int .i64 0,.bool false,.int .u64 0,.int .u64 0,.bool false,.int .u64 0,.int .u64 0,.int .i64 0,.int .i64 0,.int .i64 sz] from by rw [hw1,hg]; exact (Blk.new w _ _).alloc _)
 have KQ:=Lib.hid (show Blk w1 q 53 #[.bool false,.int .i64 0,.bool false,.int .u64 0,.int .u64 0,.bool false,.int .u64 0,.int .u64 0,.int .i64 0,.int .i64 0,.int .i64 0,.int .i64 0,.bool false,.int .i64 0,.bool false,.int .u64 0,.int .u64 0,.bool false,.int .u64 0,.int .u64 0,.int .i64 0,.int .i64 0,.int .i64 0] from by
  have h9:=Blk.new (w.alloc (.cells #[.bool v6,.int .i64 6,.bool s6,.int .u64 sh,.int .u64 sl,.bool d6,.int .u64 dh,.int .u64 dl,.int .i64 0,.int .i64 0,.int .i64 ttl,.int .i64 0,.bool false,.int .i64 0,.bool false,.int .u64 0,.int .u64 0,.bool false,.int .u64 0,.int .u64 0,.int .i64 0,.int .i64 0,.int .i64 sz] 53)) 53 #[.bool false,.int .i64 0,.bool false,.int .u64 0,.int .u64 0,.bool false,.int .u64 0,.int .u64 0,.int .i64 0,.int .i64 0,.int .i64 0,.int .i64 0,.bool false,.int .i64 0,.bool false,.int .u64 0,.int .u64 0,.bool false,.int .u64 0,.int .u64 0,.int .i64 0,.int .i64 0,.int .i64 0]
  rw [← hw1] at h9
  rw [hq]
  simpa using h9)
 have HI:=Lib.hid pk_size
 clear hw1 hg hq
 go_enter Try.func46,Try.ntmps46
 go_upto_region 1 with fail
 rw [← E1.out,← EQ.out,← EG.out]
 have p0:=KP.out.cell 0
 have p1:=KP.out.cell 1
 have p2:=KP.out.cell 2
 have p3:=KP.out.cell 3
 have p4:=KP.out.cell 4
 have p5:=KP.out.cell 5
 have p6:=KP.out.cell 6
 have p7:=KP.out.cell 7
 go_wp2_with fail
 refine (HPS.out _ B1.out).mono ?_
 rintro o w2 ⟨hb2,A2,n2,c2,rfl,hsl,hge⟩
 have KP2:=Lib.hid (KP.out.below hb2 KP.out.lt)
 have KQ2:=Lib.hid (KQ.out.below hb2 KQ.out.lt)
 have B2:=Lib.hid (B1.out.trans (hb2.mono B1.out.size))
 have HSL:=Lib.hid hsl
 have HGE:=Lib.hid hge
 have SZ1:=Lib.hid (show w1.heap.size=w.heap.size+2 from by rw [E1.out]; simp)
 clear hb2 hsl hge p0 p1 p2 p3 p4 p5 p6 p7
 have p0:=KP2.out.cell 0
 have p1:=KP2.out.cell 1
 obtain ⟨w3,hw3⟩:∃ w3,w3=w2.alloc (.cells #[.int .i64 0,.int .i64 0,.int .u32 0,.int .u32 0,.int .i64 0,.int .i64 0,.int .i64 0,.slice none 0 0] 72):=⟨_,rfl⟩
 have E3:=Lib.hid hw3
 have B23:=Lib.hid (show Below w2.heap.size w2 w3 from by rw [hw3]; exact (Below.refl _ _).alloc (Nat.le_refl _) _)
 have KH3:=Lib.hid (show Blk w3 w2.heap.size 72 #[.int .i64 0,.int .i64 0,.int .u32 0,.int .u32 0,.int .i64 0,.int .i64 0,.int .i64 0,.slice none 0 0] from by rw [hw3]; exact Blk.new w2 _ _)
 have KP3:=Lib.hid (KP2.out.below B23.out KP2.out.lt)
 have KQ3:=Lib.hid (KQ2.out.below B23.out KQ2.out.lt)
 have B3:=Lib.hid (B2.out.trans (B23.out.mono B2.out.size))
 have PC:=Lib.hid (HT.out w3 A2 n2 c2 B3.out (HSL.out.below B23.out))
 have GLT:=Lib.hid (show g<w2.heap.size from KP2.out.lt)
 clear hw3
 go_upto_region 5 with fail
 rw [← E3.out]
 clear p0 p1
 have p0:=KP3.out.cell 0
 go_wp2_with (first
  | (go_at_call 68; refine PC.out.mono ?_; rintro o w4 ⟨hb4,sq,ak,wn,ur,AO,m,co,vv,rfl⟩; have KH4:=Lib.hid (KH3.out.below hb4 KH3.out.lt); have KP4:=Lib.hid (KP3.out.below hb4 KP3.out.lt); have KQ4:=Lib.hid (KQ3.out.below hb4 KQ3.out.lt); have B4:=Lib.hid (B3.out.trans (hb4.mono B3.out.size)); clear hb4)
  | (refine wpList_store_row rfl 72 _ _ rfl w2.heap.size #[.int .i64 sp,.int .i64 dp,.int .u32 sq,.int .u32 ak,.int .i64 fl,.int .i64 wn,.int .i64 ur,.slice AO m co] rfl rfl 72 #[.int .i64 0,.int .i64 0,.int .u32 0,.int .u32 0,.int .i64 0,.int .i64 0,.int .i64 0,.slice none 0 0] KH4.out (by kernel_rfl) rfl (by kernel_rfl) ?_))
 obtain ⟨w5,hw5⟩:∃ w5,w5=w4.setRow w2.heap.size #[.int .i64 sp,.int .i64 dp,.int .u32 sq,.int .u32 ak,.int .i64 fl,.int .i64 wn,.int .i64 ur,.slice AO m co]:=⟨_,rfl⟩
 have E5:=Lib.hid hw5
 have OH:=Lib.hid (show OnlyG w2.heap.size w4 w5 from by rw [hw5]; exact onlyRow _)
 have KH5:=Lib.hid (show Blk w5 w2.heap.size 72 #[.int .i64 sp,.int .i64 dp,.int .u32 sq,.int .u32 ak,.int .i64 fl,.int .i64 wn,.int .i64 ur,.slice AO m co] from by rw [hw5]; exact blkRow KH4.out _)
 have NGH:=Lib.hid (show g≠w2.heap.size from by have:=GLT.out; omega)
 have NQH:=Lib.hid (show q≠w2.heap.size from by have:=KQ2.out.lt; omega)
 have KP5:=Lib.hid (OH.out.blk KP4.out NGH.out)
 have KQ5:=Lib.hid (OH.out.blk KQ4.out NQH.out)
 have B5:=Lib.hid (OH.out.from B4.out B2.out.size)
 rw [← E5.out]
 clear hw5 p0
 have HS0:=Lib.hid (show w5.drew.cell? ⟨w2.heap.size,0,none⟩=some (.int .i64 sp)∧w5.drew.cell? ⟨w2.heap.size,1,none⟩=some (.int .i64 dp)∧w5.drew.cell? ⟨w2.heap.size,4,none⟩=some (.int .i64 fl) from ⟨(KH5.out.below (Below.refl _ _).drew KH5.out.lt).cell 0,(KH5.out.below (Below.refl _ _).drew KH5.out.lt).cell 1,(KH5.out.below (Below.refl _ _).drew KH5.out.lt).cell 4⟩)
 have y0:=KP5.out.cell 8
 have z0:=KP5.out.frozen 8
 have KP50:=Lib.hid (show Blk (w5.setCell ⟨g,8,none⟩ (.int .i64 sp)) g 53 #[.bool v6,.int .i64 6,.bool s6,.int .u64 sh,.int .u64 sl,.bool d6,.int .u64 dh,.int .u64 dl,.int .i64 sp,.int .i64 0,.int .i64 ttl,.int .i64 0,.bool false,.int .i64 0,.bool false,.int .u64 0,.int .u64 0,.bool false,.int .u64 0,.int .u64 0,.int .i64 0,.int .i64 0,.int .i64 sz] from KP5.out.set_ 8 _)
 have KH50:=Lib.hid (KH5.out.far (p:=⟨g,8,none⟩) (Ne.symm NGH.out) (.int .i64 sp))
 have HS1:=Lib.hid (show (w5.setCell ⟨g,8,none⟩ (.int .i64 sp)).drew.cell? ⟨w2.heap.size,0,none⟩=some (.int .i64 sp)∧(w5.setCell ⟨g,8,none⟩ (.int .i64 sp)).drew.cell? ⟨w2.heap.size,1,none⟩=some (.int .i64 dp)∧(w5.setCell ⟨g,8,none⟩ (.int .i64 sp)).drew.cell? ⟨w2.heap.size,4,none⟩=some (.int .i64 fl) from ⟨(KH50.out.below (Below.refl _ _).drew KH50.out.lt).cell 0,(KH50.out.below (Below.refl _ _).drew KH50.out.lt).cell 1,(KH50.out.below (Below.refl _ _).drew KH50.out.lt).cell 4⟩)
 have y1:=KP50.out.cell 9
 have z1:=KP50.out.frozen 9
 have KP51:=Lib.hid (show Blk ((w5.setCell ⟨g,8,none⟩ (.int .i64 sp)).setCell ⟨g,9,none⟩ (.int .i64 dp)) g 53 #[.bool v6,.int .i64 6,.bool s6,.int .u64 sh,.int .u64 sl,.bool d6,.int .u64 dh,.int .u64 dl,.int .i64 sp,.int .i64 dp,.int .i64 ttl,.int .i64 0,.bool false,.int .i64 0,.bool false,.int .u64 0,.int .u64 0,.bool false,.int .u64 0,.int .u64 0,.int .i64 0,.int .i64 0,.int .i64 sz] from KP50.out.set_ 9 _)
 have KH51:=Lib.hid (KH50.out.far (p:=⟨g,9,none⟩) (Ne.symm NGH.out) (.int .i64 dp))
 have HS2:=Lib.hid (show ((w5.setCell ⟨g,8,none⟩ (.int .i64 sp)).setCell ⟨g,9,none⟩ (.int .i64 dp)).drew.cell? ⟨w2.heap.size,0,none⟩=some (.int .i64 sp)∧((w5.setCell ⟨g,8,none⟩ (.int .i64 sp)).setCell ⟨g,9,none⟩ (.int .i64 dp)).drew.cell? ⟨w2.heap.size,1,none⟩=some (.int .i64 dp)∧((w5.setCell ⟨g,8,none⟩ (.int .i64 sp)).setCell ⟨g,9,none⟩ (.int .i64 dp)).drew.cell? ⟨w2.heap.size,4,none⟩=some (.int .i64 fl) from ⟨(KH51.out.below (Below.refl _ _).drew KH51.out.lt).cell 0,(KH51.out.below (Below.refl _ _).drew KH51.out.lt).cell 1,(KH51.out.below (Below.refl _ _).drew KH51.out.lt).cell 4⟩)
 have y2:=KP51.out.cell 11
 have z2:=KP51.out.frozen 11
 have KP52:=Lib.hid (show Blk (((w5.setCell ⟨g,8,none⟩ (.int .i64 sp)).setCell ⟨g,9,none⟩ (.int .i64 dp)).setCell ⟨g,11,none⟩ (.int .i64 fl)) g 53 #[.bool v6,.int .i64 6,.bool s6,.int .u64 sh,.int .u64 sl,.bool d6,.int .u64 dh,.int .u64 dl,.int .i64 sp,.int .i64 dp,.int .i64 ttl,.int .i64 fl,.bool false,.int .i64 0,.bool false,.int .u64 0,.int .u64 0,.bool false,.int .u64 0,.int .u64 0,.int .i64 0,.int .i64 0,.int .i64 sz] from KP51.out.set_ 11 _)
 have KH52:=Lib.hid (KH51.out.far (p:=⟨g,11,none⟩) (Ne.symm NGH.out) (.int .i64 fl))
 have HS3:=Lib.hid (show (((w5.setCell ⟨g,8,none⟩ (.int .i64 sp)).setCell ⟨g,9,none⟩ (.int .i64 dp)).setCell ⟨g,11,none⟩ (.int .i64 fl)).drew.cell? ⟨w2.heap.size,0,none⟩=some (.int .i64 sp)∧(((w5.setCell ⟨g,8,none⟩ (.int .i64 sp)).setCell ⟨g,9,none⟩ (.int .i64 dp)).setCell ⟨g,11,none⟩ (.int .i64 fl)).drew.cell? ⟨w2.heap.size,1,none⟩=some (.int .i64 dp)∧(((w5.setCell ⟨g,8,none⟩ (.int .i64 sp)).setCell ⟨g,9,none⟩ (.int .i64 dp)).setCell ⟨g,11,none⟩ (.int .i64 fl)).drew.cell? ⟨w2.heap.size,4,none⟩=some (.int .i64 fl) from ⟨(KH52.out.below (Below.refl _ _).drew KH52.out.lt).cell 0,(KH52.out.below (Below.refl _ _).drew KH52.out.lt).cell 1,(KH52.out.below (Below.refl _ _).drew KH52.out.lt).cell 4⟩)
 have OG6:=Lib.hid (show OnlyG g w5 (((w5.setCell ⟨g,8,none⟩ (.int .i64 sp)).setCell ⟨g,9,none⟩ (.int .i64 dp)).setCell ⟨g,11,none⟩ (.int .i64 fl)) from ((((OnlyG.refl g w5).set 8 (.int .i64 sp)).set 9 (.int .i64 dp)).set 11 (.int .i64 fl)))
 go_region_held3 (fun V=>V.cell? ⟨w2.heap.size,0,none⟩=some (.int .i64 sp)∧V.cell? ⟨w2.heap.size,1,none⟩=some (.int .i64 dp)∧V.cell? ⟨w2.heap.size,4,none⟩=some (.int .i64 fl)) (first | with_reducible assumption | with_reducible exact HS0.out | with_reducible exact HS1.out | with_reducible exact HS2.out | with_reducible exact HS3.out) (first | fail)
 obtain ⟨w7,hw7⟩:∃ w7,w7=(((w5.setCell ⟨g,8,none⟩ (.int .i64 sp)).setCell ⟨g,9,none⟩ (.int .i64 dp)).setCell ⟨g,11,none⟩ (.int .i64 fl)).drew:=⟨_,rfl⟩
 have E7:=Lib.hid hw7
 have KP7:=Lib.hid (show Blk w7 g 53 #[.bool v6,.int .i64 6,.bool s6,.int .u64 sh,.int .u64 sl,.bool d6,.int .u64 dh,.int .u64 dl,.int .i64 sp,.int .i64 dp,.int .i64 ttl,.int .i64 fl,.bool false,.int .i64 0,.bool false,.int .u64 0,.int .u64 0,.bool false,.int .u64 0,.int .u64 0,.int .i64 0,.int .i64 0,.int .i64 sz] from by rw [hw7]; exact KP52.out.below (Below.refl _ _).drew KP52.out.lt)
 have KQ7:=Lib.hid (show Blk w7 q 53 #[.bool false,.int .i64 0,.bool false,.int .u64 0,.int .u64 0,.bool false,.int .u64 0,.int .u64 0,.int .i64 0,.int .i64 0,.int .i64 0,.int .i64 0,.bool false,.int .i64 0,.bool false,.int .u64 0,.int .u64 0,.bool false,.int .u64 0,.int .u64 0,.int .i64 0,.int .i64 0,.int .i64 0] from by
  rw [hw7]
  have h9:=OG6.out.blk KQ5.out (Ne.symm NE.out)
  exact h9.below (Below.refl _ _).drew h9.lt)
 have B7:=Lib.hid (show Below w.heap.size w w7 from by rw [hw7]; exact (OG6.out.from B5.out (by have:=EG.out; omega)).drew)
 rw [← E7.out]
 clear hw7 y0 z0 y1 z1 y2 z2
 go_wp2_with (first
  | (refine wpList_load_row rfl 53 _ rfl g rfl 53 #[.bool v6,.int .i64 6,.bool s6,.int .u64 sh,.int .u64 sl,.bool d6,.int .u64 dh,.int .u64 dl,.int .i64 sp,.int .i64 dp,.int .i64 ttl,.int .i64 fl,.bool false,.int .i64 0,.bool false,.int .u64 0,.int .u64 0,.bool false,.int .u64 0,.int .u64 0,.int .i64 0,.int .i64 0,.int .i64 sz] (0,0) _ KP7.out Try.underlying53 rfl HI.out ?_)
  | (refine wpList_store_row rfl 53 _ _ rfl q #[.bool v6,.int .i64 6,.bool s6,.int .u64 sh,.int .u64 sl,.bool d6,.int .u64 dh,.int .u64 dl,.int .i64 sp,.int .i64 dp,.int .i64 ttl,.int .i64 fl,.bool false,.int .i64 0,.bool false,.int .u64 0,.int .u64 0,.bool false,.int .u64 0,.int .u64 0,.int .i64 0,.int .i64 0,.int .i64 sz] rfl rfl 53 #[.bool false,.int .i64 0,.bool false,.int .u64 0,.int .u64 0,.bool false,.int .u64 0,.int .u64 0,.int .i64 0,.int .i64 0,.int .i64 0,.int .i64 0,.bool false,.int .i64 0,.bool false,.int .u64 0,.int .u64 0,.bool false,.int .u64 0,.int .u64 0,.int .i64 0,.int .i64 0,.int .i64 0] KQ7.out HI.out rfl (by kernel_rfl) ?_))
 refine bodyPost_ret (results_pk rfl _ _ q #[.bool v6,.int .i64 6,.bool s6,.int .u64 sh,.int .u64 sl,.bool d6,.int .u64 dh,.int .u64 dl,.int .i64 sp,.int .i64 dp,.int .i64 ttl,.int .i64 fl,.bool false,.int .i64 0,.bool false,.int .u64 0,.int .u64 0,.bool false,.int .u64 0,.int .u64 0,.int .i64 0,.int .i64 0,.int .i64 sz] rfl (blkRow KQ7.out _) rfl) rfl ?_
 exact ⟨rfl,(onlyRow _).from B7.out (by have:=EQ.out; omega)⟩
theorem with_udp_no (v6:Bool) (sp dp:Int) (e:Int) (he:e≠0) (s6:Bool) (sh sl:Int) (d6:Bool) (dh dl ttl sz:Int) (A:Option Addr) (n c:Nat) (ps:List Int) (w:World)
  (HPS:Hid (∀ V,Below w.heap.size w V→Calls Try.prog 53 #[.agg #[.bool s6,.int .u64 sh,.int .u64 sl],.agg #[.bool d6,.int .u64 dh,.int .u64 dl],.int .i64 17,.int .i64 n] V (Gives ps V)))
  (HT:Hid (∀ V A2 n2 c2,Below w.heap.size w V→Sl V A2 n2 c2 ps→Calls Try.prog 69 #[.slice A n c,.slice A2 n2 c2,.bool (!v6)] V fun o w'=>Below V.heap.size V w'∧∃ (bb:Bool) (v:Value),o=.returned (.tuple #[.agg #[.int .i64 sp,.int .i64 dp,.bool bb],v,.int .i64 e]))) :
  Calls Try.prog 46 #[.agg #[.bool v6,.int .i64 17,.bool s6,.int .u64 sh,.int .u64 sl,.bool d6,.int .u64 dh,.int .u64 dl,.int .i64 0,.int .i64 0,.int .i64 ttl,.int .i64 0,.bool false,.int .i64 0,.bool false,.int .u64 0,.int .u64 0,.bool false,.int .u64 0,.int .u64 0,.int .i64 0,.int .i64 0,.int .i64 sz],.slice A n c] w fun o w'=>o=.returned (.tuple #[.agg #[.bool false,.int .i64 0,.bool false,.int .u64 0,.int .u64 0,.bool false,.int .u64 0,.int .u64 0,.int .i64 0,.int .i64 0,.int .i64 0,.int .i64 0,.bool false,.int .i64 0,.bool false,.int .u64 0,.int .u64 0,.bool false,.int .u64 0,.int .u64 0,.int .i64 0,.int .i64 0,.int .i64 0],.int .i64 e])∧Below w.heap.size w w':=by
 have te:(e != 0)=true:=by simpa using he
 clear he
 obtain ⟨w1,hw1⟩:∃ w1,w1=(w.alloc (.cells #[.bool v6,.int .i64 17,.bool s6,.int .u64 sh,.int .u64 sl,.bool d6,.int .u64 dh,.int .u64 dl,.int .i64 0,.int .i64 0,.int .i64 ttl,.int .i64 0,.bool false,.int .i64 0,.bool false,.int .u64 0,.int .u64 0,.bool false,.int .u64 0,.int .u64 0,.int .i64 0,.int .i64 0,.int .i64 sz] 53)).alloc (.cells #[.bool false,.int .i64 0,.bool false,.int .u64 0,.int .u64 0,.bool false,.int .u64 0,.int .u64 0,.int .i64 0,.int .i64 0,.int .i64 0,.int .i64 0,.bool false,.int .i64 0,.bool false,.int .u64 0,.int .u64 0,.bool false,.int .u64 0,.int .u64 0,.int .i64 0,.int .i64 0,.int .i64 0] 53):=⟨_,rfl⟩
 have E1:=Lib.hid hw1
 have BA:=Lib.hid (show Below w.heap.size w (w.alloc (.cells #[.bool v6,.int .i64 17,.bool s6,.int .u64 sh,.int .u64 sl,.bool d6,.int .u64 dh,.int .u64 dl,.int .i64 0,.int .i64 0,.int .i64 ttl,.int .i64 0,.bool false,.int .i64 0,.bool false,.int .u64 0,.int .u64 0,.bool false,.int .u64 0,.int .u64 0,.int .i64 0,.int .i64 0,.int .i64 sz] 53)) from (Below.refl _ _).alloc (Nat.le_refl _) _)
 have B1:=Lib.hid (show Below w.heap.size w w1 from by rw [hw1]; exact BA.out.alloc BA.out.size _)
 obtain ⟨g,hg⟩:∃ g,g=w.heap.size:=⟨_,rfl⟩
 obtain ⟨q,hq⟩:∃ q,q=w.heap.size+1:=⟨_,rfl⟩
 have EG:=Lib.hid hg
 have EQ:=Lib.hid hq
 have NE:=Lib.hid (show g≠q from by omega)
 have KP:=Lib.hid (show Blk w1 g 53 #[.bool v6,.int .i64 17,.bool s6,.int .u64 sh,.int .u64 sl,.bool d6,.int .u64 dh,.int .u64 dl,.int .i64 0,.int .i64 0,.int .i64 ttl,.int .i64 0,.bool false,.int .i64 0,.bool false,.int .u64 0,.int .u64 0,.bool false,.int .u64 0,.int .u64 0,.int .i64 0,.int .i64 0,.int .i64 sz] from by rw [hw1,hg]; exact (Blk.new w _ _).alloc _)
 have KQ:=Lib.hid (show Blk w1 q 53 #[.bool false,.int .i64 0,.bool false,.int .u64 0,.int .u64 0,.bool false,.int .u64 0,.int .u64 0,.int .i64 0,.int .i64 0,.int .i64 0,.int .i64 0,.bool false,.int .i64 0,.bool false,.int .u64 0,.int .u64 0,.bool false,.int .u64 0,.int .u64 0,.int .i64 0,.int .i64 0,.int .i64 0] from by
  have h9:=Blk.new (w.alloc (.cells #[.bool v6,.int .i64 17,.bool s6,.int .u64 sh,.int .u64 sl,.bool d6,.int .u64 dh,.int .u64 dl,.int .i64 0,.int .i64 0,.int .i64 ttl,.int .i64 0,.bool false,.int .i64 0,.bool false,.int .u64 0,.int .u64 0,.bool false,.int .u64 0,.int .u64 0,.int .i64 0,.int .i64 0,.int .i64 sz] 53)) 53 #[.bool false,.int .i64 0,.bool false,.int .u64 0,.int .u64 0,.bool false,.int .u64 0,.int .u64 0,.int .i64 0,.int .i64 0,.int .i64 0,.int .i64 0,.bool false,.int .i64 0,.bool false,.int .u64 0,.int .u64 0,.bool false,.int .u64 0,.int .u64 0,.int .i64 0,.int .i64 0,.int .i64 0]
  rw [← hw1] at h9
  rw [hq]
  simpa using h9)
 have HI:=Lib.hid pk_size
 clear hw1 hg hq
 go_enter Try.func46,Try.ntmps46
 go_upto_region 1 with fail
 rw [← E1.out,← EQ.out,← EG.out]
 have p0:=KP.out.cell 0
 have p1:=KP.out.cell 1
 have p2:=KP.out.cell 2
 have p3:=KP.out.cell 3
 have p4:=KP.out.cell 4
 have p5:=KP.out.cell 5
 have p6:=KP.out.cell 6
 have p7:=KP.out.cell 7
 go_wp2_with fail
 refine (HPS.out _ B1.out).mono ?_
 rintro o w2 ⟨hb2,A2,n2,c2,rfl,hsl,hge⟩
 have KP2:=Lib.hid (KP.out.below hb2 KP.out.lt)
 have KQ2:=Lib.hid (KQ.out.below hb2 KQ.out.lt)
 have B2:=Lib.hid (B1.out.trans (hb2.mono B1.out.size))
 have HSL:=Lib.hid hsl
 have HGE:=Lib.hid hge
 have SZ1:=Lib.hid (show w1.heap.size=w.heap.size+2 from by rw [E1.out]; simp)
 clear hb2 hsl hge p0 p1 p2 p3 p4 p5 p6 p7
 have p0:=KP2.out.cell 0
 have p1:=KP2.out.cell 1
 obtain ⟨w3,hw3⟩:∃ w3,w3=w2.alloc (.cells #[.int .i64 0,.int .i64 0,.bool false] 78):=⟨_,rfl⟩
 have E3:=Lib.hid hw3
 have B23:=Lib.hid (show Below w2.heap.size w2 w3 from by rw [hw3]; exact (Below.refl _ _).alloc (Nat.le_refl _) _)
 have KH3:=Lib.hid (show Blk w3 w2.heap.size 78 #[.int .i64 0,.int .i64 0,.bool false] from by rw [hw3]; exact Blk.new w2 _ _)
 have KP3:=Lib.hid (KP2.out.below B23.out KP2.out.lt)
 have KQ3:=Lib.hid (KQ2.out.below B23.out KQ2.out.lt)
 have B3:=Lib.hid (B2.out.trans (B23.out.mono B2.out.size))
 have PC:=Lib.hid (HT.out w3 A2 n2 c2 B3.out (HSL.out.below B23.out))
 have GLT:=Lib.hid (show g<w2.heap.size from KP2.out.lt)
 clear hw3
 go_upto_region 9 with fail
 rw [← E3.out]
 clear p0 p1
 have p0:=KP3.out.cell 0
 go_wp2_with (first
  | (go_at_call 69; refine PC.out.mono ?_; rintro o w4 ⟨hb4,bb,vv,rfl⟩; have KH4:=Lib.hid (KH3.out.below hb4 KH3.out.lt); have KP4:=Lib.hid (KP3.out.below hb4 KP3.out.lt); have KQ4:=Lib.hid (KQ3.out.below hb4 KQ3.out.lt); have B4:=Lib.hid (B3.out.trans (hb4.mono B3.out.size)); clear hb4)
  | (refine wpList_store_row rfl 78 _ _ rfl w2.heap.size #[.int .i64 sp,.int .i64 dp,.bool bb] rfl rfl 78 #[.int .i64 0,.int .i64 0,.bool false] KH4.out (by kernel_rfl) rfl (by kernel_rfl) ?_))
 obtain ⟨w5,hw5⟩:∃ w5,w5=w4.setRow w2.heap.size #[.int .i64 sp,.int .i64 dp,.bool bb]:=⟨_,rfl⟩
 have E5:=Lib.hid hw5
 have OH:=Lib.hid (show OnlyG w2.heap.size w4 w5 from by rw [hw5]; exact onlyRow _)
 have KH5:=Lib.hid (show Blk w5 w2.heap.size 78 #[.int .i64 sp,.int .i64 dp,.bool bb] from by rw [hw5]; exact blkRow KH4.out _)
 have NGH:=Lib.hid (show g≠w2.heap.size from by have:=GLT.out; omega)
 have NQH:=Lib.hid (show q≠w2.heap.size from by have:=KQ2.out.lt; omega)
 have KP5:=Lib.hid (OH.out.blk KP4.out NGH.out)
 have KQ5:=Lib.hid (OH.out.blk KQ4.out NQH.out)
 have B5:=Lib.hid (OH.out.from B4.out B2.out.size)
 rw [← E5.out]
 clear hw5 p0
 have HS0:=Lib.hid (show w5.drew.cell? ⟨w2.heap.size,0,none⟩=some (.int .i64 sp)∧w5.drew.cell? ⟨w2.heap.size,1,none⟩=some (.int .i64 dp) from ⟨(KH5.out.below (Below.refl _ _).drew KH5.out.lt).cell 0,(KH5.out.below (Below.refl _ _).drew KH5.out.lt).cell 1⟩)
 have y0:=KP5.out.cell 8
 have z0:=KP5.out.frozen 8
 have KP50:=Lib.hid (show Blk (w5.setCell ⟨g,8,none⟩ (.int .i64 sp)) g 53 #[.bool v6,.int .i64 17,.bool s6,.int .u64 sh,.int .u64 sl,.bool d6,.int .u64 dh,.int .u64 dl,.int .i64 sp,.int .i64 0,.int .i64 ttl,.int .i64 0,.bool false,.int .i64 0,.bool false,.int .u64 0,.int .u64 0,.bool false,.int .u64 0,.int .u64 0,.int .i64 0,.int .i64 0,.int .i64 sz] from KP5.out.set_ 8 _)
 have KH50:=Lib.hid (KH5.out.far (p:=⟨g,8,none⟩) (Ne.symm NGH.out) (.int .i64 sp))
 have HS1:=Lib.hid (show (w5.setCell ⟨g,8,none⟩ (.int .i64 sp)).drew.cell? ⟨w2.heap.size,0,none⟩=some (.int .i64 sp)∧(w5.setCell ⟨g,8,none⟩ (.int .i64 sp)).drew.cell? ⟨w2.heap.size,1,none⟩=some (.int .i64 dp) from ⟨(KH50.out.below (Below.refl _ _).drew KH50.out.lt).cell 0,(KH50.out.below (Below.refl _ _).drew KH50.out.lt).cell 1⟩)
 have y1:=KP50.out.cell 9
 have z1:=KP50.out.frozen 9
 have KP51:=Lib.hid (show Blk ((w5.setCell ⟨g,8,none⟩ (.int .i64 sp)).setCell ⟨g,9,none⟩ (.int .i64 dp)) g 53 #[.bool v6,.int .i64 17,.bool s6,.int .u64 sh,.int .u64 sl,.bool d6,.int .u64 dh,.int .u64 dl,.int .i64 sp,.int .i64 dp,.int .i64 ttl,.int .i64 0,.bool false,.int .i64 0,.bool false,.int .u64 0,.int .u64 0,.bool false,.int .u64 0,.int .u64 0,.int .i64 0,.int .i64 0,.int .i64 sz] from KP50.out.set_ 9 _)
 have KH51:=Lib.hid (KH50.out.far (p:=⟨g,9,none⟩) (Ne.symm NGH.out) (.int .i64 dp))
 have HS2:=Lib.hid (show ((w5.setCell ⟨g,8,none⟩ (.int .i64 sp)).setCell ⟨g,9,none⟩ (.int .i64 dp)).drew.cell? ⟨w2.heap.size,0,none⟩=some (.int .i64 sp)∧((w5.setCell ⟨g,8,none⟩ (.int .i64 sp)).setCell ⟨g,9,none⟩ (.int .i64 dp)).drew.cell? ⟨w2.heap.size,1,none⟩=some (.int .i64 dp) from ⟨(KH51.out.below (Below.refl _ _).drew KH51.out.lt).cell 0,(KH51.out.below (Below.refl _ _).drew KH51.out.lt).cell 1⟩)
 have OG6:=Lib.hid (show OnlyG g w5 ((w5.setCell ⟨g,8,none⟩ (.int .i64 sp)).setCell ⟨g,9,none⟩ (.int .i64 dp)) from (((OnlyG.refl g w5).set 8 (.int .i64 sp)).set 9 (.int .i64 dp)))
 go_region_held3 (fun V=>V.cell? ⟨w2.heap.size,0,none⟩=some (.int .i64 sp)∧V.cell? ⟨w2.heap.size,1,none⟩=some (.int .i64 dp)) (first | with_reducible assumption | with_reducible exact HS0.out | with_reducible exact HS1.out | with_reducible exact HS2.out) (first | fail)
 obtain ⟨w7,hw7⟩:∃ w7,w7=((w5.setCell ⟨g,8,none⟩ (.int .i64 sp)).setCell ⟨g,9,none⟩ (.int .i64 dp)).drew:=⟨_,rfl⟩
 have E7:=Lib.hid hw7
 have KP7:=Lib.hid (show Blk w7 g 53 #[.bool v6,.int .i64 17,.bool s6,.int .u64 sh,.int .u64 sl,.bool d6,.int .u64 dh,.int .u64 dl,.int .i64 sp,.int .i64 dp,.int .i64 ttl,.int .i64 0,.bool false,.int .i64 0,.bool false,.int .u64 0,.int .u64 0,.bool false,.int .u64 0,.int .u64 0,.int .i64 0,.int .i64 0,.int .i64 sz] from by rw [hw7]; exact KP51.out.below (Below.refl _ _).drew KP51.out.lt)
 have KQ7:=Lib.hid (show Blk w7 q 53 #[.bool false,.int .i64 0,.bool false,.int .u64 0,.int .u64 0,.bool false,.int .u64 0,.int .u64 0,.int .i64 0,.int .i64 0,.int .i64 0,.int .i64 0,.bool false,.int .i64 0,.bool false,.int .u64 0,.int .u64 0,.bool false,.int .u64 0,.int .u64 0,.int .i64 0,.int .i64 0,.int .i64 0] from by
  rw [hw7]
  have h9:=OG6.out.blk KQ5.out (Ne.symm NE.out)
  exact h9.below (Below.refl _ _).drew h9.lt)
 have B7:=Lib.hid (show Below w.heap.size w w7 from by rw [hw7]; exact (OG6.out.from B5.out (by have:=EG.out; omega)).drew)
 rw [← E7.out]
 clear hw7 y0 z0 y1 z1
 go_wp2_with (refine wpList_store_row rfl 53 _ _ rfl q #[.bool false,.int .i64 0,.bool false,.int .u64 0,.int .u64 0,.bool false,.int .u64 0,.int .u64 0,.int .i64 0,.int .i64 0,.int .i64 0,.int .i64 0,.bool false,.int .i64 0,.bool false,.int .u64 0,.int .u64 0,.bool false,.int .u64 0,.int .u64 0,.int .i64 0,.int .i64 0,.int .i64 0] rfl rfl 53 #[.bool false,.int .i64 0,.bool false,.int .u64 0,.int .u64 0,.bool false,.int .u64 0,.int .u64 0,.int .i64 0,.int .i64 0,.int .i64 0,.int .i64 0,.bool false,.int .i64 0,.bool false,.int .u64 0,.int .u64 0,.bool false,.int .u64 0,.int .u64 0,.int .i64 0,.int .i64 0,.int .i64 0] KQ7.out HI.out rfl (by kernel_rfl) ?_)
 refine bodyPost_ret (results_pk rfl _ _ q #[.bool false,.int .i64 0,.bool false,.int .u64 0,.int .u64 0,.bool false,.int .u64 0,.int .u64 0,.int .i64 0,.int .i64 0,.int .i64 0,.int .i64 0,.bool false,.int .i64 0,.bool false,.int .u64 0,.int .u64 0,.bool false,.int .u64 0,.int .u64 0,.int .i64 0,.int .i64 0,.int .i64 0] rfl (blkRow KQ7.out _) rfl) rfl ?_
 exact ⟨rfl,(onlyRow _).from B7.out (by have:=EQ.out; omega)⟩
theorem with_udp_ok (v6:Bool) (sp dp:Int) (s6:Bool) (sh sl:Int) (d6:Bool) (dh dl ttl sz:Int) (A:Option Addr) (n c:Nat) (ps:List Int) (w:World)
  (HPS:Hid (∀ V,Below w.heap.size w V→Calls Try.prog 53 #[.agg #[.bool s6,.int .u64 sh,.int .u64 sl],.agg #[.bool d6,.int .u64 dh,.int .u64 dl],.int .i64 17,.int .i64 n] V (Gives ps V)))
  (HT:Hid (∀ V A2 n2 c2,Below w.heap.size w V→Sl V A2 n2 c2 ps→Calls Try.prog 69 #[.slice A n c,.slice A2 n2 c2,.bool (!v6)] V fun o w'=>Below V.heap.size V w'∧∃ (bb:Bool) (v:Value),o=.returned (.tuple #[.agg #[.int .i64 sp,.int .i64 dp,.bool bb],v,.int .i64 0]))) :
  Calls Try.prog 46 #[.agg #[.bool v6,.int .i64 17,.bool s6,.int .u64 sh,.int .u64 sl,.bool d6,.int .u64 dh,.int .u64 dl,.int .i64 0,.int .i64 0,.int .i64 ttl,.int .i64 0,.bool false,.int .i64 0,.bool false,.int .u64 0,.int .u64 0,.bool false,.int .u64 0,.int .u64 0,.int .i64 0,.int .i64 0,.int .i64 sz],.slice A n c] w fun o w'=>o=.returned (.tuple #[.agg #[.bool v6,.int .i64 17,.bool s6,.int .u64 sh,.int .u64 sl,.bool d6,.int .u64 dh,.int .u64 dl,.int .i64 sp,.int .i64 dp,.int .i64 ttl,.int .i64 0,.bool false,.int .i64 0,.bool false,.int .u64 0,.int .u64 0,.bool false,.int .u64 0,.int .u64 0,.int .i64 0,.int .i64 0,.int .i64 sz],.int .i64 0])∧Below w.heap.size w w':=by
 obtain ⟨w1,hw1⟩:∃ w1,w1=(w.alloc (.cells #[.bool v6,.int .i64 17,.bool s6,.int .u64 sh,.int .u64 sl,.bool d6,.int .u64 dh,.int .u64 dl,.int .i64 0,.int .i64 0,.int .i64 ttl,.int .i64 0,.bool false,.int .i64 0,.bool false,.int .u64 0,.int .u64 0,.bool false,.int .u64 0,.int .u64 0,.int .i64 0,.int .i64 0,.int .i64 sz] 53)).alloc (.cells #[.bool false,.int .i64 0,.bool false,.int .u64 0,.int .u64 0,.bool false,.int .u64 0,.int .u64 0,.int .i64 0,.int .i64 0,.int .i64 0,.int .i64 0,.bool false,.int .i64 0,.bool false,.int .u64 0,.int .u64 0,.bool false,.int .u64 0,.int .u64 0,.int .i64 0,.int .i64 0,.int .i64 0] 53):=⟨_,rfl⟩
 have E1:=Lib.hid hw1
 have BA:=Lib.hid (show Below w.heap.size w (w.alloc (.cells #[.bool v6,.int .i64 17,.bool s6,.int .u64 sh,.int .u64 sl,.bool d6,.int .u64 dh,.int .u64 dl,.int .i64 0,.int .i64 0,.int .i64 ttl,.int .i64 0,.bool false,.int .i64 0,.bool false,.int .u64 0,.int .u64 0,.bool false,.int .u64 0,.int .u64 0,.int .i64 0,.int .i64 0,.int .i64 sz] 53)) from (Below.refl _ _).alloc (Nat.le_refl _) _)
 have B1:=Lib.hid (show Below w.heap.size w w1 from by rw [hw1]; exact BA.out.alloc BA.out.size _)
 obtain ⟨g,hg⟩:∃ g,g=w.heap.size:=⟨_,rfl⟩
 obtain ⟨q,hq⟩:∃ q,q=w.heap.size+1:=⟨_,rfl⟩
 have EG:=Lib.hid hg
 have EQ:=Lib.hid hq
 have NE:=Lib.hid (show g≠q from by omega)
 have KP:=Lib.hid (show Blk w1 g 53 #[.bool v6,.int .i64 17,.bool s6,.int .u64 sh,.int .u64 sl,.bool d6,.int .u64 dh,.int .u64 dl,.int .i64 0,.int .i64 0,.int .i64 ttl,.int .i64 0,.bool false,.int .i64 0,.bool false,.int .u64 0,.int .u64 0,.bool false,.int .u64 0,.int .u64 0,.int .i64 0,.int .i64 0,.int .i64 sz] from by rw [hw1,hg]; exact (Blk.new w _ _).alloc _)
 have KQ:=Lib.hid (show Blk w1 q 53 #[.bool false,.int .i64 0,.bool false,.int .u64 0,.int .u64 0,.bool false,.int .u64 0,.int .u64 0,.int .i64 0,.int .i64 0,.int .i64 0,.int .i64 0,.bool false,.int .i64 0,.bool false,.int .u64 0,.int .u64 0,.bool false,.int .u64 0,.int .u64 0,.int .i64 0,.int .i64 0,.int .i64 0] from by
  have h9:=Blk.new (w.alloc (.cells #[.bool v6,.int .i64 17,.bool s6,.int .u64 sh,.int .u64 sl,.bool d6,.int .u64 dh,.int .u64 dl,.int .i64 0,.int .i64 0,.int .i64 ttl,.int .i64 0,.bool false,.int .i64 0,.bool false,.int .u64 0,.int .u64 0,.bool false,.int .u64 0,.int .u64 0,.int .i64 0,.int .i64 0,.int .i64 sz] 53)) 53 #[.bool false,.int .i64 0,.bool false,.int .u64 0,.int .u64 0,.bool false,.int .u64 0,.int .u64 0,.int .i64 0,.int .i64 0,.int .i64 0,.int .i64 0,.bool false,.int .i64 0,.bool false,.int .u64 0,.int .u64 0,.bool false,.int .u64 0,.int .u64 0,.int .i64 0,.int .i64 0,.int .i64 0]
  rw [← hw1] at h9
  rw [hq]
  simpa using h9)
 have HI:=Lib.hid pk_size
 clear hw1 hg hq
 go_enter Try.func46,Try.ntmps46
 go_upto_region 1 with fail
 rw [← E1.out,← EQ.out,← EG.out]
 have p0:=KP.out.cell 0
 have p1:=KP.out.cell 1
 have p2:=KP.out.cell 2
 have p3:=KP.out.cell 3
 have p4:=KP.out.cell 4
 have p5:=KP.out.cell 5
 have p6:=KP.out.cell 6
 have p7:=KP.out.cell 7
 go_wp2_with fail
 refine (HPS.out _ B1.out).mono ?_
 rintro o w2 ⟨hb2,A2,n2,c2,rfl,hsl,hge⟩
 have KP2:=Lib.hid (KP.out.below hb2 KP.out.lt)
 have KQ2:=Lib.hid (KQ.out.below hb2 KQ.out.lt)
 have B2:=Lib.hid (B1.out.trans (hb2.mono B1.out.size))
 have HSL:=Lib.hid hsl
 have HGE:=Lib.hid hge
 have SZ1:=Lib.hid (show w1.heap.size=w.heap.size+2 from by rw [E1.out]; simp)
 clear hb2 hsl hge p0 p1 p2 p3 p4 p5 p6 p7
 have p0:=KP2.out.cell 0
 have p1:=KP2.out.cell 1
 obtain ⟨w3,hw3⟩:∃ w3,w3=w2.alloc (.cells #[.int .i64 0,.int .i64 0,.bool false] 78):=⟨_,rfl⟩
 have E3:=Lib.hid hw3
 have B23:=Lib.hid (show Below w2.heap.size w2 w3 from by rw [hw3]; exact (Below.refl _ _).alloc (Nat.le_refl _) _)
 have KH3:=Lib.hid (show Blk w3 w2.heap.size 78 #[.int .i64 0,.int .i64 0,.bool false] from by rw [hw3]; exact Blk.new w2 _ _)
 have KP3:=Lib.hid (KP2.out.below B23.out KP2.out.lt)
 have KQ3:=Lib.hid (KQ2.out.below B23.out KQ2.out.lt)
 have B3:=Lib.hid (B2.out.trans (B23.out.mono B2.out.size))
 have PC:=Lib.hid (HT.out w3 A2 n2 c2 B3.out (HSL.out.below B23.out))
 have GLT:=Lib.hid (show g<w2.heap.size from KP2.out.lt)
 clear hw3
 go_upto_region 9 with fail
 rw [← E3.out]
 clear p0 p1
 have p0:=KP3.out.cell 0
 go_wp2_with (first
  | (go_at_call 69; refine PC.out.mono ?_; rintro o w4 ⟨hb4,bb,vv,rfl⟩; have KH4:=Lib.hid (KH3.out.below hb4 KH3.out.lt); have KP4:=Lib.hid (KP3.out.below hb4 KP3.out.lt); have KQ4:=Lib.hid (KQ3.out.below hb4 KQ3.out.lt); have B4:=Lib.hid (B3.out.trans (hb4.mono B3.out.size)); clear hb4)
  | (refine wpList_store_row rfl 78 _ _ rfl w2.heap.size #[.int .i64 sp,.int .i64 dp,.bool bb] rfl rfl 78 #[.int .i64 0,.int .i64 0,.bool false] KH4.out (by kernel_rfl) rfl (by kernel_rfl) ?_))
 obtain ⟨w5,hw5⟩:∃ w5,w5=w4.setRow w2.heap.size #[.int .i64 sp,.int .i64 dp,.bool bb]:=⟨_,rfl⟩
 have E5:=Lib.hid hw5
 have OH:=Lib.hid (show OnlyG w2.heap.size w4 w5 from by rw [hw5]; exact onlyRow _)
 have KH5:=Lib.hid (show Blk w5 w2.heap.size 78 #[.int .i64 sp,.int .i64 dp,.bool bb] from by rw [hw5]; exact blkRow KH4.out _)
 have NGH:=Lib.hid (show g≠w2.heap.size from by have:=GLT.out; omega)
 have NQH:=Lib.hid (show q≠w2.heap.size from by have:=KQ2.out.lt; omega)
 have KP5:=Lib.hid (OH.out.blk KP4.out NGH.out)
 have KQ5:=Lib.hid (OH.out.blk KQ4.out NQH.out)
 have B5:=Lib.hid (OH.out.from B4.out B2.out.size)
 rw [← E5.out]
 clear hw5 p0
 have HS0:=Lib.hid (show w5.drew.cell? ⟨w2.heap.size,0,none⟩=some (.int .i64 sp)∧w5.drew.cell? ⟨w2.heap.size,1,none⟩=some (.int .i64 dp) from ⟨(KH5.out.below (Below.refl _ _).drew KH5.out.lt).cell 0,(KH5.out.below (Below.refl _ _).drew KH5.out.lt).cell 1⟩)
 have y0:=KP5.out.cell 8
 have z0:=KP5.out.frozen 8
 have KP50:=Lib.hid (show Blk (w5.setCell ⟨g,8,none⟩ (.int .i64 sp)) g 53 #[.bool v6,.int .i64 17,.bool s6,.int .u64 sh,.int .u64 sl,.bool d6,.int .u64 dh,.int .u64 dl,.int .i64 sp,.int .i64 0,.int .i64 ttl,.int .i64 0,.bool false,.int .i64 0,.bool false,.int .u64 0,.int .u64 0,.bool false,.int .u64 0,.int .u64 0,.int .i64 0,.int .i64 0,.int .i64 sz] from KP5.out.set_ 8 _)
 have KH50:=Lib.hid (KH5.out.far (p:=⟨g,8,none⟩) (Ne.symm NGH.out) (.int .i64 sp))
 have HS1:=Lib.hid (show (w5.setCell ⟨g,8,none⟩ (.int .i64 sp)).drew.cell? ⟨w2.heap.size,0,none⟩=some (.int .i64 sp)∧(w5.setCell ⟨g,8,none⟩ (.int .i64 sp)).drew.cell? ⟨w2.heap.size,1,none⟩=some (.int .i64 dp) from ⟨(KH50.out.below (Below.refl _ _).drew KH50.out.lt).cell 0,(KH50.out.below (Below.refl _ _).drew KH50.out.lt).cell 1⟩)
 have y1:=KP50.out.cell 9
 have z1:=KP50.out.frozen 9
 have KP51:=Lib.hid (show Blk ((w5.setCell ⟨g,8,none⟩ (.int .i64 sp)).setCell ⟨g,9,none⟩ (.int .i64 dp)) g 53 #[.bool v6,.int .i64 17,.bool s6,.int .u64 sh,.int .u64 sl,.bool d6,.int .u64 dh,.int .u64 dl,.int .i64 sp,.int .i64 dp,.int .i64 ttl,.int .i64 0,.bool false,.int .i64 0,.bool false,.int .u64 0,.int .u64 0,.bool false,.int .u64 0,.int .u64 0,.int .i64 0,.int .i64 0,.int .i64 sz] from KP50.out.set_ 9 _)
 have KH51:=Lib.hid (KH50.out.far (p:=⟨g,9,none⟩) (Ne.symm NGH.out) (.int .i64 dp))
 have HS2:=Lib.hid (show ((w5.setCell ⟨g,8,none⟩ (.int .i64 sp)).setCell ⟨g,9,none⟩ (.int .i64 dp)).drew.cell? ⟨w2.heap.size,0,none⟩=some (.int .i64 sp)∧((w5.setCell ⟨g,8,none⟩ (.int .i64 sp)).setCell ⟨g,9,none⟩ (.int .i64 dp)).drew.cell? ⟨w2.heap.size,1,none⟩=some (.int .i64 dp) from ⟨(KH51.out.below (Below.refl _ _).drew KH51.out.lt).cell 0,(KH51.out.below (Below.refl _ _).drew KH51.out.lt).cell 1⟩)
 have OG6:=Lib.hid (show OnlyG g w5 ((w5.setCell ⟨g,8,none⟩ (.int .i64 sp)).setCell ⟨g,9,none⟩ (.int .i64 dp)) from (((OnlyG.refl g w5).set 8 (.int .i64 sp)).set 9 (.int .i64 dp)))
 go_region_held3 (fun V=>V.cell? ⟨w2.heap.size,0,none⟩=some (.int .i64 sp)∧V.cell? ⟨w2.heap.size,1,none⟩=some (.int .i64 dp)) (first | with_reducible assumption | with_reducible exact HS0.out | with_reducible exact HS1.out | with_reducible exact HS2.out) (first | fail)
 obtain ⟨w7,hw7⟩:∃ w7,w7=((w5.setCell ⟨g,8,none⟩ (.int .i64 sp)).setCell ⟨g,9,none⟩ (.int .i64 dp)).drew:=⟨_,rfl⟩
 have E7:=Lib.hid hw7
 have KP7:=Lib.hid (show Blk w7 g 53 #[.bool v6,.int .i64 17,.bool s6,.int .u64 sh,.int .u64 sl,.bool d6,.int .u64 dh,.int .u64 dl,.int .i64 sp,.int .i64 dp,.int .i64 ttl,.int .i64 0,.bool false,.int .i64 0,.bool false,.int .u64 0,.int .u64 0,.bool false,.int .u64 0,.int .u64 0,.int .i64 0,.int .i64 0,.int .i64 sz] from by rw [hw7]; exact KP51.out.below (Below.refl _ _).drew KP51.out.lt)
 have KQ7:=Lib.hid (show Blk w7 q 53 #[.bool false,.int .i64 0,.bool false,.int .u64 0,.int .u64 0,.bool false,.int .u64 0,.int .u64 0,.int .i64 0,.int .i64 0,.int .i64 0,.int .i64 0,.bool false,.int .i64 0,.bool false,.int .u64 0,.int .u64 0,.bool false,.int .u64 0,.int .u64 0,.int .i64 0,.int .i64 0,.int .i64 0] from by
  rw [hw7]
  have h9:=OG6.out.blk KQ5.out (Ne.symm NE.out)
  exact h9.below (Below.refl _ _).drew h9.lt)
 have B7:=Lib.hid (show Below w.heap.size w w7 from by rw [hw7]; exact (OG6.out.from B5.out (by have:=EG.out; omega)).drew)
 rw [← E7.out]
 clear hw7 y0 z0 y1 z1
 go_wp2_with (first
  | (refine wpList_load_row rfl 53 _ rfl g rfl 53 #[.bool v6,.int .i64 17,.bool s6,.int .u64 sh,.int .u64 sl,.bool d6,.int .u64 dh,.int .u64 dl,.int .i64 sp,.int .i64 dp,.int .i64 ttl,.int .i64 0,.bool false,.int .i64 0,.bool false,.int .u64 0,.int .u64 0,.bool false,.int .u64 0,.int .u64 0,.int .i64 0,.int .i64 0,.int .i64 sz] (0,0) _ KP7.out Try.underlying53 rfl HI.out ?_)
  | (refine wpList_store_row rfl 53 _ _ rfl q #[.bool v6,.int .i64 17,.bool s6,.int .u64 sh,.int .u64 sl,.bool d6,.int .u64 dh,.int .u64 dl,.int .i64 sp,.int .i64 dp,.int .i64 ttl,.int .i64 0,.bool false,.int .i64 0,.bool false,.int .u64 0,.int .u64 0,.bool false,.int .u64 0,.int .u64 0,.int .i64 0,.int .i64 0,.int .i64 sz] rfl rfl 53 #[.bool false,.int .i64 0,.bool false,.int .u64 0,.int .u64 0,.bool false,.int .u64 0,.int .u64 0,.int .i64 0,.int .i64 0,.int .i64 0,.int .i64 0,.bool false,.int .i64 0,.bool false,.int .u64 0,.int .u64 0,.bool false,.int .u64 0,.int .u64 0,.int .i64 0,.int .i64 0,.int .i64 0] KQ7.out HI.out rfl (by kernel_rfl) ?_))
 refine bodyPost_ret (results_pk rfl _ _ q #[.bool v6,.int .i64 17,.bool s6,.int .u64 sh,.int .u64 sl,.bool d6,.int .u64 dh,.int .u64 dl,.int .i64 sp,.int .i64 dp,.int .i64 ttl,.int .i64 0,.bool false,.int .i64 0,.bool false,.int .u64 0,.int .u64 0,.bool false,.int .u64 0,.int .u64 0,.int .i64 0,.int .i64 0,.int .i64 sz] rfl (blkRow KQ7.out _) rfl) rfl ?_
 exact ⟨rfl,(onlyRow _).from B7.out (by have:=EQ.out; omega)⟩
theorem with_icmp4_no (apr:Int) (as6:Bool) (ash asl:Int) (ad6:Bool) (adh adl asp adp:Int) (e:Int) (he:e≠0) (s6:Bool) (sh sl:Int) (d6:Bool) (dh dl ttl sz:Int) (A:Option Addr) (n c:Nat) (ps:List Int) (w:World)
  (HPS:Hid (∀ V,Below w.heap.size w V→Calls Try.prog 53 #[.agg #[.bool s6,.int .u64 sh,.int .u64 sl],.agg #[.bool d6,.int .u64 dh,.int .u64 dl],.int .i64 1,.int .i64 n] V (Gives ps V)))
  (HT:Hid (∀ V A2 n2 c2,Below w.heap.size w V→Sl V A2 n2 c2 ps→Calls Try.prog 70 #[.bool false,.slice A n c,.slice A2 n2 c2] V fun o w'=>o=.returned (.tuple #[.agg #[.int .i64 apr,.bool as6,.int .u64 ash,.int .u64 asl,.bool ad6,.int .u64 adh,.int .u64 adl,.int .i64 asp,.int .i64 adp],.int .i64 e])∧Below V.heap.size V w')) :
  Calls Try.prog 46 #[.agg #[.bool false,.int .i64 1,.bool s6,.int .u64 sh,.int .u64 sl,.bool d6,.int .u64 dh,.int .u64 dl,.int .i64 0,.int .i64 0,.int .i64 ttl,.int .i64 0,.bool false,.int .i64 0,.bool false,.int .u64 0,.int .u64 0,.bool false,.int .u64 0,.int .u64 0,.int .i64 0,.int .i64 0,.int .i64 sz],.slice A n c] w fun o w'=>o=.returned (.tuple #[.agg #[.bool false,.int .i64 0,.bool false,.int .u64 0,.int .u64 0,.bool false,.int .u64 0,.int .u64 0,.int .i64 0,.int .i64 0,.int .i64 0,.int .i64 0,.bool false,.int .i64 0,.bool false,.int .u64 0,.int .u64 0,.bool false,.int .u64 0,.int .u64 0,.int .i64 0,.int .i64 0,.int .i64 0],.int .i64 e])∧Below w.heap.size w w':=by
 have te:(e != 0)=true:=by simpa using he
 clear he
 obtain ⟨w1,hw1⟩:∃ w1,w1=(w.alloc (.cells #[.bool false,.int .i64 1,.bool s6,.int .u64 sh,.int .u64 sl,.bool d6,.int .u64 dh,.int .u64 dl,.int .i64 0,.int .i64 0,.int .i64 ttl,.int .i64 0,.bool false,.int .i64 0,.bool false,.int .u64 0,.int .u64 0,.bool false,.int .u64 0,.int .u64 0,.int .i64 0,.int .i64 0,.int .i64 sz] 53)).alloc (.cells #[.bool false,.int .i64 0,.bool false,.int .u64 0,.int .u64 0,.bool false,.int .u64 0,.int .u64 0,.int .i64 0,.int .i64 0,.int .i64 0,.int .i64 0,.bool false,.int .i64 0,.bool false,.int .u64 0,.int .u64 0,.bool false,.int .u64 0,.int .u64 0,.int .i64 0,.int .i64 0,.int .i64 0] 53):=⟨_,rfl⟩
 have E1:=Lib.hid hw1
 have BA:=Lib.hid (show Below w.heap.size w (w.alloc (.cells #[.bool false,.int .i64 1,.bool s6,.int .u64 sh,.int .u64 sl,.bool d6,.int .u64 dh,.int .u64 dl,.int .i64 0,.int .i64 0,.int .i64 ttl,.int .i64 0,.bool false,.int .i64 0,.bool false,.int .u64 0,.int .u64 0,.bool false,.int .u64 0,.int .u64 0,.int .i64 0,.int .i64 0,.int .i64 sz] 53)) from (Below.refl _ _).alloc (Nat.le_refl _) _)
 have B1:=Lib.hid (show Below w.heap.size w w1 from by rw [hw1]; exact BA.out.alloc BA.out.size _)
 obtain ⟨g,hg⟩:∃ g,g=w.heap.size:=⟨_,rfl⟩
 obtain ⟨q,hq⟩:∃ q,q=w.heap.size+1:=⟨_,rfl⟩
 have EG:=Lib.hid hg
 have EQ:=Lib.hid hq
 have NE:=Lib.hid (show g≠q from by omega)
 have KP:=Lib.hid (show Blk w1 g 53 #[.bool false,.int .i64 1,.bool s6,.int .u64 sh,.int .u64 sl,.bool d6,.int .u64 dh,.int .u64 dl,.int .i64 0,.int .i64 0,.int .i64 ttl,.int .i64 0,.bool false,.int .i64 0,.bool false,.int .u64 0,.int .u64 0,.bool false,.int .u64 0,.int .u64 0,.int .i64 0,.int .i64 0,.int .i64 sz] from by rw [hw1,hg]; exact (Blk.new w _ _).alloc _)
 have KQ:=Lib.hid (show Blk w1 q 53 #[.bool false,.int .i64 0,.bool false,.int .u64 0,.int .u64 0,.bool false,.int .u64 0,.int .u64 0,.int .i64 0,.int .i64 0,.int .i64 0,.int .i64 0,.bool false,.int .i64 0,.bool false,.int .u64 0,.int .u64 0,.bool false,.int .u64 0,.int .u64 0,.int .i64 0,.int .i64 0,.int .i64 0] from by
  have h9:=Blk.new (w.alloc (.cells #[.bool false,.int .i64 1,.bool s6,.int .u64 sh,.int .u64 sl,.bool d6,.int .u64 dh,.int .u64 dl,.int .i64 0,.int .i64 0,.int .i64 ttl,.int .i64 0,.bool false,.int .i64 0,.bool false,.int .u64 0,.int .u64 0,.bool false,.int .u64 0,.int .u64 0,.int .i64 0,.int .i64 0,.int .i64 sz] 53)) 53 #[.bool false,.int .i64 0,.bool false,.int .u64 0,.int .u64 0,.bool false,.int .u64 0,.int .u64 0,.int .i64 0,.int .i64 0,.int .i64 0,.int .i64 0,.bool false,.int .i64 0,.bool false,.int .u64 0,.int .u64 0,.bool false,.int .u64 0,.int .u64 0,.int .i64 0,.int .i64 0,.int .i64 0]
  rw [← hw1] at h9
  rw [hq]
  simpa using h9)
 have HI:=Lib.hid pk_size
 clear hw1 hg hq
 go_enter Try.func46,Try.ntmps46
 go_upto_region 1 with fail
 rw [← E1.out,← EQ.out,← EG.out]
 have p0:=KP.out.cell 0
 have p1:=KP.out.cell 1
 have p2:=KP.out.cell 2
 have p3:=KP.out.cell 3
 have p4:=KP.out.cell 4
 have p5:=KP.out.cell 5
 have p6:=KP.out.cell 6
 have p7:=KP.out.cell 7
 go_wp2_with fail
 refine (HPS.out _ B1.out).mono ?_
 rintro o w2 ⟨hb2,A2,n2,c2,rfl,hsl,hge⟩
 have KP2:=Lib.hid (KP.out.below hb2 KP.out.lt)
 have KQ2:=Lib.hid (KQ.out.below hb2 KQ.out.lt)
 have B2:=Lib.hid (B1.out.trans (hb2.mono B1.out.size))
 have HSL:=Lib.hid hsl
 have HGE:=Lib.hid hge
 have SZ1:=Lib.hid (show w1.heap.size=w.heap.size+2 from by rw [E1.out]; simp)
 clear hb2 hsl hge p0 p1 p2 p3 p4 p5 p6 p7
 have p0:=KP2.out.cell 0
 have p1:=KP2.out.cell 1
 have p12:=KP2.out.cell 12
 have z12:=KP2.out.frozen 12
 obtain ⟨w3,hw3⟩:∃ w3,w3=w2.setCell ⟨g,12,none⟩ (.bool true):=⟨_,rfl⟩
 have E3:=Lib.hid hw3
 have OG3:=Lib.hid (show OnlyG g w2 w3 from by rw [hw3]; exact (OnlyG.refl _ _).set 12 _)
 have KP3:=Lib.hid (show Blk w3 g 53 #[.bool false,.int .i64 1,.bool s6,.int .u64 sh,.int .u64 sl,.bool d6,.int .u64 dh,.int .u64 dl,.int .i64 0,.int .i64 0,.int .i64 ttl,.int .i64 0,.bool true,.int .i64 0,.bool false,.int .u64 0,.int .u64 0,.bool false,.int .u64 0,.int .u64 0,.int .i64 0,.int .i64 0,.int .i64 sz] from by rw [hw3]; exact KP2.out.set_ 12 _)
 have KQ3:=Lib.hid (OG3.out.blk KQ2.out (Ne.symm NE.out))
 have B3:=Lib.hid (OG3.out.from B2.out (by have:=EG.out; omega))
 have HS3:=Lib.hid (show Sl w3 A2 n2 c2 ps from HSL.out.set_ (fun ad h e=>by have:=HGE.out ad h; have:=SZ1.out; have:=EG.out; omega) OG3.out)
 have PC:=Lib.hid (HT.out w3 A2 n2 c2 B3.out HS3.out)
 clear hw3
 go_upto_region 13 with fail
 rw [← E3.out]
 clear p0 p1 p12 z12
 have p0:=KP3.out.cell 0
 go_wp2_with fail
 refine PC.out.mono ?_
 rintro o w4 ⟨rfl,hb4⟩
 have KP4:=Lib.hid (KP3.out.below hb4 KP3.out.lt)
 have KQ4:=Lib.hid (KQ3.out.below hb4 KQ3.out.lt)
 have B4:=Lib.hid (B3.out.trans (hb4.mono B3.out.size))
 clear hb4 p0
 have y13:=KP4.out.cell 13
 have z13:=KP4.out.frozen 13
 have y14:=KP4.out.cell 14
 have z14:=KP4.out.frozen 14
 have y15:=KP4.out.cell 15
 have z15:=KP4.out.frozen 15
 have y16:=KP4.out.cell 16
 have z16:=KP4.out.frozen 16
 have y17:=KP4.out.cell 17
 have z17:=KP4.out.frozen 17
 have y18:=KP4.out.cell 18
 have z18:=KP4.out.frozen 18
 have y19:=KP4.out.cell 19
 have z19:=KP4.out.frozen 19
 have y20:=KP4.out.cell 20
 have z20:=KP4.out.frozen 20
 have y21:=KP4.out.cell 21
 have z21:=KP4.out.frozen 21
 have k0:Blk (w4.setCell ⟨g,13,none⟩ (.int .i64 apr)) g 53 #[.bool false,.int .i64 1,.bool s6,.int .u64 sh,.int .u64 sl,.bool d6,.int .u64 dh,.int .u64 dl,.int .i64 0,.int .i64 0,.int .i64 ttl,.int .i64 0,.bool true,.int .i64 apr,.bool false,.int .u64 0,.int .u64 0,.bool false,.int .u64 0,.int .u64 0,.int .i64 0,.int .i64 0,.int .i64 sz]:=KP4.out.set_ 13 _
 have k1:Blk ((w4.setCell ⟨g,13,none⟩ (.int .i64 apr)).setCell ⟨g,14,none⟩ (.bool as6)) g 53 #[.bool false,.int .i64 1,.bool s6,.int .u64 sh,.int .u64 sl,.bool d6,.int .u64 dh,.int .u64 dl,.int .i64 0,.int .i64 0,.int .i64 ttl,.int .i64 0,.bool true,.int .i64 apr,.bool as6,.int .u64 0,.int .u64 0,.bool false,.int .u64 0,.int .u64 0,.int .i64 0,.int .i64 0,.int .i64 sz]:=k0.set_ 14 _
 have k2:Blk (((w4.setCell ⟨g,13,none⟩ (.int .i64 apr)).setCell ⟨g,14,none⟩ (.bool as6)).setCell ⟨g,15,none⟩ (.int .u64 ash)) g 53 #[.bool false,.int .i64 1,.bool s6,.int .u64 sh,.int .u64 sl,.bool d6,.int .u64 dh,.int .u64 dl,.int .i64 0,.int .i64 0,.int .i64 ttl,.int .i64 0,.bool true,.int .i64 apr,.bool as6,.int .u64 ash,.int .u64 0,.bool false,.int .u64 0,.int .u64 0,.int .i64 0,.int .i64 0,.int .i64 sz]:=k1.set_ 15 _
 have k3:Blk ((((w4.setCell ⟨g,13,none⟩ (.int .i64 apr)).setCell ⟨g,14,none⟩ (.bool as6)).setCell ⟨g,15,none⟩ (.int .u64 ash)).setCell ⟨g,16,none⟩ (.int .u64 asl)) g 53 #[.bool false,.int .i64 1,.bool s6,.int .u64 sh,.int .u64 sl,.bool d6,.int .u64 dh,.int .u64 dl,.int .i64 0,.int .i64 0,.int .i64 ttl,.int .i64 0,.bool true,.int .i64 apr,.bool as6,.int .u64 ash,.int .u64 asl,.bool false,.int .u64 0,.int .u64 0,.int .i64 0,.int .i64 0,.int .i64 sz]:=k2.set_ 16 _
 have k4:Blk (((((w4.setCell ⟨g,13,none⟩ (.int .i64 apr)).setCell ⟨g,14,none⟩ (.bool as6)).setCell ⟨g,15,none⟩ (.int .u64 ash)).setCell ⟨g,16,none⟩ (.int .u64 asl)).setCell ⟨g,17,none⟩ (.bool ad6)) g 53 #[.bool false,.int .i64 1,.bool s6,.int .u64 sh,.int .u64 sl,.bool d6,.int .u64 dh,.int .u64 dl,.int .i64 0,.int .i64 0,.int .i64 ttl,.int .i64 0,.bool true,.int .i64 apr,.bool as6,.int .u64 ash,.int .u64 asl,.bool ad6,.int .u64 0,.int .u64 0,.int .i64 0,.int .i64 0,.int .i64 sz]:=k3.set_ 17 _
 have k5:Blk ((((((w4.setCell ⟨g,13,none⟩ (.int .i64 apr)).setCell ⟨g,14,none⟩ (.bool as6)).setCell ⟨g,15,none⟩ (.int .u64 ash)).setCell ⟨g,16,none⟩ (.int .u64 asl)).setCell ⟨g,17,none⟩ (.bool ad6)).setCell ⟨g,18,none⟩ (.int .u64 adh)) g 53 #[.bool false,.int .i64 1,.bool s6,.int .u64 sh,.int .u64 sl,.bool d6,.int .u64 dh,.int .u64 dl,.int .i64 0,.int .i64 0,.int .i64 ttl,.int .i64 0,.bool true,.int .i64 apr,.bool as6,.int .u64 ash,.int .u64 asl,.bool ad6,.int .u64 adh,.int .u64 0,.int .i64 0,.int .i64 0,.int .i64 sz]:=k4.set_ 18 _
 have k6:Blk (((((((w4.setCell ⟨g,13,none⟩ (.int .i64 apr)).setCell ⟨g,14,none⟩ (.bool as6)).setCell ⟨g,15,none⟩ (.int .u64 ash)).setCell ⟨g,16,none⟩ (.int .u64 asl)).setCell ⟨g,17,none⟩ (.bool ad6)).setCell ⟨g,18,none⟩ (.int .u64 adh)).setCell ⟨g,19,none⟩ (.int .u64 adl)) g 53 #[.bool false,.int .i64 1,.bool s6,.int .u64 sh,.int .u64 sl,.bool d6,.int .u64 dh,.int .u64 dl,.int .i64 0,.int .i64 0,.int .i64 ttl,.int .i64 0,.bool true,.int .i64 apr,.bool as6,.int .u64 ash,.int .u64 asl,.bool ad6,.int .u64 adh,.int .u64 adl,.int .i64 0,.int .i64 0,.int .i64 sz]:=k5.set_ 19 _
 have k7:Blk ((((((((w4.setCell ⟨g,13,none⟩ (.int .i64 apr)).setCell ⟨g,14,none⟩ (.bool as6)).setCell ⟨g,15,none⟩ (.int .u64 ash)).setCell ⟨g,16,none⟩ (.int .u64 asl)).setCell ⟨g,17,none⟩ (.bool ad6)).setCell ⟨g,18,none⟩ (.int .u64 adh)).setCell ⟨g,19,none⟩ (.int .u64 adl)).setCell ⟨g,20,none⟩ (.int .i64 asp)) g 53 #[.bool false,.int .i64 1,.bool s6,.int .u64 sh,.int .u64 sl,.bool d6,.int .u64 dh,.int .u64 dl,.int .i64 0,.int .i64 0,.int .i64 ttl,.int .i64 0,.bool true,.int .i64 apr,.bool as6,.int .u64 ash,.int .u64 asl,.bool ad6,.int .u64 adh,.int .u64 adl,.int .i64 asp,.int .i64 0,.int .i64 sz]:=k6.set_ 20 _
 have k8:Blk (((((((((w4.setCell ⟨g,13,none⟩ (.int .i64 apr)).setCell ⟨g,14,none⟩ (.bool as6)).setCell ⟨g,15,none⟩ (.int .u64 ash)).setCell ⟨g,16,none⟩ (.int .u64 asl)).setCell ⟨g,17,none⟩ (.bool ad6)).setCell ⟨g,18,none⟩ (.int .u64 adh)).setCell ⟨g,19,none⟩ (.int .u64 adl)).setCell ⟨g,20,none⟩ (.int .i64 asp)).setCell ⟨g,21,none⟩ (.int .i64 adp)) g 53 #[.bool false,.int .i64 1,.bool s6,.int .u64 sh,.int .u64 sl,.bool d6,.int .u64 dh,.int .u64 dl,.int .i64 0,.int .i64 0,.int .i64 ttl,.int .i64 0,.bool true,.int .i64 apr,.bool as6,.int .u64 ash,.int .u64 asl,.bool ad6,.int .u64 adh,.int .u64 adl,.int .i64 asp,.int .i64 adp,.int .i64 sz]:=k7.set_ 21 _
 obtain ⟨w5,hw5⟩:∃ w5,w5=(((((((((w4.setCell ⟨g,13,none⟩ (.int .i64 apr)).setCell ⟨g,14,none⟩ (.bool as6)).setCell ⟨g,15,none⟩ (.int .u64 ash)).setCell ⟨g,16,none⟩ (.int .u64 asl)).setCell ⟨g,17,none⟩ (.bool ad6)).setCell ⟨g,18,none⟩ (.int .u64 adh)).setCell ⟨g,19,none⟩ (.int .u64 adl)).setCell ⟨g,20,none⟩ (.int .i64 asp)).setCell ⟨g,21,none⟩ (.int .i64 adp)):=⟨_,rfl⟩
 have E5:=Lib.hid hw5
 have OG5:=Lib.hid (show OnlyG g w4 w5 from by rw [hw5]; exact ((((((((((OnlyG.refl g w4).set 13 (.int .i64 apr)).set 14 (.bool as6)).set 15 (.int .u64 ash)).set 16 (.int .u64 asl)).set 17 (.bool ad6)).set 18 (.int .u64 adh)).set 19 (.int .u64 adl)).set 20 (.int .i64 asp)).set 21 (.int .i64 adp)))
 have KP5:=Lib.hid (show Blk w5 g 53 #[.bool false,.int .i64 1,.bool s6,.int .u64 sh,.int .u64 sl,.bool d6,.int .u64 dh,.int .u64 dl,.int .i64 0,.int .i64 0,.int .i64 ttl,.int .i64 0,.bool true,.int .i64 apr,.bool as6,.int .u64 ash,.int .u64 asl,.bool ad6,.int .u64 adh,.int .u64 adl,.int .i64 asp,.int .i64 adp,.int .i64 sz] from by rw [hw5]; exact k8)
 have KQ5:=Lib.hid (OG5.out.blk KQ4.out (Ne.symm NE.out))
 have B5:=Lib.hid (OG5.out.from B4.out (by have:=EG.out; omega))
 clear hw5 k0 k1 k2 k3 k4 k5 k6 k7 k8
 go_upto_region 14 with fail
 rw [← E5.out]
 clear y13 z13 y14 z14 y15 z15 y16 z16 y17 z17 y18 z18 y19 z19 y20 z20 y21 z21
 go_wp2_with (refine wpList_store_row rfl 53 _ _ rfl q #[.bool false,.int .i64 0,.bool false,.int .u64 0,.int .u64 0,.bool false,.int .u64 0,.int .u64 0,.int .i64 0,.int .i64 0,.int .i64 0,.int .i64 0,.bool false,.int .i64 0,.bool false,.int .u64 0,.int .u64 0,.bool false,.int .u64 0,.int .u64 0,.int .i64 0,.int .i64 0,.int .i64 0] rfl rfl 53 #[.bool false,.int .i64 0,.bool false,.int .u64 0,.int .u64 0,.bool false,.int .u64 0,.int .u64 0,.int .i64 0,.int .i64 0,.int .i64 0,.int .i64 0,.bool false,.int .i64 0,.bool false,.int .u64 0,.int .u64 0,.bool false,.int .u64 0,.int .u64 0,.int .i64 0,.int .i64 0,.int .i64 0] KQ5.out HI.out rfl (by kernel_rfl) ?_)
 refine bodyPost_ret (results_pk rfl _ _ q #[.bool false,.int .i64 0,.bool false,.int .u64 0,.int .u64 0,.bool false,.int .u64 0,.int .u64 0,.int .i64 0,.int .i64 0,.int .i64 0,.int .i64 0,.bool false,.int .i64 0,.bool false,.int .u64 0,.int .u64 0,.bool false,.int .u64 0,.int .u64 0,.int .i64 0,.int .i64 0,.int .i64 0] rfl (blkRow KQ5.out _) rfl) rfl ?_
 exact ⟨rfl,(onlyRow _).from B5.out (by have:=EQ.out; omega)⟩
theorem with_icmp4_ok (apr:Int) (as6:Bool) (ash asl:Int) (ad6:Bool) (adh adl asp adp:Int) (s6:Bool) (sh sl:Int) (d6:Bool) (dh dl ttl sz:Int) (A:Option Addr) (n c:Nat) (ps:List Int) (w:World)
  (HPS:Hid (∀ V,Below w.heap.size w V→Calls Try.prog 53 #[.agg #[.bool s6,.int .u64 sh,.int .u64 sl],.agg #[.bool d6,.int .u64 dh,.int .u64 dl],.int .i64 1,.int .i64 n] V (Gives ps V)))
  (HT:Hid (∀ V A2 n2 c2,Below w.heap.size w V→Sl V A2 n2 c2 ps→Calls Try.prog 70 #[.bool false,.slice A n c,.slice A2 n2 c2] V fun o w'=>o=.returned (.tuple #[.agg #[.int .i64 apr,.bool as6,.int .u64 ash,.int .u64 asl,.bool ad6,.int .u64 adh,.int .u64 adl,.int .i64 asp,.int .i64 adp],.int .i64 0])∧Below V.heap.size V w')) :
  Calls Try.prog 46 #[.agg #[.bool false,.int .i64 1,.bool s6,.int .u64 sh,.int .u64 sl,.bool d6,.int .u64 dh,.int .u64 dl,.int .i64 0,.int .i64 0,.int .i64 ttl,.int .i64 0,.bool false,.int .i64 0,.bool false,.int .u64 0,.int .u64 0,.bool false,.int .u64 0,.int .u64 0,.int .i64 0,.int .i64 0,.int .i64 sz],.slice A n c] w fun o w'=>o=.returned (.tuple #[.agg #[.bool false,.int .i64 1,.bool s6,.int .u64 sh,.int .u64 sl,.bool d6,.int .u64 dh,.int .u64 dl,.int .i64 0,.int .i64 0,.int .i64 ttl,.int .i64 0,.bool true,.int .i64 apr,.bool as6,.int .u64 ash,.int .u64 asl,.bool ad6,.int .u64 adh,.int .u64 adl,.int .i64 asp,.int .i64 adp,.int .i64 sz],.int .i64 0])∧Below w.heap.size w w':=by
 obtain ⟨w1,hw1⟩:∃ w1,w1=(w.alloc (.cells #[.bool false,.int .i64 1,.bool s6,.int .u64 sh,.int .u64 sl,.bool d6,.int .u64 dh,.int .u64 dl,.int .i64 0,.int .i64 0,.int .i64 ttl,.int .i64 0,.bool false,.int .i64 0,.bool false,.int .u64 0,.int .u64 0,.bool false,.int .u64 0,.int .u64 0,.int .i64 0,.int .i64 0,.int .i64 sz] 53)).alloc (.cells #[.bool false,.int .i64 0,.bool false,.int .u64 0,.int .u64 0,.bool false,.int .u64 0,.int .u64 0,.int .i64 0,.int .i64 0,.int .i64 0,.int .i64 0,.bool false,.int .i64 0,.bool false,.int .u64 0,.int .u64 0,.bool false,.int .u64 0,.int .u64 0,.int .i64 0,.int .i64 0,.int .i64 0] 53):=⟨_,rfl⟩
 have E1:=Lib.hid hw1
 have BA:=Lib.hid (show Below w.heap.size w (w.alloc (.cells #[.bool false,.int .i64 1,.bool s6,.int .u64 sh,.int .u64 sl,.bool d6,.int .u64 dh,.int .u64 dl,.int .i64 0,.int .i64 0,.int .i64 ttl,.int .i64 0,.bool false,.int .i64 0,.bool false,.int .u64 0,.int .u64 0,.bool false,.int .u64 0,.int .u64 0,.int .i64 0,.int .i64 0,.int .i64 sz] 53)) from (Below.refl _ _).alloc (Nat.le_refl _) _)
 have B1:=Lib.hid (show Below w.heap.size w w1 from by rw [hw1]; exact BA.out.alloc BA.out.size _)
 obtain ⟨g,hg⟩:∃ g,g=w.heap.size:=⟨_,rfl⟩
 obtain ⟨q,hq⟩:∃ q,q=w.heap.size+1:=⟨_,rfl⟩
 have EG:=Lib.hid hg
 have EQ:=Lib.hid hq
 have NE:=Lib.hid (show g≠q from by omega)
 have KP:=Lib.hid (show Blk w1 g 53 #[.bool false,.int .i64 1,.bool s6,.int .u64 sh,.int .u64 sl,.bool d6,.int .u64 dh,.int .u64 dl,.int .i64 0,.int .i64 0,.int .i64 ttl,.int .i64 0,.bool false,.int .i64 0,.bool false,.int .u64 0,.int .u64 0,.bool false,.int .u64 0,.int .u64 0,.int .i64 0,.int .i64 0,.int .i64 sz] from by rw [hw1,hg]; exact (Blk.new w _ _).alloc _)
 have KQ:=Lib.hid (show Blk w1 q 53 #[.bool false,.int .i64 0,.bool false,.int .u64 0,.int .u64 0,.bool false,.int .u64 0,.int .u64 0,.int .i64 0,.int .i64 0,.int .i64 0,.int .i64 0,.bool false,.int .i64 0,.bool false,.int .u64 0,.int .u64 0,.bool false,.int .u64 0,.int .u64 0,.int .i64 0,.int .i64 0,.int .i64 0] from by
  have h9:=Blk.new (w.alloc (.cells #[.bool false,.int .i64 1,.bool s6,.int .u64 sh,.int .u64 sl,.bool d6,.int .u64 dh,.int .u64 dl,.int .i64 0,.int .i64 0,.int .i64 ttl,.int .i64 0,.bool false,.int .i64 0,.bool false,.int .u64 0,.int .u64 0,.bool false,.int .u64 0,.int .u64 0,.int .i64 0,.int .i64 0,.int .i64 sz] 53)) 53 #[.bool false,.int .i64 0,.bool false,.int .u64 0,.int .u64 0,.bool false,.int .u64 0,.int .u64 0,.int .i64 0,.int .i64 0,.int .i64 0,.int .i64 0,.bool false,.int .i64 0,.bool false,.int .u64 0,.int .u64 0,.bool false,.int .u64 0,.int .u64 0,.int .i64 0,.int .i64 0,.int .i64 0]
  rw [← hw1] at h9
  rw [hq]
  simpa using h9)
 have HI:=Lib.hid pk_size
 clear hw1 hg hq
 go_enter Try.func46,Try.ntmps46
 go_upto_region 1 with fail
 rw [← E1.out,← EQ.out,← EG.out]
 have p0:=KP.out.cell 0
 have p1:=KP.out.cell 1
 have p2:=KP.out.cell 2
 have p3:=KP.out.cell 3
 have p4:=KP.out.cell 4
 have p5:=KP.out.cell 5
 have p6:=KP.out.cell 6
 have p7:=KP.out.cell 7
 go_wp2_with fail
 refine (HPS.out _ B1.out).mono ?_
 rintro o w2 ⟨hb2,A2,n2,c2,rfl,hsl,hge⟩
 have KP2:=Lib.hid (KP.out.below hb2 KP.out.lt)
 have KQ2:=Lib.hid (KQ.out.below hb2 KQ.out.lt)
 have B2:=Lib.hid (B1.out.trans (hb2.mono B1.out.size))
 have HSL:=Lib.hid hsl
 have HGE:=Lib.hid hge
 have SZ1:=Lib.hid (show w1.heap.size=w.heap.size+2 from by rw [E1.out]; simp)
 clear hb2 hsl hge p0 p1 p2 p3 p4 p5 p6 p7
 have p0:=KP2.out.cell 0
 have p1:=KP2.out.cell 1
 have p12:=KP2.out.cell 12
 have z12:=KP2.out.frozen 12
 obtain ⟨w3,hw3⟩:∃ w3,w3=w2.setCell ⟨g,12,none⟩ (.bool true):=⟨_,rfl⟩
 have E3:=Lib.hid hw3
 have OG3:=Lib.hid (show OnlyG g w2 w3 from by rw [hw3]; exact (OnlyG.refl _ _).set 12 _)
 have KP3:=Lib.hid (show Blk w3 g 53 #[.bool false,.int .i64 1,.bool s6,.int .u64 sh,.int .u64 sl,.bool d6,.int .u64 dh,.int .u64 dl,.int .i64 0,.int .i64 0,.int .i64 ttl,.int .i64 0,.bool true,.int .i64 0,.bool false,.int .u64 0,.int .u64 0,.bool false,.int .u64 0,.int .u64 0,.int .i64 0,.int .i64 0,.int .i64 sz] from by rw [hw3]; exact KP2.out.set_ 12 _)
 have KQ3:=Lib.hid (OG3.out.blk KQ2.out (Ne.symm NE.out))
 have B3:=Lib.hid (OG3.out.from B2.out (by have:=EG.out; omega))
 have HS3:=Lib.hid (show Sl w3 A2 n2 c2 ps from HSL.out.set_ (fun ad h e=>by have:=HGE.out ad h; have:=SZ1.out; have:=EG.out; omega) OG3.out)
 have PC:=Lib.hid (HT.out w3 A2 n2 c2 B3.out HS3.out)
 clear hw3
 go_upto_region 13 with fail
 rw [← E3.out]
 clear p0 p1 p12 z12
 have p0:=KP3.out.cell 0
 go_wp2_with fail
 refine PC.out.mono ?_
 rintro o w4 ⟨rfl,hb4⟩
 have KP4:=Lib.hid (KP3.out.below hb4 KP3.out.lt)
 have KQ4:=Lib.hid (KQ3.out.below hb4 KQ3.out.lt)
 have B4:=Lib.hid (B3.out.trans (hb4.mono B3.out.size))
 clear hb4 p0
 have y13:=KP4.out.cell 13
 have z13:=KP4.out.frozen 13
 have y14:=KP4.out.cell 14
 have z14:=KP4.out.frozen 14
 have y15:=KP4.out.cell 15
 have z15:=KP4.out.frozen 15
 have y16:=KP4.out.cell 16
 have z16:=KP4.out.frozen 16
 have y17:=KP4.out.cell 17
 have z17:=KP4.out.frozen 17
 have y18:=KP4.out.cell 18
 have z18:=KP4.out.frozen 18
 have y19:=KP4.out.cell 19
 have z19:=KP4.out.frozen 19
 have y20:=KP4.out.cell 20
 have z20:=KP4.out.frozen 20
 have y21:=KP4.out.cell 21
 have z21:=KP4.out.frozen 21
 have k0:Blk (w4.setCell ⟨g,13,none⟩ (.int .i64 apr)) g 53 #[.bool false,.int .i64 1,.bool s6,.int .u64 sh,.int .u64 sl,.bool d6,.int .u64 dh,.int .u64 dl,.int .i64 0,.int .i64 0,.int .i64 ttl,.int .i64 0,.bool true,.int .i64 apr,.bool false,.int .u64 0,.int .u64 0,.bool false,.int .u64 0,.int .u64 0,.int .i64 0,.int .i64 0,.int .i64 sz]:=KP4.out.set_ 13 _
 have k1:Blk ((w4.setCell ⟨g,13,none⟩ (.int .i64 apr)).setCell ⟨g,14,none⟩ (.bool as6)) g 53 #[.bool false,.int .i64 1,.bool s6,.int .u64 sh,.int .u64 sl,.bool d6,.int .u64 dh,.int .u64 dl,.int .i64 0,.int .i64 0,.int .i64 ttl,.int .i64 0,.bool true,.int .i64 apr,.bool as6,.int .u64 0,.int .u64 0,.bool false,.int .u64 0,.int .u64 0,.int .i64 0,.int .i64 0,.int .i64 sz]:=k0.set_ 14 _
 have k2:Blk (((w4.setCell ⟨g,13,none⟩ (.int .i64 apr)).setCell ⟨g,14,none⟩ (.bool as6)).setCell ⟨g,15,none⟩ (.int .u64 ash)) g 53 #[.bool false,.int .i64 1,.bool s6,.int .u64 sh,.int .u64 sl,.bool d6,.int .u64 dh,.int .u64 dl,.int .i64 0,.int .i64 0,.int .i64 ttl,.int .i64 0,.bool true,.int .i64 apr,.bool as6,.int .u64 ash,.int .u64 0,.bool false,.int .u64 0,.int .u64 0,.int .i64 0,.int .i64 0,.int .i64 sz]:=k1.set_ 15 _
 have k3:Blk ((((w4.setCell ⟨g,13,none⟩ (.int .i64 apr)).setCell ⟨g,14,none⟩ (.bool as6)).setCell ⟨g,15,none⟩ (.int .u64 ash)).setCell ⟨g,16,none⟩ (.int .u64 asl)) g 53 #[.bool false,.int .i64 1,.bool s6,.int .u64 sh,.int .u64 sl,.bool d6,.int .u64 dh,.int .u64 dl,.int .i64 0,.int .i64 0,.int .i64 ttl,.int .i64 0,.bool true,.int .i64 apr,.bool as6,.int .u64 ash,.int .u64 asl,.bool false,.int .u64 0,.int .u64 0,.int .i64 0,.int .i64 0,.int .i64 sz]:=k2.set_ 16 _
 have k4:Blk (((((w4.setCell ⟨g,13,none⟩ (.int .i64 apr)).setCell ⟨g,14,none⟩ (.bool as6)).setCell ⟨g,15,none⟩ (.int .u64 ash)).setCell ⟨g,16,none⟩ (.int .u64 asl)).setCell ⟨g,17,none⟩ (.bool ad6)) g 53 #[.bool false,.int .i64 1,.bool s6,.int .u64 sh,.int .u64 sl,.bool d6,.int .u64 dh,.int .u64 dl,.int .i64 0,.int .i64 0,.int .i64 ttl,.int .i64 0,.bool true,.int .i64 apr,.bool as6,.int .u64 ash,.int .u64 asl,.bool ad6,.int .u64 0,.int .u64 0,.int .i64 0,.int .i64 0,.int .i64 sz]:=k3.set_ 17 _
 have k5:Blk ((((((w4.setCell ⟨g,13,none⟩ (.int .i64 apr)).setCell ⟨g,14,none⟩ (.bool as6)).setCell ⟨g,15,none⟩ (.int .u64 ash)).setCell ⟨g,16,none⟩ (.int .u64 asl)).setCell ⟨g,17,none⟩ (.bool ad6)).setCell ⟨g,18,none⟩ (.int .u64 adh)) g 53 #[.bool false,.int .i64 1,.bool s6,.int .u64 sh,.int .u64 sl,.bool d6,.int .u64 dh,.int .u64 dl,.int .i64 0,.int .i64 0,.int .i64 ttl,.int .i64 0,.bool true,.int .i64 apr,.bool as6,.int .u64 ash,.int .u64 asl,.bool ad6,.int .u64 adh,.int .u64 0,.int .i64 0,.int .i64 0,.int .i64 sz]:=k4.set_ 18 _
 have k6:Blk (((((((w4.setCell ⟨g,13,none⟩ (.int .i64 apr)).setCell ⟨g,14,none⟩ (.bool as6)).setCell ⟨g,15,none⟩ (.int .u64 ash)).setCell ⟨g,16,none⟩ (.int .u64 asl)).setCell ⟨g,17,none⟩ (.bool ad6)).setCell ⟨g,18,none⟩ (.int .u64 adh)).setCell ⟨g,19,none⟩ (.int .u64 adl)) g 53 #[.bool false,.int .i64 1,.bool s6,.int .u64 sh,.int .u64 sl,.bool d6,.int .u64 dh,.int .u64 dl,.int .i64 0,.int .i64 0,.int .i64 ttl,.int .i64 0,.bool true,.int .i64 apr,.bool as6,.int .u64 ash,.int .u64 asl,.bool ad6,.int .u64 adh,.int .u64 adl,.int .i64 0,.int .i64 0,.int .i64 sz]:=k5.set_ 19 _
 have k7:Blk ((((((((w4.setCell ⟨g,13,none⟩ (.int .i64 apr)).setCell ⟨g,14,none⟩ (.bool as6)).setCell ⟨g,15,none⟩ (.int .u64 ash)).setCell ⟨g,16,none⟩ (.int .u64 asl)).setCell ⟨g,17,none⟩ (.bool ad6)).setCell ⟨g,18,none⟩ (.int .u64 adh)).setCell ⟨g,19,none⟩ (.int .u64 adl)).setCell ⟨g,20,none⟩ (.int .i64 asp)) g 53 #[.bool false,.int .i64 1,.bool s6,.int .u64 sh,.int .u64 sl,.bool d6,.int .u64 dh,.int .u64 dl,.int .i64 0,.int .i64 0,.int .i64 ttl,.int .i64 0,.bool true,.int .i64 apr,.bool as6,.int .u64 ash,.int .u64 asl,.bool ad6,.int .u64 adh,.int .u64 adl,.int .i64 asp,.int .i64 0,.int .i64 sz]:=k6.set_ 20 _
 have k8:Blk (((((((((w4.setCell ⟨g,13,none⟩ (.int .i64 apr)).setCell ⟨g,14,none⟩ (.bool as6)).setCell ⟨g,15,none⟩ (.int .u64 ash)).setCell ⟨g,16,none⟩ (.int .u64 asl)).setCell ⟨g,17,none⟩ (.bool ad6)).setCell ⟨g,18,none⟩ (.int .u64 adh)).setCell ⟨g,19,none⟩ (.int .u64 adl)).setCell ⟨g,20,none⟩ (.int .i64 asp)).setCell ⟨g,21,none⟩ (.int .i64 adp)) g 53 #[.bool false,.int .i64 1,.bool s6,.int .u64 sh,.int .u64 sl,.bool d6,.int .u64 dh,.int .u64 dl,.int .i64 0,.int .i64 0,.int .i64 ttl,.int .i64 0,.bool true,.int .i64 apr,.bool as6,.int .u64 ash,.int .u64 asl,.bool ad6,.int .u64 adh,.int .u64 adl,.int .i64 asp,.int .i64 adp,.int .i64 sz]:=k7.set_ 21 _
 obtain ⟨w5,hw5⟩:∃ w5,w5=(((((((((w4.setCell ⟨g,13,none⟩ (.int .i64 apr)).setCell ⟨g,14,none⟩ (.bool as6)).setCell ⟨g,15,none⟩ (.int .u64 ash)).setCell ⟨g,16,none⟩ (.int .u64 asl)).setCell ⟨g,17,none⟩ (.bool ad6)).setCell ⟨g,18,none⟩ (.int .u64 adh)).setCell ⟨g,19,none⟩ (.int .u64 adl)).setCell ⟨g,20,none⟩ (.int .i64 asp)).setCell ⟨g,21,none⟩ (.int .i64 adp)):=⟨_,rfl⟩
 have E5:=Lib.hid hw5
 have OG5:=Lib.hid (show OnlyG g w4 w5 from by rw [hw5]; exact ((((((((((OnlyG.refl g w4).set 13 (.int .i64 apr)).set 14 (.bool as6)).set 15 (.int .u64 ash)).set 16 (.int .u64 asl)).set 17 (.bool ad6)).set 18 (.int .u64 adh)).set 19 (.int .u64 adl)).set 20 (.int .i64 asp)).set 21 (.int .i64 adp)))
 have KP5:=Lib.hid (show Blk w5 g 53 #[.bool false,.int .i64 1,.bool s6,.int .u64 sh,.int .u64 sl,.bool d6,.int .u64 dh,.int .u64 dl,.int .i64 0,.int .i64 0,.int .i64 ttl,.int .i64 0,.bool true,.int .i64 apr,.bool as6,.int .u64 ash,.int .u64 asl,.bool ad6,.int .u64 adh,.int .u64 adl,.int .i64 asp,.int .i64 adp,.int .i64 sz] from by rw [hw5]; exact k8)
 have KQ5:=Lib.hid (OG5.out.blk KQ4.out (Ne.symm NE.out))
 have B5:=Lib.hid (OG5.out.from B4.out (by have:=EG.out; omega))
 clear hw5 k0 k1 k2 k3 k4 k5 k6 k7 k8
 go_upto_region 14 with fail
 rw [← E5.out]
 clear y13 z13 y14 z14 y15 z15 y16 z16 y17 z17 y18 z18 y19 z19 y20 z20 y21 z21
 go_wp2_with (first
  | (refine wpList_load_row rfl 53 _ rfl g rfl 53 #[.bool false,.int .i64 1,.bool s6,.int .u64 sh,.int .u64 sl,.bool d6,.int .u64 dh,.int .u64 dl,.int .i64 0,.int .i64 0,.int .i64 ttl,.int .i64 0,.bool true,.int .i64 apr,.bool as6,.int .u64 ash,.int .u64 asl,.bool ad6,.int .u64 adh,.int .u64 adl,.int .i64 asp,.int .i64 adp,.int .i64 sz] (0,0) _ KP5.out Try.underlying53 rfl HI.out ?_)
  | (refine wpList_store_row rfl 53 _ _ rfl q #[.bool false,.int .i64 1,.bool s6,.int .u64 sh,.int .u64 sl,.bool d6,.int .u64 dh,.int .u64 dl,.int .i64 0,.int .i64 0,.int .i64 ttl,.int .i64 0,.bool true,.int .i64 apr,.bool as6,.int .u64 ash,.int .u64 asl,.bool ad6,.int .u64 adh,.int .u64 adl,.int .i64 asp,.int .i64 adp,.int .i64 sz] rfl rfl 53 #[.bool false,.int .i64 0,.bool false,.int .u64 0,.int .u64 0,.bool false,.int .u64 0,.int .u64 0,.int .i64 0,.int .i64 0,.int .i64 0,.int .i64 0,.bool false,.int .i64 0,.bool false,.int .u64 0,.int .u64 0,.bool false,.int .u64 0,.int .u64 0,.int .i64 0,.int .i64 0,.int .i64 0] KQ5.out HI.out rfl (by kernel_rfl) ?_))
 refine bodyPost_ret (results_pk rfl _ _ q #[.bool false,.int .i64 1,.bool s6,.int .u64 sh,.int .u64 sl,.bool d6,.int .u64 dh,.int .u64 dl,.int .i64 0,.int .i64 0,.int .i64 ttl,.int .i64 0,.bool true,.int .i64 apr,.bool as6,.int .u64 ash,.int .u64 asl,.bool ad6,.int .u64 adh,.int .u64 adl,.int .i64 asp,.int .i64 adp,.int .i64 sz] rfl (blkRow KQ5.out _) rfl) rfl ?_
 exact ⟨rfl,(onlyRow _).from B5.out (by have:=EQ.out; omega)⟩
theorem with_icmp6_no (apr:Int) (as6:Bool) (ash asl:Int) (ad6:Bool) (adh adl asp adp:Int) (e:Int) (he:e≠0) (s6:Bool) (sh sl:Int) (d6:Bool) (dh dl ttl sz:Int) (A:Option Addr) (n c:Nat) (ps:List Int) (w:World)
  (HPS:Hid (∀ V,Below w.heap.size w V→Calls Try.prog 53 #[.agg #[.bool s6,.int .u64 sh,.int .u64 sl],.agg #[.bool d6,.int .u64 dh,.int .u64 dl],.int .i64 58,.int .i64 n] V (Gives ps V)))
  (HT:Hid (∀ V A2 n2 c2,Below w.heap.size w V→Sl V A2 n2 c2 ps→Calls Try.prog 70 #[.bool true,.slice A n c,.slice A2 n2 c2] V fun o w'=>o=.returned (.tuple #[.agg #[.int .i64 apr,.bool as6,.int .u64 ash,.int .u64 asl,.bool ad6,.int .u64 adh,.int .u64 adl,.int .i64 asp,.int .i64 adp],.int .i64 e])∧Below V.heap.size V w')) :
  Calls Try.prog 46 #[.agg #[.bool true,.int .i64 58,.bool s6,.int .u64 sh,.int .u64 sl,.bool d6,.int .u64 dh,.int .u64 dl,.int .i64 0,.int .i64 0,.int .i64 ttl,.int .i64 0,.bool false,.int .i64 0,.bool false,.int .u64 0,.int .u64 0,.bool false,.int .u64 0,.int .u64 0,.int .i64 0,.int .i64 0,.int .i64 sz],.slice A n c] w fun o w'=>o=.returned (.tuple #[.agg #[.bool false,.int .i64 0,.bool false,.int .u64 0,.int .u64 0,.bool false,.int .u64 0,.int .u64 0,.int .i64 0,.int .i64 0,.int .i64 0,.int .i64 0,.bool false,.int .i64 0,.bool false,.int .u64 0,.int .u64 0,.bool false,.int .u64 0,.int .u64 0,.int .i64 0,.int .i64 0,.int .i64 0],.int .i64 e])∧Below w.heap.size w w':=by
 have te:(e != 0)=true:=by simpa using he
 clear he
 obtain ⟨w1,hw1⟩:∃ w1,w1=(w.alloc (.cells #[.bool true,.int .i64 58,.bool s6,.int .u64 sh,.int .u64 sl,.bool d6,.int .u64 dh,.int .u64 dl,.int .i64 0,.int .i64 0,.int .i64 ttl,.int .i64 0,.bool false,.int .i64 0,.bool false,.int .u64 0,.int .u64 0,.bool false,.int .u64 0,.int .u64 0,.int .i64 0,.int .i64 0,.int .i64 sz] 53)).alloc (.cells #[.bool false,.int .i64 0,.bool false,.int .u64 0,.int .u64 0,.bool false,.int .u64 0,.int .u64 0,.int .i64 0,.int .i64 0,.int .i64 0,.int .i64 0,.bool false,.int .i64 0,.bool false,.int .u64 0,.int .u64 0,.bool false,.int .u64 0,.int .u64 0,.int .i64 0,.int .i64 0,.int .i64 0] 53):=⟨_,rfl⟩
 have E1:=Lib.hid hw1
 have BA:=Lib.hid (show Below w.heap.size w (w.alloc (.cells #[.bool true,.int .i64 58,.bool s6,.int .u64 sh,.int .u64 sl,.bool d6,.int .u64 dh,.int .u64 dl,.int .i64 0,.int .i64 0,.int .i64 ttl,.int .i64 0,.bool false,.int .i64 0,.bool false,.int .u64 0,.int .u64 0,.bool false,.int .u64 0,.int .u64 0,.int .i64 0,.int .i64 0,.int .i64 sz] 53)) from (Below.refl _ _).alloc (Nat.le_refl _) _)
 have B1:=Lib.hid (show Below w.heap.size w w1 from by rw [hw1]; exact BA.out.alloc BA.out.size _)
 obtain ⟨g,hg⟩:∃ g,g=w.heap.size:=⟨_,rfl⟩
 obtain ⟨q,hq⟩:∃ q,q=w.heap.size+1:=⟨_,rfl⟩
 have EG:=Lib.hid hg
 have EQ:=Lib.hid hq
 have NE:=Lib.hid (show g≠q from by omega)
 have KP:=Lib.hid (show Blk w1 g 53 #[.bool true,.int .i64 58,.bool s6,.int .u64 sh,.int .u64 sl,.bool d6,.int .u64 dh,.int .u64 dl,.int .i64 0,.int .i64 0,.int .i64 ttl,.int .i64 0,.bool false,.int .i64 0,.bool false,.int .u64 0,.int .u64 0,.bool false,.int .u64 0,.int .u64 0,.int .i64 0,.int .i64 0,.int .i64 sz] from by rw [hw1,hg]; exact (Blk.new w _ _).alloc _)
 have KQ:=Lib.hid (show Blk w1 q 53 #[.bool false,.int .i64 0,.bool false,.int .u64 0,.int .u64 0,.bool false,.int .u64 0,.int .u64 0,.int .i64 0,.int .i64 0,.int .i64 0,.int .i64 0,.bool false,.int .i64 0,.bool false,.int .u64 0,.int .u64 0,.bool false,.int .u64 0,.int .u64 0,.int .i64 0,.int .i64 0,.int .i64 0] from by
  have h9:=Blk.new (w.alloc (.cells #[.bool true,.int .i64 58,.bool s6,.int .u64 sh,.int .u64 sl,.bool d6,.int .u64 dh,.int .u64 dl,.int .i64 0,.int .i64 0,.int .i64 ttl,.int .i64 0,.bool false,.int .i64 0,.bool false,.int .u64 0,.int .u64 0,.bool false,.int .u64 0,.int .u64 0,.int .i64 0,.int .i64 0,.int .i64 sz] 53)) 53 #[.bool false,.int .i64 0,.bool false,.int .u64 0,.int .u64 0,.bool false,.int .u64 0,.int .u64 0,.int .i64 0,.int .i64 0,.int .i64 0,.int .i64 0,.bool false,.int .i64 0,.bool false,.int .u64 0,.int .u64 0,.bool false,.int .u64 0,.int .u64 0,.int .i64 0,.int .i64 0,.int .i64 0]
  rw [← hw1] at h9
  rw [hq]
  simpa using h9)
 have HI:=Lib.hid pk_size
 clear hw1 hg hq
 go_enter Try.func46,Try.ntmps46
 go_upto_region 1 with fail
 rw [← E1.out,← EQ.out,← EG.out]
 have p0:=KP.out.cell 0
 have p1:=KP.out.cell 1
 have p2:=KP.out.cell 2
 have p3:=KP.out.cell 3
 have p4:=KP.out.cell 4
 have p5:=KP.out.cell 5
 have p6:=KP.out.cell 6
 have p7:=KP.out.cell 7
 go_wp2_with fail
 refine (HPS.out _ B1.out).mono ?_
 rintro o w2 ⟨hb2,A2,n2,c2,rfl,hsl,hge⟩
 have KP2:=Lib.hid (KP.out.below hb2 KP.out.lt)
 have KQ2:=Lib.hid (KQ.out.below hb2 KQ.out.lt)
 have B2:=Lib.hid (B1.out.trans (hb2.mono B1.out.size))
 have HSL:=Lib.hid hsl
 have HGE:=Lib.hid hge
 have SZ1:=Lib.hid (show w1.heap.size=w.heap.size+2 from by rw [E1.out]; simp)
 clear hb2 hsl hge p0 p1 p2 p3 p4 p5 p6 p7
 have p0:=KP2.out.cell 0
 have p1:=KP2.out.cell 1
 have p12:=KP2.out.cell 12
 have z12:=KP2.out.frozen 12
 obtain ⟨w3,hw3⟩:∃ w3,w3=w2.setCell ⟨g,12,none⟩ (.bool true):=⟨_,rfl⟩
 have E3:=Lib.hid hw3
 have OG3:=Lib.hid (show OnlyG g w2 w3 from by rw [hw3]; exact (OnlyG.refl _ _).set 12 _)
 have KP3:=Lib.hid (show Blk w3 g 53 #[.bool true,.int .i64 58,.bool s6,.int .u64 sh,.int .u64 sl,.bool d6,.int .u64 dh,.int .u64 dl,.int .i64 0,.int .i64 0,.int .i64 ttl,.int .i64 0,.bool true,.int .i64 0,.bool false,.int .u64 0,.int .u64 0,.bool false,.int .u64 0,.int .u64 0,.int .i64 0,.int .i64 0,.int .i64 sz] from by rw [hw3]; exact KP2.out.set_ 12 _)
 have KQ3:=Lib.hid (OG3.out.blk KQ2.out (Ne.symm NE.out))
 have B3:=Lib.hid (OG3.out.from B2.out (by have:=EG.out; omega))
 have HS3:=Lib.hid (show Sl w3 A2 n2 c2 ps from HSL.out.set_ (fun ad h e=>by have:=HGE.out ad h; have:=SZ1.out; have:=EG.out; omega) OG3.out)
 have PC:=Lib.hid (HT.out w3 A2 n2 c2 B3.out HS3.out)
 clear hw3
 go_upto_region 13 with fail
 rw [← E3.out]
 clear p0 p1 p12 z12
 have p0:=KP3.out.cell 0
 go_wp2_with fail
 refine PC.out.mono ?_
 rintro o w4 ⟨rfl,hb4⟩
 have KP4:=Lib.hid (KP3.out.below hb4 KP3.out.lt)
 have KQ4:=Lib.hid (KQ3.out.below hb4 KQ3.out.lt)
 have B4:=Lib.hid (B3.out.trans (hb4.mono B3.out.size))
 clear hb4 p0
 have y13:=KP4.out.cell 13
 have z13:=KP4.out.frozen 13
 have y14:=KP4.out.cell 14
 have z14:=KP4.out.frozen 14
 have y15:=KP4.out.cell 15
 have z15:=KP4.out.frozen 15
 have y16:=KP4.out.cell 16
 have z16:=KP4.out.frozen 16
 have y17:=KP4.out.cell 17
 have z17:=KP4.out.frozen 17
 have y18:=KP4.out.cell 18
 have z18:=KP4.out.frozen 18
 have y19:=KP4.out.cell 19
 have z19:=KP4.out.frozen 19
 have y20:=KP4.out.cell 20
 have z20:=KP4.out.frozen 20
 have y21:=KP4.out.cell 21
 have z21:=KP4.out.frozen 21
 have k0:Blk (w4.setCell ⟨g,13,none⟩ (.int .i64 apr)) g 53 #[.bool true,.int .i64 58,.bool s6,.int .u64 sh,.int .u64 sl,.bool d6,.int .u64 dh,.int .u64 dl,.int .i64 0,.int .i64 0,.int .i64 ttl,.int .i64 0,.bool true,.int .i64 apr,.bool false,.int .u64 0,.int .u64 0,.bool false,.int .u64 0,.int .u64 0,.int .i64 0,.int .i64 0,.int .i64 sz]:=KP4.out.set_ 13 _
 have k1:Blk ((w4.setCell ⟨g,13,none⟩ (.int .i64 apr)).setCell ⟨g,14,none⟩ (.bool as6)) g 53 #[.bool true,.int .i64 58,.bool s6,.int .u64 sh,.int .u64 sl,.bool d6,.int .u64 dh,.int .u64 dl,.int .i64 0,.int .i64 0,.int .i64 ttl,.int .i64 0,.bool true,.int .i64 apr,.bool as6,.int .u64 0,.int .u64 0,.bool false,.int .u64 0,.int .u64 0,.int .i64 0,.int .i64 0,.int .i64 sz]:=k0.set_ 14 _
 have k2:Blk (((w4.setCell ⟨g,13,none⟩ (.int .i64 apr)).setCell ⟨g,14,none⟩ (.bool as6)).setCell ⟨g,15,none⟩ (.int .u64 ash)) g 53 #[.bool true,.int .i64 58,.bool s6,.int .u64 sh,.int .u64 sl,.bool d6,.int .u64 dh,.int .u64 dl,.int .i64 0,.int .i64 0,.int .i64 ttl,.int .i64 0,.bool true,.int .i64 apr,.bool as6,.int .u64 ash,.int .u64 0,.bool false,.int .u64 0,.int .u64 0,.int .i64 0,.int .i64 0,.int .i64 sz]:=k1.set_ 15 _
 have k3:Blk ((((w4.setCell ⟨g,13,none⟩ (.int .i64 apr)).setCell ⟨g,14,none⟩ (.bool as6)).setCell ⟨g,15,none⟩ (.int .u64 ash)).setCell ⟨g,16,none⟩ (.int .u64 asl)) g 53 #[.bool true,.int .i64 58,.bool s6,.int .u64 sh,.int .u64 sl,.bool d6,.int .u64 dh,.int .u64 dl,.int .i64 0,.int .i64 0,.int .i64 ttl,.int .i64 0,.bool true,.int .i64 apr,.bool as6,.int .u64 ash,.int .u64 asl,.bool false,.int .u64 0,.int .u64 0,.int .i64 0,.int .i64 0,.int .i64 sz]:=k2.set_ 16 _
 have k4:Blk (((((w4.setCell ⟨g,13,none⟩ (.int .i64 apr)).setCell ⟨g,14,none⟩ (.bool as6)).setCell ⟨g,15,none⟩ (.int .u64 ash)).setCell ⟨g,16,none⟩ (.int .u64 asl)).setCell ⟨g,17,none⟩ (.bool ad6)) g 53 #[.bool true,.int .i64 58,.bool s6,.int .u64 sh,.int .u64 sl,.bool d6,.int .u64 dh,.int .u64 dl,.int .i64 0,.int .i64 0,.int .i64 ttl,.int .i64 0,.bool true,.int .i64 apr,.bool as6,.int .u64 ash,.int .u64 asl,.bool ad6,.int .u64 0,.int .u64 0,.int .i64 0,.int .i64 0,.int .i64 sz]:=k3.set_ 17 _
 have k5:Blk ((((((w4.setCell ⟨g,13,none⟩ (.int .i64 apr)).setCell ⟨g,14,none⟩ (.bool as6)).setCell ⟨g,15,none⟩ (.int .u64 ash)).setCell ⟨g,16,none⟩ (.int .u64 asl)).setCell ⟨g,17,none⟩ (.bool ad6)).setCell ⟨g,18,none⟩ (.int .u64 adh)) g 53 #[.bool true,.int .i64 58,.bool s6,.int .u64 sh,.int .u64 sl,.bool d6,.int .u64 dh,.int .u64 dl,.int .i64 0,.int .i64 0,.int .i64 ttl,.int .i64 0,.bool true,.int .i64 apr,.bool as6,.int .u64 ash,.int .u64 asl,.bool ad6,.int .u64 adh,.int .u64 0,.int .i64 0,.int .i64 0,.int .i64 sz]:=k4.set_ 18 _
 have k6:Blk (((((((w4.setCell ⟨g,13,none⟩ (.int .i64 apr)).setCell ⟨g,14,none⟩ (.bool as6)).setCell ⟨g,15,none⟩ (.int .u64 ash)).setCell ⟨g,16,none⟩ (.int .u64 asl)).setCell ⟨g,17,none⟩ (.bool ad6)).setCell ⟨g,18,none⟩ (.int .u64 adh)).setCell ⟨g,19,none⟩ (.int .u64 adl)) g 53 #[.bool true,.int .i64 58,.bool s6,.int .u64 sh,.int .u64 sl,.bool d6,.int .u64 dh,.int .u64 dl,.int .i64 0,.int .i64 0,.int .i64 ttl,.int .i64 0,.bool true,.int .i64 apr,.bool as6,.int .u64 ash,.int .u64 asl,.bool ad6,.int .u64 adh,.int .u64 adl,.int .i64 0,.int .i64 0,.int .i64 sz]:=k5.set_ 19 _
 have k7:Blk ((((((((w4.setCell ⟨g,13,none⟩ (.int .i64 apr)).setCell ⟨g,14,none⟩ (.bool as6)).setCell ⟨g,15,none⟩ (.int .u64 ash)).setCell ⟨g,16,none⟩ (.int .u64 asl)).setCell ⟨g,17,none⟩ (.bool ad6)).setCell ⟨g,18,none⟩ (.int .u64 adh)).setCell ⟨g,19,none⟩ (.int .u64 adl)).setCell ⟨g,20,none⟩ (.int .i64 asp)) g 53 #[.bool true,.int .i64 58,.bool s6,.int .u64 sh,.int .u64 sl,.bool d6,.int .u64 dh,.int .u64 dl,.int .i64 0,.int .i64 0,.int .i64 ttl,.int .i64 0,.bool true,.int .i64 apr,.bool as6,.int .u64 ash,.int .u64 asl,.bool ad6,.int .u64 adh,.int .u64 adl,.int .i64 asp,.int .i64 0,.int .i64 sz]:=k6.set_ 20 _
 have k8:Blk (((((((((w4.setCell ⟨g,13,none⟩ (.int .i64 apr)).setCell ⟨g,14,none⟩ (.bool as6)).setCell ⟨g,15,none⟩ (.int .u64 ash)).setCell ⟨g,16,none⟩ (.int .u64 asl)).setCell ⟨g,17,none⟩ (.bool ad6)).setCell ⟨g,18,none⟩ (.int .u64 adh)).setCell ⟨g,19,none⟩ (.int .u64 adl)).setCell ⟨g,20,none⟩ (.int .i64 asp)).setCell ⟨g,21,none⟩ (.int .i64 adp)) g 53 #[.bool true,.int .i64 58,.bool s6,.int .u64 sh,.int .u64 sl,.bool d6,.int .u64 dh,.int .u64 dl,.int .i64 0,.int .i64 0,.int .i64 ttl,.int .i64 0,.bool true,.int .i64 apr,.bool as6,.int .u64 ash,.int .u64 asl,.bool ad6,.int .u64 adh,.int .u64 adl,.int .i64 asp,.int .i64 adp,.int .i64 sz]:=k7.set_ 21 _
 obtain ⟨w5,hw5⟩:∃ w5,w5=(((((((((w4.setCell ⟨g,13,none⟩ (.int .i64 apr)).setCell ⟨g,14,none⟩ (.bool as6)).setCell ⟨g,15,none⟩ (.int .u64 ash)).setCell ⟨g,16,none⟩ (.int .u64 asl)).setCell ⟨g,17,none⟩ (.bool ad6)).setCell ⟨g,18,none⟩ (.int .u64 adh)).setCell ⟨g,19,none⟩ (.int .u64 adl)).setCell ⟨g,20,none⟩ (.int .i64 asp)).setCell ⟨g,21,none⟩ (.int .i64 adp)):=⟨_,rfl⟩
 have E5:=Lib.hid hw5
 have OG5:=Lib.hid (show OnlyG g w4 w5 from by rw [hw5]; exact ((((((((((OnlyG.refl g w4).set 13 (.int .i64 apr)).set 14 (.bool as6)).set 15 (.int .u64 ash)).set 16 (.int .u64 asl)).set 17 (.bool ad6)).set 18 (.int .u64 adh)).set 19 (.int .u64 adl)).set 20 (.int .i64 asp)).set 21 (.int .i64 adp)))
 have KP5:=Lib.hid (show Blk w5 g 53 #[.bool true,.int .i64 58,.bool s6,.int .u64 sh,.int .u64 sl,.bool d6,.int .u64 dh,.int .u64 dl,.int .i64 0,.int .i64 0,.int .i64 ttl,.int .i64 0,.bool true,.int .i64 apr,.bool as6,.int .u64 ash,.int .u64 asl,.bool ad6,.int .u64 adh,.int .u64 adl,.int .i64 asp,.int .i64 adp,.int .i64 sz] from by rw [hw5]; exact k8)
 have KQ5:=Lib.hid (OG5.out.blk KQ4.out (Ne.symm NE.out))
 have B5:=Lib.hid (OG5.out.from B4.out (by have:=EG.out; omega))
 clear hw5 k0 k1 k2 k3 k4 k5 k6 k7 k8
 go_upto_region 14 with fail
 rw [← E5.out]
 clear y13 z13 y14 z14 y15 z15 y16 z16 y17 z17 y18 z18 y19 z19 y20 z20 y21 z21
 go_wp2_with (refine wpList_store_row rfl 53 _ _ rfl q #[.bool false,.int .i64 0,.bool false,.int .u64 0,.int .u64 0,.bool false,.int .u64 0,.int .u64 0,.int .i64 0,.int .i64 0,.int .i64 0,.int .i64 0,.bool false,.int .i64 0,.bool false,.int .u64 0,.int .u64 0,.bool false,.int .u64 0,.int .u64 0,.int .i64 0,.int .i64 0,.int .i64 0] rfl rfl 53 #[.bool false,.int .i64 0,.bool false,.int .u64 0,.int .u64 0,.bool false,.int .u64 0,.int .u64 0,.int .i64 0,.int .i64 0,.int .i64 0,.int .i64 0,.bool false,.int .i64 0,.bool false,.int .u64 0,.int .u64 0,.bool false,.int .u64 0,.int .u64 0,.int .i64 0,.int .i64 0,.int .i64 0] KQ5.out HI.out rfl (by kernel_rfl) ?_)
 refine bodyPost_ret (results_pk rfl _ _ q #[.bool false,.int .i64 0,.bool false,.int .u64 0,.int .u64 0,.bool false,.int .u64 0,.int .u64 0,.int .i64 0,.int .i64 0,.int .i64 0,.int .i64 0,.bool false,.int .i64 0,.bool false,.int .u64 0,.int .u64 0,.bool false,.int .u64 0,.int .u64 0,.int .i64 0,.int .i64 0,.int .i64 0] rfl (blkRow KQ5.out _) rfl) rfl ?_
 exact ⟨rfl,(onlyRow _).from B5.out (by have:=EQ.out; omega)⟩
theorem with_icmp6_ok (apr:Int) (as6:Bool) (ash asl:Int) (ad6:Bool) (adh adl asp adp:Int) (s6:Bool) (sh sl:Int) (d6:Bool) (dh dl ttl sz:Int) (A:Option Addr) (n c:Nat) (ps:List Int) (w:World)
  (HPS:Hid (∀ V,Below w.heap.size w V→Calls Try.prog 53 #[.agg #[.bool s6,.int .u64 sh,.int .u64 sl],.agg #[.bool d6,.int .u64 dh,.int .u64 dl],.int .i64 58,.int .i64 n] V (Gives ps V)))
  (HT:Hid (∀ V A2 n2 c2,Below w.heap.size w V→Sl V A2 n2 c2 ps→Calls Try.prog 70 #[.bool true,.slice A n c,.slice A2 n2 c2] V fun o w'=>o=.returned (.tuple #[.agg #[.int .i64 apr,.bool as6,.int .u64 ash,.int .u64 asl,.bool ad6,.int .u64 adh,.int .u64 adl,.int .i64 asp,.int .i64 adp],.int .i64 0])∧Below V.heap.size V w')) :
  Calls Try.prog 46 #[.agg #[.bool true,.int .i64 58,.bool s6,.int .u64 sh,.int .u64 sl,.bool d6,.int .u64 dh,.int .u64 dl,.int .i64 0,.int .i64 0,.int .i64 ttl,.int .i64 0,.bool false,.int .i64 0,.bool false,.int .u64 0,.int .u64 0,.bool false,.int .u64 0,.int .u64 0,.int .i64 0,.int .i64 0,.int .i64 sz],.slice A n c] w fun o w'=>o=.returned (.tuple #[.agg #[.bool true,.int .i64 58,.bool s6,.int .u64 sh,.int .u64 sl,.bool d6,.int .u64 dh,.int .u64 dl,.int .i64 0,.int .i64 0,.int .i64 ttl,.int .i64 0,.bool true,.int .i64 apr,.bool as6,.int .u64 ash,.int .u64 asl,.bool ad6,.int .u64 adh,.int .u64 adl,.int .i64 asp,.int .i64 adp,.int .i64 sz],.int .i64 0])∧Below w.heap.size w w':=by
 obtain ⟨w1,hw1⟩:∃ w1,w1=(w.alloc (.cells #[.bool true,.int .i64 58,.bool s6,.int .u64 sh,.int .u64 sl,.bool d6,.int .u64 dh,.int .u64 dl,.int .i64 0,.int .i64 0,.int .i64 ttl,.int .i64 0,.bool false,.int .i64 0,.bool false,.int .u64 0,.int .u64 0,.bool false,.int .u64 0,.int .u64 0,.int .i64 0,.int .i64 0,.int .i64 sz] 53)).alloc (.cells #[.bool false,.int .i64 0,.bool false,.int .u64 0,.int .u64 0,.bool false,.int .u64 0,.int .u64 0,.int .i64 0,.int .i64 0,.int .i64 0,.int .i64 0,.bool false,.int .i64 0,.bool false,.int .u64 0,.int .u64 0,.bool false,.int .u64 0,.int .u64 0,.int .i64 0,.int .i64 0,.int .i64 0] 53):=⟨_,rfl⟩
 have E1:=Lib.hid hw1
 have BA:=Lib.hid (show Below w.heap.size w (w.alloc (.cells #[.bool true,.int .i64 58,.bool s6,.int .u64 sh,.int .u64 sl,.bool d6,.int .u64 dh,.int .u64 dl,.int .i64 0,.int .i64 0,.int .i64 ttl,.int .i64 0,.bool false,.int .i64 0,.bool false,.int .u64 0,.int .u64 0,.bool false,.int .u64 0,.int .u64 0,.int .i64 0,.int .i64 0,.int .i64 sz] 53)) from (Below.refl _ _).alloc (Nat.le_refl _) _)
 have B1:=Lib.hid (show Below w.heap.size w w1 from by rw [hw1]; exact BA.out.alloc BA.out.size _)
 obtain ⟨g,hg⟩:∃ g,g=w.heap.size:=⟨_,rfl⟩
 obtain ⟨q,hq⟩:∃ q,q=w.heap.size+1:=⟨_,rfl⟩
 have EG:=Lib.hid hg
 have EQ:=Lib.hid hq
 have NE:=Lib.hid (show g≠q from by omega)
 have KP:=Lib.hid (show Blk w1 g 53 #[.bool true,.int .i64 58,.bool s6,.int .u64 sh,.int .u64 sl,.bool d6,.int .u64 dh,.int .u64 dl,.int .i64 0,.int .i64 0,.int .i64 ttl,.int .i64 0,.bool false,.int .i64 0,.bool false,.int .u64 0,.int .u64 0,.bool false,.int .u64 0,.int .u64 0,.int .i64 0,.int .i64 0,.int .i64 sz] from by rw [hw1,hg]; exact (Blk.new w _ _).alloc _)
 have KQ:=Lib.hid (show Blk w1 q 53 #[.bool false,.int .i64 0,.bool false,.int .u64 0,.int .u64 0,.bool false,.int .u64 0,.int .u64 0,.int .i64 0,.int .i64 0,.int .i64 0,.int .i64 0,.bool false,.int .i64 0,.bool false,.int .u64 0,.int .u64 0,.bool false,.int .u64 0,.int .u64 0,.int .i64 0,.int .i64 0,.int .i64 0] from by
  have h9:=Blk.new (w.alloc (.cells #[.bool true,.int .i64 58,.bool s6,.int .u64 sh,.int .u64 sl,.bool d6,.int .u64 dh,.int .u64 dl,.int .i64 0,.int .i64 0,.int .i64 ttl,.int .i64 0,.bool false,.int .i64 0,.bool false,.int .u64 0,.int .u64 0,.bool false,.int .u64 0,.int .u64 0,.int .i64 0,.int .i64 0,.int .i64 sz] 53)) 53 #[.bool false,.int .i64 0,.bool false,.int .u64 0,.int .u64 0,.bool false,.int .u64 0,.int .u64 0,.int .i64 0,.int .i64 0,.int .i64 0,.int .i64 0,.bool false,.int .i64 0,.bool false,.int .u64 0,.int .u64 0,.bool false,.int .u64 0,.int .u64 0,.int .i64 0,.int .i64 0,.int .i64 0]
  rw [← hw1] at h9
  rw [hq]
  simpa using h9)
 have HI:=Lib.hid pk_size
 clear hw1 hg hq
 go_enter Try.func46,Try.ntmps46
 go_upto_region 1 with fail
 rw [← E1.out,← EQ.out,← EG.out]
 have p0:=KP.out.cell 0
 have p1:=KP.out.cell 1
 have p2:=KP.out.cell 2
 have p3:=KP.out.cell 3
 have p4:=KP.out.cell 4
 have p5:=KP.out.cell 5
 have p6:=KP.out.cell 6
 have p7:=KP.out.cell 7
 go_wp2_with fail
 refine (HPS.out _ B1.out).mono ?_
 rintro o w2 ⟨hb2,A2,n2,c2,rfl,hsl,hge⟩
 have KP2:=Lib.hid (KP.out.below hb2 KP.out.lt)
 have KQ2:=Lib.hid (KQ.out.below hb2 KQ.out.lt)
 have B2:=Lib.hid (B1.out.trans (hb2.mono B1.out.size))
 have HSL:=Lib.hid hsl
 have HGE:=Lib.hid hge
 have SZ1:=Lib.hid (show w1.heap.size=w.heap.size+2 from by rw [E1.out]; simp)
 clear hb2 hsl hge p0 p1 p2 p3 p4 p5 p6 p7
 have p0:=KP2.out.cell 0
 have p1:=KP2.out.cell 1
 have p12:=KP2.out.cell 12
 have z12:=KP2.out.frozen 12
 obtain ⟨w3,hw3⟩:∃ w3,w3=w2.setCell ⟨g,12,none⟩ (.bool true):=⟨_,rfl⟩
 have E3:=Lib.hid hw3
 have OG3:=Lib.hid (show OnlyG g w2 w3 from by rw [hw3]; exact (OnlyG.refl _ _).set 12 _)
 have KP3:=Lib.hid (show Blk w3 g 53 #[.bool true,.int .i64 58,.bool s6,.int .u64 sh,.int .u64 sl,.bool d6,.int .u64 dh,.int .u64 dl,.int .i64 0,.int .i64 0,.int .i64 ttl,.int .i64 0,.bool true,.int .i64 0,.bool false,.int .u64 0,.int .u64 0,.bool false,.int .u64 0,.int .u64 0,.int .i64 0,.int .i64 0,.int .i64 sz] from by rw [hw3]; exact KP2.out.set_ 12 _)
 have KQ3:=Lib.hid (OG3.out.blk KQ2.out (Ne.symm NE.out))
 have B3:=Lib.hid (OG3.out.from B2.out (by have:=EG.out; omega))
 have HS3:=Lib.hid (show Sl w3 A2 n2 c2 ps from HSL.out.set_ (fun ad h e=>by have:=HGE.out ad h; have:=SZ1.out; have:=EG.out; omega) OG3.out)
 have PC:=Lib.hid (HT.out w3 A2 n2 c2 B3.out HS3.out)
 clear hw3
 go_upto_region 13 with fail
 rw [← E3.out]
 clear p0 p1 p12 z12
 have p0:=KP3.out.cell 0
 go_wp2_with fail
 refine PC.out.mono ?_
 rintro o w4 ⟨rfl,hb4⟩
 have KP4:=Lib.hid (KP3.out.below hb4 KP3.out.lt)
 have KQ4:=Lib.hid (KQ3.out.below hb4 KQ3.out.lt)
 have B4:=Lib.hid (B3.out.trans (hb4.mono B3.out.size))
 clear hb4 p0
 have y13:=KP4.out.cell 13
 have z13:=KP4.out.frozen 13
 have y14:=KP4.out.cell 14
 have z14:=KP4.out.frozen 14
 have y15:=KP4.out.cell 15
 have z15:=KP4.out.frozen 15
 have y16:=KP4.out.cell 16
 have z16:=KP4.out.frozen 16
 have y17:=KP4.out.cell 17
 have z17:=KP4.out.frozen 17
 have y18:=KP4.out.cell 18
 have z18:=KP4.out.frozen 18
 have y19:=KP4.out.cell 19
 have z19:=KP4.out.frozen 19
 have y20:=KP4.out.cell 20
 have z20:=KP4.out.frozen 20
 have y21:=KP4.out.cell 21
 have z21:=KP4.out.frozen 21
 have k0:Blk (w4.setCell ⟨g,13,none⟩ (.int .i64 apr)) g 53 #[.bool true,.int .i64 58,.bool s6,.int .u64 sh,.int .u64 sl,.bool d6,.int .u64 dh,.int .u64 dl,.int .i64 0,.int .i64 0,.int .i64 ttl,.int .i64 0,.bool true,.int .i64 apr,.bool false,.int .u64 0,.int .u64 0,.bool false,.int .u64 0,.int .u64 0,.int .i64 0,.int .i64 0,.int .i64 sz]:=KP4.out.set_ 13 _
 have k1:Blk ((w4.setCell ⟨g,13,none⟩ (.int .i64 apr)).setCell ⟨g,14,none⟩ (.bool as6)) g 53 #[.bool true,.int .i64 58,.bool s6,.int .u64 sh,.int .u64 sl,.bool d6,.int .u64 dh,.int .u64 dl,.int .i64 0,.int .i64 0,.int .i64 ttl,.int .i64 0,.bool true,.int .i64 apr,.bool as6,.int .u64 0,.int .u64 0,.bool false,.int .u64 0,.int .u64 0,.int .i64 0,.int .i64 0,.int .i64 sz]:=k0.set_ 14 _
 have k2:Blk (((w4.setCell ⟨g,13,none⟩ (.int .i64 apr)).setCell ⟨g,14,none⟩ (.bool as6)).setCell ⟨g,15,none⟩ (.int .u64 ash)) g 53 #[.bool true,.int .i64 58,.bool s6,.int .u64 sh,.int .u64 sl,.bool d6,.int .u64 dh,.int .u64 dl,.int .i64 0,.int .i64 0,.int .i64 ttl,.int .i64 0,.bool true,.int .i64 apr,.bool as6,.int .u64 ash,.int .u64 0,.bool false,.int .u64 0,.int .u64 0,.int .i64 0,.int .i64 0,.int .i64 sz]:=k1.set_ 15 _
 have k3:Blk ((((w4.setCell ⟨g,13,none⟩ (.int .i64 apr)).setCell ⟨g,14,none⟩ (.bool as6)).setCell ⟨g,15,none⟩ (.int .u64 ash)).setCell ⟨g,16,none⟩ (.int .u64 asl)) g 53 #[.bool true,.int .i64 58,.bool s6,.int .u64 sh,.int .u64 sl,.bool d6,.int .u64 dh,.int .u64 dl,.int .i64 0,.int .i64 0,.int .i64 ttl,.int .i64 0,.bool true,.int .i64 apr,.bool as6,.int .u64 ash,.int .u64 asl,.bool false,.int .u64 0,.int .u64 0,.int .i64 0,.int .i64 0,.int .i64 sz]:=k2.set_ 16 _
 have k4:Blk (((((w4.setCell ⟨g,13,none⟩ (.int .i64 apr)).setCell ⟨g,14,none⟩ (.bool as6)).setCell ⟨g,15,none⟩ (.int .u64 ash)).setCell ⟨g,16,none⟩ (.int .u64 asl)).setCell ⟨g,17,none⟩ (.bool ad6)) g 53 #[.bool true,.int .i64 58,.bool s6,.int .u64 sh,.int .u64 sl,.bool d6,.int .u64 dh,.int .u64 dl,.int .i64 0,.int .i64 0,.int .i64 ttl,.int .i64 0,.bool true,.int .i64 apr,.bool as6,.int .u64 ash,.int .u64 asl,.bool ad6,.int .u64 0,.int .u64 0,.int .i64 0,.int .i64 0,.int .i64 sz]:=k3.set_ 17 _
 have k5:Blk ((((((w4.setCell ⟨g,13,none⟩ (.int .i64 apr)).setCell ⟨g,14,none⟩ (.bool as6)).setCell ⟨g,15,none⟩ (.int .u64 ash)).setCell ⟨g,16,none⟩ (.int .u64 asl)).setCell ⟨g,17,none⟩ (.bool ad6)).setCell ⟨g,18,none⟩ (.int .u64 adh)) g 53 #[.bool true,.int .i64 58,.bool s6,.int .u64 sh,.int .u64 sl,.bool d6,.int .u64 dh,.int .u64 dl,.int .i64 0,.int .i64 0,.int .i64 ttl,.int .i64 0,.bool true,.int .i64 apr,.bool as6,.int .u64 ash,.int .u64 asl,.bool ad6,.int .u64 adh,.int .u64 0,.int .i64 0,.int .i64 0,.int .i64 sz]:=k4.set_ 18 _
 have k6:Blk (((((((w4.setCell ⟨g,13,none⟩ (.int .i64 apr)).setCell ⟨g,14,none⟩ (.bool as6)).setCell ⟨g,15,none⟩ (.int .u64 ash)).setCell ⟨g,16,none⟩ (.int .u64 asl)).setCell ⟨g,17,none⟩ (.bool ad6)).setCell ⟨g,18,none⟩ (.int .u64 adh)).setCell ⟨g,19,none⟩ (.int .u64 adl)) g 53 #[.bool true,.int .i64 58,.bool s6,.int .u64 sh,.int .u64 sl,.bool d6,.int .u64 dh,.int .u64 dl,.int .i64 0,.int .i64 0,.int .i64 ttl,.int .i64 0,.bool true,.int .i64 apr,.bool as6,.int .u64 ash,.int .u64 asl,.bool ad6,.int .u64 adh,.int .u64 adl,.int .i64 0,.int .i64 0,.int .i64 sz]:=k5.set_ 19 _
 have k7:Blk ((((((((w4.setCell ⟨g,13,none⟩ (.int .i64 apr)).setCell ⟨g,14,none⟩ (.bool as6)).setCell ⟨g,15,none⟩ (.int .u64 ash)).setCell ⟨g,16,none⟩ (.int .u64 asl)).setCell ⟨g,17,none⟩ (.bool ad6)).setCell ⟨g,18,none⟩ (.int .u64 adh)).setCell ⟨g,19,none⟩ (.int .u64 adl)).setCell ⟨g,20,none⟩ (.int .i64 asp)) g 53 #[.bool true,.int .i64 58,.bool s6,.int .u64 sh,.int .u64 sl,.bool d6,.int .u64 dh,.int .u64 dl,.int .i64 0,.int .i64 0,.int .i64 ttl,.int .i64 0,.bool true,.int .i64 apr,.bool as6,.int .u64 ash,.int .u64 asl,.bool ad6,.int .u64 adh,.int .u64 adl,.int .i64 asp,.int .i64 0,.int .i64 sz]:=k6.set_ 20 _
 have k8:Blk (((((((((w4.setCell ⟨g,13,none⟩ (.int .i64 apr)).setCell ⟨g,14,none⟩ (.bool as6)).setCell ⟨g,15,none⟩ (.int .u64 ash)).setCell ⟨g,16,none⟩ (.int .u64 asl)).setCell ⟨g,17,none⟩ (.bool ad6)).setCell ⟨g,18,none⟩ (.int .u64 adh)).setCell ⟨g,19,none⟩ (.int .u64 adl)).setCell ⟨g,20,none⟩ (.int .i64 asp)).setCell ⟨g,21,none⟩ (.int .i64 adp)) g 53 #[.bool true,.int .i64 58,.bool s6,.int .u64 sh,.int .u64 sl,.bool d6,.int .u64 dh,.int .u64 dl,.int .i64 0,.int .i64 0,.int .i64 ttl,.int .i64 0,.bool true,.int .i64 apr,.bool as6,.int .u64 ash,.int .u64 asl,.bool ad6,.int .u64 adh,.int .u64 adl,.int .i64 asp,.int .i64 adp,.int .i64 sz]:=k7.set_ 21 _
 obtain ⟨w5,hw5⟩:∃ w5,w5=(((((((((w4.setCell ⟨g,13,none⟩ (.int .i64 apr)).setCell ⟨g,14,none⟩ (.bool as6)).setCell ⟨g,15,none⟩ (.int .u64 ash)).setCell ⟨g,16,none⟩ (.int .u64 asl)).setCell ⟨g,17,none⟩ (.bool ad6)).setCell ⟨g,18,none⟩ (.int .u64 adh)).setCell ⟨g,19,none⟩ (.int .u64 adl)).setCell ⟨g,20,none⟩ (.int .i64 asp)).setCell ⟨g,21,none⟩ (.int .i64 adp)):=⟨_,rfl⟩
 have E5:=Lib.hid hw5
 have OG5:=Lib.hid (show OnlyG g w4 w5 from by rw [hw5]; exact ((((((((((OnlyG.refl g w4).set 13 (.int .i64 apr)).set 14 (.bool as6)).set 15 (.int .u64 ash)).set 16 (.int .u64 asl)).set 17 (.bool ad6)).set 18 (.int .u64 adh)).set 19 (.int .u64 adl)).set 20 (.int .i64 asp)).set 21 (.int .i64 adp)))
 have KP5:=Lib.hid (show Blk w5 g 53 #[.bool true,.int .i64 58,.bool s6,.int .u64 sh,.int .u64 sl,.bool d6,.int .u64 dh,.int .u64 dl,.int .i64 0,.int .i64 0,.int .i64 ttl,.int .i64 0,.bool true,.int .i64 apr,.bool as6,.int .u64 ash,.int .u64 asl,.bool ad6,.int .u64 adh,.int .u64 adl,.int .i64 asp,.int .i64 adp,.int .i64 sz] from by rw [hw5]; exact k8)
 have KQ5:=Lib.hid (OG5.out.blk KQ4.out (Ne.symm NE.out))
 have B5:=Lib.hid (OG5.out.from B4.out (by have:=EG.out; omega))
 clear hw5 k0 k1 k2 k3 k4 k5 k6 k7 k8
 go_upto_region 14 with fail
 rw [← E5.out]
 clear y13 z13 y14 z14 y15 z15 y16 z16 y17 z17 y18 z18 y19 z19 y20 z20 y21 z21
 go_wp2_with (first
  | (refine wpList_load_row rfl 53 _ rfl g rfl 53 #[.bool true,.int .i64 58,.bool s6,.int .u64 sh,.int .u64 sl,.bool d6,.int .u64 dh,.int .u64 dl,.int .i64 0,.int .i64 0,.int .i64 ttl,.int .i64 0,.bool true,.int .i64 apr,.bool as6,.int .u64 ash,.int .u64 asl,.bool ad6,.int .u64 adh,.int .u64 adl,.int .i64 asp,.int .i64 adp,.int .i64 sz] (0,0) _ KP5.out Try.underlying53 rfl HI.out ?_)
  | (refine wpList_store_row rfl 53 _ _ rfl q #[.bool true,.int .i64 58,.bool s6,.int .u64 sh,.int .u64 sl,.bool d6,.int .u64 dh,.int .u64 dl,.int .i64 0,.int .i64 0,.int .i64 ttl,.int .i64 0,.bool true,.int .i64 apr,.bool as6,.int .u64 ash,.int .u64 asl,.bool ad6,.int .u64 adh,.int .u64 adl,.int .i64 asp,.int .i64 adp,.int .i64 sz] rfl rfl 53 #[.bool false,.int .i64 0,.bool false,.int .u64 0,.int .u64 0,.bool false,.int .u64 0,.int .u64 0,.int .i64 0,.int .i64 0,.int .i64 0,.int .i64 0,.bool false,.int .i64 0,.bool false,.int .u64 0,.int .u64 0,.bool false,.int .u64 0,.int .u64 0,.int .i64 0,.int .i64 0,.int .i64 0] KQ5.out HI.out rfl (by kernel_rfl) ?_))
 refine bodyPost_ret (results_pk rfl _ _ q #[.bool true,.int .i64 58,.bool s6,.int .u64 sh,.int .u64 sl,.bool d6,.int .u64 dh,.int .u64 dl,.int .i64 0,.int .i64 0,.int .i64 ttl,.int .i64 0,.bool true,.int .i64 apr,.bool as6,.int .u64 ash,.int .u64 asl,.bool ad6,.int .u64 adh,.int .u64 adl,.int .i64 asp,.int .i64 adp,.int .i64 sz] rfl (blkRow KQ5.out _) rfl) rfl ?_
 exact ⟨rfl,(onlyRow _).from B5.out (by have:=EQ.out; omega)⟩
end Go.Proofs.Ytnofddbfogilaaa.pktD
