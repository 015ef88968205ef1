/- 1 texts in one. -/
import Derived.Deep.RegionHeld3
import Derived.Deep.WholeRow
import Derived.Test.YtnofddbfogilaaaGq13
import Derived.Test.YtnofddbfogilaaaGq20
/- Layer 13: parse4, parse6. -/
namespace Go.Proofs.Ytnofddbfogilaaa.pktF
set_option maxHeartbeats 8000000
set_option maxRecDepth 100000
open Go.ChangeShapes Go.WideShapes Go.ChangeAt Go.RowKit
open base rdrA rdrG sumB sixM pktA pktB pktC pktD pktE sixE
set_option linter.unusedVariables false
theorem below_dr {w2 w3:World} (h:Below w2.drew.heap.size w2.drew w3):Below w2.heap.size w2 w3:=(Below.refl w2.heap.size w2).drew.trans h
theorem below_al {w2 w3:World} {o:Obj} (h:Below (w2.alloc o).drew.heap.size (w2.alloc o).drew w3):Below w2.heap.size w2 w3:=(((Below.refl w2.heap.size w2).alloc (Nat.le_refl _) o).drew).trans (h.mono (by simp))
theorem zeroPkI:(Try.prog.info? 53).map (fun i=>(i.zero,i.size))=some (some (.agg #[.bool false,.int .i64 0,.bool false,.int .u64 0,.int .u64 0,.bool false,.int .u64 0,.int .u64 0,.int .i64 0,.int .i64 0,.int .i64 0,.int .i64 0,.bool false,.int .i64 0,.bool false,.int .u64 0,.int .u64 0,.bool false,.int .u64 0,.int .u64 0,.int .i64 0,.int .i64 0,.int .i64 0]),23):=by kernel_rfl
theorem store_pk (W:World) (q:Nat) (old cs:Array Value) (h:Blk W q 53 old) (ho:old.size=23) (hc:cs.size=23) (h1:∀ u ∈ cs.toList,u.oneCell'=true):(storeCells ⟨q,0,none⟩ cs.toList).run Try.prog W=.ok () (W.setRow q cs):=by
 have:=run_storeCells_from (P:=Try.prog) q 53 cs.toList 0 old W h (by simp; omega) h1
 simpa [hc,ho] using this
theorem parse4_fail (A:Option Addr) (n c:Nat) (e:Int) (he:e≠0) (w:World)
  (HC:Hid (∀ V,Below w.heap.size w V→Calls Try.prog 44 #[.slice A n c] V fun o w'=>o=.returned (.tuple #[.agg #[.int .i64 0,.int .i64 0,.bool false,.bool false,.int .i64 0,.int .i64 0,.int .i64 0,.bool false,.int .u64 0,.int .u64 0,.bool false,.int .u64 0,.int .u64 0,.slice none 0 0],.slice none 0 0,.int .i64 e])∧Below V.heap.size V w')) :
  Calls Try.prog 31 #[.slice A n c] w fun o w'=>o=.returned (.tuple #[.agg #[.bool false,.int .i64 0,.bool false,.int .u64 0,.int .u64 0,.bool false,.int .u64 0,.int .u64 0,.int .i64 0,.int .i64 0,.int .i64 0,.int .i64 0,.bool false,.int .i64 0,.bool false,.int .u64 0,.int .u64 0,.bool false,.int .u64 0,.int .u64 0,.int .i64 0,.int .i64 0,.int .i64 0],.int .i64 e])∧Below w.heap.size w w':=by
 have te:(e != 0)=true:=by simpa using he
 clear he
 obtain ⟨w1,hw1⟩:∃ w1,w1=w.alloc (.cells #[.bool false,.int .i64 0,.bool false,.int .u64 0,.int .u64 0,.bool false,.int .u64 0,.int .u64 0,.int .i64 0,.int .i64 0,.int .i64 0,.int .i64 0,.bool false,.int .i64 0,.bool false,.int .u64 0,.int .u64 0,.bool false,.int .u64 0,.int .u64 0,.int .i64 0,.int .i64 0,.int .i64 0] 53):=⟨_,rfl⟩
 have E1:=Lib.hid hw1
 have B1:=Lib.hid (show Below w.heap.size w w1 from by rw [hw1]; exact (Below.refl _ _).alloc (Nat.le_refl _) _)
 obtain ⟨q,hq⟩:∃ q,q=w.heap.size:=⟨_,rfl⟩
 have EQ:=Lib.hid hq
 have KQ:=Lib.hid (show Blk w1 q 53 #[.bool false,.int .i64 0,.bool false,.int .u64 0,.int .u64 0,.bool false,.int .u64 0,.int .u64 0,.int .i64 0,.int .i64 0,.int .i64 0,.int .i64 0,.bool false,.int .i64 0,.bool false,.int .u64 0,.int .u64 0,.bool false,.int .u64 0,.int .u64 0,.int .i64 0,.int .i64 0,.int .i64 0] from by rw [hw1,hq]; exact Blk.new w _ _)
 have HI:=Lib.hid pk_size
 clear hw1 hq
 go_enter Try.func31,Try.ntmps31
 go_upto_region 1 with fail
 rw [← E1.out,← EQ.out]
 go_wp2_with fail
 refine (HC.out _ B1.out).mono ?_
 rintro o w2 ⟨rfl,hb2⟩
 obtain ⟨w3,hw3⟩:∃ w3,w3=w2.alloc (.cells #[.int .i64 0,.int .i64 0,.bool false,.bool false,.int .i64 0,.int .i64 0,.int .i64 0,.bool false,.int .u64 0,.int .u64 0,.bool false,.int .u64 0,.int .u64 0,.slice none 0 0] 82):=⟨_,rfl⟩
 have E3:=Lib.hid hw3
 have B23:=Lib.hid (show Below w2.heap.size w2 w3 from by rw [hw3]; exact (Below.refl _ _).alloc (Nat.le_refl _) _)
 have B13:=Lib.hid (hb2.trans (B23.out.mono hb2.size))
 have KQ3:=Lib.hid (KQ.out.below B13.out KQ.out.lt)
 have B3:=Lib.hid (B1.out.trans (B13.out.mono B1.out.size))
 clear hw3 hb2
 go_upto_region 2 with fail
 rw [← E3.out]
 go_wp2_with (refine wpList_store_row rfl 53 _ _ rfl q #[.bool false,.int .i64 0,.bool false,.int .u64 0,.int .u64 0,.bool false,.int .u64 0,.int .u64 0,.int .i64 0,.int .i64 0,.int .i64 0,.int .i64 0,.bool false,.int .i64 0,.bool false,.int .u64 0,.int .u64 0,.bool false,.int .u64 0,.int .u64 0,.int .i64 0,.int .i64 0,.int .i64 0] rfl rfl 53 #[.bool false,.int .i64 0,.bool false,.int .u64 0,.int .u64 0,.bool false,.int .u64 0,.int .u64 0,.int .i64 0,.int .i64 0,.int .i64 0,.int .i64 0,.bool false,.int .i64 0,.bool false,.int .u64 0,.int .u64 0,.bool false,.int .u64 0,.int .u64 0,.int .i64 0,.int .i64 0,.int .i64 0] KQ3.out HI.out rfl (by kernel_rfl) ?_)
 refine bodyPost_ret (results_pk rfl _ _ q #[.bool false,.int .i64 0,.bool false,.int .u64 0,.int .u64 0,.bool false,.int .u64 0,.int .u64 0,.int .i64 0,.int .i64 0,.int .i64 0,.int .i64 0,.bool false,.int .i64 0,.bool false,.int .u64 0,.int .u64 0,.bool false,.int .u64 0,.int .u64 0,.int .i64 0,.int .i64 0,.int .i64 0] rfl (blkRow KQ3.out _) rfl) rfl ?_
 exact ⟨rfl,(onlyRow _).from B3.out (by have:=EQ.out; omega)⟩
theorem parse6_fail (A:Option Addr) (n c:Nat) (e:Int) (he:e≠0) (w:World)
  (HC:Hid (∀ V,Below w.heap.size w V→Calls Try.prog 47 #[.slice A n c] V fun o w'=>o=.returned (.tuple #[.agg #[.int .i64 0,.int .i64 0,.int .i64 0,.bool false,.int .u64 0,.int .u64 0,.bool false,.int .u64 0,.int .u64 0,.slice none 0 0,.int .i64 0],.slice none 0 0,.int .i64 e])∧Below V.heap.size V w')) :
  Calls Try.prog 32 #[.slice A n c] w fun o w'=>o=.returned (.tuple #[.agg #[.bool false,.int .i64 0,.bool false,.int .u64 0,.int .u64 0,.bool false,.int .u64 0,.int .u64 0,.int .i64 0,.int .i64 0,.int .i64 0,.int .i64 0,.bool false,.int .i64 0,.bool false,.int .u64 0,.int .u64 0,.bool false,.int .u64 0,.int .u64 0,.int .i64 0,.int .i64 0,.int .i64 0],.int .i64 e])∧Below w.heap.size w w':=by
 have te:(e != 0)=true:=by simpa using he
 clear he
 obtain ⟨w1,hw1⟩:∃ w1,w1=w.alloc (.cells #[.bool false,.int .i64 0,.bool false,.int .u64 0,.int .u64 0,.bool false,.int .u64 0,.int .u64 0,.int .i64 0,.int .i64 0,.int .i64 0,.int .i64 0,.bool false,.int .i64 0,.bool false,.int .u64 0,.int .u64 0,.bool false,.int .u64 0,.int .u64 0,.int .i64 0,.int .i64 0,.int .i64 0] 53):=⟨_,rfl⟩
 have E1:=Lib.hid hw1
 have B1:=Lib.hid (show Below w.heap.size w w1 from by rw [hw1]; exact (Below.refl _ _).alloc (Nat.le_refl _) _)
 obtain ⟨q,hq⟩:∃ q,q=w.heap.size:=⟨_,rfl⟩
 have EQ:=Lib.hid hq
 have KQ:=Lib.hid (show Blk w1 q 53 #[.bool false,.int .i64 0,.bool false,.int .u64 0,.int .u64 0,.bool false,.int .u64 0,.int .u64 0,.int .i64 0,.int .i64 0,.int .i64 0,.int .i64 0,.bool false,.int .i64 0,.bool false,.int .u64 0,.int .u64 0,.bool false,.int .u64 0,.int .u64 0,.int .i64 0,.int .i64 0,.int .i64 0] from by rw [hw1,hq]; exact Blk.new w _ _)
 have HI:=Lib.hid pk_size
 clear hw1 hq
 go_enter Try.func32,Try.ntmps32
 go_upto_region 1 with fail
 rw [← E1.out,← EQ.out]
 go_wp2_with fail
 refine (HC.out _ B1.out).mono ?_
 rintro o w2 ⟨rfl,hb2⟩
 obtain ⟨w3,hw3⟩:∃ w3,w3=w2.alloc (.cells #[.int .i64 0,.int .i64 0,.int .i64 0,.bool false,.int .u64 0,.int .u64 0,.bool false,.int .u64 0,.int .u64 0,.slice none 0 0,.int .i64 0] 87):=⟨_,rfl⟩
 have E3:=Lib.hid hw3
 have B23:=Lib.hid (show Below w2.heap.size w2 w3 from by rw [hw3]; exact (Below.refl _ _).alloc (Nat.le_refl _) _)
 have B13:=Lib.hid (hb2.trans (B23.out.mono hb2.size))
 have KQ3:=Lib.hid (KQ.out.below B13.out KQ.out.lt)
 have B3:=Lib.hid (B1.out.trans (B13.out.mono B1.out.size))
 clear hw3 hb2
 go_upto_region 2 with fail
 rw [← E3.out]
 go_wp2_with (refine wpList_store_row rfl 53 _ _ rfl q #[.bool false,.int .i64 0,.bool false,.int .u64 0,.int .u64 0,.bool false,.int .u64 0,.int .u64 0,.int .i64 0,.int .i64 0,.int .i64 0,.int .i64 0,.bool false,.int .i64 0,.bool false,.int .u64 0,.int .u64 0,.bool false,.int .u64 0,.int .u64 0,.int .i64 0,.int .i64 0,.int .i64 0] rfl rfl 53 #[.bool false,.int .i64 0,.bool false,.int .u64 0,.int .u64 0,.bool false,.int .u64 0,.int .u64 0,.int .i64 0,.int .i64 0,.int .i64 0,.int .i64 0,.bool false,.int .i64 0,.bool false,.int .u64 0,.int .u64 0,.bool false,.int .u64 0,.int .u64 0,.int .i64 0,.int .i64 0,.int .i64 0] KQ3.out HI.out rfl (by kernel_rfl) ?_)
 refine bodyPost_ret (results_pk rfl _ _ q #[.bool false,.int .i64 0,.bool false,.int .u64 0,.int .u64 0,.bool false,.int .u64 0,.int .u64 0,.int .i64 0,.int .i64 0,.int .i64 0,.int .i64 0,.bool false,.int .i64 0,.bool false,.int .u64 0,.int .u64 0,.bool false,.int .u64 0,.int .u64 0,.int .i64 0,.int .i64 0,.int .i64 0] rfl (blkRow KQ3.out _) rfl) rfl ?_
 exact ⟨rfl,(onlyRow _).from B3.out (by have:=EQ.out; omega)⟩
theorem parse4_frag (A:Option Addr) (n c:Nat) (mf:Bool) (fr ttl pr sl dl:Int) (no:Nat) (r:List Int) (hr:r.length≤1000) (hf:fr≠0∨mf=true) (w:World)
  (HC:Hid (∀ V,Below w.heap.size w V→Calls Try.prog 44 #[.slice A n c] V fun o w'=>Below V.heap.size V w'∧∃ (tos id:Int) (df:Bool) (AO:Option Addr) (co:Nat) (AR:Option Addr) (cr:Nat),o=.returned (.tuple #[.agg #[.int .i64 tos,.int .i64 id,.bool df,.bool mf,.int .i64 fr,.int .i64 ttl,.int .i64 pr,.bool false,.int .u64 0,.int .u64 sl,.bool false,.int .u64 0,.int .u64 dl,.slice AO no co],.slice AR r.length cr,.int .i64 0])∧Sl w' AR r.length cr r)) :
  Calls Try.prog 31 #[.slice A n c] w fun o w'=>o=.returned (.tuple #[.agg #[.bool false,.int .i64 0,.bool false,.int .u64 0,.int .u64 0,.bool false,.int .u64 0,.int .u64 0,.int .i64 0,.int .i64 0,.int .i64 0,.int .i64 0,.bool false,.int .i64 0,.bool false,.int .u64 0,.int .u64 0,.bool false,.int .u64 0,.int .u64 0,.int .i64 0,.int .i64 0,.int .i64 0],.int .i64 21])∧Below w.heap.size w w':=by
 obtain ⟨m,hm0⟩:∃ m,m=r.length:=⟨_,rfl⟩
 rw [← hm0] at HC hr
 clear hm0
 obtain ⟨w1,hw1⟩:∃ w1,w1=w.alloc (.cells #[.bool false,.int .i64 0,.bool false,.int .u64 0,.int .u64 0,.bool false,.int .u64 0,.int .u64 0,.int .i64 0,.int .i64 0,.int .i64 0,.int .i64 0,.bool false,.int .i64 0,.bool false,.int .u64 0,.int .u64 0,.bool false,.int .u64 0,.int .u64 0,.int .i64 0,.int .i64 0,.int .i64 0] 53):=⟨_,rfl⟩
 have E1:=Lib.hid hw1
 have B1:=Lib.hid (show Below w.heap.size w w1 from by rw [hw1]; exact (Below.refl _ _).alloc (Nat.le_refl _) _)
 obtain ⟨q,hq⟩:∃ q,q=w.heap.size:=⟨_,rfl⟩
 have EQ:=Lib.hid hq
 have KQ:=Lib.hid (show Blk w1 q 53 #[.bool false,.int .i64 0,.bool false,.int .u64 0,.int .u64 0,.bool false,.int .u64 0,.int .u64 0,.int .i64 0,.int .i64 0,.int .i64 0,.int .i64 0,.bool false,.int .i64 0,.bool false,.int .u64 0,.int .u64 0,.bool false,.int .u64 0,.int .u64 0,.int .i64 0,.int .i64 0,.int .i64 0] from by rw [hw1,hq]; exact Blk.new w _ _)
 have HI:=Lib.hid pk_size
 clear hw1 hq
 go_enter Try.func31,Try.ntmps31
 go_upto_region 1 with fail
 rw [← E1.out,← EQ.out]
 go_wp2_with fail
 refine (HC.out _ B1.out).mono ?_
 rintro o w2 ⟨hb2,tos,id,df,AO,co,AR,cr,rfl,hsl⟩
 obtain ⟨w3,hw3⟩:∃ w3,w3=w2.alloc (.cells #[.int .i64 tos,.int .i64 id,.bool df,.bool mf,.int .i64 fr,.int .i64 ttl,.int .i64 pr,.bool false,.int .u64 0,.int .u64 sl,.bool false,.int .u64 0,.int .u64 dl,.slice AO no co] 82):=⟨_,rfl⟩
 obtain ⟨h,hh⟩:∃ h,h=w2.heap.size:=⟨_,rfl⟩
 have EH:=Lib.hid hh
 have E3:=Lib.hid hw3
 have B23:=Lib.hid (show Below w2.heap.size w2 w3 from by rw [hw3]; exact (Below.refl _ _).alloc (Nat.le_refl _) _)
 have B13:=Lib.hid (hb2.trans (B23.out.mono hb2.size))
 have KH3:=Lib.hid (show Blk w3 h 82 #[.int .i64 tos,.int .i64 id,.bool df,.bool mf,.int .i64 fr,.int .i64 ttl,.int .i64 pr,.bool false,.int .u64 0,.int .u64 sl,.bool false,.int .u64 0,.int .u64 dl,.slice AO no co] from by rw [hw3,hh]; exact Blk.new w2 _ _)
 have KQ3:=Lib.hid (KQ.out.below B13.out KQ.out.lt)
 have B3:=Lib.hid (B1.out.trans (B13.out.mono B1.out.size))
 have SL3:=Lib.hid (hsl.below B23.out)
 have QH:=Lib.hid (show q<h from by have:=KQ.out.lt; have:=hb2.size; omega)
 clear hw3 hb2 hh hsl
 go_upto_region 2 with fail
 rw [← E3.out,← EH.out]
 have k4:=KH3.out.cell 4
 have k3:=KH3.out.cell 3
 rcases hf with hf | rfl
 ·have tf:(fr != 0)=true:=by simpa using hf
  clear hf
  go_wp2_with (refine wpList_store_row rfl 53 _ _ rfl q #[.bool false,.int .i64 0,.bool false,.int .u64 0,.int .u64 0,.bool false,.int .u64 0,.int .u64 0,.int .i64 0,.int .i64 0,.int .i64 0,.int .i64 0,.bool false,.int .i64 0,.bool false,.int .u64 0,.int .u64 0,.bool false,.int .u64 0,.int .u64 0,.int .i64 0,.int .i64 0,.int .i64 0] rfl rfl 53 #[.bool false,.int .i64 0,.bool false,.int .u64 0,.int .u64 0,.bool false,.int .u64 0,.int .u64 0,.int .i64 0,.int .i64 0,.int .i64 0,.int .i64 0,.bool false,.int .i64 0,.bool false,.int .u64 0,.int .u64 0,.bool false,.int .u64 0,.int .u64 0,.int .i64 0,.int .i64 0,.int .i64 0] KQ3.out HI.out rfl (by kernel_rfl) ?_)
  refine bodyPost_ret (results_pk rfl _ _ q #[.bool false,.int .i64 0,.bool false,.int .u64 0,.int .u64 0,.bool false,.int .u64 0,.int .u64 0,.int .i64 0,.int .i64 0,.int .i64 0,.int .i64 0,.bool false,.int .i64 0,.bool false,.int .u64 0,.int .u64 0,.bool false,.int .u64 0,.int .u64 0,.int .i64 0,.int .i64 0,.int .i64 0] rfl (blkRow KQ3.out _) rfl) rfl ?_
  exact ⟨rfl,(onlyRow _).from B3.out (by have:=EQ.out; omega)⟩
 ·cases tf:(fr != 0)
  ·go_wp2_with (refine wpList_store_row rfl 53 _ _ rfl q #[.bool false,.int .i64 0,.bool false,.int .u64 0,.int .u64 0,.bool false,.int .u64 0,.int .u64 0,.int .i64 0,.int .i64 0,.int .i64 0,.int .i64 0,.bool false,.int .i64 0,.bool false,.int .u64 0,.int .u64 0,.bool false,.int .u64 0,.int .u64 0,.int .i64 0,.int .i64 0,.int .i64 0] rfl rfl 53 #[.bool false,.int .i64 0,.bool false,.int .u64 0,.int .u64 0,.bool false,.int .u64 0,.int .u64 0,.int .i64 0,.int .i64 0,.int .i64 0,.int .i64 0,.bool false,.int .i64 0,.bool false,.int .u64 0,.int .u64 0,.bool false,.int .u64 0,.int .u64 0,.int .i64 0,.int .i64 0,.int .i64 0] KQ3.out HI.out rfl (by kernel_rfl) ?_)
   refine bodyPost_ret (results_pk rfl _ _ q #[.bool false,.int .i64 0,.bool false,.int .u64 0,.int .u64 0,.bool false,.int .u64 0,.int .u64 0,.int .i64 0,.int .i64 0,.int .i64 0,.int .i64 0,.bool false,.int .i64 0,.bool false,.int .u64 0,.int .u64 0,.bool false,.int .u64 0,.int .u64 0,.int .i64 0,.int .i64 0,.int .i64 0] rfl (blkRow KQ3.out _) rfl) rfl ?_
   exact ⟨rfl,(onlyRow _).from B3.out (by have:=EQ.out; omega)⟩
  ·go_wp2_with (refine wpList_store_row rfl 53 _ _ rfl q #[.bool false,.int .i64 0,.bool false,.int .u64 0,.int .u64 0,.bool false,.int .u64 0,.int .u64 0,.int .i64 0,.int .i64 0,.int .i64 0,.int .i64 0,.bool false,.int .i64 0,.bool false,.int .u64 0,.int .u64 0,.bool false,.int .u64 0,.int .u64 0,.int .i64 0,.int .i64 0,.int .i64 0] rfl rfl 53 #[.bool false,.int .i64 0,.bool false,.int .u64 0,.int .u64 0,.bool false,.int .u64 0,.int .u64 0,.int .i64 0,.int .i64 0,.int .i64 0,.int .i64 0,.bool false,.int .i64 0,.bool false,.int .u64 0,.int .u64 0,.bool false,.int .u64 0,.int .u64 0,.int .i64 0,.int .i64 0,.int .i64 0] KQ3.out HI.out rfl (by kernel_rfl) ?_)
   refine bodyPost_ret (results_pk rfl _ _ q #[.bool false,.int .i64 0,.bool false,.int .u64 0,.int .u64 0,.bool false,.int .u64 0,.int .u64 0,.int .i64 0,.int .i64 0,.int .i64 0,.int .i64 0,.bool false,.int .i64 0,.bool false,.int .u64 0,.int .u64 0,.bool false,.int .u64 0,.int .u64 0,.int .i64 0,.int .i64 0,.int .i64 0] rfl (blkRow KQ3.out _) rfl) rfl ?_
   exact ⟨rfl,(onlyRow _).from B3.out (by have:=EQ.out; omega)⟩
theorem parse6_frag (A:Option Addr) (n c:Nat) (ttl:Int) (s6:Bool) (sh sl:Int) (d6:Bool) (dh dl:Int) (pr:Int) (r:List Int) (hr:r.length≤1000) (fr:Int) (mf:Bool) (xl:Nat) (hf:fr≠0∨mf=true) (w:World)
  (HC:Hid (∀ V,Below w.heap.size w V→Calls Try.prog 47 #[.slice A n c] V fun o w'=>Below V.heap.size V w'∧∃ (AX:Option Addr) (nx cx:Nat) (cls lab:Int) (AR:Option Addr) (cr:Nat),o=.returned (.tuple #[.agg #[.int .i64 cls,.int .i64 lab,.int .i64 ttl,.bool s6,.int .u64 sh,.int .u64 sl,.bool d6,.int .u64 dh,.int .u64 dl,.slice AX nx cx,.int .i64 pr],.slice AR r.length cr,.int .i64 0])∧Sl w' AR r.length cr r
   ∧(∀ V2,Below w'.heap.size w' V2→Calls Try.prog 48 #[.agg #[.int .i64 cls,.int .i64 lab,.int .i64 ttl,.bool s6,.int .u64 sh,.int .u64 sl,.bool d6,.int .u64 dh,.int .u64 dl,.slice AX nx cx,.int .i64 pr]] V2 fun o w'=>o=.returned (.int .i64 fr)∧Below V2.heap.size V2 w')∧(∀ V2,Below w'.heap.size w' V2→Calls Try.prog 49 #[.agg #[.int .i64 cls,.int .i64 lab,.int .i64 ttl,.bool s6,.int .u64 sh,.int .u64 sl,.bool d6,.int .u64 dh,.int .u64 dl,.slice AX nx cx,.int .i64 pr]] V2 fun o w'=>o=.returned (.bool mf)∧Below V2.heap.size V2 w')∧(∀ V2,Below w'.heap.size w' V2→Calls Try.prog 50 #[.agg #[.int .i64 cls,.int .i64 lab,.int .i64 ttl,.bool s6,.int .u64 sh,.int .u64 sl,.bool d6,.int .u64 dh,.int .u64 dl,.slice AX nx cx,.int .i64 pr]] V2 fun o w'=>o=.returned (.int .i64 (40+xl:Nat))∧Below V2.heap.size V2 w'))) :
  Calls Try.prog 32 #[.slice A n c] w fun o w'=>o=.returned (.tuple #[.agg #[.bool false,.int .i64 0,.bool false,.int .u64 0,.int .u64 0,.bool false,.int .u64 0,.int .u64 0,.int .i64 0,.int .i64 0,.int .i64 0,.int .i64 0,.bool false,.int .i64 0,.bool false,.int .u64 0,.int .u64 0,.bool false,.int .u64 0,.int .u64 0,.int .i64 0,.int .i64 0,.int .i64 0],.int .i64 21])∧Below w.heap.size w w':=by
 obtain ⟨m,hm0⟩:∃ m,m=r.length:=⟨_,rfl⟩
 rw [← hm0] at HC hr
 clear hm0
 obtain ⟨w1,hw1⟩:∃ w1,w1=w.alloc (.cells #[.bool false,.int .i64 0,.bool false,.int .u64 0,.int .u64 0,.bool false,.int .u64 0,.int .u64 0,.int .i64 0,.int .i64 0,.int .i64 0,.int .i64 0,.bool false,.int .i64 0,.bool false,.int .u64 0,.int .u64 0,.bool false,.int .u64 0,.int .u64 0,.int .i64 0,.int .i64 0,.int .i64 0] 53):=⟨_,rfl⟩
 have E1:=Lib.hid hw1
 have B1:=Lib.hid (show Below w.heap.size w w1 from by rw [hw1]; exact (Below.refl _ _).alloc (Nat.le_refl _) _)
 obtain ⟨q,hq⟩:∃ q,q=w.heap.size:=⟨_,rfl⟩
 have EQ:=Lib.hid hq
 have KQ:=Lib.hid (show Blk w1 q 53 #[.bool false,.int .i64 0,.bool false,.int .u64 0,.int .u64 0,.bool false,.int .u64 0,.int .u64 0,.int .i64 0,.int .i64 0,.int .i64 0,.int .i64 0,.bool false,.int .i64 0,.bool false,.int .u64 0,.int .u64 0,.bool false,.int .u64 0,.int .u64 0,.int .i64 0,.int .i64 0,.int .i64 0] from by rw [hw1,hq]; exact Blk.new w _ _)
 have HI:=Lib.hid pk_size
 clear hw1 hq
 go_enter Try.func32,Try.ntmps32
 go_upto_region 1 with fail
 rw [← E1.out,← EQ.out]
 go_wp2_with fail
 refine (HC.out _ B1.out).mono ?_
 rintro o w2 ⟨hb2,AX,nx,cx,cls,lab,AR,cr,rfl,hsl,hfg,hmo,hle⟩
 obtain ⟨w3,hw3⟩:∃ w3,w3=w2.alloc (.cells #[.int .i64 cls,.int .i64 lab,.int .i64 ttl,.bool s6,.int .u64 sh,.int .u64 sl,.bool d6,.int .u64 dh,.int .u64 dl,.slice AX nx cx,.int .i64 pr] 87):=⟨_,rfl⟩
 obtain ⟨h,hh⟩:∃ h,h=w2.heap.size:=⟨_,rfl⟩
 have EH:=Lib.hid hh
 have E3:=Lib.hid hw3
 have B23:=Lib.hid (show Below w2.heap.size w2 w3 from by rw [hw3]; exact (Below.refl _ _).alloc (Nat.le_refl _) _)
 have B13:=Lib.hid (hb2.trans (B23.out.mono hb2.size))
 have KH3:=Lib.hid (show Blk w3 h 87 #[.int .i64 cls,.int .i64 lab,.int .i64 ttl,.bool s6,.int .u64 sh,.int .u64 sl,.bool d6,.int .u64 dh,.int .u64 dl,.slice AX nx cx,.int .i64 pr] from by rw [hw3,hh]; exact Blk.new w2 _ _)
 have KQ3:=Lib.hid (KQ.out.below B13.out KQ.out.lt)
 have B3:=Lib.hid (B1.out.trans (B13.out.mono B1.out.size))
 have SL3:=Lib.hid (hsl.below B23.out)
 have QH:=Lib.hid (show q<h from by have:=KQ.out.lt; have:=hb2.size; omega)
 have HFG:=Lib.hid hfg
 have HMO:=Lib.hid hmo
 have HLE:=Lib.hid hle
 clear hw3 hb2 hh hsl hfg hmo hle
 go_upto_region 2 with fail
 rw [← E3.out,← EH.out]
 have k0:=KH3.out.cell 0
 have k1:=KH3.out.cell 1
 have k2:=KH3.out.cell 2
 have k3:=KH3.out.cell 3
 have k4:=KH3.out.cell 4
 have k5:=KH3.out.cell 5
 have k6:=KH3.out.cell 6
 have k7:=KH3.out.cell 7
 have k8:=KH3.out.cell 8
 have k9:=KH3.out.cell 9
 have k10:=KH3.out.cell 10
 go_wp2_with fail
 refine (HFG.out w3 B23.out).mono ?_
 rintro o w3b ⟨rfl,hb⟩
 have B24:=Lib.hid (B23.out.trans (hb.mono B23.out.size))
 have KH3b:=Lib.hid (KH3.out.below hb KH3.out.lt)
 have KQ3b:=Lib.hid (KQ3.out.below hb KQ3.out.lt)
 have B3b:=Lib.hid (B3.out.trans (hb.mono B3.out.size))
 have SL3b:=Lib.hid (SL3.out.below hb)
 clear hb k0 k1 k2 k3 k4 k5 k6 k7 k8 k9 k10
 have k0:=KH3b.out.cell 0
 have k1:=KH3b.out.cell 1
 have k2:=KH3b.out.cell 2
 have k3:=KH3b.out.cell 3
 have k4:=KH3b.out.cell 4
 have k5:=KH3b.out.cell 5
 have k6:=KH3b.out.cell 6
 have k7:=KH3b.out.cell 7
 have k8:=KH3b.out.cell 8
 have k9:=KH3b.out.cell 9
 have k10:=KH3b.out.cell 10
 rcases Classical.em (fr=0) with e0 | e0
 ·have tf:(fr != 0)=false:=by simpa using e0
  obtain rfl:mf=true:=by rcases hf with h | h; exact absurd e0 h; exact h
  clear e0 hf
  go_wp2_with fail
  refine (HMO.out w3b B24.out).mono ?_
  rintro o w3c ⟨rfl,hb⟩
  have KQ3c:=Lib.hid (KQ3b.out.below hb KQ3b.out.lt)
  have B3c:=Lib.hid (B3b.out.trans (hb.mono B3b.out.size))
  clear hb
  go_wp2_with (refine wpList_store_row rfl 53 _ _ rfl q #[.bool false,.int .i64 0,.bool false,.int .u64 0,.int .u64 0,.bool false,.int .u64 0,.int .u64 0,.int .i64 0,.int .i64 0,.int .i64 0,.int .i64 0,.bool false,.int .i64 0,.bool false,.int .u64 0,.int .u64 0,.bool false,.int .u64 0,.int .u64 0,.int .i64 0,.int .i64 0,.int .i64 0] rfl rfl 53 #[.bool false,.int .i64 0,.bool false,.int .u64 0,.int .u64 0,.bool false,.int .u64 0,.int .u64 0,.int .i64 0,.int .i64 0,.int .i64 0,.int .i64 0,.bool false,.int .i64 0,.bool false,.int .u64 0,.int .u64 0,.bool false,.int .u64 0,.int .u64 0,.int .i64 0,.int .i64 0,.int .i64 0] KQ3c.out HI.out rfl (by kernel_rfl) ?_)
  refine bodyPost_ret (results_pk rfl _ _ q #[.bool false,.int .i64 0,.bool false,.int .u64 0,.int .u64 0,.bool false,.int .u64 0,.int .u64 0,.int .i64 0,.int .i64 0,.int .i64 0,.int .i64 0,.bool false,.int .i64 0,.bool false,.int .u64 0,.int .u64 0,.bool false,.int .u64 0,.int .u64 0,.int .i64 0,.int .i64 0,.int .i64 0] rfl (blkRow KQ3c.out _) rfl) rfl ?_
  exact ⟨rfl,(onlyRow _).from B3c.out (by have:=EQ.out; omega)⟩
 ·have tf:(fr != 0)=true:=by simpa using e0
  clear e0 hf
  go_wp2_with (refine wpList_store_row rfl 53 _ _ rfl q #[.bool false,.int .i64 0,.bool false,.int .u64 0,.int .u64 0,.bool false,.int .u64 0,.int .u64 0,.int .i64 0,.int .i64 0,.int .i64 0,.int .i64 0,.bool false,.int .i64 0,.bool false,.int .u64 0,.int .u64 0,.bool false,.int .u64 0,.int .u64 0,.int .i64 0,.int .i64 0,.int .i64 0] rfl rfl 53 #[.bool false,.int .i64 0,.bool false,.int .u64 0,.int .u64 0,.bool false,.int .u64 0,.int .u64 0,.int .i64 0,.int .i64 0,.int .i64 0,.int .i64 0,.bool false,.int .i64 0,.bool false,.int .u64 0,.int .u64 0,.bool false,.int .u64 0,.int .u64 0,.int .i64 0,.int .i64 0,.int .i64 0] KQ3b.out HI.out rfl (by kernel_rfl) ?_)
  refine bodyPost_ret (results_pk rfl _ _ q #[.bool false,.int .i64 0,.bool false,.int .u64 0,.int .u64 0,.bool false,.int .u64 0,.int .u64 0,.int .i64 0,.int .i64 0,.int .i64 0,.int .i64 0,.bool false,.int .i64 0,.bool false,.int .u64 0,.int .u64 0,.bool false,.int .u64 0,.int .u64 0,.int .i64 0,.int .i64 0,.int .i64 0] rfl (blkRow KQ3b.out _) rfl) rfl ?_
  exact ⟨rfl,(onlyRow _).from B3b.out (by have:=EQ.out; omega)⟩
theorem parse4_ok (A:Option Addr) (n c:Nat) (mf:Bool) (fr ttl pr sl dl:Int) (no:Nat) (r:List Int) (hr:r.length≤1000) (hf:fr=0) (hm:mf=false) (hno:no≤1000) (P:Pk) (e sz:Int) (hsz:sz=(20+(no:Int)+(r.length:Int))) (w:World)
  (HC:Hid (∀ V,Below w.heap.size w V→Calls Try.prog 44 #[.slice A n c] V fun o w'=>Below V.heap.size V w'∧∃ (tos id:Int) (df:Bool) (AO:Option Addr) (co:Nat) (AR:Option Addr) (cr:Nat),o=.returned (.tuple #[.agg #[.int .i64 tos,.int .i64 id,.bool df,.bool mf,.int .i64 fr,.int .i64 ttl,.int .i64 pr,.bool false,.int .u64 0,.int .u64 sl,.bool false,.int .u64 0,.int .u64 dl,.slice AO no co],.slice AR r.length cr,.int .i64 0])∧Sl w' AR r.length cr r))
  (HW:Hid (∀ V A2 c2,Below w.heap.size w V→Sl V A2 r.length c2 r→Calls Try.prog 46 #[.agg #[.bool false,.int .i64 pr,.bool false,.int .u64 0,.int .u64 sl,.bool false,.int .u64 0,.int .u64 dl,.int .i64 0,.int .i64 0,.int .i64 ttl,.int .i64 0,.bool false,.int .i64 0,.bool false,.int .u64 0,.int .u64 0,.bool false,.int .u64 0,.int .u64 0,.int .i64 0,.int .i64 0,.int .i64 sz],.slice A2 r.length c2] V fun o w'=>o=.returned (.tuple #[.agg P.cells,.int .i64 e])∧Below V.heap.size V w')) :
  Calls Try.prog 31 #[.slice A n c] w fun o w'=>o=.returned (.tuple #[.agg P.cells,.int .i64 e])∧Below w.heap.size w w':=by
 obtain ⟨m,hm0⟩:∃ m,m=r.length:=⟨_,rfl⟩
 rw [← hm0] at HC hr HW hsz
 clear hm0
 subst hf
 subst hm
 obtain ⟨Z,hZ⟩:∃ Z:Array Value,Z=#[.bool false,.int .i64 0,.bool false,.int .u64 0,.int .u64 0,.bool false,.int .u64 0,.int .u64 0,.int .i64 0,.int .i64 0,.int .i64 0,.int .i64 0,.bool false,.int .i64 0,.bool false,.int .u64 0,.int .u64 0,.bool false,.int .u64 0,.int .u64 0,.int .i64 0,.int .i64 0,.int .i64 0]:=⟨_,rfl⟩
 have hz:∀ w:World,(zeroValue 53).run Try.prog w=.ok (.agg Z) w:=by rw [hZ]; exact (zero_of_info zeroPkI).1
 have zs:Z.size=23:=by rw [hZ]; rfl
 have zs2:¬ Z=#[]:=by intro h; rw [h] at zs; cases zs
 have ZS:=Lib.hid zs
 have HZ:=Lib.hid hZ
 clear hZ
 obtain ⟨w1,hw1⟩:∃ w1,w1=w.alloc (.cells Z 53):=⟨_,rfl⟩
 have E1:=Lib.hid hw1
 have B1:=Lib.hid (show Below w.heap.size w w1 from by rw [hw1]; exact (Below.refl _ _).alloc (Nat.le_refl _) _)
 obtain ⟨q,hq⟩:∃ q,q=w.heap.size:=⟨_,rfl⟩
 have EQ:=Lib.hid hq
 have KQ:=Lib.hid (show Blk w1 q 53 Z from by rw [hw1,hq]; exact Blk.new w _ _)
 have HI:=Lib.hid pk_size
 clear hw1 hq
 go_enter Try.func31,Try.ntmps31
 go_upto_region 1 with fail
 rw [← E1.out,← EQ.out]
 go_wp2_with fail
 refine (HC.out _ B1.out).mono ?_
 rintro o w2 ⟨hb2,tos,id,df,AO,co,AR,cr,rfl,hsl⟩
 obtain ⟨w3,hw3⟩:∃ w3,w3=w2.alloc (.cells #[.int .i64 tos,.int .i64 id,.bool df,.bool false,.int .i64 0,.int .i64 ttl,.int .i64 pr,.bool false,.int .u64 0,.int .u64 sl,.bool false,.int .u64 0,.int .u64 dl,.slice AO no co] 82):=⟨_,rfl⟩
 obtain ⟨h,hh⟩:∃ h,h=w2.heap.size:=⟨_,rfl⟩
 have EH:=Lib.hid hh
 have E3:=Lib.hid hw3
 have B23:=Lib.hid (show Below w2.heap.size w2 w3 from by rw [hw3]; exact (Below.refl _ _).alloc (Nat.le_refl _) _)
 have B13:=Lib.hid (hb2.trans (B23.out.mono hb2.size))
 have KH3:=Lib.hid (show Blk w3 h 82 #[.int .i64 tos,.int .i64 id,.bool df,.bool false,.int .i64 0,.int .i64 ttl,.int .i64 pr,.bool false,.int .u64 0,.int .u64 sl,.bool false,.int .u64 0,.int .u64 dl,.slice AO no co] from by rw [hw3,hh]; exact Blk.new w2 _ _)
 have KQ3:=Lib.hid (KQ.out.below B13.out KQ.out.lt)
 have B3:=Lib.hid (B1.out.trans (B13.out.mono B1.out.size))
 have SL3:=Lib.hid (hsl.below B23.out)
 have QH:=Lib.hid (show q<h from by have:=KQ.out.lt; have:=hb2.size; omega)
 clear hw3 hb2 hh hsl
 go_upto_region 2 with fail
 rw [← E3.out,← EH.out]
 have k0:=KH3.out.cell 0
 have k1:=KH3.out.cell 1
 have k2:=KH3.out.cell 2
 have k3:=KH3.out.cell 3
 have k4:=KH3.out.cell 4
 have k5:=KH3.out.cell 5
 have k6:=KH3.out.cell 6
 have k7:=KH3.out.cell 7
 have k8:=KH3.out.cell 8
 have k9:=KH3.out.cell 9
 have k10:=KH3.out.cell 10
 have k11:=KH3.out.cell 11
 have k12:=KH3.out.cell 12
 have k13:=KH3.out.cell 13
 have HSF:=Lib.hid (show ∀ V,Below w3.heap.size w3 V→(V.cell? ⟨h,0,none⟩=some (.int .i64 tos)∧V.cell? ⟨h,1,none⟩=some (.int .i64 id)∧V.cell? ⟨h,2,none⟩=some (.bool df)∧V.cell? ⟨h,3,none⟩=some (.bool false)∧V.cell? ⟨h,4,none⟩=some (.int .i64 0)∧V.cell? ⟨h,5,none⟩=some (.int .i64 ttl)∧V.cell? ⟨h,6,none⟩=some (.int .i64 pr)∧V.cell? ⟨h,7,none⟩=some (.bool false)∧V.cell? ⟨h,8,none⟩=some (.int .u64 0)∧V.cell? ⟨h,9,none⟩=some (.int .u64 sl)∧V.cell? ⟨h,10,none⟩=some (.bool false)∧V.cell? ⟨h,11,none⟩=some (.int .u64 0)∧V.cell? ⟨h,12,none⟩=some (.int .u64 dl)∧V.cell? ⟨h,13,none⟩=some (.slice AO no co)) from fun V hV=>⟨(KH3.out.below hV KH3.out.lt).cell 0,(KH3.out.below hV KH3.out.lt).cell 1,(KH3.out.below hV KH3.out.lt).cell 2,(KH3.out.below hV KH3.out.lt).cell 3,(KH3.out.below hV KH3.out.lt).cell 4,(KH3.out.below hV KH3.out.lt).cell 5,(KH3.out.below hV KH3.out.lt).cell 6,(KH3.out.below hV KH3.out.lt).cell 7,(KH3.out.below hV KH3.out.lt).cell 8,(KH3.out.below hV KH3.out.lt).cell 9,(KH3.out.below hV KH3.out.lt).cell 10,(KH3.out.below hV KH3.out.lt).cell 11,(KH3.out.below hV KH3.out.lt).cell 12,(KH3.out.below hV KH3.out.lt).cell 13⟩)
 have HLN:=Lib.hid (show ∀ V,Below w3.heap.size w3 V→Calls Try.prog 45 #[.agg #[.int .i64 tos,.int .i64 id,.bool df,.bool false,.int .i64 0,.int .i64 ttl,.int .i64 pr,.bool false,.int .u64 0,.int .u64 sl,.bool false,.int .u64 0,.int .u64 dl,.slice AO no co]] V fun o w'=>o=.returned (.int .i64 (20+(no:Int)))∧Below V.heap.size V w' from fun V hV=>len4_any tos id df false 0 ttl pr sl dl AO no co V hno)
 have wsz:IntKind.i64.wrap (20+(no:Int)+(m:Int))=sz:=by rw [IntWalk.i64_in _ (by omega),hsz]
 have HS0:=Lib.hid (HSF.out w3.drew (Below.refl _ _).drew)
 have HSA:=Lib.hid (HSF.out (w3.alloc (.cells Z 53)).drew (((Below.refl _ _).alloc (Nat.le_refl _) _).drew))
 have HY:=Lib.hid (show ((Z.setIfInBounds 10 (.int .i64 ttl)).setIfInBounds 22 (.int .i64 sz))=#[.bool false,.int .i64 0,.bool false,.int .u64 0,.int .u64 0,.bool false,.int .u64 0,.int .u64 0,.int .i64 0,.int .i64 0,.int .i64 ttl,.int .i64 0,.bool false,.int .i64 0,.bool false,.int .u64 0,.int .u64 0,.bool false,.int .u64 0,.int .u64 0,.int .i64 0,.int .i64 0,.int .i64 sz] from by rw [HZ.out]; rfl)
 have HST:=Lib.hid (show ∀ (V:World) (g:Nat),Blk V g 53 Z→(storeCells ⟨g,0,none⟩ ((Z.toList.set 10 (.int .i64 ttl)).set 22 (.int .i64 sz)) 0).run Try.prog V=.ok () (V.setRow g ((Z.setIfInBounds 10 (.int .i64 ttl)).setIfInBounds 22 (.int .i64 sz))) from fun V g hg=>by
  have h9:=store_pk V g Z ((Z.setIfInBounds 10 (.int .i64 ttl)).setIfInBounds 22 (.int .i64 sz)) hg ZS.out (by rw [HY.out]; rfl) (by rw [HY.out]; simp [Value.oneCell'])
  simpa only [Array.toList_setIfInBounds] using h9)
 clear hsz
 go_upto_region 6 with fail
 clear k0 k1 k2 k3 k4 k5 k6 k7 k8 k9 k10 k11 k12 k13
 have A1:=Lib.hid (show Below w3.heap.size w3 w3.drew from (Below.refl _ _).drew)
 have A2:=Lib.hid (show Below w3.heap.size w3 (w3.alloc (.cells Z 53)).drew from ((Below.refl _ _).alloc (Nat.le_refl _) _).drew)
 have KN0:=Lib.hid (show Blk (w3.alloc (.cells Z 53)).drew w3.heap.size 53 Z from Blk.new w3 53 Z)
 go_region_held3 (fun V=>V.cell? ⟨h,0,none⟩=some (.int .i64 tos)∧V.cell? ⟨h,1,none⟩=some (.int .i64 id)∧V.cell? ⟨h,2,none⟩=some (.bool df)∧V.cell? ⟨h,3,none⟩=some (.bool false)∧V.cell? ⟨h,4,none⟩=some (.int .i64 0)∧V.cell? ⟨h,5,none⟩=some (.int .i64 ttl)∧V.cell? ⟨h,6,none⟩=some (.int .i64 pr)∧V.cell? ⟨h,7,none⟩=some (.bool false)∧V.cell? ⟨h,8,none⟩=some (.int .u64 0)∧V.cell? ⟨h,9,none⟩=some (.int .u64 sl)∧V.cell? ⟨h,10,none⟩=some (.bool false)∧V.cell? ⟨h,11,none⟩=some (.int .u64 0)∧V.cell? ⟨h,12,none⟩=some (.int .u64 dl)∧V.cell? ⟨h,13,none⟩=some (.slice AO no co)) (first | with_reducible assumption | with_reducible exact HS0.out | with_reducible exact HSA.out | with_reducible exact HS5.out | with_reducible exact HS6.out | with_reducible exact HS7.out) (first
  | (go_at_call 45; (with_reducible refine (HLN.out _ (by first | with_reducible exact A1.out | with_reducible exact A2.out)).mono ?_); rintro o w5 ⟨rfl,hb5⟩; have O5:=Lib.hid (show Below w3.heap.size w3 w5 from by first | with_reducible exact below_dr hb5 | with_reducible exact below_al hb5); have KH5:=Lib.hid (KH3.out.below O5.out KH3.out.lt); have HS5:=Lib.hid (HSF.out w5 O5.out); (first | (have KN:=Lib.hid (show Blk w5 w3.heap.size 53 Z from by with_reducible exact KN0.out.below hb5 KN0.out.lt); have ST1:=HST.out w5 w3.heap.size KN.out; have HNE:=Lib.hid (show h≠w3.heap.size from by have:=KH3.out.lt; omega); have ON:=Lib.hid (show OnlyG w3.heap.size w5 (w5.setRow w3.heap.size ((Z.setIfInBounds 10 (.int .i64 ttl)).setIfInBounds 22 (.int .i64 sz))) from onlyRow _); have KNP:=Lib.hid (show Blk (w5.setRow w3.heap.size ((Z.setIfInBounds 10 (.int .i64 ttl)).setIfInBounds 22 (.int .i64 sz))) w3.heap.size 53 ((Z.setIfInBounds 10 (.int .i64 ttl)).setIfInBounds 22 (.int .i64 sz)) from blkRow KN.out _); have KHN:=Lib.hid (ON.out.blk KH5.out HNE.out); have HS7:=Lib.hid (show (w5.setRow w3.heap.size ((Z.setIfInBounds 10 (.int .i64 ttl)).setIfInBounds 22 (.int .i64 sz))).cell? ⟨h,0,none⟩=some (.int .i64 tos)∧(w5.setRow w3.heap.size ((Z.setIfInBounds 10 (.int .i64 ttl)).setIfInBounds 22 (.int .i64 sz))).cell? ⟨h,1,none⟩=some (.int .i64 id)∧(w5.setRow w3.heap.size ((Z.setIfInBounds 10 (.int .i64 ttl)).setIfInBounds 22 (.int .i64 sz))).cell? ⟨h,2,none⟩=some (.bool df)∧(w5.setRow w3.heap.size ((Z.setIfInBounds 10 (.int .i64 ttl)).setIfInBounds 22 (.int .i64 sz))).cell? ⟨h,3,none⟩=some (.bool false)∧(w5.setRow w3.heap.size ((Z.setIfInBounds 10 (.int .i64 ttl)).setIfInBounds 22 (.int .i64 sz))).cell? ⟨h,4,none⟩=some (.int .i64 0)∧(w5.setRow w3.heap.size ((Z.setIfInBounds 10 (.int .i64 ttl)).setIfInBounds 22 (.int .i64 sz))).cell? ⟨h,5,none⟩=some (.int .i64 ttl)∧(w5.setRow w3.heap.size ((Z.setIfInBounds 10 (.int .i64 ttl)).setIfInBounds 22 (.int .i64 sz))).cell? ⟨h,6,none⟩=some (.int .i64 pr)∧(w5.setRow w3.heap.size ((Z.setIfInBounds 10 (.int .i64 ttl)).setIfInBounds 22 (.int .i64 sz))).cell? ⟨h,7,none⟩=some (.bool false)∧(w5.setRow w3.heap.size ((Z.setIfInBounds 10 (.int .i64 ttl)).setIfInBounds 22 (.int .i64 sz))).cell? ⟨h,8,none⟩=some (.int .u64 0)∧(w5.setRow w3.heap.size ((Z.setIfInBounds 10 (.int .i64 ttl)).setIfInBounds 22 (.int .i64 sz))).cell? ⟨h,9,none⟩=some (.int .u64 sl)∧(w5.setRow w3.heap.size ((Z.setIfInBounds 10 (.int .i64 ttl)).setIfInBounds 22 (.int .i64 sz))).cell? ⟨h,10,none⟩=some (.bool false)∧(w5.setRow w3.heap.size ((Z.setIfInBounds 10 (.int .i64 ttl)).setIfInBounds 22 (.int .i64 sz))).cell? ⟨h,11,none⟩=some (.int .u64 0)∧(w5.setRow w3.heap.size ((Z.setIfInBounds 10 (.int .i64 ttl)).setIfInBounds 22 (.int .i64 sz))).cell? ⟨h,12,none⟩=some (.int .u64 dl)∧(w5.setRow w3.heap.size ((Z.setIfInBounds 10 (.int .i64 ttl)).setIfInBounds 22 (.int .i64 sz))).cell? ⟨h,13,none⟩=some (.slice AO no co) from ⟨KHN.out.cell 0,KHN.out.cell 1,KHN.out.cell 2,KHN.out.cell 3,KHN.out.cell 4,KHN.out.cell 5,KHN.out.cell 6,KHN.out.cell 7,KHN.out.cell 8,KHN.out.cell 9,KHN.out.cell 10,KHN.out.cell 11,KHN.out.cell 12,KHN.out.cell 13⟩)) | (have HS6:=Lib.hid (HSF.out (w5.alloc (.cells Z 53)) (O5.out.alloc O5.out.size _)); have KN:=Lib.hid (Blk.new w5 53 Z); have ST1:=HST.out (w5.alloc (.cells Z 53)) w5.heap.size KN.out; have KHW:=Lib.hid (KH5.out.alloc (.cells Z 53)); have HNE:=Lib.hid (show h≠w5.heap.size from by have:=KH5.out.lt; omega); have ON:=Lib.hid (show OnlyG w5.heap.size (w5.alloc (.cells Z 53)) ((w5.alloc (.cells Z 53)).setRow w5.heap.size ((Z.setIfInBounds 10 (.int .i64 ttl)).setIfInBounds 22 (.int .i64 sz))) from onlyRow _); have KNP:=Lib.hid (show Blk ((w5.alloc (.cells Z 53)).setRow w5.heap.size ((Z.setIfInBounds 10 (.int .i64 ttl)).setIfInBounds 22 (.int .i64 sz))) w5.heap.size 53 ((Z.setIfInBounds 10 (.int .i64 ttl)).setIfInBounds 22 (.int .i64 sz)) from blkRow KN.out _); have KHN:=Lib.hid (ON.out.blk KHW.out HNE.out); have HS7:=Lib.hid (show ((w5.alloc (.cells Z 53)).setRow w5.heap.size ((Z.setIfInBounds 10 (.int .i64 ttl)).setIfInBounds 22 (.int .i64 sz))).cell? ⟨h,0,none⟩=some (.int .i64 tos)∧((w5.alloc (.cells Z 53)).setRow w5.heap.size ((Z.setIfInBounds 10 (.int .i64 ttl)).setIfInBounds 22 (.int .i64 sz))).cell? ⟨h,1,none⟩=some (.int .i64 id)∧((w5.alloc (.cells Z 53)).setRow w5.heap.size ((Z.setIfInBounds 10 (.int .i64 ttl)).setIfInBounds 22 (.int .i64 sz))).cell? ⟨h,2,none⟩=some (.bool df)∧((w5.alloc (.cells Z 53)).setRow w5.heap.size ((Z.setIfInBounds 10 (.int .i64 ttl)).setIfInBounds 22 (.int .i64 sz))).cell? ⟨h,3,none⟩=some (.bool false)∧((w5.alloc (.cells Z 53)).setRow w5.heap.size ((Z.setIfInBounds 10 (.int .i64 ttl)).setIfInBounds 22 (.int .i64 sz))).cell? ⟨h,4,none⟩=some (.int .i64 0)∧((w5.alloc (.cells Z 53)).setRow w5.heap.size ((Z.setIfInBounds 10 (.int .i64 ttl)).setIfInBounds 22 (.int .i64 sz))).cell? ⟨h,5,none⟩=some (.int .i64 ttl)∧((w5.alloc (.cells Z 53)).setRow w5.heap.size ((Z.setIfInBounds 10 (.int .i64 ttl)).setIfInBounds 22 (.int .i64 sz))).cell? ⟨h,6,none⟩=some (.int .i64 pr)∧((w5.alloc (.cells Z 53)).setRow w5.heap.size ((Z.setIfInBounds 10 (.int .i64 ttl)).setIfInBounds 22 (.int .i64 sz))).cell? ⟨h,7,none⟩=some (.bool false)∧((w5.alloc (.cells Z 53)).setRow w5.heap.size ((Z.setIfInBounds 10 (.int .i64 ttl)).setIfInBounds 22 (.int .i64 sz))).cell? ⟨h,8,none⟩=some (.int .u64 0)∧((w5.alloc (.cells Z 53)).setRow w5.heap.size ((Z.setIfInBounds 10 (.int .i64 ttl)).setIfInBounds 22 (.int .i64 sz))).cell? ⟨h,9,none⟩=some (.int .u64 sl)∧((w5.alloc (.cells Z 53)).setRow w5.heap.size ((Z.setIfInBounds 10 (.int .i64 ttl)).setIfInBounds 22 (.int .i64 sz))).cell? ⟨h,10,none⟩=some (.bool false)∧((w5.alloc (.cells Z 53)).setRow w5.heap.size ((Z.setIfInBounds 10 (.int .i64 ttl)).setIfInBounds 22 (.int .i64 sz))).cell? ⟨h,11,none⟩=some (.int .u64 0)∧((w5.alloc (.cells Z 53)).setRow w5.heap.size ((Z.setIfInBounds 10 (.int .i64 ttl)).setIfInBounds 22 (.int .i64 sz))).cell? ⟨h,12,none⟩=some (.int .u64 dl)∧((w5.alloc (.cells Z 53)).setRow w5.heap.size ((Z.setIfInBounds 10 (.int .i64 ttl)).setIfInBounds 22 (.int .i64 sz))).cell? ⟨h,13,none⟩=some (.slice AO no co) from ⟨KHN.out.cell 0,KHN.out.cell 1,KHN.out.cell 2,KHN.out.cell 3,KHN.out.cell 4,KHN.out.cell 5,KHN.out.cell 6,KHN.out.cell 7,KHN.out.cell 8,KHN.out.cell 9,KHN.out.cell 10,KHN.out.cell 11,KHN.out.cell 12,KHN.out.cell 13⟩))); clear hb5))
 ·obtain ⟨w6,hw6⟩:∃ w6,w6=(w5.alloc (.cells Z 53)).setRow w5.heap.size ((Z.setIfInBounds 10 (.int .i64 ttl)).setIfInBounds 22 (.int .i64 sz)):=⟨_,rfl⟩
  obtain ⟨qn,hqn⟩:∃ qn,qn=w5.heap.size:=⟨_,rfl⟩
  have E6:=Lib.hid hw6
  have EN:=Lib.hid hqn
  have BB6:=Lib.hid (show Below w3.heap.size w3 w6 from by rw [hw6]; exact ON.out.from (O5.out.alloc O5.out.size _) O5.out.size)
  have KN6:=Lib.hid (show Blk w6 qn 53 #[.bool false,.int .i64 0,.bool false,.int .u64 0,.int .u64 0,.bool false,.int .u64 0,.int .u64 0,.int .i64 0,.int .i64 0,.int .i64 ttl,.int .i64 0,.bool false,.int .i64 0,.bool false,.int .u64 0,.int .u64 0,.bool false,.int .u64 0,.int .u64 0,.int .i64 0,.int .i64 0,.int .i64 sz] from by rw [hw6,hqn,← HY.out]; exact KNP.out)
  have KQ6:=Lib.hid (KQ3.out.below BB6.out KQ3.out.lt)
  have KH6:=Lib.hid (KH3.out.below BB6.out KH3.out.lt)
  have SL6:=Lib.hid (SL3.out.below BB6.out)
  have B6:=Lib.hid (B3.out.trans (BB6.out.mono B3.out.size))
  have QN:=Lib.hid (show w3.heap.size≤qn from by rw [hqn]; first | exact Nat.le_refl _ | exact O5.out.size)
  rw [← E6.out,← EN.out]
  clear hw6 hqn
  have k_0:Blk (w6.setCell ⟨qn,1,none⟩ (.int .i64 pr)) qn 53 #[.bool false,.int .i64 pr,.bool false,.int .u64 0,.int .u64 0,.bool false,.int .u64 0,.int .u64 0,.int .i64 0,.int .i64 0,.int .i64 ttl,.int .i64 0,.bool false,.int .i64 0,.bool false,.int .u64 0,.int .u64 0,.bool false,.int .u64 0,.int .u64 0,.int .i64 0,.int .i64 0,.int .i64 sz]:=KN6.out.set_ 1 _
  have k_1:Blk ((w6.setCell ⟨qn,1,none⟩ (.int .i64 pr)).setCell ⟨qn,2,none⟩ (.bool false)) qn 53 #[.bool false,.int .i64 pr,.bool false,.int .u64 0,.int .u64 0,.bool false,.int .u64 0,.int .u64 0,.int .i64 0,.int .i64 0,.int .i64 ttl,.int .i64 0,.bool false,.int .i64 0,.bool false,.int .u64 0,.int .u64 0,.bool false,.int .u64 0,.int .u64 0,.int .i64 0,.int .i64 0,.int .i64 sz]:=k_0.set_ 2 _
  have k_2:Blk (((w6.setCell ⟨qn,1,none⟩ (.int .i64 pr)).setCell ⟨qn,2,none⟩ (.bool false)).setCell ⟨qn,3,none⟩ (.int .u64 0)) qn 53 #[.bool false,.int .i64 pr,.bool false,.int .u64 0,.int .u64 0,.bool false,.int .u64 0,.int .u64 0,.int .i64 0,.int .i64 0,.int .i64 ttl,.int .i64 0,.bool false,.int .i64 0,.bool false,.int .u64 0,.int .u64 0,.bool false,.int .u64 0,.int .u64 0,.int .i64 0,.int .i64 0,.int .i64 sz]:=k_1.set_ 3 _
  have k_3:Blk ((((w6.setCell ⟨qn,1,none⟩ (.int .i64 pr)).setCell ⟨qn,2,none⟩ (.bool false)).setCell ⟨qn,3,none⟩ (.int .u64 0)).setCell ⟨qn,4,none⟩ (.int .u64 sl)) qn 53 #[.bool false,.int .i64 pr,.bool false,.int .u64 0,.int .u64 sl,.bool false,.int .u64 0,.int .u64 0,.int .i64 0,.int .i64 0,.int .i64 ttl,.int .i64 0,.bool false,.int .i64 0,.bool false,.int .u64 0,.int .u64 0,.bool false,.int .u64 0,.int .u64 0,.int .i64 0,.int .i64 0,.int .i64 sz]:=k_2.set_ 4 _
  have k_4:Blk (((((w6.setCell ⟨qn,1,none⟩ (.int .i64 pr)).setCell ⟨qn,2,none⟩ (.bool false)).setCell ⟨qn,3,none⟩ (.int .u64 0)).setCell ⟨qn,4,none⟩ (.int .u64 sl)).setCell ⟨qn,5,none⟩ (.bool false)) qn 53 #[.bool false,.int .i64 pr,.bool false,.int .u64 0,.int .u64 sl,.bool false,.int .u64 0,.int .u64 0,.int .i64 0,.int .i64 0,.int .i64 ttl,.int .i64 0,.bool false,.int .i64 0,.bool false,.int .u64 0,.int .u64 0,.bool false,.int .u64 0,.int .u64 0,.int .i64 0,.int .i64 0,.int .i64 sz]:=k_3.set_ 5 _
  have k_5:Blk ((((((w6.setCell ⟨qn,1,none⟩ (.int .i64 pr)).setCell ⟨qn,2,none⟩ (.bool false)).setCell ⟨qn,3,none⟩ (.int .u64 0)).setCell ⟨qn,4,none⟩ (.int .u64 sl)).setCell ⟨qn,5,none⟩ (.bool false)).setCell ⟨qn,6,none⟩ (.int .u64 0)) qn 53 #[.bool false,.int .i64 pr,.bool false,.int .u64 0,.int .u64 sl,.bool false,.int .u64 0,.int .u64 0,.int .i64 0,.int .i64 0,.int .i64 ttl,.int .i64 0,.bool false,.int .i64 0,.bool false,.int .u64 0,.int .u64 0,.bool false,.int .u64 0,.int .u64 0,.int .i64 0,.int .i64 0,.int .i64 sz]:=k_4.set_ 6 _
  have k_6:Blk (((((((w6.setCell ⟨qn,1,none⟩ (.int .i64 pr)).setCell ⟨qn,2,none⟩ (.bool false)).setCell ⟨qn,3,none⟩ (.int .u64 0)).setCell ⟨qn,4,none⟩ (.int .u64 sl)).setCell ⟨qn,5,none⟩ (.bool false)).setCell ⟨qn,6,none⟩ (.int .u64 0)).setCell ⟨qn,7,none⟩ (.int .u64 dl)) qn 53 #[.bool false,.int .i64 pr,.bool false,.int .u64 0,.int .u64 sl,.bool false,.int .u64 0,.int .u64 dl,.int .i64 0,.int .i64 0,.int .i64 ttl,.int .i64 0,.bool false,.int .i64 0,.bool false,.int .u64 0,.int .u64 0,.bool false,.int .u64 0,.int .u64 0,.int .i64 0,.int .i64 0,.int .i64 sz]:=k_5.set_ 7 _
  have k_7:Blk ((((((((w6.setCell ⟨qn,1,none⟩ (.int .i64 pr)).setCell ⟨qn,2,none⟩ (.bool false)).setCell ⟨qn,3,none⟩ (.int .u64 0)).setCell ⟨qn,4,none⟩ (.int .u64 sl)).setCell ⟨qn,5,none⟩ (.bool false)).setCell ⟨qn,6,none⟩ (.int .u64 0)).setCell ⟨qn,7,none⟩ (.int .u64 dl)).setCell ⟨qn,8,none⟩ (.int .i64 0)) qn 53 #[.bool false,.int .i64 pr,.bool false,.int .u64 0,.int .u64 sl,.bool false,.int .u64 0,.int .u64 dl,.int .i64 0,.int .i64 0,.int .i64 ttl,.int .i64 0,.bool false,.int .i64 0,.bool false,.int .u64 0,.int .u64 0,.bool false,.int .u64 0,.int .u64 0,.int .i64 0,.int .i64 0,.int .i64 sz]:=k_6.set_ 8 _
  have k_8:Blk (((((((((w6.setCell ⟨qn,1,none⟩ (.int .i64 pr)).setCell ⟨qn,2,none⟩ (.bool false)).setCell ⟨qn,3,none⟩ (.int .u64 0)).setCell ⟨qn,4,none⟩ (.int .u64 sl)).setCell ⟨qn,5,none⟩ (.bool false)).setCell ⟨qn,6,none⟩ (.int .u64 0)).setCell ⟨qn,7,none⟩ (.int .u64 dl)).setCell ⟨qn,8,none⟩ (.int .i64 0)).setCell ⟨qn,9,none⟩ (.int .i64 0)) qn 53 #[.bool false,.int .i64 pr,.bool false,.int .u64 0,.int .u64 sl,.bool false,.int .u64 0,.int .u64 dl,.int .i64 0,.int .i64 0,.int .i64 ttl,.int .i64 0,.bool false,.int .i64 0,.bool false,.int .u64 0,.int .u64 0,.bool false,.int .u64 0,.int .u64 0,.int .i64 0,.int .i64 0,.int .i64 sz]:=k_7.set_ 9 _
  obtain ⟨w7,hw7⟩:∃ w7,w7=(((((((((w6.setCell ⟨qn,1,none⟩ (.int .i64 pr)).setCell ⟨qn,2,none⟩ (.bool false)).setCell ⟨qn,3,none⟩ (.int .u64 0)).setCell ⟨qn,4,none⟩ (.int .u64 sl)).setCell ⟨qn,5,none⟩ (.bool false)).setCell ⟨qn,6,none⟩ (.int .u64 0)).setCell ⟨qn,7,none⟩ (.int .u64 dl)).setCell ⟨qn,8,none⟩ (.int .i64 0)).setCell ⟨qn,9,none⟩ (.int .i64 0)):=⟨_,rfl⟩
  have E7:=Lib.hid hw7
  have OG7:=Lib.hid (show OnlyG qn w6 w7 from by rw [hw7]; exact ((((((((((OnlyG.refl qn w6).set 1 (.int .i64 pr)).set 2 (.bool false)).set 3 (.int .u64 0)).set 4 (.int .u64 sl)).set 5 (.bool false)).set 6 (.int .u64 0)).set 7 (.int .u64 dl)).set 8 (.int .i64 0)).set 9 (.int .i64 0)))
  have KN7:=Lib.hid (show Blk w7 qn 53 #[.bool false,.int .i64 pr,.bool false,.int .u64 0,.int .u64 sl,.bool false,.int .u64 0,.int .u64 dl,.int .i64 0,.int .i64 0,.int .i64 ttl,.int .i64 0,.bool false,.int .i64 0,.bool false,.int .u64 0,.int .u64 0,.bool false,.int .u64 0,.int .u64 0,.int .i64 0,.int .i64 0,.int .i64 sz] from by rw [hw7]; exact k_8)
  have BB7:=Lib.hid (OG7.out.from BB6.out QN.out)
  have KQ7:=Lib.hid (KQ3.out.below BB7.out KQ3.out.lt)
  have SL7:=Lib.hid (SL3.out.below BB7.out)
  have B7:=Lib.hid (B3.out.trans (BB7.out.mono B3.out.size))
  have PW:=Lib.hid (HW.out w7 AR cr B7.out SL7.out)
  have PS:=Lib.hid (show ∀ u ∈ P.cells.toList,u.oneCell'=true from by simp [Pk.cells,Value.oneCell'])
  have PS2:=Lib.hid (show P.cells.all (·.oneCell')=true from by simp [Pk.cells,Value.oneCell'])
  clear hw7 k_0 k_1 k_2 k_3 k_4 k_5 k_6 k_7 k_8
  have k0:=KH6.out.cell 0
  have k1:=KH6.out.cell 1
  have k2:=KH6.out.cell 2
  have k3:=KH6.out.cell 3
  have k4:=KH6.out.cell 4
  have k5:=KH6.out.cell 5
  have k6:=KH6.out.cell 6
  have k7:=KH6.out.cell 7
  have k8:=KH6.out.cell 8
  have k9:=KH6.out.cell 9
  have k10:=KH6.out.cell 10
  have k11:=KH6.out.cell 11
  have k12:=KH6.out.cell 12
  have k13:=KH6.out.cell 13
  have y1:=KN6.out.cell 1
  have z1:=KN6.out.frozen 1
  have y2:=KN6.out.cell 2
  have z2:=KN6.out.frozen 2
  have y3:=KN6.out.cell 3
  have z3:=KN6.out.frozen 3
  have y4:=KN6.out.cell 4
  have z4:=KN6.out.frozen 4
  have y5:=KN6.out.cell 5
  have z5:=KN6.out.frozen 5
  have y6:=KN6.out.cell 6
  have z6:=KN6.out.frozen 6
  have y7:=KN6.out.cell 7
  have z7:=KN6.out.frozen 7
  have y8:=KN6.out.cell 8
  have z8:=KN6.out.frozen 8
  have y9:=KN6.out.cell 9
  have z9:=KN6.out.frozen 9
  go_upto_region 8 with fail
  rw [← E7.out]
  clear k0 k1 k2 k3 k4 k5 k6 k7 k8 k9 k10 k11 k12 k13 y1 z1 y2 z2 y3 z3 y4 z4 y5 z5 y6 z6 y7 z7 y8 z8 y9 z9
  go_wp2_with (first
   | (refine wpList_load_row rfl 53 _ rfl qn rfl 53 #[.bool false,.int .i64 pr,.bool false,.int .u64 0,.int .u64 sl,.bool false,.int .u64 0,.int .u64 dl,.int .i64 0,.int .i64 0,.int .i64 ttl,.int .i64 0,.bool false,.int .i64 0,.bool false,.int .u64 0,.int .u64 0,.bool false,.int .u64 0,.int .u64 0,.int .i64 0,.int .i64 0,.int .i64 sz] (0,0) _ KN7.out Try.underlying53 rfl HI.out ?_)
   | (go_at_call 46; refine PW.out.mono ?_; rintro o w8 ⟨rfl,hb8⟩; have KQ8:=Lib.hid (KQ7.out.below hb8 KQ7.out.lt); have B8:=Lib.hid (B7.out.trans (hb8.mono B7.out.size)); clear hb8)
   | (refine wpList_store_row rfl 53 _ _ rfl q P.cells rfl rfl 53 Z KQ8.out HI.out ZS.out PS2.out ?_))
  refine bodyPost_ret (results_pk rfl _ _ q P.cells rfl (blkRow KQ8.out _) rfl) rfl ?_
  exact ⟨rfl,(onlyRow _).from B8.out (by have:=EQ.out; omega)⟩
 ·obtain ⟨w6,hw6⟩:∃ w6,w6=w5.setRow w3.heap.size ((Z.setIfInBounds 10 (.int .i64 ttl)).setIfInBounds 22 (.int .i64 sz)):=⟨_,rfl⟩
  obtain ⟨qn,hqn⟩:∃ qn,qn=w3.heap.size:=⟨_,rfl⟩
  have E6:=Lib.hid hw6
  have EN:=Lib.hid hqn
  have BB6:=Lib.hid (show Below w3.heap.size w3 w6 from by rw [hw6]; exact ON.out.from O5.out (Nat.le_refl _))
  have KN6:=Lib.hid (show Blk w6 qn 53 #[.bool false,.int .i64 0,.bool false,.int .u64 0,.int .u64 0,.bool false,.int .u64 0,.int .u64 0,.int .i64 0,.int .i64 0,.int .i64 ttl,.int .i64 0,.bool false,.int .i64 0,.bool false,.int .u64 0,.int .u64 0,.bool false,.int .u64 0,.int .u64 0,.int .i64 0,.int .i64 0,.int .i64 sz] from by rw [hw6,hqn,← HY.out]; exact KNP.out)
  have KQ6:=Lib.hid (KQ3.out.below BB6.out KQ3.out.lt)
  have KH6:=Lib.hid (KH3.out.below BB6.out KH3.out.lt)
  have SL6:=Lib.hid (SL3.out.below BB6.out)
  have B6:=Lib.hid (B3.out.trans (BB6.out.mono B3.out.size))
  have QN:=Lib.hid (show w3.heap.size≤qn from by rw [hqn]; first | exact Nat.le_refl _ | exact O5.out.size)
  rw [← E6.out,← EN.out]
  clear hw6 hqn
  have k_0:Blk (w6.setCell ⟨qn,1,none⟩ (.int .i64 pr)) qn 53 #[.bool false,.int .i64 pr,.bool false,.int .u64 0,.int .u64 0,.bool false,.int .u64 0,.int .u64 0,.int .i64 0,.int .i64 0,.int .i64 ttl,.int .i64 0,.bool false,.int .i64 0,.bool false,.int .u64 0,.int .u64 0,.bool false,.int .u64 0,.int .u64 0,.int .i64 0,.int .i64 0,.int .i64 sz]:=KN6.out.set_ 1 _
  have k_1:Blk ((w6.setCell ⟨qn,1,none⟩ (.int .i64 pr)).setCell ⟨qn,2,none⟩ (.bool false)) qn 53 #[.bool false,.int .i64 pr,.bool false,.int .u64 0,.int .u64 0,.bool false,.int .u64 0,.int .u64 0,.int .i64 0,.int .i64 0,.int .i64 ttl,.int .i64 0,.bool false,.int .i64 0,.bool false,.int .u64 0,.int .u64 0,.bool false,.int .u64 0,.int .u64 0,.int .i64 0,.int .i64 0,.int .i64 sz]:=k_0.set_ 2 _
  have k_2:Blk (((w6.setCell ⟨qn,1,none⟩ (.int .i64 pr)).setCell ⟨qn,2,none⟩ (.bool false)).setCell ⟨qn,3,none⟩ (.int .u64 0)) qn 53 #[.bool false,.int .i64 pr,.bool false,.int .u64 0,.int .u64 0,.bool false,.int .u64 0,.int .u64 0,.int .i64 0,.int .i64 0,.int .i64 ttl,.int .i64 0,.bool false,.int .i64 0,.bool false,.int .u64 0,.int .u64 0,.bool false,.int .u64 0,.int .u64 0,.int .i64 0,.int .i64 0,.int .i64 sz]:=k_1.set_ 3 _
  have k_3:Blk ((((w6.setCell ⟨qn,1,none⟩ (.int .i64 pr)).setCell ⟨qn,2,none⟩ (.bool false)).setCell ⟨qn,3,none⟩ (.int .u64 0)).setCell ⟨qn,4,none⟩ (.int .u64 sl)) qn 53 #[.bool false,.int .i64 pr,.bool false,.int .u64 0,.int .u64 sl,.bool false,.int .u64 0,.int .u64 0,.int .i64 0,.int .i64 0,.int .i64 ttl,.int .i64 0,.bool false,.int .i64 0,.bool false,.int .u64 0,.int .u64 0,.bool false,.int .u64 0,.int .u64 0,.int .i64 0,.int .i64 0,.int .i64 sz]:=k_2.set_ 4 _
  have k_4:Blk (((((w6.setCell ⟨qn,1,none⟩ (.int .i64 pr)).setCell ⟨qn,2,none⟩ (.bool false)).setCell ⟨qn,3,none⟩ (.int .u64 0)).setCell ⟨qn,4,none⟩ (.int .u64 sl)).setCell ⟨qn,5,none⟩ (.bool false)) qn 53 #[.bool false,.int .i64 pr,.bool false,.int .u64 0,.int .u64 sl,.bool false,.int .u64 0,.int .u64 0,.int .i64 0,.int .i64 0,.int .i64 ttl,.int .i64 0,.bool false,.int .i64 0,.bool false,.int .u64 0,.int .u64 0,.bool false,.int .u64 0,.int .u64 0,.int .i64 0,.int .i64 0,.int .i64 sz]:=k_3.set_ 5 _
  have k_5:Blk ((((((w6.setCell ⟨qn,1,none⟩ (.int .i64 pr)).setCell ⟨qn,2,none⟩ (.bool false)).setCell ⟨qn,3,none⟩ (.int .u64 0)).setCell ⟨qn,4,none⟩ (.int .u64 sl)).setCell ⟨qn,5,none⟩ (.bool false)).setCell ⟨qn,6,none⟩ (.int .u64 0)) qn 53 #[.bool false,.int .i64 pr,.bool false,.int .u64 0,.int .u64 sl,.bool false,.int .u64 0,.int .u64 0,.int .i64 0,.int .i64 0,.int .i64 ttl,.int .i64 0,.bool false,.int .i64 0,.bool false,.int .u64 0,.int .u64 0,.bool false,.int .u64 0,.int .u64 0,.int .i64 0,.int .i64 0,.int .i64 sz]:=k_4.set_ 6 _
  have k_6:Blk (((((((w6.setCell ⟨qn,1,none⟩ (.int .i64 pr)).setCell ⟨qn,2,none⟩ (.bool false)).setCell ⟨qn,3,none⟩ (.int .u64 0)).setCell ⟨qn,4,none⟩ (.int .u64 sl)).setCell ⟨qn,5,none⟩ (.bool false)).setCell ⟨qn,6,none⟩ (.int .u64 0)).setCell ⟨qn,7,none⟩ (.int .u64 dl)) qn 53 #[.bool false,.int .i64 pr,.bool false,.int .u64 0,.int .u64 sl,.bool false,.int .u64 0,.int .u64 dl,.int .i64 0,.int .i64 0,.int .i64 ttl,.int .i64 0,.bool false,.int .i64 0,.bool false,.int .u64 0,.int .u64 0,.bool false,.int .u64 0,.int .u64 0,.int .i64 0,.int .i64 0,.int .i64 sz]:=k_5.set_ 7 _
  have k_7:Blk ((((((((w6.setCell ⟨qn,1,none⟩ (.int .i64 pr)).setCell ⟨qn,2,none⟩ (.bool false)).setCell ⟨qn,3,none⟩ (.int .u64 0)).setCell ⟨qn,4,none⟩ (.int .u64 sl)).setCell ⟨qn,5,none⟩ (.bool false)).setCell ⟨qn,6,none⟩ (.int .u64 0)).setCell ⟨qn,7,none⟩ (.int .u64 dl)).setCell ⟨qn,8,none⟩ (.int .i64 0)) qn 53 #[.bool false,.int .i64 pr,.bool false,.int .u64 0,.int .u64 sl,.bool false,.int .u64 0,.int .u64 dl,.int .i64 0,.int .i64 0,.int .i64 ttl,.int .i64 0,.bool false,.int .i64 0,.bool false,.int .u64 0,.int .u64 0,.bool false,.int .u64 0,.int .u64 0,.int .i64 0,.int .i64 0,.int .i64 sz]:=k_6.set_ 8 _
  have k_8:Blk (((((((((w6.setCell ⟨qn,1,none⟩ (.int .i64 pr)).setCell ⟨qn,2,none⟩ (.bool false)).setCell ⟨qn,3,none⟩ (.int .u64 0)).setCell ⟨qn,4,none⟩ (.int .u64 sl)).setCell ⟨qn,5,none⟩ (.bool false)).setCell ⟨qn,6,none⟩ (.int .u64 0)).setCell ⟨qn,7,none⟩ (.int .u64 dl)).setCell ⟨qn,8,none⟩ (.int .i64 0)).setCell ⟨qn,9,none⟩ (.int .i64 0)) qn 53 #[.bool false,.int .i64 pr,.bool false,.int .u64 0,.int .u64 sl,.bool false,.int .u64 0,.int .u64 dl,.int .i64 0,.int .i64 0,.int .i64 ttl,.int .i64 0,.bool false,.int .i64 0,.bool false,.int .u64 0,.int .u64 0,.bool false,.int .u64 0,.int .u64 0,.int .i64 0,.int .i64 0,.int .i64 sz]:=k_7.set_ 9 _
  obtain ⟨w7,hw7⟩:∃ w7,w7=(((((((((w6.setCell ⟨qn,1,none⟩ (.int .i64 pr)).setCell ⟨qn,2,none⟩ (.bool false)).setCell ⟨qn,3,none⟩ (.int .u64 0)).setCell ⟨qn,4,none⟩ (.int .u64 sl)).setCell ⟨qn,5,none⟩ (.bool false)).setCell ⟨qn,6,none⟩ (.int .u64 0)).setCell ⟨qn,7,none⟩ (.int .u64 dl)).setCell ⟨qn,8,none⟩ (.int .i64 0)).setCell ⟨qn,9,none⟩ (.int .i64 0)):=⟨_,rfl⟩
  have E7:=Lib.hid hw7
  have OG7:=Lib.hid (show OnlyG qn w6 w7 from by rw [hw7]; exact ((((((((((OnlyG.refl qn w6).set 1 (.int .i64 pr)).set 2 (.bool false)).set 3 (.int .u64 0)).set 4 (.int .u64 sl)).set 5 (.bool false)).set 6 (.int .u64 0)).set 7 (.int .u64 dl)).set 8 (.int .i64 0)).set 9 (.int .i64 0)))
  have KN7:=Lib.hid (show Blk w7 qn 53 #[.bool false,.int .i64 pr,.bool false,.int .u64 0,.int .u64 sl,.bool false,.int .u64 0,.int .u64 dl,.int .i64 0,.int .i64 0,.int .i64 ttl,.int .i64 0,.bool false,.int .i64 0,.bool false,.int .u64 0,.int .u64 0,.bool false,.int .u64 0,.int .u64 0,.int .i64 0,.int .i64 0,.int .i64 sz] from by rw [hw7]; exact k_8)
  have BB7:=Lib.hid (OG7.out.from BB6.out QN.out)
  have KQ7:=Lib.hid (KQ3.out.below BB7.out KQ3.out.lt)
  have SL7:=Lib.hid (SL3.out.below BB7.out)
  have B7:=Lib.hid (B3.out.trans (BB7.out.mono B3.out.size))
  have PW:=Lib.hid (HW.out w7 AR cr B7.out SL7.out)
  have PS:=Lib.hid (show ∀ u ∈ P.cells.toList,u.oneCell'=true from by simp [Pk.cells,Value.oneCell'])
  have PS2:=Lib.hid (show P.cells.all (·.oneCell')=true from by simp [Pk.cells,Value.oneCell'])
  clear hw7 k_0 k_1 k_2 k_3 k_4 k_5 k_6 k_7 k_8
  have k0:=KH6.out.cell 0
  have k1:=KH6.out.cell 1
  have k2:=KH6.out.cell 2
  have k3:=KH6.out.cell 3
  have k4:=KH6.out.cell 4
  have k5:=KH6.out.cell 5
  have k6:=KH6.out.cell 6
  have k7:=KH6.out.cell 7
  have k8:=KH6.out.cell 8
  have k9:=KH6.out.cell 9
  have k10:=KH6.out.cell 10
  have k11:=KH6.out.cell 11
  have k12:=KH6.out.cell 12
  have k13:=KH6.out.cell 13
  have y1:=KN6.out.cell 1
  have z1:=KN6.out.frozen 1
  have y2:=KN6.out.cell 2
  have z2:=KN6.out.frozen 2
  have y3:=KN6.out.cell 3
  have z3:=KN6.out.frozen 3
  have y4:=KN6.out.cell 4
  have z4:=KN6.out.frozen 4
  have y5:=KN6.out.cell 5
  have z5:=KN6.out.frozen 5
  have y6:=KN6.out.cell 6
  have z6:=KN6.out.frozen 6
  have y7:=KN6.out.cell 7
  have z7:=KN6.out.frozen 7
  have y8:=KN6.out.cell 8
  have z8:=KN6.out.frozen 8
  have y9:=KN6.out.cell 9
  have z9:=KN6.out.frozen 9
  go_upto_region 8 with fail
  rw [← E7.out]
  clear k0 k1 k2 k3 k4 k5 k6 k7 k8 k9 k10 k11 k12 k13 y1 z1 y2 z2 y3 z3 y4 z4 y5 z5 y6 z6 y7 z7 y8 z8 y9 z9
  go_wp2_with (first
   | (refine wpList_load_row rfl 53 _ rfl qn rfl 53 #[.bool false,.int .i64 pr,.bool false,.int .u64 0,.int .u64 sl,.bool false,.int .u64 0,.int .u64 dl,.int .i64 0,.int .i64 0,.int .i64 ttl,.int .i64 0,.bool false,.int .i64 0,.bool false,.int .u64 0,.int .u64 0,.bool false,.int .u64 0,.int .u64 0,.int .i64 0,.int .i64 0,.int .i64 sz] (0,0) _ KN7.out Try.underlying53 rfl HI.out ?_)
   | (go_at_call 46; refine PW.out.mono ?_; rintro o w8 ⟨rfl,hb8⟩; have KQ8:=Lib.hid (KQ7.out.below hb8 KQ7.out.lt); have B8:=Lib.hid (B7.out.trans (hb8.mono B7.out.size)); clear hb8)
   | (refine wpList_store_row rfl 53 _ _ rfl q P.cells rfl rfl 53 Z KQ8.out HI.out ZS.out PS2.out ?_))
  refine bodyPost_ret (results_pk rfl _ _ q P.cells rfl (blkRow KQ8.out _) rfl) rfl ?_
  exact ⟨rfl,(onlyRow _).from B8.out (by have:=EQ.out; omega)⟩
theorem parse6_ok (A:Option Addr) (n c:Nat) (ttl:Int) (s6:Bool) (sh sl:Int) (d6:Bool) (dh dl:Int) (pr:Int) (r:List Int) (hr:r.length≤1000) (fr:Int) (mf:Bool) (xl:Nat) (hf:fr=0) (hm:mf=false) (hxl:xl≤100000) (P:Pk) (e sz:Int) (hsz:sz=(((40+xl:Nat):Int)+(r.length:Int))) (w:World)
  (HC:Hid (∀ V,Below w.heap.size w V→Calls Try.prog 47 #[.slice A n c] V fun o w'=>Below V.heap.size V w'∧∃ (AX:Option Addr) (nx cx:Nat) (cls lab:Int) (AR:Option Addr) (cr:Nat),o=.returned (.tuple #[.agg #[.int .i64 cls,.int .i64 lab,.int .i64 ttl,.bool s6,.int .u64 sh,.int .u64 sl,.bool d6,.int .u64 dh,.int .u64 dl,.slice AX nx cx,.int .i64 pr],.slice AR r.length cr,.int .i64 0])∧Sl w' AR r.length cr r
   ∧(∀ V2,Below w'.heap.size w' V2→Calls Try.prog 48 #[.agg #[.int .i64 cls,.int .i64 lab,.int .i64 ttl,.bool s6,.int .u64 sh,.int .u64 sl,.bool d6,.int .u64 dh,.int .u64 dl,.slice AX nx cx,.int .i64 pr]] V2 fun o w'=>o=.returned (.int .i64 fr)∧Below V2.heap.size V2 w')∧(∀ V2,Below w'.heap.size w' V2→Calls Try.prog 49 #[.agg #[.int .i64 cls,.int .i64 lab,.int .i64 ttl,.bool s6,.int .u64 sh,.int .u64 sl,.bool d6,.int .u64 dh,.int .u64 dl,.slice AX nx cx,.int .i64 pr]] V2 fun o w'=>o=.returned (.bool mf)∧Below V2.heap.size V2 w')∧(∀ V2,Below w'.heap.size w' V2→Calls Try.prog 50 #[.agg #[.int .i64 cls,.int .i64 lab,.int .i64 ttl,.bool s6,.int .u64 sh,.int .u64 sl,.bool d6,.int .u64 dh,.int .u64 dl,.slice AX nx cx,.int .i64 pr]] V2 fun o w'=>o=.returned (.int .i64 (40+xl:Nat))∧Below V2.heap.size V2 w')))
  (HW:Hid (∀ V A2 c2,Below w.heap.size w V→Sl V A2 r.length c2 r→Calls Try.prog 46 #[.agg #[.bool true,.int .i64 pr,.bool s6,.int .u64 sh,.int .u64 sl,.bool d6,.int .u64 dh,.int .u64 dl,.int .i64 0,.int .i64 0,.int .i64 ttl,.int .i64 0,.bool false,.int .i64 0,.bool false,.int .u64 0,.int .u64 0,.bool false,.int .u64 0,.int .u64 0,.int .i64 0,.int .i64 0,.int .i64 sz],.slice A2 r.length c2] V fun o w'=>o=.returned (.tuple #[.agg P.cells,.int .i64 e])∧Below V.heap.size V w')) :
  Calls Try.prog 32 #[.slice A n c] w fun o w'=>o=.returned (.tuple #[.agg P.cells,.int .i64 e])∧Below w.heap.size w w':=by
 obtain ⟨m,hm0⟩:∃ m,m=r.length:=⟨_,rfl⟩
 rw [← hm0] at HC hr HW hsz
 clear hm0
 subst hf
 subst hm
 obtain ⟨Z,hZ⟩:∃ Z:Array Value,Z=#[.bool false,.int .i64 0,.bool false,.int .u64 0,.int .u64 0,.bool false,.int .u64 0,.int .u64 0,.int .i64 0,.int .i64 0,.int .i64 0,.int .i64 0,.bool false,.int .i64 0,.bool false,.int .u64 0,.int .u64 0,.bool false,.int .u64 0,.int .u64 0,.int .i64 0,.int .i64 0,.int .i64 0]:=⟨_,rfl⟩
 have hz:∀ w:World,(zeroValue 53).run Try.prog w=.ok (.agg Z) w:=by rw [hZ]; exact (zero_of_info zeroPkI).1
 have zs:Z.size=23:=by rw [hZ]; rfl
 have zs2:¬ Z=#[]:=by intro h; rw [h] at zs; cases zs
 have ZS:=Lib.hid zs
 have HZ:=Lib.hid hZ
 clear hZ
 obtain ⟨w1,hw1⟩:∃ w1,w1=w.alloc (.cells Z 53):=⟨_,rfl⟩
 have E1:=Lib.hid hw1
 have B1:=Lib.hid (show Below w.heap.size w w1 from by rw [hw1]; exact (Below.refl _ _).alloc (Nat.le_refl _) _)
 obtain ⟨q,hq⟩:∃ q,q=w.heap.size:=⟨_,rfl⟩
 have EQ:=Lib.hid hq
 have KQ:=Lib.hid (show Blk w1 q 53 Z from by rw [hw1,hq]; exact Blk.new w _ _)
 have HI:=Lib.hid pk_size
 clear hw1 hq
 go_enter Try.func32,Try.ntmps32
 go_upto_region 1 with fail
 rw [← E1.out,← EQ.out]
 go_wp2_with fail
 refine (HC.out _ B1.out).mono ?_
 rintro o w2 ⟨hb2,AX,nx,cx,cls,lab,AR,cr,rfl,hsl,hfg,hmo,hle⟩
 obtain ⟨w3,hw3⟩:∃ w3,w3=w2.alloc (.cells #[.int .i64 cls,.int .i64 lab,.int .i64 ttl,.bool s6,.int .u64 sh,.int .u64 sl,.bool d6,.int .u64 dh,.int .u64 dl,.slice AX nx cx,.int .i64 pr] 87):=⟨_,rfl⟩
 obtain ⟨h,hh⟩:∃ h,h=w2.heap.size:=⟨_,rfl⟩
 have EH:=Lib.hid hh
 have E3:=Lib.hid hw3
 have B23:=Lib.hid (show Below w2.heap.size w2 w3 from by rw [hw3]; exact (Below.refl _ _).alloc (Nat.le_refl _) _)
 have B13:=Lib.hid (hb2.trans (B23.out.mono hb2.size))
 have KH3:=Lib.hid (show Blk w3 h 87 #[.int .i64 cls,.int .i64 lab,.int .i64 ttl,.bool s6,.int .u64 sh,.int .u64 sl,.bool d6,.int .u64 dh,.int .u64 dl,.slice AX nx cx,.int .i64 pr] from by rw [hw3,hh]; exact Blk.new w2 _ _)
 have KQ3:=Lib.hid (KQ.out.below B13.out KQ.out.lt)
 have B3:=Lib.hid (B1.out.trans (B13.out.mono B1.out.size))
 have SL3:=Lib.hid (hsl.below B23.out)
 have QH:=Lib.hid (show q<h from by have:=KQ.out.lt; have:=hb2.size; omega)
 have HFG:=Lib.hid hfg
 have HMO:=Lib.hid hmo
 have HLE:=Lib.hid hle
 clear hw3 hb2 hh hsl hfg hmo hle
 go_upto_region 2 with fail
 rw [← E3.out,← EH.out]
 have k0:=KH3.out.cell 0
 have k1:=KH3.out.cell 1
 have k2:=KH3.out.cell 2
 have k3:=KH3.out.cell 3
 have k4:=KH3.out.cell 4
 have k5:=KH3.out.cell 5
 have k6:=KH3.out.cell 6
 have k7:=KH3.out.cell 7
 have k8:=KH3.out.cell 8
 have k9:=KH3.out.cell 9
 have k10:=KH3.out.cell 10
 go_wp2_with fail
 refine (HFG.out w3 B23.out).mono ?_
 rintro o w3b ⟨rfl,hb⟩
 have B24:=Lib.hid (B23.out.trans (hb.mono B23.out.size))
 have KH3b:=Lib.hid (KH3.out.below hb KH3.out.lt)
 have KQ3b:=Lib.hid (KQ3.out.below hb KQ3.out.lt)
 have B3b:=Lib.hid (B3.out.trans (hb.mono B3.out.size))
 have SL3b:=Lib.hid (SL3.out.below hb)
 clear hb k0 k1 k2 k3 k4 k5 k6 k7 k8 k9 k10
 have k0:=KH3b.out.cell 0
 have k1:=KH3b.out.cell 1
 have k2:=KH3b.out.cell 2
 have k3:=KH3b.out.cell 3
 have k4:=KH3b.out.cell 4
 have k5:=KH3b.out.cell 5
 have k6:=KH3b.out.cell 6
 have k7:=KH3b.out.cell 7
 have k8:=KH3b.out.cell 8
 have k9:=KH3b.out.cell 9
 have k10:=KH3b.out.cell 10
 go_wp2_with fail
 refine (HMO.out w3b B24.out).mono ?_
 rintro o w3c ⟨rfl,hb⟩
 have B25:=Lib.hid (B24.out.trans (hb.mono B24.out.size))
 have KH3c:=Lib.hid (KH3b.out.below hb KH3b.out.lt)
 have KQ3c:=Lib.hid (KQ3b.out.below hb KQ3b.out.lt)
 have B3c:=Lib.hid (B3b.out.trans (hb.mono B3b.out.size))
 have SL3c:=Lib.hid (SL3b.out.below hb)
 clear hb k0 k1 k2 k3 k4 k5 k6 k7 k8 k9 k10
 have HSF:=Lib.hid (show ∀ V,Below w3c.heap.size w3c V→(V.cell? ⟨h,0,none⟩=some (.int .i64 cls)∧V.cell? ⟨h,1,none⟩=some (.int .i64 lab)∧V.cell? ⟨h,2,none⟩=some (.int .i64 ttl)∧V.cell? ⟨h,3,none⟩=some (.bool s6)∧V.cell? ⟨h,4,none⟩=some (.int .u64 sh)∧V.cell? ⟨h,5,none⟩=some (.int .u64 sl)∧V.cell? ⟨h,6,none⟩=some (.bool d6)∧V.cell? ⟨h,7,none⟩=some (.int .u64 dh)∧V.cell? ⟨h,8,none⟩=some (.int .u64 dl)∧V.cell? ⟨h,9,none⟩=some (.slice AX nx cx)∧V.cell? ⟨h,10,none⟩=some (.int .i64 pr)) from fun V hV=>⟨(KH3c.out.below hV KH3c.out.lt).cell 0,(KH3c.out.below hV KH3c.out.lt).cell 1,(KH3c.out.below hV KH3c.out.lt).cell 2,(KH3c.out.below hV KH3c.out.lt).cell 3,(KH3c.out.below hV KH3c.out.lt).cell 4,(KH3c.out.below hV KH3c.out.lt).cell 5,(KH3c.out.below hV KH3c.out.lt).cell 6,(KH3c.out.below hV KH3c.out.lt).cell 7,(KH3c.out.below hV KH3c.out.lt).cell 8,(KH3c.out.below hV KH3c.out.lt).cell 9,(KH3c.out.below hV KH3c.out.lt).cell 10⟩)
 have HLN:=Lib.hid (show ∀ V,Below w3c.heap.size w3c V→Calls Try.prog 50 #[.agg #[.int .i64 cls,.int .i64 lab,.int .i64 ttl,.bool s6,.int .u64 sh,.int .u64 sl,.bool d6,.int .u64 dh,.int .u64 dl,.slice AX nx cx,.int .i64 pr]] V fun o w'=>o=.returned (.int .i64 ((40+xl:Nat)))∧Below V.heap.size V w' from fun V hV=>HLE.out V (B25.out.trans (hV.mono B25.out.size)))
 have wsz:IntKind.i64.wrap (40+(xl:Int)+(m:Int))=sz:=by rw [IntWalk.i64_in _ (by omega),hsz]; omega
 have HS0:=Lib.hid (HSF.out w3c.drew (Below.refl _ _).drew)
 have HSA:=Lib.hid (HSF.out (w3c.alloc (.cells Z 53)).drew (((Below.refl _ _).alloc (Nat.le_refl _) _).drew))
 have HY:=Lib.hid (show (((Z.setIfInBounds 0 (.bool true)).setIfInBounds 10 (.int .i64 ttl)).setIfInBounds 22 (.int .i64 sz))=#[.bool true,.int .i64 0,.bool false,.int .u64 0,.int .u64 0,.bool false,.int .u64 0,.int .u64 0,.int .i64 0,.int .i64 0,.int .i64 ttl,.int .i64 0,.bool false,.int .i64 0,.bool false,.int .u64 0,.int .u64 0,.bool false,.int .u64 0,.int .u64 0,.int .i64 0,.int .i64 0,.int .i64 sz] from by rw [HZ.out]; rfl)
 have HST:=Lib.hid (show ∀ (V:World) (g:Nat),Blk V g 53 Z→(storeCells ⟨g,0,none⟩ (((Z.toList.set 0 (.bool true)).set 10 (.int .i64 ttl)).set 22 (.int .i64 sz)) 0).run Try.prog V=.ok () (V.setRow g (((Z.setIfInBounds 0 (.bool true)).setIfInBounds 10 (.int .i64 ttl)).setIfInBounds 22 (.int .i64 sz))) from fun V g hg=>by
  have h9:=store_pk V g Z (((Z.setIfInBounds 0 (.bool true)).setIfInBounds 10 (.int .i64 ttl)).setIfInBounds 22 (.int .i64 sz)) hg ZS.out (by rw [HY.out]; rfl) (by rw [HY.out]; simp [Value.oneCell'])
  simpa only [Array.toList_setIfInBounds] using h9)
 clear hsz
 go_upto_region 6 with fail
 skip
 have A1:=Lib.hid (show Below w3c.heap.size w3c w3c.drew from (Below.refl _ _).drew)
 have A2:=Lib.hid (show Below w3c.heap.size w3c (w3c.alloc (.cells Z 53)).drew from ((Below.refl _ _).alloc (Nat.le_refl _) _).drew)
 have KN0:=Lib.hid (show Blk (w3c.alloc (.cells Z 53)).drew w3c.heap.size 53 Z from Blk.new w3c 53 Z)
 go_region_held3 (fun V=>V.cell? ⟨h,0,none⟩=some (.int .i64 cls)∧V.cell? ⟨h,1,none⟩=some (.int .i64 lab)∧V.cell? ⟨h,2,none⟩=some (.int .i64 ttl)∧V.cell? ⟨h,3,none⟩=some (.bool s6)∧V.cell? ⟨h,4,none⟩=some (.int .u64 sh)∧V.cell? ⟨h,5,none⟩=some (.int .u64 sl)∧V.cell? ⟨h,6,none⟩=some (.bool d6)∧V.cell? ⟨h,7,none⟩=some (.int .u64 dh)∧V.cell? ⟨h,8,none⟩=some (.int .u64 dl)∧V.cell? ⟨h,9,none⟩=some (.slice AX nx cx)∧V.cell? ⟨h,10,none⟩=some (.int .i64 pr)) (first | with_reducible assumption | with_reducible exact HS0.out | with_reducible exact HSA.out | with_reducible exact HS5.out | with_reducible exact HS6.out | with_reducible exact HS7.out) (first
  | (go_at_call 50; (with_reducible refine (HLN.out _ (by first | with_reducible exact A1.out | with_reducible exact A2.out)).mono ?_); rintro o w5 ⟨rfl,hb5⟩; have O5:=Lib.hid (show Below w3c.heap.size w3c w5 from by first | with_reducible exact below_dr hb5 | with_reducible exact below_al hb5); have KH5:=Lib.hid (KH3c.out.below O5.out KH3c.out.lt); have HS5:=Lib.hid (HSF.out w5 O5.out); (first | (have KN:=Lib.hid (show Blk w5 w3c.heap.size 53 Z from by with_reducible exact KN0.out.below hb5 KN0.out.lt); have ST1:=HST.out w5 w3c.heap.size KN.out; have HNE:=Lib.hid (show h≠w3c.heap.size from by have:=KH3c.out.lt; omega); have ON:=Lib.hid (show OnlyG w3c.heap.size w5 (w5.setRow w3c.heap.size (((Z.setIfInBounds 0 (.bool true)).setIfInBounds 10 (.int .i64 ttl)).setIfInBounds 22 (.int .i64 sz))) from onlyRow _); have KNP:=Lib.hid (show Blk (w5.setRow w3c.heap.size (((Z.setIfInBounds 0 (.bool true)).setIfInBounds 10 (.int .i64 ttl)).setIfInBounds 22 (.int .i64 sz))) w3c.heap.size 53 (((Z.setIfInBounds 0 (.bool true)).setIfInBounds 10 (.int .i64 ttl)).setIfInBounds 22 (.int .i64 sz)) from blkRow KN.out _); have KHN:=Lib.hid (ON.out.blk KH5.out HNE.out); have HS7:=Lib.hid (show (w5.setRow w3c.heap.size (((Z.setIfInBounds 0 (.bool true)).setIfInBounds 10 (.int .i64 ttl)).setIfInBounds 22 (.int .i64 sz))).cell? ⟨h,0,none⟩=some (.int .i64 cls)∧(w5.setRow w3c.heap.size (((Z.setIfInBounds 0 (.bool true)).setIfInBounds 10 (.int .i64 ttl)).setIfInBounds 22 (.int .i64 sz))).cell? ⟨h,1,none⟩=some (.int .i64 lab)∧(w5.setRow w3c.heap.size (((Z.setIfInBounds 0 (.bool true)).setIfInBounds 10 (.int .i64 ttl)).setIfInBounds 22 (.int .i64 sz))).cell? ⟨h,2,none⟩=some (.int .i64 ttl)∧(w5.setRow w3c.heap.size (((Z.setIfInBounds 0 (.bool true)).setIfInBounds 10 (.int .i64 ttl)).setIfInBounds 22 (.int .i64 sz))).cell? ⟨h,3,none⟩=some (.bool s6)∧(w5.setRow w3c.heap.size (((Z.setIfInBounds 0 (.bool true)).setIfInBounds 10 (.int .i64 ttl)).setIfInBounds 22 (.int .i64 sz))).cell? ⟨h,4,none⟩=some (.int .u64 sh)∧(w5.setRow w3c.heap.size (((Z.setIfInBounds 0 (.bool true)).setIfInBounds 10 (.int .i64 ttl)).setIfInBounds 22 (.int .i64 sz))).cell? ⟨h,5,none⟩=some (.int .u64 sl)∧(w5.setRow w3c.heap.size (((Z.setIfInBounds 0 (.bool true)).setIfInBounds 10 (.int .i64 ttl)).setIfInBounds 22 (.int .i64 sz))).cell? ⟨h,6,none⟩=some (.bool d6)∧(w5.setRow w3c.heap.size (((Z.setIfInBounds 0 (.bool true)).setIfInBounds 10 (.int .i64 ttl)).setIfInBounds 22 (.int .i64 sz))).cell? ⟨h,7,none⟩=some (.int .u64 dh)∧(w5.setRow w3c.heap.size (((Z.setIfInBounds 0 (.bool true)).setIfInBounds 10 (.int .i64 ttl)).setIfInBounds 22 (.int .i64 sz))).cell? ⟨h,8,none⟩=some (.int .u64 dl)∧(w5.setRow w3c.heap.size (((Z.setIfInBounds 0 (.bool true)).setIfInBounds 10 (.int .i64 ttl)).setIfInBounds 22 (.int .i64 sz))).cell? ⟨h,9,none⟩=some (.slice AX nx cx)∧(w5.setRow w3c.heap.size (((Z.setIfInBounds 0 (.bool true)).setIfInBounds 10 (.int .i64 ttl)).setIfInBounds 22 (.int .i64 sz))).cell? ⟨h,10,none⟩=some (.int .i64 pr) from ⟨KHN.out.cell 0,KHN.out.cell 1,KHN.out.cell 2,KHN.out.cell 3,KHN.out.cell 4,KHN.out.cell 5,KHN.out.cell 6,KHN.out.cell 7,KHN.out.cell 8,KHN.out.cell 9,KHN.out.cell 10⟩)) | (have HS6:=Lib.hid (HSF.out (w5.alloc (.cells Z 53)) (O5.out.alloc O5.out.size _)); have KN:=Lib.hid (Blk.new w5 53 Z); have ST1:=HST.out (w5.alloc (.cells Z 53)) w5.heap.size KN.out; have KHW:=Lib.hid (KH5.out.alloc (.cells Z 53)); have HNE:=Lib.hid (show h≠w5.heap.size from by have:=KH5.out.lt; omega); have ON:=Lib.hid (show OnlyG w5.heap.size (w5.alloc (.cells Z 53)) ((w5.alloc (.cells Z 53)).setRow w5.heap.size (((Z.setIfInBounds 0 (.bool true)).setIfInBounds 10 (.int .i64 ttl)).setIfInBounds 22 (.int .i64 sz))) from onlyRow _); have KNP:=Lib.hid (show Blk ((w5.alloc (.cells Z 53)).setRow w5.heap.size (((Z.setIfInBounds 0 (.bool true)).setIfInBounds 10 (.int .i64 ttl)).setIfInBounds 22 (.int .i64 sz))) w5.heap.size 53 (((Z.setIfInBounds 0 (.bool true)).setIfInBounds 10 (.int .i64 ttl)).setIfInBounds 22 (.int .i64 sz)) from blkRow KN.out _); have KHN:=Lib.hid (ON.out.blk KHW.out HNE.out); have HS7:=Lib.hid (show ((w5.alloc (.cells Z 53)).setRow w5.heap.size (((Z.setIfInBounds 0 (.bool true)).setIfInBounds 10 (.int .i64 ttl)).setIfInBounds 22 (.int .i64 sz))).cell? ⟨h,0,none⟩=some (.int .i64 cls)∧((w5.alloc (.cells Z 53)).setRow w5.heap.size (((Z.setIfInBounds 0 (.bool true)).setIfInBounds 10 (.int .i64 ttl)).setIfInBounds 22 (.int .i64 sz))).cell? ⟨h,1,none⟩=some (.int .i64 lab)∧((w5.alloc (.cells Z 53)).setRow w5.heap.size (((Z.setIfInBounds 0 (.bool true)).setIfInBounds 10 (.int .i64 ttl)).setIfInBounds 22 (.int .i64 sz))).cell? ⟨h,2,none⟩=some (.int .i64 ttl)∧((w5.alloc (.cells Z 53)).setRow w5.heap.size (((Z.setIfInBounds 0 (.bool true)).setIfInBounds 10 (.int .i64 ttl)).setIfInBounds 22 (.int .i64 sz))).cell? ⟨h,3,none⟩=some (.bool s6)∧((w5.alloc (.cells Z 53)).setRow w5.heap.size (((Z.setIfInBounds 0 (.bool true)).setIfInBounds 10 (.int .i64 ttl)).setIfInBounds 22 (.int .i64 sz))).cell? ⟨h,4,none⟩=some (.int .u64 sh)∧((w5.alloc (.cells Z 53)).setRow w5.heap.size (((Z.setIfInBounds 0 (.bool true)).setIfInBounds 10 (.int .i64 ttl)).setIfInBounds 22 (.int .i64 sz))).cell? ⟨h,5,none⟩=some (.int .u64 sl)∧((w5.alloc (.cells Z 53)).setRow w5.heap.size (((Z.setIfInBounds 0 (.bool true)).setIfInBounds 10 (.int .i64 ttl)).setIfInBounds 22 (.int .i64 sz))).cell? ⟨h,6,none⟩=some (.bool d6)∧((w5.alloc (.cells Z 53)).setRow w5.heap.size (((Z.setIfInBounds 0 (.bool true)).setIfInBounds 10 (.int .i64 ttl)).setIfInBounds 22 (.int .i64 sz))).cell? ⟨h,7,none⟩=some (.int .u64 dh)∧((w5.alloc (.cells Z 53)).setRow w5.heap.size (((Z.setIfInBounds 0 (.bool true)).setIfInBounds 10 (.int .i64 ttl)).setIfInBounds 22 (.int .i64 sz))).cell? ⟨h,8,none⟩=some (.int .u64 dl)∧((w5.alloc (.cells Z 53)).setRow w5.heap.size (((Z.setIfInBounds 0 (.bool true)).setIfInBounds 10 (.int .i64 ttl)).setIfInBounds 22 (.int .i64 sz))).cell? ⟨h,9,none⟩=some (.slice AX nx cx)∧((w5.alloc (.cells Z 53)).setRow w5.heap.size (((Z.setIfInBounds 0 (.bool true)).setIfInBounds 10 (.int .i64 ttl)).setIfInBounds 22 (.int .i64 sz))).cell? ⟨h,10,none⟩=some (.int .i64 pr) from ⟨KHN.out.cell 0,KHN.out.cell 1,KHN.out.cell 2,KHN.out.cell 3,KHN.out.cell 4,KHN.out.cell 5,KHN.out.cell 6,KHN.out.cell 7,KHN.out.cell 8,KHN.out.cell 9,KHN.out.cell 10⟩))); clear hb5))
 ·obtain ⟨w6,hw6⟩:∃ w6,w6=(w5.alloc (.cells Z 53)).setRow w5.heap.size (((Z.setIfInBounds 0 (.bool true)).setIfInBounds 10 (.int .i64 ttl)).setIfInBounds 22 (.int .i64 sz)):=⟨_,rfl⟩
  obtain ⟨qn,hqn⟩:∃ qn,qn=w5.heap.size:=⟨_,rfl⟩
  have E6:=Lib.hid hw6
  have EN:=Lib.hid hqn
  have BB6:=Lib.hid (show Below w3c.heap.size w3c w6 from by rw [hw6]; exact ON.out.from (O5.out.alloc O5.out.size _) O5.out.size)
  have KN6:=Lib.hid (show Blk w6 qn 53 #[.bool true,.int .i64 0,.bool false,.int .u64 0,.int .u64 0,.bool false,.int .u64 0,.int .u64 0,.int .i64 0,.int .i64 0,.int .i64 ttl,.int .i64 0,.bool false,.int .i64 0,.bool false,.int .u64 0,.int .u64 0,.bool false,.int .u64 0,.int .u64 0,.int .i64 0,.int .i64 0,.int .i64 sz] from by rw [hw6,hqn,← HY.out]; exact KNP.out)
  have KQ6:=Lib.hid (KQ3c.out.below BB6.out KQ3c.out.lt)
  have KH6:=Lib.hid (KH3c.out.below BB6.out KH3c.out.lt)
  have SL6:=Lib.hid (SL3c.out.below BB6.out)
  have B6:=Lib.hid (B3c.out.trans (BB6.out.mono B3c.out.size))
  have QN:=Lib.hid (show w3c.heap.size≤qn from by rw [hqn]; first | exact Nat.le_refl _ | exact O5.out.size)
  rw [← E6.out,← EN.out]
  clear hw6 hqn
  have k_0:Blk (w6.setCell ⟨qn,1,none⟩ (.int .i64 pr)) qn 53 #[.bool true,.int .i64 pr,.bool false,.int .u64 0,.int .u64 0,.bool false,.int .u64 0,.int .u64 0,.int .i64 0,.int .i64 0,.int .i64 ttl,.int .i64 0,.bool false,.int .i64 0,.bool false,.int .u64 0,.int .u64 0,.bool false,.int .u64 0,.int .u64 0,.int .i64 0,.int .i64 0,.int .i64 sz]:=KN6.out.set_ 1 _
  have k_1:Blk ((w6.setCell ⟨qn,1,none⟩ (.int .i64 pr)).setCell ⟨qn,2,none⟩ (.bool s6)) qn 53 #[.bool true,.int .i64 pr,.bool s6,.int .u64 0,.int .u64 0,.bool false,.int .u64 0,.int .u64 0,.int .i64 0,.int .i64 0,.int .i64 ttl,.int .i64 0,.bool false,.int .i64 0,.bool false,.int .u64 0,.int .u64 0,.bool false,.int .u64 0,.int .u64 0,.int .i64 0,.int .i64 0,.int .i64 sz]:=k_0.set_ 2 _
  have k_2:Blk (((w6.setCell ⟨qn,1,none⟩ (.int .i64 pr)).setCell ⟨qn,2,none⟩ (.bool s6)).setCell ⟨qn,3,none⟩ (.int .u64 sh)) qn 53 #[.bool true,.int .i64 pr,.bool s6,.int .u64 sh,.int .u64 0,.bool false,.int .u64 0,.int .u64 0,.int .i64 0,.int .i64 0,.int .i64 ttl,.int .i64 0,.bool false,.int .i64 0,.bool false,.int .u64 0,.int .u64 0,.bool false,.int .u64 0,.int .u64 0,.int .i64 0,.int .i64 0,.int .i64 sz]:=k_1.set_ 3 _
  have k_3:Blk ((((w6.setCell ⟨qn,1,none⟩ (.int .i64 pr)).setCell ⟨qn,2,none⟩ (.bool s6)).setCell ⟨qn,3,none⟩ (.int .u64 sh)).setCell ⟨qn,4,none⟩ (.int .u64 sl)) qn 53 #[.bool true,.int .i64 pr,.bool s6,.int .u64 sh,.int .u64 sl,.bool false,.int .u64 0,.int .u64 0,.int .i64 0,.int .i64 0,.int .i64 ttl,.int .i64 0,.bool false,.int .i64 0,.bool false,.int .u64 0,.int .u64 0,.bool false,.int .u64 0,.int .u64 0,.int .i64 0,.int .i64 0,.int .i64 sz]:=k_2.set_ 4 _
  have k_4:Blk (((((w6.setCell ⟨qn,1,none⟩ (.int .i64 pr)).setCell ⟨qn,2,none⟩ (.bool s6)).setCell ⟨qn,3,none⟩ (.int .u64 sh)).setCell ⟨qn,4,none⟩ (.int .u64 sl)).setCell ⟨qn,5,none⟩ (.bool d6)) qn 53 #[.bool true,.int .i64 pr,.bool s6,.int .u64 sh,.int .u64 sl,.bool d6,.int .u64 0,.int .u64 0,.int .i64 0,.int .i64 0,.int .i64 ttl,.int .i64 0,.bool false,.int .i64 0,.bool false,.int .u64 0,.int .u64 0,.bool false,.int .u64 0,.int .u64 0,.int .i64 0,.int .i64 0,.int .i64 sz]:=k_3.set_ 5 _
  have k_5:Blk ((((((w6.setCell ⟨qn,1,none⟩ (.int .i64 pr)).setCell ⟨qn,2,none⟩ (.bool s6)).setCell ⟨qn,3,none⟩ (.int .u64 sh)).setCell ⟨qn,4,none⟩ (.int .u64 sl)).setCell ⟨qn,5,none⟩ (.bool d6)).setCell ⟨qn,6,none⟩ (.int .u64 dh)) qn 53 #[.bool true,.int .i64 pr,.bool s6,.int .u64 sh,.int .u64 sl,.bool d6,.int .u64 dh,.int .u64 0,.int .i64 0,.int .i64 0,.int .i64 ttl,.int .i64 0,.bool false,.int .i64 0,.bool false,.int .u64 0,.int .u64 0,.bool false,.int .u64 0,.int .u64 0,.int .i64 0,.int .i64 0,.int .i64 sz]:=k_4.set_ 6 _
  have k_6:Blk (((((((w6.setCell ⟨qn,1,none⟩ (.int .i64 pr)).setCell ⟨qn,2,none⟩ (.bool s6)).setCell ⟨qn,3,none⟩ (.int .u64 sh)).setCell ⟨qn,4,none⟩ (.int .u64 sl)).setCell ⟨qn,5,none⟩ (.bool d6)).setCell ⟨qn,6,none⟩ (.int .u64 dh)).setCell ⟨qn,7,none⟩ (.int .u64 dl)) qn 53 #[.bool true,.int .i64 pr,.bool s6,.int .u64 sh,.int .u64 sl,.bool d6,.int .u64 dh,.int .u64 dl,.int .i64 0,.int .i64 0,.int .i64 ttl,.int .i64 0,.bool false,.int .i64 0,.bool false,.int .u64 0,.int .u64 0,.bool false,.int .u64 0,.int .u64 0,.int .i64 0,.int .i64 0,.int .i64 sz]:=k_5.set_ 7 _
  have k_7:Blk ((((((((w6.setCell ⟨qn,1,none⟩ (.int .i64 pr)).setCell ⟨qn,2,none⟩ (.bool s6)).setCell ⟨qn,3,none⟩ (.int .u64 sh)).setCell ⟨qn,4,none⟩ (.int .u64 sl)).setCell ⟨qn,5,none⟩ (.bool d6)).setCell ⟨qn,6,none⟩ (.int .u64 dh)).setCell ⟨qn,7,none⟩ (.int .u64 dl)).setCell ⟨qn,8,none⟩ (.int .i64 0)) qn 53 #[.bool true,.int .i64 pr,.bool s6,.int .u64 sh,.int .u64 sl,.bool d6,.int .u64 dh,.int .u64 dl,.int .i64 0,.int .i64 0,.int .i64 ttl,.int .i64 0,.bool false,.int .i64 0,.bool false,.int .u64 0,.int .u64 0,.bool false,.int .u64 0,.int .u64 0,.int .i64 0,.int .i64 0,.int .i64 sz]:=k_6.set_ 8 _
  have k_8:Blk (((((((((w6.setCell ⟨qn,1,none⟩ (.int .i64 pr)).setCell ⟨qn,2,none⟩ (.bool s6)).setCell ⟨qn,3,none⟩ (.int .u64 sh)).setCell ⟨qn,4,none⟩ (.int .u64 sl)).setCell ⟨qn,5,none⟩ (.bool d6)).setCell ⟨qn,6,none⟩ (.int .u64 dh)).setCell ⟨qn,7,none⟩ (.int .u64 dl)).setCell ⟨qn,8,none⟩ (.int .i64 0)).setCell ⟨qn,9,none⟩ (.int .i64 0)) qn 53 #[.bool true,.int .i64 pr,.bool s6,.int .u64 sh,.int .u64 sl,.bool d6,.int .u64 dh,.int .u64 dl,.int .i64 0,.int .i64 0,.int .i64 ttl,.int .i64 0,.bool false,.int .i64 0,.bool false,.int .u64 0,.int .u64 0,.bool false,.int .u64 0,.int .u64 0,.int .i64 0,.int .i64 0,.int .i64 sz]:=k_7.set_ 9 _
  obtain ⟨w7,hw7⟩:∃ w7,w7=(((((((((w6.setCell ⟨qn,1,none⟩ (.int .i64 pr)).setCell ⟨qn,2,none⟩ (.bool s6)).setCell ⟨qn,3,none⟩ (.int .u64 sh)).setCell ⟨qn,4,none⟩ (.int .u64 sl)).setCell ⟨qn,5,none⟩ (.bool d6)).setCell ⟨qn,6,none⟩ (.int .u64 dh)).setCell ⟨qn,7,none⟩ (.int .u64 dl)).setCell ⟨qn,8,none⟩ (.int .i64 0)).setCell ⟨qn,9,none⟩ (.int .i64 0)):=⟨_,rfl⟩
  have E7:=Lib.hid hw7
  have OG7:=Lib.hid (show OnlyG qn w6 w7 from by rw [hw7]; exact ((((((((((OnlyG.refl qn w6).set 1 (.int .i64 pr)).set 2 (.bool s6)).set 3 (.int .u64 sh)).set 4 (.int .u64 sl)).set 5 (.bool d6)).set 6 (.int .u64 dh)).set 7 (.int .u64 dl)).set 8 (.int .i64 0)).set 9 (.int .i64 0)))
  have KN7:=Lib.hid (show Blk w7 qn 53 #[.bool true,.int .i64 pr,.bool s6,.int .u64 sh,.int .u64 sl,.bool d6,.int .u64 dh,.int .u64 dl,.int .i64 0,.int .i64 0,.int .i64 ttl,.int .i64 0,.bool false,.int .i64 0,.bool false,.int .u64 0,.int .u64 0,.bool false,.int .u64 0,.int .u64 0,.int .i64 0,.int .i64 0,.int .i64 sz] from by rw [hw7]; exact k_8)
  have BB7:=Lib.hid (OG7.out.from BB6.out QN.out)
  have KQ7:=Lib.hid (KQ3c.out.below BB7.out KQ3c.out.lt)
  have SL7:=Lib.hid (SL3c.out.below BB7.out)
  have B7:=Lib.hid (B3c.out.trans (BB7.out.mono B3c.out.size))
  have PW:=Lib.hid (HW.out w7 AR cr B7.out SL7.out)
  have PS:=Lib.hid (show ∀ u ∈ P.cells.toList,u.oneCell'=true from by simp [Pk.cells,Value.oneCell'])
  have PS2:=Lib.hid (show P.cells.all (·.oneCell')=true from by simp [Pk.cells,Value.oneCell'])
  clear hw7 k_0 k_1 k_2 k_3 k_4 k_5 k_6 k_7 k_8
  have k0:=KH6.out.cell 0
  have k1:=KH6.out.cell 1
  have k2:=KH6.out.cell 2
  have k3:=KH6.out.cell 3
  have k4:=KH6.out.cell 4
  have k5:=KH6.out.cell 5
  have k6:=KH6.out.cell 6
  have k7:=KH6.out.cell 7
  have k8:=KH6.out.cell 8
  have k9:=KH6.out.cell 9
  have k10:=KH6.out.cell 10
  have y1:=KN6.out.cell 1
  have z1:=KN6.out.frozen 1
  have y2:=KN6.out.cell 2
  have z2:=KN6.out.frozen 2
  have y3:=KN6.out.cell 3
  have z3:=KN6.out.frozen 3
  have y4:=KN6.out.cell 4
  have z4:=KN6.out.frozen 4
  have y5:=KN6.out.cell 5
  have z5:=KN6.out.frozen 5
  have y6:=KN6.out.cell 6
  have z6:=KN6.out.frozen 6
  have y7:=KN6.out.cell 7
  have z7:=KN6.out.frozen 7
  have y8:=KN6.out.cell 8
  have z8:=KN6.out.frozen 8
  have y9:=KN6.out.cell 9
  have z9:=KN6.out.frozen 9
  go_upto_region 8 with fail
  rw [← E7.out]
  clear k0 k1 k2 k3 k4 k5 k6 k7 k8 k9 k10 y1 z1 y2 z2 y3 z3 y4 z4 y5 z5 y6 z6 y7 z7 y8 z8 y9 z9
  go_wp2_with (first
   | (refine wpList_load_row rfl 53 _ rfl qn rfl 53 #[.bool true,.int .i64 pr,.bool s6,.int .u64 sh,.int .u64 sl,.bool d6,.int .u64 dh,.int .u64 dl,.int .i64 0,.int .i64 0,.int .i64 ttl,.int .i64 0,.bool false,.int .i64 0,.bool false,.int .u64 0,.int .u64 0,.bool false,.int .u64 0,.int .u64 0,.int .i64 0,.int .i64 0,.int .i64 sz] (0,0) _ KN7.out Try.underlying53 rfl HI.out ?_)
   | (go_at_call 46; refine PW.out.mono ?_; rintro o w8 ⟨rfl,hb8⟩; have KQ8:=Lib.hid (KQ7.out.below hb8 KQ7.out.lt); have B8:=Lib.hid (B7.out.trans (hb8.mono B7.out.size)); clear hb8)
   | (refine wpList_store_row rfl 53 _ _ rfl q P.cells rfl rfl 53 Z KQ8.out HI.out ZS.out PS2.out ?_))
  refine bodyPost_ret (results_pk rfl _ _ q P.cells rfl (blkRow KQ8.out _) rfl) rfl ?_
  exact ⟨rfl,(onlyRow _).from B8.out (by have:=EQ.out; omega)⟩
 ·obtain ⟨w6,hw6⟩:∃ w6,w6=w5.setRow w3c.heap.size (((Z.setIfInBounds 0 (.bool true)).setIfInBounds 10 (.int .i64 ttl)).setIfInBounds 22 (.int .i64 sz)):=⟨_,rfl⟩
  obtain ⟨qn,hqn⟩:∃ qn,qn=w3c.heap.size:=⟨_,rfl⟩
  have E6:=Lib.hid hw6
  have EN:=Lib.hid hqn
  have BB6:=Lib.hid (show Below w3c.heap.size w3c w6 from by rw [hw6]; exact ON.out.from O5.out (Nat.le_refl _))
  have KN6:=Lib.hid (show Blk w6 qn 53 #[.bool true,.int .i64 0,.bool false,.int .u64 0,.int .u64 0,.bool false,.int .u64 0,.int .u64 0,.int .i64 0,.int .i64 0,.int .i64 ttl,.int .i64 0,.bool false,.int .i64 0,.bool false,.int .u64 0,.int .u64 0,.bool false,.int .u64 0,.int .u64 0,.int .i64 0,.int .i64 0,.int .i64 sz] from by rw [hw6,hqn,← HY.out]; exact KNP.out)
  have KQ6:=Lib.hid (KQ3c.out.below BB6.out KQ3c.out.lt)
  have KH6:=Lib.hid (KH3c.out.below BB6.out KH3c.out.lt)
  have SL6:=Lib.hid (SL3c.out.below BB6.out)
  have B6:=Lib.hid (B3c.out.trans (BB6.out.mono B3c.out.size))
  have QN:=Lib.hid (show w3c.heap.size≤qn from by rw [hqn]; first | exact Nat.le_refl _ | exact O5.out.size)
  rw [← E6.out,← EN.out]
  clear hw6 hqn
  have k_0:Blk (w6.setCell ⟨qn,1,none⟩ (.int .i64 pr)) qn 53 #[.bool true,.int .i64 pr,.bool false,.int .u64 0,.int .u64 0,.bool false,.int .u64 0,.int .u64 0,.int .i64 0,.int .i64 0,.int .i64 ttl,.int .i64 0,.bool false,.int .i64 0,.bool false,.int .u64 0,.int .u64 0,.bool false,.int .u64 0,.int .u64 0,.int .i64 0,.int .i64 0,.int .i64 sz]:=KN6.out.set_ 1 _
  have k_1:Blk ((w6.setCell ⟨qn,1,none⟩ (.int .i64 pr)).setCell ⟨qn,2,none⟩ (.bool s6)) qn 53 #[.bool true,.int .i64 pr,.bool s6,.int .u64 0,.int .u64 0,.bool false,.int .u64 0,.int .u64 0,.int .i64 0,.int .i64 0,.int .i64 ttl,.int .i64 0,.bool false,.int .i64 0,.bool false,.int .u64 0,.int .u64 0,.bool false,.int .u64 0,.int .u64 0,.int .i64 0,.int .i64 0,.int .i64 sz]:=k_0.set_ 2 _
  have k_2:Blk (((w6.setCell ⟨qn,1,none⟩ (.int .i64 pr)).setCell ⟨qn,2,none⟩ (.bool s6)).setCell ⟨qn,3,none⟩ (.int .u64 sh)) qn 53 #[.bool true,.int .i64 pr,.bool s6,.int .u64 sh,.int .u64 0,.bool false,.int .u64 0,.int .u64 0,.int .i64 0,.int .i64 0,.int .i64 ttl,.int .i64 0,.bool false,.int .i64 0,.bool false,.int .u64 0,.int .u64 0,.bool false,.int .u64 0,.int .u64 0,.int .i64 0,.int .i64 0,.int .i64 sz]:=k_1.set_ 3 _
  have k_3:Blk ((((w6.setCell ⟨qn,1,none⟩ (.int .i64 pr)).setCell ⟨qn,2,none⟩ (.bool s6)).setCell ⟨qn,3,none⟩ (.int .u64 sh)).setCell ⟨qn,4,none⟩ (.int .u64 sl)) qn 53 #[.bool true,.int .i64 pr,.bool s6,.int .u64 sh,.int .u64 sl,.bool false,.int .u64 0,.int .u64 0,.int .i64 0,.int .i64 0,.int .i64 ttl,.int .i64 0,.bool false,.int .i64 0,.bool false,.int .u64 0,.int .u64 0,.bool false,.int .u64 0,.int .u64 0,.int .i64 0,.int .i64 0,.int .i64 sz]:=k_2.set_ 4 _
  have k_4:Blk (((((w6.setCell ⟨qn,1,none⟩ (.int .i64 pr)).setCell ⟨qn,2,none⟩ (.bool s6)).setCell ⟨qn,3,none⟩ (.int .u64 sh)).setCell ⟨qn,4,none⟩ (.int .u64 sl)).setCell ⟨qn,5,none⟩ (.bool d6)) qn 53 #[.bool true,.int .i64 pr,.bool s6,.int .u64 sh,.int .u64 sl,.bool d6,.int .u64 0,.int .u64 0,.int .i64 0,.int .i64 0,.int .i64 ttl,.int .i64 0,.bool false,.int .i64 0,.bool false,.int .u64 0,.int .u64 0,.bool false,.int .u64 0,.int .u64 0,.int .i64 0,.int .i64 0,.int .i64 sz]:=k_3.set_ 5 _
  have k_5:Blk ((((((w6.setCell ⟨qn,1,none⟩ (.int .i64 pr)).setCell ⟨qn,2,none⟩ (.bool s6)).setCell ⟨qn,3,none⟩ (.int .u64 sh)).setCell ⟨qn,4,none⟩ (.int .u64 sl)).setCell ⟨qn,5,none⟩ (.bool d6)).setCell ⟨qn,6,none⟩ (.int .u64 dh)) qn 53 #[.bool true,.int .i64 pr,.bool s6,.int .u64 sh,.int .u64 sl,.bool d6,.int .u64 dh,.int .u64 0,.int .i64 0,.int .i64 0,.int .i64 ttl,.int .i64 0,.bool false,.int .i64 0,.bool false,.int .u64 0,.int .u64 0,.bool false,.int .u64 0,.int .u64 0,.int .i64 0,.int .i64 0,.int .i64 sz]:=k_4.set_ 6 _
  have k_6:Blk (((((((w6.setCell ⟨qn,1,none⟩ (.int .i64 pr)).setCell ⟨qn,2,none⟩ (.bool s6)).setCell ⟨qn,3,none⟩ (.int .u64 sh)).setCell ⟨qn,4,none⟩ (.int .u64 sl)).setCell ⟨qn,5,none⟩ (.bool d6)).setCell ⟨qn,6,none⟩ (.int .u64 dh)).setCell ⟨qn,7,none⟩ (.int .u64 dl)) qn 53 #[.bool true,.int .i64 pr,.bool s6,.int .u64 sh,.int .u64 sl,.bool d6,.int .u64 dh,.int .u64 dl,.int .i64 0,.int .i64 0,.int .i64 ttl,.int .i64 0,.bool false,.int .i64 0,.bool false,.int .u64 0,.int .u64 0,.bool false,.int .u64 0,.int .u64 0,.int .i64 0,.int .i64 0,.int .i64 sz]:=k_5.set_ 7 _
  have k_7:Blk ((((((((w6.setCell ⟨qn,1,none⟩ (.int .i64 pr)).setCell ⟨qn,2,none⟩ (.bool s6)).setCell ⟨qn,3,none⟩ (.int .u64 sh)).setCell ⟨qn,4,none⟩ (.int .u64 sl)).setCell ⟨qn,5,none⟩ (.bool d6)).setCell ⟨qn,6,none⟩ (.int .u64 dh)).setCell ⟨qn,7,none⟩ (.int .u64 dl)).setCell ⟨qn,8,none⟩ (.int .i64 0)) qn 53 #[.bool true,.int .i64 pr,.bool s6,.int .u64 sh,.int .u64 sl,.bool d6,.int .u64 dh,.int .u64 dl,.int .i64 0,.int .i64 0,.int .i64 ttl,.int .i64 0,.bool false,.int .i64 0,.bool false,.int .u64 0,.int .u64 0,.bool false,.int .u64 0,.int .u64 0,.int .i64 0,.int .i64 0,.int .i64 sz]:=k_6.set_ 8 _
  have k_8:Blk (((((((((w6.setCell ⟨qn,1,none⟩ (.int .i64 pr)).setCell ⟨qn,2,none⟩ (.bool s6)).setCell ⟨qn,3,none⟩ (.int .u64 sh)).setCell ⟨qn,4,none⟩ (.int .u64 sl)).setCell ⟨qn,5,none⟩ (.bool d6)).setCell ⟨qn,6,none⟩ (.int .u64 dh)).setCell ⟨qn,7,none⟩ (.int .u64 dl)).setCell ⟨qn,8,none⟩ (.int .i64 0)).setCell ⟨qn,9,none⟩ (.int .i64 0)) qn 53 #[.bool true,.int .i64 pr,.bool s6,.int .u64 sh,.int .u64 sl,.bool d6,.int .u64 dh,.int .u64 dl,.int .i64 0,.int .i64 0,.int .i64 ttl,.int .i64 0,.bool false,.int .i64 0,.bool false,.int .u64 0,.int .u64 0,.bool false,.int .u64 0,.int .u64 0,.int .i64 0,.int .i64 0,.int .i64 sz]:=k_7.set_ 9 _
  obtain ⟨w7,hw7⟩:∃ w7,w7=(((((((((w6.setCell ⟨qn,1,none⟩ (.int .i64 pr)).setCell ⟨qn,2,none⟩ (.bool s6)).setCell ⟨qn,3,none⟩ (.int .u64 sh)).setCell ⟨qn,4,none⟩ (.int .u64 sl)).setCell ⟨qn,5,none⟩ (.bool d6)).setCell ⟨qn,6,none⟩ (.int .u64 dh)).setCell ⟨qn,7,none⟩ (.int .u64 dl)).setCell ⟨qn,8,none⟩ (.int .i64 0)).setCell ⟨qn,9,none⟩ (.int .i64 0)):=⟨_,rfl⟩
  have E7:=Lib.hid hw7
  have OG7:=Lib.hid (show OnlyG qn w6 w7 from by rw [hw7]; exact ((((((((((OnlyG.refl qn w6).set 1 (.int .i64 pr)).set 2 (.bool s6)).set 3 (.int .u64 sh)).set 4 (.int .u64 sl)).set 5 (.bool d6)).set 6 (.int .u64 dh)).set 7 (.int .u64 dl)).set 8 (.int .i64 0)).set 9 (.int .i64 0)))
  have KN7:=Lib.hid (show Blk w7 qn 53 #[.bool true,.int .i64 pr,.bool s6,.int .u64 sh,.int .u64 sl,.bool d6,.int .u64 dh,.int .u64 dl,.int .i64 0,.int .i64 0,.int .i64 ttl,.int .i64 0,.bool false,.int .i64 0,.bool false,.int .u64 0,.int .u64 0,.bool false,.int .u64 0,.int .u64 0,.int .i64 0,.int .i64 0,.int .i64 sz] from by rw [hw7]; exact k_8)
  have BB7:=Lib.hid (OG7.out.from BB6.out QN.out)
  have KQ7:=Lib.hid (KQ3c.out.below BB7.out KQ3c.out.lt)
  have SL7:=Lib.hid (SL3c.out.below BB7.out)
  have B7:=Lib.hid (B3c.out.trans (BB7.out.mono B3c.out.size))
  have PW:=Lib.hid (HW.out w7 AR cr B7.out SL7.out)
  have PS:=Lib.hid (show ∀ u ∈ P.cells.toList,u.oneCell'=true from by simp [Pk.cells,Value.oneCell'])
  have PS2:=Lib.hid (show P.cells.all (·.oneCell')=true from by simp [Pk.cells,Value.oneCell'])
  clear hw7 k_0 k_1 k_2 k_3 k_4 k_5 k_6 k_7 k_8
  have k0:=KH6.out.cell 0
  have k1:=KH6.out.cell 1
  have k2:=KH6.out.cell 2
  have k3:=KH6.out.cell 3
  have k4:=KH6.out.cell 4
  have k5:=KH6.out.cell 5
  have k6:=KH6.out.cell 6
  have k7:=KH6.out.cell 7
  have k8:=KH6.out.cell 8
  have k9:=KH6.out.cell 9
  have k10:=KH6.out.cell 10
  have y1:=KN6.out.cell 1
  have z1:=KN6.out.frozen 1
  have y2:=KN6.out.cell 2
  have z2:=KN6.out.frozen 2
  have y3:=KN6.out.cell 3
  have z3:=KN6.out.frozen 3
  have y4:=KN6.out.cell 4
  have z4:=KN6.out.frozen 4
  have y5:=KN6.out.cell 5
  have z5:=KN6.out.frozen 5
  have y6:=KN6.out.cell 6
  have z6:=KN6.out.frozen 6
  have y7:=KN6.out.cell 7
  have z7:=KN6.out.frozen 7
  have y8:=KN6.out.cell 8
  have z8:=KN6.out.frozen 8
  have y9:=KN6.out.cell 9
  have z9:=KN6.out.frozen 9
  go_upto_region 8 with fail
  rw [← E7.out]
  clear k0 k1 k2 k3 k4 k5 k6 k7 k8 k9 k10 y1 z1 y2 z2 y3 z3 y4 z4 y5 z5 y6 z6 y7 z7 y8 z8 y9 z9
  go_wp2_with (first
   | (refine wpList_load_row rfl 53 _ rfl qn rfl 53 #[.bool true,.int .i64 pr,.bool s6,.int .u64 sh,.int .u64 sl,.bool d6,.int .u64 dh,.int .u64 dl,.int .i64 0,.int .i64 0,.int .i64 ttl,.int .i64 0,.bool false,.int .i64 0,.bool false,.int .u64 0,.int .u64 0,.bool false,.int .u64 0,.int .u64 0,.int .i64 0,.int .i64 0,.int .i64 sz] (0,0) _ KN7.out Try.underlying53 rfl HI.out ?_)
   | (go_at_call 46; refine PW.out.mono ?_; rintro o w8 ⟨rfl,hb8⟩; have KQ8:=Lib.hid (KQ7.out.below hb8 KQ7.out.lt); have B8:=Lib.hid (B7.out.trans (hb8.mono B7.out.size)); clear hb8)
   | (refine wpList_store_row rfl 53 _ _ rfl q P.cells rfl rfl 53 Z KQ8.out HI.out ZS.out PS2.out ?_))
  refine bodyPost_ret (results_pk rfl _ _ q P.cells rfl (blkRow KQ8.out _) rfl) rfl ?_
  exact ⟨rfl,(onlyRow _).from B8.out (by have:=EQ.out; omega)⟩
end Go.Proofs.Ytnofddbfogilaaa.pktF
