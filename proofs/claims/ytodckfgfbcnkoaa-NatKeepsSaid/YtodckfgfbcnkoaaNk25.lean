/- 6 texts in one. -/
import Derived.Deep.RegionHeld3
import Derived.Test.YtodckfgfbcnkoaaNk01
import Derived.Test.YtodckfgfbcnkoaaNk04
import Derived.Test.YtodckfgfbcnkoaaNk05
import Derived.Test.YtodckfgfbcnkoaaNk22
import Derived.Test.YtodckfgfbcnkoaaNk23
import Derived.Test.YtodckfgfbcnkoaaNk24
set_option linter.unusedVariables false
open Go.ChangeShapes Go.WideShapes Go.ChangeAt Go.RowKit
/- Layer 8: headers that may not be: four says so. -/
namespace Go.Proofs.Ytodckfgfbcnkoaa.fourJn
set_option maxHeartbeats 8000000
set_option maxRecDepth 100000
open base sumB rdrA net fourOn
theorem right_no (tos id:Int) (df mf:Bool) (fr ttl pr:Int) (s6:Bool) (sh sl:Int) (d6:Bool) (dh dl:Int) (AO:Option Addr) (no co:Nat) (w:World) (l0:0≤sl) (l1:0≤dl) (h:¬ okG tos id fr ttl pr s6 sh sl d6 dh dl no) :
  Calls Try.prog 70 #[.agg #[.int .i64 tos,.int .i64 id,.bool df,.bool mf,.int .i64 fr,.int .i64 ttl,.int .i64 pr,.bool s6,.int .u64 sh,.int .u64 sl,.bool d6,.int .u64 dh,.int .u64 dl,.slice AO no co]] w fun e w'=>e=.returned (.bool false)∧Below w.heap.size w w':=by
 have i0:∀ w,(Instr.index 134 (.agg #[.int .i64 tos,.int .i64 255,.int .i64 ttl,.int .i64 255,.int .i64 pr,.int .i64 255,.int .i64 id,.int .i64 65535,.int .i64 fr,.int .i64 8191]) (.int .i64 0)).run Try.prog w=.ok (.agg #[.int .i64 tos,.int .i64 255]) w:=fun _=>by kernel_rfl
 have i1:∀ w,(Instr.index 134 (.agg #[.int .i64 tos,.int .i64 255,.int .i64 ttl,.int .i64 255,.int .i64 pr,.int .i64 255,.int .i64 id,.int .i64 65535,.int .i64 fr,.int .i64 8191]) (.int .i64 1)).run Try.prog w=.ok (.agg #[.int .i64 ttl,.int .i64 255]) w:=fun _=>by kernel_rfl
 have i2:∀ w,(Instr.index 134 (.agg #[.int .i64 tos,.int .i64 255,.int .i64 ttl,.int .i64 255,.int .i64 pr,.int .i64 255,.int .i64 id,.int .i64 65535,.int .i64 fr,.int .i64 8191]) (.int .i64 2)).run Try.prog w=.ok (.agg #[.int .i64 pr,.int .i64 255]) w:=fun _=>by kernel_rfl
 have i3:∀ w,(Instr.index 134 (.agg #[.int .i64 tos,.int .i64 255,.int .i64 ttl,.int .i64 255,.int .i64 pr,.int .i64 255,.int .i64 id,.int .i64 65535,.int .i64 fr,.int .i64 8191]) (.int .i64 3)).run Try.prog w=.ok (.agg #[.int .i64 id,.int .i64 65535]) w:=fun _=>by kernel_rfl
 have i4:∀ w,(Instr.index 134 (.agg #[.int .i64 tos,.int .i64 255,.int .i64 ttl,.int .i64 255,.int .i64 pr,.int .i64 255,.int .i64 id,.int .i64 65535,.int .i64 fr,.int .i64 8191]) (.int .i64 4)).run Try.prog w=.ok (.agg #[.int .i64 fr,.int .i64 8191]) w:=fun _=>by kernel_rfl
 have k0:∀ w,(Instr.index 135 (.agg #[.bool s6,.int .u64 sh,.int .u64 sl,.bool d6,.int .u64 dh,.int .u64 dl]) (.int .i64 0)).run Try.prog w=.ok (.agg #[.bool s6,.int .u64 sh,.int .u64 sl]) w:=fun _=>by kernel_rfl
 have k1:∀ w,(Instr.index 135 (.agg #[.bool s6,.int .u64 sh,.int .u64 sl,.bool d6,.int .u64 dh,.int .u64 dl]) (.int .i64 1)).run Try.prog w=.ok (.agg #[.bool d6,.int .u64 dh,.int .u64 dl]) w:=fun _=>by kernel_rfl
 have HBAD:=Lib.hid h
 have HBX:=Lib.hid ((Below.refl w.heap.size w).alloc (Nat.le_refl _) (.cells #[.int .i64 tos,.int .i64 id,.bool df,.bool mf,.int .i64 fr,.int .i64 ttl,.int .i64 pr,.bool s6,.int .u64 sh,.int .u64 sl,.bool d6,.int .u64 dh,.int .u64 dl,.slice AO no co] 53))
 have BOX:=Lib.hid (Blk.new w 53 #[.int .i64 tos,.int .i64 id,.bool df,.bool mf,.int .i64 fr,.int .i64 ttl,.int .i64 pr,.bool s6,.int .u64 sh,.int .u64 sl,.bool d6,.int .u64 dh,.int .u64 dl,.slice AO no co])
 have HZ:=Lib.hid (show (w.alloc (.cells #[.int .i64 tos,.int .i64 id,.bool df,.bool mf,.int .i64 fr,.int .i64 ttl,.int .i64 pr,.bool s6,.int .u64 sh,.int .u64 sl,.bool d6,.int .u64 dh,.int .u64 dl,.slice AO no co] 53)).heap.size=w.heap.size+1 by simp)
 clear h
 go_enter Try.func70,Try.ntmps70
 go_wp2_with fail
 go_loopw [23,4] (fun i _ wr=>∃ j:Nat,j≤5∧i=.int .i64 j∧((0<j→0≤tos∧tos≤255)∧(1<j→0≤ttl∧ttl≤255)∧(2<j→0≤pr∧pr≤255)∧(3<j→0≤id∧id≤65535)∧(4<j→0≤fr∧fr≤8191))∧Below (w.heap.size+1) (w.alloc (.cells #[.int .i64 tos,.int .i64 id,.bool df,.bool mf,.int .i64 fr,.int .i64 ttl,.int .i64 pr,.bool s6,.int .u64 sh,.int .u64 sl,.bool d6,.int .u64 dh,.int .u64 dl,.slice AO no co] 53)) wr) (fun i _ _=>5 - (intOf i).toNat)
 case atStart=>exact ⟨0,by omega,rfl,⟨by omega,by omega,by omega,by omega,by omega⟩,Below.refl _ _⟩
 case round =>
  obtain ⟨j,hj,rfl,⟨g0,g1,g2,g3,g4⟩,hbel⟩:=hrel
  have HB:=Lib.hid hbel
  have HS:=Lib.hid (show w.heap.size+1≤wr.heap.size from Nat.le_trans (Nat.le_of_eq HZ.out.symm) hbel.size)
  have o7:wr.cell? ⟨w.heap.size,7,none⟩=some (.bool s6):=(hbel.cell (p:=⟨w.heap.size,7,none⟩) (Nat.lt_succ_self _)).trans (BOX.out.cell 7)
  have o8:wr.cell? ⟨w.heap.size,8,none⟩=some (.int .u64 sh):=(hbel.cell (p:=⟨w.heap.size,8,none⟩) (Nat.lt_succ_self _)).trans (BOX.out.cell 8)
  have o9:wr.cell? ⟨w.heap.size,9,none⟩=some (.int .u64 sl):=(hbel.cell (p:=⟨w.heap.size,9,none⟩) (Nat.lt_succ_self _)).trans (BOX.out.cell 9)
  have o10:wr.cell? ⟨w.heap.size,10,none⟩=some (.bool d6):=(hbel.cell (p:=⟨w.heap.size,10,none⟩) (Nat.lt_succ_self _)).trans (BOX.out.cell 10)
  have o11:wr.cell? ⟨w.heap.size,11,none⟩=some (.int .u64 dh):=(hbel.cell (p:=⟨w.heap.size,11,none⟩) (Nat.lt_succ_self _)).trans (BOX.out.cell 11)
  have o12:wr.cell? ⟨w.heap.size,12,none⟩=some (.int .u64 dl):=(hbel.cell (p:=⟨w.heap.size,12,none⟩) (Nat.lt_succ_self _)).trans (BOX.out.cell 12)
  have o13:wr.cell? ⟨w.heap.size,13,none⟩=some (.slice AO no co):=(hbel.cell (p:=⟨w.heap.size,13,none⟩) (Nat.lt_succ_self _)).trans (BOX.out.cell 13)
  clear hbel
  have hcase:j=0∨j=1∨j=2∨j=3∨j=4∨j=5:=by omega
  rcases hcase with rfl | rfl | rfl | rfl | rfl | rfl
  ·clear o7 o8 o9 o10 o11 o12 o13
   by_cases b0:tos<0
   ·have q1:decide (tos<0)=true:=decide_eq_true b0
    clear g0 g1 g2 g3 g4 b0
    go_wp2_with fail
    go_ret
    exact ⟨rfl,HBX.out.trans ((HB.out.alloc HS.out _).mono (Nat.le_succ _))⟩
   by_cases b1:255<tos
   ·have q1:decide (tos<0)=false:=decide_eq_false b0
    have q2:decide (255<tos)=true:=decide_eq_true b1
    clear g0 g1 g2 g3 g4 b0 b1
    go_wp2_with fail
    go_ret
    exact ⟨rfl,HBX.out.trans ((HB.out.alloc HS.out _).mono (Nat.le_succ _))⟩
   have q1:decide (tos<0)=false:=decide_eq_false b0
   have q2:decide (255<tos)=false:=decide_eq_false b1
   have GN:=Lib.hid (show (0<1→0≤tos∧tos≤255)∧(1<1→0≤ttl∧ttl≤255)∧(2<1→0≤pr∧pr≤255)∧(3<1→0≤id∧id≤65535)∧(4<1→0≤fr∧fr≤8191) from ⟨fun _=>⟨by omega,by omega⟩,fun h=>absurd h (by omega),fun h=>absurd h (by omega),fun h=>absurd h (by omega),fun h=>absurd h (by omega)⟩)
   clear g0 g1 g2 g3 g4 b0 b1
   go_wp2_with fail
   go_roundw
   case rel=>first | exact ⟨1,by omega,by go_num,GN.out,HB.out.alloc HS.out _⟩ | ((repeat apply Exists.intro); exact ⟨⟨1,by omega,by go_num,GN.out,HB.out.alloc HS.out _⟩,rfl⟩)
   case measure=>simp [intOf]
  ·clear o7 o8 o9 o10 o11 o12 o13
   by_cases b0:ttl<0
   ·have q1:decide (ttl<0)=true:=decide_eq_true b0
    clear g0 g1 g2 g3 g4 b0
    go_wp2_with fail
    go_ret
    exact ⟨rfl,HBX.out.trans ((HB.out.alloc HS.out _).mono (Nat.le_succ _))⟩
   by_cases b1:255<ttl
   ·have q1:decide (ttl<0)=false:=decide_eq_false b0
    have q2:decide (255<ttl)=true:=decide_eq_true b1
    clear g0 g1 g2 g3 g4 b0 b1
    go_wp2_with fail
    go_ret
    exact ⟨rfl,HBX.out.trans ((HB.out.alloc HS.out _).mono (Nat.le_succ _))⟩
   have q1:decide (ttl<0)=false:=decide_eq_false b0
   have q2:decide (255<ttl)=false:=decide_eq_false b1
   have GN:=Lib.hid (show (0<2→0≤tos∧tos≤255)∧(1<2→0≤ttl∧ttl≤255)∧(2<2→0≤pr∧pr≤255)∧(3<2→0≤id∧id≤65535)∧(4<2→0≤fr∧fr≤8191) from ⟨fun _=>g0 (by omega),fun _=>⟨by omega,by omega⟩,fun h=>absurd h (by omega),fun h=>absurd h (by omega),fun h=>absurd h (by omega)⟩)
   clear g0 g1 g2 g3 g4 b0 b1
   go_wp2_with fail
   go_roundw
   case rel=>first | exact ⟨2,by omega,by go_num,GN.out,HB.out.alloc HS.out _⟩ | ((repeat apply Exists.intro); exact ⟨⟨2,by omega,by go_num,GN.out,HB.out.alloc HS.out _⟩,rfl⟩)
   case measure=>simp [intOf]
  ·clear o7 o8 o9 o10 o11 o12 o13
   by_cases b0:pr<0
   ·have q1:decide (pr<0)=true:=decide_eq_true b0
    clear g0 g1 g2 g3 g4 b0
    go_wp2_with fail
    go_ret
    exact ⟨rfl,HBX.out.trans ((HB.out.alloc HS.out _).mono (Nat.le_succ _))⟩
   by_cases b1:255<pr
   ·have q1:decide (pr<0)=false:=decide_eq_false b0
    have q2:decide (255<pr)=true:=decide_eq_true b1
    clear g0 g1 g2 g3 g4 b0 b1
    go_wp2_with fail
    go_ret
    exact ⟨rfl,HBX.out.trans ((HB.out.alloc HS.out _).mono (Nat.le_succ _))⟩
   have q1:decide (pr<0)=false:=decide_eq_false b0
   have q2:decide (255<pr)=false:=decide_eq_false b1
   have GN:=Lib.hid (show (0<3→0≤tos∧tos≤255)∧(1<3→0≤ttl∧ttl≤255)∧(2<3→0≤pr∧pr≤255)∧(3<3→0≤id∧id≤65535)∧(4<3→0≤fr∧fr≤8191) from ⟨fun _=>g0 (by omega),fun _=>g1 (by omega),fun _=>⟨by omega,by omega⟩,fun h=>absurd h (by omega),fun h=>absurd h (by omega)⟩)
   clear g0 g1 g2 g3 g4 b0 b1
   go_wp2_with fail
   go_roundw
   case rel=>first | exact ⟨3,by omega,by go_num,GN.out,HB.out.alloc HS.out _⟩ | ((repeat apply Exists.intro); exact ⟨⟨3,by omega,by go_num,GN.out,HB.out.alloc HS.out _⟩,rfl⟩)
   case measure=>simp [intOf]
  ·clear o7 o8 o9 o10 o11 o12 o13
   by_cases b0:id<0
   ·have q1:decide (id<0)=true:=decide_eq_true b0
    clear g0 g1 g2 g3 g4 b0
    go_wp2_with fail
    go_ret
    exact ⟨rfl,HBX.out.trans ((HB.out.alloc HS.out _).mono (Nat.le_succ _))⟩
   by_cases b1:65535<id
   ·have q1:decide (id<0)=false:=decide_eq_false b0
    have q2:decide (65535<id)=true:=decide_eq_true b1
    clear g0 g1 g2 g3 g4 b0 b1
    go_wp2_with fail
    go_ret
    exact ⟨rfl,HBX.out.trans ((HB.out.alloc HS.out _).mono (Nat.le_succ _))⟩
   have q1:decide (id<0)=false:=decide_eq_false b0
   have q2:decide (65535<id)=false:=decide_eq_false b1
   have GN:=Lib.hid (show (0<4→0≤tos∧tos≤255)∧(1<4→0≤ttl∧ttl≤255)∧(2<4→0≤pr∧pr≤255)∧(3<4→0≤id∧id≤65535)∧(4<4→0≤fr∧fr≤8191) from ⟨fun _=>g0 (by omega),fun _=>g1 (by omega),fun _=>g2 (by omega),fun _=>⟨by omega,by omega⟩,fun h=>absurd h (by omega)⟩)
   clear g0 g1 g2 g3 g4 b0 b1
   go_wp2_with fail
   go_roundw
   case rel=>first | exact ⟨4,by omega,by go_num,GN.out,HB.out.alloc HS.out _⟩ | ((repeat apply Exists.intro); exact ⟨⟨4,by omega,by go_num,GN.out,HB.out.alloc HS.out _⟩,rfl⟩)
   case measure=>simp [intOf]
  ·clear o7 o8 o9 o10 o11 o12 o13
   by_cases b0:fr<0
   ·have q1:decide (fr<0)=true:=decide_eq_true b0
    clear g0 g1 g2 g3 g4 b0
    go_wp2_with fail
    go_ret
    exact ⟨rfl,HBX.out.trans ((HB.out.alloc HS.out _).mono (Nat.le_succ _))⟩
   by_cases b1:8191<fr
   ·have q1:decide (fr<0)=false:=decide_eq_false b0
    have q2:decide (8191<fr)=true:=decide_eq_true b1
    clear g0 g1 g2 g3 g4 b0 b1
    go_wp2_with fail
    go_ret
    exact ⟨rfl,HBX.out.trans ((HB.out.alloc HS.out _).mono (Nat.le_succ _))⟩
   have q1:decide (fr<0)=false:=decide_eq_false b0
   have q2:decide (8191<fr)=false:=decide_eq_false b1
   have GN:=Lib.hid (show (0<5→0≤tos∧tos≤255)∧(1<5→0≤ttl∧ttl≤255)∧(2<5→0≤pr∧pr≤255)∧(3<5→0≤id∧id≤65535)∧(4<5→0≤fr∧fr≤8191) from ⟨fun _=>g0 (by omega),fun _=>g1 (by omega),fun _=>g2 (by omega),fun _=>g3 (by omega),fun _=>⟨by omega,by omega⟩⟩)
   clear g0 g1 g2 g3 g4 b0 b1
   go_wp2_with fail
   go_roundw
   case rel=>first | exact ⟨5,by omega,by go_num,GN.out,HB.out.alloc HS.out _⟩ | ((repeat apply Exists.intro); exact ⟨⟨5,by omega,by go_num,GN.out,HB.out.alloc HS.out _⟩,rfl⟩)
   case measure=>simp [intOf]
  ·have G5:=Lib.hid (show (0≤tos∧tos≤255)∧(0≤ttl∧ttl≤255)∧(0≤pr∧pr≤255)∧(0≤id∧id≤65535)∧(0≤fr∧fr≤8191) from ⟨g0 (by omega),g1 (by omega),g2 (by omega),g3 (by omega),g4 (by omega)⟩)
   clear g0 g1 g2 g3 g4
   go_wp2_with fail
   clear o7 o8 o9 o10 o11 o12 o13
   obtain ⟨wo,rfl⟩:∃ wo:World,wo=wr:=⟨_,rfl⟩
   go_loopw [42,6] (fun i _ wq=>∃ j:Nat,j≤2∧i=.int .i64 j∧((0<j→okA s6 sh sl)∧(1<j→okA d6 dh dl))∧Below (w.heap.size+1) (w.alloc (.cells #[.int .i64 tos,.int .i64 id,.bool df,.bool mf,.int .i64 fr,.int .i64 ttl,.int .i64 pr,.bool s6,.int .u64 sh,.int .u64 sl,.bool d6,.int .u64 dh,.int .u64 dl,.slice AO no co] 53)) wq) (fun i _ _=>2 - (intOf i).toNat)
   case atStart=>exact ⟨0,by omega,rfl,⟨by omega,by omega⟩,HB.out⟩
   case round =>
    obtain ⟨j,hj,rfl,⟨a0,a1⟩,hbel⟩:=hrel
    have HB2:=Lib.hid hbel
    have HS2:=Lib.hid (show w.heap.size+1≤wr.heap.size from Nat.le_trans (Nat.le_of_eq HZ.out.symm) hbel.size)
    have o13:wr.cell? ⟨w.heap.size,13,none⟩=some (.slice AO no co):=(hbel.cell (p:=⟨w.heap.size,13,none⟩) (Nat.lt_succ_self _)).trans (BOX.out.cell 13)
    clear hbel
    have hcase:j=0∨j=1∨j=2:=by omega
    rcases hcase with rfl | rfl | rfl
    ·clear o13
     by_cases hA:okA s6 sh sl
     ·have GN:=Lib.hid (show (0<1→okA s6 sh sl)∧(1<1→okA d6 dh dl) from ⟨fun _=>hA,fun h=>absurd h (by omega)⟩)
      have HA:=Lib.hid (fun w=>addr_yes sl w l0 hA.2.2)
      obtain ⟨rfl,rfl,_⟩:=hA
      clear a0 a1
      go_wp2_with fail
      refine (HA.out _).mono ?_
      rintro e w5 ⟨rfl,hb5⟩
      have HB5:=Lib.hid ((HB2.out.alloc HS2.out _).trans (hb5.mono (Nat.le_trans HS2.out (Below.size ((Below.refl 0 _).alloc (Nat.zero_le _) _)))))
      clear hb5
      go_wp2_with fail
      go_roundw
      case rel=>first | exact ⟨1,by omega,by go_num,GN.out,HB5.out⟩ | ((repeat apply Exists.intro); exact ⟨⟨1,by omega,by go_num,GN.out,HB5.out⟩,rfl⟩)
      case measure=>simp [intOf]
     ·by_cases e1:s6=true
      ·subst e1
       clear a0 a1 hA
       go_wp2_with fail
       go_ret
       exact ⟨rfl,HBX.out.trans ((HB2.out.alloc HS2.out _).mono (Nat.le_succ _))⟩
      ·have e2:s6=false:=by simpa using e1
       subst e2
       have HA:=Lib.hid (fun w=>addr_no sh sl w hA)
       clear a0 a1 hA e1
       go_wp2_with fail
       refine (HA.out _).mono ?_
       rintro e w5 ⟨rfl,hb5⟩
       have HB5:=Lib.hid ((HB2.out.alloc HS2.out _).trans (hb5.mono (Nat.le_trans HS2.out (Below.size ((Below.refl 0 _).alloc (Nat.zero_le _) _)))))
       clear hb5
       go_wp2_with fail
       go_ret
       exact ⟨rfl,HBX.out.trans (HB5.out.mono (Nat.le_succ _))⟩
    ·clear o13
     by_cases hA:okA d6 dh dl
     ·have GN:=Lib.hid (show (0<2→okA s6 sh sl)∧(1<2→okA d6 dh dl) from ⟨fun _=>a0 (by omega),fun _=>hA⟩)
      have HA:=Lib.hid (fun w=>addr_yes dl w l1 hA.2.2)
      obtain ⟨rfl,rfl,_⟩:=hA
      clear a0 a1
      go_wp2_with fail
      refine (HA.out _).mono ?_
      rintro e w5 ⟨rfl,hb5⟩
      have HB5:=Lib.hid ((HB2.out.alloc HS2.out _).trans (hb5.mono (Nat.le_trans HS2.out (Below.size ((Below.refl 0 _).alloc (Nat.zero_le _) _)))))
      clear hb5
      go_wp2_with fail
      go_roundw
      case rel=>first | exact ⟨2,by omega,by go_num,GN.out,HB5.out⟩ | ((repeat apply Exists.intro); exact ⟨⟨2,by omega,by go_num,GN.out,HB5.out⟩,rfl⟩)
      case measure=>simp [intOf]
     ·by_cases e1:d6=true
      ·subst e1
       clear a0 a1 hA
       go_wp2_with fail
       go_ret
       exact ⟨rfl,HBX.out.trans ((HB2.out.alloc HS2.out _).mono (Nat.le_succ _))⟩
      ·have e2:d6=false:=by simpa using e1
       subst e2
       have HA:=Lib.hid (fun w=>addr_no dh dl w hA)
       clear a0 a1 hA e1
       go_wp2_with fail
       refine (HA.out _).mono ?_
       rintro e w5 ⟨rfl,hb5⟩
       have HB5:=Lib.hid ((HB2.out.alloc HS2.out _).trans (hb5.mono (Nat.le_trans HS2.out (Below.size ((Below.refl 0 _).alloc (Nat.zero_le _) _)))))
       clear hb5
       go_wp2_with fail
       go_ret
       exact ⟨rfl,HBX.out.trans (HB5.out.mono (Nat.le_succ _))⟩
    ·have hb:=HBAD.out
     have g5:=G5.out
     have ha0:=a0 (by omega)
     have ha1:=a1 (by omega)
     have hno:¬ (no≤40∧no % 4=0):=fun hh=>hb ⟨g5.1,g5.2.1,g5.2.2.1,g5.2.2.2.1,g5.2.2.2.2,ha0,ha1,hh.1,hh.2⟩
     clear hb g5 ha0 ha1 a0 a1
     by_cases n0:no≤40
     ·have q1:decide ((no:Int)≤40)=true:=decide_eq_true (by omega)
      have q3:(((no:Int) % 4) == 0)=false:=eqF (by omega)
      clear hno n0
      go_wp2_with fail
      go_ret
      exact ⟨rfl,HBX.out.trans (HB2.out.mono (Nat.le_succ _))⟩
     ·have q1:decide ((no:Int)≤40)=false:=decide_eq_false (by omega)
      clear hno n0
      go_wp2_with fail
      go_ret
      exact ⟨rfl,HBX.out.trans (HB2.out.mono (Nat.le_succ _))⟩
theorem bytes_wrong (tos id:Int) (df mf:Bool) (fr ttl pr:Int) (s6:Bool) (sh sl:Int) (d6:Bool) (dh dl:Int) (AO:Option Addr) (no co:Nat) (A:Option Addr) (n c:Nat) (w:World) (l0:0≤sl) (l1:0≤dl) (h:¬ okG tos id fr ttl pr s6 sh sl d6 dh dl no) :
  Calls Try.prog 38 #[.agg #[.int .i64 tos,.int .i64 id,.bool df,.bool mf,.int .i64 fr,.int .i64 ttl,.int .i64 pr,.bool s6,.int .u64 sh,.int .u64 sl,.bool d6,.int .u64 dh,.int .u64 dl,.slice AO no co],.slice A n c] w fun e w'=>e=.returned (.tuple #[.slice none 0 0,.int .i64 1])∧Below w.heap.size w w':=by
 have HRT:=Lib.hid (fun w=>right_no tos id df mf fr ttl pr s6 sh sl d6 dh dl AO no co w l0 l1 h)
 have HB0:=Lib.hid (show Below w.heap.size w (w.alloc (.cells #[.int .i64 tos,.int .i64 id,.bool df,.bool mf,.int .i64 fr,.int .i64 ttl,.int .i64 pr,.bool s6,.int .u64 sh,.int .u64 sl,.bool d6,.int .u64 dh,.int .u64 dl,.slice AO no co] 53)) from (Below.refl _ _).alloc (Nat.le_refl _) _)
 clear h
 go_enter Try.func38,Try.ntmps38
 go_wp2_with fail
 refine (HRT.out _).mono ?_
 rintro e w1 ⟨rfl,hb⟩
 have HB:=Lib.hid (bel_call HB0.out hb)
 clear hb
 go_wp2_with fail
 go_ret2
 exact ⟨rfl,HB.out⟩
end Go.Proofs.Ytodckfgfbcnkoaa.fourJn
/- Layer 13: a datagram that is made. -/
namespace Go.Proofs.Ytodckfgfbcnkoaa.pktM
set_option maxHeartbeats 4000000
open base rdrA rdrG sumA sumB sixW sixM pktA pktB pktL
def udpM (sp dp:Int) (pl ps:List Int):Int × List Int:=if 0≤sp∧sp≤65535∧0≤dp∧dp≤65535 then (0,udpB.ub sp dp pl (udpB.chkZ (ps++udpB.ub sp dp pl 0))) else (1,[])
theorem udp_bytes (sp dp:Int) (A A2:Option Addr) (n c n2 c2:Nat) (pl ps:List Int) (w:World) (h:Sl w A n c pl) (h2:Sl w A2 n2 c2 ps) (hn:n≤1000) (hn2:n2≤1000) :
  Calls Try.prog 63 #[.agg #[.int .i64 sp,.int .i64 dp,.bool false],.slice A n c,.slice A2 n2 c2] w (MkP (udpM sp dp pl ps).1 (udpM sp dp pl ps).2 w):=by
 unfold udpM
 by_cases hp:0≤sp∧sp≤65535∧0≤dp∧dp≤65535
 ·rw [if_pos hp]
  have key:Calls Try.prog 63 #[.agg #[.int .i64 sp,.int .i64 dp,.bool false],.slice A n c,.slice A2 n2 c2] w (udpB.BPost w (8+n) (udpB.ub sp dp pl (udpB.chkZ (ps++udpB.ub sp dp pl 0)))):=by
   by_cases h0:n=0
   ·exact udpC.bytes_eight_sum sp dp A A2 n c n2 c2 pl ps w hp h.len (by omega) h0 h.row h.u8 h2.len hn2 h2.row h2.u8
   ·exact udpC.bytes_far_sum sp dp A A2 n c n2 c2 pl ps w hp h.len (by omega) h0 h.row h.u8 h2.len hn2 h2.row h2.u8
  refine key.mono ?_
  rintro o w' ⟨v,rfl,h3,h4⟩
  obtain ⟨B,d,rfl⟩:=own_slice h3
  exact ⟨h4,B,_,d,rfl,Sl.own h3 (by rw [udpB.ub_len,h.len]) (udpB.ub_in sp dp pl _ h.u8)⟩
 ·rw [if_neg hp]
  refine (udpB.bytes_wrong sp dp false A A2 n c n2 c2 w hp).mono ?_
  rintro o w' ⟨rfl,h4⟩
  exact MkP.nil_ h4
def fourM (ttl pr sh sl:Int) (d6:Bool) (dh dl:Int) (bl:List Int):Int × List Int:=if (0≤ttl∧ttl≤255)∧(0≤pr∧pr≤255)∧(sh=0∧sl≤4294967295)∧(d6=false∧dh=0∧dl≤4294967295) then
 (0,fourD.hk 0 0 0 ttl pr sl dl (65535 - fo (wsum (fourD.hk 0 0 0 ttl pr sl dl 0 (20+((0:Nat):Int)+(bl.length:Int)) []))) (20+((0:Nat):Int)+(bl.length:Int)) []++bl) else (1,[])
theorem four_bytes (ttl pr sh sl:Int) (d6:Bool) (dh dl:Int) (A:Option Addr) (n c:Nat) (bl:List Int) (w:World) (h:Sl w A n c bl) (hn:n≤900) (l0:0≤sl) (l1:0≤dl) :
  Calls Try.prog 38 #[.agg #[.int .i64 0,.int .i64 0,.bool false,.bool false,.int .i64 0,.int .i64 ttl,.int .i64 pr,.bool false,.int .u64 sh,.int .u64 sl,.bool d6,.int .u64 dh,.int .u64 dl,.slice none 0 0],.slice A n c] w (MkP (fourM ttl pr sh sl d6 dh dl bl).1 (fourM ttl pr sh sl d6 dh dl bl).2 w):=by
 have hl:=h.len
 unfold fourM
 by_cases hp:(0≤ttl∧ttl≤255)∧(0≤pr∧pr≤255)∧(sh=0∧sl≤4294967295)∧(d6=false∧dh=0∧dl≤4294967295)
 ·rw [if_pos hp]
  obtain ⟨h1,h2,⟨rfl,h3⟩,rfl,rfl,h4⟩:=hp
  subst hl
  refine (fourE.bytes_any 0 0 false false 0 ttl pr sl dl none 0 0 [] A bl.length c bl w ⟨by omega,by omega,by omega,h1,h2,⟨l0,h3⟩,⟨l1,h4⟩,by omega,by omega⟩ rfl (.inl rfl) (fun _=>rfl) (fun x hx=>by cases hx) rfl hn h.row h.nil _ rfl).mono ?_
  rintro o w' ⟨v,rfl,h5,h6⟩
  obtain ⟨B,d,rfl⟩:=own_slice h5
  refine ⟨h6,B,_,d,rfl,Sl.own h5 rfl ?_⟩
  have hin:=fourD.hk_in 0 0 0 ttl pr sl dl 0 (20+((0:Nat):Int)+(bl.length:Int)) [] (by omega) (by omega) (by omega) h1 h2 ⟨l0,h3⟩ ⟨l1,h4⟩ (by omega) (by omega) (by simp) (fun x hx=>by cases hx)
  have hck:=fo_bd _ (wsum_bd _ hin).1
  exact U8.join (fourD.hk_in 0 0 0 ttl pr sl dl _ (20+((0:Nat):Int)+(bl.length:Int)) [] (by omega) (by omega) (by omega) h1 h2 ⟨l0,h3⟩ ⟨l1,h4⟩ (by omega) (by omega) (by simp) (fun x hx=>by cases hx)) h.u8
 ·rw [if_neg hp]
  refine (fourJn.bytes_wrong 0 0 false false 0 ttl pr false sh sl d6 dh dl none 0 0 A n c w l0 l1 (fun ⟨_,a,b,_,_,⟨_,c1,c2⟩,⟨d1,d2,d3⟩,_⟩=>hp ⟨a,b,⟨c1,c2⟩,d1,d2,d3⟩)).mono ?_
  rintro o w' ⟨rfl,h4⟩
  exact MkP.nil_ h4
theorem dg_closure (pr:Int) (s6:Bool) (sh sl:Int) (d6:Bool) (dh dl sp dp:Int) (c1 c2:Nat) (A A2:Option Addr) (n c n2 cc2:Nat) (e:Int) (bs:List Int) (w:World)
  (K1:Blk w c1 34 #[.int .i64 pr,.bool s6,.int .u64 sh,.int .u64 sl,.bool d6,.int .u64 dh,.int .u64 dl,.int .i64 sp,.int .i64 dp]) (K2:Blk w c2 22 #[.slice A n c])
  (HC:Hid (Calls Try.prog 63 #[.agg #[.int .i64 sp,.int .i64 dp,.bool false],.slice A n c,.slice A2 n2 cc2] w (MkP e bs w))) :
  Calls Try.prog 62 #[.slice A2 n2 cc2,.pointer (some ⟨c1,0,none⟩),.pointer (some ⟨c2,0,none⟩)] w (MkP e bs w):=by
 have p7:=K1.cell 7
 have p8:=K1.cell 8
 have q0:=K2.cell 0
 go_enter Try.func62,Try.ntmps62
 go_wp2_with fail
 refine HC.out.mono ?_
 rintro o w4 ⟨hb4,A4,n4,c4,rfl,hs4⟩
 go_wp2_with fail
 go_ret2
 exact ⟨hb4,A4,n4,c4,rfl,hs4⟩
theorem dgram_not (pr:Int) (s6:Bool) (sh sl:Int) (d6:Bool) (dh dl sp dp ttl:Int) (A:Option Addr) (n c:Nat) (w:World) (h:pr≠17∨s6≠d6) :
  Calls Try.prog 26 #[.agg #[.int .i64 pr,.bool s6,.int .u64 sh,.int .u64 sl,.bool d6,.int .u64 dh,.int .u64 dl,.int .i64 sp,.int .i64 dp],.int .i64 ttl,.slice A n c] w (MkP 1 [] w):=by
 have B0:=Lib.hid (show Below w.heap.size w ((w.alloc (.cells #[.int .i64 pr,.bool s6,.int .u64 sh,.int .u64 sl,.bool d6,.int .u64 dh,.int .u64 dl,.int .i64 sp,.int .i64 dp] 34)).alloc (.cells #[.slice A n c] 22)) from ((Below.refl _ _).alloc (Nat.le_refl _) _).alloc (by simp) _)
 by_cases h17:pr=17
 ·have h2:s6≠d6:=by rcases h with h | h <;> first | omega | exact h
  subst h17
  have tv:(s6 == d6)=false:=by simpa using h2
  clear h h2
  go_enter Try.func26,Try.ntmps26
  go_wp2_with fail
  go_ret2
  exact MkP.nil_ B0.out
 ·have t17:(pr != 17)=true:=by simpa using h17
  clear h h17
  go_enter Try.func26,Try.ntmps26
  go_wp2_with fail
  go_ret2
  exact MkP.nil_ B0.out
theorem dgram_go (s6:Bool) (sh sl:Int) (dh dl sp dp ttl:Int) (A:Option Addr) (n c:Nat) (e:Int) (bs:List Int) (w:World) (hn:n≤1000)
  (HW:Hid (∀ V c1 c2,Below w.heap.size w V→Blk V c1 34 #[.int .i64 17,.bool s6,.int .u64 sh,.int .u64 sl,.bool s6,.int .u64 dh,.int .u64 dl,.int .i64 sp,.int .i64 dp]→Blk V c2 22 #[.slice A n c]→Calls Try.prog 59 #[.agg #[.int .i64 17,.bool s6,.int .u64 sh,.int .u64 sl,.bool s6,.int .u64 dh,.int .u64 dl,.int .i64 sp,.int .i64 dp],.int .i64 ttl,.int .i64 (8+(n:Int)),.func (.func 62) #[] #[.pointer (some ⟨c1,0,none⟩),.pointer (some ⟨c2,0,none⟩)]] V (MkP e bs V))) :
  Calls Try.prog 26 #[.agg #[.int .i64 17,.bool s6,.int .u64 sh,.int .u64 sl,.bool s6,.int .u64 dh,.int .u64 dl,.int .i64 sp,.int .i64 dp],.int .i64 ttl,.slice A n c] w (MkP e bs w):=by
 have hmf:∀ (fn:Fn) (first cap:Array Value) (w:World),(Instr.makeFunc fn first cap).run Try.prog w=.ok (.func fn first cap) w:=fun _ _ _ _=>rfl
 obtain ⟨w1,hw1⟩:∃ w1,w1=(w.alloc (.cells #[.int .i64 17,.bool s6,.int .u64 sh,.int .u64 sl,.bool s6,.int .u64 dh,.int .u64 dl,.int .i64 sp,.int .i64 dp] 34)).alloc (.cells #[.slice A n c] 22):=⟨_,rfl⟩
 have E1:=Lib.hid hw1
 have B1:=Lib.hid (show Below w.heap.size w w1 from by rw [hw1]; exact ((Below.refl _ _).alloc (Nat.le_refl _) _).alloc (by simp) _)
 obtain ⟨g,hg⟩:∃ g,g=w.heap.size:=⟨_,rfl⟩
 obtain ⟨q,hq⟩:∃ q,q=w.heap.size+1:=⟨_,rfl⟩
 have EG:=Lib.hid hg
 have EQ:=Lib.hid hq
 have KP:=Lib.hid (show Blk w1 g 34 #[.int .i64 17,.bool s6,.int .u64 sh,.int .u64 sl,.bool s6,.int .u64 dh,.int .u64 dl,.int .i64 sp,.int .i64 dp] from by rw [hw1,hg]; exact (Blk.new w _ _).below ((Below.refl _ _).alloc (Nat.le_refl _) _) (Blk.new w _ _).lt)
 have KQ:=Lib.hid (show Blk w1 q 22 #[.slice A n c] from by
  have h9:=Blk.new (w.alloc (.cells #[.int .i64 17,.bool s6,.int .u64 sh,.int .u64 sl,.bool s6,.int .u64 dh,.int .u64 dl,.int .i64 sp,.int .i64 dp] 34)) 22 #[.slice A n c]
  rw [← hw1] at h9
  rw [hq]
  simpa using h9)
 have HW1:=Lib.hid (HW.out w1 g q B1.out KP.out KQ.out)
 have tv:(s6 == s6)=true:=by simp
 clear hw1 hg hq
 go_enter Try.func26,Try.ntmps26
 go_upto_region 1 with fail
 rw [← E1.out,← EQ.out,← EG.out]
 have p0:=KP.out.cell 0
 have p1:=KP.out.cell 1
 have p2:=KP.out.cell 2
 have p3:=KP.out.cell 3
 have p4:=KP.out.cell 4
 have p5:=KP.out.cell 5
 have p6:=KP.out.cell 6
 have p7:=KP.out.cell 7
 have p8:=KP.out.cell 8
 have q0:=KQ.out.cell 0
 go_wp2_with fail
 refine HW1.out.mono ?_
 rintro o w4 ⟨hb4,A4,n4,c4,rfl,hs4⟩
 have B4:=Lib.hid (B1.out.trans (hb4.mono B1.out.size))
 clear hb4
 go_wp2_with fail
 go_ret2
 exact ⟨B4.out,A4,n4,c4,rfl,hs4⟩
end Go.Proofs.Ytodckfgfbcnkoaa.pktM
/- Layer 8: what bytes that were put say. -/
namespace Go.Proofs.Ytodckfgfbcnkoaa.fourHn
open base sumA sumB octA rdrA udpA net fourA fourD
theorem wsum_hk (tos id fl ttl pr sl dl ck sz:Int) (os:List Int) (c0:0≤ck) (c1:ck≤65535):wsum (hk tos id fl ttl pr sl dl ck sz os)=wsum (hk tos id fl ttl pr sl dl 0 sz os)+ck:=by
 unfold hk
 rw [wsum_app 10 _ os rfl,wsum_app 10 _ os rfl]
 simp only [wsum]
 omega
theorem hk_chk (tos id fl ttl pr sl dl sz:Int) (os:List Int) (hin:∀ x ∈ hk tos id fl ttl pr sl dl 0 sz os,0≤x∧x≤255):fo (wsum (hk tos id fl ttl pr sl dl (65535 - fo (wsum (hk tos id fl ttl pr sl dl 0 sz os))) sz os))=65535:=by
 have s0:=(wsum_bd _ hin).1
 have b:=fo_bd _ s0
 rw [wsum_hk _ _ _ _ _ _ _ _ _ _ (by omega) (by omega)]
 rcases fo_full _ s0 with h | h
 ·exact h
 ·rw [h]; simpa using h
theorem hk_says (tos id fl ttl pr sl dl ck sz:Int) (os t:List Int) (s:Nat) (hs:20+os.length=s) (h4:s % 4=0) (h60:s≤60) (f0:0≤fl) :
  (hk tos id fl ttl pr sl dl ck sz os++t).getD 0 0 / 16=4∧hl (hk tos id fl ttl pr sl dl ck sz os++t)=(s:Int)∧w16 (hk tos id fl ttl pr sl dl ck sz os++t) 6=fl∧w16 (hk tos id fl ttl pr sl dl ck sz os++t) 2=sz ∧
   (hk tos id fl ttl pr sl dl ck sz os++t).take s=hk tos id fl ttl pr sl dl ck sz os∧(hk tos id fl ttl pr sl dl ck sz os++t).drop s=t∧(hk tos id fl ttl pr sl dl ck sz os).drop 20=os:=by
 have hlen:(hk tos id fl ttl pr sl dl ck sz os).length=s:=by rw [hk_len,hs]
 refine ⟨?_,?_,?_,?_,?_,?_,rfl⟩
 ·show (64+(20+(os.length:Int)) / 4) / 16=4
  omega
 ·show (64+(20+(os.length:Int)) / 4) % 16*4=_
  omega
 ·show fl / 256*256+fl % 256=fl
  omega
 ·show sz / 256*256+sz % 256=sz
  omega
 ·rw [List.take_append_of_le_length (by omega),List.take_of_length_le (by omega)]
 ·rw [List.drop_append_of_le_length (by omega),List.drop_of_length_le (by omega),List.nil_append]
end Go.Proofs.Ytodckfgfbcnkoaa.fourHn
/- Layer 11: what bytes that were put say. -/
namespace Go.Proofs.Ytodckfgfbcnkoaa.udpJn
open sumA sumB octB rdrA udpA udpB net
theorem ub_all (sp dp:Int) (pl:List Int) (ck:Int) (h:ports sp dp) (hn:pl.length≤65527) (c0:0≤ck) (c1:ck≤65535):ub sp dp pl ck=[sp / 256,sp % 256,dp / 256,dp % 256,((8+pl.length:Nat):Int) / 256,((8+pl.length:Nat):Int) % 256,ck / 256,ck % 256]++pl:=by
 obtain ⟨h1,h2,h3,h4⟩:=h
 unfold ub
 simp only [allb,List.flatMap_cons,List.flatMap_nil]
 rw [pb_two sp h1 h2,pb_two dp h3 h4,pb_two _ (by omega) (by omega),pb_two ck c0 c1]
 rfl
theorem ub_says (sp dp:Int) (pl:List Int) (ck:Int) (h:ports sp dp) (hn:pl.length≤65527) (c0:0≤ck) (c1:ck≤65535) :
  w16 (ub sp dp pl ck) 0=sp∧w16 (ub sp dp pl ck) 2=dp∧w16 (ub sp dp pl ck) 4=(ub sp dp pl ck).length∧w16 (ub sp dp pl ck) 6=ck∧(ub sp dp pl ck).drop 8=pl:=by
 rw [ub_len]
 rw [ub_all sp dp pl ck h hn c0 c1]
 refine ⟨?_,?_,?_,?_,rfl⟩
 ·show sp / 256*256+sp % 256=sp; omega
 ·show dp / 256*256+dp % 256=dp; omega
 ·show ((8+pl.length:Nat):Int) / 256*256+((8+pl.length:Nat):Int) % 256=_; omega
 ·show ck / 256*256+ck % 256=ck; omega
theorem wsum_ub (sp dp:Int) (pl:List Int) (ck:Int) (h:ports sp dp) (hn:pl.length≤65527) (c0:0≤ck) (c1:ck≤65535):wsum (ub sp dp pl ck)=wsum (ub sp dp pl 0)+ck:=by
 rw [ub_all sp dp pl ck h hn c0 c1,ub_all sp dp pl 0 h hn (by omega) (by omega)]
 rw [wsum_app 4 _ pl rfl,wsum_app 4 _ pl rfl]
 simp only [wsum]
 omega
theorem fo_full (s:Int) (h:0≤s):fo (s+(if 65535 - fo s=0 then 65535 else 65535 - fo s))=65535:=by
 have a:=fo_bd s h
 have b:=fo_add (x:=s) (t:=if 65535 - fo s=0 then 65535 else 65535 - fo s) h (by split <;> omega)
 rw [← b]
 split
 ·rename_i h0
  rw [show fo s=65535 by omega]
  rfl
 ·rw [show fo s+(65535 - fo s)=65535 by omega]
  rfl
theorem chk_right (sp dp:Int) (pl ps:List Int) (h:ports sp dp) (hn:pl.length≤65527) (hp:∀ x ∈ pl,0≤x∧x≤255) (hq:∀ x ∈ ps,0≤x∧x≤255) (he:ps.length % 2=0) :
  fo (wsum (ps++ub sp dp pl (chkZ (ps++ub sp dp pl 0))))=65535:=by
 have hin:∀ x ∈ ps++ub sp dp pl 0,0≤x∧x≤255:=fun x hx=>(List.mem_append.1 hx).elim (hq x) (ub_in sp dp pl 0 hp x)
 have c:=chkZ_in _ hin
 have e:ps.length=2*(ps.length / 2):=by omega
 rw [wsum_app _ _ _ e,wsum_ub sp dp pl _ h hn c.1 c.2,← Int.add_assoc,← wsum_app _ _ _ e]
 exact fo_full _ (wsum_bd _ hin).1
theorem chk_pos (l:List Int) (hb:∀ x ∈ l,0≤x∧x≤255):chkZ l≠0:=by
 unfold chkZ
 split <;> omega
end Go.Proofs.Ytodckfgfbcnkoaa.udpJn
/- Layer 10: headers that may be. -/
namespace Go.Proofs.Ytodckfgfbcnkoaa.tcpIn
set_option maxHeartbeats 1000000
set_option maxRecDepth 100000
open base sumB rdrA net
theorem right_yes (sp dp sq ak fl wn ur:Int) (AO:Option Addr) (no co:Nat) (w:World) (h1:0≤sp) (h2:sp≤65535) (h3:0≤dp) (h4:dp≤65535) (h9:0≤fl) (h10:fl≤255) (h11:0≤wn) (h12:wn≤65535) (h13:0≤ur) (h14:ur≤65535) (ho:no≤40) (hm:no % 4=0) :
  Calls Try.prog 86 #[.agg #[.int .i64 sp,.int .i64 dp,.int .u32 sq,.int .u32 ak,.int .i64 fl,.int .i64 wn,.int .i64 ur,.slice AO no co]] w fun e w'=>e=.returned (.bool true)∧Below w.heap.size w w':=by
 have i0:∀ w,(Instr.index 143 (.agg #[.int .i64 sp,.int .i64 65535,.int .i64 dp,.int .i64 65535,.int .i64 wn,.int .i64 65535,.int .i64 ur,.int .i64 65535,.int .i64 fl,.int .i64 255]) (.int .i64 0)).run Try.prog w=.ok (.agg #[.int .i64 sp,.int .i64 65535]) w:=fun _=>by kernel_rfl
 have i1:∀ w,(Instr.index 143 (.agg #[.int .i64 sp,.int .i64 65535,.int .i64 dp,.int .i64 65535,.int .i64 wn,.int .i64 65535,.int .i64 ur,.int .i64 65535,.int .i64 fl,.int .i64 255]) (.int .i64 1)).run Try.prog w=.ok (.agg #[.int .i64 dp,.int .i64 65535]) w:=fun _=>by kernel_rfl
 have i2:∀ w,(Instr.index 143 (.agg #[.int .i64 sp,.int .i64 65535,.int .i64 dp,.int .i64 65535,.int .i64 wn,.int .i64 65535,.int .i64 ur,.int .i64 65535,.int .i64 fl,.int .i64 255]) (.int .i64 2)).run Try.prog w=.ok (.agg #[.int .i64 wn,.int .i64 65535]) w:=fun _=>by kernel_rfl
 have i3:∀ w,(Instr.index 143 (.agg #[.int .i64 sp,.int .i64 65535,.int .i64 dp,.int .i64 65535,.int .i64 wn,.int .i64 65535,.int .i64 ur,.int .i64 65535,.int .i64 fl,.int .i64 255]) (.int .i64 3)).run Try.prog w=.ok (.agg #[.int .i64 ur,.int .i64 65535]) w:=fun _=>by kernel_rfl
 have i4:∀ w,(Instr.index 143 (.agg #[.int .i64 sp,.int .i64 65535,.int .i64 dp,.int .i64 65535,.int .i64 wn,.int .i64 65535,.int .i64 ur,.int .i64 65535,.int .i64 fl,.int .i64 255]) (.int .i64 4)).run Try.prog w=.ok (.agg #[.int .i64 fl,.int .i64 255]) w:=fun _=>by kernel_rfl
 have t0:(((no:Int) % 4) == 0)=true:=eqT (by omega)
 have HBX:=Lib.hid ((Below.refl w.heap.size w).alloc (Nat.le_refl _) (.cells #[.int .i64 sp,.int .i64 dp,.int .u32 sq,.int .u32 ak,.int .i64 fl,.int .i64 wn,.int .i64 ur,.slice AO no co] 93))
 have BOX:=Lib.hid (Blk.new w 93 #[.int .i64 sp,.int .i64 dp,.int .u32 sq,.int .u32 ak,.int .i64 fl,.int .i64 wn,.int .i64 ur,.slice AO no co])
 have HZ:=Lib.hid (show (w.alloc (.cells #[.int .i64 sp,.int .i64 dp,.int .u32 sq,.int .u32 ak,.int .i64 fl,.int .i64 wn,.int .i64 ur,.slice AO no co] 93)).heap.size=w.heap.size+1 by simp)
 go_enter Try.func86,Try.ntmps86
 go_wp2_with fail
 go_loopw [21,4] (fun i _ wr=>∃ j:Nat,j≤5∧i=.int .i64 j∧Below (w.heap.size+1) (w.alloc (.cells #[.int .i64 sp,.int .i64 dp,.int .u32 sq,.int .u32 ak,.int .i64 fl,.int .i64 wn,.int .i64 ur,.slice AO no co] 93)) wr) (fun i _ _=>5 - (intOf i).toNat)
 case atStart=>exact ⟨0,by omega,rfl,Below.refl _ _⟩
 case round =>
  obtain ⟨j,hj,rfl,hbel⟩:=hrel
  have HB:=Lib.hid hbel
  have o7:wr.cell? ⟨w.heap.size,7,none⟩=some (.slice AO no co):=(hbel.cell (p:=⟨w.heap.size,7,none⟩) (Nat.lt_succ_self _)).trans (BOX.out.cell 7)
  have HS:=Lib.hid (show w.heap.size+1≤wr.heap.size from Nat.le_trans (Nat.le_of_eq HZ.out.symm) hbel.size)
  clear hbel
  have hcase:j=0∨j=1∨j=2∨j=3∨j=4∨j=5:=by omega
  rcases hcase with rfl | rfl | rfl | rfl | rfl | rfl
  ·have q1:decide (sp<0)=false:=decide_eq_false (by omega)
   have q2:decide (65535<sp)=false:=decide_eq_false (by omega)
   go_wp2_with fail
   go_roundw
   case rel=>exact ⟨1,by omega,by go_num,HB.out.alloc HS.out _⟩
   case measure=>simp [intOf]
  ·have q1:decide (dp<0)=false:=decide_eq_false (by omega)
   have q2:decide (65535<dp)=false:=decide_eq_false (by omega)
   go_wp2_with fail
   go_roundw
   case rel=>exact ⟨2,by omega,by go_num,HB.out.alloc HS.out _⟩
   case measure=>simp [intOf]
  ·have q1:decide (wn<0)=false:=decide_eq_false (by omega)
   have q2:decide (65535<wn)=false:=decide_eq_false (by omega)
   go_wp2_with fail
   go_roundw
   case rel=>exact ⟨3,by omega,by go_num,HB.out.alloc HS.out _⟩
   case measure=>simp [intOf]
  ·have q1:decide (ur<0)=false:=decide_eq_false (by omega)
   have q2:decide (65535<ur)=false:=decide_eq_false (by omega)
   go_wp2_with fail
   go_roundw
   case rel=>exact ⟨4,by omega,by go_num,HB.out.alloc HS.out _⟩
   case measure=>simp [intOf]
  ·have q1:decide (fl<0)=false:=decide_eq_false (by omega)
   have q2:decide (255<fl)=false:=decide_eq_false (by omega)
   go_wp2_with fail
   go_roundw
   case rel=>exact ⟨5,by omega,by go_num,HB.out.alloc HS.out _⟩
   case measure=>simp [intOf]
  ·go_wp2_with fail
   go_ret
   exact ⟨rfl,HBX.out.trans (HB.out.mono (Nat.le_succ _))⟩
end Go.Proofs.Ytodckfgfbcnkoaa.tcpIn
/- Layer 4: the law on sums of bytes. -/
namespace Go.Proofs.Ytodckfgfbcnkoaa.sumI
open base sumB sumC
theorem row3 {w:World} {g:Nat} {t:TypeId} {a b c:Value} (h:Blk w g t #[a,b,c]):Row w w.heap.size (some ⟨g,0,none⟩) [a,b,c]:=row_blk h
theorem three {w W:World} {A1 A2 A3:Option Addr} {n1 n2 n3 c1 c2 c3:Nat} {l1 l2 l3:List Int} (h1:l1.length=n1) (h2:l2.length=n2) (h3:l3.length=n3)
  (r1:Row w w.heap.size A1 (l1.map (.int .u8))) (r2:Row w w.heap.size A2 (l2.map (.int .u8))) (r3:Row w w.heap.size A3 (l3.map (.int .u8)))
  (b1:∀ x ∈ l1,0≤x∧x≤255) (b2:∀ x ∈ l2,0≤x∧x≤255) (b3:∀ x ∈ l3,0≤x∧x≤255) (hb:Below w.heap.size w W) (t:TypeId) :
  Row (W.alloc (.cells #[.slice A1 n1 c1,.slice A2 n2 c2,.slice A3 n3 c3] t)) (W.heap.size+1) (some ⟨W.heap.size,0,none⟩) (([⟨A1,c1,l1⟩,⟨A2,c2,l2⟩,⟨A3,c3,l3⟩]:List Part).map Part.val) ∧
   ∀ p ∈ ([⟨A1,c1,l1⟩,⟨A2,c2,l2⟩,⟨A3,c3,l3⟩]:List Part),p.ok (W.alloc (.cells #[.slice A1 n1 c1,.slice A2 n2 c2,.slice A3 n3 c3] t)) (W.heap.size+1):=by
 subst h1 h2 h3
 have hs:=hb.size
 refine ⟨(row3 (Blk.new W t _)).more (by simp),fun p hp=>?_⟩
 have hb2:=hb.alloc hs (.cells #[.slice A1 l1.length c1,.slice A2 l2.length c2,.slice A3 l3.length c3] t)
 simp only [List.mem_cons,List.not_mem_nil,or_false] at hp
 rcases hp with rfl | rfl | rfl
 ·exact ⟨(r1.below hb2).more (by omega),b1⟩
 ·exact ⟨(r2.below hb2).more (by omega),b2⟩
 ·exact ⟨(r3.below hb2).more (by omega),b3⟩
end Go.Proofs.Ytodckfgfbcnkoaa.sumI
