/- 16 texts in one. -/
import Derived.Deep.RegionHeld3
import Derived.Test.YtodckfgfbcnkoaaNu01
import Derived.Test.YtodckfgfbcnkoaaNu03
import Derived.Test.YtodckfgfbcnkoaaNu11
import Derived.Test.YtodckfgfbcnkoaaNu12
import Derived.Test.YtodckfgfbcnkoaaNu19
import Derived.Test.YtodckfgfbcnkoaaNu20
/- Layer 8: headers that may not be: four says so. -/
namespace Go.Proofs.Ytodckfgfbcnkoaa.fourJn
set_option maxHeartbeats 8000000
set_option maxRecDepth 100000
open Go.ChangeShapes Go.WideShapes Go.ChangeAt Go.RowKit
open base sumB rdrA net fourOn
set_option linter.unusedVariables false
theorem right_no (tos id:Int) (df mf:Bool) (fr ttl pr:Int) (s6:Bool) (sh sl:Int) (d6:Bool) (dh dl:Int) (AO:Option Addr) (no co:Nat) (w:World) (l0:0≤sl) (l1:0≤dl) (h:¬ okG tos id fr ttl pr s6 sh sl d6 dh dl no) :
    Calls Try.prog 70 #[.agg #[.int .i64 tos,.int .i64 id,.bool df,.bool mf,.int .i64 fr,.int .i64 ttl,.int .i64 pr,.bool s6,.int .u64 sh,.int .u64 sl,.bool d6,.int .u64 dh,.int .u64 dl,.slice AO no co]] w fun e w'=>e=.returned (.bool false)∧Below w.heap.size w w':=by
  have i0:∀ w,(Instr.index 134 (.agg #[.int .i64 tos,.int .i64 255,.int .i64 ttl,.int .i64 255,.int .i64 pr,.int .i64 255,.int .i64 id,.int .i64 65535,.int .i64 fr,.int .i64 8191]) (.int .i64 0)).run Try.prog w=.ok (.agg #[.int .i64 tos,.int .i64 255]) w:=fun _=>by kernel_rfl
  have i1:∀ w,(Instr.index 134 (.agg #[.int .i64 tos,.int .i64 255,.int .i64 ttl,.int .i64 255,.int .i64 pr,.int .i64 255,.int .i64 id,.int .i64 65535,.int .i64 fr,.int .i64 8191]) (.int .i64 1)).run Try.prog w=.ok (.agg #[.int .i64 ttl,.int .i64 255]) w:=fun _=>by kernel_rfl
  have i2:∀ w,(Instr.index 134 (.agg #[.int .i64 tos,.int .i64 255,.int .i64 ttl,.int .i64 255,.int .i64 pr,.int .i64 255,.int .i64 id,.int .i64 65535,.int .i64 fr,.int .i64 8191]) (.int .i64 2)).run Try.prog w=.ok (.agg #[.int .i64 pr,.int .i64 255]) w:=fun _=>by kernel_rfl
  have i3:∀ w,(Instr.index 134 (.agg #[.int .i64 tos,.int .i64 255,.int .i64 ttl,.int .i64 255,.int .i64 pr,.int .i64 255,.int .i64 id,.int .i64 65535,.int .i64 fr,.int .i64 8191]) (.int .i64 3)).run Try.prog w=.ok (.agg #[.int .i64 id,.int .i64 65535]) w:=fun _=>by kernel_rfl
  have i4:∀ w,(Instr.index 134 (.agg #[.int .i64 tos,.int .i64 255,.int .i64 ttl,.int .i64 255,.int .i64 pr,.int .i64 255,.int .i64 id,.int .i64 65535,.int .i64 fr,.int .i64 8191]) (.int .i64 4)).run Try.prog w=.ok (.agg #[.int .i64 fr,.int .i64 8191]) w:=fun _=>by kernel_rfl
  have k0:∀ w,(Instr.index 135 (.agg #[.bool s6,.int .u64 sh,.int .u64 sl,.bool d6,.int .u64 dh,.int .u64 dl]) (.int .i64 0)).run Try.prog w=.ok (.agg #[.bool s6,.int .u64 sh,.int .u64 sl]) w:=fun _=>by kernel_rfl
  have k1:∀ w,(Instr.index 135 (.agg #[.bool s6,.int .u64 sh,.int .u64 sl,.bool d6,.int .u64 dh,.int .u64 dl]) (.int .i64 1)).run Try.prog w=.ok (.agg #[.bool d6,.int .u64 dh,.int .u64 dl]) w:=fun _=>by kernel_rfl
  have HBAD:=Lib.hid h
  have HBX:=Lib.hid ((Below.refl w.heap.size w).alloc (Nat.le_refl _) (.cells #[.int .i64 tos,.int .i64 id,.bool df,.bool mf,.int .i64 fr,.int .i64 ttl,.int .i64 pr,.bool s6,.int .u64 sh,.int .u64 sl,.bool d6,.int .u64 dh,.int .u64 dl,.slice AO no co] 53))
  have BOX:=Lib.hid (Blk.new w 53 #[.int .i64 tos,.int .i64 id,.bool df,.bool mf,.int .i64 fr,.int .i64 ttl,.int .i64 pr,.bool s6,.int .u64 sh,.int .u64 sl,.bool d6,.int .u64 dh,.int .u64 dl,.slice AO no co])
  have HZ:=Lib.hid (show (w.alloc (.cells #[.int .i64 tos,.int .i64 id,.bool df,.bool mf,.int .i64 fr,.int .i64 ttl,.int .i64 pr,.bool s6,.int .u64 sh,.int .u64 sl,.bool d6,.int .u64 dh,.int .u64 dl,.slice AO no co] 53)).heap.size=w.heap.size+1 by simp)
  clear h
  go_enter Try.func70,Try.ntmps70
  go_wp2_with fail
  go_loopw [23,4] (fun i _ wr=>∃ j:Nat,j≤5∧i=.int .i64 j∧((0<j→0≤tos∧tos≤255)∧(1<j→0≤ttl∧ttl≤255)∧(2<j→0≤pr∧pr≤255)∧(3<j→0≤id∧id≤65535)∧(4<j→0≤fr∧fr≤8191))∧Below (w.heap.size+1) (w.alloc (.cells #[.int .i64 tos,.int .i64 id,.bool df,.bool mf,.int .i64 fr,.int .i64 ttl,.int .i64 pr,.bool s6,.int .u64 sh,.int .u64 sl,.bool d6,.int .u64 dh,.int .u64 dl,.slice AO no co] 53)) wr) (fun i _ _=>5 - (intOf i).toNat)
  case atStart=>exact ⟨0,by omega,rfl,⟨by omega,by omega,by omega,by omega,by omega⟩,Below.refl _ _⟩
  case round =>
    obtain ⟨j,hj,rfl,⟨g0,g1,g2,g3,g4⟩,hbel⟩:=hrel
    have HB:=Lib.hid hbel
    have HS:=Lib.hid (show w.heap.size+1≤wr.heap.size from Nat.le_trans (Nat.le_of_eq HZ.out.symm) hbel.size)
    have o7:wr.cell? ⟨w.heap.size,7,none⟩=some (.bool s6):=(hbel.cell (p:=⟨w.heap.size,7,none⟩) (Nat.lt_succ_self _)).trans (BOX.out.cell 7)
    have o8:wr.cell? ⟨w.heap.size,8,none⟩=some (.int .u64 sh):=(hbel.cell (p:=⟨w.heap.size,8,none⟩) (Nat.lt_succ_self _)).trans (BOX.out.cell 8)
    have o9:wr.cell? ⟨w.heap.size,9,none⟩=some (.int .u64 sl):=(hbel.cell (p:=⟨w.heap.size,9,none⟩) (Nat.lt_succ_self _)).trans (BOX.out.cell 9)
    have o10:wr.cell? ⟨w.heap.size,10,none⟩=some (.bool d6):=(hbel.cell (p:=⟨w.heap.size,10,none⟩) (Nat.lt_succ_self _)).trans (BOX.out.cell 10)
    have o11:wr.cell? ⟨w.heap.size,11,none⟩=some (.int .u64 dh):=(hbel.cell (p:=⟨w.heap.size,11,none⟩) (Nat.lt_succ_self _)).trans (BOX.out.cell 11)
    have o12:wr.cell? ⟨w.heap.size,12,none⟩=some (.int .u64 dl):=(hbel.cell (p:=⟨w.heap.size,12,none⟩) (Nat.lt_succ_self _)).trans (BOX.out.cell 12)
    have o13:wr.cell? ⟨w.heap.size,13,none⟩=some (.slice AO no co):=(hbel.cell (p:=⟨w.heap.size,13,none⟩) (Nat.lt_succ_self _)).trans (BOX.out.cell 13)
    clear hbel
    have hcase:j=0∨j=1∨j=2∨j=3∨j=4∨j=5:=by omega
    rcases hcase with rfl | rfl | rfl | rfl | rfl | rfl
    · clear o7 o8 o9 o10 o11 o12 o13
      by_cases b0:tos<0
      · have q1:decide (tos<0)=true:=decide_eq_true b0
        clear g0 g1 g2 g3 g4 b0
        go_wp2_with fail
        go_ret
        exact ⟨rfl,HBX.out.trans ((HB.out.alloc HS.out _).mono (Nat.le_succ _))⟩
      by_cases b1:255<tos
      · have q1:decide (tos<0)=false:=decide_eq_false b0
        have q2:decide (255<tos)=true:=decide_eq_true b1
        clear g0 g1 g2 g3 g4 b0 b1
        go_wp2_with fail
        go_ret
        exact ⟨rfl,HBX.out.trans ((HB.out.alloc HS.out _).mono (Nat.le_succ _))⟩
      have q1:decide (tos<0)=false:=decide_eq_false b0
      have q2:decide (255<tos)=false:=decide_eq_false b1
      have GN:=Lib.hid (show (0<1→0≤tos∧tos≤255)∧(1<1→0≤ttl∧ttl≤255)∧(2<1→0≤pr∧pr≤255)∧(3<1→0≤id∧id≤65535)∧(4<1→0≤fr∧fr≤8191) from ⟨fun _=>⟨by omega,by omega⟩,fun h=>absurd h (by omega),fun h=>absurd h (by omega),fun h=>absurd h (by omega),fun h=>absurd h (by omega)⟩)
      clear g0 g1 g2 g3 g4 b0 b1
      go_wp2_with fail
      go_roundw
      case rel=>first | exact ⟨1,by omega,by go_num,GN.out,HB.out.alloc HS.out _⟩ | ((repeat apply Exists.intro); exact ⟨⟨1,by omega,by go_num,GN.out,HB.out.alloc HS.out _⟩,rfl⟩)
      case measure=>simp [intOf]
    · clear o7 o8 o9 o10 o11 o12 o13
      by_cases b0:ttl<0
      · have q1:decide (ttl<0)=true:=decide_eq_true b0
        clear g0 g1 g2 g3 g4 b0
        go_wp2_with fail
        go_ret
        exact ⟨rfl,HBX.out.trans ((HB.out.alloc HS.out _).mono (Nat.le_succ _))⟩
      by_cases b1:255<ttl
      · have q1:decide (ttl<0)=false:=decide_eq_false b0
        have q2:decide (255<ttl)=true:=decide_eq_true b1
        clear g0 g1 g2 g3 g4 b0 b1
        go_wp2_with fail
        go_ret
        exact ⟨rfl,HBX.out.trans ((HB.out.alloc HS.out _).mono (Nat.le_succ _))⟩
      have q1:decide (ttl<0)=false:=decide_eq_false b0
      have q2:decide (255<ttl)=false:=decide_eq_false b1
      have GN:=Lib.hid (show (0<2→0≤tos∧tos≤255)∧(1<2→0≤ttl∧ttl≤255)∧(2<2→0≤pr∧pr≤255)∧(3<2→0≤id∧id≤65535)∧(4<2→0≤fr∧fr≤8191) from ⟨fun _=>g0 (by omega),fun _=>⟨by omega,by omega⟩,fun h=>absurd h (by omega),fun h=>absurd h (by omega),fun h=>absurd h (by omega)⟩)
      clear g0 g1 g2 g3 g4 b0 b1
      go_wp2_with fail
      go_roundw
      case rel=>first | exact ⟨2,by omega,by go_num,GN.out,HB.out.alloc HS.out _⟩ | ((repeat apply Exists.intro); exact ⟨⟨2,by omega,by go_num,GN.out,HB.out.alloc HS.out _⟩,rfl⟩)
      case measure=>simp [intOf]
    · clear o7 o8 o9 o10 o11 o12 o13
      by_cases b0:pr<0
      · have q1:decide (pr<0)=true:=decide_eq_true b0
        clear g0 g1 g2 g3 g4 b0
        go_wp2_with fail
        go_ret
        exact ⟨rfl,HBX.out.trans ((HB.out.alloc HS.out _).mono (Nat.le_succ _))⟩
      by_cases b1:255<pr
      · have q1:decide (pr<0)=false:=decide_eq_false b0
        have q2:decide (255<pr)=true:=decide_eq_true b1
        clear g0 g1 g2 g3 g4 b0 b1
        go_wp2_with fail
        go_ret
        exact ⟨rfl,HBX.out.trans ((HB.out.alloc HS.out _).mono (Nat.le_succ _))⟩
      have q1:decide (pr<0)=false:=decide_eq_false b0
      have q2:decide (255<pr)=false:=decide_eq_false b1
      have GN:=Lib.hid (show (0<3→0≤tos∧tos≤255)∧(1<3→0≤ttl∧ttl≤255)∧(2<3→0≤pr∧pr≤255)∧(3<3→0≤id∧id≤65535)∧(4<3→0≤fr∧fr≤8191) from ⟨fun _=>g0 (by omega),fun _=>g1 (by omega),fun _=>⟨by omega,by omega⟩,fun h=>absurd h (by omega),fun h=>absurd h (by omega)⟩)
      clear g0 g1 g2 g3 g4 b0 b1
      go_wp2_with fail
      go_roundw
      case rel=>first | exact ⟨3,by omega,by go_num,GN.out,HB.out.alloc HS.out _⟩ | ((repeat apply Exists.intro); exact ⟨⟨3,by omega,by go_num,GN.out,HB.out.alloc HS.out _⟩,rfl⟩)
      case measure=>simp [intOf]
    · clear o7 o8 o9 o10 o11 o12 o13
      by_cases b0:id<0
      · have q1:decide (id<0)=true:=decide_eq_true b0
        clear g0 g1 g2 g3 g4 b0
        go_wp2_with fail
        go_ret
        exact ⟨rfl,HBX.out.trans ((HB.out.alloc HS.out _).mono (Nat.le_succ _))⟩
      by_cases b1:65535<id
      · have q1:decide (id<0)=false:=decide_eq_false b0
        have q2:decide (65535<id)=true:=decide_eq_true b1
        clear g0 g1 g2 g3 g4 b0 b1
        go_wp2_with fail
        go_ret
        exact ⟨rfl,HBX.out.trans ((HB.out.alloc HS.out _).mono (Nat.le_succ _))⟩
      have q1:decide (id<0)=false:=decide_eq_false b0
      have q2:decide (65535<id)=false:=decide_eq_false b1
      have GN:=Lib.hid (show (0<4→0≤tos∧tos≤255)∧(1<4→0≤ttl∧ttl≤255)∧(2<4→0≤pr∧pr≤255)∧(3<4→0≤id∧id≤65535)∧(4<4→0≤fr∧fr≤8191) from ⟨fun _=>g0 (by omega),fun _=>g1 (by omega),fun _=>g2 (by omega),fun _=>⟨by omega,by omega⟩,fun h=>absurd h (by omega)⟩)
      clear g0 g1 g2 g3 g4 b0 b1
      go_wp2_with fail
      go_roundw
      case rel=>first | exact ⟨4,by omega,by go_num,GN.out,HB.out.alloc HS.out _⟩ | ((repeat apply Exists.intro); exact ⟨⟨4,by omega,by go_num,GN.out,HB.out.alloc HS.out _⟩,rfl⟩)
      case measure=>simp [intOf]
    · clear o7 o8 o9 o10 o11 o12 o13
      by_cases b0:fr<0
      · have q1:decide (fr<0)=true:=decide_eq_true b0
        clear g0 g1 g2 g3 g4 b0
        go_wp2_with fail
        go_ret
        exact ⟨rfl,HBX.out.trans ((HB.out.alloc HS.out _).mono (Nat.le_succ _))⟩
      by_cases b1:8191<fr
      · have q1:decide (fr<0)=false:=decide_eq_false b0
        have q2:decide (8191<fr)=true:=decide_eq_true b1
        clear g0 g1 g2 g3 g4 b0 b1
        go_wp2_with fail
        go_ret
        exact ⟨rfl,HBX.out.trans ((HB.out.alloc HS.out _).mono (Nat.le_succ _))⟩
      have q1:decide (fr<0)=false:=decide_eq_false b0
      have q2:decide (8191<fr)=false:=decide_eq_false b1
      have GN:=Lib.hid (show (0<5→0≤tos∧tos≤255)∧(1<5→0≤ttl∧ttl≤255)∧(2<5→0≤pr∧pr≤255)∧(3<5→0≤id∧id≤65535)∧(4<5→0≤fr∧fr≤8191) from ⟨fun _=>g0 (by omega),fun _=>g1 (by omega),fun _=>g2 (by omega),fun _=>g3 (by omega),fun _=>⟨by omega,by omega⟩⟩)
      clear g0 g1 g2 g3 g4 b0 b1
      go_wp2_with fail
      go_roundw
      case rel=>first | exact ⟨5,by omega,by go_num,GN.out,HB.out.alloc HS.out _⟩ | ((repeat apply Exists.intro); exact ⟨⟨5,by omega,by go_num,GN.out,HB.out.alloc HS.out _⟩,rfl⟩)
      case measure=>simp [intOf]
    · have G5:=Lib.hid (show (0≤tos∧tos≤255)∧(0≤ttl∧ttl≤255)∧(0≤pr∧pr≤255)∧(0≤id∧id≤65535)∧(0≤fr∧fr≤8191) from ⟨g0 (by omega),g1 (by omega),g2 (by omega),g3 (by omega),g4 (by omega)⟩)
      clear g0 g1 g2 g3 g4
      go_wp2_with fail
      clear o7 o8 o9 o10 o11 o12 o13
      obtain ⟨wo,rfl⟩:∃ wo:World,wo=wr:=⟨_,rfl⟩
      go_loopw [42,6] (fun i _ wq=>∃ j:Nat,j≤2∧i=.int .i64 j∧((0<j→okA s6 sh sl)∧(1<j→okA d6 dh dl))∧Below (w.heap.size+1) (w.alloc (.cells #[.int .i64 tos,.int .i64 id,.bool df,.bool mf,.int .i64 fr,.int .i64 ttl,.int .i64 pr,.bool s6,.int .u64 sh,.int .u64 sl,.bool d6,.int .u64 dh,.int .u64 dl,.slice AO no co] 53)) wq) (fun i _ _=>2 - (intOf i).toNat)
      case atStart=>exact ⟨0,by omega,rfl,⟨by omega,by omega⟩,HB.out⟩
      case round =>
        obtain ⟨j,hj,rfl,⟨a0,a1⟩,hbel⟩:=hrel
        have HB2:=Lib.hid hbel
        have HS2:=Lib.hid (show w.heap.size+1≤wr.heap.size from Nat.le_trans (Nat.le_of_eq HZ.out.symm) hbel.size)
        have o13:wr.cell? ⟨w.heap.size,13,none⟩=some (.slice AO no co):=(hbel.cell (p:=⟨w.heap.size,13,none⟩) (Nat.lt_succ_self _)).trans (BOX.out.cell 13)
        clear hbel
        have hcase:j=0∨j=1∨j=2:=by omega
        rcases hcase with rfl | rfl | rfl
        · clear o13
          by_cases hA:okA s6 sh sl
          · have GN:=Lib.hid (show (0<1→okA s6 sh sl)∧(1<1→okA d6 dh dl) from ⟨fun _=>hA,fun h=>absurd h (by omega)⟩)
            have HA:=Lib.hid (fun w=>addr_yes sl w l0 hA.2.2)
            obtain ⟨rfl,rfl,_⟩:=hA
            clear a0 a1
            go_wp2_with fail
            refine (HA.out _).mono ?_
            rintro e w5 ⟨rfl,hb5⟩
            have HB5:=Lib.hid ((HB2.out.alloc HS2.out _).trans (hb5.mono (Nat.le_trans HS2.out (Below.size ((Below.refl 0 _).alloc (Nat.zero_le _) _)))))
            clear hb5
            go_wp2_with fail
            go_roundw
            case rel=>first | exact ⟨1,by omega,by go_num,GN.out,HB5.out⟩ | ((repeat apply Exists.intro); exact ⟨⟨1,by omega,by go_num,GN.out,HB5.out⟩,rfl⟩)
            case measure=>simp [intOf]
          · by_cases e1:s6=true
            · subst e1
              clear a0 a1 hA
              go_wp2_with fail
              go_ret
              exact ⟨rfl,HBX.out.trans ((HB2.out.alloc HS2.out _).mono (Nat.le_succ _))⟩
            · have e2:s6=false:=by simpa using e1
              subst e2
              have HA:=Lib.hid (fun w=>addr_no sh sl w hA)
              clear a0 a1 hA e1
              go_wp2_with fail
              refine (HA.out _).mono ?_
              rintro e w5 ⟨rfl,hb5⟩
              have HB5:=Lib.hid ((HB2.out.alloc HS2.out _).trans (hb5.mono (Nat.le_trans HS2.out (Below.size ((Below.refl 0 _).alloc (Nat.zero_le _) _)))))
              clear hb5
              go_wp2_with fail
              go_ret
              exact ⟨rfl,HBX.out.trans (HB5.out.mono (Nat.le_succ _))⟩
        · clear o13
          by_cases hA:okA d6 dh dl
          · have GN:=Lib.hid (show (0<2→okA s6 sh sl)∧(1<2→okA d6 dh dl) from ⟨fun _=>a0 (by omega),fun _=>hA⟩)
            have HA:=Lib.hid (fun w=>addr_yes dl w l1 hA.2.2)
            obtain ⟨rfl,rfl,_⟩:=hA
            clear a0 a1
            go_wp2_with fail
            refine (HA.out _).mono ?_
            rintro e w5 ⟨rfl,hb5⟩
            have HB5:=Lib.hid ((HB2.out.alloc HS2.out _).trans (hb5.mono (Nat.le_trans HS2.out (Below.size ((Below.refl 0 _).alloc (Nat.zero_le _) _)))))
            clear hb5
            go_wp2_with fail
            go_roundw
            case rel=>first | exact ⟨2,by omega,by go_num,GN.out,HB5.out⟩ | ((repeat apply Exists.intro); exact ⟨⟨2,by omega,by go_num,GN.out,HB5.out⟩,rfl⟩)
            case measure=>simp [intOf]
          · by_cases e1:d6=true
            · subst e1
              clear a0 a1 hA
              go_wp2_with fail
              go_ret
              exact ⟨rfl,HBX.out.trans ((HB2.out.alloc HS2.out _).mono (Nat.le_succ _))⟩
            · have e2:d6=false:=by simpa using e1
              subst e2
              have HA:=Lib.hid (fun w=>addr_no dh dl w hA)
              clear a0 a1 hA e1
              go_wp2_with fail
              refine (HA.out _).mono ?_
              rintro e w5 ⟨rfl,hb5⟩
              have HB5:=Lib.hid ((HB2.out.alloc HS2.out _).trans (hb5.mono (Nat.le_trans HS2.out (Below.size ((Below.refl 0 _).alloc (Nat.zero_le _) _)))))
              clear hb5
              go_wp2_with fail
              go_ret
              exact ⟨rfl,HBX.out.trans (HB5.out.mono (Nat.le_succ _))⟩
        · have hb:=HBAD.out
          have g5:=G5.out
          have ha0:=a0 (by omega)
          have ha1:=a1 (by omega)
          have hno:¬ (no≤40∧no % 4=0):=fun hh=>hb ⟨g5.1,g5.2.1,g5.2.2.1,g5.2.2.2.1,g5.2.2.2.2,ha0,ha1,hh.1,hh.2⟩
          clear hb g5 ha0 ha1 a0 a1
          by_cases n0:no≤40
          · have q1:decide ((no:Int)≤40)=true:=decide_eq_true (by omega)
            have q3:(((no:Int) % 4) == 0)=false:=eqF (by omega)
            clear hno n0
            go_wp2_with fail
            go_ret
            exact ⟨rfl,HBX.out.trans (HB2.out.mono (Nat.le_succ _))⟩
          · have q1:decide ((no:Int)≤40)=false:=decide_eq_false (by omega)
            clear hno n0
            go_wp2_with fail
            go_ret
            exact ⟨rfl,HBX.out.trans (HB2.out.mono (Nat.le_succ _))⟩
theorem bytes_wrong (tos id:Int) (df mf:Bool) (fr ttl pr:Int) (s6:Bool) (sh sl:Int) (d6:Bool) (dh dl:Int) (AO:Option Addr) (no co:Nat) (A:Option Addr) (n c:Nat) (w:World) (l0:0≤sl) (l1:0≤dl) (h:¬ okG tos id fr ttl pr s6 sh sl d6 dh dl no) :
    Calls Try.prog 38 #[.agg #[.int .i64 tos,.int .i64 id,.bool df,.bool mf,.int .i64 fr,.int .i64 ttl,.int .i64 pr,.bool s6,.int .u64 sh,.int .u64 sl,.bool d6,.int .u64 dh,.int .u64 dl,.slice AO no co],.slice A n c] w fun e w'=>e=.returned (.tuple #[.slice none 0 0,.int .i64 1])∧Below w.heap.size w w':=by
  have HRT:=Lib.hid (fun w=>right_no tos id df mf fr ttl pr s6 sh sl d6 dh dl AO no co w l0 l1 h)
  have HB0:=Lib.hid (show Below w.heap.size w (w.alloc (.cells #[.int .i64 tos,.int .i64 id,.bool df,.bool mf,.int .i64 fr,.int .i64 ttl,.int .i64 pr,.bool s6,.int .u64 sh,.int .u64 sl,.bool d6,.int .u64 dh,.int .u64 dl,.slice AO no co] 53)) from (Below.refl _ _).alloc (Nat.le_refl _) _)
  clear h
  go_enter Try.func38,Try.ntmps38
  go_wp2_with fail
  refine (HRT.out _).mono ?_
  rintro e w1 ⟨rfl,hb⟩
  have HB:=Lib.hid (bel_call HB0.out hb)
  clear hb
  go_wp2_with fail
  go_ret2
  exact ⟨rfl,HB.out⟩
end Go.Proofs.Ytodckfgfbcnkoaa.fourJn
/- Layer 13: a datagram that is made. -/
namespace Go.Proofs.Ytodckfgfbcnkoaa.pktM
set_option maxHeartbeats 4000000
open Go.ChangeShapes Go.WideShapes Go.ChangeAt Go.RowKit
open base rdrA rdrG sumA sumB sixW sixM pktA pktB pktL
set_option linter.unusedVariables false
def udpM (sp dp:Int) (pl ps:List Int):Int × List Int:=if 0≤sp∧sp≤65535∧0≤dp∧dp≤65535 then (0,udpB.ub sp dp pl (udpB.chkZ (ps++udpB.ub sp dp pl 0))) else (1,[])
theorem udp_bytes (sp dp:Int) (A A2:Option Addr) (n c n2 c2:Nat) (pl ps:List Int) (w:World) (h:Sl w A n c pl) (h2:Sl w A2 n2 c2 ps) (hn:n≤1000) (hn2:n2≤1000) :
    Calls Try.prog 63 #[.agg #[.int .i64 sp,.int .i64 dp,.bool false],.slice A n c,.slice A2 n2 c2] w (MkP (udpM sp dp pl ps).1 (udpM sp dp pl ps).2 w):=by
  unfold udpM
  by_cases hp:0≤sp∧sp≤65535∧0≤dp∧dp≤65535
  · rw [if_pos hp]
    have key:Calls Try.prog 63 #[.agg #[.int .i64 sp,.int .i64 dp,.bool false],.slice A n c,.slice A2 n2 c2] w (udpB.BPost w (8+n) (udpB.ub sp dp pl (udpB.chkZ (ps++udpB.ub sp dp pl 0)))):=by
      by_cases h0:n=0
      · exact udpC.bytes_eight_sum sp dp A A2 n c n2 c2 pl ps w hp h.len (by omega) h0 h.row h.u8 h2.len hn2 h2.row h2.u8
      · exact udpC.bytes_far_sum sp dp A A2 n c n2 c2 pl ps w hp h.len (by omega) h0 h.row h.u8 h2.len hn2 h2.row h2.u8
    refine key.mono ?_
    rintro o w' ⟨v,rfl,h3,h4⟩
    obtain ⟨B,d,rfl⟩:=own_slice h3
    exact ⟨h4,B,_,d,rfl,Sl.own h3 (by rw [udpB.ub_len,h.len]) (udpB.ub_in sp dp pl _ h.u8)⟩
  · rw [if_neg hp]
    refine (udpB.bytes_wrong sp dp false A A2 n c n2 c2 w hp).mono ?_
    rintro o w' ⟨rfl,h4⟩
    exact MkP.nil_ h4
def fourM (ttl pr sh sl:Int) (d6:Bool) (dh dl:Int) (bl:List Int):Int × List Int:=if (0≤ttl∧ttl≤255)∧(0≤pr∧pr≤255)∧(sh=0∧sl≤4294967295)∧(d6=false∧dh=0∧dl≤4294967295) then
  (0,fourD.hk 0 0 0 ttl pr sl dl (65535 - fo (wsum (fourD.hk 0 0 0 ttl pr sl dl 0 (20+((0:Nat):Int)+(bl.length:Int)) []))) (20+((0:Nat):Int)+(bl.length:Int)) []++bl) else (1,[])
theorem four_bytes (ttl pr sh sl:Int) (d6:Bool) (dh dl:Int) (A:Option Addr) (n c:Nat) (bl:List Int) (w:World) (h:Sl w A n c bl) (hn:n≤900) (l0:0≤sl) (l1:0≤dl) :
    Calls Try.prog 38 #[.agg #[.int .i64 0,.int .i64 0,.bool false,.bool false,.int .i64 0,.int .i64 ttl,.int .i64 pr,.bool false,.int .u64 sh,.int .u64 sl,.bool d6,.int .u64 dh,.int .u64 dl,.slice none 0 0],.slice A n c] w (MkP (fourM ttl pr sh sl d6 dh dl bl).1 (fourM ttl pr sh sl d6 dh dl bl).2 w):=by
  have hl:=h.len
  unfold fourM
  by_cases hp:(0≤ttl∧ttl≤255)∧(0≤pr∧pr≤255)∧(sh=0∧sl≤4294967295)∧(d6=false∧dh=0∧dl≤4294967295)
  · rw [if_pos hp]
    obtain ⟨h1,h2,⟨rfl,h3⟩,rfl,rfl,h4⟩:=hp
    subst hl
    refine (fourE.bytes_any 0 0 false false 0 ttl pr sl dl none 0 0 [] A bl.length c bl w ⟨by omega,by omega,by omega,h1,h2,⟨l0,h3⟩,⟨l1,h4⟩,by omega,by omega⟩ rfl (.inl rfl) (fun _=>rfl) (fun x hx=>by cases hx) rfl hn h.row h.nil _ rfl).mono ?_
    rintro o w' ⟨v,rfl,h5,h6⟩
    obtain ⟨B,d,rfl⟩:=own_slice h5
    refine ⟨h6,B,_,d,rfl,Sl.own h5 rfl ?_⟩
    have hin:=fourD.hk_in 0 0 0 ttl pr sl dl 0 (20+((0:Nat):Int)+(bl.length:Int)) [] (by omega) (by omega) (by omega) h1 h2 ⟨l0,h3⟩ ⟨l1,h4⟩ (by omega) (by omega) (by simp) (fun x hx=>by cases hx)
    have hck:=fo_bd _ (wsum_bd _ hin).1
    exact U8.join (fourD.hk_in 0 0 0 ttl pr sl dl _ (20+((0:Nat):Int)+(bl.length:Int)) [] (by omega) (by omega) (by omega) h1 h2 ⟨l0,h3⟩ ⟨l1,h4⟩ (by omega) (by omega) (by simp) (fun x hx=>by cases hx)) h.u8
  · rw [if_neg hp]
    refine (fourJn.bytes_wrong 0 0 false false 0 ttl pr false sh sl d6 dh dl none 0 0 A n c w l0 l1 (fun ⟨_,a,b,_,_,⟨_,c1,c2⟩,⟨d1,d2,d3⟩,_⟩=>hp ⟨a,b,⟨c1,c2⟩,d1,d2,d3⟩)).mono ?_
    rintro o w' ⟨rfl,h4⟩
    exact MkP.nil_ h4
theorem dg_closure (pr:Int) (s6:Bool) (sh sl:Int) (d6:Bool) (dh dl sp dp:Int) (c1 c2:Nat) (A A2:Option Addr) (n c n2 cc2:Nat) (e:Int) (bs:List Int) (w:World)
    (K1:Blk w c1 34 #[.int .i64 pr,.bool s6,.int .u64 sh,.int .u64 sl,.bool d6,.int .u64 dh,.int .u64 dl,.int .i64 sp,.int .i64 dp]) (K2:Blk w c2 22 #[.slice A n c])
    (HC:Hid (Calls Try.prog 63 #[.agg #[.int .i64 sp,.int .i64 dp,.bool false],.slice A n c,.slice A2 n2 cc2] w (MkP e bs w))) :
    Calls Try.prog 62 #[.slice A2 n2 cc2,.pointer (some ⟨c1,0,none⟩),.pointer (some ⟨c2,0,none⟩)] w (MkP e bs w):=by
  have p7:=K1.cell 7
  have p8:=K1.cell 8
  have q0:=K2.cell 0
  go_enter Try.func62,Try.ntmps62
  go_wp2_with fail
  refine HC.out.mono ?_
  rintro o w4 ⟨hb4,A4,n4,c4,rfl,hs4⟩
  go_wp2_with fail
  go_ret2
  exact ⟨hb4,A4,n4,c4,rfl,hs4⟩
theorem dgram_go (s6:Bool) (sh sl:Int) (dh dl sp dp ttl:Int) (A:Option Addr) (n c:Nat) (e:Int) (bs:List Int) (w:World) (hn:n≤1000)
    (HW:Hid (∀ V c1 c2,Below w.heap.size w V→Blk V c1 34 #[.int .i64 17,.bool s6,.int .u64 sh,.int .u64 sl,.bool s6,.int .u64 dh,.int .u64 dl,.int .i64 sp,.int .i64 dp]→Blk V c2 22 #[.slice A n c]→Calls Try.prog 59 #[.agg #[.int .i64 17,.bool s6,.int .u64 sh,.int .u64 sl,.bool s6,.int .u64 dh,.int .u64 dl,.int .i64 sp,.int .i64 dp],.int .i64 ttl,.int .i64 (8+(n:Int)),.func (.func 62) #[] #[.pointer (some ⟨c1,0,none⟩),.pointer (some ⟨c2,0,none⟩)]] V (MkP e bs V))) :
    Calls Try.prog 26 #[.agg #[.int .i64 17,.bool s6,.int .u64 sh,.int .u64 sl,.bool s6,.int .u64 dh,.int .u64 dl,.int .i64 sp,.int .i64 dp],.int .i64 ttl,.slice A n c] w (MkP e bs w):=by
  have hmf:∀ (fn:Fn) (first cap:Array Value) (w:World),(Instr.makeFunc fn first cap).run Try.prog w=.ok (.func fn first cap) w:=fun _ _ _ _=>rfl
  obtain ⟨w1,hw1⟩:∃ w1,w1=(w.alloc (.cells #[.int .i64 17,.bool s6,.int .u64 sh,.int .u64 sl,.bool s6,.int .u64 dh,.int .u64 dl,.int .i64 sp,.int .i64 dp] 34)).alloc (.cells #[.slice A n c] 22):=⟨_,rfl⟩
  have E1:=Lib.hid hw1
  have B1:=Lib.hid (show Below w.heap.size w w1 from by rw [hw1]; exact ((Below.refl _ _).alloc (Nat.le_refl _) _).alloc (by simp) _)
  obtain ⟨g,hg⟩:∃ g,g=w.heap.size:=⟨_,rfl⟩
  obtain ⟨q,hq⟩:∃ q,q=w.heap.size+1:=⟨_,rfl⟩
  have EG:=Lib.hid hg
  have EQ:=Lib.hid hq
  have KP:=Lib.hid (show Blk w1 g 34 #[.int .i64 17,.bool s6,.int .u64 sh,.int .u64 sl,.bool s6,.int .u64 dh,.int .u64 dl,.int .i64 sp,.int .i64 dp] from by rw [hw1,hg]; exact (Blk.new w _ _).below ((Below.refl _ _).alloc (Nat.le_refl _) _) (Blk.new w _ _).lt)
  have KQ:=Lib.hid (show Blk w1 q 22 #[.slice A n c] from by
    have h9:=Blk.new (w.alloc (.cells #[.int .i64 17,.bool s6,.int .u64 sh,.int .u64 sl,.bool s6,.int .u64 dh,.int .u64 dl,.int .i64 sp,.int .i64 dp] 34)) 22 #[.slice A n c]
    rw [← hw1] at h9
    rw [hq]
    simpa using h9)
  have HW1:=Lib.hid (HW.out w1 g q B1.out KP.out KQ.out)
  have tv:(s6 == s6)=true:=by simp
  clear hw1 hg hq
  go_enter Try.func26,Try.ntmps26
  go_upto_region 1 with fail
  rw [← E1.out,← EQ.out,← EG.out]
  have p0:=KP.out.cell 0
  have p1:=KP.out.cell 1
  have p2:=KP.out.cell 2
  have p3:=KP.out.cell 3
  have p4:=KP.out.cell 4
  have p5:=KP.out.cell 5
  have p6:=KP.out.cell 6
  have p7:=KP.out.cell 7
  have p8:=KP.out.cell 8
  have q0:=KQ.out.cell 0
  go_wp2_with fail
  refine HW1.out.mono ?_
  rintro o w4 ⟨hb4,A4,n4,c4,rfl,hs4⟩
  have B4:=Lib.hid (B1.out.trans (hb4.mono B1.out.size))
  clear hb4
  go_wp2_with fail
  go_ret2
  exact ⟨B4.out,A4,n4,c4,rfl,hs4⟩
end Go.Proofs.Ytodckfgfbcnkoaa.pktM
/- Layer 8: what bytes that were put say. -/
namespace Go.Proofs.Ytodckfgfbcnkoaa.fourHn
open Go.ChangeShapes Go.WideShapes Go.ChangeAt Go.RowKit
open base sumA sumB octA rdrA udpA net fourA fourD
set_option linter.unusedVariables false
theorem wsum_hk (tos id fl ttl pr sl dl ck sz:Int) (os:List Int) (c0:0≤ck) (c1:ck≤65535):wsum (hk tos id fl ttl pr sl dl ck sz os)=wsum (hk tos id fl ttl pr sl dl 0 sz os)+ck:=by
  unfold hk
  rw [wsum_app 10 _ os rfl,wsum_app 10 _ os rfl]
  simp only [wsum]
  omega
theorem hk_chk (tos id fl ttl pr sl dl sz:Int) (os:List Int) (hin:∀ x ∈ hk tos id fl ttl pr sl dl 0 sz os,0≤x∧x≤255):fo (wsum (hk tos id fl ttl pr sl dl (65535 - fo (wsum (hk tos id fl ttl pr sl dl 0 sz os))) sz os))=65535:=by
  have s0:=(wsum_bd _ hin).1
  have b:=fo_bd _ s0
  rw [wsum_hk _ _ _ _ _ _ _ _ _ _ (by omega) (by omega)]
  rcases fo_full _ s0 with h | h
  · exact h
  · rw [h]; simpa using h
theorem hk_says (tos id fl ttl pr sl dl ck sz:Int) (os t:List Int) (s:Nat) (hs:20+os.length=s) (h4:s % 4=0) (h60:s≤60) (f0:0≤fl) :
    (hk tos id fl ttl pr sl dl ck sz os++t).getD 0 0 / 16=4∧hl (hk tos id fl ttl pr sl dl ck sz os++t)=(s:Int)∧w16 (hk tos id fl ttl pr sl dl ck sz os++t) 6=fl∧w16 (hk tos id fl ttl pr sl dl ck sz os++t) 2=sz ∧
      (hk tos id fl ttl pr sl dl ck sz os++t).take s=hk tos id fl ttl pr sl dl ck sz os∧(hk tos id fl ttl pr sl dl ck sz os++t).drop s=t∧(hk tos id fl ttl pr sl dl ck sz os).drop 20=os:=by
  have hlen:(hk tos id fl ttl pr sl dl ck sz os).length=s:=by rw [hk_len,hs]
  refine ⟨?_,?_,?_,?_,?_,?_,rfl⟩
  · show (64+(20+(os.length:Int)) / 4) / 16=4
    omega
  · show (64+(20+(os.length:Int)) / 4) % 16*4=_
    omega
  · show fl / 256*256+fl % 256=fl
    omega
  · show sz / 256*256+sz % 256=sz
    omega
  · rw [List.take_append_of_le_length (by omega),List.take_of_length_le (by omega)]
  · rw [List.drop_append_of_le_length (by omega),List.drop_of_length_le (by omega),List.nil_append]
end Go.Proofs.Ytodckfgfbcnkoaa.fourHn
/- Layer 11: what bytes that were put say. -/
namespace Go.Proofs.Ytodckfgfbcnkoaa.udpJn
open Go.ChangeShapes Go.WideShapes Go.ChangeAt Go.RowKit
open sumA sumB octB rdrA udpA udpB net
set_option linter.unusedVariables false
theorem ub_all (sp dp:Int) (pl:List Int) (ck:Int) (h:ports sp dp) (hn:pl.length≤65527) (c0:0≤ck) (c1:ck≤65535):ub sp dp pl ck=[sp / 256,sp % 256,dp / 256,dp % 256,((8+pl.length:Nat):Int) / 256,((8+pl.length:Nat):Int) % 256,ck / 256,ck % 256]++pl:=by
  obtain ⟨h1,h2,h3,h4⟩:=h
  unfold ub
  simp only [allb,List.flatMap_cons,List.flatMap_nil]
  rw [pb_two sp h1 h2,pb_two dp h3 h4,pb_two _ (by omega) (by omega),pb_two ck c0 c1]
  rfl
theorem ub_says (sp dp:Int) (pl:List Int) (ck:Int) (h:ports sp dp) (hn:pl.length≤65527) (c0:0≤ck) (c1:ck≤65535) :
    w16 (ub sp dp pl ck) 0=sp∧w16 (ub sp dp pl ck) 2=dp∧w16 (ub sp dp pl ck) 4=(ub sp dp pl ck).length∧w16 (ub sp dp pl ck) 6=ck∧(ub sp dp pl ck).drop 8=pl:=by
  rw [ub_len]
  rw [ub_all sp dp pl ck h hn c0 c1]
  refine ⟨?_,?_,?_,?_,rfl⟩
  · show sp / 256*256+sp % 256=sp; omega
  · show dp / 256*256+dp % 256=dp; omega
  · show ((8+pl.length:Nat):Int) / 256*256+((8+pl.length:Nat):Int) % 256=_; omega
  · show ck / 256*256+ck % 256=ck; omega
theorem wsum_ub (sp dp:Int) (pl:List Int) (ck:Int) (h:ports sp dp) (hn:pl.length≤65527) (c0:0≤ck) (c1:ck≤65535):wsum (ub sp dp pl ck)=wsum (ub sp dp pl 0)+ck:=by
  rw [ub_all sp dp pl ck h hn c0 c1,ub_all sp dp pl 0 h hn (by omega) (by omega)]
  rw [wsum_app 4 _ pl rfl,wsum_app 4 _ pl rfl]
  simp only [wsum]
  omega
theorem fo_full (s:Int) (h:0≤s):fo (s+(if 65535 - fo s=0 then 65535 else 65535 - fo s))=65535:=by
  have a:=fo_bd s h
  have b:=fo_add (x:=s) (t:=if 65535 - fo s=0 then 65535 else 65535 - fo s) h (by split <;> omega)
  rw [← b]
  split
  · rename_i h0
    rw [show fo s=65535 by omega]
    rfl
  · rw [show fo s+(65535 - fo s)=65535 by omega]
    rfl
theorem chk_right (sp dp:Int) (pl ps:List Int) (h:ports sp dp) (hn:pl.length≤65527) (hp:∀ x ∈ pl,0≤x∧x≤255) (hq:∀ x ∈ ps,0≤x∧x≤255) (he:ps.length % 2=0) :
    fo (wsum (ps++ub sp dp pl (chkZ (ps++ub sp dp pl 0))))=65535:=by
  have hin:∀ x ∈ ps++ub sp dp pl 0,0≤x∧x≤255:=fun x hx=>(List.mem_append.1 hx).elim (hq x) (ub_in sp dp pl 0 hp x)
  have c:=chkZ_in _ hin
  have e:ps.length=2*(ps.length / 2):=by omega
  rw [wsum_app _ _ _ e,wsum_ub sp dp pl _ h hn c.1 c.2,← Int.add_assoc,← wsum_app _ _ _ e]
  exact fo_full _ (wsum_bd _ hin).1
theorem chk_pos (l:List Int) (hb:∀ x ∈ l,0≤x∧x≤255):chkZ l≠0:=by
  unfold chkZ
  split <;> omega
end Go.Proofs.Ytodckfgfbcnkoaa.udpJn
namespace Go.Proofs.Ytodckfgfbcnkoaa.tcpIn
end Go.Proofs.Ytodckfgfbcnkoaa.tcpIn
namespace Go.Proofs.Ytodckfgfbcnkoaa.sumI
end Go.Proofs.Ytodckfgfbcnkoaa.sumI
namespace Go.Proofs.Ytodckfgfbcnkoaa.tcpJn
end Go.Proofs.Ytodckfgfbcnkoaa.tcpJn
namespace Go.Proofs.Ytodckfgfbcnkoaa.tcpLn
end Go.Proofs.Ytodckfgfbcnkoaa.tcpLn
namespace Go.Proofs.Ytodckfgfbcnkoaa.tcpNn
end Go.Proofs.Ytodckfgfbcnkoaa.tcpNn
/- Layer 9: what is put, parsed again (plain words). -/
namespace Go.Proofs.Ytodckfgfbcnkoaa.sixY
open Go.ChangeShapes Go.WideShapes Go.ChangeAt Go.RowKit
open base octA octB octE rdrA rdrG tcpC sixW sixM snK sixE sixF sixH sixK sixQ sixT
set_option linter.unusedVariables false
theorem atN_pb8 (n:Int) (z:List Int) (h0:0≤n) (h1:n<18446744073709551616):atN (pb n 8 8++z) 0 8=n:=by
  obtain ⟨x,rfl⟩:=Int.eq_ofNat_of_zero_le h0
  have e:=atN_put [] 8 [(x:Int)] 0 x (by simp) rfl 8 (Nat.le_refl _)
  have e2:allb 8 [(x:Int)]=pb (x:Int) 8 8:=by
    show pb (x:Int) 8 8++[]=_
    rw [List.append_nil]
  rw [List.nil_append,e2] at e
  have e3:atN (pb (x:Int) 8 8++z) 0 8=atN (pb (x:Int) 8 8) 0 8:=by
    have key:∀ k,k≤8→atN (pb (x:Int) 8 8++z) 0 k=atN (pb (x:Int) 8 8) 0 k:=fun k=>by
      induction k with
      | zero=>intro _; rfl
      | succ k ih =>
        intro hk
        show atN _ 0 k*256+(pb (x:Int) 8 8++z).getD (0+k) 0=atN _ 0 k*256+(pb (x:Int) 8 8).getD (0+k) 0
        rw [ih (by omega),getD_app _ _ _ (by rw [pb_len]; omega)]
    exact key 8 (Nat.le_refl _)
  rw [e3]
  refine e.trans ?_
  have h9:x<18446744073709551616:=by omega
  show ((x / 1 % 18446744073709551616:Nat):Int)=_
  rw [Nat.div_one,Nat.mod_eq_of_lt h9]
theorem atN_pb16 (m n:Int) (z:List Int) (h0:0≤n) (h1:n<18446744073709551616):atN (pb m 8 8++(pb n 8 8++z)) 8 8=n:=by
  rw [atN_drop,List.drop_append_of_le_length (by rw [pb_len]; omega),List.drop_of_length_le (by rw [pb_len]; omega),List.nil_append]
  exact atN_pb8 n z h0 h1
theorem word_eq (cls lab:Int) (c0:0≤cls) (c1:cls≤255) (l0:0≤lab) (l1:lab≤1048575) (W:Int) (hW:W=((96+cls / 16)*256+(cls % 16*16+lab / 65536))*65536+(lab / 256 % 256*256+lab % 256)):W / 1048576 % 256=cls∧W % 1048576=lab:=by
  have e:W=(96*16+cls)*1048576+lab:=by omega
  clear hW
  omega
theorem hd_back (h:Hs) (X:List XP) (p0:Int) (N:Nat) (hN:N≤65535) (z:List Int) (hR:RightH h X) (hsh:0≤h.sh∧h.sh<18446744073709551616) (hsl:0≤h.sl∧h.sl<18446744073709551616) (hdh:0≤h.dh∧h.dh<18446744073709551616) (hdl:0≤h.dl∧h.dl<18446744073709551616) :
    hdOf (hdB h p0 N++z) h.p=h∧(hdB h p0 N++z).getD 0 0 / 16=6∧(hdB h p0 N++z).getD 6 0=p0∧sizeP (hdB h p0 N++z)=N∧(hdB h p0 N).length=40:=by
  obtain ⟨cls,lab,hop,s6,sh,sl,d6,dh,dl,p⟩:=h
  obtain rfl:s6=true:=hR.s6
  obtain rfl:d6=true:=hR.d6
  have c0:0≤cls:=hR.c0
  have c1:cls≤255:=hR.c1
  have l0:0≤lab:=hR.l0
  have l1:lab≤1048575:=hR.l1
  have e:hdB ⟨cls,lab,hop,true,sh,sl,true,dh,dl,p⟩ p0 N++z=(96+cls / 16)::(cls % 16*16+lab / 65536)::(lab / 256 % 256)::(lab % 256)::((N:Int) / 256 % 256)::((N:Int) % 256)::p0::hop::(pb sh 8 8++(pb sl 8 8++(pb dh 8 8++(pb dl 8 8++z)))):=by
    show (hd8 cls lab hop p0 N++(pb sh 8 8++pb sl 8 8)++(pb dh 8 8++pb dl 8 8))++z=_
    simp only [hd8,List.append_assoc,List.cons_append,List.nil_append]
  have d8:(hdB ⟨cls,lab,hop,true,sh,sl,true,dh,dl,p⟩ p0 N++z).drop 8=pb sh 8 8++(pb sl 8 8++(pb dh 8 8++(pb dl 8 8++z))):=by rw [e]; rfl
  have d24:(hdB ⟨cls,lab,hop,true,sh,sl,true,dh,dl,p⟩ p0 N++z).drop 24=pb dh 8 8++(pb dl 8 8++z):=by
    rw [show 24=8+16 from rfl,← List.drop_drop,d8]
    have ln:(pb sh 8 8++pb sl 8 8).length=16:=by rw [List.length_append,pb_len,pb_len]
    rw [← List.append_assoc,List.drop_append_of_le_length (by omega),List.drop_of_length_le (by omega),List.nil_append]
  have hw:=word_eq cls lab c0 c1 l0 l1 _ rfl
  refine ⟨?_,?_,?_,?_,?_⟩
  · show Hs.mk (w32 (hdB _ p0 N++z) 0 / 1048576 % 256) (w32 (hdB _ p0 N++z) 0 % 1048576) ((hdB _ p0 N++z).getD 7 0) true (atN ((hdB _ p0 N++z).drop 8) 0 8) (atN ((hdB _ p0 N++z).drop 8) 8 8) true (atN ((hdB _ p0 N++z).drop 24) 0 8) (atN ((hdB _ p0 N++z).drop 24) 8 8) p=_
    have ew:w32 (hdB ⟨cls,lab,hop,true,sh,sl,true,dh,dl,p⟩ p0 N++z) 0=((96+cls / 16)*256+(cls % 16*16+lab / 65536))*65536+(lab / 256 % 256*256+lab % 256):=by rw [e]; rfl
    have e7:(hdB ⟨cls,lab,hop,true,sh,sl,true,dh,dl,p⟩ p0 N++z).getD 7 0=hop:=by rw [e]; rfl
    rw [ew,hw.1,hw.2,e7,d8,d24,atN_pb8 sh _ hsh.1 hsh.2,atN_pb16 sh sl _ hsl.1 hsl.2,atN_pb8 dh _ hdh.1 hdh.2,atN_pb16 dh dl _ hdl.1 hdl.2]
  · rw [e]
    show (96+cls / 16) / 16=6
    omega
  · rw [e]; rfl
  · unfold sizeP
    rw [e]
    show (256*((N:Int) / 256 % 256)+(N:Int) % 256).toNat=N
    omega
  · show (hd8 cls lab hop p0 N++(pb sh 8 8++pb sl 8 8)++(pb dh 8 8++pb dl 8 8)).length=40
    simp only [List.length_append,pb_len,hd8,List.length_cons,List.length_nil]
theorem put_parse (h:Hs) (X:List XP) (r t:List Int) (hR:RightH h X) (hU:∀ x ∈ X,U8 x.2) (hr:r.length≤1000) (hsh:0≤h.sh∧h.sh<18446744073709551616) (hsl:0≤h.sl∧h.sl<18446744073709551616) (hdh:0≤h.dh∧h.dh<18446744073709551616) (hdl:0≤h.dl∧h.dl<18446744073709551616) :
    sixP (sixB h X r++t)=.inr (X,h.p,r)∧hdOf (sixB h X r++t) h.p=h∧sixQ (sixB h X r)=.inr (X,h.p,r)∧hdOf (sixB h X r) h.p=h∧(sixB h X r).getD 0 0 / 16=6∧(sixB h X r++t).getD 0 0 / 16=6∧(sixB h X r).length=40+extL X+r.length:=by
  have hx:=extL_le hR.e
  obtain ⟨a1,a2,a3,a4,a5⟩:=hd_back h X (nextK X h.p) (extL X+r.length) (by omega) ((extB X h.p++r)++t) hR hsh hsl hdh hdl
  obtain ⟨b1,b2,b3,b4,b5⟩:=hd_back h X (nextK X h.p) (extL X+r.length) (by omega) (extB X h.p++r) hR hsh hsl hdh hdl
  have ea:sixB h X r++t=hdB h (nextK X h.p) (extL X+r.length)++((extB X h.p++r)++t):=by unfold sixB; rw [List.append_assoc]
  have eb:sixB h X r=hdB h (nextK X h.p) (extL X+r.length)++(extB X h.p++r):=rfl
  have ln:(extB X h.p++r).length=extL X+r.length:=by rw [List.length_append,extB_len]
  have lb:(sixB h X r).length=40+extL X+r.length:=by rw [eb,List.length_append,a5,ln]; omega
  have hc:=chn_put X [] h.p r 9 (by rw [List.nil_append]; exact hR.e) hU hR.pn (by have:=hR.e.most; omega)
  rw [List.nil_append] at hc
  have dr:(sixB h X r).drop 40=extB X h.p++r:=by rw [eb,List.drop_append_of_le_length (by omega),List.drop_of_length_le (by omega),List.nil_append]
  refine ⟨?_,by rw [ea]; exact a1,?_,by rw [eb]; exact b1,by rw [eb]; exact b2,by rw [ea]; exact a2,lb⟩
  · have e4:sizeP (sixB h X r++t)=extL X+r.length:=by rw [ea]; exact a4
    have tk:(sixB h X r++t).take (40+(extL X+r.length))=sixB h X r:=by
      rw [List.take_append_of_le_length (by omega),List.take_of_length_le (by omega)]
    unfold sixP
    rw [if_neg (by rw [List.length_append]; omega),if_neg (by rw [ea,a2]; decide),e4,if_neg (by rw [List.length_append]; omega),tk,dr,ea,a3,hc]
    rfl
  · unfold sixQ
    rw [if_neg (by omega),if_neg (by rw [eb,b2]; decide),dr,eb,b3,hc]
    rfl
end Go.Proofs.Ytodckfgfbcnkoaa.sixY
/- Layer 13: what is made, parsed: plain words. -/
namespace Go.Proofs.Ytodckfgfbcnkoaa.pktR
open Go.ChangeShapes Go.WideShapes Go.ChangeAt Go.RowKit
open octA rdrA rdrG sumA sumB sixW sixM pktA pktB pktC pktE sixE sixF pktG
set_option linter.unusedVariables false
def mkB4 (ttl pr sl dl:Int) (bl:List Int):List Int:=fourD.hk 0 0 0 ttl pr sl dl (65535 - fo (wsum (fourD.hk 0 0 0 ttl pr sl dl 0 (20+((0:Nat):Int)+(bl.length:Int)) []))) (20+((0:Nat):Int)+(bl.length:Int)) []++bl
theorem mk4_len (ttl pr sl dl:Int) (bl:List Int):(mkB4 ttl pr sl dl bl).length=20+bl.length:=by
  unfold mkB4
  rw [List.length_append,fourD.hk_len]
  rfl
theorem mk4_drop (ttl pr sl dl:Int) (bl:List Int):(mkB4 ttl pr sl dl bl).drop 20=bl:=by
  unfold mkB4
  rw [List.drop_append_of_le_length (by rw [fourD.hk_len]; simp),List.drop_of_length_le (by rw [fourD.hk_len]; simp),List.nil_append]
theorem mk4_parse (ttl pr sl dl:Int) (bl:List Int) (h1:0≤ttl∧ttl≤255) (h2:0≤pr∧pr≤255) (h3:0≤sl∧sl≤4294967295) (h4:0≤dl∧dl≤4294967295) (hb:bl.length≤900) :
    pkP (mkB4 ttl pr sl dl bl)=withP false ⟨pr,false,0,sl,false,0,dl,0,0⟩ ttl (20+(bl.length:Int)) bl:=by
  have hln:=mk4_len ttl pr sl dl bl
  have hin:=fourD.hk_in 0 0 0 ttl pr sl dl 0 (20+((0:Nat):Int)+(bl.length:Int)) [] (by omega) (by omega) (by omega) h1 h2 h3 h4 (by omega) (by omega) (by simp) (fun x hx=>by cases hx)
  have hck:=fourHn.hk_chk 0 0 0 ttl pr sl dl (20+((0:Nat):Int)+(bl.length:Int)) [] hin
  obtain ⟨s1,s2,s3,s4,s5,s6,_⟩:=fourHn.hk_says 0 0 0 ttl pr sl dl (65535 - fo (wsum (fourD.hk 0 0 0 ttl pr sl dl 0 (20+((0:Nat):Int)+(bl.length:Int)) []))) (20+((0:Nat):Int)+(bl.length:Int)) [] bl 20 rfl rfl (by omega) (by omega)
  have e12:tcpC.w32 (mkB4 ttl pr sl dl bl) 12=sl:=by
    show (sl / 65536 / 256*256+sl / 65536 % 256)*65536+(sl % 65536 / 256*256+sl % 65536 % 256)=_
    omega
  have e16:tcpC.w32 (mkB4 ttl pr sl dl bl) 16=dl:=by
    show (dl / 65536 / 256*256+dl / 65536 % 256)*65536+(dl % 65536 / 256*256+dl % 65536 % 256)=_
    omega
  have e8:(mkB4 ttl pr sl dl bl).getD 8 0=ttl:=rfl
  have e9:(mkB4 ttl pr sl dl bl).getD 9 0=pr:=rfl
  rw [show fourD.hk 0 0 0 ttl pr sl dl (65535 - fo (wsum (fourD.hk 0 0 0 ttl pr sl dl 0 (20+((0:Nat):Int)+(bl.length:Int)) []))) (20+((0:Nat):Int)+(bl.length:Int)) []++bl=mkB4 ttl pr sl dl bl from rfl] at s1 s2 s3 s4 s5 s6
  generalize mkB4 ttl pr sl dl bl=B at *
  have hS:fourS B=20:=by unfold fourS; rw [s2]; rfl
  have hR:fourR B=bl:=by
    unfold fourR
    rw [hS,s6,s4,List.take_of_length_le (by omega)]
  have hE:fourE B=0:=by
    unfold fourE
    rw [if_neg (by omega),if_neg (by omega),if_neg (by omega),if_neg (by omega),if_neg (by omega),s2,show ((20:Nat):Int).toNat=20 from rfl,s5,if_neg (by omega)]
  unfold pkP
  rw [if_neg (by omega),if_neg (by omega),if_pos s1]
  unfold p4
  rw [if_neg (by omega),s3,if_neg (by decide),e8,e9,e12,e16,hS,hR]
  rfl
def mkB6 (ttl pr sh sl dh dl:Int) (bl:List Int):List Int:=sixK.sixB ⟨0,0,ttl,true,sh,sl,true,dh,dl,pr⟩ [] bl
theorem right6 (ttl pr sh sl dh dl:Int) (h1:0≤ttl∧ttl≤255) (h2:0≤pr∧pr≤255) (h3:isX pr=false):sixH.RightH ⟨0,0,ttl,true,sh,sl,true,dh,dl,pr⟩ [] :=
  ⟨by show (0:Int)≤0; decide,by show (0:Int)≤255; decide,h1.1,h1.2,by show (0:Int)≤0; decide,by show (0:Int)≤1048575; decide,rfl,rfl,h2.1,h2.2,h3,⟨by decide,fun i h=>absurd h (Nat.not_lt_zero i),fun i h=>absurd h (Nat.not_lt_zero i)⟩⟩
theorem mk6_parse (ttl pr sh sl dh dl:Int) (bl:List Int) (h1:0≤ttl∧ttl≤255) (h2:0≤pr∧pr≤255) (h3:isX pr=false) (b1:0≤sh∧sh<18446744073709551616) (b2:0≤sl∧sl<18446744073709551616) (b3:0≤dh∧dh<18446744073709551616) (b4:0≤dl∧dl<18446744073709551616) (hb:bl.length≤900) :
    pkP (mkB6 ttl pr sh sl dh dl bl)=withP true ⟨pr,true,sh,sl,true,dh,dl,0,0⟩ ttl (40+(bl.length:Int)) bl∧(mkB6 ttl pr sh sl dh dl bl).length=40+bl.length:=by
  obtain ⟨_,_,a3,a4,a5,a6,a7⟩:=sixY.put_parse ⟨0,0,ttl,true,sh,sl,true,dh,dl,pr⟩ [] bl [] (right6 ttl pr sh sl dh dl h1 h2 h3) (fun x hx=>by cases hx) (by omega) b1 b2 b3 b4
  obtain ⟨a1,a2,_⟩:=sixY.put_parse ⟨0,0,ttl,true,sh,sl,true,dh,dl,pr⟩ [] bl [] (right6 ttl pr sh sl dh dl h1 h2 h3) (fun x hx=>by cases hx) (by omega) b1 b2 b3 b4
  rw [List.append_nil] at a1 a2
  have hl:(sixK.sixB ⟨0,0,ttl,true,sh,sl,true,dh,dl,pr⟩ [] bl).length=40+bl.length:=by rw [a7]; rfl
  refine ⟨?_,hl⟩
  show pkP (sixK.sixB ⟨0,0,ttl,true,sh,sl,true,dh,dl,pr⟩ [] bl)=_
  generalize sixK.sixB ⟨0,0,ttl,true,sh,sl,true,dh,dl,pr⟩ [] bl=B at *
  have e7:B.getD 7 0=ttl:=congrArg Hs.hop a2
  have a1':sixP B=.inr ([],pr,bl):=a1
  have a2':hdOf B pr=⟨0,0,ttl,true,sh,sl,true,dh,dl,pr⟩:=a2
  unfold pkP
  rw [if_neg (by omega),if_neg (by omega),if_neg (by omega),if_pos a5]
  unfold p6
  rw [a1']
  show (if lies [] / 8≠0∨decide (lies [] % 2=1)=true then (zeroPk,21) else withP true ⟨pr,true,(hdOf B pr).sh,(hdOf B pr).sl,true,(hdOf B pr).dh,(hdOf B pr).dl,0,0⟩ (B.getD 7 0) (((40+extL []:Nat):Int)+(bl.length:Int)) bl)=_
  rw [if_neg (by decide),a2',e7]
  rfl
theorem mk6_drop (ttl pr sh sl dh dl:Int) (bl:List Int):(mkB6 ttl pr sh sl dh dl bl).drop 40=bl:=by
  show (sixK.hdB ⟨0,0,ttl,true,sh,sl,true,dh,dl,pr⟩ _ _++([]++bl)).drop 40=bl
  have hl:∀ p n,(sixK.hdB ⟨0,0,ttl,true,sh,sl,true,dh,dl,pr⟩ p n).length=40:=fun p n=>by
    unfold sixK.hdB
    simp only [List.length_append,pb_len,sixK.hd8,List.length_cons,List.length_nil]
  rw [List.drop_append_of_le_length (by rw [hl]; omega),List.drop_of_length_le (by rw [hl]; omega)]
  rfl
theorem psd_even (s6:Bool) (sh sl dh dl pr sz:Int) (h:pr≠1):(psd s6 sh sl dh dl pr sz).length % 2=0:=by
  unfold psd
  rw [if_neg h]
  split
  · rw [psd6_len]
  · rw [psd4_len]
theorem udp_parse (v6 s6:Bool) (sh sl:Int) (d6:Bool) (dh dl sp dp ttl sz:Int) (pl:List Int) (hp:0≤sp∧sp≤65535∧0≤dp∧dp≤65535) (hn:pl.length≤800) (hu:U8 pl) (bs:List Int)
    (hb:bs=udpB.ub sp dp pl (udpB.chkZ (psd s6 sh sl dh dl 17 (8+(pl.length:Int))++udpB.ub sp dp pl 0))) :
    withP v6 ⟨17,s6,sh,sl,d6,dh,dl,0,0⟩ ttl sz bs=(⟨v6,⟨17,s6,sh,sl,d6,dh,dl,sp,dp⟩,ttl,0,false,zeroT,sz⟩,0):=by
  have hps:U8 (psd s6 sh sl dh dl 17 (8+(pl.length:Int))):=by
    unfold psd
    rw [if_neg (show ¬ (17:Int)=1 by decide)]
    split
    · exact psd6_u8 _ _ _ _ _ _
    · exact psd4_u8 _ _ _ _
  have he:=psd_even s6 sh sl dh dl 17 (8+(pl.length:Int)) (by decide)
  have hin:∀ x ∈ psd s6 sh sl dh dl 17 (8+(pl.length:Int))++udpB.ub sp dp pl 0,0≤x∧x≤255:=fun x hx=>(List.mem_append.1 hx).elim (hps x) (udpB.ub_in sp dp pl 0 hu x)
  have c:=udpB.chkZ_in _ hin
  have c0:=udpJn.chk_pos _ hin
  have hchk:=udpJn.chk_right sp dp pl _ hp (by omega) hu hps he
  obtain ⟨u1,u2,u3,u4,u5⟩:=udpJn.ub_says sp dp pl _ hp (by omega) c.1 c.2
  have hl:=udpB.ub_len sp dp pl (udpB.chkZ (psd s6 sh sl dh dl 17 (8+(pl.length:Int))++udpB.ub sp dp pl 0))
  rw [← hb] at hchk u1 u2 u3 u4 u5 hl
  have hsz:(bs.length:Int)=8+(pl.length:Int):=by omega
  have hE:udpE_ bs (psd s6 sh sl dh dl 17 (bs.length:Int)) (!v6)=0:=by
    unfold udpE_
    rw [hsz,if_neg (by omega),if_neg (by omega),if_neg (by
      intro h
      rcases h with ⟨h,_⟩ | ⟨_,h⟩
      · exact c0 (u4 ▸ h)
      · exact h hchk)]
  unfold withP
  simp only
  rw [if_neg (by decide),if_pos trivial,hE,if_neg (by decide),u1,u2]
end Go.Proofs.Ytodckfgfbcnkoaa.pktR
/- Layer 14: a packet in another one: plain words. -/
namespace Go.Proofs.Ytodckfgfbcnkoaa.tunW
open Go.ChangeShapes Go.WideShapes Go.ChangeAt Go.RowKit
open base rdrA rdrG sixM
set_option linter.unusedVariables false
def okAd (v6:Bool) (h l:Int):Bool:=v6 || (decide (h=0) && decide (l<4294967296))
theorem aright_any (v6:Bool) (h l:Int) (w:World) (h0:0≤l):Calls Try.prog 16 #[.agg #[.bool v6,.int .u64 h,.int .u64 l]] w fun o w'=>o=.returned (.bool (okAd v6 h l))∧Below w.heap.size w w':=by
  cases v6 with
  | false =>
    by_cases hk:fourOn.okA false h l
    · obtain ⟨_,rfl,h2⟩:=hk
      rw [show okAd false 0 l=true from by unfold okAd; rw [decide_eq_true (show l<4294967296 by omega)]; rfl]
      exact fourOn.addr_yes l w h0 h2
    · have e:okAd false h l=false:=by
        unfold okAd
        by_cases a:h=0
        · rw [decide_eq_false (show ¬ l<4294967296 from fun b=>hk ⟨rfl,a,by omega⟩)]
          simp
        · rw [decide_eq_false a]
          rfl
      rw [e]
      exact fourOn.addr_no h l w hk
  | true =>
    go_enter Try.func16,Try.ntmps16
    go_wp2
    go_ret
    exact ⟨rfl,(Below.refl _ _).alloc (Nat.le_refl _) _⟩
end Go.Proofs.Ytodckfgfbcnkoaa.tunW
namespace Go.Proofs.Ytodckfgfbcnkoaa.tunA
end Go.Proofs.Ytodckfgfbcnkoaa.tunA
/- Layer 14: open4, open6. -/
namespace Go.Proofs.Ytodckfgfbcnkoaa.tunB
open Go.ChangeShapes Go.WideShapes Go.ChangeAt Go.RowKit
open base rdrG sixM pktD
set_option linter.unusedVariables false
theorem astore (V:World) (R:Nat) (v0 v1 v2 u0 u1 u2:Value) (h:Blk V R 32 #[u0,u1,u2]):Blk (((V.setCell ⟨R,0,none⟩ v0).setCell ⟨R,1,none⟩ v1).setCell ⟨R,2,none⟩ v2) R 32 #[v0,v1,v2]:=by
  have h1:Blk (V.setCell ⟨R,0,none⟩ v0) R 32 #[v0,u1,u2]:=h.set_ 0 v0
  have h2:Blk ((V.setCell ⟨R,0,none⟩ v0).setCell ⟨R,1,none⟩ v1) R 32 #[v0,v1,u2]:=h1.set_ 1 v1
  exact h2.set_ 2 v2
theorem afar (V:World) (R H:Nat) (v0 v1 v2:Value) (T:TypeId) (cs:Array Value) (hne:H≠R) (h:Blk V H T cs):Blk (((V.setCell ⟨R,0,none⟩ v0).setCell ⟨R,1,none⟩ v1).setCell ⟨R,2,none⟩ v2) H T cs :=
  ((h.far (p:=⟨R,0,none⟩) hne v0).far (p:=⟨R,1,none⟩) hne v1).far (p:=⟨R,2,none⟩) hne v2
theorem aonly (V:World) (R:Nat) (v0 v1 v2:Value):OnlyG R V (((V.setCell ⟨R,0,none⟩ v0).setCell ⟨R,1,none⟩ v1).setCell ⟨R,2,none⟩ v2):=(((OnlyG.refl R V).set 0 v0).set 1 v1).set 2 v2
end Go.Proofs.Ytodckfgfbcnkoaa.tunB
/- Words put into bytes; a time to live that is one less: plain words. -/
namespace Go.Proofs.Ytodckfgfbcnkoaa.tunV
open Go.ChangeShapes Go.WideShapes Go.ChangeAt Go.RowKit
open base sumA sumB sixW sixM pktA sixF
set_option linter.unusedVariables false
def setw (l:List Int) (p:Nat) (v:Int):List Int:=(l.set p (v / 256)).set (p+1) (v % 256)
theorem setw_len (l:List Int) (p:Nat) (v:Int):(setw l p v).length=l.length:=by simp [setw]
theorem set_get (l:List Int) (p:Nat) (v:Int) (i:Nat) (h:p<l.length):(l.set p v).getD i 0=if i=p then v else l.getD i 0:=by
  rw [List.getD_eq_getElem?_getD,List.getD_eq_getElem?_getD]
  by_cases e:i=p
  · rw [if_pos e,e,List.getElem?_set_self h]; rfl
  · rw [if_neg e,List.getElem?_set_ne (fun k=>e k.symm)]
theorem setw_get (l:List Int) (p:Nat) (v:Int) (i:Nat) (h:p+1<l.length):(setw l p v).getD i 0=if i=p+1 then v % 256 else if i=p then v / 256 else l.getD i 0:=by
  unfold setw
  rw [set_get _ _ _ _ (by rw [List.length_set]; exact h)]
  by_cases e:i=p+1
  · rw [if_pos e,if_pos e]
  · rw [if_neg e,if_neg e,set_get _ _ _ _ (by omega)]
theorem set_u8 {l:List Int} (h:U8 l) (p:Nat) (v:Int) (v0:0≤v) (v9:v≤255):U8 (l.set p v):=by
  intro x hx
  rcases List.mem_or_eq_of_mem_set hx with hx | rfl
  · exact h x hx
  · omega
theorem setw_u8 {l:List Int} (h:U8 l) (p:Nat) (v:Int) (v0:0≤v) (v9:v≤65535):U8 (setw l p v):=set_u8 (set_u8 h p _ (by omega) (by omega)) (p+1) _ (by omega) (by omega)
theorem set_take (l:List Int) (p n:Nat) (v:Int):(l.set p v).take n=(l.take n).set p v:=by
  apply List.ext_getElem?
  intro i
  rw [List.getElem?_take,List.getElem?_set,List.getElem?_set,List.getElem?_take,List.length_take]
  by_cases e:p=i
  · subst e
    simp only [if_true]
    by_cases a:p<n
    · rw [if_pos a]
      by_cases b:p<l.length
      · rw [if_pos b,if_pos (by omega)]
      · rw [if_neg b,if_neg (by omega)]
    · rw [if_neg a,if_neg (by omega)]
  · rw [if_neg e,if_neg e]
theorem setw_take (l:List Int) (p n:Nat) (v:Int):(setw l p v).take n=setw (l.take n) p v:=by
  unfold setw
  rw [set_take,set_take]
theorem set_drop (l:List Int) (p n:Nat) (v:Int) (h:p<n):(l.set p v).drop n=l.drop n:=by
  apply List.ext_getElem?
  intro i
  rw [List.getElem?_drop,List.getElem?_drop,List.getElem?_set_ne (by omega)]
theorem setw_drop (l:List Int) (p n:Nat) (v:Int) (h:p+1<n):(setw l p v).drop n=l.drop n:=by
  unfold setw
  rw [set_drop _ _ _ _ h,set_drop _ _ _ _ (by omega)]
theorem wsum_setw:∀ (l:List Int) (k:Nat) (v:Int),2*k+1<l.length→wsum (setw l (2*k) v)=wsum l - udpA.w16 l (2*k)+v
  | [],k,v,h=>by simp at h
  | [a],k,v,h=>by simp at h
  | a::b::r,0,v,h=>by
    show 256*(v / 256)+v % 256+wsum r=256*a+b+wsum r - (a*256+b)+v
    omega
  | a::b::r,k+1,v,h=>by
    have ih:=wsum_setw r k v (by simp only [List.length_cons] at h; omega)
    have e:setw (a::b::r) (2*(k+1)) v=a::b::setw r (2*k) v:=rfl
    have e2:udpA.w16 (a::b::r) (2*(k+1))=udpA.w16 r (2*k):=rfl
    rw [e,e2]
    show 256*a+b+wsum (setw r (2*k) v)=256*a+b+wsum r - udpA.w16 r (2*k)+v
    rw [ih]
    omega
theorem wsum_low (l:List Int) (hu:U8 l) (h:2≤l.length):256*l.getD 0 0≤wsum l:=by
  match l,hu,h with
  | a::b::r,hu,_ =>
    have hb:=hu b (by simp)
    have hr:0≤wsum r:=(wsum_bd r fun x hx=>hu x (by simp [hx])).1
    show 256*a≤256*a+b+wsum r
    omega
theorem w16_set (l:List Int) (p:Nat) (v:Int) (i:Nat) (h:p+1<l.length) (e:i+1<p∨p+1<i):udpA.w16 (setw l p v) i=udpA.w16 l i:=by
  unfold udpA.w16
  rw [setw_get _ _ _ _ h,setw_get _ _ _ _ h,if_neg (by omega),if_neg (by omega),if_neg (by omega),if_neg (by omega)]
theorem w16_setw (l:List Int) (p:Nat) (v:Int) (h:p+1<l.length):udpA.w16 (setw l p v) p=v:=by
  unfold udpA.w16
  rw [setw_get _ _ _ _ h,setw_get _ _ _ _ h,if_neg (by omega),if_pos rfl,if_pos rfl]
  omega
theorem four_sizes (l:List Int) (hu:U8 l) (he:fourE l=0):l.getD 0 0 / 16=4∧20≤fourS l∧fourS l≤60∧(fourS l:Int)=fourA.hl l∧((udpA.w16 l 2).toNat:Int)=udpA.w16 l 2∧fourS l≤(udpA.w16 l 2).toNat∧(udpA.w16 l 2).toNat≤l.length∧fourS l+(fourR l).length=(udpA.w16 l 2).toNat∧udpA.w16 l 6<32768∧fo (wsum (l.take (fourS l)))=65535:=by
  have k0:=hu.get 0
  have hs:0≤fourA.hl l∧fourA.hl l≤60:=by unfold fourA.hl; omega
  have k2:=udpA.w16_in l hu 2
  unfold fourE at he
  split at he
  · omega
  · split at he
    · omega
    · split at he
      · omega
      · split at he
        · omega
        · split at he
          · omega
          · split at he
            · omega
            · have e1:(fourS l:Int)=fourA.hl l:=by unfold fourS; omega
              have e2:fo (wsum (l.take (fourS l)))=65535:=by
                unfold fourS
                omega
              refine ⟨by omega,by omega,by omega,e1,by omega,by omega,by omega,?_,by omega,e2⟩
              unfold fourR
              rw [List.length_take,List.length_drop]
              omega
theorem six_sizes (l:List Int) (hu:U8 l) {ys:List XP} {q:Int} {r:List Int} (he:sixP l=.inr (ys,q,r)):l.getD 0 0 / 16=6∧40+sizeP l≤l.length∧extL ys+r.length=sizeP l∧U8 r∧0≤q∧q≤255:=by
  unfold sixP at he
  split at he
  · cases he
  · split at he
    · cases he
    · split at he
      · cases he
      · have hL:((l.take (40+sizeP l)).drop 40).length=sizeP l:=by rw [List.length_drop,List.length_take]; omega
        cases hc:chn 9 [] (l.getD 6 0) ((l.take (40+sizeP l)).drop 40) with
        | none=>rw [hc] at he; cases he
        | some k =>
          obtain ⟨ys',q',r'⟩:=k
          rw [hc] at he
          obtain ⟨rfl,rfl,rfl⟩:ys'=ys∧q'=q∧r'=r:=by
            have e:(Sum.inr (ys',q',r'):Res)=.inr (ys,q,r):=he
            injection e with e
            injection e with e1 e2
            injection e2 with e2 e3
            exact ⟨e1,e2,e3⟩
          obtain ⟨zs,e1,e2,e3,e4,e5,e6,e7,e8,e9,e10⟩:=chn_sound 9 [] _ _ ((hu.take _).drop _) (hu.get 6) RightE.nil (fun x hx=>by cases hx) hc
          refine ⟨by omega,by omega,?_,e9,e6,e7⟩
          have e:extL zs+r'.length=sizeP l:=by rw [← hL,e3,List.length_append,extB_len]
          rw [List.nil_append] at e1
          rw [e1]
          exact e
end Go.Proofs.Ytodckfgfbcnkoaa.tunV
/- Layer 14: open4, open6 of any bytes. -/
namespace Go.Proofs.Ytodckfgfbcnkoaa.tunC
open Go.ChangeShapes Go.WideShapes Go.ChangeAt Go.RowKit
open base octA rdrA rdrG sixW sixM pktA pktB sixA sixE sixF sixO
set_option linter.unusedVariables false
def SixG (l:List Int) (ys:List XP) (q:Int) (r:List Int) (w:World) (o:Ending) (w':World):Prop:=Below w.heap.size w w'∧∃ (AX:Option Addr) (nx cx:Nat) (cls lab:Int) (AR:Option Addr) (cr:Nat),o=.returned (.tuple #[.agg #[.int .i64 cls,.int .i64 lab,.int .i64 (l.getD 7 0),.bool true,.int .u64 (hdOf l q).sh,.int .u64 (hdOf l q).sl,.bool true,.int .u64 (hdOf l q).dh,.int .u64 (hdOf l q).dl,.slice AX nx cx,.int .i64 q],.slice AR r.length cr,.int .i64 0])∧Sl w' AR r.length cr r
     ∧(∀ V2,Below w'.heap.size w' V2→Calls Try.prog 20 #[.agg #[.int .i64 cls,.int .i64 lab,.int .i64 (l.getD 7 0),.bool true,.int .u64 (hdOf l q).sh,.int .u64 (hdOf l q).sl,.bool true,.int .u64 (hdOf l q).dh,.int .u64 (hdOf l q).dl,.slice AX nx cx,.int .i64 q]] V2 fun o w'=>o=.returned (.int .i64 (lies ys / 8))∧Below V2.heap.size V2 w')
     ∧(∀ V2,Below w'.heap.size w' V2→Calls Try.prog 33 #[.agg #[.int .i64 cls,.int .i64 lab,.int .i64 (l.getD 7 0),.bool true,.int .u64 (hdOf l q).sh,.int .u64 (hdOf l q).sl,.bool true,.int .u64 (hdOf l q).dh,.int .u64 (hdOf l q).dl,.slice AX nx cx,.int .i64 q]] V2 fun o w'=>o=.returned (.int .i64 (40+extL ys:Nat))∧Below V2.heap.size V2 w')
theorem six_any (A:Option Addr) (n c:Nat) (l:List Int) (w:World) (h:Sl w A n c l) (hn:n≤1000) (hv:l.getD 0 0 / 16=6):Calls Try.prog 19 #[.slice A n c] w (HeadP w l (sixP l)):=by
  have hl:=h.len
  by_cases h40:n<40
  · exact sixF.parse_short A n c l w hl h40
  obtain ⟨b,off,rfl,hb,hs⟩:=lies_of h.row (by omega)
  exact sixF.parse_ok b off n c l w hl (by omega) (by omega) h.nc h.mx hb hs h.u8 hv
theorem six_good (A:Option Addr) (n c:Nat) (l:List Int) (w:World) (h:Sl w A n c l) (hn:n≤1000) (hv:l.getD 0 0 / 16=6) {ys:List XP} {q:Int} {r:List Int} (e1:sixP l=.inr (ys,q,r)):Calls Try.prog 19 #[.slice A n c] w (SixG l ys q r w):=by
  have hl:=h.len
  have h9:=six_any A n c l w h hn hv
  obtain ⟨_,hlen,hsz,hru,q0,q9⟩:=tunV.six_sizes l h.u8 e1
  have hC:chn 9 [] (l.getD 6 0) ((l.take (40+sizeP l)).drop 40)=some (ys,q,r):=by
    have e:=e1
    unfold sixP at e
    rw [if_neg (by omega),if_neg (by omega),if_neg (by omega)] at e
    unfold ofC at e
    split at e
    · cases e
    · rename_i k
      injection e with e
      rw [k,e]
  obtain ⟨g1,g2,g3,g4,g5⟩:=sixT.put_back l h.u8 (by omega) hv (by omega) hC
  rw [e1] at h9
  refine h9.mono fun o w' k=>?_
  obtain ⟨hb9,L,A9,c9,B9,d9,k1,k2,k3,k4⟩:=sixS.headP_good k
  have hU:∀ x ∈ L,U8 x.d:=fun x hx=>g3 x.re (by rw [← k2]; exact List.mem_map_of_mem hx)
  have hLn:L.length=ys.length:=by rw [← k2,List.length_map]
  have h8:=g2.e.most
  have hd7:∀ x ∈ L,x.d.length≤2047:=fun x hx=>sixU.le2047 g2.e x.re (by rw [← k2]; exact List.mem_map_of_mem hx)
  refine ⟨hb9,A9,ys.length,c9,_,_,B9,d9,k1,Sl.own k4 rfl g4,fun V2 hV2=>?_,fun V2 hV2=>?_⟩
  · have h7:=sixA.frag_any (hdOf l q) A9 ys.length c9 L V2 hLn ((k3.below hV2).rd hU) (by omega)
    rw [k2] at h7
    exact h7
  · have h7:=sixO.len_any (hdOf l q) A9 ys.length c9 L V2 hLn ((k3.below hV2).rd hU) (by omega) hd7
    rw [k2] at h7
    exact h7
end Go.Proofs.Ytodckfgfbcnkoaa.tunC
