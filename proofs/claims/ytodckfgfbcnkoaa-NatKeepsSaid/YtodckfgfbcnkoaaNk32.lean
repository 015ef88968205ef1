/- 4 texts in one. -/
import Derived.Test.YtodckfgfbcnkoaaNk22
import Derived.Test.YtodckfgfbcnkoaaNk25
import Derived.Test.YtodckfgfbcnkoaaNk26
import Derived.Test.YtodckfgfbcnkoaaNk31
set_option linter.unusedVariables false
open Go.ChangeShapes Go.WideShapes Go.ChangeAt Go.RowKit
/- Layer 10: headers that may not be. -/
namespace Go.Proofs.Ytodckfgfbcnkoaa.tcpKn
set_option maxHeartbeats 1000000
set_option maxRecDepth 100000
open base sumB rdrA
def okH (sp dp wn ur fl:Int) (no:Nat):Prop:=(0≤sp∧sp≤65535)∧(0≤dp∧dp≤65535)∧(0≤wn∧wn≤65535)∧(0≤ur∧ur≤65535)∧(0≤fl∧fl≤255)∧no≤40∧no % 4=0
theorem not_ok (sp dp wn ur fl:Int) (no:Nat) (h:¬ okH sp dp wn ur fl no):(sp<0)∨(0≤sp∧65535<sp)∨((0≤sp∧sp≤65535)∧dp<0)∨((0≤sp∧sp≤65535)∧0≤dp∧65535<dp)∨((0≤sp∧sp≤65535)∧(0≤dp∧dp≤65535)∧wn<0)∨((0≤sp∧sp≤65535)∧(0≤dp∧dp≤65535)∧0≤wn∧65535<wn)∨((0≤sp∧sp≤65535)∧(0≤dp∧dp≤65535)∧(0≤wn∧wn≤65535)∧ur<0)∨((0≤sp∧sp≤65535)∧(0≤dp∧dp≤65535)∧(0≤wn∧wn≤65535)∧0≤ur∧65535<ur)∨((0≤sp∧sp≤65535)∧(0≤dp∧dp≤65535)∧(0≤wn∧wn≤65535)∧(0≤ur∧ur≤65535)∧fl<0)∨((0≤sp∧sp≤65535)∧(0≤dp∧dp≤65535)∧(0≤wn∧wn≤65535)∧(0≤ur∧ur≤65535)∧0≤fl∧255<fl)∨((0≤sp∧sp≤65535)∧(0≤dp∧dp≤65535)∧(0≤wn∧wn≤65535)∧(0≤ur∧ur≤65535)∧(0≤fl∧fl≤255)∧40<no)∨((0≤sp∧sp≤65535)∧(0≤dp∧dp≤65535)∧(0≤wn∧wn≤65535)∧(0≤ur∧ur≤65535)∧(0≤fl∧fl≤255)∧no≤40∧no % 4≠0):=by
 have H:=Lib.hid h
 clear h
 by_cases a0:sp<0
 ·exact .inl a0
 by_cases b0:65535<sp
 ·exact .inr (.inl ⟨Int.not_lt.1 a0,b0⟩)
 by_cases a1:dp<0
 ·exact .inr (.inr (.inl ⟨⟨Int.not_lt.1 a0,Int.not_lt.1 b0⟩,a1⟩))
 by_cases b1:65535<dp
 ·exact .inr (.inr (.inr (.inl ⟨⟨Int.not_lt.1 a0,Int.not_lt.1 b0⟩,Int.not_lt.1 a1,b1⟩)))
 by_cases a2:wn<0
 ·exact .inr (.inr (.inr (.inr (.inl ⟨⟨Int.not_lt.1 a0,Int.not_lt.1 b0⟩,⟨Int.not_lt.1 a1,Int.not_lt.1 b1⟩,a2⟩))))
 by_cases b2:65535<wn
 ·exact .inr (.inr (.inr (.inr (.inr (.inl ⟨⟨Int.not_lt.1 a0,Int.not_lt.1 b0⟩,⟨Int.not_lt.1 a1,Int.not_lt.1 b1⟩,Int.not_lt.1 a2,b2⟩)))))
 by_cases a3:ur<0
 ·exact .inr (.inr (.inr (.inr (.inr (.inr (.inl ⟨⟨Int.not_lt.1 a0,Int.not_lt.1 b0⟩,⟨Int.not_lt.1 a1,Int.not_lt.1 b1⟩,⟨Int.not_lt.1 a2,Int.not_lt.1 b2⟩,a3⟩))))))
 by_cases b3:65535<ur
 ·exact .inr (.inr (.inr (.inr (.inr (.inr (.inr (.inl ⟨⟨Int.not_lt.1 a0,Int.not_lt.1 b0⟩,⟨Int.not_lt.1 a1,Int.not_lt.1 b1⟩,⟨Int.not_lt.1 a2,Int.not_lt.1 b2⟩,Int.not_lt.1 a3,b3⟩)))))))
 by_cases a4:fl<0
 ·exact .inr (.inr (.inr (.inr (.inr (.inr (.inr (.inr (.inl ⟨⟨Int.not_lt.1 a0,Int.not_lt.1 b0⟩,⟨Int.not_lt.1 a1,Int.not_lt.1 b1⟩,⟨Int.not_lt.1 a2,Int.not_lt.1 b2⟩,⟨Int.not_lt.1 a3,Int.not_lt.1 b3⟩,a4⟩))))))))
 by_cases b4:255<fl
 ·exact .inr (.inr (.inr (.inr (.inr (.inr (.inr (.inr (.inr (.inl ⟨⟨Int.not_lt.1 a0,Int.not_lt.1 b0⟩,⟨Int.not_lt.1 a1,Int.not_lt.1 b1⟩,⟨Int.not_lt.1 a2,Int.not_lt.1 b2⟩,⟨Int.not_lt.1 a3,Int.not_lt.1 b3⟩,Int.not_lt.1 a4,b4⟩)))))))))
 by_cases c0:40<no
 ·exact .inr (.inr (.inr (.inr (.inr (.inr (.inr (.inr (.inr (.inr (.inl ⟨⟨Int.not_lt.1 a0,Int.not_lt.1 b0⟩,⟨Int.not_lt.1 a1,Int.not_lt.1 b1⟩,⟨Int.not_lt.1 a2,Int.not_lt.1 b2⟩,⟨Int.not_lt.1 a3,Int.not_lt.1 b3⟩,⟨Int.not_lt.1 a4,Int.not_lt.1 b4⟩,c0⟩))))))))))
 exact .inr (.inr (.inr (.inr (.inr (.inr (.inr (.inr (.inr (.inr (.inr (⟨⟨Int.not_lt.1 a0,Int.not_lt.1 b0⟩,⟨Int.not_lt.1 a1,Int.not_lt.1 b1⟩,⟨Int.not_lt.1 a2,Int.not_lt.1 b2⟩,⟨Int.not_lt.1 a3,Int.not_lt.1 b3⟩,⟨Int.not_lt.1 a4,Int.not_lt.1 b4⟩,Nat.not_lt.1 c0,fun e=>H.out ⟨⟨Int.not_lt.1 a0,Int.not_lt.1 b0⟩,⟨Int.not_lt.1 a1,Int.not_lt.1 b1⟩,⟨Int.not_lt.1 a2,Int.not_lt.1 b2⟩,⟨Int.not_lt.1 a3,Int.not_lt.1 b3⟩,⟨Int.not_lt.1 a4,Int.not_lt.1 b4⟩,Nat.not_lt.1 c0,e⟩⟩)))))))))))
theorem right_no0 (sp dp sq ak fl wn ur:Int) (AO:Option Addr) (no co:Nat) (w:World) (h:sp<0) :
  Calls Try.prog 86 #[.agg #[.int .i64 sp,.int .i64 dp,.int .u32 sq,.int .u32 ak,.int .i64 fl,.int .i64 wn,.int .i64 ur,.slice AO no co]] w fun e w'=>e=.returned (.bool false)∧Below w.heap.size w w':=by
 have i0:∀ w,(Instr.index 143 (.agg #[.int .i64 sp,.int .i64 65535,.int .i64 dp,.int .i64 65535,.int .i64 wn,.int .i64 65535,.int .i64 ur,.int .i64 65535,.int .i64 fl,.int .i64 255]) (.int .i64 0)).run Try.prog w=.ok (.agg #[.int .i64 sp,.int .i64 65535]) w:=fun _=>by kernel_rfl
 have q0:decide (sp<0)=true:=decide_eq_true (by omega)
 clear h
 have HBX:=Lib.hid ((Below.refl w.heap.size w).alloc (Nat.le_refl _) (.cells #[.int .i64 sp,.int .i64 dp,.int .u32 sq,.int .u32 ak,.int .i64 fl,.int .i64 wn,.int .i64 ur,.slice AO no co] 93))
 have BOX:=Lib.hid (Blk.new w 93 #[.int .i64 sp,.int .i64 dp,.int .u32 sq,.int .u32 ak,.int .i64 fl,.int .i64 wn,.int .i64 ur,.slice AO no co])
 have HZ:=Lib.hid (show (w.alloc (.cells #[.int .i64 sp,.int .i64 dp,.int .u32 sq,.int .u32 ak,.int .i64 fl,.int .i64 wn,.int .i64 ur,.slice AO no co] 93)).heap.size=w.heap.size+1 by simp)
 go_enter Try.func86,Try.ntmps86
 go_wp2_with fail
 go_loopw [21,4] (fun i _ wr=>∃ j:Nat,j≤0∧i=.int .i64 j∧Below (w.heap.size+1) (w.alloc (.cells #[.int .i64 sp,.int .i64 dp,.int .u32 sq,.int .u32 ak,.int .i64 fl,.int .i64 wn,.int .i64 ur,.slice AO no co] 93)) wr) (fun i _ _=>5 - (intOf i).toNat)
 case atStart=>exact ⟨0,by omega,rfl,Below.refl _ _⟩
 case round =>
  obtain ⟨j,hj,rfl,hbel⟩:=hrel
  have HB:=Lib.hid hbel
  have o7:wr.cell? ⟨w.heap.size,7,none⟩=some (.slice AO no co):=(hbel.cell (p:=⟨w.heap.size,7,none⟩) (Nat.lt_succ_self _)).trans (BOX.out.cell 7)
  have HS:=Lib.hid (show w.heap.size+1≤wr.heap.size from Nat.le_trans (Nat.le_of_eq HZ.out.symm) hbel.size)
  clear hbel
  have hcase:j=0:=by omega
  rcases hcase with rfl
  ·go_wp2_with fail
   go_ret
   exact ⟨rfl,HBX.out.trans ((HB.out.alloc HS.out _:Below (w.heap.size+1) _ _).mono (Nat.le_succ _))⟩
theorem right_no1 (sp dp sq ak fl wn ur:Int) (AO:Option Addr) (no co:Nat) (w:World) (h:0≤sp∧65535<sp) :
  Calls Try.prog 86 #[.agg #[.int .i64 sp,.int .i64 dp,.int .u32 sq,.int .u32 ak,.int .i64 fl,.int .i64 wn,.int .i64 ur,.slice AO no co]] w fun e w'=>e=.returned (.bool false)∧Below w.heap.size w w':=by
 have i0:∀ w,(Instr.index 143 (.agg #[.int .i64 sp,.int .i64 65535,.int .i64 dp,.int .i64 65535,.int .i64 wn,.int .i64 65535,.int .i64 ur,.int .i64 65535,.int .i64 fl,.int .i64 255]) (.int .i64 0)).run Try.prog w=.ok (.agg #[.int .i64 sp,.int .i64 65535]) w:=fun _=>by kernel_rfl
 have q0:decide (sp<0)=false:=decide_eq_false (by omega)
 have p0:decide (65535<sp)=true:=decide_eq_true (by omega)
 clear h
 have HBX:=Lib.hid ((Below.refl w.heap.size w).alloc (Nat.le_refl _) (.cells #[.int .i64 sp,.int .i64 dp,.int .u32 sq,.int .u32 ak,.int .i64 fl,.int .i64 wn,.int .i64 ur,.slice AO no co] 93))
 have BOX:=Lib.hid (Blk.new w 93 #[.int .i64 sp,.int .i64 dp,.int .u32 sq,.int .u32 ak,.int .i64 fl,.int .i64 wn,.int .i64 ur,.slice AO no co])
 have HZ:=Lib.hid (show (w.alloc (.cells #[.int .i64 sp,.int .i64 dp,.int .u32 sq,.int .u32 ak,.int .i64 fl,.int .i64 wn,.int .i64 ur,.slice AO no co] 93)).heap.size=w.heap.size+1 by simp)
 go_enter Try.func86,Try.ntmps86
 go_wp2_with fail
 go_loopw [21,4] (fun i _ wr=>∃ j:Nat,j≤0∧i=.int .i64 j∧Below (w.heap.size+1) (w.alloc (.cells #[.int .i64 sp,.int .i64 dp,.int .u32 sq,.int .u32 ak,.int .i64 fl,.int .i64 wn,.int .i64 ur,.slice AO no co] 93)) wr) (fun i _ _=>5 - (intOf i).toNat)
 case atStart=>exact ⟨0,by omega,rfl,Below.refl _ _⟩
 case round =>
  obtain ⟨j,hj,rfl,hbel⟩:=hrel
  have HB:=Lib.hid hbel
  have o7:wr.cell? ⟨w.heap.size,7,none⟩=some (.slice AO no co):=(hbel.cell (p:=⟨w.heap.size,7,none⟩) (Nat.lt_succ_self _)).trans (BOX.out.cell 7)
  have HS:=Lib.hid (show w.heap.size+1≤wr.heap.size from Nat.le_trans (Nat.le_of_eq HZ.out.symm) hbel.size)
  clear hbel
  have hcase:j=0:=by omega
  rcases hcase with rfl
  ·go_wp2_with fail
   go_ret
   exact ⟨rfl,HBX.out.trans ((HB.out.alloc HS.out _:Below (w.heap.size+1) _ _).mono (Nat.le_succ _))⟩
theorem right_no2 (sp dp sq ak fl wn ur:Int) (AO:Option Addr) (no co:Nat) (w:World) (h:(0≤sp∧sp≤65535)∧dp<0) :
  Calls Try.prog 86 #[.agg #[.int .i64 sp,.int .i64 dp,.int .u32 sq,.int .u32 ak,.int .i64 fl,.int .i64 wn,.int .i64 ur,.slice AO no co]] w fun e w'=>e=.returned (.bool false)∧Below w.heap.size w w':=by
 have i0:∀ w,(Instr.index 143 (.agg #[.int .i64 sp,.int .i64 65535,.int .i64 dp,.int .i64 65535,.int .i64 wn,.int .i64 65535,.int .i64 ur,.int .i64 65535,.int .i64 fl,.int .i64 255]) (.int .i64 0)).run Try.prog w=.ok (.agg #[.int .i64 sp,.int .i64 65535]) w:=fun _=>by kernel_rfl
 have i1:∀ w,(Instr.index 143 (.agg #[.int .i64 sp,.int .i64 65535,.int .i64 dp,.int .i64 65535,.int .i64 wn,.int .i64 65535,.int .i64 ur,.int .i64 65535,.int .i64 fl,.int .i64 255]) (.int .i64 1)).run Try.prog w=.ok (.agg #[.int .i64 dp,.int .i64 65535]) w:=fun _=>by kernel_rfl
 have q0:decide (sp<0)=false:=decide_eq_false (by omega)
 have p0:decide (65535<sp)=false:=decide_eq_false (by omega)
 have q1:decide (dp<0)=true:=decide_eq_true (by omega)
 clear h
 have HBX:=Lib.hid ((Below.refl w.heap.size w).alloc (Nat.le_refl _) (.cells #[.int .i64 sp,.int .i64 dp,.int .u32 sq,.int .u32 ak,.int .i64 fl,.int .i64 wn,.int .i64 ur,.slice AO no co] 93))
 have BOX:=Lib.hid (Blk.new w 93 #[.int .i64 sp,.int .i64 dp,.int .u32 sq,.int .u32 ak,.int .i64 fl,.int .i64 wn,.int .i64 ur,.slice AO no co])
 have HZ:=Lib.hid (show (w.alloc (.cells #[.int .i64 sp,.int .i64 dp,.int .u32 sq,.int .u32 ak,.int .i64 fl,.int .i64 wn,.int .i64 ur,.slice AO no co] 93)).heap.size=w.heap.size+1 by simp)
 go_enter Try.func86,Try.ntmps86
 go_wp2_with fail
 go_loopw [21,4] (fun i _ wr=>∃ j:Nat,j≤1∧i=.int .i64 j∧Below (w.heap.size+1) (w.alloc (.cells #[.int .i64 sp,.int .i64 dp,.int .u32 sq,.int .u32 ak,.int .i64 fl,.int .i64 wn,.int .i64 ur,.slice AO no co] 93)) wr) (fun i _ _=>5 - (intOf i).toNat)
 case atStart=>exact ⟨0,by omega,rfl,Below.refl _ _⟩
 case round =>
  obtain ⟨j,hj,rfl,hbel⟩:=hrel
  have HB:=Lib.hid hbel
  have o7:wr.cell? ⟨w.heap.size,7,none⟩=some (.slice AO no co):=(hbel.cell (p:=⟨w.heap.size,7,none⟩) (Nat.lt_succ_self _)).trans (BOX.out.cell 7)
  have HS:=Lib.hid (show w.heap.size+1≤wr.heap.size from Nat.le_trans (Nat.le_of_eq HZ.out.symm) hbel.size)
  clear hbel
  have hcase:j=0∨j=1:=by omega
  rcases hcase with rfl | rfl
  ·go_wp2_with fail
   go_roundw
   case rel=>exact ⟨1,by omega,by go_num,HB.out.alloc HS.out _⟩
   case measure=>simp [intOf]
  ·go_wp2_with fail
   go_ret
   exact ⟨rfl,HBX.out.trans ((HB.out.alloc HS.out _:Below (w.heap.size+1) _ _).mono (Nat.le_succ _))⟩
theorem right_no3 (sp dp sq ak fl wn ur:Int) (AO:Option Addr) (no co:Nat) (w:World) (h:(0≤sp∧sp≤65535)∧0≤dp∧65535<dp) :
  Calls Try.prog 86 #[.agg #[.int .i64 sp,.int .i64 dp,.int .u32 sq,.int .u32 ak,.int .i64 fl,.int .i64 wn,.int .i64 ur,.slice AO no co]] w fun e w'=>e=.returned (.bool false)∧Below w.heap.size w w':=by
 have i0:∀ w,(Instr.index 143 (.agg #[.int .i64 sp,.int .i64 65535,.int .i64 dp,.int .i64 65535,.int .i64 wn,.int .i64 65535,.int .i64 ur,.int .i64 65535,.int .i64 fl,.int .i64 255]) (.int .i64 0)).run Try.prog w=.ok (.agg #[.int .i64 sp,.int .i64 65535]) w:=fun _=>by kernel_rfl
 have i1:∀ w,(Instr.index 143 (.agg #[.int .i64 sp,.int .i64 65535,.int .i64 dp,.int .i64 65535,.int .i64 wn,.int .i64 65535,.int .i64 ur,.int .i64 65535,.int .i64 fl,.int .i64 255]) (.int .i64 1)).run Try.prog w=.ok (.agg #[.int .i64 dp,.int .i64 65535]) w:=fun _=>by kernel_rfl
 have q0:decide (sp<0)=false:=decide_eq_false (by omega)
 have p0:decide (65535<sp)=false:=decide_eq_false (by omega)
 have q1:decide (dp<0)=false:=decide_eq_false (by omega)
 have p1:decide (65535<dp)=true:=decide_eq_true (by omega)
 clear h
 have HBX:=Lib.hid ((Below.refl w.heap.size w).alloc (Nat.le_refl _) (.cells #[.int .i64 sp,.int .i64 dp,.int .u32 sq,.int .u32 ak,.int .i64 fl,.int .i64 wn,.int .i64 ur,.slice AO no co] 93))
 have BOX:=Lib.hid (Blk.new w 93 #[.int .i64 sp,.int .i64 dp,.int .u32 sq,.int .u32 ak,.int .i64 fl,.int .i64 wn,.int .i64 ur,.slice AO no co])
 have HZ:=Lib.hid (show (w.alloc (.cells #[.int .i64 sp,.int .i64 dp,.int .u32 sq,.int .u32 ak,.int .i64 fl,.int .i64 wn,.int .i64 ur,.slice AO no co] 93)).heap.size=w.heap.size+1 by simp)
 go_enter Try.func86,Try.ntmps86
 go_wp2_with fail
 go_loopw [21,4] (fun i _ wr=>∃ j:Nat,j≤1∧i=.int .i64 j∧Below (w.heap.size+1) (w.alloc (.cells #[.int .i64 sp,.int .i64 dp,.int .u32 sq,.int .u32 ak,.int .i64 fl,.int .i64 wn,.int .i64 ur,.slice AO no co] 93)) wr) (fun i _ _=>5 - (intOf i).toNat)
 case atStart=>exact ⟨0,by omega,rfl,Below.refl _ _⟩
 case round =>
  obtain ⟨j,hj,rfl,hbel⟩:=hrel
  have HB:=Lib.hid hbel
  have o7:wr.cell? ⟨w.heap.size,7,none⟩=some (.slice AO no co):=(hbel.cell (p:=⟨w.heap.size,7,none⟩) (Nat.lt_succ_self _)).trans (BOX.out.cell 7)
  have HS:=Lib.hid (show w.heap.size+1≤wr.heap.size from Nat.le_trans (Nat.le_of_eq HZ.out.symm) hbel.size)
  clear hbel
  have hcase:j=0∨j=1:=by omega
  rcases hcase with rfl | rfl
  ·go_wp2_with fail
   go_roundw
   case rel=>exact ⟨1,by omega,by go_num,HB.out.alloc HS.out _⟩
   case measure=>simp [intOf]
  ·go_wp2_with fail
   go_ret
   exact ⟨rfl,HBX.out.trans ((HB.out.alloc HS.out _:Below (w.heap.size+1) _ _).mono (Nat.le_succ _))⟩
theorem right_no8 (sp dp sq ak fl wn ur:Int) (AO:Option Addr) (no co:Nat) (w:World) (h:(0≤sp∧sp≤65535)∧(0≤dp∧dp≤65535)∧(0≤wn∧wn≤65535)∧(0≤ur∧ur≤65535)∧fl<0) :
  Calls Try.prog 86 #[.agg #[.int .i64 sp,.int .i64 dp,.int .u32 sq,.int .u32 ak,.int .i64 fl,.int .i64 wn,.int .i64 ur,.slice AO no co]] w fun e w'=>e=.returned (.bool false)∧Below w.heap.size w w':=by
 have i0:∀ w,(Instr.index 143 (.agg #[.int .i64 sp,.int .i64 65535,.int .i64 dp,.int .i64 65535,.int .i64 wn,.int .i64 65535,.int .i64 ur,.int .i64 65535,.int .i64 fl,.int .i64 255]) (.int .i64 0)).run Try.prog w=.ok (.agg #[.int .i64 sp,.int .i64 65535]) w:=fun _=>by kernel_rfl
 have i1:∀ w,(Instr.index 143 (.agg #[.int .i64 sp,.int .i64 65535,.int .i64 dp,.int .i64 65535,.int .i64 wn,.int .i64 65535,.int .i64 ur,.int .i64 65535,.int .i64 fl,.int .i64 255]) (.int .i64 1)).run Try.prog w=.ok (.agg #[.int .i64 dp,.int .i64 65535]) w:=fun _=>by kernel_rfl
 have i2:∀ w,(Instr.index 143 (.agg #[.int .i64 sp,.int .i64 65535,.int .i64 dp,.int .i64 65535,.int .i64 wn,.int .i64 65535,.int .i64 ur,.int .i64 65535,.int .i64 fl,.int .i64 255]) (.int .i64 2)).run Try.prog w=.ok (.agg #[.int .i64 wn,.int .i64 65535]) w:=fun _=>by kernel_rfl
 have i3:∀ w,(Instr.index 143 (.agg #[.int .i64 sp,.int .i64 65535,.int .i64 dp,.int .i64 65535,.int .i64 wn,.int .i64 65535,.int .i64 ur,.int .i64 65535,.int .i64 fl,.int .i64 255]) (.int .i64 3)).run Try.prog w=.ok (.agg #[.int .i64 ur,.int .i64 65535]) w:=fun _=>by kernel_rfl
 have i4:∀ w,(Instr.index 143 (.agg #[.int .i64 sp,.int .i64 65535,.int .i64 dp,.int .i64 65535,.int .i64 wn,.int .i64 65535,.int .i64 ur,.int .i64 65535,.int .i64 fl,.int .i64 255]) (.int .i64 4)).run Try.prog w=.ok (.agg #[.int .i64 fl,.int .i64 255]) w:=fun _=>by kernel_rfl
 have q0:decide (sp<0)=false:=decide_eq_false (by omega)
 have p0:decide (65535<sp)=false:=decide_eq_false (by omega)
 have q1:decide (dp<0)=false:=decide_eq_false (by omega)
 have p1:decide (65535<dp)=false:=decide_eq_false (by omega)
 have q2:decide (wn<0)=false:=decide_eq_false (by omega)
 have p2:decide (65535<wn)=false:=decide_eq_false (by omega)
 have q3:decide (ur<0)=false:=decide_eq_false (by omega)
 have p3:decide (65535<ur)=false:=decide_eq_false (by omega)
 have q4:decide (fl<0)=true:=decide_eq_true (by omega)
 clear h
 have HBX:=Lib.hid ((Below.refl w.heap.size w).alloc (Nat.le_refl _) (.cells #[.int .i64 sp,.int .i64 dp,.int .u32 sq,.int .u32 ak,.int .i64 fl,.int .i64 wn,.int .i64 ur,.slice AO no co] 93))
 have BOX:=Lib.hid (Blk.new w 93 #[.int .i64 sp,.int .i64 dp,.int .u32 sq,.int .u32 ak,.int .i64 fl,.int .i64 wn,.int .i64 ur,.slice AO no co])
 have HZ:=Lib.hid (show (w.alloc (.cells #[.int .i64 sp,.int .i64 dp,.int .u32 sq,.int .u32 ak,.int .i64 fl,.int .i64 wn,.int .i64 ur,.slice AO no co] 93)).heap.size=w.heap.size+1 by simp)
 go_enter Try.func86,Try.ntmps86
 go_wp2_with fail
 go_loopw [21,4] (fun i _ wr=>∃ j:Nat,j≤4∧i=.int .i64 j∧Below (w.heap.size+1) (w.alloc (.cells #[.int .i64 sp,.int .i64 dp,.int .u32 sq,.int .u32 ak,.int .i64 fl,.int .i64 wn,.int .i64 ur,.slice AO no co] 93)) wr) (fun i _ _=>5 - (intOf i).toNat)
 case atStart=>exact ⟨0,by omega,rfl,Below.refl _ _⟩
 case round =>
  obtain ⟨j,hj,rfl,hbel⟩:=hrel
  have HB:=Lib.hid hbel
  have o7:wr.cell? ⟨w.heap.size,7,none⟩=some (.slice AO no co):=(hbel.cell (p:=⟨w.heap.size,7,none⟩) (Nat.lt_succ_self _)).trans (BOX.out.cell 7)
  have HS:=Lib.hid (show w.heap.size+1≤wr.heap.size from Nat.le_trans (Nat.le_of_eq HZ.out.symm) hbel.size)
  clear hbel
  have hcase:j=0∨j=1∨j=2∨j=3∨j=4:=by omega
  rcases hcase with rfl | rfl | rfl | rfl | rfl
  ·go_wp2_with fail
   go_roundw
   case rel=>exact ⟨1,by omega,by go_num,HB.out.alloc HS.out _⟩
   case measure=>simp [intOf]
  ·go_wp2_with fail
   go_roundw
   case rel=>exact ⟨2,by omega,by go_num,HB.out.alloc HS.out _⟩
   case measure=>simp [intOf]
  ·go_wp2_with fail
   go_roundw
   case rel=>exact ⟨3,by omega,by go_num,HB.out.alloc HS.out _⟩
   case measure=>simp [intOf]
  ·go_wp2_with fail
   go_roundw
   case rel=>exact ⟨4,by omega,by go_num,HB.out.alloc HS.out _⟩
   case measure=>simp [intOf]
  ·go_wp2_with fail
   go_ret
   exact ⟨rfl,HBX.out.trans ((HB.out.alloc HS.out _:Below (w.heap.size+1) _ _).mono (Nat.le_succ _))⟩
theorem right_no9 (sp dp sq ak fl wn ur:Int) (AO:Option Addr) (no co:Nat) (w:World) (h:(0≤sp∧sp≤65535)∧(0≤dp∧dp≤65535)∧(0≤wn∧wn≤65535)∧(0≤ur∧ur≤65535)∧0≤fl∧255<fl) :
  Calls Try.prog 86 #[.agg #[.int .i64 sp,.int .i64 dp,.int .u32 sq,.int .u32 ak,.int .i64 fl,.int .i64 wn,.int .i64 ur,.slice AO no co]] w fun e w'=>e=.returned (.bool false)∧Below w.heap.size w w':=by
 have i0:∀ w,(Instr.index 143 (.agg #[.int .i64 sp,.int .i64 65535,.int .i64 dp,.int .i64 65535,.int .i64 wn,.int .i64 65535,.int .i64 ur,.int .i64 65535,.int .i64 fl,.int .i64 255]) (.int .i64 0)).run Try.prog w=.ok (.agg #[.int .i64 sp,.int .i64 65535]) w:=fun _=>by kernel_rfl
 have i1:∀ w,(Instr.index 143 (.agg #[.int .i64 sp,.int .i64 65535,.int .i64 dp,.int .i64 65535,.int .i64 wn,.int .i64 65535,.int .i64 ur,.int .i64 65535,.int .i64 fl,.int .i64 255]) (.int .i64 1)).run Try.prog w=.ok (.agg #[.int .i64 dp,.int .i64 65535]) w:=fun _=>by kernel_rfl
 have i2:∀ w,(Instr.index 143 (.agg #[.int .i64 sp,.int .i64 65535,.int .i64 dp,.int .i64 65535,.int .i64 wn,.int .i64 65535,.int .i64 ur,.int .i64 65535,.int .i64 fl,.int .i64 255]) (.int .i64 2)).run Try.prog w=.ok (.agg #[.int .i64 wn,.int .i64 65535]) w:=fun _=>by kernel_rfl
 have i3:∀ w,(Instr.index 143 (.agg #[.int .i64 sp,.int .i64 65535,.int .i64 dp,.int .i64 65535,.int .i64 wn,.int .i64 65535,.int .i64 ur,.int .i64 65535,.int .i64 fl,.int .i64 255]) (.int .i64 3)).run Try.prog w=.ok (.agg #[.int .i64 ur,.int .i64 65535]) w:=fun _=>by kernel_rfl
 have i4:∀ w,(Instr.index 143 (.agg #[.int .i64 sp,.int .i64 65535,.int .i64 dp,.int .i64 65535,.int .i64 wn,.int .i64 65535,.int .i64 ur,.int .i64 65535,.int .i64 fl,.int .i64 255]) (.int .i64 4)).run Try.prog w=.ok (.agg #[.int .i64 fl,.int .i64 255]) w:=fun _=>by kernel_rfl
 have q0:decide (sp<0)=false:=decide_eq_false (by omega)
 have p0:decide (65535<sp)=false:=decide_eq_false (by omega)
 have q1:decide (dp<0)=false:=decide_eq_false (by omega)
 have p1:decide (65535<dp)=false:=decide_eq_false (by omega)
 have q2:decide (wn<0)=false:=decide_eq_false (by omega)
 have p2:decide (65535<wn)=false:=decide_eq_false (by omega)
 have q3:decide (ur<0)=false:=decide_eq_false (by omega)
 have p3:decide (65535<ur)=false:=decide_eq_false (by omega)
 have q4:decide (fl<0)=false:=decide_eq_false (by omega)
 have p4:decide (255<fl)=true:=decide_eq_true (by omega)
 clear h
 have HBX:=Lib.hid ((Below.refl w.heap.size w).alloc (Nat.le_refl _) (.cells #[.int .i64 sp,.int .i64 dp,.int .u32 sq,.int .u32 ak,.int .i64 fl,.int .i64 wn,.int .i64 ur,.slice AO no co] 93))
 have BOX:=Lib.hid (Blk.new w 93 #[.int .i64 sp,.int .i64 dp,.int .u32 sq,.int .u32 ak,.int .i64 fl,.int .i64 wn,.int .i64 ur,.slice AO no co])
 have HZ:=Lib.hid (show (w.alloc (.cells #[.int .i64 sp,.int .i64 dp,.int .u32 sq,.int .u32 ak,.int .i64 fl,.int .i64 wn,.int .i64 ur,.slice AO no co] 93)).heap.size=w.heap.size+1 by simp)
 go_enter Try.func86,Try.ntmps86
 go_wp2_with fail
 go_loopw [21,4] (fun i _ wr=>∃ j:Nat,j≤4∧i=.int .i64 j∧Below (w.heap.size+1) (w.alloc (.cells #[.int .i64 sp,.int .i64 dp,.int .u32 sq,.int .u32 ak,.int .i64 fl,.int .i64 wn,.int .i64 ur,.slice AO no co] 93)) wr) (fun i _ _=>5 - (intOf i).toNat)
 case atStart=>exact ⟨0,by omega,rfl,Below.refl _ _⟩
 case round =>
  obtain ⟨j,hj,rfl,hbel⟩:=hrel
  have HB:=Lib.hid hbel
  have o7:wr.cell? ⟨w.heap.size,7,none⟩=some (.slice AO no co):=(hbel.cell (p:=⟨w.heap.size,7,none⟩) (Nat.lt_succ_self _)).trans (BOX.out.cell 7)
  have HS:=Lib.hid (show w.heap.size+1≤wr.heap.size from Nat.le_trans (Nat.le_of_eq HZ.out.symm) hbel.size)
  clear hbel
  have hcase:j=0∨j=1∨j=2∨j=3∨j=4:=by omega
  rcases hcase with rfl | rfl | rfl | rfl | rfl
  ·go_wp2_with fail
   go_roundw
   case rel=>exact ⟨1,by omega,by go_num,HB.out.alloc HS.out _⟩
   case measure=>simp [intOf]
  ·go_wp2_with fail
   go_roundw
   case rel=>exact ⟨2,by omega,by go_num,HB.out.alloc HS.out _⟩
   case measure=>simp [intOf]
  ·go_wp2_with fail
   go_roundw
   case rel=>exact ⟨3,by omega,by go_num,HB.out.alloc HS.out _⟩
   case measure=>simp [intOf]
  ·go_wp2_with fail
   go_roundw
   case rel=>exact ⟨4,by omega,by go_num,HB.out.alloc HS.out _⟩
   case measure=>simp [intOf]
  ·go_wp2_with fail
   go_ret
   exact ⟨rfl,HBX.out.trans ((HB.out.alloc HS.out _:Below (w.heap.size+1) _ _).mono (Nat.le_succ _))⟩
theorem right_no (sp dp fl:Int) (w:World) (h:¬ okH sp dp 1024 0 fl 0) :
  Calls Try.prog 86 #[.agg #[.int .i64 sp,.int .i64 dp,.int .u32 0,.int .u32 0,.int .i64 fl,.int .i64 1024,.int .i64 0,.slice none 0 0]] w fun e w'=>e=.returned (.bool false)∧Below w.heap.size w w':=by
 rcases not_ok sp dp 1024 0 fl 0 h with h | h | h | h | h | h | h | h | h | h | h | h
 ·exact right_no0 sp dp 0 0 fl 1024 0 none 0 0 w h
 ·exact right_no1 sp dp 0 0 fl 1024 0 none 0 0 w h
 ·exact right_no2 sp dp 0 0 fl 1024 0 none 0 0 w h
 ·exact right_no3 sp dp 0 0 fl 1024 0 none 0 0 w h
 ·omega
 ·omega
 ·omega
 ·omega
 ·exact right_no8 sp dp 0 0 fl 1024 0 none 0 0 w h
 ·exact right_no9 sp dp 0 0 fl 1024 0 none 0 0 w h
 ·omega
 ·omega
end Go.Proofs.Ytodckfgfbcnkoaa.tcpKn
/- Layer 10: the law and the code on headers that may not be. -/
namespace Go.Proofs.Ytodckfgfbcnkoaa.tcpMn
open base rdrA tcpKn
theorem bytes_wrong (sp dp fl:Int) (A A2:Option Addr) (n c n2 c2:Nat) (w:World) (h:¬ okH sp dp 1024 0 fl 0) :
  Calls Try.prog 61 #[.agg #[.int .i64 sp,.int .i64 dp,.int .u32 0,.int .u32 0,.int .i64 fl,.int .i64 1024,.int .i64 0,.slice none 0 0],.slice A n c,.slice A2 n2 c2] w fun e w'=>e=.returned (.tuple #[.slice none 0 0,.int .i64 1])∧Below w.heap.size w w':=by
 have HB0:=Lib.hid (show Below w.heap.size w (w.alloc (.cells #[.int .i64 sp,.int .i64 dp,.int .u32 0,.int .u32 0,.int .i64 fl,.int .i64 1024,.int .i64 0,.slice none 0 0] 93)) from (Below.refl _ _).alloc (Nat.le_refl _) _)
 have H:=Lib.hid (fun w=>right_no sp dp fl w h)
 clear h
 go_enter Try.func61,Try.ntmps61
 go_wp2_with fail
 refine (H.out _).mono ?_
 rintro e w' ⟨rfl,hb⟩
 have HB:=Lib.hid (bel_call HB0.out hb)
 go_wp2_with fail
 go_ret2
 exact ⟨rfl,HB.out⟩
end Go.Proofs.Ytodckfgfbcnkoaa.tcpMn
/- Layer 13: Datagram and Segment of any flow. -/
namespace Go.Proofs.Ytodckfgfbcnkoaa.pktS
set_option maxHeartbeats 4000000
open base octA rdrA rdrG sumA sumB sixW sixM pktA pktB pktC pktE sixE sixF pktG pktL pktL2 pktM pktR
def tcpM (sp dp fl:Int) (pl ps:List Int):Int × List Int:=if (0≤sp∧sp≤65535∧0≤dp∧dp≤65535)∧(0≤fl∧fl≤255) then (0,tcpLn.tk sp dp 0 0 fl 1024 0 (65535 - fo (wsum (ps++tcpLn.tk sp dp 0 0 fl 1024 0 0 [] pl))) [] pl) else (1,[])
theorem tcp_bytes (sp dp fl:Int) (A A2:Option Addr) (n c n2 c2:Nat) (pl ps:List Int) (w:World) (h:Sl w A n c pl) (h2:Sl w A2 n2 c2 ps) (hn:n≤500) (hn2:n2≤1000) :
  Calls Try.prog 61 #[.agg #[.int .i64 sp,.int .i64 dp,.int .u32 0,.int .u32 0,.int .i64 fl,.int .i64 1024,.int .i64 0,.slice none 0 0],.slice A n c,.slice A2 n2 c2] w (MkP (tcpM sp dp fl pl ps).1 (tcpM sp dp fl pl ps).2 w):=by
 unfold tcpM
 by_cases hp:(0≤sp∧sp≤65535∧0≤dp∧dp≤65535)∧(0≤fl∧fl≤255)
 ·rw [if_pos hp]
  obtain ⟨⟨p1,p2,p3,p4⟩,p5,p6⟩:=hp
  refine (tcpNn.bytes_tk sp dp 0 0 fl 1024 0 none 0 0 [] A A2 n c n2 c2 pl ps w p1 p2 p3 p4 p5 p6 (by omega) (by omega) (by omega) (by omega) (by omega) rfl (by omega) (by omega) (by omega) (by omega) rfl (.inl rfl) (fun _=>rfl) (fun x hx=>by cases hx) h.len hn h.row h.nil h.u8 h2.len hn2 h2.row h2.u8).mono ?_
  rintro o w' ⟨v,rfl,h3,h4⟩
  obtain ⟨B,d,rfl⟩:=own_slice h3
  have hin:∀ x ∈ ps++tcpLn.tk sp dp 0 0 fl 1024 0 0 [] pl,0≤x∧x≤255:=fun x hx=>(List.mem_append.1 hx).elim (h2.u8 x) (tcpNn.tk_in sp dp 0 0 fl 1024 0 0 [] pl p1 p2 p3 p4 (by omega) (by omega) (by omega) (by omega) p5 p6 (by omega) (by omega) (by omega) (by omega) (by omega) (by omega) (by simp) (fun x hx=>by cases hx) h.u8 x)
  have fb:=fo_bd _ (wsum_bd _ hin).1
  refine ⟨h4,B,_,d,rfl,Sl.own h3 ?_ (tcpNn.tk_in sp dp 0 0 fl 1024 0 _ [] pl p1 p2 p3 p4 (by omega) (by omega) (by omega) (by omega) p5 p6 (by omega) (by omega) (by omega) (by omega) (by omega) (by omega) (by simp) (fun x hx=>by cases hx) h.u8)⟩
  rw [(tcpLn.tk_says sp dp 0 0 fl 1024 0 _ [] pl rfl).1,h.len]
  rfl
 ·rw [if_neg hp]
  refine (tcpMn.bytes_wrong sp dp fl A A2 n c n2 c2 w (fun ⟨a,b,_,_,e,_⟩=>hp ⟨⟨a.1,a.2,b.1,b.2⟩,e⟩)).mono ?_
  rintro o w' ⟨rfl,h4⟩
  exact MkP.nil_ h4
theorem six_bytes (ttl pr sh sl dh dl:Int) (A:Option Addr) (n c:Nat) (bl:List Int) (w:World) (h:Sl w A n c bl) (hn:n≤900) (h1:0≤ttl∧ttl≤255) (h2:0≤pr∧pr≤255) (h3:isX pr=false) (b1:0≤sh∧sh<18446744073709551616) (b2:0≤sl∧sl<18446744073709551616) (b3:0≤dh∧dh<18446744073709551616) (b4:0≤dl∧dl<18446744073709551616) :
  Calls Try.prog 37 #[.agg #[.int .i64 0,.int .i64 0,.int .i64 ttl,.bool true,.int .u64 sh,.int .u64 sl,.bool true,.int .u64 dh,.int .u64 dl,.slice none 0 0,.int .i64 pr],.slice A n c] w (MkP 0 (mkB6 ttl pr sh sl dh dl bl) w):=by
 refine (sixQ.bytes_any ⟨0,0,ttl,true,sh,sl,true,dh,dl,pr⟩ none 0 0 [] A n c bl w rfl (⟨.inl rfl,fun o ho=>by cases ho⟩:RdX w none []) (Nat.le_refl _) (right6 ttl pr sh sl dh dl h1 h2 h3) b1 b2 b3 b4 h.len h.row (by omega) h.nil).mono ?_
 rintro o w' ⟨v,rfl,h5,h6⟩
 obtain ⟨B,d,rfl⟩:=own_slice h5
 refine ⟨h6,B,_,d,rfl,Sl.own h5 rfl ?_⟩
 have u8:∀ n:Int,U8 (pb n 8 8):=fun n=>pb_u8 n 8 8
 intro x hx
 have hx2:x ∈ sixK.hdB ⟨0,0,ttl,true,sh,sl,true,dh,dl,pr⟩ pr (extL []+bl.length)++([]++bl):=hx
 unfold sixK.hdB sixK.hd8 at hx2
 rw [List.nil_append] at hx2
 have hbn:=h.len
 rcases List.mem_append.1 hx2 with hx2 | hx2
 ·rcases List.mem_append.1 hx2 with hx2 | hx2
  ·rcases List.mem_append.1 hx2 with hx2 | hx2
   ·simp only [List.mem_cons,List.not_mem_nil,or_false] at hx2
    rcases hx2 with rfl | rfl | rfl | rfl | rfl | rfl | rfl | rfl <;> omega
   ·exact (List.mem_append.1 hx2).elim (u8 _ x) (u8 _ x)
  ·exact (List.mem_append.1 hx2).elim (u8 _ x) (u8 _ x)
 ·exact h.u8 x hx2
theorem six_bad (ttl pr sh sl dh dl:Int) (rv:Value) (w:World) (h1:¬ (0≤ttl∧ttl≤255)) :
  Calls Try.prog 37 #[.agg #[.int .i64 0,.int .i64 0,.int .i64 ttl,.bool true,.int .u64 sh,.int .u64 sl,.bool true,.int .u64 dh,.int .u64 dl,.slice none 0 0,.int .i64 pr],rv] w (MkP 1 [] w):=by
 refine (sixZn.bytes_no 0 0 ttl true sh sl true dh dl pr none 0 0 rv w (Lib.hid fun V hV=>?_)).mono ?_
 ·refine (sixH.right_any ⟨0,0,ttl,true,sh,sl,true,dh,dl,pr⟩ none 0 0 [] V rfl (⟨.inl rfl,fun o ho=>by cases ho⟩:RdX V none []) (Nat.le_refl _) (by omega) (fun x hx=>by cases hx)).mono ?_
  rintro o w' ⟨v,rfl,h2,h3⟩
  cases v with
  | false=>exact ⟨rfl,h3⟩
  | true=>exact absurd ⟨(h2.mp rfl).h0,(h2.mp rfl).h1⟩ h1
 ·rintro o w' ⟨rfl,h4⟩
  exact MkP.nil_ h4
theorem sg_closure (pr:Int) (s6:Bool) (sh sl:Int) (d6:Bool) (dh dl sp dp fl:Int) (c1 c2 c3:Nat) (A A2:Option Addr) (n c n2 cc2:Nat) (e:Int) (bs:List Int) (w:World)
  (K1:Blk w c1 34 #[.int .i64 pr,.bool s6,.int .u64 sh,.int .u64 sl,.bool d6,.int .u64 dh,.int .u64 dl,.int .i64 sp,.int .i64 dp]) (K2:Blk w c2 3 #[.int .i64 fl]) (K3:Blk w c3 22 #[.slice A n c])
  (HC:Hid (Calls Try.prog 61 #[.agg #[.int .i64 sp,.int .i64 dp,.int .u32 0,.int .u32 0,.int .i64 fl,.int .i64 1024,.int .i64 0,.slice none 0 0],.slice A n c,.slice A2 n2 cc2] w (MkP e bs w))) :
  Calls Try.prog 60 #[.slice A2 n2 cc2,.pointer (some ⟨c1,0,none⟩),.pointer (some ⟨c2,0,none⟩),.pointer (some ⟨c3,0,none⟩)] w (MkP e bs w):=by
 have p7:=K1.cell 7
 have p8:=K1.cell 8
 have q0:=K2.cell 0
 have r0:=K3.cell 0
 go_enter Try.func60,Try.ntmps60
 go_wp2_with fail
 refine HC.out.mono ?_
 rintro o w4 ⟨hb4,A4,n4,c4,rfl,hs4⟩
 go_wp2_with fail
 go_ret2
 exact ⟨hb4,A4,n4,c4,rfl,hs4⟩
theorem segm_not (pr:Int) (s6:Bool) (sh sl:Int) (d6:Bool) (dh dl sp dp ttl fl:Int) (A:Option Addr) (n c:Nat) (w:World) (h:pr≠6∨s6≠d6) :
  Calls Try.prog 25 #[.agg #[.int .i64 pr,.bool s6,.int .u64 sh,.int .u64 sl,.bool d6,.int .u64 dh,.int .u64 dl,.int .i64 sp,.int .i64 dp],.int .i64 ttl,.int .i64 fl,.slice A n c] w (MkP 1 [] w):=by
 have B0:=Lib.hid (show Below w.heap.size w (((w.alloc (.cells #[.int .i64 pr,.bool s6,.int .u64 sh,.int .u64 sl,.bool d6,.int .u64 dh,.int .u64 dl,.int .i64 sp,.int .i64 dp] 34)).alloc (.cells #[.int .i64 fl] 3)).alloc (.cells #[.slice A n c] 22)) from (((Below.refl _ _).alloc (Nat.le_refl _) _).alloc (by simp) _).alloc (by simp; omega) _)
 by_cases h17:pr=6
 ·have h2:s6≠d6:=by rcases h with h | h <;> first | omega | exact h
  subst h17
  have tv:(s6 == d6)=false:=by simpa using h2
  clear h h2
  go_enter Try.func25,Try.ntmps25
  go_wp2_with fail
  go_ret2
  exact MkP.nil_ B0.out
 ·have t17:(pr != 6)=true:=by simpa using h17
  clear h h17
  go_enter Try.func25,Try.ntmps25
  go_wp2_with fail
  go_ret2
  exact MkP.nil_ B0.out
theorem segm_go (s6:Bool) (sh sl:Int) (dh dl sp dp ttl fl:Int) (A:Option Addr) (n c:Nat) (e:Int) (bs:List Int) (w:World) (hn:n≤1000)
  (HW:Hid (∀ V c1 c2 c3,Below w.heap.size w V→Blk V c1 34 #[.int .i64 6,.bool s6,.int .u64 sh,.int .u64 sl,.bool s6,.int .u64 dh,.int .u64 dl,.int .i64 sp,.int .i64 dp]→Blk V c2 3 #[.int .i64 fl]→Blk V c3 22 #[.slice A n c]→Calls Try.prog 59 #[.agg #[.int .i64 6,.bool s6,.int .u64 sh,.int .u64 sl,.bool s6,.int .u64 dh,.int .u64 dl,.int .i64 sp,.int .i64 dp],.int .i64 ttl,.int .i64 (20+(n:Int)),.func (.func 60) #[] #[.pointer (some ⟨c1,0,none⟩),.pointer (some ⟨c2,0,none⟩),.pointer (some ⟨c3,0,none⟩)]] V (MkP e bs V))) :
  Calls Try.prog 25 #[.agg #[.int .i64 6,.bool s6,.int .u64 sh,.int .u64 sl,.bool s6,.int .u64 dh,.int .u64 dl,.int .i64 sp,.int .i64 dp],.int .i64 ttl,.int .i64 fl,.slice A n c] w (MkP e bs w):=by
 have hmf:∀ (fn:Fn) (first cap:Array Value) (w:World),(Instr.makeFunc fn first cap).run Try.prog w=.ok (.func fn first cap) w:=fun _ _ _ _=>rfl
 obtain ⟨w0,hw0⟩:∃ w0,w0=(w.alloc (.cells #[.int .i64 6,.bool s6,.int .u64 sh,.int .u64 sl,.bool s6,.int .u64 dh,.int .u64 dl,.int .i64 sp,.int .i64 dp] 34)).alloc (.cells #[.int .i64 fl] 3):=⟨_,rfl⟩
 obtain ⟨w1,hw1⟩:∃ w1,w1=w0.alloc (.cells #[.slice A n c] 22):=⟨_,rfl⟩
 have E1:=Lib.hid (show w1=((w.alloc (.cells #[.int .i64 6,.bool s6,.int .u64 sh,.int .u64 sl,.bool s6,.int .u64 dh,.int .u64 dl,.int .i64 sp,.int .i64 dp] 34)).alloc (.cells #[.int .i64 fl] 3)).alloc (.cells #[.slice A n c] 22) from by rw [hw1,hw0])
 have B0:=(show Below w.heap.size w w0 from by rw [hw0]; exact ((Below.refl _ _).alloc (Nat.le_refl _) _).alloc (by simp) _)
 have s0:w0.heap.size=w.heap.size+2:=by rw [hw0]; simp
 have B1:=Lib.hid (show Below w.heap.size w w1 from by rw [hw1]; exact B0.alloc B0.size _)
 obtain ⟨g,hg⟩:∃ g,g=w.heap.size:=⟨_,rfl⟩
 obtain ⟨q,hq⟩:∃ q,q=w.heap.size+1:=⟨_,rfl⟩
 obtain ⟨r,hr⟩:∃ r,r=w.heap.size+1+1:=⟨_,rfl⟩
 have EG:=Lib.hid hg
 have EQ:=Lib.hid hq
 have ER:=Lib.hid hr
 have B01:=(show Below w0.heap.size w0 w1 from by rw [hw1]; exact (Below.refl _ _).alloc (Nat.le_refl _) _)
 have KP0:=(show Blk w0 g 34 #[.int .i64 6,.bool s6,.int .u64 sh,.int .u64 sl,.bool s6,.int .u64 dh,.int .u64 dl,.int .i64 sp,.int .i64 dp] from by rw [hw0,hg]; exact (Blk.new w _ _).below ((Below.refl _ _).alloc (Nat.le_refl _) _) (Blk.new w _ _).lt)
 have KQ0:=(show Blk w0 q 3 #[.int .i64 fl] from by
  have h9:=Blk.new (w.alloc (.cells #[.int .i64 6,.bool s6,.int .u64 sh,.int .u64 sl,.bool s6,.int .u64 dh,.int .u64 dl,.int .i64 sp,.int .i64 dp] 34)) 3 #[.int .i64 fl]
  rw [← hw0] at h9
  rw [hq]
  simpa using h9)
 have KP:=Lib.hid (KP0.below B01 KP0.lt)
 have KQ:=Lib.hid (KQ0.below B01 KQ0.lt)
 have KR:=Lib.hid (show Blk w1 r 22 #[.slice A n c] from by rw [hw1,hr,show w.heap.size+1+1=w0.heap.size from s0.symm]; exact Blk.new w0 _ _)
 have HW1:=Lib.hid (HW.out w1 g q r B1.out KP.out KQ.out KR.out)
 have tv:(s6 == s6)=true:=by simp
 clear hw0 hw1 hg hq hr B0 s0 B01 KP0 KQ0
 go_enter Try.func25,Try.ntmps25
 go_upto_region 1 with fail
 rw [← E1.out,← ER.out,← EQ.out,← EG.out]
 have p0:=KP.out.cell 0
 have p1:=KP.out.cell 1
 have p2:=KP.out.cell 2
 have p3:=KP.out.cell 3
 have p4:=KP.out.cell 4
 have p5:=KP.out.cell 5
 have p6:=KP.out.cell 6
 have p7:=KP.out.cell 7
 have p8:=KP.out.cell 8
 have r0:=KR.out.cell 0
 go_wp2_with fail
 refine HW1.out.mono ?_
 rintro o w4 ⟨hb4,A4,n4,c4,rfl,hs4⟩
 have B4:=Lib.hid (B1.out.trans (hb4.mono B1.out.size))
 clear hb4
 go_wp2_with fail
 go_ret2
 exact ⟨B4.out,A4,n4,c4,rfl,hs4⟩
def Made (pr:Int) (s6:Bool) (sh sl:Int) (d6:Bool) (dh dl sp dp ttl fl proto:Int):Prop:=pr=proto∧s6=d6∧(0≤ttl∧ttl≤255)∧(0≤sp∧sp≤65535∧0≤dp∧dp≤65535)∧(0≤fl∧fl≤255)∧(s6=true∨(sh=0∧dh=0∧sl<4294967296∧dl<4294967296))
theorem dgram_with (s6:Bool) (sh sl dh dl sp dp ttl fl:Int) (A:Option Addr) (n c:Nat) (pl:List Int) (w:World) (h:Sl w A n c pl) (hn:n≤500) (b1:0≤sh∧sh<18446744073709551616) (b2:0≤sl∧sl<18446744073709551616) (b3:0≤dh∧dh<18446744073709551616) (b4:0≤dl∧dl<18446744073709551616) (ps:List Int) (hps:ps=psd s6 sh sl dh dl 17 (8+(pl.length:Int))) (e e2:Int) (bs out:List Int) (hM:udpM sp dp pl ps=(e,bs))
  (HB:(e≠0∧e2=e∧out=[])∨(e=0∧s6=false∧∀ V A2 n2 k2,Below w.heap.size w V→Sl V A2 n2 k2 bs→Calls Try.prog 38 #[.agg #[.int .i64 0,.int .i64 0,.bool false,.bool false,.int .i64 0,.int .i64 ttl,.int .i64 17,.bool false,.int .u64 sh,.int .u64 sl,.bool false,.int .u64 dh,.int .u64 dl,.slice none 0 0],.slice A2 n2 k2] V (MkP e2 out V))∨(e=0∧s6=true∧∀ V A2 n2 k2,Below w.heap.size w V→Sl V A2 n2 k2 bs→Calls Try.prog 37 #[.agg #[.int .i64 0,.int .i64 0,.int .i64 ttl,.bool true,.int .u64 sh,.int .u64 sl,.bool true,.int .u64 dh,.int .u64 dl,.slice none 0 0,.int .i64 17],.slice A2 n2 k2] V (MkP e2 out V))) :
  Calls Try.prog 26 #[.agg #[.int .i64 17,.bool s6,.int .u64 sh,.int .u64 sl,.bool s6,.int .u64 dh,.int .u64 dl,.int .i64 sp,.int .i64 dp],.int .i64 ttl,.slice A n c] w (MkP e2 out w):=by
 have hl:=h.len
 have hp40:ps.length≤1000:=by rw [hps]; have:=psd_len s6 sh sl dh dl 17 (8+(pl.length:Int)); omega
 have HPS:=fun V=>psd_any s6 sh sl s6 dh dl 17 (8+(n:Int)) V b1 b2 b3 b4 (by omega) (by omega)
 rw [← hl] at HPS
 rw [← hps] at HPS
 refine dgram_go s6 sh sl dh dl sp dp ttl A n c _ _ w (by omega) (Lib.hid fun V c1 c2 hV k1 k2=>?_)
 have HC:∀ W A2 n2 cc2,Below V.heap.size V W→Sl W A2 n2 cc2 ps→Calls Try.prog 62 #[.slice A2 n2 cc2,.pointer (some ⟨c1,0,none⟩),.pointer (some ⟨c2,0,none⟩)] W (MkP e bs W):=fun W A2 n2 cc2 hW hs=>by
  have h9:=udp_bytes sp dp A A2 n c n2 cc2 pl ps W (h.below (hV.trans (hW.mono hV.size))) hs (by omega) (by have:=hs.len; omega)
  rw [hM] at h9
  exact dg_closure 17 s6 sh sl s6 dh dl sp dp c1 c2 A A2 n c n2 cc2 e bs W (k1.below hW k1.lt) (k2.below hW k2.lt) (Lib.hid h9)
 rw [← hl]
 rcases HB with ⟨he,rfl,rfl⟩ | ⟨rfl,rfl,HB⟩ | ⟨rfl,rfl,HB⟩
 ·exact whole_dg_bad 17 s6 sh sl s6 dh dl sp dp ttl _ c1 c2 ps bs e2 he V (Lib.hid fun W hW=>HPS W) (Lib.hid HC)
 ·exact whole_dg_four 17 sh sl false dh dl sp dp ttl _ c1 c2 ps bs _ _ V (Lib.hid fun W hW=>HPS W) (Lib.hid HC) (Lib.hid fun W A2 n2 k2 hW hs=>HB W A2 n2 k2 (hV.trans (hW.mono hV.size)) hs)
 ·exact whole_dg_six 17 sh sl true dh dl sp dp ttl _ c1 c2 ps bs _ _ V (Lib.hid fun W hW=>HPS W) (Lib.hid HC) (Lib.hid fun W A2 n2 k2 hW hs=>HB W A2 n2 k2 (hV.trans (hW.mono hV.size)) hs)
theorem dgram_bad (pr:Int) (s6:Bool) (sh sl:Int) (d6:Bool) (dh dl sp dp ttl fl:Int) (A:Option Addr) (n c:Nat) (pl:List Int) (w:World) (h:Sl w A n c pl) (hn:n≤500) (b1:0≤sh∧sh<18446744073709551616) (b2:0≤sl∧sl<18446744073709551616) (b3:0≤dh∧dh<18446744073709551616) (b4:0≤dl∧dl<18446744073709551616) (hm:¬ Made pr s6 sh sl d6 dh dl sp dp ttl 0 17) :
  Calls Try.prog 26 #[.agg #[.int .i64 pr,.bool s6,.int .u64 sh,.int .u64 sl,.bool d6,.int .u64 dh,.int .u64 dl,.int .i64 sp,.int .i64 dp],.int .i64 ttl,.slice A n c] w (MkP 1 [] w):=by
 have hl:=h.len
 by_cases hx:pr≠17∨s6≠d6
 ·exact dgram_not pr s6 sh sl d6 dh dl sp dp ttl A n c w hx
 obtain rfl:pr=17:=Classical.byContradiction fun e=>hx (.inl e)
 obtain rfl:s6=d6:=Classical.byContradiction fun e=>hx (.inr e)
 obtain ⟨ps,hps⟩:∃ ps,ps=psd s6 sh sl dh dl 17 (8+(pl.length:Int)):=⟨_,rfl⟩
 by_cases hp:0≤sp∧sp≤65535∧0≤dp∧dp≤65535
 ·obtain ⟨bs,hbs⟩:∃ bs,bs=udpB.ub sp dp pl (udpB.chkZ (ps++udpB.ub sp dp pl 0)):=⟨_,rfl⟩
  have hM:udpM sp dp pl ps=(0,bs):=by unfold udpM; rw [if_pos hp,hbs]
  have hlb:bs.length=8+pl.length:=by
   rw [hbs]
   exact udpB.ub_len _ _ _ _
  cases s6 with
  | false =>
   refine dgram_with false sh sl dh dl sp dp ttl fl A n c pl w h hn b1 b2 b3 b4 ps hps 0 1 bs _ hM (.inr (.inl ⟨rfl,rfl,fun V A2 n2 k2 hV hs2=>?_⟩))
   have h9:=four_bytes ttl 17 sh sl false dh dl A2 n2 k2 bs V hs2 (by have:=hs2.len; omega) b2.1 b4.1
   unfold fourM at h9
   rw [if_neg (fun ⟨a1,_,⟨a3,a4⟩,_,a5,a6⟩=>hm ⟨rfl,rfl,a1,hp,by omega,.inr ⟨a3,a5,by omega,by omega⟩⟩)] at h9
   exact h9
  | true =>
   refine dgram_with true sh sl dh dl sp dp ttl fl A n c pl w h hn b1 b2 b3 b4 ps hps 0 1 bs _ hM (.inr (.inr ⟨rfl,rfl,fun V A2 n2 k2 hV hs2=>?_⟩))
   exact six_bad ttl 17 sh sl dh dl _ V (fun a=>hm ⟨rfl,rfl,a,hp,by omega,.inl rfl⟩)
 ·have hM:udpM sp dp pl ps=(1,[]):=by unfold udpM; rw [if_neg hp]
  exact dgram_with s6 sh sl dh dl sp dp ttl fl A n c pl w h hn b1 b2 b3 b4 ps hps 1 1 [] [] hM (.inl ⟨by decide,rfl,rfl⟩)
theorem segm_with (s6:Bool) (sh sl dh dl sp dp ttl fl:Int) (A:Option Addr) (n c:Nat) (pl:List Int) (w:World) (h:Sl w A n c pl) (hn:n≤500) (b1:0≤sh∧sh<18446744073709551616) (b2:0≤sl∧sl<18446744073709551616) (b3:0≤dh∧dh<18446744073709551616) (b4:0≤dl∧dl<18446744073709551616) (ps:List Int) (hps:ps=psd s6 sh sl dh dl 6 (20+(pl.length:Int))) (e e2:Int) (bs out:List Int) (hM:tcpM sp dp fl pl ps=(e,bs))
  (HB:(e≠0∧e2=e∧out=[])∨(e=0∧s6=false∧∀ V A2 n2 k2,Below w.heap.size w V→Sl V A2 n2 k2 bs→Calls Try.prog 38 #[.agg #[.int .i64 0,.int .i64 0,.bool false,.bool false,.int .i64 0,.int .i64 ttl,.int .i64 6,.bool false,.int .u64 sh,.int .u64 sl,.bool false,.int .u64 dh,.int .u64 dl,.slice none 0 0],.slice A2 n2 k2] V (MkP e2 out V))∨(e=0∧s6=true∧∀ V A2 n2 k2,Below w.heap.size w V→Sl V A2 n2 k2 bs→Calls Try.prog 37 #[.agg #[.int .i64 0,.int .i64 0,.int .i64 ttl,.bool true,.int .u64 sh,.int .u64 sl,.bool true,.int .u64 dh,.int .u64 dl,.slice none 0 0,.int .i64 6],.slice A2 n2 k2] V (MkP e2 out V))) :
  Calls Try.prog 25 #[.agg #[.int .i64 6,.bool s6,.int .u64 sh,.int .u64 sl,.bool s6,.int .u64 dh,.int .u64 dl,.int .i64 sp,.int .i64 dp],.int .i64 ttl,.int .i64 fl,.slice A n c] w (MkP e2 out w):=by
 have hl:=h.len
 have hp40:ps.length≤1000:=by rw [hps]; have:=psd_len s6 sh sl dh dl 6 (20+(pl.length:Int)); omega
 have HPS:=fun V=>psd_any s6 sh sl s6 dh dl 6 (20+(n:Int)) V b1 b2 b3 b4 (by omega) (by omega)
 rw [← hl] at HPS
 rw [← hps] at HPS
 refine segm_go s6 sh sl dh dl sp dp ttl fl A n c _ _ w (by omega) (Lib.hid fun V c1 c2 c3 hV k1 k2 k3=>?_)
 have HC:∀ W A2 n2 cc2,Below V.heap.size V W→Sl W A2 n2 cc2 ps→Calls Try.prog 60 #[.slice A2 n2 cc2,.pointer (some ⟨c1,0,none⟩),.pointer (some ⟨c2,0,none⟩),.pointer (some ⟨c3,0,none⟩)] W (MkP e bs W):=fun W A2 n2 cc2 hW hs=>by
  have h9:=tcp_bytes sp dp fl A A2 n c n2 cc2 pl ps W (h.below (hV.trans (hW.mono hV.size))) hs (by omega) (by have:=hs.len; omega)
  rw [hM] at h9
  exact sg_closure 6 s6 sh sl s6 dh dl sp dp fl c1 c2 c3 A A2 n c n2 cc2 e bs W (k1.below hW k1.lt) (k2.below hW k2.lt) (k3.below hW k3.lt) (Lib.hid h9)
 rw [← hl]
 rcases HB with ⟨he,rfl,rfl⟩ | ⟨rfl,rfl,HB⟩ | ⟨rfl,rfl,HB⟩
 ·exact whole_sg_bad 6 s6 sh sl s6 dh dl sp dp ttl _ c1 c2 c3 ps bs e2 he V (Lib.hid fun W hW=>HPS W) (Lib.hid HC)
 ·exact whole_sg_four 6 sh sl false dh dl sp dp ttl _ c1 c2 c3 ps bs _ _ V (Lib.hid fun W hW=>HPS W) (Lib.hid HC) (Lib.hid fun W A2 n2 k2 hW hs=>HB W A2 n2 k2 (hV.trans (hW.mono hV.size)) hs)
 ·exact whole_sg_six 6 sh sl true dh dl sp dp ttl _ c1 c2 c3 ps bs _ _ V (Lib.hid fun W hW=>HPS W) (Lib.hid HC) (Lib.hid fun W A2 n2 k2 hW hs=>HB W A2 n2 k2 (hV.trans (hW.mono hV.size)) hs)
theorem segm_bad (pr:Int) (s6:Bool) (sh sl:Int) (d6:Bool) (dh dl sp dp ttl fl:Int) (A:Option Addr) (n c:Nat) (pl:List Int) (w:World) (h:Sl w A n c pl) (hn:n≤500) (b1:0≤sh∧sh<18446744073709551616) (b2:0≤sl∧sl<18446744073709551616) (b3:0≤dh∧dh<18446744073709551616) (b4:0≤dl∧dl<18446744073709551616) (hm:¬ Made pr s6 sh sl d6 dh dl sp dp ttl fl 6) :
  Calls Try.prog 25 #[.agg #[.int .i64 pr,.bool s6,.int .u64 sh,.int .u64 sl,.bool d6,.int .u64 dh,.int .u64 dl,.int .i64 sp,.int .i64 dp],.int .i64 ttl,.int .i64 fl,.slice A n c] w (MkP 1 [] w):=by
 have hl:=h.len
 by_cases hx:pr≠6∨s6≠d6
 ·exact segm_not pr s6 sh sl d6 dh dl sp dp ttl fl A n c w hx
 obtain rfl:pr=6:=Classical.byContradiction fun e=>hx (.inl e)
 obtain rfl:s6=d6:=Classical.byContradiction fun e=>hx (.inr e)
 obtain ⟨ps,hps⟩:∃ ps,ps=psd s6 sh sl dh dl 6 (20+(pl.length:Int)):=⟨_,rfl⟩
 by_cases hp:(0≤sp∧sp≤65535∧0≤dp∧dp≤65535)∧(0≤fl∧fl≤255)
 ·obtain ⟨bs,hbs⟩:∃ bs,bs=tcpLn.tk sp dp 0 0 fl 1024 0 (65535 - fo (wsum (ps++tcpLn.tk sp dp 0 0 fl 1024 0 0 [] pl))) [] pl:=⟨_,rfl⟩
  have hM:tcpM sp dp fl pl ps=(0,bs):=by unfold tcpM; rw [if_pos hp,hbs]
  have hlb:bs.length=20+pl.length:=by
   rw [hbs]
   rw [(tcpLn.tk_says sp dp 0 0 fl 1024 0 _ [] pl rfl).1]; rfl
  cases s6 with
  | false =>
   refine segm_with false sh sl dh dl sp dp ttl fl A n c pl w h hn b1 b2 b3 b4 ps hps 0 1 bs _ hM (.inr (.inl ⟨rfl,rfl,fun V A2 n2 k2 hV hs2=>?_⟩))
   have h9:=four_bytes ttl 6 sh sl false dh dl A2 n2 k2 bs V hs2 (by have:=hs2.len; omega) b2.1 b4.1
   unfold fourM at h9
   rw [if_neg (fun ⟨a1,_,⟨a3,a4⟩,_,a5,a6⟩=>hm ⟨rfl,rfl,a1,hp.1,hp.2,.inr ⟨a3,a5,by omega,by omega⟩⟩)] at h9
   exact h9
  | true =>
   refine segm_with true sh sl dh dl sp dp ttl fl A n c pl w h hn b1 b2 b3 b4 ps hps 0 1 bs _ hM (.inr (.inr ⟨rfl,rfl,fun V A2 n2 k2 hV hs2=>?_⟩))
   exact six_bad ttl 6 sh sl dh dl _ V (fun a=>hm ⟨rfl,rfl,a,hp.1,hp.2,.inl rfl⟩)
 ·have hM:tcpM sp dp fl pl ps=(1,[]):=by unfold tcpM; rw [if_neg hp]
  exact segm_with s6 sh sl dh dl sp dp ttl fl A n c pl w h hn b1 b2 b3 b4 ps hps 1 1 [] [] hM (.inl ⟨by decide,rfl,rfl⟩)
end Go.Proofs.Ytodckfgfbcnkoaa.pktS
/- Layer 13: bytes that are cut to so many. -/
namespace Go.Proofs.Ytodckfgfbcnkoaa.pktCut
open rdrG sumB sixF
theorem cut_any (A:Option Addr) (n c:Nat) (w:World) (hA:0<n→∃ b off,A=some ⟨b,off,none⟩) (hnc:n≤c) (hc:c≤9223372036854775807) :
  Calls Try.prog 10 #[.slice A n c] w fun o w'=>o=.returned (.slice A (min n 500) c)∧w=w':=by
 by_cases h:500<n
 ·obtain ⟨b,off,rfl⟩:=hA (by omega)
  obtain ⟨s1,s2⟩:=slice_to b off n c 500 (by omega) (by omega)
  have t1:decide (500<(n:Int))=true:=decide_eq_true (by omega)
  have t1n:decide (500<n)=true:=decide_eq_true h
  have e:min n 500=500:=by omega
  rw [e]
  have s1:∀ W:World,(Instr.slice 22 (.slice (some ⟨b,off,none⟩) n c) none (some (.int .i64 500)) none).run Try.prog W=.ok (.slice (some ⟨b,off,none⟩) 500 c) W:=s1
  have s2:∀ W:World,(Instr.sliceAt 22 (.slice (some ⟨b,off,none⟩) n c) none (some (.int .i64 500)) none).run Try.prog W=.ok (.slice (some ⟨b,off,none⟩) 500 c) W:=s2
  clear e hA
  go_enter Try.func10,Try.ntmps10
  go_wp2_with fail
  go_ret
  exact ⟨rfl,rfl⟩
 ·have t1:decide (500<(n:Int))=false:=decide_eq_false (by omega)
  have t1n:decide (500<n)=false:=decide_eq_false h
  have e:min n 500=n:=by omega
  rw [e]
  clear e hA
  go_enter Try.func10,Try.ntmps10
  go_wp2_with fail
  go_ret
  exact ⟨rfl,rfl⟩
end Go.Proofs.Ytodckfgfbcnkoaa.pktCut
