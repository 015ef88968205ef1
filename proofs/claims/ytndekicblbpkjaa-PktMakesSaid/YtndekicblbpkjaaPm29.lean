/- 2 texts in one. -/
import Derived.Test.YtndekicblbpkjaaPm27
/- Layer 10: headers that may not be. -/
namespace Go.Proofs.Ytndekicblbpkjaa.tcpKn
open Go.ChangeShapes Go.WideShapes Go.ChangeAt Go.RowKit
open Go.Proofs.Ytndekicblbpkjaa.base Go.Proofs.Ytndekicblbpkjaa.sumB Go.Proofs.Ytndekicblbpkjaa.rdrA
set_option linter.unusedVariables false

def okH (sp dp wn ur fl : Int) (no : Nat) : Prop := (0 ≤ sp ∧ sp ≤ 65535) ∧ (0 ≤ dp ∧ dp ≤ 65535) ∧ (0 ≤ wn ∧ wn ≤ 65535) ∧ (0 ≤ ur ∧ ur ≤ 65535) ∧ (0 ≤ fl ∧ fl ≤ 255) ∧ no ≤ 40 ∧ no % 4 = 0
theorem not_ok (sp dp wn ur fl : Int) (no : Nat) (h : ¬ okH sp dp wn ur fl no) : (sp < 0) ∨ (0 ≤ sp ∧ 65535 < sp) ∨ ((0 ≤ sp ∧ sp ≤ 65535) ∧ dp < 0) ∨ ((0 ≤ sp ∧ sp ≤ 65535) ∧ 0 ≤ dp ∧ 65535 < dp) ∨ ((0 ≤ sp ∧ sp ≤ 65535) ∧ (0 ≤ dp ∧ dp ≤ 65535) ∧ wn < 0) ∨ ((0 ≤ sp ∧ sp ≤ 65535) ∧ (0 ≤ dp ∧ dp ≤ 65535) ∧ 0 ≤ wn ∧ 65535 < wn) ∨ ((0 ≤ sp ∧ sp ≤ 65535) ∧ (0 ≤ dp ∧ dp ≤ 65535) ∧ (0 ≤ wn ∧ wn ≤ 65535) ∧ ur < 0) ∨ ((0 ≤ sp ∧ sp ≤ 65535) ∧ (0 ≤ dp ∧ dp ≤ 65535) ∧ (0 ≤ wn ∧ wn ≤ 65535) ∧ 0 ≤ ur ∧ 65535 < ur) ∨ ((0 ≤ sp ∧ sp ≤ 65535) ∧ (0 ≤ dp ∧ dp ≤ 65535) ∧ (0 ≤ wn ∧ wn ≤ 65535) ∧ (0 ≤ ur ∧ ur ≤ 65535) ∧ fl < 0) ∨ ((0 ≤ sp ∧ sp ≤ 65535) ∧ (0 ≤ dp ∧ dp ≤ 65535) ∧ (0 ≤ wn ∧ wn ≤ 65535) ∧ (0 ≤ ur ∧ ur ≤ 65535) ∧ 0 ≤ fl ∧ 255 < fl) ∨ ((0 ≤ sp ∧ sp ≤ 65535) ∧ (0 ≤ dp ∧ dp ≤ 65535) ∧ (0 ≤ wn ∧ wn ≤ 65535) ∧ (0 ≤ ur ∧ ur ≤ 65535) ∧ (0 ≤ fl ∧ fl ≤ 255) ∧ 40 < no) ∨ ((0 ≤ sp ∧ sp ≤ 65535) ∧ (0 ≤ dp ∧ dp ≤ 65535) ∧ (0 ≤ wn ∧ wn ≤ 65535) ∧ (0 ≤ ur ∧ ur ≤ 65535) ∧ (0 ≤ fl ∧ fl ≤ 255) ∧ no ≤ 40 ∧ no % 4 ≠ 0) := by
  have H := Lib.hid h
  clear h
  by_cases a0 : sp < 0
  · exact .inl a0
  by_cases b0 : 65535 < sp
  · exact .inr (.inl ⟨Int.not_lt.1 a0, b0⟩)
  by_cases a1 : dp < 0
  · exact .inr (.inr (.inl ⟨⟨Int.not_lt.1 a0, Int.not_lt.1 b0⟩, a1⟩))
  by_cases b1 : 65535 < dp
  · exact .inr (.inr (.inr (.inl ⟨⟨Int.not_lt.1 a0, Int.not_lt.1 b0⟩, Int.not_lt.1 a1, b1⟩)))
  by_cases a2 : wn < 0
  · exact .inr (.inr (.inr (.inr (.inl ⟨⟨Int.not_lt.1 a0, Int.not_lt.1 b0⟩, ⟨Int.not_lt.1 a1, Int.not_lt.1 b1⟩, a2⟩))))
  by_cases b2 : 65535 < wn
  · exact .inr (.inr (.inr (.inr (.inr (.inl ⟨⟨Int.not_lt.1 a0, Int.not_lt.1 b0⟩, ⟨Int.not_lt.1 a1, Int.not_lt.1 b1⟩, Int.not_lt.1 a2, b2⟩)))))
  by_cases a3 : ur < 0
  · exact .inr (.inr (.inr (.inr (.inr (.inr (.inl ⟨⟨Int.not_lt.1 a0, Int.not_lt.1 b0⟩, ⟨Int.not_lt.1 a1, Int.not_lt.1 b1⟩, ⟨Int.not_lt.1 a2, Int.not_lt.1 b2⟩, a3⟩))))))
  by_cases b3 : 65535 < ur
  · exact .inr (.inr (.inr (.inr (.inr (.inr (.inr (.inl ⟨⟨Int.not_lt.1 a0, Int.not_lt.1 b0⟩, ⟨Int.not_lt.1 a1, Int.not_lt.1 b1⟩, ⟨Int.not_lt.1 a2, Int.not_lt.1 b2⟩, Int.not_lt.1 a3, b3⟩)))))))
  by_cases a4 : fl < 0
  · exact .inr (.inr (.inr (.inr (.inr (.inr (.inr (.inr (.inl ⟨⟨Int.not_lt.1 a0, Int.not_lt.1 b0⟩, ⟨Int.not_lt.1 a1, Int.not_lt.1 b1⟩, ⟨Int.not_lt.1 a2, Int.not_lt.1 b2⟩, ⟨Int.not_lt.1 a3, Int.not_lt.1 b3⟩, a4⟩))))))))
  by_cases b4 : 255 < fl
  · exact .inr (.inr (.inr (.inr (.inr (.inr (.inr (.inr (.inr (.inl ⟨⟨Int.not_lt.1 a0, Int.not_lt.1 b0⟩, ⟨Int.not_lt.1 a1, Int.not_lt.1 b1⟩, ⟨Int.not_lt.1 a2, Int.not_lt.1 b2⟩, ⟨Int.not_lt.1 a3, Int.not_lt.1 b3⟩, Int.not_lt.1 a4, b4⟩)))))))))
  by_cases c0 : 40 < no
  · exact .inr (.inr (.inr (.inr (.inr (.inr (.inr (.inr (.inr (.inr (.inl ⟨⟨Int.not_lt.1 a0, Int.not_lt.1 b0⟩, ⟨Int.not_lt.1 a1, Int.not_lt.1 b1⟩, ⟨Int.not_lt.1 a2, Int.not_lt.1 b2⟩, ⟨Int.not_lt.1 a3, Int.not_lt.1 b3⟩, ⟨Int.not_lt.1 a4, Int.not_lt.1 b4⟩, c0⟩))))))))))
  exact .inr (.inr (.inr (.inr (.inr (.inr (.inr (.inr (.inr (.inr (.inr (⟨⟨Int.not_lt.1 a0, Int.not_lt.1 b0⟩, ⟨Int.not_lt.1 a1, Int.not_lt.1 b1⟩, ⟨Int.not_lt.1 a2, Int.not_lt.1 b2⟩, ⟨Int.not_lt.1 a3, Int.not_lt.1 b3⟩, ⟨Int.not_lt.1 a4, Int.not_lt.1 b4⟩, Nat.not_lt.1 c0, fun e => H.out ⟨⟨Int.not_lt.1 a0, Int.not_lt.1 b0⟩, ⟨Int.not_lt.1 a1, Int.not_lt.1 b1⟩, ⟨Int.not_lt.1 a2, Int.not_lt.1 b2⟩, ⟨Int.not_lt.1 a3, Int.not_lt.1 b3⟩, ⟨Int.not_lt.1 a4, Int.not_lt.1 b4⟩, Nat.not_lt.1 c0, e⟩⟩)))))))))))
set_option maxRecDepth 100000 in
set_option maxHeartbeats 1000000 in
theorem right_no0 (sp dp sq ak fl wn ur : Int) (AO : Option Addr) (no co : Nat) (w : World) (h : sp < 0) :
    Calls Try.prog 92 #[.agg #[.int .i64 sp, .int .i64 dp, .int .u32 sq, .int .u32 ak, .int .i64 fl, .int .i64 wn, .int .i64 ur, .slice AO no co]] w fun e w' => e = .returned (.bool false) ∧ Below w.heap.size w w' := by
  have i0 : ∀ w, (Instr.index 137 (.agg #[.int .i64 sp, .int .i64 65535, .int .i64 dp, .int .i64 65535, .int .i64 wn, .int .i64 65535, .int .i64 ur, .int .i64 65535, .int .i64 fl, .int .i64 255]) (.int .i64 0)).run Try.prog w = .ok (.agg #[.int .i64 sp, .int .i64 65535]) w := fun _ => by kernel_rfl
  have q0 : decide (sp < 0) = true := decide_eq_true (by omega)
  clear h
  have HBX := Lib.hid ((Below.refl w.heap.size w).alloc (Nat.le_refl _) (.cells #[.int .i64 sp, .int .i64 dp, .int .u32 sq, .int .u32 ak, .int .i64 fl, .int .i64 wn, .int .i64 ur, .slice AO no co] 90))
  have BOX := Lib.hid (Blk.new w 90 #[.int .i64 sp, .int .i64 dp, .int .u32 sq, .int .u32 ak, .int .i64 fl, .int .i64 wn, .int .i64 ur, .slice AO no co])
  have HZ := Lib.hid (show (w.alloc (.cells #[.int .i64 sp, .int .i64 dp, .int .u32 sq, .int .u32 ak, .int .i64 fl, .int .i64 wn, .int .i64 ur, .slice AO no co] 90)).heap.size = w.heap.size + 1 by simp)
  go_enter Try.func92, Try.ntmps92
  go_wp2_with fail
  go_loopw [21, 4] (fun i _ wr => ∃ j : Nat, j ≤ 0 ∧ i = .int .i64 j ∧ Below (w.heap.size + 1) (w.alloc (.cells #[.int .i64 sp, .int .i64 dp, .int .u32 sq, .int .u32 ak, .int .i64 fl, .int .i64 wn, .int .i64 ur, .slice AO no co] 90)) wr) (fun i _ _ => 5 - (intOf i).toNat)
  case atStart => exact ⟨0, by omega, rfl, Below.refl _ _⟩
  case round =>
    obtain ⟨j, hj, rfl, hbel⟩ := hrel
    have HB := Lib.hid hbel
    have o7 : wr.cell? ⟨w.heap.size, 7, none⟩ = some (.slice AO no co) := (hbel.cell (p := ⟨w.heap.size, 7, none⟩) (Nat.lt_succ_self _)).trans (BOX.out.cell 7)
    have HS := Lib.hid (show w.heap.size + 1 ≤ wr.heap.size from Nat.le_trans (Nat.le_of_eq HZ.out.symm) hbel.size)
    clear hbel
    have hcase : j = 0 := by omega
    rcases hcase with rfl
    · go_wp2_with fail
      go_ret
      exact ⟨rfl, HBX.out.trans ((HB.out.alloc HS.out _ : Below (w.heap.size + 1) _ _).mono (Nat.le_succ _))⟩
set_option maxRecDepth 100000 in
set_option maxHeartbeats 1000000 in
theorem right_no1 (sp dp sq ak fl wn ur : Int) (AO : Option Addr) (no co : Nat) (w : World) (h : 0 ≤ sp ∧ 65535 < sp) :
    Calls Try.prog 92 #[.agg #[.int .i64 sp, .int .i64 dp, .int .u32 sq, .int .u32 ak, .int .i64 fl, .int .i64 wn, .int .i64 ur, .slice AO no co]] w fun e w' => e = .returned (.bool false) ∧ Below w.heap.size w w' := by
  have i0 : ∀ w, (Instr.index 137 (.agg #[.int .i64 sp, .int .i64 65535, .int .i64 dp, .int .i64 65535, .int .i64 wn, .int .i64 65535, .int .i64 ur, .int .i64 65535, .int .i64 fl, .int .i64 255]) (.int .i64 0)).run Try.prog w = .ok (.agg #[.int .i64 sp, .int .i64 65535]) w := fun _ => by kernel_rfl
  have q0 : decide (sp < 0) = false := decide_eq_false (by omega)
  have p0 : decide (65535 < sp) = true := decide_eq_true (by omega)
  clear h
  have HBX := Lib.hid ((Below.refl w.heap.size w).alloc (Nat.le_refl _) (.cells #[.int .i64 sp, .int .i64 dp, .int .u32 sq, .int .u32 ak, .int .i64 fl, .int .i64 wn, .int .i64 ur, .slice AO no co] 90))
  have BOX := Lib.hid (Blk.new w 90 #[.int .i64 sp, .int .i64 dp, .int .u32 sq, .int .u32 ak, .int .i64 fl, .int .i64 wn, .int .i64 ur, .slice AO no co])
  have HZ := Lib.hid (show (w.alloc (.cells #[.int .i64 sp, .int .i64 dp, .int .u32 sq, .int .u32 ak, .int .i64 fl, .int .i64 wn, .int .i64 ur, .slice AO no co] 90)).heap.size = w.heap.size + 1 by simp)
  go_enter Try.func92, Try.ntmps92
  go_wp2_with fail
  go_loopw [21, 4] (fun i _ wr => ∃ j : Nat, j ≤ 0 ∧ i = .int .i64 j ∧ Below (w.heap.size + 1) (w.alloc (.cells #[.int .i64 sp, .int .i64 dp, .int .u32 sq, .int .u32 ak, .int .i64 fl, .int .i64 wn, .int .i64 ur, .slice AO no co] 90)) wr) (fun i _ _ => 5 - (intOf i).toNat)
  case atStart => exact ⟨0, by omega, rfl, Below.refl _ _⟩
  case round =>
    obtain ⟨j, hj, rfl, hbel⟩ := hrel
    have HB := Lib.hid hbel
    have o7 : wr.cell? ⟨w.heap.size, 7, none⟩ = some (.slice AO no co) := (hbel.cell (p := ⟨w.heap.size, 7, none⟩) (Nat.lt_succ_self _)).trans (BOX.out.cell 7)
    have HS := Lib.hid (show w.heap.size + 1 ≤ wr.heap.size from Nat.le_trans (Nat.le_of_eq HZ.out.symm) hbel.size)
    clear hbel
    have hcase : j = 0 := by omega
    rcases hcase with rfl
    · go_wp2_with fail
      go_ret
      exact ⟨rfl, HBX.out.trans ((HB.out.alloc HS.out _ : Below (w.heap.size + 1) _ _).mono (Nat.le_succ _))⟩
set_option maxRecDepth 100000 in
set_option maxHeartbeats 1000000 in
theorem right_no2 (sp dp sq ak fl wn ur : Int) (AO : Option Addr) (no co : Nat) (w : World) (h : (0 ≤ sp ∧ sp ≤ 65535) ∧ dp < 0) :
    Calls Try.prog 92 #[.agg #[.int .i64 sp, .int .i64 dp, .int .u32 sq, .int .u32 ak, .int .i64 fl, .int .i64 wn, .int .i64 ur, .slice AO no co]] w fun e w' => e = .returned (.bool false) ∧ Below w.heap.size w w' := by
  have i0 : ∀ w, (Instr.index 137 (.agg #[.int .i64 sp, .int .i64 65535, .int .i64 dp, .int .i64 65535, .int .i64 wn, .int .i64 65535, .int .i64 ur, .int .i64 65535, .int .i64 fl, .int .i64 255]) (.int .i64 0)).run Try.prog w = .ok (.agg #[.int .i64 sp, .int .i64 65535]) w := fun _ => by kernel_rfl
  have i1 : ∀ w, (Instr.index 137 (.agg #[.int .i64 sp, .int .i64 65535, .int .i64 dp, .int .i64 65535, .int .i64 wn, .int .i64 65535, .int .i64 ur, .int .i64 65535, .int .i64 fl, .int .i64 255]) (.int .i64 1)).run Try.prog w = .ok (.agg #[.int .i64 dp, .int .i64 65535]) w := fun _ => by kernel_rfl
  have q0 : decide (sp < 0) = false := decide_eq_false (by omega)
  have p0 : decide (65535 < sp) = false := decide_eq_false (by omega)
  have q1 : decide (dp < 0) = true := decide_eq_true (by omega)
  clear h
  have HBX := Lib.hid ((Below.refl w.heap.size w).alloc (Nat.le_refl _) (.cells #[.int .i64 sp, .int .i64 dp, .int .u32 sq, .int .u32 ak, .int .i64 fl, .int .i64 wn, .int .i64 ur, .slice AO no co] 90))
  have BOX := Lib.hid (Blk.new w 90 #[.int .i64 sp, .int .i64 dp, .int .u32 sq, .int .u32 ak, .int .i64 fl, .int .i64 wn, .int .i64 ur, .slice AO no co])
  have HZ := Lib.hid (show (w.alloc (.cells #[.int .i64 sp, .int .i64 dp, .int .u32 sq, .int .u32 ak, .int .i64 fl, .int .i64 wn, .int .i64 ur, .slice AO no co] 90)).heap.size = w.heap.size + 1 by simp)
  go_enter Try.func92, Try.ntmps92
  go_wp2_with fail
  go_loopw [21, 4] (fun i _ wr => ∃ j : Nat, j ≤ 1 ∧ i = .int .i64 j ∧ Below (w.heap.size + 1) (w.alloc (.cells #[.int .i64 sp, .int .i64 dp, .int .u32 sq, .int .u32 ak, .int .i64 fl, .int .i64 wn, .int .i64 ur, .slice AO no co] 90)) wr) (fun i _ _ => 5 - (intOf i).toNat)
  case atStart => exact ⟨0, by omega, rfl, Below.refl _ _⟩
  case round =>
    obtain ⟨j, hj, rfl, hbel⟩ := hrel
    have HB := Lib.hid hbel
    have o7 : wr.cell? ⟨w.heap.size, 7, none⟩ = some (.slice AO no co) := (hbel.cell (p := ⟨w.heap.size, 7, none⟩) (Nat.lt_succ_self _)).trans (BOX.out.cell 7)
    have HS := Lib.hid (show w.heap.size + 1 ≤ wr.heap.size from Nat.le_trans (Nat.le_of_eq HZ.out.symm) hbel.size)
    clear hbel
    have hcase : j = 0 ∨ j = 1 := by omega
    rcases hcase with rfl | rfl
    · go_wp2_with fail
      go_roundw
      case rel => exact ⟨1, by omega, by go_num, HB.out.alloc HS.out _⟩
      case measure => simp [intOf]
    · go_wp2_with fail
      go_ret
      exact ⟨rfl, HBX.out.trans ((HB.out.alloc HS.out _ : Below (w.heap.size + 1) _ _).mono (Nat.le_succ _))⟩
set_option maxRecDepth 100000 in
set_option maxHeartbeats 1000000 in
theorem right_no3 (sp dp sq ak fl wn ur : Int) (AO : Option Addr) (no co : Nat) (w : World) (h : (0 ≤ sp ∧ sp ≤ 65535) ∧ 0 ≤ dp ∧ 65535 < dp) :
    Calls Try.prog 92 #[.agg #[.int .i64 sp, .int .i64 dp, .int .u32 sq, .int .u32 ak, .int .i64 fl, .int .i64 wn, .int .i64 ur, .slice AO no co]] w fun e w' => e = .returned (.bool false) ∧ Below w.heap.size w w' := by
  have i0 : ∀ w, (Instr.index 137 (.agg #[.int .i64 sp, .int .i64 65535, .int .i64 dp, .int .i64 65535, .int .i64 wn, .int .i64 65535, .int .i64 ur, .int .i64 65535, .int .i64 fl, .int .i64 255]) (.int .i64 0)).run Try.prog w = .ok (.agg #[.int .i64 sp, .int .i64 65535]) w := fun _ => by kernel_rfl
  have i1 : ∀ w, (Instr.index 137 (.agg #[.int .i64 sp, .int .i64 65535, .int .i64 dp, .int .i64 65535, .int .i64 wn, .int .i64 65535, .int .i64 ur, .int .i64 65535, .int .i64 fl, .int .i64 255]) (.int .i64 1)).run Try.prog w = .ok (.agg #[.int .i64 dp, .int .i64 65535]) w := fun _ => by kernel_rfl
  have q0 : decide (sp < 0) = false := decide_eq_false (by omega)
  have p0 : decide (65535 < sp) = false := decide_eq_false (by omega)
  have q1 : decide (dp < 0) = false := decide_eq_false (by omega)
  have p1 : decide (65535 < dp) = true := decide_eq_true (by omega)
  clear h
  have HBX := Lib.hid ((Below.refl w.heap.size w).alloc (Nat.le_refl _) (.cells #[.int .i64 sp, .int .i64 dp, .int .u32 sq, .int .u32 ak, .int .i64 fl, .int .i64 wn, .int .i64 ur, .slice AO no co] 90))
  have BOX := Lib.hid (Blk.new w 90 #[.int .i64 sp, .int .i64 dp, .int .u32 sq, .int .u32 ak, .int .i64 fl, .int .i64 wn, .int .i64 ur, .slice AO no co])
  have HZ := Lib.hid (show (w.alloc (.cells #[.int .i64 sp, .int .i64 dp, .int .u32 sq, .int .u32 ak, .int .i64 fl, .int .i64 wn, .int .i64 ur, .slice AO no co] 90)).heap.size = w.heap.size + 1 by simp)
  go_enter Try.func92, Try.ntmps92
  go_wp2_with fail
  go_loopw [21, 4] (fun i _ wr => ∃ j : Nat, j ≤ 1 ∧ i = .int .i64 j ∧ Below (w.heap.size + 1) (w.alloc (.cells #[.int .i64 sp, .int .i64 dp, .int .u32 sq, .int .u32 ak, .int .i64 fl, .int .i64 wn, .int .i64 ur, .slice AO no co] 90)) wr) (fun i _ _ => 5 - (intOf i).toNat)
  case atStart => exact ⟨0, by omega, rfl, Below.refl _ _⟩
  case round =>
    obtain ⟨j, hj, rfl, hbel⟩ := hrel
    have HB := Lib.hid hbel
    have o7 : wr.cell? ⟨w.heap.size, 7, none⟩ = some (.slice AO no co) := (hbel.cell (p := ⟨w.heap.size, 7, none⟩) (Nat.lt_succ_self _)).trans (BOX.out.cell 7)
    have HS := Lib.hid (show w.heap.size + 1 ≤ wr.heap.size from Nat.le_trans (Nat.le_of_eq HZ.out.symm) hbel.size)
    clear hbel
    have hcase : j = 0 ∨ j = 1 := by omega
    rcases hcase with rfl | rfl
    · go_wp2_with fail
      go_roundw
      case rel => exact ⟨1, by omega, by go_num, HB.out.alloc HS.out _⟩
      case measure => simp [intOf]
    · go_wp2_with fail
      go_ret
      exact ⟨rfl, HBX.out.trans ((HB.out.alloc HS.out _ : Below (w.heap.size + 1) _ _).mono (Nat.le_succ _))⟩
set_option maxRecDepth 100000 in
set_option maxHeartbeats 1000000 in
theorem right_no8 (sp dp sq ak fl wn ur : Int) (AO : Option Addr) (no co : Nat) (w : World) (h : (0 ≤ sp ∧ sp ≤ 65535) ∧ (0 ≤ dp ∧ dp ≤ 65535) ∧ (0 ≤ wn ∧ wn ≤ 65535) ∧ (0 ≤ ur ∧ ur ≤ 65535) ∧ fl < 0) :
    Calls Try.prog 92 #[.agg #[.int .i64 sp, .int .i64 dp, .int .u32 sq, .int .u32 ak, .int .i64 fl, .int .i64 wn, .int .i64 ur, .slice AO no co]] w fun e w' => e = .returned (.bool false) ∧ Below w.heap.size w w' := by
  have i0 : ∀ w, (Instr.index 137 (.agg #[.int .i64 sp, .int .i64 65535, .int .i64 dp, .int .i64 65535, .int .i64 wn, .int .i64 65535, .int .i64 ur, .int .i64 65535, .int .i64 fl, .int .i64 255]) (.int .i64 0)).run Try.prog w = .ok (.agg #[.int .i64 sp, .int .i64 65535]) w := fun _ => by kernel_rfl
  have i1 : ∀ w, (Instr.index 137 (.agg #[.int .i64 sp, .int .i64 65535, .int .i64 dp, .int .i64 65535, .int .i64 wn, .int .i64 65535, .int .i64 ur, .int .i64 65535, .int .i64 fl, .int .i64 255]) (.int .i64 1)).run Try.prog w = .ok (.agg #[.int .i64 dp, .int .i64 65535]) w := fun _ => by kernel_rfl
  have i2 : ∀ w, (Instr.index 137 (.agg #[.int .i64 sp, .int .i64 65535, .int .i64 dp, .int .i64 65535, .int .i64 wn, .int .i64 65535, .int .i64 ur, .int .i64 65535, .int .i64 fl, .int .i64 255]) (.int .i64 2)).run Try.prog w = .ok (.agg #[.int .i64 wn, .int .i64 65535]) w := fun _ => by kernel_rfl
  have i3 : ∀ w, (Instr.index 137 (.agg #[.int .i64 sp, .int .i64 65535, .int .i64 dp, .int .i64 65535, .int .i64 wn, .int .i64 65535, .int .i64 ur, .int .i64 65535, .int .i64 fl, .int .i64 255]) (.int .i64 3)).run Try.prog w = .ok (.agg #[.int .i64 ur, .int .i64 65535]) w := fun _ => by kernel_rfl
  have i4 : ∀ w, (Instr.index 137 (.agg #[.int .i64 sp, .int .i64 65535, .int .i64 dp, .int .i64 65535, .int .i64 wn, .int .i64 65535, .int .i64 ur, .int .i64 65535, .int .i64 fl, .int .i64 255]) (.int .i64 4)).run Try.prog w = .ok (.agg #[.int .i64 fl, .int .i64 255]) w := fun _ => by kernel_rfl
  have q0 : decide (sp < 0) = false := decide_eq_false (by omega)
  have p0 : decide (65535 < sp) = false := decide_eq_false (by omega)
  have q1 : decide (dp < 0) = false := decide_eq_false (by omega)
  have p1 : decide (65535 < dp) = false := decide_eq_false (by omega)
  have q2 : decide (wn < 0) = false := decide_eq_false (by omega)
  have p2 : decide (65535 < wn) = false := decide_eq_false (by omega)
  have q3 : decide (ur < 0) = false := decide_eq_false (by omega)
  have p3 : decide (65535 < ur) = false := decide_eq_false (by omega)
  have q4 : decide (fl < 0) = true := decide_eq_true (by omega)
  clear h
  have HBX := Lib.hid ((Below.refl w.heap.size w).alloc (Nat.le_refl _) (.cells #[.int .i64 sp, .int .i64 dp, .int .u32 sq, .int .u32 ak, .int .i64 fl, .int .i64 wn, .int .i64 ur, .slice AO no co] 90))
  have BOX := Lib.hid (Blk.new w 90 #[.int .i64 sp, .int .i64 dp, .int .u32 sq, .int .u32 ak, .int .i64 fl, .int .i64 wn, .int .i64 ur, .slice AO no co])
  have HZ := Lib.hid (show (w.alloc (.cells #[.int .i64 sp, .int .i64 dp, .int .u32 sq, .int .u32 ak, .int .i64 fl, .int .i64 wn, .int .i64 ur, .slice AO no co] 90)).heap.size = w.heap.size + 1 by simp)
  go_enter Try.func92, Try.ntmps92
  go_wp2_with fail
  go_loopw [21, 4] (fun i _ wr => ∃ j : Nat, j ≤ 4 ∧ i = .int .i64 j ∧ Below (w.heap.size + 1) (w.alloc (.cells #[.int .i64 sp, .int .i64 dp, .int .u32 sq, .int .u32 ak, .int .i64 fl, .int .i64 wn, .int .i64 ur, .slice AO no co] 90)) wr) (fun i _ _ => 5 - (intOf i).toNat)
  case atStart => exact ⟨0, by omega, rfl, Below.refl _ _⟩
  case round =>
    obtain ⟨j, hj, rfl, hbel⟩ := hrel
    have HB := Lib.hid hbel
    have o7 : wr.cell? ⟨w.heap.size, 7, none⟩ = some (.slice AO no co) := (hbel.cell (p := ⟨w.heap.size, 7, none⟩) (Nat.lt_succ_self _)).trans (BOX.out.cell 7)
    have HS := Lib.hid (show w.heap.size + 1 ≤ wr.heap.size from Nat.le_trans (Nat.le_of_eq HZ.out.symm) hbel.size)
    clear hbel
    have hcase : j = 0 ∨ j = 1 ∨ j = 2 ∨ j = 3 ∨ j = 4 := by omega
    rcases hcase with rfl | rfl | rfl | rfl | rfl
    · go_wp2_with fail
      go_roundw
      case rel => exact ⟨1, by omega, by go_num, HB.out.alloc HS.out _⟩
      case measure => simp [intOf]
    · go_wp2_with fail
      go_roundw
      case rel => exact ⟨2, by omega, by go_num, HB.out.alloc HS.out _⟩
      case measure => simp [intOf]
    · go_wp2_with fail
      go_roundw
      case rel => exact ⟨3, by omega, by go_num, HB.out.alloc HS.out _⟩
      case measure => simp [intOf]
    · go_wp2_with fail
      go_roundw
      case rel => exact ⟨4, by omega, by go_num, HB.out.alloc HS.out _⟩
      case measure => simp [intOf]
    · go_wp2_with fail
      go_ret
      exact ⟨rfl, HBX.out.trans ((HB.out.alloc HS.out _ : Below (w.heap.size + 1) _ _).mono (Nat.le_succ _))⟩
set_option maxRecDepth 100000 in
set_option maxHeartbeats 1000000 in
theorem right_no9 (sp dp sq ak fl wn ur : Int) (AO : Option Addr) (no co : Nat) (w : World) (h : (0 ≤ sp ∧ sp ≤ 65535) ∧ (0 ≤ dp ∧ dp ≤ 65535) ∧ (0 ≤ wn ∧ wn ≤ 65535) ∧ (0 ≤ ur ∧ ur ≤ 65535) ∧ 0 ≤ fl ∧ 255 < fl) :
    Calls Try.prog 92 #[.agg #[.int .i64 sp, .int .i64 dp, .int .u32 sq, .int .u32 ak, .int .i64 fl, .int .i64 wn, .int .i64 ur, .slice AO no co]] w fun e w' => e = .returned (.bool false) ∧ Below w.heap.size w w' := by
  have i0 : ∀ w, (Instr.index 137 (.agg #[.int .i64 sp, .int .i64 65535, .int .i64 dp, .int .i64 65535, .int .i64 wn, .int .i64 65535, .int .i64 ur, .int .i64 65535, .int .i64 fl, .int .i64 255]) (.int .i64 0)).run Try.prog w = .ok (.agg #[.int .i64 sp, .int .i64 65535]) w := fun _ => by kernel_rfl
  have i1 : ∀ w, (Instr.index 137 (.agg #[.int .i64 sp, .int .i64 65535, .int .i64 dp, .int .i64 65535, .int .i64 wn, .int .i64 65535, .int .i64 ur, .int .i64 65535, .int .i64 fl, .int .i64 255]) (.int .i64 1)).run Try.prog w = .ok (.agg #[.int .i64 dp, .int .i64 65535]) w := fun _ => by kernel_rfl
  have i2 : ∀ w, (Instr.index 137 (.agg #[.int .i64 sp, .int .i64 65535, .int .i64 dp, .int .i64 65535, .int .i64 wn, .int .i64 65535, .int .i64 ur, .int .i64 65535, .int .i64 fl, .int .i64 255]) (.int .i64 2)).run Try.prog w = .ok (.agg #[.int .i64 wn, .int .i64 65535]) w := fun _ => by kernel_rfl
  have i3 : ∀ w, (Instr.index 137 (.agg #[.int .i64 sp, .int .i64 65535, .int .i64 dp, .int .i64 65535, .int .i64 wn, .int .i64 65535, .int .i64 ur, .int .i64 65535, .int .i64 fl, .int .i64 255]) (.int .i64 3)).run Try.prog w = .ok (.agg #[.int .i64 ur, .int .i64 65535]) w := fun _ => by kernel_rfl
  have i4 : ∀ w, (Instr.index 137 (.agg #[.int .i64 sp, .int .i64 65535, .int .i64 dp, .int .i64 65535, .int .i64 wn, .int .i64 65535, .int .i64 ur, .int .i64 65535, .int .i64 fl, .int .i64 255]) (.int .i64 4)).run Try.prog w = .ok (.agg #[.int .i64 fl, .int .i64 255]) w := fun _ => by kernel_rfl
  have q0 : decide (sp < 0) = false := decide_eq_false (by omega)
  have p0 : decide (65535 < sp) = false := decide_eq_false (by omega)
  have q1 : decide (dp < 0) = false := decide_eq_false (by omega)
  have p1 : decide (65535 < dp) = false := decide_eq_false (by omega)
  have q2 : decide (wn < 0) = false := decide_eq_false (by omega)
  have p2 : decide (65535 < wn) = false := decide_eq_false (by omega)
  have q3 : decide (ur < 0) = false := decide_eq_false (by omega)
  have p3 : decide (65535 < ur) = false := decide_eq_false (by omega)
  have q4 : decide (fl < 0) = false := decide_eq_false (by omega)
  have p4 : decide (255 < fl) = true := decide_eq_true (by omega)
  clear h
  have HBX := Lib.hid ((Below.refl w.heap.size w).alloc (Nat.le_refl _) (.cells #[.int .i64 sp, .int .i64 dp, .int .u32 sq, .int .u32 ak, .int .i64 fl, .int .i64 wn, .int .i64 ur, .slice AO no co] 90))
  have BOX := Lib.hid (Blk.new w 90 #[.int .i64 sp, .int .i64 dp, .int .u32 sq, .int .u32 ak, .int .i64 fl, .int .i64 wn, .int .i64 ur, .slice AO no co])
  have HZ := Lib.hid (show (w.alloc (.cells #[.int .i64 sp, .int .i64 dp, .int .u32 sq, .int .u32 ak, .int .i64 fl, .int .i64 wn, .int .i64 ur, .slice AO no co] 90)).heap.size = w.heap.size + 1 by simp)
  go_enter Try.func92, Try.ntmps92
  go_wp2_with fail
  go_loopw [21, 4] (fun i _ wr => ∃ j : Nat, j ≤ 4 ∧ i = .int .i64 j ∧ Below (w.heap.size + 1) (w.alloc (.cells #[.int .i64 sp, .int .i64 dp, .int .u32 sq, .int .u32 ak, .int .i64 fl, .int .i64 wn, .int .i64 ur, .slice AO no co] 90)) wr) (fun i _ _ => 5 - (intOf i).toNat)
  case atStart => exact ⟨0, by omega, rfl, Below.refl _ _⟩
  case round =>
    obtain ⟨j, hj, rfl, hbel⟩ := hrel
    have HB := Lib.hid hbel
    have o7 : wr.cell? ⟨w.heap.size, 7, none⟩ = some (.slice AO no co) := (hbel.cell (p := ⟨w.heap.size, 7, none⟩) (Nat.lt_succ_self _)).trans (BOX.out.cell 7)
    have HS := Lib.hid (show w.heap.size + 1 ≤ wr.heap.size from Nat.le_trans (Nat.le_of_eq HZ.out.symm) hbel.size)
    clear hbel
    have hcase : j = 0 ∨ j = 1 ∨ j = 2 ∨ j = 3 ∨ j = 4 := by omega
    rcases hcase with rfl | rfl | rfl | rfl | rfl
    · go_wp2_with fail
      go_roundw
      case rel => exact ⟨1, by omega, by go_num, HB.out.alloc HS.out _⟩
      case measure => simp [intOf]
    · go_wp2_with fail
      go_roundw
      case rel => exact ⟨2, by omega, by go_num, HB.out.alloc HS.out _⟩
      case measure => simp [intOf]
    · go_wp2_with fail
      go_roundw
      case rel => exact ⟨3, by omega, by go_num, HB.out.alloc HS.out _⟩
      case measure => simp [intOf]
    · go_wp2_with fail
      go_roundw
      case rel => exact ⟨4, by omega, by go_num, HB.out.alloc HS.out _⟩
      case measure => simp [intOf]
    · go_wp2_with fail
      go_ret
      exact ⟨rfl, HBX.out.trans ((HB.out.alloc HS.out _ : Below (w.heap.size + 1) _ _).mono (Nat.le_succ _))⟩
theorem right_no (sp dp fl : Int) (w : World) (h : ¬ okH sp dp 1024 0 fl 0) :
    Calls Try.prog 92 #[.agg #[.int .i64 sp, .int .i64 dp, .int .u32 0, .int .u32 0, .int .i64 fl, .int .i64 1024, .int .i64 0, .slice none 0 0]] w fun e w' => e = .returned (.bool false) ∧ Below w.heap.size w w' := by
  rcases not_ok sp dp 1024 0 fl 0 h with h | h | h | h | h | h | h | h | h | h | h | h
  · exact right_no0 sp dp 0 0 fl 1024 0 none 0 0 w h
  · exact right_no1 sp dp 0 0 fl 1024 0 none 0 0 w h
  · exact right_no2 sp dp 0 0 fl 1024 0 none 0 0 w h
  · exact right_no3 sp dp 0 0 fl 1024 0 none 0 0 w h
  · omega
  · omega
  · omega
  · omega
  · exact right_no8 sp dp 0 0 fl 1024 0 none 0 0 w h
  · exact right_no9 sp dp 0 0 fl 1024 0 none 0 0 w h
  · omega
  · omega
end Go.Proofs.Ytndekicblbpkjaa.tcpKn
/- Layer 10: the law and the code on headers that may not be. -/
namespace Go.Proofs.Ytndekicblbpkjaa.tcpMn
open Go.ChangeShapes Go.WideShapes Go.ChangeAt Go.RowKit
open Go.Proofs.Ytndekicblbpkjaa.base Go.Proofs.Ytndekicblbpkjaa.rdrA Go.Proofs.Ytndekicblbpkjaa.tcpKn
set_option linter.unusedVariables false

theorem bytes_wrong (sp dp fl : Int) (A A2 : Option Addr) (n c n2 c2 : Nat) (w : World) (h : ¬ okH sp dp 1024 0 fl 0) :
    Calls Try.prog 67 #[.agg #[.int .i64 sp, .int .i64 dp, .int .u32 0, .int .u32 0, .int .i64 fl, .int .i64 1024, .int .i64 0, .slice none 0 0], .slice A n c, .slice A2 n2 c2] w fun e w' => e = .returned (.tuple #[.slice none 0 0, .int .i64 1]) ∧ Below w.heap.size w w' := by
  have HB0 := Lib.hid (show Below w.heap.size w (w.alloc (.cells #[.int .i64 sp, .int .i64 dp, .int .u32 0, .int .u32 0, .int .i64 fl, .int .i64 1024, .int .i64 0, .slice none 0 0] 90)) from (Below.refl _ _).alloc (Nat.le_refl _) _)
  have H := Lib.hid (fun w => right_no sp dp fl w h)
  clear h
  go_enter Try.func67, Try.ntmps67
  go_wp2_with fail
  refine (H.out _).mono ?_
  rintro e w' ⟨rfl, hb⟩
  have HB := Lib.hid (bel_call HB0.out hb)
  go_wp2_with fail
  go_ret2
  exact ⟨rfl, HB.out⟩
end Go.Proofs.Ytndekicblbpkjaa.tcpMn
