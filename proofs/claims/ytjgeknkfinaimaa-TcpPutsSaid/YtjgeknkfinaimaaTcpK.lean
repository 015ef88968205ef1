/- Layer 10: headers that may not be. -/
import Derived.Test.YtjgeknkfinaimaaTcpJ
namespace Go.Proofs.Ytjgeknkfinaimaa.tcpK
open Go.ChangeShapes Go.WideShapes Go.ChangeAt Go.RowKit
open Go.Proofs.Ytjgeknkfinaimaa.base Go.Proofs.Ytjgeknkfinaimaa.sumA Go.Proofs.Ytjgeknkfinaimaa.sumB Go.Proofs.Ytjgeknkfinaimaa.octA Go.Proofs.Ytjgeknkfinaimaa.octB Go.Proofs.Ytjgeknkfinaimaa.octC Go.Proofs.Ytjgeknkfinaimaa.octE Go.Proofs.Ytjgeknkfinaimaa.octF Go.Proofs.Ytjgeknkfinaimaa.octK Go.Proofs.Ytjgeknkfinaimaa.rdrA Go.Proofs.Ytjgeknkfinaimaa.udpA Go.Proofs.Ytjgeknkfinaimaa.udpE Go.Proofs.Ytjgeknkfinaimaa.tcpC Go.Proofs.Ytjgeknkfinaimaa.tcpD Go.Proofs.Ytjgeknkfinaimaa.tcpE Go.Proofs.Ytjgeknkfinaimaa.tcpI Go.Proofs.Ytjgeknkfinaimaa.tcpJ
set_option linter.unusedVariables false

/-- May a header be? -/
def okH (sp dp wn ur fl : Int) (no : Nat) : Prop := (0 ≤ sp ∧ sp ≤ 65535) ∧ (0 ≤ dp ∧ dp ≤ 65535) ∧ (0 ≤ wn ∧ wn ≤ 65535) ∧ (0 ≤ ur ∧ ur ≤ 65535) ∧ (0 ≤ fl ∧ fl ≤ 255) ∧ no ≤ 40 ∧ no % 4 = 0
theorem not_ok (sp dp wn ur fl : Int) (no : Nat) (h : ¬ okH sp dp wn ur fl no) : (sp < 0) ∨ (0 ≤ sp ∧ 65535 < sp) ∨ ((0 ≤ sp ∧ sp ≤ 65535) ∧ dp < 0) ∨ ((0 ≤ sp ∧ sp ≤ 65535) ∧ 0 ≤ dp ∧ 65535 < dp) ∨ ((0 ≤ sp ∧ sp ≤ 65535) ∧ (0 ≤ dp ∧ dp ≤ 65535) ∧ wn < 0) ∨ ((0 ≤ sp ∧ sp ≤ 65535) ∧ (0 ≤ dp ∧ dp ≤ 65535) ∧ 0 ≤ wn ∧ 65535 < wn) ∨ ((0 ≤ sp ∧ sp ≤ 65535) ∧ (0 ≤ dp ∧ dp ≤ 65535) ∧ (0 ≤ wn ∧ wn ≤ 65535) ∧ ur < 0) ∨ ((0 ≤ sp ∧ sp ≤ 65535) ∧ (0 ≤ dp ∧ dp ≤ 65535) ∧ (0 ≤ wn ∧ wn ≤ 65535) ∧ 0 ≤ ur ∧ 65535 < ur) ∨ ((0 ≤ sp ∧ sp ≤ 65535) ∧ (0 ≤ dp ∧ dp ≤ 65535) ∧ (0 ≤ wn ∧ wn ≤ 65535) ∧ (0 ≤ ur ∧ ur ≤ 65535) ∧ fl < 0) ∨ ((0 ≤ sp ∧ sp ≤ 65535) ∧ (0 ≤ dp ∧ dp ≤ 65535) ∧ (0 ≤ wn ∧ wn ≤ 65535) ∧ (0 ≤ ur ∧ ur ≤ 65535) ∧ 0 ≤ fl ∧ 255 < fl) ∨ ((0 ≤ sp ∧ sp ≤ 65535) ∧ (0 ≤ dp ∧ dp ≤ 65535) ∧ (0 ≤ wn ∧ wn ≤ 65535) ∧ (0 ≤ ur ∧ ur ≤ 65535) ∧ (0 ≤ fl ∧ fl ≤ 255) ∧ 40 < no) ∨ ((0 ≤ sp ∧ sp ≤ 65535) ∧ (0 ≤ dp ∧ dp ≤ 65535) ∧ (0 ≤ wn ∧ wn ≤ 65535) ∧ (0 ≤ ur ∧ ur ≤ 65535) ∧ (0 ≤ fl ∧ fl ≤ 255) ∧ no ≤ 40 ∧ no % 4 ≠ 0) := by
  have H := Lib.hid h
  clear h
  by_cases a0 : sp < 0
  · exact .inl a0
  by_cases b0 : 65535 < sp
  · exact .inr (.inl ⟨Int.not_lt.1 a0, b0⟩)
  by_cases a1 : dp < 0
  · exact .inr (.inr (.inl ⟨⟨Int.not_lt.1 a0, Int.not_lt.1 b0⟩, a1⟩))
  by_cases b1 : 65535 < dp
  · exact .inr (.inr (.inr (.inl ⟨⟨Int.not_lt.1 a0, Int.not_lt.1 b0⟩, Int.not_lt.1 a1, b1⟩)))
  by_cases a2 : wn < 0
  · exact .inr (.inr (.inr (.inr (.inl ⟨⟨Int.not_lt.1 a0, Int.not_lt.1 b0⟩, ⟨Int.not_lt.1 a1, Int.not_lt.1 b1⟩, a2⟩))))
  by_cases b2 : 65535 < wn
  · exact .inr (.inr (.inr (.inr (.inr (.inl ⟨⟨Int.not_lt.1 a0, Int.not_lt.1 b0⟩, ⟨Int.not_lt.1 a1, Int.not_lt.1 b1⟩, Int.not_lt.1 a2, b2⟩)))))
  by_cases a3 : ur < 0
  · exact .inr (.inr (.inr (.inr (.inr (.inr (.inl ⟨⟨Int.not_lt.1 a0, Int.not_lt.1 b0⟩, ⟨Int.not_lt.1 a1, Int.not_lt.1 b1⟩, ⟨Int.not_lt.1 a2, Int.not_lt.1 b2⟩, a3⟩))))))
  by_cases b3 : 65535 < ur
  · exact .inr (.inr (.inr (.inr (.inr (.inr (.inr (.inl ⟨⟨Int.not_lt.1 a0, Int.not_lt.1 b0⟩, ⟨Int.not_lt.1 a1, Int.not_lt.1 b1⟩, ⟨Int.not_lt.1 a2, Int.not_lt.1 b2⟩, Int.not_lt.1 a3, b3⟩)))))))
  by_cases a4 : fl < 0
  · exact .inr (.inr (.inr (.inr (.inr (.inr (.inr (.inr (.inl ⟨⟨Int.not_lt.1 a0, Int.not_lt.1 b0⟩, ⟨Int.not_lt.1 a1, Int.not_lt.1 b1⟩, ⟨Int.not_lt.1 a2, Int.not_lt.1 b2⟩, ⟨Int.not_lt.1 a3, Int.not_lt.1 b3⟩, a4⟩))))))))
  by_cases b4 : 255 < fl
  · exact .inr (.inr (.inr (.inr (.inr (.inr (.inr (.inr (.inr (.inl ⟨⟨Int.not_lt.1 a0, Int.not_lt.1 b0⟩, ⟨Int.not_lt.1 a1, Int.not_lt.1 b1⟩, ⟨Int.not_lt.1 a2, Int.not_lt.1 b2⟩, ⟨Int.not_lt.1 a3, Int.not_lt.1 b3⟩, Int.not_lt.1 a4, b4⟩)))))))))
  by_cases c0 : 40 < no
  · exact .inr (.inr (.inr (.inr (.inr (.inr (.inr (.inr (.inr (.inr (.inl ⟨⟨Int.not_lt.1 a0, Int.not_lt.1 b0⟩, ⟨Int.not_lt.1 a1, Int.not_lt.1 b1⟩, ⟨Int.not_lt.1 a2, Int.not_lt.1 b2⟩, ⟨Int.not_lt.1 a3, Int.not_lt.1 b3⟩, ⟨Int.not_lt.1 a4, Int.not_lt.1 b4⟩, c0⟩))))))))))
  exact .inr (.inr (.inr (.inr (.inr (.inr (.inr (.inr (.inr (.inr (.inr (⟨⟨Int.not_lt.1 a0, Int.not_lt.1 b0⟩, ⟨Int.not_lt.1 a1, Int.not_lt.1 b1⟩, ⟨Int.not_lt.1 a2, Int.not_lt.1 b2⟩, ⟨Int.not_lt.1 a3, Int.not_lt.1 b3⟩, ⟨Int.not_lt.1 a4, Int.not_lt.1 b4⟩, Nat.not_lt.1 c0, fun e => H.out ⟨⟨Int.not_lt.1 a0, Int.not_lt.1 b0⟩, ⟨Int.not_lt.1 a1, Int.not_lt.1 b1⟩, ⟨Int.not_lt.1 a2, Int.not_lt.1 b2⟩, ⟨Int.not_lt.1 a3, Int.not_lt.1 b3⟩, ⟨Int.not_lt.1 a4, Int.not_lt.1 b4⟩, Nat.not_lt.1 c0, e⟩⟩)))))))))))
set_option maxRecDepth 100000 in
set_option maxHeartbeats 1000000 in
theorem right_no0 (sp dp sq ak fl wn ur : Int) (AO : Option Addr) (no co : Nat) (w : World) (h : sp < 0) :
    Calls Try.prog 24 #[.agg #[.int .i64 sp, .int .i64 dp, .int .u32 sq, .int .u32 ak, .int .i64 fl, .int .i64 wn, .int .i64 ur, .slice AO no co]] w fun e w' => e = .returned (.bool false) ∧ Below w.heap.size w w' := by
  have i0 : ∀ w, (Instr.index 67 (.agg #[.int .i64 sp, .int .i64 65535, .int .i64 dp, .int .i64 65535, .int .i64 wn, .int .i64 65535, .int .i64 ur, .int .i64 65535, .int .i64 fl, .int .i64 255]) (.int .i64 0)).run Try.prog w = .ok (.agg #[.int .i64 sp, .int .i64 65535]) w := fun _ => by kernel_rfl
  have q0 : decide (sp < 0) = true := decide_eq_true (by omega)
  clear h
  have HBX := Lib.hid ((Below.refl w.heap.size w).alloc (Nat.le_refl _) (.cells #[.int .i64 sp, .int .i64 dp, .int .u32 sq, .int .u32 ak, .int .i64 fl, .int .i64 wn, .int .i64 ur, .slice AO no co] 40))
  have BOX := Lib.hid (Blk.new w 40 #[.int .i64 sp, .int .i64 dp, .int .u32 sq, .int .u32 ak, .int .i64 fl, .int .i64 wn, .int .i64 ur, .slice AO no co])
  have HZ := Lib.hid (show (w.alloc (.cells #[.int .i64 sp, .int .i64 dp, .int .u32 sq, .int .u32 ak, .int .i64 fl, .int .i64 wn, .int .i64 ur, .slice AO no co] 40)).heap.size = w.heap.size + 1 by simp)
  go_enter Try.func24, Try.ntmps24
  go_wp2_with fail
  go_loopw [21, 4] (fun i _ wr => ∃ j : Nat, j ≤ 0 ∧ i = .int .i64 j ∧ Below (w.heap.size + 1) (w.alloc (.cells #[.int .i64 sp, .int .i64 dp, .int .u32 sq, .int .u32 ak, .int .i64 fl, .int .i64 wn, .int .i64 ur, .slice AO no co] 40)) wr) (fun i _ _ => 5 - (intOf i).toNat)
  case atStart => exact ⟨0, by omega, rfl, Below.refl _ _⟩
  case round =>
    obtain ⟨j, hj, rfl, hbel⟩ := hrel
    have HB := Lib.hid hbel
    have o7 : wr.cell? ⟨w.heap.size, 7, none⟩ = some (.slice AO no co) := (hbel.cell (p := ⟨w.heap.size, 7, none⟩) (Nat.lt_succ_self _)).trans (BOX.out.cell 7)
    have HS := Lib.hid (show w.heap.size + 1 ≤ wr.heap.size from Nat.le_trans (Nat.le_of_eq HZ.out.symm) hbel.size)
    clear hbel
    have hcase : j = 0 := by omega
    rcases hcase with rfl
    · go_wp2_with fail
      go_ret
      exact ⟨rfl, HBX.out.trans ((HB.out.alloc HS.out _ : Below (w.heap.size + 1) _ _).mono (Nat.le_succ _))⟩
set_option maxRecDepth 100000 in
set_option maxHeartbeats 1000000 in
theorem right_no1 (sp dp sq ak fl wn ur : Int) (AO : Option Addr) (no co : Nat) (w : World) (h : 0 ≤ sp ∧ 65535 < sp) :
    Calls Try.prog 24 #[.agg #[.int .i64 sp, .int .i64 dp, .int .u32 sq, .int .u32 ak, .int .i64 fl, .int .i64 wn, .int .i64 ur, .slice AO no co]] w fun e w' => e = .returned (.bool false) ∧ Below w.heap.size w w' := by
  have i0 : ∀ w, (Instr.index 67 (.agg #[.int .i64 sp, .int .i64 65535, .int .i64 dp, .int .i64 65535, .int .i64 wn, .int .i64 65535, .int .i64 ur, .int .i64 65535, .int .i64 fl, .int .i64 255]) (.int .i64 0)).run Try.prog w = .ok (.agg #[.int .i64 sp, .int .i64 65535]) w := fun _ => by kernel_rfl
  have q0 : decide (sp < 0) = false := decide_eq_false (by omega)
  have p0 : decide (65535 < sp) = true := decide_eq_true (by omega)
  clear h
  have HBX := Lib.hid ((Below.refl w.heap.size w).alloc (Nat.le_refl _) (.cells #[.int .i64 sp, .int .i64 dp, .int .u32 sq, .int .u32 ak, .int .i64 fl, .int .i64 wn, .int .i64 ur, .slice AO no co] 40))
  have BOX := Lib.hid (Blk.new w 40 #[.int .i64 sp, .int .i64 dp, .int .u32 sq, .int .u32 ak, .int .i64 fl, .int .i64 wn, .int .i64 ur, .slice AO no co])
  have HZ := Lib.hid (show (w.alloc (.cells #[.int .i64 sp, .int .i64 dp, .int .u32 sq, .int .u32 ak, .int .i64 fl, .int .i64 wn, .int .i64 ur, .slice AO no co] 40)).heap.size = w.heap.size + 1 by simp)
  go_enter Try.func24, Try.ntmps24
  go_wp2_with fail
  go_loopw [21, 4] (fun i _ wr => ∃ j : Nat, j ≤ 0 ∧ i = .int .i64 j ∧ Below (w.heap.size + 1) (w.alloc (.cells #[.int .i64 sp, .int .i64 dp, .int .u32 sq, .int .u32 ak, .int .i64 fl, .int .i64 wn, .int .i64 ur, .slice AO no co] 40)) wr) (fun i _ _ => 5 - (intOf i).toNat)
  case atStart => exact ⟨0, by omega, rfl, Below.refl _ _⟩
  case round =>
    obtain ⟨j, hj, rfl, hbel⟩ := hrel
    have HB := Lib.hid hbel
    have o7 : wr.cell? ⟨w.heap.size, 7, none⟩ = some (.slice AO no co) := (hbel.cell (p := ⟨w.heap.size, 7, none⟩) (Nat.lt_succ_self _)).trans (BOX.out.cell 7)
    have HS := Lib.hid (show w.heap.size + 1 ≤ wr.heap.size from Nat.le_trans (Nat.le_of_eq HZ.out.symm) hbel.size)
    clear hbel
    have hcase : j = 0 := by omega
    rcases hcase with rfl
    · go_wp2_with fail
      go_ret
      exact ⟨rfl, HBX.out.trans ((HB.out.alloc HS.out _ : Below (w.heap.size + 1) _ _).mono (Nat.le_succ _))⟩
set_option maxRecDepth 100000 in
set_option maxHeartbeats 1000000 in
theorem right_no2 (sp dp sq ak fl wn ur : Int) (AO : Option Addr) (no co : Nat) (w : World) (h : (0 ≤ sp ∧ sp ≤ 65535) ∧ dp < 0) :
    Calls Try.prog 24 #[.agg #[.int .i64 sp, .int .i64 dp, .int .u32 sq, .int .u32 ak, .int .i64 fl, .int .i64 wn, .int .i64 ur, .slice AO no co]] w fun e w' => e = .returned (.bool false) ∧ Below w.heap.size w w' := by
  have i0 : ∀ w, (Instr.index 67 (.agg #[.int .i64 sp, .int .i64 65535, .int .i64 dp, .int .i64 65535, .int .i64 wn, .int .i64 65535, .int .i64 ur, .int .i64 65535, .int .i64 fl, .int .i64 255]) (.int .i64 0)).run Try.prog w = .ok (.agg #[.int .i64 sp, .int .i64 65535]) w := fun _ => by kernel_rfl
  have i1 : ∀ w, (Instr.index 67 (.agg #[.int .i64 sp, .int .i64 65535, .int .i64 dp, .int .i64 65535, .int .i64 wn, .int .i64 65535, .int .i64 ur, .int .i64 65535, .int .i64 fl, .int .i64 255]) (.int .i64 1)).run Try.prog w = .ok (.agg #[.int .i64 dp, .int .i64 65535]) w := fun _ => by kernel_rfl
  have q0 : decide (sp < 0) = false := decide_eq_false (by omega)
  have p0 : decide (65535 < sp) = false := decide_eq_false (by omega)
  have q1 : decide (dp < 0) = true := decide_eq_true (by omega)
  clear h
  have HBX := Lib.hid ((Below.refl w.heap.size w).alloc (Nat.le_refl _) (.cells #[.int .i64 sp, .int .i64 dp, .int .u32 sq, .int .u32 ak, .int .i64 fl, .int .i64 wn, .int .i64 ur, .slice AO no co] 40))
  have BOX := Lib.hid (Blk.new w 40 #[.int .i64 sp, .int .i64 dp, .int .u32 sq, .int .u32 ak, .int .i64 fl, .int .i64 wn, .int .i64 ur, .slice AO no co])
  have HZ := Lib.hid (show (w.alloc (.cells #[.int .i64 sp, .int .i64 dp, .int .u32 sq, .int .u32 ak, .int .i64 fl, .int .i64 wn, .int .i64 ur, .slice AO no co] 40)).heap.size = w.heap.size + 1 by simp)
  go_enter Try.func24, Try.ntmps24
  go_wp2_with fail
  go_loopw [21, 4] (fun i _ wr => ∃ j : Nat, j ≤ 1 ∧ i = .int .i64 j ∧ Below (w.heap.size + 1) (w.alloc (.cells #[.int .i64 sp, .int .i64 dp, .int .u32 sq, .int .u32 ak, .int .i64 fl, .int .i64 wn, .int .i64 ur, .slice AO no co] 40)) wr) (fun i _ _ => 5 - (intOf i).toNat)
  case atStart => exact ⟨0, by omega, rfl, Below.refl _ _⟩
  case round =>
    obtain ⟨j, hj, rfl, hbel⟩ := hrel
    have HB := Lib.hid hbel
    have o7 : wr.cell? ⟨w.heap.size, 7, none⟩ = some (.slice AO no co) := (hbel.cell (p := ⟨w.heap.size, 7, none⟩) (Nat.lt_succ_self _)).trans (BOX.out.cell 7)
    have HS := Lib.hid (show w.heap.size + 1 ≤ wr.heap.size from Nat.le_trans (Nat.le_of_eq HZ.out.symm) hbel.size)
    clear hbel
    have hcase : j = 0 ∨ j = 1 := by omega
    rcases hcase with rfl | rfl
    · go_wp2_with fail
      go_roundw
      case rel => exact ⟨1, by omega, by go_num, HB.out.alloc HS.out _⟩
      case measure => simp [intOf]
    · go_wp2_with fail
      go_ret
      exact ⟨rfl, HBX.out.trans ((HB.out.alloc HS.out _ : Below (w.heap.size + 1) _ _).mono (Nat.le_succ _))⟩
set_option maxRecDepth 100000 in
set_option maxHeartbeats 1000000 in
theorem right_no3 (sp dp sq ak fl wn ur : Int) (AO : Option Addr) (no co : Nat) (w : World) (h : (0 ≤ sp ∧ sp ≤ 65535) ∧ 0 ≤ dp ∧ 65535 < dp) :
    Calls Try.prog 24 #[.agg #[.int .i64 sp, .int .i64 dp, .int .u32 sq, .int .u32 ak, .int .i64 fl, .int .i64 wn, .int .i64 ur, .slice AO no co]] w fun e w' => e = .returned (.bool false) ∧ Below w.heap.size w w' := by
  have i0 : ∀ w, (Instr.index 67 (.agg #[.int .i64 sp, .int .i64 65535, .int .i64 dp, .int .i64 65535, .int .i64 wn, .int .i64 65535, .int .i64 ur, .int .i64 65535, .int .i64 fl, .int .i64 255]) (.int .i64 0)).run Try.prog w = .ok (.agg #[.int .i64 sp, .int .i64 65535]) w := fun _ => by kernel_rfl
  have i1 : ∀ w, (Instr.index 67 (.agg #[.int .i64 sp, .int .i64 65535, .int .i64 dp, .int .i64 65535, .int .i64 wn, .int .i64 65535, .int .i64 ur, .int .i64 65535, .int .i64 fl, .int .i64 255]) (.int .i64 1)).run Try.prog w = .ok (.agg #[.int .i64 dp, .int .i64 65535]) w := fun _ => by kernel_rfl
  have q0 : decide (sp < 0) = false := decide_eq_false (by omega)
  have p0 : decide (65535 < sp) = false := decide_eq_false (by omega)
  have q1 : decide (dp < 0) = false := decide_eq_false (by omega)
  have p1 : decide (65535 < dp) = true := decide_eq_true (by omega)
  clear h
  have HBX := Lib.hid ((Below.refl w.heap.size w).alloc (Nat.le_refl _) (.cells #[.int .i64 sp, .int .i64 dp, .int .u32 sq, .int .u32 ak, .int .i64 fl, .int .i64 wn, .int .i64 ur, .slice AO no co] 40))
  have BOX := Lib.hid (Blk.new w 40 #[.int .i64 sp, .int .i64 dp, .int .u32 sq, .int .u32 ak, .int .i64 fl, .int .i64 wn, .int .i64 ur, .slice AO no co])
  have HZ := Lib.hid (show (w.alloc (.cells #[.int .i64 sp, .int .i64 dp, .int .u32 sq, .int .u32 ak, .int .i64 fl, .int .i64 wn, .int .i64 ur, .slice AO no co] 40)).heap.size = w.heap.size + 1 by simp)
  go_enter Try.func24, Try.ntmps24
  go_wp2_with fail
  go_loopw [21, 4] (fun i _ wr => ∃ j : Nat, j ≤ 1 ∧ i = .int .i64 j ∧ Below (w.heap.size + 1) (w.alloc (.cells #[.int .i64 sp, .int .i64 dp, .int .u32 sq, .int .u32 ak, .int .i64 fl, .int .i64 wn, .int .i64 ur, .slice AO no co] 40)) wr) (fun i _ _ => 5 - (intOf i).toNat)
  case atStart => exact ⟨0, by omega, rfl, Below.refl _ _⟩
  case round =>
    obtain ⟨j, hj, rfl, hbel⟩ := hrel
    have HB := Lib.hid hbel
    have o7 : wr.cell? ⟨w.heap.size, 7, none⟩ = some (.slice AO no co) := (hbel.cell (p := ⟨w.heap.size, 7, none⟩) (Nat.lt_succ_self _)).trans (BOX.out.cell 7)
    have HS := Lib.hid (show w.heap.size + 1 ≤ wr.heap.size from Nat.le_trans (Nat.le_of_eq HZ.out.symm) hbel.size)
    clear hbel
    have hcase : j = 0 ∨ j = 1 := by omega
    rcases hcase with rfl | rfl
    · go_wp2_with fail
      go_roundw
      case rel => exact ⟨1, by omega, by go_num, HB.out.alloc HS.out _⟩
      case measure => simp [intOf]
    · go_wp2_with fail
      go_ret
      exact ⟨rfl, HBX.out.trans ((HB.out.alloc HS.out _ : Below (w.heap.size + 1) _ _).mono (Nat.le_succ _))⟩
set_option maxRecDepth 100000 in
set_option maxHeartbeats 1000000 in
theorem right_no4 (sp dp sq ak fl wn ur : Int) (AO : Option Addr) (no co : Nat) (w : World) (h : (0 ≤ sp ∧ sp ≤ 65535) ∧ (0 ≤ dp ∧ dp ≤ 65535) ∧ wn < 0) :
    Calls Try.prog 24 #[.agg #[.int .i64 sp, .int .i64 dp, .int .u32 sq, .int .u32 ak, .int .i64 fl, .int .i64 wn, .int .i64 ur, .slice AO no co]] w fun e w' => e = .returned (.bool false) ∧ Below w.heap.size w w' := by
  have i0 : ∀ w, (Instr.index 67 (.agg #[.int .i64 sp, .int .i64 65535, .int .i64 dp, .int .i64 65535, .int .i64 wn, .int .i64 65535, .int .i64 ur, .int .i64 65535, .int .i64 fl, .int .i64 255]) (.int .i64 0)).run Try.prog w = .ok (.agg #[.int .i64 sp, .int .i64 65535]) w := fun _ => by kernel_rfl
  have i1 : ∀ w, (Instr.index 67 (.agg #[.int .i64 sp, .int .i64 65535, .int .i64 dp, .int .i64 65535, .int .i64 wn, .int .i64 65535, .int .i64 ur, .int .i64 65535, .int .i64 fl, .int .i64 255]) (.int .i64 1)).run Try.prog w = .ok (.agg #[.int .i64 dp, .int .i64 65535]) w := fun _ => by kernel_rfl
  have i2 : ∀ w, (Instr.index 67 (.agg #[.int .i64 sp, .int .i64 65535, .int .i64 dp, .int .i64 65535, .int .i64 wn, .int .i64 65535, .int .i64 ur, .int .i64 65535, .int .i64 fl, .int .i64 255]) (.int .i64 2)).run Try.prog w = .ok (.agg #[.int .i64 wn, .int .i64 65535]) w := fun _ => by kernel_rfl
  have q0 : decide (sp < 0) = false := decide_eq_false (by omega)
  have p0 : decide (65535 < sp) = false := decide_eq_false (by omega)
  have q1 : decide (dp < 0) = false := decide_eq_false (by omega)
  have p1 : decide (65535 < dp) = false := decide_eq_false (by omega)
  have q2 : decide (wn < 0) = true := decide_eq_true (by omega)
  clear h
  have HBX := Lib.hid ((Below.refl w.heap.size w).alloc (Nat.le_refl _) (.cells #[.int .i64 sp, .int .i64 dp, .int .u32 sq, .int .u32 ak, .int .i64 fl, .int .i64 wn, .int .i64 ur, .slice AO no co] 40))
  have BOX := Lib.hid (Blk.new w 40 #[.int .i64 sp, .int .i64 dp, .int .u32 sq, .int .u32 ak, .int .i64 fl, .int .i64 wn, .int .i64 ur, .slice AO no co])
  have HZ := Lib.hid (show (w.alloc (.cells #[.int .i64 sp, .int .i64 dp, .int .u32 sq, .int .u32 ak, .int .i64 fl, .int .i64 wn, .int .i64 ur, .slice AO no co] 40)).heap.size = w.heap.size + 1 by simp)
  go_enter Try.func24, Try.ntmps24
  go_wp2_with fail
  go_loopw [21, 4] (fun i _ wr => ∃ j : Nat, j ≤ 2 ∧ i = .int .i64 j ∧ Below (w.heap.size + 1) (w.alloc (.cells #[.int .i64 sp, .int .i64 dp, .int .u32 sq, .int .u32 ak, .int .i64 fl, .int .i64 wn, .int .i64 ur, .slice AO no co] 40)) wr) (fun i _ _ => 5 - (intOf i).toNat)
  case atStart => exact ⟨0, by omega, rfl, Below.refl _ _⟩
  case round =>
    obtain ⟨j, hj, rfl, hbel⟩ := hrel
    have HB := Lib.hid hbel
    have o7 : wr.cell? ⟨w.heap.size, 7, none⟩ = some (.slice AO no co) := (hbel.cell (p := ⟨w.heap.size, 7, none⟩) (Nat.lt_succ_self _)).trans (BOX.out.cell 7)
    have HS := Lib.hid (show w.heap.size + 1 ≤ wr.heap.size from Nat.le_trans (Nat.le_of_eq HZ.out.symm) hbel.size)
    clear hbel
    have hcase : j = 0 ∨ j = 1 ∨ j = 2 := by omega
    rcases hcase with rfl | rfl | rfl
    · go_wp2_with fail
      go_roundw
      case rel => exact ⟨1, by omega, by go_num, HB.out.alloc HS.out _⟩
      case measure => simp [intOf]
    · go_wp2_with fail
      go_roundw
      case rel => exact ⟨2, by omega, by go_num, HB.out.alloc HS.out _⟩
      case measure => simp [intOf]
    · go_wp2_with fail
      go_ret
      exact ⟨rfl, HBX.out.trans ((HB.out.alloc HS.out _ : Below (w.heap.size + 1) _ _).mono (Nat.le_succ _))⟩
set_option maxRecDepth 100000 in
set_option maxHeartbeats 1000000 in
theorem right_no5 (sp dp sq ak fl wn ur : Int) (AO : Option Addr) (no co : Nat) (w : World) (h : (0 ≤ sp ∧ sp ≤ 65535) ∧ (0 ≤ dp ∧ dp ≤ 65535) ∧ 0 ≤ wn ∧ 65535 < wn) :
    Calls Try.prog 24 #[.agg #[.int .i64 sp, .int .i64 dp, .int .u32 sq, .int .u32 ak, .int .i64 fl, .int .i64 wn, .int .i64 ur, .slice AO no co]] w fun e w' => e = .returned (.bool false) ∧ Below w.heap.size w w' := by
  have i0 : ∀ w, (Instr.index 67 (.agg #[.int .i64 sp, .int .i64 65535, .int .i64 dp, .int .i64 65535, .int .i64 wn, .int .i64 65535, .int .i64 ur, .int .i64 65535, .int .i64 fl, .int .i64 255]) (.int .i64 0)).run Try.prog w = .ok (.agg #[.int .i64 sp, .int .i64 65535]) w := fun _ => by kernel_rfl
  have i1 : ∀ w, (Instr.index 67 (.agg #[.int .i64 sp, .int .i64 65535, .int .i64 dp, .int .i64 65535, .int .i64 wn, .int .i64 65535, .int .i64 ur, .int .i64 65535, .int .i64 fl, .int .i64 255]) (.int .i64 1)).run Try.prog w = .ok (.agg #[.int .i64 dp, .int .i64 65535]) w := fun _ => by kernel_rfl
  have i2 : ∀ w, (Instr.index 67 (.agg #[.int .i64 sp, .int .i64 65535, .int .i64 dp, .int .i64 65535, .int .i64 wn, .int .i64 65535, .int .i64 ur, .int .i64 65535, .int .i64 fl, .int .i64 255]) (.int .i64 2)).run Try.prog w = .ok (.agg #[.int .i64 wn, .int .i64 65535]) w := fun _ => by kernel_rfl
  have q0 : decide (sp < 0) = false := decide_eq_false (by omega)
  have p0 : decide (65535 < sp) = false := decide_eq_false (by omega)
  have q1 : decide (dp < 0) = false := decide_eq_false (by omega)
  have p1 : decide (65535 < dp) = false := decide_eq_false (by omega)
  have q2 : decide (wn < 0) = false := decide_eq_false (by omega)
  have p2 : decide (65535 < wn) = true := decide_eq_true (by omega)
  clear h
  have HBX := Lib.hid ((Below.refl w.heap.size w).alloc (Nat.le_refl _) (.cells #[.int .i64 sp, .int .i64 dp, .int .u32 sq, .int .u32 ak, .int .i64 fl, .int .i64 wn, .int .i64 ur, .slice AO no co] 40))
  have BOX := Lib.hid (Blk.new w 40 #[.int .i64 sp, .int .i64 dp, .int .u32 sq, .int .u32 ak, .int .i64 fl, .int .i64 wn, .int .i64 ur, .slice AO no co])
  have HZ := Lib.hid (show (w.alloc (.cells #[.int .i64 sp, .int .i64 dp, .int .u32 sq, .int .u32 ak, .int .i64 fl, .int .i64 wn, .int .i64 ur, .slice AO no co] 40)).heap.size = w.heap.size + 1 by simp)
  go_enter Try.func24, Try.ntmps24
  go_wp2_with fail
  go_loopw [21, 4] (fun i _ wr => ∃ j : Nat, j ≤ 2 ∧ i = .int .i64 j ∧ Below (w.heap.size + 1) (w.alloc (.cells #[.int .i64 sp, .int .i64 dp, .int .u32 sq, .int .u32 ak, .int .i64 fl, .int .i64 wn, .int .i64 ur, .slice AO no co] 40)) wr) (fun i _ _ => 5 - (intOf i).toNat)
  case atStart => exact ⟨0, by omega, rfl, Below.refl _ _⟩
  case round =>
    obtain ⟨j, hj, rfl, hbel⟩ := hrel
    have HB := Lib.hid hbel
    have o7 : wr.cell? ⟨w.heap.size, 7, none⟩ = some (.slice AO no co) := (hbel.cell (p := ⟨w.heap.size, 7, none⟩) (Nat.lt_succ_self _)).trans (BOX.out.cell 7)
    have HS := Lib.hid (show w.heap.size + 1 ≤ wr.heap.size from Nat.le_trans (Nat.le_of_eq HZ.out.symm) hbel.size)
    clear hbel
    have hcase : j = 0 ∨ j = 1 ∨ j = 2 := by omega
    rcases hcase with rfl | rfl | rfl
    · go_wp2_with fail
      go_roundw
      case rel => exact ⟨1, by omega, by go_num, HB.out.alloc HS.out _⟩
      case measure => simp [intOf]
    · go_wp2_with fail
      go_roundw
      case rel => exact ⟨2, by omega, by go_num, HB.out.alloc HS.out _⟩
      case measure => simp [intOf]
    · go_wp2_with fail
      go_ret
      exact ⟨rfl, HBX.out.trans ((HB.out.alloc HS.out _ : Below (w.heap.size + 1) _ _).mono (Nat.le_succ _))⟩
set_option maxRecDepth 100000 in
set_option maxHeartbeats 1000000 in
theorem right_no6 (sp dp sq ak fl wn ur : Int) (AO : Option Addr) (no co : Nat) (w : World) (h : (0 ≤ sp ∧ sp ≤ 65535) ∧ (0 ≤ dp ∧ dp ≤ 65535) ∧ (0 ≤ wn ∧ wn ≤ 65535) ∧ ur < 0) :
    Calls Try.prog 24 #[.agg #[.int .i64 sp, .int .i64 dp, .int .u32 sq, .int .u32 ak, .int .i64 fl, .int .i64 wn, .int .i64 ur, .slice AO no co]] w fun e w' => e = .returned (.bool false) ∧ Below w.heap.size w w' := by
  have i0 : ∀ w, (Instr.index 67 (.agg #[.int .i64 sp, .int .i64 65535, .int .i64 dp, .int .i64 65535, .int .i64 wn, .int .i64 65535, .int .i64 ur, .int .i64 65535, .int .i64 fl, .int .i64 255]) (.int .i64 0)).run Try.prog w = .ok (.agg #[.int .i64 sp, .int .i64 65535]) w := fun _ => by kernel_rfl
  have i1 : ∀ w, (Instr.index 67 (.agg #[.int .i64 sp, .int .i64 65535, .int .i64 dp, .int .i64 65535, .int .i64 wn, .int .i64 65535, .int .i64 ur, .int .i64 65535, .int .i64 fl, .int .i64 255]) (.int .i64 1)).run Try.prog w = .ok (.agg #[.int .i64 dp, .int .i64 65535]) w := fun _ => by kernel_rfl
  have i2 : ∀ w, (Instr.index 67 (.agg #[.int .i64 sp, .int .i64 65535, .int .i64 dp, .int .i64 65535, .int .i64 wn, .int .i64 65535, .int .i64 ur, .int .i64 65535, .int .i64 fl, .int .i64 255]) (.int .i64 2)).run Try.prog w = .ok (.agg #[.int .i64 wn, .int .i64 65535]) w := fun _ => by kernel_rfl
  have i3 : ∀ w, (Instr.index 67 (.agg #[.int .i64 sp, .int .i64 65535, .int .i64 dp, .int .i64 65535, .int .i64 wn, .int .i64 65535, .int .i64 ur, .int .i64 65535, .int .i64 fl, .int .i64 255]) (.int .i64 3)).run Try.prog w = .ok (.agg #[.int .i64 ur, .int .i64 65535]) w := fun _ => by kernel_rfl
  have q0 : decide (sp < 0) = false := decide_eq_false (by omega)
  have p0 : decide (65535 < sp) = false := decide_eq_false (by omega)
  have q1 : decide (dp < 0) = false := decide_eq_false (by omega)
  have p1 : decide (65535 < dp) = false := decide_eq_false (by omega)
  have q2 : decide (wn < 0) = false := decide_eq_false (by omega)
  have p2 : decide (65535 < wn) = false := decide_eq_false (by omega)
  have q3 : decide (ur < 0) = true := decide_eq_true (by omega)
  clear h
  have HBX := Lib.hid ((Below.refl w.heap.size w).alloc (Nat.le_refl _) (.cells #[.int .i64 sp, .int .i64 dp, .int .u32 sq, .int .u32 ak, .int .i64 fl, .int .i64 wn, .int .i64 ur, .slice AO no co] 40))
  have BOX := Lib.hid (Blk.new w 40 #[.int .i64 sp, .int .i64 dp, .int .u32 sq, .int .u32 ak, .int .i64 fl, .int .i64 wn, .int .i64 ur, .slice AO no co])
  have HZ := Lib.hid (show (w.alloc (.cells #[.int .i64 sp, .int .i64 dp, .int .u32 sq, .int .u32 ak, .int .i64 fl, .int .i64 wn, .int .i64 ur, .slice AO no co] 40)).heap.size = w.heap.size + 1 by simp)
  go_enter Try.func24, Try.ntmps24
  go_wp2_with fail
  go_loopw [21, 4] (fun i _ wr => ∃ j : Nat, j ≤ 3 ∧ i = .int .i64 j ∧ Below (w.heap.size + 1) (w.alloc (.cells #[.int .i64 sp, .int .i64 dp, .int .u32 sq, .int .u32 ak, .int .i64 fl, .int .i64 wn, .int .i64 ur, .slice AO no co] 40)) wr) (fun i _ _ => 5 - (intOf i).toNat)
  case atStart => exact ⟨0, by omega, rfl, Below.refl _ _⟩
  case round =>
    obtain ⟨j, hj, rfl, hbel⟩ := hrel
    have HB := Lib.hid hbel
    have o7 : wr.cell? ⟨w.heap.size, 7, none⟩ = some (.slice AO no co) := (hbel.cell (p := ⟨w.heap.size, 7, none⟩) (Nat.lt_succ_self _)).trans (BOX.out.cell 7)
    have HS := Lib.hid (show w.heap.size + 1 ≤ wr.heap.size from Nat.le_trans (Nat.le_of_eq HZ.out.symm) hbel.size)
    clear hbel
    have hcase : j = 0 ∨ j = 1 ∨ j = 2 ∨ j = 3 := by omega
    rcases hcase with rfl | rfl | rfl | rfl
    · go_wp2_with fail
      go_roundw
      case rel => exact ⟨1, by omega, by go_num, HB.out.alloc HS.out _⟩
      case measure => simp [intOf]
    · go_wp2_with fail
      go_roundw
      case rel => exact ⟨2, by omega, by go_num, HB.out.alloc HS.out _⟩
      case measure => simp [intOf]
    · go_wp2_with fail
      go_roundw
      case rel => exact ⟨3, by omega, by go_num, HB.out.alloc HS.out _⟩
      case measure => simp [intOf]
    · go_wp2_with fail
      go_ret
      exact ⟨rfl, HBX.out.trans ((HB.out.alloc HS.out _ : Below (w.heap.size + 1) _ _).mono (Nat.le_succ _))⟩
set_option maxRecDepth 100000 in
set_option maxHeartbeats 1000000 in
theorem right_no7 (sp dp sq ak fl wn ur : Int) (AO : Option Addr) (no co : Nat) (w : World) (h : (0 ≤ sp ∧ sp ≤ 65535) ∧ (0 ≤ dp ∧ dp ≤ 65535) ∧ (0 ≤ wn ∧ wn ≤ 65535) ∧ 0 ≤ ur ∧ 65535 < ur) :
    Calls Try.prog 24 #[.agg #[.int .i64 sp, .int .i64 dp, .int .u32 sq, .int .u32 ak, .int .i64 fl, .int .i64 wn, .int .i64 ur, .slice AO no co]] w fun e w' => e = .returned (.bool false) ∧ Below w.heap.size w w' := by
  have i0 : ∀ w, (Instr.index 67 (.agg #[.int .i64 sp, .int .i64 65535, .int .i64 dp, .int .i64 65535, .int .i64 wn, .int .i64 65535, .int .i64 ur, .int .i64 65535, .int .i64 fl, .int .i64 255]) (.int .i64 0)).run Try.prog w = .ok (.agg #[.int .i64 sp, .int .i64 65535]) w := fun _ => by kernel_rfl
  have i1 : ∀ w, (Instr.index 67 (.agg #[.int .i64 sp, .int .i64 65535, .int .i64 dp, .int .i64 65535, .int .i64 wn, .int .i64 65535, .int .i64 ur, .int .i64 65535, .int .i64 fl, .int .i64 255]) (.int .i64 1)).run Try.prog w = .ok (.agg #[.int .i64 dp, .int .i64 65535]) w := fun _ => by kernel_rfl
  have i2 : ∀ w, (Instr.index 67 (.agg #[.int .i64 sp, .int .i64 65535, .int .i64 dp, .int .i64 65535, .int .i64 wn, .int .i64 65535, .int .i64 ur, .int .i64 65535, .int .i64 fl, .int .i64 255]) (.int .i64 2)).run Try.prog w = .ok (.agg #[.int .i64 wn, .int .i64 65535]) w := fun _ => by kernel_rfl
  have i3 : ∀ w, (Instr.index 67 (.agg #[.int .i64 sp, .int .i64 65535, .int .i64 dp, .int .i64 65535, .int .i64 wn, .int .i64 65535, .int .i64 ur, .int .i64 65535, .int .i64 fl, .int .i64 255]) (.int .i64 3)).run Try.prog w = .ok (.agg #[.int .i64 ur, .int .i64 65535]) w := fun _ => by kernel_rfl
  have q0 : decide (sp < 0) = false := decide_eq_false (by omega)
  have p0 : decide (65535 < sp) = false := decide_eq_false (by omega)
  have q1 : decide (dp < 0) = false := decide_eq_false (by omega)
  have p1 : decide (65535 < dp) = false := decide_eq_false (by omega)
  have q2 : decide (wn < 0) = false := decide_eq_false (by omega)
  have p2 : decide (65535 < wn) = false := decide_eq_false (by omega)
  have q3 : decide (ur < 0) = false := decide_eq_false (by omega)
  have p3 : decide (65535 < ur) = true := decide_eq_true (by omega)
  clear h
  have HBX := Lib.hid ((Below.refl w.heap.size w).alloc (Nat.le_refl _) (.cells #[.int .i64 sp, .int .i64 dp, .int .u32 sq, .int .u32 ak, .int .i64 fl, .int .i64 wn, .int .i64 ur, .slice AO no co] 40))
  have BOX := Lib.hid (Blk.new w 40 #[.int .i64 sp, .int .i64 dp, .int .u32 sq, .int .u32 ak, .int .i64 fl, .int .i64 wn, .int .i64 ur, .slice AO no co])
  have HZ := Lib.hid (show (w.alloc (.cells #[.int .i64 sp, .int .i64 dp, .int .u32 sq, .int .u32 ak, .int .i64 fl, .int .i64 wn, .int .i64 ur, .slice AO no co] 40)).heap.size = w.heap.size + 1 by simp)
  go_enter Try.func24, Try.ntmps24
  go_wp2_with fail
  go_loopw [21, 4] (fun i _ wr => ∃ j : Nat, j ≤ 3 ∧ i = .int .i64 j ∧ Below (w.heap.size + 1) (w.alloc (.cells #[.int .i64 sp, .int .i64 dp, .int .u32 sq, .int .u32 ak, .int .i64 fl, .int .i64 wn, .int .i64 ur, .slice AO no co] 40)) wr) (fun i _ _ => 5 - (intOf i).toNat)
  case atStart => exact ⟨0, by omega, rfl, Below.refl _ _⟩
  case round =>
    obtain ⟨j, hj, rfl, hbel⟩ := hrel
    have HB := Lib.hid hbel
    have o7 : wr.cell? ⟨w.heap.size, 7, none⟩ = some (.slice AO no co) := (hbel.cell (p := ⟨w.heap.size, 7, none⟩) (Nat.lt_succ_self _)).trans (BOX.out.cell 7)
    have HS := Lib.hid (show w.heap.size + 1 ≤ wr.heap.size from Nat.le_trans (Nat.le_of_eq HZ.out.symm) hbel.size)
    clear hbel
    have hcase : j = 0 ∨ j = 1 ∨ j = 2 ∨ j = 3 := by omega
    rcases hcase with rfl | rfl | rfl | rfl
    · go_wp2_with fail
      go_roundw
      case rel => exact ⟨1, by omega, by go_num, HB.out.alloc HS.out _⟩
      case measure => simp [intOf]
    · go_wp2_with fail
      go_roundw
      case rel => exact ⟨2, by omega, by go_num, HB.out.alloc HS.out _⟩
      case measure => simp [intOf]
    · go_wp2_with fail
      go_roundw
      case rel => exact ⟨3, by omega, by go_num, HB.out.alloc HS.out _⟩
      case measure => simp [intOf]
    · go_wp2_with fail
      go_ret
      exact ⟨rfl, HBX.out.trans ((HB.out.alloc HS.out _ : Below (w.heap.size + 1) _ _).mono (Nat.le_succ _))⟩
set_option maxRecDepth 100000 in
set_option maxHeartbeats 1000000 in
theorem right_no8 (sp dp sq ak fl wn ur : Int) (AO : Option Addr) (no co : Nat) (w : World) (h : (0 ≤ sp ∧ sp ≤ 65535) ∧ (0 ≤ dp ∧ dp ≤ 65535) ∧ (0 ≤ wn ∧ wn ≤ 65535) ∧ (0 ≤ ur ∧ ur ≤ 65535) ∧ fl < 0) :
    Calls Try.prog 24 #[.agg #[.int .i64 sp, .int .i64 dp, .int .u32 sq, .int .u32 ak, .int .i64 fl, .int .i64 wn, .int .i64 ur, .slice AO no co]] w fun e w' => e = .returned (.bool false) ∧ Below w.heap.size w w' := by
  have i0 : ∀ w, (Instr.index 67 (.agg #[.int .i64 sp, .int .i64 65535, .int .i64 dp, .int .i64 65535, .int .i64 wn, .int .i64 65535, .int .i64 ur, .int .i64 65535, .int .i64 fl, .int .i64 255]) (.int .i64 0)).run Try.prog w = .ok (.agg #[.int .i64 sp, .int .i64 65535]) w := fun _ => by kernel_rfl
  have i1 : ∀ w, (Instr.index 67 (.agg #[.int .i64 sp, .int .i64 65535, .int .i64 dp, .int .i64 65535, .int .i64 wn, .int .i64 65535, .int .i64 ur, .int .i64 65535, .int .i64 fl, .int .i64 255]) (.int .i64 1)).run Try.prog w = .ok (.agg #[.int .i64 dp, .int .i64 65535]) w := fun _ => by kernel_rfl
  have i2 : ∀ w, (Instr.index 67 (.agg #[.int .i64 sp, .int .i64 65535, .int .i64 dp, .int .i64 65535, .int .i64 wn, .int .i64 65535, .int .i64 ur, .int .i64 65535, .int .i64 fl, .int .i64 255]) (.int .i64 2)).run Try.prog w = .ok (.agg #[.int .i64 wn, .int .i64 65535]) w := fun _ => by kernel_rfl
  have i3 : ∀ w, (Instr.index 67 (.agg #[.int .i64 sp, .int .i64 65535, .int .i64 dp, .int .i64 65535, .int .i64 wn, .int .i64 65535, .int .i64 ur, .int .i64 65535, .int .i64 fl, .int .i64 255]) (.int .i64 3)).run Try.prog w = .ok (.agg #[.int .i64 ur, .int .i64 65535]) w := fun _ => by kernel_rfl
  have i4 : ∀ w, (Instr.index 67 (.agg #[.int .i64 sp, .int .i64 65535, .int .i64 dp, .int .i64 65535, .int .i64 wn, .int .i64 65535, .int .i64 ur, .int .i64 65535, .int .i64 fl, .int .i64 255]) (.int .i64 4)).run Try.prog w = .ok (.agg #[.int .i64 fl, .int .i64 255]) w := fun _ => by kernel_rfl
  have q0 : decide (sp < 0) = false := decide_eq_false (by omega)
  have p0 : decide (65535 < sp) = false := decide_eq_false (by omega)
  have q1 : decide (dp < 0) = false := decide_eq_false (by omega)
  have p1 : decide (65535 < dp) = false := decide_eq_false (by omega)
  have q2 : decide (wn < 0) = false := decide_eq_false (by omega)
  have p2 : decide (65535 < wn) = false := decide_eq_false (by omega)
  have q3 : decide (ur < 0) = false := decide_eq_false (by omega)
  have p3 : decide (65535 < ur) = false := decide_eq_false (by omega)
  have q4 : decide (fl < 0) = true := decide_eq_true (by omega)
  clear h
  have HBX := Lib.hid ((Below.refl w.heap.size w).alloc (Nat.le_refl _) (.cells #[.int .i64 sp, .int .i64 dp, .int .u32 sq, .int .u32 ak, .int .i64 fl, .int .i64 wn, .int .i64 ur, .slice AO no co] 40))
  have BOX := Lib.hid (Blk.new w 40 #[.int .i64 sp, .int .i64 dp, .int .u32 sq, .int .u32 ak, .int .i64 fl, .int .i64 wn, .int .i64 ur, .slice AO no co])
  have HZ := Lib.hid (show (w.alloc (.cells #[.int .i64 sp, .int .i64 dp, .int .u32 sq, .int .u32 ak, .int .i64 fl, .int .i64 wn, .int .i64 ur, .slice AO no co] 40)).heap.size = w.heap.size + 1 by simp)
  go_enter Try.func24, Try.ntmps24
  go_wp2_with fail
  go_loopw [21, 4] (fun i _ wr => ∃ j : Nat, j ≤ 4 ∧ i = .int .i64 j ∧ Below (w.heap.size + 1) (w.alloc (.cells #[.int .i64 sp, .int .i64 dp, .int .u32 sq, .int .u32 ak, .int .i64 fl, .int .i64 wn, .int .i64 ur, .slice AO no co] 40)) wr) (fun i _ _ => 5 - (intOf i).toNat)
  case atStart => exact ⟨0, by omega, rfl, Below.refl _ _⟩
  case round =>
    obtain ⟨j, hj, rfl, hbel⟩ := hrel
    have HB := Lib.hid hbel
    have o7 : wr.cell? ⟨w.heap.size, 7, none⟩ = some (.slice AO no co) := (hbel.cell (p := ⟨w.heap.size, 7, none⟩) (Nat.lt_succ_self _)).trans (BOX.out.cell 7)
    have HS := Lib.hid (show w.heap.size + 1 ≤ wr.heap.size from Nat.le_trans (Nat.le_of_eq HZ.out.symm) hbel.size)
    clear hbel
    have hcase : j = 0 ∨ j = 1 ∨ j = 2 ∨ j = 3 ∨ j = 4 := by omega
    rcases hcase with rfl | rfl | rfl | rfl | rfl
    · go_wp2_with fail
      go_roundw
      case rel => exact ⟨1, by omega, by go_num, HB.out.alloc HS.out _⟩
      case measure => simp [intOf]
    · go_wp2_with fail
      go_roundw
      case rel => exact ⟨2, by omega, by go_num, HB.out.alloc HS.out _⟩
      case measure => simp [intOf]
    · go_wp2_with fail
      go_roundw
      case rel => exact ⟨3, by omega, by go_num, HB.out.alloc HS.out _⟩
      case measure => simp [intOf]
    · go_wp2_with fail
      go_roundw
      case rel => exact ⟨4, by omega, by go_num, HB.out.alloc HS.out _⟩
      case measure => simp [intOf]
    · go_wp2_with fail
      go_ret
      exact ⟨rfl, HBX.out.trans ((HB.out.alloc HS.out _ : Below (w.heap.size + 1) _ _).mono (Nat.le_succ _))⟩
set_option maxRecDepth 100000 in
set_option maxHeartbeats 1000000 in
theorem right_no9 (sp dp sq ak fl wn ur : Int) (AO : Option Addr) (no co : Nat) (w : World) (h : (0 ≤ sp ∧ sp ≤ 65535) ∧ (0 ≤ dp ∧ dp ≤ 65535) ∧ (0 ≤ wn ∧ wn ≤ 65535) ∧ (0 ≤ ur ∧ ur ≤ 65535) ∧ 0 ≤ fl ∧ 255 < fl) :
    Calls Try.prog 24 #[.agg #[.int .i64 sp, .int .i64 dp, .int .u32 sq, .int .u32 ak, .int .i64 fl, .int .i64 wn, .int .i64 ur, .slice AO no co]] w fun e w' => e = .returned (.bool false) ∧ Below w.heap.size w w' := by
  have i0 : ∀ w, (Instr.index 67 (.agg #[.int .i64 sp, .int .i64 65535, .int .i64 dp, .int .i64 65535, .int .i64 wn, .int .i64 65535, .int .i64 ur, .int .i64 65535, .int .i64 fl, .int .i64 255]) (.int .i64 0)).run Try.prog w = .ok (.agg #[.int .i64 sp, .int .i64 65535]) w := fun _ => by kernel_rfl
  have i1 : ∀ w, (Instr.index 67 (.agg #[.int .i64 sp, .int .i64 65535, .int .i64 dp, .int .i64 65535, .int .i64 wn, .int .i64 65535, .int .i64 ur, .int .i64 65535, .int .i64 fl, .int .i64 255]) (.int .i64 1)).run Try.prog w = .ok (.agg #[.int .i64 dp, .int .i64 65535]) w := fun _ => by kernel_rfl
  have i2 : ∀ w, (Instr.index 67 (.agg #[.int .i64 sp, .int .i64 65535, .int .i64 dp, .int .i64 65535, .int .i64 wn, .int .i64 65535, .int .i64 ur, .int .i64 65535, .int .i64 fl, .int .i64 255]) (.int .i64 2)).run Try.prog w = .ok (.agg #[.int .i64 wn, .int .i64 65535]) w := fun _ => by kernel_rfl
  have i3 : ∀ w, (Instr.index 67 (.agg #[.int .i64 sp, .int .i64 65535, .int .i64 dp, .int .i64 65535, .int .i64 wn, .int .i64 65535, .int .i64 ur, .int .i64 65535, .int .i64 fl, .int .i64 255]) (.int .i64 3)).run Try.prog w = .ok (.agg #[.int .i64 ur, .int .i64 65535]) w := fun _ => by kernel_rfl
  have i4 : ∀ w, (Instr.index 67 (.agg #[.int .i64 sp, .int .i64 65535, .int .i64 dp, .int .i64 65535, .int .i64 wn, .int .i64 65535, .int .i64 ur, .int .i64 65535, .int .i64 fl, .int .i64 255]) (.int .i64 4)).run Try.prog w = .ok (.agg #[.int .i64 fl, .int .i64 255]) w := fun _ => by kernel_rfl
  have q0 : decide (sp < 0) = false := decide_eq_false (by omega)
  have p0 : decide (65535 < sp) = false := decide_eq_false (by omega)
  have q1 : decide (dp < 0) = false := decide_eq_false (by omega)
  have p1 : decide (65535 < dp) = false := decide_eq_false (by omega)
  have q2 : decide (wn < 0) = false := decide_eq_false (by omega)
  have p2 : decide (65535 < wn) = false := decide_eq_false (by omega)
  have q3 : decide (ur < 0) = false := decide_eq_false (by omega)
  have p3 : decide (65535 < ur) = false := decide_eq_false (by omega)
  have q4 : decide (fl < 0) = false := decide_eq_false (by omega)
  have p4 : decide (255 < fl) = true := decide_eq_true (by omega)
  clear h
  have HBX := Lib.hid ((Below.refl w.heap.size w).alloc (Nat.le_refl _) (.cells #[.int .i64 sp, .int .i64 dp, .int .u32 sq, .int .u32 ak, .int .i64 fl, .int .i64 wn, .int .i64 ur, .slice AO no co] 40))
  have BOX := Lib.hid (Blk.new w 40 #[.int .i64 sp, .int .i64 dp, .int .u32 sq, .int .u32 ak, .int .i64 fl, .int .i64 wn, .int .i64 ur, .slice AO no co])
  have HZ := Lib.hid (show (w.alloc (.cells #[.int .i64 sp, .int .i64 dp, .int .u32 sq, .int .u32 ak, .int .i64 fl, .int .i64 wn, .int .i64 ur, .slice AO no co] 40)).heap.size = w.heap.size + 1 by simp)
  go_enter Try.func24, Try.ntmps24
  go_wp2_with fail
  go_loopw [21, 4] (fun i _ wr => ∃ j : Nat, j ≤ 4 ∧ i = .int .i64 j ∧ Below (w.heap.size + 1) (w.alloc (.cells #[.int .i64 sp, .int .i64 dp, .int .u32 sq, .int .u32 ak, .int .i64 fl, .int .i64 wn, .int .i64 ur, .slice AO no co] 40)) wr) (fun i _ _ => 5 - (intOf i).toNat)
  case atStart => exact ⟨0, by omega, rfl, Below.refl _ _⟩
  case round =>
    obtain ⟨j, hj, rfl, hbel⟩ := hrel
    have HB := Lib.hid hbel
    have o7 : wr.cell? ⟨w.heap.size, 7, none⟩ = some (.slice AO no co) := (hbel.cell (p := ⟨w.heap.size, 7, none⟩) (Nat.lt_succ_self _)).trans (BOX.out.cell 7)
    have HS := Lib.hid (show w.heap.size + 1 ≤ wr.heap.size from Nat.le_trans (Nat.le_of_eq HZ.out.symm) hbel.size)
    clear hbel
    have hcase : j = 0 ∨ j = 1 ∨ j = 2 ∨ j = 3 ∨ j = 4 := by omega
    rcases hcase with rfl | rfl | rfl | rfl | rfl
    · go_wp2_with fail
      go_roundw
      case rel => exact ⟨1, by omega, by go_num, HB.out.alloc HS.out _⟩
      case measure => simp [intOf]
    · go_wp2_with fail
      go_roundw
      case rel => exact ⟨2, by omega, by go_num, HB.out.alloc HS.out _⟩
      case measure => simp [intOf]
    · go_wp2_with fail
      go_roundw
      case rel => exact ⟨3, by omega, by go_num, HB.out.alloc HS.out _⟩
      case measure => simp [intOf]
    · go_wp2_with fail
      go_roundw
      case rel => exact ⟨4, by omega, by go_num, HB.out.alloc HS.out _⟩
      case measure => simp [intOf]
    · go_wp2_with fail
      go_ret
      exact ⟨rfl, HBX.out.trans ((HB.out.alloc HS.out _ : Below (w.heap.size + 1) _ _).mono (Nat.le_succ _))⟩
set_option maxRecDepth 100000 in
set_option maxHeartbeats 1000000 in
theorem right_no10 (sp dp sq ak fl wn ur : Int) (AO : Option Addr) (no co : Nat) (w : World) (h : (0 ≤ sp ∧ sp ≤ 65535) ∧ (0 ≤ dp ∧ dp ≤ 65535) ∧ (0 ≤ wn ∧ wn ≤ 65535) ∧ (0 ≤ ur ∧ ur ≤ 65535) ∧ (0 ≤ fl ∧ fl ≤ 255) ∧ 40 < no) :
    Calls Try.prog 24 #[.agg #[.int .i64 sp, .int .i64 dp, .int .u32 sq, .int .u32 ak, .int .i64 fl, .int .i64 wn, .int .i64 ur, .slice AO no co]] w fun e w' => e = .returned (.bool false) ∧ Below w.heap.size w w' := by
  have i0 : ∀ w, (Instr.index 67 (.agg #[.int .i64 sp, .int .i64 65535, .int .i64 dp, .int .i64 65535, .int .i64 wn, .int .i64 65535, .int .i64 ur, .int .i64 65535, .int .i64 fl, .int .i64 255]) (.int .i64 0)).run Try.prog w = .ok (.agg #[.int .i64 sp, .int .i64 65535]) w := fun _ => by kernel_rfl
  have i1 : ∀ w, (Instr.index 67 (.agg #[.int .i64 sp, .int .i64 65535, .int .i64 dp, .int .i64 65535, .int .i64 wn, .int .i64 65535, .int .i64 ur, .int .i64 65535, .int .i64 fl, .int .i64 255]) (.int .i64 1)).run Try.prog w = .ok (.agg #[.int .i64 dp, .int .i64 65535]) w := fun _ => by kernel_rfl
  have i2 : ∀ w, (Instr.index 67 (.agg #[.int .i64 sp, .int .i64 65535, .int .i64 dp, .int .i64 65535, .int .i64 wn, .int .i64 65535, .int .i64 ur, .int .i64 65535, .int .i64 fl, .int .i64 255]) (.int .i64 2)).run Try.prog w = .ok (.agg #[.int .i64 wn, .int .i64 65535]) w := fun _ => by kernel_rfl
  have i3 : ∀ w, (Instr.index 67 (.agg #[.int .i64 sp, .int .i64 65535, .int .i64 dp, .int .i64 65535, .int .i64 wn, .int .i64 65535, .int .i64 ur, .int .i64 65535, .int .i64 fl, .int .i64 255]) (.int .i64 3)).run Try.prog w = .ok (.agg #[.int .i64 ur, .int .i64 65535]) w := fun _ => by kernel_rfl
  have i4 : ∀ w, (Instr.index 67 (.agg #[.int .i64 sp, .int .i64 65535, .int .i64 dp, .int .i64 65535, .int .i64 wn, .int .i64 65535, .int .i64 ur, .int .i64 65535, .int .i64 fl, .int .i64 255]) (.int .i64 4)).run Try.prog w = .ok (.agg #[.int .i64 fl, .int .i64 255]) w := fun _ => by kernel_rfl
  have t0 : decide ((no : Int) ≤ 40) = false := decide_eq_false (by omega)
  have q0 : decide (sp < 0) = false := decide_eq_false (by omega)
  have p0 : decide (65535 < sp) = false := decide_eq_false (by omega)
  have q1 : decide (dp < 0) = false := decide_eq_false (by omega)
  have p1 : decide (65535 < dp) = false := decide_eq_false (by omega)
  have q2 : decide (wn < 0) = false := decide_eq_false (by omega)
  have p2 : decide (65535 < wn) = false := decide_eq_false (by omega)
  have q3 : decide (ur < 0) = false := decide_eq_false (by omega)
  have p3 : decide (65535 < ur) = false := decide_eq_false (by omega)
  have q4 : decide (fl < 0) = false := decide_eq_false (by omega)
  have p4 : decide (255 < fl) = false := decide_eq_false (by omega)
  clear h
  have HBX := Lib.hid ((Below.refl w.heap.size w).alloc (Nat.le_refl _) (.cells #[.int .i64 sp, .int .i64 dp, .int .u32 sq, .int .u32 ak, .int .i64 fl, .int .i64 wn, .int .i64 ur, .slice AO no co] 40))
  have BOX := Lib.hid (Blk.new w 40 #[.int .i64 sp, .int .i64 dp, .int .u32 sq, .int .u32 ak, .int .i64 fl, .int .i64 wn, .int .i64 ur, .slice AO no co])
  have HZ := Lib.hid (show (w.alloc (.cells #[.int .i64 sp, .int .i64 dp, .int .u32 sq, .int .u32 ak, .int .i64 fl, .int .i64 wn, .int .i64 ur, .slice AO no co] 40)).heap.size = w.heap.size + 1 by simp)
  go_enter Try.func24, Try.ntmps24
  go_wp2_with fail
  go_loopw [21, 4] (fun i _ wr => ∃ j : Nat, j ≤ 5 ∧ i = .int .i64 j ∧ Below (w.heap.size + 1) (w.alloc (.cells #[.int .i64 sp, .int .i64 dp, .int .u32 sq, .int .u32 ak, .int .i64 fl, .int .i64 wn, .int .i64 ur, .slice AO no co] 40)) wr) (fun i _ _ => 5 - (intOf i).toNat)
  case atStart => exact ⟨0, by omega, rfl, Below.refl _ _⟩
  case round =>
    obtain ⟨j, hj, rfl, hbel⟩ := hrel
    have HB := Lib.hid hbel
    have o7 : wr.cell? ⟨w.heap.size, 7, none⟩ = some (.slice AO no co) := (hbel.cell (p := ⟨w.heap.size, 7, none⟩) (Nat.lt_succ_self _)).trans (BOX.out.cell 7)
    have HS := Lib.hid (show w.heap.size + 1 ≤ wr.heap.size from Nat.le_trans (Nat.le_of_eq HZ.out.symm) hbel.size)
    clear hbel
    have hcase : j = 0 ∨ j = 1 ∨ j = 2 ∨ j = 3 ∨ j = 4 ∨ j = 5 := by omega
    rcases hcase with rfl | rfl | rfl | rfl | rfl | rfl
    · go_wp2_with fail
      go_roundw
      case rel => exact ⟨1, by omega, by go_num, HB.out.alloc HS.out _⟩
      case measure => simp [intOf]
    · go_wp2_with fail
      go_roundw
      case rel => exact ⟨2, by omega, by go_num, HB.out.alloc HS.out _⟩
      case measure => simp [intOf]
    · go_wp2_with fail
      go_roundw
      case rel => exact ⟨3, by omega, by go_num, HB.out.alloc HS.out _⟩
      case measure => simp [intOf]
    · go_wp2_with fail
      go_roundw
      case rel => exact ⟨4, by omega, by go_num, HB.out.alloc HS.out _⟩
      case measure => simp [intOf]
    · go_wp2_with fail
      go_roundw
      case rel => exact ⟨5, by omega, by go_num, HB.out.alloc HS.out _⟩
      case measure => simp [intOf]
    · go_wp2_with fail
      go_ret
      exact ⟨rfl, HBX.out.trans ((HB.out : Below (w.heap.size + 1) _ _).mono (Nat.le_succ _))⟩
set_option maxRecDepth 100000 in
set_option maxHeartbeats 1000000 in
theorem right_no11 (sp dp sq ak fl wn ur : Int) (AO : Option Addr) (no co : Nat) (w : World) (h : (0 ≤ sp ∧ sp ≤ 65535) ∧ (0 ≤ dp ∧ dp ≤ 65535) ∧ (0 ≤ wn ∧ wn ≤ 65535) ∧ (0 ≤ ur ∧ ur ≤ 65535) ∧ (0 ≤ fl ∧ fl ≤ 255) ∧ no ≤ 40 ∧ no % 4 ≠ 0) :
    Calls Try.prog 24 #[.agg #[.int .i64 sp, .int .i64 dp, .int .u32 sq, .int .u32 ak, .int .i64 fl, .int .i64 wn, .int .i64 ur, .slice AO no co]] w fun e w' => e = .returned (.bool false) ∧ Below w.heap.size w w' := by
  have i0 : ∀ w, (Instr.index 67 (.agg #[.int .i64 sp, .int .i64 65535, .int .i64 dp, .int .i64 65535, .int .i64 wn, .int .i64 65535, .int .i64 ur, .int .i64 65535, .int .i64 fl, .int .i64 255]) (.int .i64 0)).run Try.prog w = .ok (.agg #[.int .i64 sp, .int .i64 65535]) w := fun _ => by kernel_rfl
  have i1 : ∀ w, (Instr.index 67 (.agg #[.int .i64 sp, .int .i64 65535, .int .i64 dp, .int .i64 65535, .int .i64 wn, .int .i64 65535, .int .i64 ur, .int .i64 65535, .int .i64 fl, .int .i64 255]) (.int .i64 1)).run Try.prog w = .ok (.agg #[.int .i64 dp, .int .i64 65535]) w := fun _ => by kernel_rfl
  have i2 : ∀ w, (Instr.index 67 (.agg #[.int .i64 sp, .int .i64 65535, .int .i64 dp, .int .i64 65535, .int .i64 wn, .int .i64 65535, .int .i64 ur, .int .i64 65535, .int .i64 fl, .int .i64 255]) (.int .i64 2)).run Try.prog w = .ok (.agg #[.int .i64 wn, .int .i64 65535]) w := fun _ => by kernel_rfl
  have i3 : ∀ w, (Instr.index 67 (.agg #[.int .i64 sp, .int .i64 65535, .int .i64 dp, .int .i64 65535, .int .i64 wn, .int .i64 65535, .int .i64 ur, .int .i64 65535, .int .i64 fl, .int .i64 255]) (.int .i64 3)).run Try.prog w = .ok (.agg #[.int .i64 ur, .int .i64 65535]) w := fun _ => by kernel_rfl
  have i4 : ∀ w, (Instr.index 67 (.agg #[.int .i64 sp, .int .i64 65535, .int .i64 dp, .int .i64 65535, .int .i64 wn, .int .i64 65535, .int .i64 ur, .int .i64 65535, .int .i64 fl, .int .i64 255]) (.int .i64 4)).run Try.prog w = .ok (.agg #[.int .i64 fl, .int .i64 255]) w := fun _ => by kernel_rfl
  have t0 : (((no : Int) % 4) == 0) = false := eqF (by omega)
  have t1 : decide ((no : Int) ≤ 40) = true := decide_eq_true (by omega)
  have q0 : decide (sp < 0) = false := decide_eq_false (by omega)
  have p0 : decide (65535 < sp) = false := decide_eq_false (by omega)
  have q1 : decide (dp < 0) = false := decide_eq_false (by omega)
  have p1 : decide (65535 < dp) = false := decide_eq_false (by omega)
  have q2 : decide (wn < 0) = false := decide_eq_false (by omega)
  have p2 : decide (65535 < wn) = false := decide_eq_false (by omega)
  have q3 : decide (ur < 0) = false := decide_eq_false (by omega)
  have p3 : decide (65535 < ur) = false := decide_eq_false (by omega)
  have q4 : decide (fl < 0) = false := decide_eq_false (by omega)
  have p4 : decide (255 < fl) = false := decide_eq_false (by omega)
  clear h
  have HBX := Lib.hid ((Below.refl w.heap.size w).alloc (Nat.le_refl _) (.cells #[.int .i64 sp, .int .i64 dp, .int .u32 sq, .int .u32 ak, .int .i64 fl, .int .i64 wn, .int .i64 ur, .slice AO no co] 40))
  have BOX := Lib.hid (Blk.new w 40 #[.int .i64 sp, .int .i64 dp, .int .u32 sq, .int .u32 ak, .int .i64 fl, .int .i64 wn, .int .i64 ur, .slice AO no co])
  have HZ := Lib.hid (show (w.alloc (.cells #[.int .i64 sp, .int .i64 dp, .int .u32 sq, .int .u32 ak, .int .i64 fl, .int .i64 wn, .int .i64 ur, .slice AO no co] 40)).heap.size = w.heap.size + 1 by simp)
  go_enter Try.func24, Try.ntmps24
  go_wp2_with fail
  go_loopw [21, 4] (fun i _ wr => ∃ j : Nat, j ≤ 5 ∧ i = .int .i64 j ∧ Below (w.heap.size + 1) (w.alloc (.cells #[.int .i64 sp, .int .i64 dp, .int .u32 sq, .int .u32 ak, .int .i64 fl, .int .i64 wn, .int .i64 ur, .slice AO no co] 40)) wr) (fun i _ _ => 5 - (intOf i).toNat)
  case atStart => exact ⟨0, by omega, rfl, Below.refl _ _⟩
  case round =>
    obtain ⟨j, hj, rfl, hbel⟩ := hrel
    have HB := Lib.hid hbel
    have o7 : wr.cell? ⟨w.heap.size, 7, none⟩ = some (.slice AO no co) := (hbel.cell (p := ⟨w.heap.size, 7, none⟩) (Nat.lt_succ_self _)).trans (BOX.out.cell 7)
    have HS := Lib.hid (show w.heap.size + 1 ≤ wr.heap.size from Nat.le_trans (Nat.le_of_eq HZ.out.symm) hbel.size)
    clear hbel
    have hcase : j = 0 ∨ j = 1 ∨ j = 2 ∨ j = 3 ∨ j = 4 ∨ j = 5 := by omega
    rcases hcase with rfl | rfl | rfl | rfl | rfl | rfl
    · go_wp2_with fail
      go_roundw
      case rel => exact ⟨1, by omega, by go_num, HB.out.alloc HS.out _⟩
      case measure => simp [intOf]
    · go_wp2_with fail
      go_roundw
      case rel => exact ⟨2, by omega, by go_num, HB.out.alloc HS.out _⟩
      case measure => simp [intOf]
    · go_wp2_with fail
      go_roundw
      case rel => exact ⟨3, by omega, by go_num, HB.out.alloc HS.out _⟩
      case measure => simp [intOf]
    · go_wp2_with fail
      go_roundw
      case rel => exact ⟨4, by omega, by go_num, HB.out.alloc HS.out _⟩
      case measure => simp [intOf]
    · go_wp2_with fail
      go_roundw
      case rel => exact ⟨5, by omega, by go_num, HB.out.alloc HS.out _⟩
      case measure => simp [intOf]
    · go_wp2_with fail
      go_ret
      exact ⟨rfl, HBX.out.trans ((HB.out : Below (w.heap.size + 1) _ _).mono (Nat.le_succ _))⟩
theorem right_no (sp dp sq ak fl wn ur : Int) (AO : Option Addr) (no co : Nat) (w : World) (h : ¬ okH sp dp wn ur fl no) :
    Calls Try.prog 24 #[.agg #[.int .i64 sp, .int .i64 dp, .int .u32 sq, .int .u32 ak, .int .i64 fl, .int .i64 wn, .int .i64 ur, .slice AO no co]] w fun e w' => e = .returned (.bool false) ∧ Below w.heap.size w w' := by
  rcases not_ok sp dp wn ur fl no h with h | h | h | h | h | h | h | h | h | h | h | h
  · exact right_no0 sp dp sq ak fl wn ur AO no co w h
  · exact right_no1 sp dp sq ak fl wn ur AO no co w h
  · exact right_no2 sp dp sq ak fl wn ur AO no co w h
  · exact right_no3 sp dp sq ak fl wn ur AO no co w h
  · exact right_no4 sp dp sq ak fl wn ur AO no co w h
  · exact right_no5 sp dp sq ak fl wn ur AO no co w h
  · exact right_no6 sp dp sq ak fl wn ur AO no co w h
  · exact right_no7 sp dp sq ak fl wn ur AO no co w h
  · exact right_no8 sp dp sq ak fl wn ur AO no co w h
  · exact right_no9 sp dp sq ak fl wn ur AO no co w h
  · exact right_no10 sp dp sq ak fl wn ur AO no co w h
  · exact right_no11 sp dp sq ak fl wn ur AO no co w h
end Go.Proofs.Ytjgeknkfinaimaa.tcpK
