/- Layer 10: headers that may be. -/
import Derived.Test.YtjgeknkfinaimaaTcpF
import Derived.Test.YtjgeknkfinaimaaOctK
namespace Go.Proofs.Ytjgeknkfinaimaa.tcpI
open Go.ChangeShapes Go.WideShapes Go.ChangeAt Go.RowKit
open Go.Proofs.Ytjgeknkfinaimaa.base Go.Proofs.Ytjgeknkfinaimaa.sumA Go.Proofs.Ytjgeknkfinaimaa.sumB Go.Proofs.Ytjgeknkfinaimaa.octA Go.Proofs.Ytjgeknkfinaimaa.octB Go.Proofs.Ytjgeknkfinaimaa.octC Go.Proofs.Ytjgeknkfinaimaa.octE Go.Proofs.Ytjgeknkfinaimaa.octF Go.Proofs.Ytjgeknkfinaimaa.octK Go.Proofs.Ytjgeknkfinaimaa.rdrA Go.Proofs.Ytjgeknkfinaimaa.udpA Go.Proofs.Ytjgeknkfinaimaa.udpE Go.Proofs.Ytjgeknkfinaimaa.tcpC Go.Proofs.Ytjgeknkfinaimaa.tcpD Go.Proofs.Ytjgeknkfinaimaa.tcpE
set_option linter.unusedVariables false

set_option maxRecDepth 100000 in
set_option maxHeartbeats 1000000 in
theorem right_yes (sp dp sq ak fl wn ur : Int) (AO : Option Addr) (no co : Nat) (w : World) (h1 : 0 ≤ sp) (h2 : sp ≤ 65535) (h3 : 0 ≤ dp) (h4 : dp ≤ 65535) (h9 : 0 ≤ fl) (h10 : fl ≤ 255) (h11 : 0 ≤ wn) (h12 : wn ≤ 65535) (h13 : 0 ≤ ur) (h14 : ur ≤ 65535) (ho : no ≤ 40) (hm : no % 4 = 0) :
    Calls Try.prog 24 #[.agg #[.int .i64 sp, .int .i64 dp, .int .u32 sq, .int .u32 ak, .int .i64 fl, .int .i64 wn, .int .i64 ur, .slice AO no co]] w fun e w' => e = .returned (.bool true) ∧ Below w.heap.size w w' := by
  have i0 : ∀ w, (Instr.index 67 (.agg #[.int .i64 sp, .int .i64 65535, .int .i64 dp, .int .i64 65535, .int .i64 wn, .int .i64 65535, .int .i64 ur, .int .i64 65535, .int .i64 fl, .int .i64 255]) (.int .i64 0)).run Try.prog w = .ok (.agg #[.int .i64 sp, .int .i64 65535]) w := fun _ => by kernel_rfl
  have i1 : ∀ w, (Instr.index 67 (.agg #[.int .i64 sp, .int .i64 65535, .int .i64 dp, .int .i64 65535, .int .i64 wn, .int .i64 65535, .int .i64 ur, .int .i64 65535, .int .i64 fl, .int .i64 255]) (.int .i64 1)).run Try.prog w = .ok (.agg #[.int .i64 dp, .int .i64 65535]) w := fun _ => by kernel_rfl
  have i2 : ∀ w, (Instr.index 67 (.agg #[.int .i64 sp, .int .i64 65535, .int .i64 dp, .int .i64 65535, .int .i64 wn, .int .i64 65535, .int .i64 ur, .int .i64 65535, .int .i64 fl, .int .i64 255]) (.int .i64 2)).run Try.prog w = .ok (.agg #[.int .i64 wn, .int .i64 65535]) w := fun _ => by kernel_rfl
  have i3 : ∀ w, (Instr.index 67 (.agg #[.int .i64 sp, .int .i64 65535, .int .i64 dp, .int .i64 65535, .int .i64 wn, .int .i64 65535, .int .i64 ur, .int .i64 65535, .int .i64 fl, .int .i64 255]) (.int .i64 3)).run Try.prog w = .ok (.agg #[.int .i64 ur, .int .i64 65535]) w := fun _ => by kernel_rfl
  have i4 : ∀ w, (Instr.index 67 (.agg #[.int .i64 sp, .int .i64 65535, .int .i64 dp, .int .i64 65535, .int .i64 wn, .int .i64 65535, .int .i64 ur, .int .i64 65535, .int .i64 fl, .int .i64 255]) (.int .i64 4)).run Try.prog w = .ok (.agg #[.int .i64 fl, .int .i64 255]) w := fun _ => by kernel_rfl
  have t0 : (((no : Int) % 4) == 0) = true := eqT (by omega)
  have HBX := Lib.hid ((Below.refl w.heap.size w).alloc (Nat.le_refl _) (.cells #[.int .i64 sp, .int .i64 dp, .int .u32 sq, .int .u32 ak, .int .i64 fl, .int .i64 wn, .int .i64 ur, .slice AO no co] 40))
  have BOX := Lib.hid (Blk.new w 40 #[.int .i64 sp, .int .i64 dp, .int .u32 sq, .int .u32 ak, .int .i64 fl, .int .i64 wn, .int .i64 ur, .slice AO no co])
  have HZ := Lib.hid (show (w.alloc (.cells #[.int .i64 sp, .int .i64 dp, .int .u32 sq, .int .u32 ak, .int .i64 fl, .int .i64 wn, .int .i64 ur, .slice AO no co] 40)).heap.size = w.heap.size + 1 by simp)
  go_enter Try.func24, Try.ntmps24
  go_wp2_with fail
  go_loopw [21, 4] (fun i _ wr => ∃ j : Nat, j ≤ 5 ∧ i = .int .i64 j ∧ Below (w.heap.size + 1) (w.alloc (.cells #[.int .i64 sp, .int .i64 dp, .int .u32 sq, .int .u32 ak, .int .i64 fl, .int .i64 wn, .int .i64 ur, .slice AO no co] 40)) wr) (fun i _ _ => 5 - (intOf i).toNat)
  case atStart => exact ⟨0, by omega, rfl, Below.refl _ _⟩
  case round =>
    obtain ⟨j, hj, rfl, hbel⟩ := hrel
    have HB := Lib.hid hbel
    have o7 : wr.cell? ⟨w.heap.size, 7, none⟩ = some (.slice AO no co) := (hbel.cell (p := ⟨w.heap.size, 7, none⟩) (Nat.lt_succ_self _)).trans (BOX.out.cell 7)
    have HS := Lib.hid (show w.heap.size + 1 ≤ wr.heap.size from Nat.le_trans (Nat.le_of_eq HZ.out.symm) hbel.size)
    clear hbel
    have hcase : j = 0 ∨ j = 1 ∨ j = 2 ∨ j = 3 ∨ j = 4 ∨ j = 5 := by omega
    rcases hcase with rfl | rfl | rfl | rfl | rfl | rfl
    · have q1 : decide (sp < 0) = false := decide_eq_false (by omega)
      have q2 : decide (65535 < sp) = false := decide_eq_false (by omega)
      go_wp2_with fail
      go_roundw
      case rel => exact ⟨1, by omega, by go_num, HB.out.alloc HS.out _⟩
      case measure => simp [intOf]
    · have q1 : decide (dp < 0) = false := decide_eq_false (by omega)
      have q2 : decide (65535 < dp) = false := decide_eq_false (by omega)
      go_wp2_with fail
      go_roundw
      case rel => exact ⟨2, by omega, by go_num, HB.out.alloc HS.out _⟩
      case measure => simp [intOf]
    · have q1 : decide (wn < 0) = false := decide_eq_false (by omega)
      have q2 : decide (65535 < wn) = false := decide_eq_false (by omega)
      go_wp2_with fail
      go_roundw
      case rel => exact ⟨3, by omega, by go_num, HB.out.alloc HS.out _⟩
      case measure => simp [intOf]
    · have q1 : decide (ur < 0) = false := decide_eq_false (by omega)
      have q2 : decide (65535 < ur) = false := decide_eq_false (by omega)
      go_wp2_with fail
      go_roundw
      case rel => exact ⟨4, by omega, by go_num, HB.out.alloc HS.out _⟩
      case measure => simp [intOf]
    · have q1 : decide (fl < 0) = false := decide_eq_false (by omega)
      have q2 : decide (255 < fl) = false := decide_eq_false (by omega)
      go_wp2_with fail
      go_roundw
      case rel => exact ⟨5, by omega, by go_num, HB.out.alloc HS.out _⟩
      case measure => simp [intOf]
    · go_wp2_with fail
      go_ret
      exact ⟨rfl, HBX.out.trans (HB.out.mono (Nat.le_succ _))⟩
end Go.Proofs.Ytjgeknkfinaimaa.tcpI
