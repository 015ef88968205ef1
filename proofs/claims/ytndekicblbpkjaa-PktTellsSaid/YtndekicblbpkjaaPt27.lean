/- 6 texts in one. -/
import Derived.Deep.RegionHeld3
import Derived.Deep.DeepCutAuto
import Derived.Test.YtndekicblbpkjaaPt23
import Derived.Test.YtndekicblbpkjaaPt24
import Derived.Test.YtndekicblbpkjaaPt25
import Derived.Test.YtndekicblbpkjaaPt26
/- Layer 8: what an address must be. -/
namespace Go.Proofs.Ytndekicblbpkjaa.fourOn
open Go.ChangeShapes Go.WideShapes Go.ChangeAt Go.RowKit
open Go.Proofs.Ytndekicblbpkjaa.base Go.Proofs.Ytndekicblbpkjaa.rdrA Go.Proofs.Ytndekicblbpkjaa.net Go.Proofs.Ytndekicblbpkjaa.fourC
set_option linter.unusedVariables false

def okA (v6 : Bool) (h l : Int) : Prop := v6 = false ∧ h = 0 ∧ l ≤ 4294967295
def okG (tos id fr ttl pr : Int) (s6 : Bool) (sh sl : Int) (d6 : Bool) (dh dl : Int) (no : Nat) : Prop := (0 ≤ tos ∧ tos ≤ 255) ∧ (0 ≤ ttl ∧ ttl ≤ 255) ∧ (0 ≤ pr ∧ pr ≤ 255) ∧ (0 ≤ id ∧ id ≤ 65535) ∧ (0 ≤ fr ∧ fr ≤ 8191) ∧ okA s6 sh sl ∧ okA d6 dh dl ∧ no ≤ 40 ∧ no % 4 = 0
theorem addr_yes (x : Int) (w : World) (h0 : 0 ≤ x) (h1 : x ≤ 4294967295) : Calls Try.prog 105 #[.agg #[.bool false, .int .u64 0, .int .u64 x]] w fun e w' => e = .returned (.bool true) ∧ Below w.heap.size w w' := addrright_yes x w h0 h1
theorem addr_no (h x : Int) (w : World) (hn : ¬ okA false h x) : Calls Try.prog 105 #[.agg #[.bool false, .int .u64 h, .int .u64 x]] w fun e w' => e = .returned (.bool false) ∧ Below w.heap.size w w' := by
  by_cases h0 : h = 0
  · have q1 : (h == 0) = true := eqT h0
    have q2 : decide (x < 4294967296) = false := decide_eq_false (fun hx => hn ⟨rfl, h0, by omega⟩)
    clear hn h0
    go_enter Try.func105, Try.ntmps105
    go_wp2
    go_ret
    exact ⟨rfl, (Below.refl _ _).alloc (Nat.le_refl _) _⟩
  · have q1 : (h == 0) = false := eqF h0
    clear hn h0
    go_enter Try.func105, Try.ntmps105
    go_wp2
    go_ret
    exact ⟨rfl, (Below.refl _ _).alloc (Nat.le_refl _) _⟩
end Go.Proofs.Ytndekicblbpkjaa.fourOn
/- Layer 8: headers that may not be: four says so. -/
namespace Go.Proofs.Ytndekicblbpkjaa.fourJn
open Go.ChangeShapes Go.WideShapes Go.ChangeAt Go.RowKit
open Go.Proofs.Ytndekicblbpkjaa.base Go.Proofs.Ytndekicblbpkjaa.sumB Go.Proofs.Ytndekicblbpkjaa.rdrA Go.Proofs.Ytndekicblbpkjaa.net Go.Proofs.Ytndekicblbpkjaa.fourOn
set_option linter.unusedVariables false

set_option maxRecDepth 100000 in
set_option maxHeartbeats 8000000 in
theorem right_no (tos id : Int) (df mf : Bool) (fr ttl pr : Int) (s6 : Bool) (sh sl : Int) (d6 : Bool) (dh dl : Int) (AO : Option Addr) (no co : Nat) (w : World) (l0 : 0 ≤ sl) (l1 : 0 ≤ dl) (h : ¬ okG tos id fr ttl pr s6 sh sl d6 dh dl no) :
    Calls Try.prog 101 #[.agg #[.int .i64 tos, .int .i64 id, .bool df, .bool mf, .int .i64 fr, .int .i64 ttl, .int .i64 pr, .bool s6, .int .u64 sh, .int .u64 sl, .bool d6, .int .u64 dh, .int .u64 dl, .slice AO no co]] w fun e w' => e = .returned (.bool false) ∧ Below w.heap.size w w' := by
  have i0 : ∀ w, (Instr.index 141 (.agg #[.int .i64 tos, .int .i64 255, .int .i64 ttl, .int .i64 255, .int .i64 pr, .int .i64 255, .int .i64 id, .int .i64 65535, .int .i64 fr, .int .i64 8191]) (.int .i64 0)).run Try.prog w = .ok (.agg #[.int .i64 tos, .int .i64 255]) w := fun _ => by kernel_rfl
  have i1 : ∀ w, (Instr.index 141 (.agg #[.int .i64 tos, .int .i64 255, .int .i64 ttl, .int .i64 255, .int .i64 pr, .int .i64 255, .int .i64 id, .int .i64 65535, .int .i64 fr, .int .i64 8191]) (.int .i64 1)).run Try.prog w = .ok (.agg #[.int .i64 ttl, .int .i64 255]) w := fun _ => by kernel_rfl
  have i2 : ∀ w, (Instr.index 141 (.agg #[.int .i64 tos, .int .i64 255, .int .i64 ttl, .int .i64 255, .int .i64 pr, .int .i64 255, .int .i64 id, .int .i64 65535, .int .i64 fr, .int .i64 8191]) (.int .i64 2)).run Try.prog w = .ok (.agg #[.int .i64 pr, .int .i64 255]) w := fun _ => by kernel_rfl
  have i3 : ∀ w, (Instr.index 141 (.agg #[.int .i64 tos, .int .i64 255, .int .i64 ttl, .int .i64 255, .int .i64 pr, .int .i64 255, .int .i64 id, .int .i64 65535, .int .i64 fr, .int .i64 8191]) (.int .i64 3)).run Try.prog w = .ok (.agg #[.int .i64 id, .int .i64 65535]) w := fun _ => by kernel_rfl
  have i4 : ∀ w, (Instr.index 141 (.agg #[.int .i64 tos, .int .i64 255, .int .i64 ttl, .int .i64 255, .int .i64 pr, .int .i64 255, .int .i64 id, .int .i64 65535, .int .i64 fr, .int .i64 8191]) (.int .i64 4)).run Try.prog w = .ok (.agg #[.int .i64 fr, .int .i64 8191]) w := fun _ => by kernel_rfl
  have k0 : ∀ w, (Instr.index 142 (.agg #[.bool s6, .int .u64 sh, .int .u64 sl, .bool d6, .int .u64 dh, .int .u64 dl]) (.int .i64 0)).run Try.prog w = .ok (.agg #[.bool s6, .int .u64 sh, .int .u64 sl]) w := fun _ => by kernel_rfl
  have k1 : ∀ w, (Instr.index 142 (.agg #[.bool s6, .int .u64 sh, .int .u64 sl, .bool d6, .int .u64 dh, .int .u64 dl]) (.int .i64 1)).run Try.prog w = .ok (.agg #[.bool d6, .int .u64 dh, .int .u64 dl]) w := fun _ => by kernel_rfl
  have HBAD := Lib.hid h
  have HBX := Lib.hid ((Below.refl w.heap.size w).alloc (Nat.le_refl _) (.cells #[.int .i64 tos, .int .i64 id, .bool df, .bool mf, .int .i64 fr, .int .i64 ttl, .int .i64 pr, .bool s6, .int .u64 sh, .int .u64 sl, .bool d6, .int .u64 dh, .int .u64 dl, .slice AO no co] 53))
  have BOX := Lib.hid (Blk.new w 53 #[.int .i64 tos, .int .i64 id, .bool df, .bool mf, .int .i64 fr, .int .i64 ttl, .int .i64 pr, .bool s6, .int .u64 sh, .int .u64 sl, .bool d6, .int .u64 dh, .int .u64 dl, .slice AO no co])
  have HZ := Lib.hid (show (w.alloc (.cells #[.int .i64 tos, .int .i64 id, .bool df, .bool mf, .int .i64 fr, .int .i64 ttl, .int .i64 pr, .bool s6, .int .u64 sh, .int .u64 sl, .bool d6, .int .u64 dh, .int .u64 dl, .slice AO no co] 53)).heap.size = w.heap.size + 1 by simp)
  clear h
  go_enter Try.func101, Try.ntmps101
  go_wp2_with fail
  go_loopw [23, 4] (fun i _ wr => ∃ j : Nat, j ≤ 5 ∧ i = .int .i64 j ∧ ((0 < j → 0 ≤ tos ∧ tos ≤ 255) ∧ (1 < j → 0 ≤ ttl ∧ ttl ≤ 255) ∧ (2 < j → 0 ≤ pr ∧ pr ≤ 255) ∧ (3 < j → 0 ≤ id ∧ id ≤ 65535) ∧ (4 < j → 0 ≤ fr ∧ fr ≤ 8191)) ∧ Below (w.heap.size + 1) (w.alloc (.cells #[.int .i64 tos, .int .i64 id, .bool df, .bool mf, .int .i64 fr, .int .i64 ttl, .int .i64 pr, .bool s6, .int .u64 sh, .int .u64 sl, .bool d6, .int .u64 dh, .int .u64 dl, .slice AO no co] 53)) wr) (fun i _ _ => 5 - (intOf i).toNat)
  case atStart => exact ⟨0, by omega, rfl, ⟨by omega, by omega, by omega, by omega, by omega⟩, Below.refl _ _⟩
  case round =>
    obtain ⟨j, hj, rfl, ⟨g0, g1, g2, g3, g4⟩, hbel⟩ := hrel
    have HB := Lib.hid hbel
    have HS := Lib.hid (show w.heap.size + 1 ≤ wr.heap.size from Nat.le_trans (Nat.le_of_eq HZ.out.symm) hbel.size)
    have o7 : wr.cell? ⟨w.heap.size, 7, none⟩ = some (.bool s6) := (hbel.cell (p := ⟨w.heap.size, 7, none⟩) (Nat.lt_succ_self _)).trans (BOX.out.cell 7)
    have o8 : wr.cell? ⟨w.heap.size, 8, none⟩ = some (.int .u64 sh) := (hbel.cell (p := ⟨w.heap.size, 8, none⟩) (Nat.lt_succ_self _)).trans (BOX.out.cell 8)
    have o9 : wr.cell? ⟨w.heap.size, 9, none⟩ = some (.int .u64 sl) := (hbel.cell (p := ⟨w.heap.size, 9, none⟩) (Nat.lt_succ_self _)).trans (BOX.out.cell 9)
    have o10 : wr.cell? ⟨w.heap.size, 10, none⟩ = some (.bool d6) := (hbel.cell (p := ⟨w.heap.size, 10, none⟩) (Nat.lt_succ_self _)).trans (BOX.out.cell 10)
    have o11 : wr.cell? ⟨w.heap.size, 11, none⟩ = some (.int .u64 dh) := (hbel.cell (p := ⟨w.heap.size, 11, none⟩) (Nat.lt_succ_self _)).trans (BOX.out.cell 11)
    have o12 : wr.cell? ⟨w.heap.size, 12, none⟩ = some (.int .u64 dl) := (hbel.cell (p := ⟨w.heap.size, 12, none⟩) (Nat.lt_succ_self _)).trans (BOX.out.cell 12)
    have o13 : wr.cell? ⟨w.heap.size, 13, none⟩ = some (.slice AO no co) := (hbel.cell (p := ⟨w.heap.size, 13, none⟩) (Nat.lt_succ_self _)).trans (BOX.out.cell 13)
    clear hbel
    have hcase : j = 0 ∨ j = 1 ∨ j = 2 ∨ j = 3 ∨ j = 4 ∨ j = 5 := by omega
    rcases hcase with rfl | rfl | rfl | rfl | rfl | rfl
    · clear o7 o8 o9 o10 o11 o12 o13
      by_cases b0 : tos < 0
      · have q1 : decide (tos < 0) = true := decide_eq_true b0
        clear g0 g1 g2 g3 g4 b0
        go_wp2_with fail
        go_ret
        exact ⟨rfl, HBX.out.trans ((HB.out.alloc HS.out _).mono (Nat.le_succ _))⟩
      by_cases b1 : 255 < tos
      · have q1 : decide (tos < 0) = false := decide_eq_false b0
        have q2 : decide (255 < tos) = true := decide_eq_true b1
        clear g0 g1 g2 g3 g4 b0 b1
        go_wp2_with fail
        go_ret
        exact ⟨rfl, HBX.out.trans ((HB.out.alloc HS.out _).mono (Nat.le_succ _))⟩
      have q1 : decide (tos < 0) = false := decide_eq_false b0
      have q2 : decide (255 < tos) = false := decide_eq_false b1
      have GN := Lib.hid (show (0 < 1 → 0 ≤ tos ∧ tos ≤ 255) ∧ (1 < 1 → 0 ≤ ttl ∧ ttl ≤ 255) ∧ (2 < 1 → 0 ≤ pr ∧ pr ≤ 255) ∧ (3 < 1 → 0 ≤ id ∧ id ≤ 65535) ∧ (4 < 1 → 0 ≤ fr ∧ fr ≤ 8191) from ⟨fun _ => ⟨by omega, by omega⟩, fun h => absurd h (by omega), fun h => absurd h (by omega), fun h => absurd h (by omega), fun h => absurd h (by omega)⟩)
      clear g0 g1 g2 g3 g4 b0 b1
      go_wp2_with fail
      go_roundw
      case rel => first | exact ⟨1, by omega, by go_num, GN.out, HB.out.alloc HS.out _⟩ | ((repeat apply Exists.intro); exact ⟨⟨1, by omega, by go_num, GN.out, HB.out.alloc HS.out _⟩, rfl⟩)
      case measure => simp [intOf]
    · clear o7 o8 o9 o10 o11 o12 o13
      by_cases b0 : ttl < 0
      · have q1 : decide (ttl < 0) = true := decide_eq_true b0
        clear g0 g1 g2 g3 g4 b0
        go_wp2_with fail
        go_ret
        exact ⟨rfl, HBX.out.trans ((HB.out.alloc HS.out _).mono (Nat.le_succ _))⟩
      by_cases b1 : 255 < ttl
      · have q1 : decide (ttl < 0) = false := decide_eq_false b0
        have q2 : decide (255 < ttl) = true := decide_eq_true b1
        clear g0 g1 g2 g3 g4 b0 b1
        go_wp2_with fail
        go_ret
        exact ⟨rfl, HBX.out.trans ((HB.out.alloc HS.out _).mono (Nat.le_succ _))⟩
      have q1 : decide (ttl < 0) = false := decide_eq_false b0
      have q2 : decide (255 < ttl) = false := decide_eq_false b1
      have GN := Lib.hid (show (0 < 2 → 0 ≤ tos ∧ tos ≤ 255) ∧ (1 < 2 → 0 ≤ ttl ∧ ttl ≤ 255) ∧ (2 < 2 → 0 ≤ pr ∧ pr ≤ 255) ∧ (3 < 2 → 0 ≤ id ∧ id ≤ 65535) ∧ (4 < 2 → 0 ≤ fr ∧ fr ≤ 8191) from ⟨fun _ => g0 (by omega), fun _ => ⟨by omega, by omega⟩, fun h => absurd h (by omega), fun h => absurd h (by omega), fun h => absurd h (by omega)⟩)
      clear g0 g1 g2 g3 g4 b0 b1
      go_wp2_with fail
      go_roundw
      case rel => first | exact ⟨2, by omega, by go_num, GN.out, HB.out.alloc HS.out _⟩ | ((repeat apply Exists.intro); exact ⟨⟨2, by omega, by go_num, GN.out, HB.out.alloc HS.out _⟩, rfl⟩)
      case measure => simp [intOf]
    · clear o7 o8 o9 o10 o11 o12 o13
      by_cases b0 : pr < 0
      · have q1 : decide (pr < 0) = true := decide_eq_true b0
        clear g0 g1 g2 g3 g4 b0
        go_wp2_with fail
        go_ret
        exact ⟨rfl, HBX.out.trans ((HB.out.alloc HS.out _).mono (Nat.le_succ _))⟩
      by_cases b1 : 255 < pr
      · have q1 : decide (pr < 0) = false := decide_eq_false b0
        have q2 : decide (255 < pr) = true := decide_eq_true b1
        clear g0 g1 g2 g3 g4 b0 b1
        go_wp2_with fail
        go_ret
        exact ⟨rfl, HBX.out.trans ((HB.out.alloc HS.out _).mono (Nat.le_succ _))⟩
      have q1 : decide (pr < 0) = false := decide_eq_false b0
      have q2 : decide (255 < pr) = false := decide_eq_false b1
      have GN := Lib.hid (show (0 < 3 → 0 ≤ tos ∧ tos ≤ 255) ∧ (1 < 3 → 0 ≤ ttl ∧ ttl ≤ 255) ∧ (2 < 3 → 0 ≤ pr ∧ pr ≤ 255) ∧ (3 < 3 → 0 ≤ id ∧ id ≤ 65535) ∧ (4 < 3 → 0 ≤ fr ∧ fr ≤ 8191) from ⟨fun _ => g0 (by omega), fun _ => g1 (by omega), fun _ => ⟨by omega, by omega⟩, fun h => absurd h (by omega), fun h => absurd h (by omega)⟩)
      clear g0 g1 g2 g3 g4 b0 b1
      go_wp2_with fail
      go_roundw
      case rel => first | exact ⟨3, by omega, by go_num, GN.out, HB.out.alloc HS.out _⟩ | ((repeat apply Exists.intro); exact ⟨⟨3, by omega, by go_num, GN.out, HB.out.alloc HS.out _⟩, rfl⟩)
      case measure => simp [intOf]
    · clear o7 o8 o9 o10 o11 o12 o13
      by_cases b0 : id < 0
      · have q1 : decide (id < 0) = true := decide_eq_true b0
        clear g0 g1 g2 g3 g4 b0
        go_wp2_with fail
        go_ret
        exact ⟨rfl, HBX.out.trans ((HB.out.alloc HS.out _).mono (Nat.le_succ _))⟩
      by_cases b1 : 65535 < id
      · have q1 : decide (id < 0) = false := decide_eq_false b0
        have q2 : decide (65535 < id) = true := decide_eq_true b1
        clear g0 g1 g2 g3 g4 b0 b1
        go_wp2_with fail
        go_ret
        exact ⟨rfl, HBX.out.trans ((HB.out.alloc HS.out _).mono (Nat.le_succ _))⟩
      have q1 : decide (id < 0) = false := decide_eq_false b0
      have q2 : decide (65535 < id) = false := decide_eq_false b1
      have GN := Lib.hid (show (0 < 4 → 0 ≤ tos ∧ tos ≤ 255) ∧ (1 < 4 → 0 ≤ ttl ∧ ttl ≤ 255) ∧ (2 < 4 → 0 ≤ pr ∧ pr ≤ 255) ∧ (3 < 4 → 0 ≤ id ∧ id ≤ 65535) ∧ (4 < 4 → 0 ≤ fr ∧ fr ≤ 8191) from ⟨fun _ => g0 (by omega), fun _ => g1 (by omega), fun _ => g2 (by omega), fun _ => ⟨by omega, by omega⟩, fun h => absurd h (by omega)⟩)
      clear g0 g1 g2 g3 g4 b0 b1
      go_wp2_with fail
      go_roundw
      case rel => first | exact ⟨4, by omega, by go_num, GN.out, HB.out.alloc HS.out _⟩ | ((repeat apply Exists.intro); exact ⟨⟨4, by omega, by go_num, GN.out, HB.out.alloc HS.out _⟩, rfl⟩)
      case measure => simp [intOf]
    · clear o7 o8 o9 o10 o11 o12 o13
      by_cases b0 : fr < 0
      · have q1 : decide (fr < 0) = true := decide_eq_true b0
        clear g0 g1 g2 g3 g4 b0
        go_wp2_with fail
        go_ret
        exact ⟨rfl, HBX.out.trans ((HB.out.alloc HS.out _).mono (Nat.le_succ _))⟩
      by_cases b1 : 8191 < fr
      · have q1 : decide (fr < 0) = false := decide_eq_false b0
        have q2 : decide (8191 < fr) = true := decide_eq_true b1
        clear g0 g1 g2 g3 g4 b0 b1
        go_wp2_with fail
        go_ret
        exact ⟨rfl, HBX.out.trans ((HB.out.alloc HS.out _).mono (Nat.le_succ _))⟩
      have q1 : decide (fr < 0) = false := decide_eq_false b0
      have q2 : decide (8191 < fr) = false := decide_eq_false b1
      have GN := Lib.hid (show (0 < 5 → 0 ≤ tos ∧ tos ≤ 255) ∧ (1 < 5 → 0 ≤ ttl ∧ ttl ≤ 255) ∧ (2 < 5 → 0 ≤ pr ∧ pr ≤ 255) ∧ (3 < 5 → 0 ≤ id ∧ id ≤ 65535) ∧ (4 < 5 → 0 ≤ fr ∧ fr ≤ 8191) from ⟨fun _ => g0 (by omega), fun _ => g1 (by omega), fun _ => g2 (by omega), fun _ => g3 (by omega), fun _ => ⟨by omega, by omega⟩⟩)
      clear g0 g1 g2 g3 g4 b0 b1
      go_wp2_with fail
      go_roundw
      case rel => first | exact ⟨5, by omega, by go_num, GN.out, HB.out.alloc HS.out _⟩ | ((repeat apply Exists.intro); exact ⟨⟨5, by omega, by go_num, GN.out, HB.out.alloc HS.out _⟩, rfl⟩)
      case measure => simp [intOf]
    · have G5 := Lib.hid (show (0 ≤ tos ∧ tos ≤ 255) ∧ (0 ≤ ttl ∧ ttl ≤ 255) ∧ (0 ≤ pr ∧ pr ≤ 255) ∧ (0 ≤ id ∧ id ≤ 65535) ∧ (0 ≤ fr ∧ fr ≤ 8191) from ⟨g0 (by omega), g1 (by omega), g2 (by omega), g3 (by omega), g4 (by omega)⟩)
      clear g0 g1 g2 g3 g4
      go_wp2_with fail
      clear o7 o8 o9 o10 o11 o12 o13
      obtain ⟨wo, rfl⟩ : ∃ wo : World, wo = wr := ⟨_, rfl⟩
      go_loopw [42, 6] (fun i _ wq => ∃ j : Nat, j ≤ 2 ∧ i = .int .i64 j ∧ ((0 < j → okA s6 sh sl) ∧ (1 < j → okA d6 dh dl)) ∧ Below (w.heap.size + 1) (w.alloc (.cells #[.int .i64 tos, .int .i64 id, .bool df, .bool mf, .int .i64 fr, .int .i64 ttl, .int .i64 pr, .bool s6, .int .u64 sh, .int .u64 sl, .bool d6, .int .u64 dh, .int .u64 dl, .slice AO no co] 53)) wq) (fun i _ _ => 2 - (intOf i).toNat)
      case atStart => exact ⟨0, by omega, rfl, ⟨by omega, by omega⟩, HB.out⟩
      case round =>
        obtain ⟨j, hj, rfl, ⟨a0, a1⟩, hbel⟩ := hrel
        have HB2 := Lib.hid hbel
        have HS2 := Lib.hid (show w.heap.size + 1 ≤ wr.heap.size from Nat.le_trans (Nat.le_of_eq HZ.out.symm) hbel.size)
        have o13 : wr.cell? ⟨w.heap.size, 13, none⟩ = some (.slice AO no co) := (hbel.cell (p := ⟨w.heap.size, 13, none⟩) (Nat.lt_succ_self _)).trans (BOX.out.cell 13)
        clear hbel
        have hcase : j = 0 ∨ j = 1 ∨ j = 2 := by omega
        rcases hcase with rfl | rfl | rfl
        · clear o13
          by_cases hA : okA s6 sh sl
          · have GN := Lib.hid (show (0 < 1 → okA s6 sh sl) ∧ (1 < 1 → okA d6 dh dl) from ⟨fun _ => hA, fun h => absurd h (by omega)⟩)
            have HA := Lib.hid (fun w => addr_yes sl w l0 hA.2.2)
            obtain ⟨rfl, rfl, _⟩ := hA
            clear a0 a1
            go_wp2_with fail
            refine (HA.out _).mono ?_
            rintro e w5 ⟨rfl, hb5⟩
            have HB5 := Lib.hid ((HB2.out.alloc HS2.out _).trans (hb5.mono (Nat.le_trans HS2.out (Below.size ((Below.refl 0 _).alloc (Nat.zero_le _) _)))))
            clear hb5
            go_wp2_with fail
            go_roundw
            case rel => first | exact ⟨1, by omega, by go_num, GN.out, HB5.out⟩ | ((repeat apply Exists.intro); exact ⟨⟨1, by omega, by go_num, GN.out, HB5.out⟩, rfl⟩)
            case measure => simp [intOf]
          · by_cases e1 : s6 = true
            · subst e1
              clear a0 a1 hA
              go_wp2_with fail
              go_ret
              exact ⟨rfl, HBX.out.trans ((HB2.out.alloc HS2.out _).mono (Nat.le_succ _))⟩
            · have e2 : s6 = false := by simpa using e1
              subst e2
              have HA := Lib.hid (fun w => addr_no sh sl w hA)
              clear a0 a1 hA e1
              go_wp2_with fail
              refine (HA.out _).mono ?_
              rintro e w5 ⟨rfl, hb5⟩
              have HB5 := Lib.hid ((HB2.out.alloc HS2.out _).trans (hb5.mono (Nat.le_trans HS2.out (Below.size ((Below.refl 0 _).alloc (Nat.zero_le _) _)))))
              clear hb5
              go_wp2_with fail
              go_ret
              exact ⟨rfl, HBX.out.trans (HB5.out.mono (Nat.le_succ _))⟩
        · clear o13
          by_cases hA : okA d6 dh dl
          · have GN := Lib.hid (show (0 < 2 → okA s6 sh sl) ∧ (1 < 2 → okA d6 dh dl) from ⟨fun _ => a0 (by omega), fun _ => hA⟩)
            have HA := Lib.hid (fun w => addr_yes dl w l1 hA.2.2)
            obtain ⟨rfl, rfl, _⟩ := hA
            clear a0 a1
            go_wp2_with fail
            refine (HA.out _).mono ?_
            rintro e w5 ⟨rfl, hb5⟩
            have HB5 := Lib.hid ((HB2.out.alloc HS2.out _).trans (hb5.mono (Nat.le_trans HS2.out (Below.size ((Below.refl 0 _).alloc (Nat.zero_le _) _)))))
            clear hb5
            go_wp2_with fail
            go_roundw
            case rel => first | exact ⟨2, by omega, by go_num, GN.out, HB5.out⟩ | ((repeat apply Exists.intro); exact ⟨⟨2, by omega, by go_num, GN.out, HB5.out⟩, rfl⟩)
            case measure => simp [intOf]
          · by_cases e1 : d6 = true
            · subst e1
              clear a0 a1 hA
              go_wp2_with fail
              go_ret
              exact ⟨rfl, HBX.out.trans ((HB2.out.alloc HS2.out _).mono (Nat.le_succ _))⟩
            · have e2 : d6 = false := by simpa using e1
              subst e2
              have HA := Lib.hid (fun w => addr_no dh dl w hA)
              clear a0 a1 hA e1
              go_wp2_with fail
              refine (HA.out _).mono ?_
              rintro e w5 ⟨rfl, hb5⟩
              have HB5 := Lib.hid ((HB2.out.alloc HS2.out _).trans (hb5.mono (Nat.le_trans HS2.out (Below.size ((Below.refl 0 _).alloc (Nat.zero_le _) _)))))
              clear hb5
              go_wp2_with fail
              go_ret
              exact ⟨rfl, HBX.out.trans (HB5.out.mono (Nat.le_succ _))⟩
        · have hb := HBAD.out
          have g5 := G5.out
          have ha0 := a0 (by omega)
          have ha1 := a1 (by omega)
          have hno : ¬ (no ≤ 40 ∧ no % 4 = 0) := fun hh => hb ⟨g5.1, g5.2.1, g5.2.2.1, g5.2.2.2.1, g5.2.2.2.2, ha0, ha1, hh.1, hh.2⟩
          clear hb g5 ha0 ha1 a0 a1
          by_cases n0 : no ≤ 40
          · have q1 : decide ((no : Int) ≤ 40) = true := decide_eq_true (by omega)
            have q3 : (((no : Int) % 4) == 0) = false := eqF (by omega)
            clear hno n0
            go_wp2_with fail
            go_ret
            exact ⟨rfl, HBX.out.trans (HB2.out.mono (Nat.le_succ _))⟩
          · have q1 : decide ((no : Int) ≤ 40) = false := decide_eq_false (by omega)
            clear hno n0
            go_wp2_with fail
            go_ret
            exact ⟨rfl, HBX.out.trans (HB2.out.mono (Nat.le_succ _))⟩
theorem bytes_wrong (tos id : Int) (df mf : Bool) (fr ttl pr : Int) (s6 : Bool) (sh sl : Int) (d6 : Bool) (dh dl : Int) (AO : Option Addr) (no co : Nat) (A : Option Addr) (n c : Nat) (w : World) (l0 : 0 ≤ sl) (l1 : 0 ≤ dl) (h : ¬ okG tos id fr ttl pr s6 sh sl d6 dh dl no) :
    Calls Try.prog 89 #[.agg #[.int .i64 tos, .int .i64 id, .bool df, .bool mf, .int .i64 fr, .int .i64 ttl, .int .i64 pr, .bool s6, .int .u64 sh, .int .u64 sl, .bool d6, .int .u64 dh, .int .u64 dl, .slice AO no co], .slice A n c] w fun e w' => e = .returned (.tuple #[.slice none 0 0, .int .i64 1]) ∧ Below w.heap.size w w' := by
  have HRT := Lib.hid (fun w => right_no tos id df mf fr ttl pr s6 sh sl d6 dh dl AO no co w l0 l1 h)
  have HB0 := Lib.hid (show Below w.heap.size w (w.alloc (.cells #[.int .i64 tos, .int .i64 id, .bool df, .bool mf, .int .i64 fr, .int .i64 ttl, .int .i64 pr, .bool s6, .int .u64 sh, .int .u64 sl, .bool d6, .int .u64 dh, .int .u64 dl, .slice AO no co] 53)) from (Below.refl _ _).alloc (Nat.le_refl _) _)
  clear h
  go_enter Try.func89, Try.ntmps89
  go_wp2_with fail
  refine (HRT.out _).mono ?_
  rintro e w1 ⟨rfl, hb⟩
  have HB := Lib.hid (bel_call HB0.out hb)
  clear hb
  go_wp2_with fail
  go_ret2
  exact ⟨rfl, HB.out⟩
end Go.Proofs.Ytndekicblbpkjaa.fourJn
/- Layer 13: a datagram that is made. -/
namespace Go.Proofs.Ytndekicblbpkjaa.pktM
open Go.ChangeShapes Go.WideShapes Go.ChangeAt Go.RowKit
open Go.Proofs.Ytndekicblbpkjaa.base Go.Proofs.Ytndekicblbpkjaa.rdrA Go.Proofs.Ytndekicblbpkjaa.rdrG Go.Proofs.Ytndekicblbpkjaa.sumA Go.Proofs.Ytndekicblbpkjaa.sumB Go.Proofs.Ytndekicblbpkjaa.sixW Go.Proofs.Ytndekicblbpkjaa.sixM Go.Proofs.Ytndekicblbpkjaa.pktA Go.Proofs.Ytndekicblbpkjaa.pktB Go.Proofs.Ytndekicblbpkjaa.pktL
set_option linter.unusedVariables false

def udpM (sp dp : Int) (pl ps : List Int) : Int × List Int := if 0 ≤ sp ∧ sp ≤ 65535 ∧ 0 ≤ dp ∧ dp ≤ 65535 then (0, udpB.ub sp dp pl (udpB.chkZ (ps ++ udpB.ub sp dp pl 0))) else (1, [])
theorem udp_bytes (sp dp : Int) (A A2 : Option Addr) (n c n2 c2 : Nat) (pl ps : List Int) (w : World) (h : Sl w A n c pl) (h2 : Sl w A2 n2 c2 ps) (hn : n ≤ 1000) (hn2 : n2 ≤ 1000) :
    Calls Try.prog 65 #[.agg #[.int .i64 sp, .int .i64 dp, .bool false], .slice A n c, .slice A2 n2 c2] w (MkP (udpM sp dp pl ps).1 (udpM sp dp pl ps).2 w) := by
  unfold udpM
  by_cases hp : 0 ≤ sp ∧ sp ≤ 65535 ∧ 0 ≤ dp ∧ dp ≤ 65535
  · rw [if_pos hp]
    have key : Calls Try.prog 65 #[.agg #[.int .i64 sp, .int .i64 dp, .bool false], .slice A n c, .slice A2 n2 c2] w (udpB.BPost w (8 + n) (udpB.ub sp dp pl (udpB.chkZ (ps ++ udpB.ub sp dp pl 0)))) := by
      by_cases h0 : n = 0
      · exact udpC.bytes_eight_sum sp dp A A2 n c n2 c2 pl ps w hp h.len (by omega) h0 h.row h.u8 h2.len hn2 h2.row h2.u8
      · exact udpC.bytes_far_sum sp dp A A2 n c n2 c2 pl ps w hp h.len (by omega) h0 h.row h.u8 h2.len hn2 h2.row h2.u8
    refine key.mono ?_
    rintro o w' ⟨v, rfl, h3, h4⟩
    obtain ⟨B, d, rfl⟩ := own_slice h3
    exact ⟨h4, B, _, d, rfl, Sl.own h3 (by rw [udpB.ub_len, h.len]) (udpB.ub_in sp dp pl _ h.u8)⟩
  · rw [if_neg hp]
    refine (udpB.bytes_wrong sp dp false A A2 n c n2 c2 w hp).mono ?_
    rintro o w' ⟨rfl, h4⟩
    exact MkP.nil_ h4
def fourM (ttl pr sh sl : Int) (d6 : Bool) (dh dl : Int) (bl : List Int) : Int × List Int := if (0 ≤ ttl ∧ ttl ≤ 255) ∧ (0 ≤ pr ∧ pr ≤ 255) ∧ (sh = 0 ∧ sl ≤ 4294967295) ∧ (d6 = false ∧ dh = 0 ∧ dl ≤ 4294967295) then
  (0, fourD.hk 0 0 0 ttl pr sl dl (65535 - fo (wsum (fourD.hk 0 0 0 ttl pr sl dl 0 (20 + ((0 : Nat) : Int) + (bl.length : Int)) []))) (20 + ((0 : Nat) : Int) + (bl.length : Int)) [] ++ bl) else (1, [])
theorem four_bytes (ttl pr sh sl : Int) (d6 : Bool) (dh dl : Int) (A : Option Addr) (n c : Nat) (bl : List Int) (w : World) (h : Sl w A n c bl) (hn : n ≤ 900) (l0 : 0 ≤ sl) (l1 : 0 ≤ dl) :
    Calls Try.prog 89 #[.agg #[.int .i64 0, .int .i64 0, .bool false, .bool false, .int .i64 0, .int .i64 ttl, .int .i64 pr, .bool false, .int .u64 sh, .int .u64 sl, .bool d6, .int .u64 dh, .int .u64 dl, .slice none 0 0], .slice A n c] w (MkP (fourM ttl pr sh sl d6 dh dl bl).1 (fourM ttl pr sh sl d6 dh dl bl).2 w) := by
  have hl := h.len
  unfold fourM
  by_cases hp : (0 ≤ ttl ∧ ttl ≤ 255) ∧ (0 ≤ pr ∧ pr ≤ 255) ∧ (sh = 0 ∧ sl ≤ 4294967295) ∧ (d6 = false ∧ dh = 0 ∧ dl ≤ 4294967295)
  · rw [if_pos hp]
    obtain ⟨h1, h2, ⟨rfl, h3⟩, rfl, rfl, h4⟩ := hp
    subst hl
    refine (fourE.bytes_any 0 0 false false 0 ttl pr sl dl none 0 0 [] A bl.length c bl w ⟨by omega, by omega, by omega, h1, h2, ⟨l0, h3⟩, ⟨l1, h4⟩, by omega, by omega⟩ rfl (.inl rfl) (fun _ => rfl) (fun x hx => by cases hx) rfl hn h.row h.nil _ rfl).mono ?_
    rintro o w' ⟨v, rfl, h5, h6⟩
    obtain ⟨B, d, rfl⟩ := own_slice h5
    refine ⟨h6, B, _, d, rfl, Sl.own h5 rfl ?_⟩
    have hin := fourD.hk_in 0 0 0 ttl pr sl dl 0 (20 + ((0 : Nat) : Int) + (bl.length : Int)) [] (by omega) (by omega) (by omega) h1 h2 ⟨l0, h3⟩ ⟨l1, h4⟩ (by omega) (by omega) (by simp) (fun x hx => by cases hx)
    have hck := fo_bd _ (wsum_bd _ hin).1
    exact U8.join (fourD.hk_in 0 0 0 ttl pr sl dl _ (20 + ((0 : Nat) : Int) + (bl.length : Int)) [] (by omega) (by omega) (by omega) h1 h2 ⟨l0, h3⟩ ⟨l1, h4⟩ (by omega) (by omega) (by simp) (fun x hx => by cases hx)) h.u8
  · rw [if_neg hp]
    refine (fourJn.bytes_wrong 0 0 false false 0 ttl pr false sh sl d6 dh dl none 0 0 A n c w l0 l1 (fun ⟨_, a, b, _, _, ⟨_, c1, c2⟩, ⟨d1, d2, d3⟩, _⟩ => hp ⟨a, b, ⟨c1, c2⟩, d1, d2, d3⟩)).mono ?_
    rintro o w' ⟨rfl, h4⟩
    exact MkP.nil_ h4
set_option maxHeartbeats 4000000 in
theorem dg_closure (pr : Int) (s6 : Bool) (sh sl : Int) (d6 : Bool) (dh dl sp dp : Int) (c1 c2 : Nat) (A A2 : Option Addr) (n c n2 cc2 : Nat) (e : Int) (bs : List Int) (w : World)
    (K1 : Blk w c1 48 #[.int .i64 pr, .bool s6, .int .u64 sh, .int .u64 sl, .bool d6, .int .u64 dh, .int .u64 dl, .int .i64 sp, .int .i64 dp]) (K2 : Blk w c2 22 #[.slice A n c])
    (HC : Hid (Calls Try.prog 65 #[.agg #[.int .i64 sp, .int .i64 dp, .bool false], .slice A n c, .slice A2 n2 cc2] w (MkP e bs w))) :
    Calls Try.prog 64 #[.slice A2 n2 cc2, .pointer (some ⟨c1, 0, none⟩), .pointer (some ⟨c2, 0, none⟩)] w (MkP e bs w) := by
  have p7 := K1.cell 7
  have p8 := K1.cell 8
  have q0 := K2.cell 0
  go_enter Try.func64, Try.ntmps64
  go_wp2_with fail
  refine HC.out.mono ?_
  rintro o w4 ⟨hb4, A4, n4, c4, rfl, hs4⟩
  go_wp2_with fail
  go_ret2
  exact ⟨hb4, A4, n4, c4, rfl, hs4⟩
set_option maxHeartbeats 4000000 in
theorem dgram_not (pr : Int) (s6 : Bool) (sh sl : Int) (d6 : Bool) (dh dl sp dp ttl : Int) (A : Option Addr) (n c : Nat) (w : World) (h : pr ≠ 17 ∨ s6 ≠ d6) :
    Calls Try.prog 33 #[.agg #[.int .i64 pr, .bool s6, .int .u64 sh, .int .u64 sl, .bool d6, .int .u64 dh, .int .u64 dl, .int .i64 sp, .int .i64 dp], .int .i64 ttl, .slice A n c] w (MkP 1 [] w) := by
  have B0 := Lib.hid (show Below w.heap.size w ((w.alloc (.cells #[.int .i64 pr, .bool s6, .int .u64 sh, .int .u64 sl, .bool d6, .int .u64 dh, .int .u64 dl, .int .i64 sp, .int .i64 dp] 48)).alloc (.cells #[.slice A n c] 22)) from ((Below.refl _ _).alloc (Nat.le_refl _) _).alloc (by simp) _)
  by_cases h17 : pr = 17
  · have h2 : s6 ≠ d6 := by rcases h with h | h <;> first | omega | exact h
    subst h17
    have tv : (s6 == d6) = false := by simpa using h2
    clear h h2
    go_enter Try.func33, Try.ntmps33
    go_wp2_with fail
    go_ret2
    exact MkP.nil_ B0.out
  · have t17 : (pr != 17) = true := by simpa using h17
    clear h h17
    go_enter Try.func33, Try.ntmps33
    go_wp2_with fail
    go_ret2
    exact MkP.nil_ B0.out
set_option maxHeartbeats 4000000 in
theorem dgram_go (s6 : Bool) (sh sl : Int) (dh dl sp dp ttl : Int) (A : Option Addr) (n c : Nat) (e : Int) (bs : List Int) (w : World) (hn : n ≤ 1000)
    (HW : Hid (∀ V c1 c2, Below w.heap.size w V → Blk V c1 48 #[.int .i64 17, .bool s6, .int .u64 sh, .int .u64 sl, .bool s6, .int .u64 dh, .int .u64 dl, .int .i64 sp, .int .i64 dp] → Blk V c2 22 #[.slice A n c] → Calls Try.prog 63 #[.agg #[.int .i64 17, .bool s6, .int .u64 sh, .int .u64 sl, .bool s6, .int .u64 dh, .int .u64 dl, .int .i64 sp, .int .i64 dp], .int .i64 ttl, .int .i64 (8 + (n : Int)), .func (.func 64) #[] #[.pointer (some ⟨c1, 0, none⟩), .pointer (some ⟨c2, 0, none⟩)]] V (MkP e bs V))) :
    Calls Try.prog 33 #[.agg #[.int .i64 17, .bool s6, .int .u64 sh, .int .u64 sl, .bool s6, .int .u64 dh, .int .u64 dl, .int .i64 sp, .int .i64 dp], .int .i64 ttl, .slice A n c] w (MkP e bs w) := by
  have hmf : ∀ (fn : Fn) (first cap : Array Value) (w : World), (Instr.makeFunc fn first cap).run Try.prog w = .ok (.func fn first cap) w := fun _ _ _ _ => rfl
  obtain ⟨w1, hw1⟩ : ∃ w1, w1 = (w.alloc (.cells #[.int .i64 17, .bool s6, .int .u64 sh, .int .u64 sl, .bool s6, .int .u64 dh, .int .u64 dl, .int .i64 sp, .int .i64 dp] 48)).alloc (.cells #[.slice A n c] 22) := ⟨_, rfl⟩
  have E1 := Lib.hid hw1
  have B1 := Lib.hid (show Below w.heap.size w w1 from by rw [hw1]; exact ((Below.refl _ _).alloc (Nat.le_refl _) _).alloc (by simp) _)
  obtain ⟨g, hg⟩ : ∃ g, g = w.heap.size := ⟨_, rfl⟩
  obtain ⟨q, hq⟩ : ∃ q, q = w.heap.size + 1 := ⟨_, rfl⟩
  have EG := Lib.hid hg
  have EQ := Lib.hid hq
  have KP := Lib.hid (show Blk w1 g 48 #[.int .i64 17, .bool s6, .int .u64 sh, .int .u64 sl, .bool s6, .int .u64 dh, .int .u64 dl, .int .i64 sp, .int .i64 dp] from by rw [hw1, hg]; exact (Blk.new w _ _).below ((Below.refl _ _).alloc (Nat.le_refl _) _) (Blk.new w _ _).lt)
  have KQ := Lib.hid (show Blk w1 q 22 #[.slice A n c] from by
    have h9 := Blk.new (w.alloc (.cells #[.int .i64 17, .bool s6, .int .u64 sh, .int .u64 sl, .bool s6, .int .u64 dh, .int .u64 dl, .int .i64 sp, .int .i64 dp] 48)) 22 #[.slice A n c]
    rw [← hw1] at h9
    rw [hq]
    simpa using h9)
  have HW1 := Lib.hid (HW.out w1 g q B1.out KP.out KQ.out)
  have tv : (s6 == s6) = true := by simp
  clear hw1 hg hq
  go_enter Try.func33, Try.ntmps33
  go_upto_region 1 with fail
  rw [← E1.out, ← EQ.out, ← EG.out]
  have p0 := KP.out.cell 0
  have p1 := KP.out.cell 1
  have p2 := KP.out.cell 2
  have p3 := KP.out.cell 3
  have p4 := KP.out.cell 4
  have p5 := KP.out.cell 5
  have p6 := KP.out.cell 6
  have p7 := KP.out.cell 7
  have p8 := KP.out.cell 8
  have q0 := KQ.out.cell 0
  go_wp2_with fail
  refine HW1.out.mono ?_
  rintro o w4 ⟨hb4, A4, n4, c4, rfl, hs4⟩
  have B4 := Lib.hid (B1.out.trans (hb4.mono B1.out.size))
  clear hb4
  go_wp2_with fail
  go_ret2
  exact ⟨B4.out, A4, n4, c4, rfl, hs4⟩
end Go.Proofs.Ytndekicblbpkjaa.pktM
/- Layer 13: the datagram of the chapter's example. -/
namespace Go.Proofs.Ytndekicblbpkjaa.pktMe
open Go.ChangeShapes Go.WideShapes Go.ChangeAt Go.RowKit
open Go.Proofs.Ytndekicblbpkjaa.base Go.Proofs.Ytndekicblbpkjaa.octA Go.Proofs.Ytndekicblbpkjaa.rdrA Go.Proofs.Ytndekicblbpkjaa.rdrG Go.Proofs.Ytndekicblbpkjaa.sumA Go.Proofs.Ytndekicblbpkjaa.sumB Go.Proofs.Ytndekicblbpkjaa.sixW Go.Proofs.Ytndekicblbpkjaa.sixM Go.Proofs.Ytndekicblbpkjaa.pktA Go.Proofs.Ytndekicblbpkjaa.pktB Go.Proofs.Ytndekicblbpkjaa.pktL Go.Proofs.Ytndekicblbpkjaa.pktM
set_option linter.unusedVariables false

def exU : List Int := [0, 0, 0, 53, 0, 8, 255, 169]
def exB : List Int := [69, 0, 0, 28, 0, 0, 0, 0, 9, 17, 177, 210, 0, 0, 0, 0, 0, 0, 0, 0, 0, 0, 0, 53, 0, 8, 255, 169]
theorem ex_udp : udpB.ub 0 53 [] (udpB.chkZ (psd false 0 0 0 0 17 8 ++ udpB.ub 0 53 [] 0)) = exU := by kernel_rfl
theorem ex_four : fourD.hk 0 0 (fourC.flz false false 0) 9 17 0 0 (65535 - fo (wsum (fourD.hk 0 0 (fourC.flz false false 0) 9 17 0 0 0 (20 + ((0 : Nat) : Int) + ((8 : Nat) : Int)) []))) (20 + ((0 : Nat) : Int) + ((8 : Nat) : Int)) [] ++ exU = exB := by kernel_rfl
theorem dgram_ex (w : World) : Calls Try.prog 33 #[.agg #[.int .i64 17, .bool false, .int .u64 0, .int .u64 0, .bool false, .int .u64 0, .int .u64 0, .int .i64 0, .int .i64 53], .int .i64 9, .slice none 0 0] w (MkP 0 exB w) := by
  refine dgram_go false 0 0 0 0 0 53 9 none 0 0 _ _ w (by omega) (Lib.hid fun V c1 c2 hV k1 k2 => ?_)
  refine whole_dg_four 17 0 0 false 0 0 0 53 9 _ c1 c2 (psd false 0 0 0 0 17 8) exU _ _ V (Lib.hid fun W hW => psd_any false 0 0 false 0 0 17 8 W (by omega) (by omega) (by omega) (by omega) (by omega) (by omega)) (Lib.hid fun W A2 n2 k2' hW hs => ?_) (Lib.hid fun W A2 n2 k2' hW hs => ?_)
  · refine dg_closure 17 false 0 0 false 0 0 0 53 c1 c2 none A2 0 0 n2 k2' 0 exU W (k1.below hW k1.lt) (k2.below hW k2.lt) (Lib.hid ?_)
    refine (udpC.bytes_eight_sum 0 53 none A2 0 0 n2 k2' [] (psd false 0 0 0 0 17 8) W ⟨by omega, by omega, by omega, by omega⟩ rfl (by omega) rfl (.inl rfl) (fun x hx => by cases hx) hs.len (by have := hs.len; have := psd_len false 0 0 0 0 17 8; omega) hs.row hs.u8).mono ?_
    rintro o w' ⟨v, rfl, h3, h4⟩
    obtain ⟨B, d, rfl⟩ := own_slice h3
    rw [ex_udp] at h3
    exact ⟨h4, B, _, d, rfl, Sl.own h3 rfl (by intro x hx; simp [exU] at hx; omega)⟩
  · obtain rfl : n2 = 8 := hs.len.symm
    refine (fourE.bytes_any 0 0 false false 0 9 17 0 0 none 0 0 [] A2 8 k2' exU W ⟨by omega, by omega, by omega, by omega, by omega, by omega, by omega, by omega, by omega⟩ rfl (.inl rfl) (fun _ => rfl) (fun x hx => by cases hx) rfl (by omega) hs.row hs.nil _ rfl).mono ?_
    rintro o w' ⟨v, rfl, h5, h6⟩
    obtain ⟨B, d, rfl⟩ := own_slice h5
    rw [ex_four] at h5
    exact ⟨h6, B, exB.length, d, by rw [ex_four], Sl.own h5 rfl (by intro x hx; simp [exB] at hx; omega)⟩
end Go.Proofs.Ytndekicblbpkjaa.pktMe
/- Layer 13: the chapter's example. -/
namespace Go.Proofs.Ytndekicblbpkjaa.pktN
open Go.ChangeShapes Go.WideShapes Go.ChangeAt Go.RowKit
open Go.Proofs.Ytndekicblbpkjaa.base Go.Proofs.Ytndekicblbpkjaa.rdrA Go.Proofs.Ytndekicblbpkjaa.rdrG Go.Proofs.Ytndekicblbpkjaa.sixM Go.Proofs.Ytndekicblbpkjaa.pktA Go.Proofs.Ytndekicblbpkjaa.pktC Go.Proofs.Ytndekicblbpkjaa.pktD Go.Proofs.Ytndekicblbpkjaa.pktE Go.Proofs.Ytndekicblbpkjaa.pktG Go.Proofs.Ytndekicblbpkjaa.pktL Go.Proofs.Ytndekicblbpkjaa.pktMe
set_option linter.unusedVariables false

theorem ex_parse : pkP exB = (⟨false, ⟨17, false, 0, 0, false, 0, 0, 0, 53⟩, 9, 0, false, zeroT, 28⟩, 0) := by kernel_rfl
theorem ex_zero : pkP [0] = (zeroPk, 10) := by kernel_rfl
set_option maxHeartbeats 4000000 in
set_option maxRecDepth 100000 in
theorem awake_any (w : World) : Calls Try.prog 32 #[] w fun o w' => o = .returned (.bool true) ∧ Below w.heap.size w w' := by
  have H1 := Lib.hid (show ∀ (A : Option Addr) (n c : Nat) (V : World), Sl V A n c [0] → Calls Try.prog 28 #[.slice A n c] V fun o w' => o = .returned (.tuple #[.agg #[.bool false, .int .i64 0, .bool false, .int .u64 0, .int .u64 0, .bool false, .int .u64 0, .int .u64 0, .int .i64 0, .int .i64 0, .int .i64 0, .int .i64 0, .bool false, .int .i64 0, .bool false, .int .u64 0, .int .u64 0, .bool false, .int .u64 0, .int .u64 0, .int .i64 0, .int .i64 0, .int .i64 0], .int .i64 10]) ∧ Below V.heap.size V w' from fun A n c V h => by
    have h9 := parse_any A n c [0] V h (by have := h.len; simp at this; omega)
    rw [ex_zero] at h9
    exact h9)
  have H2 := Lib.hid (show ∀ (A : Option Addr) (n c : Nat) (V : World), Sl V A n c exB → Calls Try.prog 28 #[.slice A n c] V fun o w' => o = .returned (.tuple #[.agg #[.bool false, .int .i64 17, .bool false, .int .u64 0, .int .u64 0, .bool false, .int .u64 0, .int .u64 0, .int .i64 0, .int .i64 53, .int .i64 9, .int .i64 0, .bool false, .int .i64 0, .bool false, .int .u64 0, .int .u64 0, .bool false, .int .u64 0, .int .u64 0, .int .i64 0, .int .i64 0, .int .i64 28], .int .i64 0]) ∧ Below V.heap.size V w' from fun A n c V h => by
    have h9 := parse_any A n c exB V h (by have := h.len; simp [exB] at this; omega)
    rw [ex_parse] at h9
    exact h9)
  have HD := Lib.hid (show ∀ V : World, Calls Try.prog 33 #[.agg #[.int .i64 17, .bool false, .int .u64 0, .int .u64 0, .bool false, .int .u64 0, .int .u64 0, .int .i64 0, .int .i64 53], .int .i64 9, .slice none 0 0] V (MkP 0 exB V) from dgram_ex)
  have HI := Lib.hid pk_size
  obtain ⟨w1, hw1⟩ : ∃ w1, w1 = w.alloc (.cells #[.int .u8 0] 5) := ⟨_, rfl⟩
  have E1 := Lib.hid hw1
  have B1 := Lib.hid (show Below w.heap.size w w1 from by rw [hw1]; exact (Below.refl _ _).alloc (Nat.le_refl _) _)
  have S1 := Lib.hid (show Sl w1 (some ⟨w.heap.size, 0, none⟩) 1 1 [0] from by
    rw [hw1]
    exact Sl.own (B := w.heap.size) (sixK.own_lit w w.heap.size [.int .u8 0] 1 rfl (Nat.le_refl _) (by omega)) rfl (fun x hx => by simp at hx; omega))
  clear hw1
  go_enter Try.func32, Try.ntmps32
  go_upto_region 1 with fail
  go_wp2_with fail
  rw [← E1.out]
  refine (H1.out _ _ _ _ S1.out).mono ?_
  rintro o w2 ⟨rfl, hb2⟩
  have B2 := Lib.hid (B1.out.trans (hb2.mono B1.out.size))
  clear hb2
  go_wp2_with (refine wpList_store_row rfl 58 _ _ rfl w2.heap.size #[.bool false, .int .i64 0, .bool false, .int .u64 0, .int .u64 0, .bool false, .int .u64 0, .int .u64 0, .int .i64 0, .int .i64 0, .int .i64 0, .int .i64 0, .bool false, .int .i64 0, .bool false, .int .u64 0, .int .u64 0, .bool false, .int .u64 0, .int .u64 0, .int .i64 0, .int .i64 0, .int .i64 0] rfl rfl 58 #[.bool false, .int .i64 0, .bool false, .int .u64 0, .int .u64 0, .bool false, .int .u64 0, .int .u64 0, .int .i64 0, .int .i64 0, .int .i64 0, .int .i64 0, .bool false, .int .i64 0, .bool false, .int .u64 0, .int .u64 0, .bool false, .int .u64 0, .int .u64 0, .int .i64 0, .int .i64 0, .int .i64 0] (Blk.new w2 _ _) HI.out rfl (by kernel_rfl) ?_)
  obtain ⟨w3, hw3⟩ : ∃ w3, w3 = (w2.alloc (.cells #[.bool false, .int .i64 0, .bool false, .int .u64 0, .int .u64 0, .bool false, .int .u64 0, .int .u64 0, .int .i64 0, .int .i64 0, .int .i64 0, .int .i64 0, .bool false, .int .i64 0, .bool false, .int .u64 0, .int .u64 0, .bool false, .int .u64 0, .int .u64 0, .int .i64 0, .int .i64 0, .int .i64 0] 58)).setRow w2.heap.size #[.bool false, .int .i64 0, .bool false, .int .u64 0, .int .u64 0, .bool false, .int .u64 0, .int .u64 0, .int .i64 0, .int .i64 0, .int .i64 0, .int .i64 0, .bool false, .int .i64 0, .bool false, .int .u64 0, .int .u64 0, .bool false, .int .u64 0, .int .u64 0, .int .i64 0, .int .i64 0, .int .i64 0] := ⟨_, rfl⟩
  have B3 := Lib.hid (show Below w.heap.size w w3 from by rw [hw3]; exact (onlyRow _).from (B2.out.alloc B2.out.size _) B2.out.size)
  rw [← hw3]
  clear hw3
  refine (HD.out w3).mono ?_
  rintro o w4 ⟨hb4, A4, n4, c4, rfl, hs4⟩
  have B4 := Lib.hid (B3.out.trans (hb4.mono B3.out.size))
  have H4 := Lib.hid (H2.out A4 n4 c4 w4 hs4)
  clear hb4 hs4
  go_wp2_with fail
  refine H4.out.mono ?_
  rintro o w5 ⟨rfl, hb5⟩
  have B5 := Lib.hid (B4.out.trans (hb5.mono B4.out.size))
  clear hb5
  have KN := Lib.hid (blkRow (Blk.new w5 58 #[.bool false, .int .i64 0, .bool false, .int .u64 0, .int .u64 0, .bool false, .int .u64 0, .int .u64 0, .int .i64 0, .int .i64 0, .int .i64 0, .int .i64 0, .bool false, .int .i64 0, .bool false, .int .u64 0, .int .u64 0, .bool false, .int .u64 0, .int .u64 0, .int .i64 0, .int .i64 0, .int .i64 0]) #[.bool false, .int .i64 17, .bool false, .int .u64 0, .int .u64 0, .bool false, .int .u64 0, .int .u64 0, .int .i64 0, .int .i64 53, .int .i64 9, .int .i64 0, .bool false, .int .i64 0, .bool false, .int .u64 0, .int .u64 0, .bool false, .int .u64 0, .int .u64 0, .int .i64 0, .int .i64 0, .int .i64 28])
  have x0 := KN.out.cell 9
  have x1 := KN.out.cell 10
  have x2 := KN.out.cell 22
  go_wp2_with (refine wpList_store_row rfl 58 _ _ rfl w5.heap.size #[.bool false, .int .i64 17, .bool false, .int .u64 0, .int .u64 0, .bool false, .int .u64 0, .int .u64 0, .int .i64 0, .int .i64 53, .int .i64 9, .int .i64 0, .bool false, .int .i64 0, .bool false, .int .u64 0, .int .u64 0, .bool false, .int .u64 0, .int .u64 0, .int .i64 0, .int .i64 0, .int .i64 28] rfl rfl 58 #[.bool false, .int .i64 0, .bool false, .int .u64 0, .int .u64 0, .bool false, .int .u64 0, .int .u64 0, .int .i64 0, .int .i64 0, .int .i64 0, .int .i64 0, .bool false, .int .i64 0, .bool false, .int .u64 0, .int .u64 0, .bool false, .int .u64 0, .int .u64 0, .int .i64 0, .int .i64 0, .int .i64 0] (Blk.new w5 _ _) HI.out rfl (by kernel_rfl) ?_)
  go_ret
  exact ⟨rfl, (onlyRow _).from (B5.out.alloc B5.out.size _) B5.out.size⟩
end Go.Proofs.Ytndekicblbpkjaa.pktN
/- Layer 13: the law on bytes that are parsed. -/
namespace Go.Proofs.Ytndekicblbpkjaa.pktO
open Go.ChangeShapes Go.WideShapes Go.ChangeAt Go.RowKit
open Go.Proofs.Ytndekicblbpkjaa.base Go.Proofs.Ytndekicblbpkjaa.rdrA Go.Proofs.Ytndekicblbpkjaa.rdrG
set_option linter.unusedVariables false

theorem range_blk {W : World} {g : Nat} {t : TypeId} {cs : Array Value} (h : Blk W g t cs) : W.rangeAt g 0 cs.toList := fun j v hv => by
  rw [Nat.zero_add, h.cell j]
  simpa using hv
theorem yield_row {P : Program} {ops : Array Oper} {S : World → Prop} {op : Oper} {a : Act} (hw : Region.wanted op (yielded ops a.tmps) = true) (ty : TypeId) (x : Operand) (ho : op.op = .load ty x)
    (b : Nat) (hx : a.eval x = .pointer (some ⟨b, 0, none⟩)) (Y : Array Value) (d : TypeDesc) (hS : ∀ w, S w → w.rangeAt b 0 Y.toList)
    (hu : P.underlying ty = some d) (hd : d.isRow = true) (hi : (P.info? ty).map (·.size) = some Y.size) : YieldsIf P ops S op (.agg Y) a :=
  yieldsIf_load_mid hw ty x ho b 0 hx Y.toList d hS hu hd (by rw [hi]; simp)
end Go.Proofs.Ytndekicblbpkjaa.pktO
