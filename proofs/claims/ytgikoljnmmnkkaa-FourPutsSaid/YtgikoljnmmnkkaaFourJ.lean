/- Layer 8: headers that may not be: four says so. -/
import Derived.Test.YtgikoljnmmnkkaaFourO
namespace Go.Proofs.Ytgikoljnmmnkkaa.fourJ
open Go.ChangeShapes Go.WideShapes Go.ChangeAt Go.RowKit
open Go.Proofs.Ytgikoljnmmnkkaa.base Go.Proofs.Ytgikoljnmmnkkaa.sumA Go.Proofs.Ytgikoljnmmnkkaa.sumB Go.Proofs.Ytgikoljnmmnkkaa.octA Go.Proofs.Ytgikoljnmmnkkaa.octB Go.Proofs.Ytgikoljnmmnkkaa.octC Go.Proofs.Ytgikoljnmmnkkaa.octD Go.Proofs.Ytgikoljnmmnkkaa.octE Go.Proofs.Ytgikoljnmmnkkaa.octF Go.Proofs.Ytgikoljnmmnkkaa.octK Go.Proofs.Ytgikoljnmmnkkaa.rdrA Go.Proofs.Ytgikoljnmmnkkaa.udpA Go.Proofs.Ytgikoljnmmnkkaa.tcpC Go.Proofs.Ytgikoljnmmnkkaa.net Go.Proofs.Ytgikoljnmmnkkaa.fourA Go.Proofs.Ytgikoljnmmnkkaa.fourB Go.Proofs.Ytgikoljnmmnkkaa.fourC Go.Proofs.Ytgikoljnmmnkkaa.fourD Go.Proofs.Ytgikoljnmmnkkaa.fourE Go.Proofs.Ytgikoljnmmnkkaa.fourF Go.Proofs.Ytgikoljnmmnkkaa.fourG Go.Proofs.Ytgikoljnmmnkkaa.fourO
set_option linter.unusedVariables false

set_option maxRecDepth 100000 in
set_option maxHeartbeats 8000000 in
theorem right_no (tos id : Int) (df mf : Bool) (fr ttl pr : Int) (s6 : Bool) (sh sl : Int) (d6 : Bool) (dh dl : Int) (AO : Option Addr) (no co : Nat) (w : World) (l0 : 0 ≤ sl) (l1 : 0 ≤ dl) (h : ¬ okG tos id fr ttl pr s6 sh sl d6 dh dl no) :
    Calls Try.prog 32 #[.agg #[.int .i64 tos, .int .i64 id, .bool df, .bool mf, .int .i64 fr, .int .i64 ttl, .int .i64 pr, .bool s6, .int .u64 sh, .int .u64 sl, .bool d6, .int .u64 dh, .int .u64 dl, .slice AO no co]] w fun e w' => e = .returned (.bool false) ∧ Below w.heap.size w w' := by
  have i0 : ∀ w, (Instr.index 98 (.agg #[.int .i64 tos, .int .i64 255, .int .i64 ttl, .int .i64 255, .int .i64 pr, .int .i64 255, .int .i64 id, .int .i64 65535, .int .i64 fr, .int .i64 8191]) (.int .i64 0)).run Try.prog w = .ok (.agg #[.int .i64 tos, .int .i64 255]) w := fun _ => by kernel_rfl
  have i1 : ∀ w, (Instr.index 98 (.agg #[.int .i64 tos, .int .i64 255, .int .i64 ttl, .int .i64 255, .int .i64 pr, .int .i64 255, .int .i64 id, .int .i64 65535, .int .i64 fr, .int .i64 8191]) (.int .i64 1)).run Try.prog w = .ok (.agg #[.int .i64 ttl, .int .i64 255]) w := fun _ => by kernel_rfl
  have i2 : ∀ w, (Instr.index 98 (.agg #[.int .i64 tos, .int .i64 255, .int .i64 ttl, .int .i64 255, .int .i64 pr, .int .i64 255, .int .i64 id, .int .i64 65535, .int .i64 fr, .int .i64 8191]) (.int .i64 2)).run Try.prog w = .ok (.agg #[.int .i64 pr, .int .i64 255]) w := fun _ => by kernel_rfl
  have i3 : ∀ w, (Instr.index 98 (.agg #[.int .i64 tos, .int .i64 255, .int .i64 ttl, .int .i64 255, .int .i64 pr, .int .i64 255, .int .i64 id, .int .i64 65535, .int .i64 fr, .int .i64 8191]) (.int .i64 3)).run Try.prog w = .ok (.agg #[.int .i64 id, .int .i64 65535]) w := fun _ => by kernel_rfl
  have i4 : ∀ w, (Instr.index 98 (.agg #[.int .i64 tos, .int .i64 255, .int .i64 ttl, .int .i64 255, .int .i64 pr, .int .i64 255, .int .i64 id, .int .i64 65535, .int .i64 fr, .int .i64 8191]) (.int .i64 4)).run Try.prog w = .ok (.agg #[.int .i64 fr, .int .i64 8191]) w := fun _ => by kernel_rfl
  have k0 : ∀ w, (Instr.index 99 (.agg #[.bool s6, .int .u64 sh, .int .u64 sl, .bool d6, .int .u64 dh, .int .u64 dl]) (.int .i64 0)).run Try.prog w = .ok (.agg #[.bool s6, .int .u64 sh, .int .u64 sl]) w := fun _ => by kernel_rfl
  have k1 : ∀ w, (Instr.index 99 (.agg #[.bool s6, .int .u64 sh, .int .u64 sl, .bool d6, .int .u64 dh, .int .u64 dl]) (.int .i64 1)).run Try.prog w = .ok (.agg #[.bool d6, .int .u64 dh, .int .u64 dl]) w := fun _ => by kernel_rfl
  have HBAD := Lib.hid h
  have HBX := Lib.hid ((Below.refl w.heap.size w).alloc (Nat.le_refl _) (.cells #[.int .i64 tos, .int .i64 id, .bool df, .bool mf, .int .i64 fr, .int .i64 ttl, .int .i64 pr, .bool s6, .int .u64 sh, .int .u64 sl, .bool d6, .int .u64 dh, .int .u64 dl, .slice AO no co] 54))
  have BOX := Lib.hid (Blk.new w 54 #[.int .i64 tos, .int .i64 id, .bool df, .bool mf, .int .i64 fr, .int .i64 ttl, .int .i64 pr, .bool s6, .int .u64 sh, .int .u64 sl, .bool d6, .int .u64 dh, .int .u64 dl, .slice AO no co])
  have HZ := Lib.hid (show (w.alloc (.cells #[.int .i64 tos, .int .i64 id, .bool df, .bool mf, .int .i64 fr, .int .i64 ttl, .int .i64 pr, .bool s6, .int .u64 sh, .int .u64 sl, .bool d6, .int .u64 dh, .int .u64 dl, .slice AO no co] 54)).heap.size = w.heap.size + 1 by simp)
  clear h
  go_enter Try.func32, Try.ntmps32
  go_wp2_with fail
  go_loopw [23, 4] (fun i _ wr => ∃ j : Nat, j ≤ 5 ∧ i = .int .i64 j ∧ ((0 < j → 0 ≤ tos ∧ tos ≤ 255) ∧ (1 < j → 0 ≤ ttl ∧ ttl ≤ 255) ∧ (2 < j → 0 ≤ pr ∧ pr ≤ 255) ∧ (3 < j → 0 ≤ id ∧ id ≤ 65535) ∧ (4 < j → 0 ≤ fr ∧ fr ≤ 8191)) ∧ Below (w.heap.size + 1) (w.alloc (.cells #[.int .i64 tos, .int .i64 id, .bool df, .bool mf, .int .i64 fr, .int .i64 ttl, .int .i64 pr, .bool s6, .int .u64 sh, .int .u64 sl, .bool d6, .int .u64 dh, .int .u64 dl, .slice AO no co] 54)) wr) (fun i _ _ => 5 - (intOf i).toNat)
  case atStart => exact ⟨0, by omega, rfl, ⟨by omega, by omega, by omega, by omega, by omega⟩, Below.refl _ _⟩
  case round =>
    obtain ⟨j, hj, rfl, ⟨g0, g1, g2, g3, g4⟩, hbel⟩ := hrel
    have HB := Lib.hid hbel
    have HS := Lib.hid (show w.heap.size + 1 ≤ wr.heap.size from Nat.le_trans (Nat.le_of_eq HZ.out.symm) hbel.size)
    have o7 : wr.cell? ⟨w.heap.size, 7, none⟩ = some (.bool s6) := (hbel.cell (p := ⟨w.heap.size, 7, none⟩) (Nat.lt_succ_self _)).trans (BOX.out.cell 7)
    have o8 : wr.cell? ⟨w.heap.size, 8, none⟩ = some (.int .u64 sh) := (hbel.cell (p := ⟨w.heap.size, 8, none⟩) (Nat.lt_succ_self _)).trans (BOX.out.cell 8)
    have o9 : wr.cell? ⟨w.heap.size, 9, none⟩ = some (.int .u64 sl) := (hbel.cell (p := ⟨w.heap.size, 9, none⟩) (Nat.lt_succ_self _)).trans (BOX.out.cell 9)
    have o10 : wr.cell? ⟨w.heap.size, 10, none⟩ = some (.bool d6) := (hbel.cell (p := ⟨w.heap.size, 10, none⟩) (Nat.lt_succ_self _)).trans (BOX.out.cell 10)
    have o11 : wr.cell? ⟨w.heap.size, 11, none⟩ = some (.int .u64 dh) := (hbel.cell (p := ⟨w.heap.size, 11, none⟩) (Nat.lt_succ_self _)).trans (BOX.out.cell 11)
    have o12 : wr.cell? ⟨w.heap.size, 12, none⟩ = some (.int .u64 dl) := (hbel.cell (p := ⟨w.heap.size, 12, none⟩) (Nat.lt_succ_self _)).trans (BOX.out.cell 12)
    have o13 : wr.cell? ⟨w.heap.size, 13, none⟩ = some (.slice AO no co) := (hbel.cell (p := ⟨w.heap.size, 13, none⟩) (Nat.lt_succ_self _)).trans (BOX.out.cell 13)
    clear hbel
    have hcase : j = 0 ∨ j = 1 ∨ j = 2 ∨ j = 3 ∨ j = 4 ∨ j = 5 := by omega
    rcases hcase with rfl | rfl | rfl | rfl | rfl | rfl
    · clear o7 o8 o9 o10 o11 o12 o13
      by_cases b0 : tos < 0
      · have q1 : decide (tos < 0) = true := decide_eq_true b0
        clear g0 g1 g2 g3 g4 b0
        go_wp2_with fail
        go_ret
        exact ⟨rfl, HBX.out.trans ((HB.out.alloc HS.out _).mono (Nat.le_succ _))⟩
      by_cases b1 : 255 < tos
      · have q1 : decide (tos < 0) = false := decide_eq_false b0
        have q2 : decide (255 < tos) = true := decide_eq_true b1
        clear g0 g1 g2 g3 g4 b0 b1
        go_wp2_with fail
        go_ret
        exact ⟨rfl, HBX.out.trans ((HB.out.alloc HS.out _).mono (Nat.le_succ _))⟩
      have q1 : decide (tos < 0) = false := decide_eq_false b0
      have q2 : decide (255 < tos) = false := decide_eq_false b1
      have GN := Lib.hid (show (0 < 1 → 0 ≤ tos ∧ tos ≤ 255) ∧ (1 < 1 → 0 ≤ ttl ∧ ttl ≤ 255) ∧ (2 < 1 → 0 ≤ pr ∧ pr ≤ 255) ∧ (3 < 1 → 0 ≤ id ∧ id ≤ 65535) ∧ (4 < 1 → 0 ≤ fr ∧ fr ≤ 8191) from ⟨fun _ => ⟨by omega, by omega⟩, fun h => absurd h (by omega), fun h => absurd h (by omega), fun h => absurd h (by omega), fun h => absurd h (by omega)⟩)
      clear g0 g1 g2 g3 g4 b0 b1
      go_wp2_with fail
      go_roundw
      case rel => first | exact ⟨1, by omega, by go_num, GN.out, HB.out.alloc HS.out _⟩ | ((repeat apply Exists.intro); exact ⟨⟨1, by omega, by go_num, GN.out, HB.out.alloc HS.out _⟩, rfl⟩)
      case measure => simp [intOf]
    · clear o7 o8 o9 o10 o11 o12 o13
      by_cases b0 : ttl < 0
      · have q1 : decide (ttl < 0) = true := decide_eq_true b0
        clear g0 g1 g2 g3 g4 b0
        go_wp2_with fail
        go_ret
        exact ⟨rfl, HBX.out.trans ((HB.out.alloc HS.out _).mono (Nat.le_succ _))⟩
      by_cases b1 : 255 < ttl
      · have q1 : decide (ttl < 0) = false := decide_eq_false b0
        have q2 : decide (255 < ttl) = true := decide_eq_true b1
        clear g0 g1 g2 g3 g4 b0 b1
        go_wp2_with fail
        go_ret
        exact ⟨rfl, HBX.out.trans ((HB.out.alloc HS.out _).mono (Nat.le_succ _))⟩
      have q1 : decide (ttl < 0) = false := decide_eq_false b0
      have q2 : decide (255 < ttl) = false := decide_eq_false b1
      have GN := Lib.hid (show (0 < 2 → 0 ≤ tos ∧ tos ≤ 255) ∧ (1 < 2 → 0 ≤ ttl ∧ ttl ≤ 255) ∧ (2 < 2 → 0 ≤ pr ∧ pr ≤ 255) ∧ (3 < 2 → 0 ≤ id ∧ id ≤ 65535) ∧ (4 < 2 → 0 ≤ fr ∧ fr ≤ 8191) from ⟨fun _ => g0 (by omega), fun _ => ⟨by omega, by omega⟩, fun h => absurd h (by omega), fun h => absurd h (by omega), fun h => absurd h (by omega)⟩)
      clear g0 g1 g2 g3 g4 b0 b1
      go_wp2_with fail
      go_roundw
      case rel => first | exact ⟨2, by omega, by go_num, GN.out, HB.out.alloc HS.out _⟩ | ((repeat apply Exists.intro); exact ⟨⟨2, by omega, by go_num, GN.out, HB.out.alloc HS.out _⟩, rfl⟩)
      case measure => simp [intOf]
    · clear o7 o8 o9 o10 o11 o12 o13
      by_cases b0 : pr < 0
      · have q1 : decide (pr < 0) = true := decide_eq_true b0
        clear g0 g1 g2 g3 g4 b0
        go_wp2_with fail
        go_ret
        exact ⟨rfl, HBX.out.trans ((HB.out.alloc HS.out _).mono (Nat.le_succ _))⟩
      by_cases b1 : 255 < pr
      · have q1 : decide (pr < 0) = false := decide_eq_false b0
        have q2 : decide (255 < pr) = true := decide_eq_true b1
        clear g0 g1 g2 g3 g4 b0 b1
        go_wp2_with fail
        go_ret
        exact ⟨rfl, HBX.out.trans ((HB.out.alloc HS.out _).mono (Nat.le_succ _))⟩
      have q1 : decide (pr < 0) = false := decide_eq_false b0
      have q2 : decide (255 < pr) = false := decide_eq_false b1
      have GN := Lib.hid (show (0 < 3 → 0 ≤ tos ∧ tos ≤ 255) ∧ (1 < 3 → 0 ≤ ttl ∧ ttl ≤ 255) ∧ (2 < 3 → 0 ≤ pr ∧ pr ≤ 255) ∧ (3 < 3 → 0 ≤ id ∧ id ≤ 65535) ∧ (4 < 3 → 0 ≤ fr ∧ fr ≤ 8191) from ⟨fun _ => g0 (by omega), fun _ => g1 (by omega), fun _ => ⟨by omega, by omega⟩, fun h => absurd h (by omega), fun h => absurd h (by omega)⟩)
      clear g0 g1 g2 g3 g4 b0 b1
      go_wp2_with fail
      go_roundw
      case rel => first | exact ⟨3, by omega, by go_num, GN.out, HB.out.alloc HS.out _⟩ | ((repeat apply Exists.intro); exact ⟨⟨3, by omega, by go_num, GN.out, HB.out.alloc HS.out _⟩, rfl⟩)
      case measure => simp [intOf]
    · clear o7 o8 o9 o10 o11 o12 o13
      by_cases b0 : id < 0
      · have q1 : decide (id < 0) = true := decide_eq_true b0
        clear g0 g1 g2 g3 g4 b0
        go_wp2_with fail
        go_ret
        exact ⟨rfl, HBX.out.trans ((HB.out.alloc HS.out _).mono (Nat.le_succ _))⟩
      by_cases b1 : 65535 < id
      · have q1 : decide (id < 0) = false := decide_eq_false b0
        have q2 : decide (65535 < id) = true := decide_eq_true b1
        clear g0 g1 g2 g3 g4 b0 b1
        go_wp2_with fail
        go_ret
        exact ⟨rfl, HBX.out.trans ((HB.out.alloc HS.out _).mono (Nat.le_succ _))⟩
      have q1 : decide (id < 0) = false := decide_eq_false b0
      have q2 : decide (65535 < id) = false := decide_eq_false b1
      have GN := Lib.hid (show (0 < 4 → 0 ≤ tos ∧ tos ≤ 255) ∧ (1 < 4 → 0 ≤ ttl ∧ ttl ≤ 255) ∧ (2 < 4 → 0 ≤ pr ∧ pr ≤ 255) ∧ (3 < 4 → 0 ≤ id ∧ id ≤ 65535) ∧ (4 < 4 → 0 ≤ fr ∧ fr ≤ 8191) from ⟨fun _ => g0 (by omega), fun _ => g1 (by omega), fun _ => g2 (by omega), fun _ => ⟨by omega, by omega⟩, fun h => absurd h (by omega)⟩)
      clear g0 g1 g2 g3 g4 b0 b1
      go_wp2_with fail
      go_roundw
      case rel => first | exact ⟨4, by omega, by go_num, GN.out, HB.out.alloc HS.out _⟩ | ((repeat apply Exists.intro); exact ⟨⟨4, by omega, by go_num, GN.out, HB.out.alloc HS.out _⟩, rfl⟩)
      case measure => simp [intOf]
    · clear o7 o8 o9 o10 o11 o12 o13
      by_cases b0 : fr < 0
      · have q1 : decide (fr < 0) = true := decide_eq_true b0
        clear g0 g1 g2 g3 g4 b0
        go_wp2_with fail
        go_ret
        exact ⟨rfl, HBX.out.trans ((HB.out.alloc HS.out _).mono (Nat.le_succ _))⟩
      by_cases b1 : 8191 < fr
      · have q1 : decide (fr < 0) = false := decide_eq_false b0
        have q2 : decide (8191 < fr) = true := decide_eq_true b1
        clear g0 g1 g2 g3 g4 b0 b1
        go_wp2_with fail
        go_ret
        exact ⟨rfl, HBX.out.trans ((HB.out.alloc HS.out _).mono (Nat.le_succ _))⟩
      have q1 : decide (fr < 0) = false := decide_eq_false b0
      have q2 : decide (8191 < fr) = false := decide_eq_false b1
      have GN := Lib.hid (show (0 < 5 → 0 ≤ tos ∧ tos ≤ 255) ∧ (1 < 5 → 0 ≤ ttl ∧ ttl ≤ 255) ∧ (2 < 5 → 0 ≤ pr ∧ pr ≤ 255) ∧ (3 < 5 → 0 ≤ id ∧ id ≤ 65535) ∧ (4 < 5 → 0 ≤ fr ∧ fr ≤ 8191) from ⟨fun _ => g0 (by omega), fun _ => g1 (by omega), fun _ => g2 (by omega), fun _ => g3 (by omega), fun _ => ⟨by omega, by omega⟩⟩)
      clear g0 g1 g2 g3 g4 b0 b1
      go_wp2_with fail
      go_roundw
      case rel => first | exact ⟨5, by omega, by go_num, GN.out, HB.out.alloc HS.out _⟩ | ((repeat apply Exists.intro); exact ⟨⟨5, by omega, by go_num, GN.out, HB.out.alloc HS.out _⟩, rfl⟩)
      case measure => simp [intOf]
    · have G5 := Lib.hid (show (0 ≤ tos ∧ tos ≤ 255) ∧ (0 ≤ ttl ∧ ttl ≤ 255) ∧ (0 ≤ pr ∧ pr ≤ 255) ∧ (0 ≤ id ∧ id ≤ 65535) ∧ (0 ≤ fr ∧ fr ≤ 8191) from ⟨g0 (by omega), g1 (by omega), g2 (by omega), g3 (by omega), g4 (by omega)⟩)
      clear g0 g1 g2 g3 g4
      go_wp2_with fail
      clear o7 o8 o9 o10 o11 o12 o13
      obtain ⟨wo, rfl⟩ : ∃ wo : World, wo = wr := ⟨_, rfl⟩
      go_loopw [42, 6] (fun i _ wq => ∃ j : Nat, j ≤ 2 ∧ i = .int .i64 j ∧ ((0 < j → okA s6 sh sl) ∧ (1 < j → okA d6 dh dl)) ∧ Below (w.heap.size + 1) (w.alloc (.cells #[.int .i64 tos, .int .i64 id, .bool df, .bool mf, .int .i64 fr, .int .i64 ttl, .int .i64 pr, .bool s6, .int .u64 sh, .int .u64 sl, .bool d6, .int .u64 dh, .int .u64 dl, .slice AO no co] 54)) wq) (fun i _ _ => 2 - (intOf i).toNat)
      case atStart => exact ⟨0, by omega, rfl, ⟨by omega, by omega⟩, HB.out⟩
      case round =>
        obtain ⟨j, hj, rfl, ⟨a0, a1⟩, hbel⟩ := hrel
        have HB2 := Lib.hid hbel
        have HS2 := Lib.hid (show w.heap.size + 1 ≤ wr.heap.size from Nat.le_trans (Nat.le_of_eq HZ.out.symm) hbel.size)
        have o13 : wr.cell? ⟨w.heap.size, 13, none⟩ = some (.slice AO no co) := (hbel.cell (p := ⟨w.heap.size, 13, none⟩) (Nat.lt_succ_self _)).trans (BOX.out.cell 13)
        clear hbel
        have hcase : j = 0 ∨ j = 1 ∨ j = 2 := by omega
        rcases hcase with rfl | rfl | rfl
        · clear o13
          by_cases hA : okA s6 sh sl
          · have GN := Lib.hid (show (0 < 1 → okA s6 sh sl) ∧ (1 < 1 → okA d6 dh dl) from ⟨fun _ => hA, fun h => absurd h (by omega)⟩)
            have HA := Lib.hid (fun w => addr_yes sl w l0 hA.2.2)
            obtain ⟨rfl, rfl, _⟩ := hA
            clear a0 a1
            go_wp2_with fail
            refine (HA.out _).mono ?_
            rintro e w5 ⟨rfl, hb5⟩
            have HB5 := Lib.hid ((HB2.out.alloc HS2.out _).trans (hb5.mono (Nat.le_trans HS2.out (Below.size ((Below.refl 0 _).alloc (Nat.zero_le _) _)))))
            clear hb5
            go_wp2_with fail
            go_roundw
            case rel => first | exact ⟨1, by omega, by go_num, GN.out, HB5.out⟩ | ((repeat apply Exists.intro); exact ⟨⟨1, by omega, by go_num, GN.out, HB5.out⟩, rfl⟩)
            case measure => simp [intOf]
          · by_cases e1 : s6 = true
            · subst e1
              clear a0 a1 hA
              go_wp2_with fail
              go_ret
              exact ⟨rfl, HBX.out.trans ((HB2.out.alloc HS2.out _).mono (Nat.le_succ _))⟩
            · have e2 : s6 = false := by simpa using e1
              subst e2
              have HA := Lib.hid (fun w => addr_no sh sl w hA)
              clear a0 a1 hA e1
              go_wp2_with fail
              refine (HA.out _).mono ?_
              rintro e w5 ⟨rfl, hb5⟩
              have HB5 := Lib.hid ((HB2.out.alloc HS2.out _).trans (hb5.mono (Nat.le_trans HS2.out (Below.size ((Below.refl 0 _).alloc (Nat.zero_le _) _)))))
              clear hb5
              go_wp2_with fail
              go_ret
              exact ⟨rfl, HBX.out.trans (HB5.out.mono (Nat.le_succ _))⟩
        · clear o13
          by_cases hA : okA d6 dh dl
          · have GN := Lib.hid (show (0 < 2 → okA s6 sh sl) ∧ (1 < 2 → okA d6 dh dl) from ⟨fun _ => a0 (by omega), fun _ => hA⟩)
            have HA := Lib.hid (fun w => addr_yes dl w l1 hA.2.2)
            obtain ⟨rfl, rfl, _⟩ := hA
            clear a0 a1
            go_wp2_with fail
            refine (HA.out _).mono ?_
            rintro e w5 ⟨rfl, hb5⟩
            have HB5 := Lib.hid ((HB2.out.alloc HS2.out _).trans (hb5.mono (Nat.le_trans HS2.out (Below.size ((Below.refl 0 _).alloc (Nat.zero_le _) _)))))
            clear hb5
            go_wp2_with fail
            go_roundw
            case rel => first | exact ⟨2, by omega, by go_num, GN.out, HB5.out⟩ | ((repeat apply Exists.intro); exact ⟨⟨2, by omega, by go_num, GN.out, HB5.out⟩, rfl⟩)
            case measure => simp [intOf]
          · by_cases e1 : d6 = true
            · subst e1
              clear a0 a1 hA
              go_wp2_with fail
              go_ret
              exact ⟨rfl, HBX.out.trans ((HB2.out.alloc HS2.out _).mono (Nat.le_succ _))⟩
            · have e2 : d6 = false := by simpa using e1
              subst e2
              have HA := Lib.hid (fun w => addr_no dh dl w hA)
              clear a0 a1 hA e1
              go_wp2_with fail
              refine (HA.out _).mono ?_
              rintro e w5 ⟨rfl, hb5⟩
              have HB5 := Lib.hid ((HB2.out.alloc HS2.out _).trans (hb5.mono (Nat.le_trans HS2.out (Below.size ((Below.refl 0 _).alloc (Nat.zero_le _) _)))))
              clear hb5
              go_wp2_with fail
              go_ret
              exact ⟨rfl, HBX.out.trans (HB5.out.mono (Nat.le_succ _))⟩
        · have hb := HBAD.out
          have g5 := G5.out
          have ha0 := a0 (by omega)
          have ha1 := a1 (by omega)
          have hno : ¬ (no ≤ 40 ∧ no % 4 = 0) := fun hh => hb ⟨g5.1, g5.2.1, g5.2.2.1, g5.2.2.2.1, g5.2.2.2.2, ha0, ha1, hh.1, hh.2⟩
          clear hb g5 ha0 ha1 a0 a1
          by_cases n0 : no ≤ 40
          · have q1 : decide ((no : Int) ≤ 40) = true := decide_eq_true (by omega)
            have q3 : (((no : Int) % 4) == 0) = false := eqF (by omega)
            clear hno n0
            go_wp2_with fail
            go_ret
            exact ⟨rfl, HBX.out.trans (HB2.out.mono (Nat.le_succ _))⟩
          · have q1 : decide ((no : Int) ≤ 40) = false := decide_eq_false (by omega)
            clear hno n0
            go_wp2_with fail
            go_ret
            exact ⟨rfl, HBX.out.trans (HB2.out.mono (Nat.le_succ _))⟩
theorem bytes_wrong (tos id : Int) (df mf : Bool) (fr ttl pr : Int) (s6 : Bool) (sh sl : Int) (d6 : Bool) (dh dl : Int) (AO : Option Addr) (no co : Nat) (A : Option Addr) (n c : Nat) (w : World) (l0 : 0 ≤ sl) (l1 : 0 ≤ dl) (h : ¬ okG tos id fr ttl pr s6 sh sl d6 dh dl no) :
    Calls Try.prog 31 #[.agg #[.int .i64 tos, .int .i64 id, .bool df, .bool mf, .int .i64 fr, .int .i64 ttl, .int .i64 pr, .bool s6, .int .u64 sh, .int .u64 sl, .bool d6, .int .u64 dh, .int .u64 dl, .slice AO no co], .slice A n c] w fun e w' => e = .returned (.tuple #[.slice none 0 0, .int .i64 1]) ∧ Below w.heap.size w w' := by
  have HRT := Lib.hid (fun w => right_no tos id df mf fr ttl pr s6 sh sl d6 dh dl AO no co w l0 l1 h)
  have HB0 := Lib.hid (show Below w.heap.size w (w.alloc (.cells #[.int .i64 tos, .int .i64 id, .bool df, .bool mf, .int .i64 fr, .int .i64 ttl, .int .i64 pr, .bool s6, .int .u64 sh, .int .u64 sl, .bool d6, .int .u64 dh, .int .u64 dl, .slice AO no co] 54)) from (Below.refl _ _).alloc (Nat.le_refl _) _)
  clear h
  go_enter Try.func31, Try.ntmps31
  go_wp2_with fail
  refine (HRT.out _).mono ?_
  rintro e w1 ⟨rfl, hb⟩
  have HB := Lib.hid (bel_call HB0.out hb)
  clear hb
  go_wp2_with fail
  go_ret2
  exact ⟨rfl, HB.out⟩
end Go.Proofs.Ytgikoljnmmnkkaa.fourJ
