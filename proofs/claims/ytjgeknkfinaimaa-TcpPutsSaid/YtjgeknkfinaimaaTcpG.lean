/- Layer 10: the law on segments that are parsed, walked where they are none. -/
import Derived.Test.YtjgeknkfinaimaaTcpF
namespace Go.Proofs.Ytjgeknkfinaimaa.tcpG
open Go.ChangeShapes Go.WideShapes Go.ChangeAt Go.RowKit
open Go.Proofs.Ytjgeknkfinaimaa.base Go.Proofs.Ytjgeknkfinaimaa.sumA Go.Proofs.Ytjgeknkfinaimaa.sumB Go.Proofs.Ytjgeknkfinaimaa.octA Go.Proofs.Ytjgeknkfinaimaa.octB Go.Proofs.Ytjgeknkfinaimaa.octC Go.Proofs.Ytjgeknkfinaimaa.octE Go.Proofs.Ytjgeknkfinaimaa.octF Go.Proofs.Ytjgeknkfinaimaa.rdrA Go.Proofs.Ytjgeknkfinaimaa.udpA Go.Proofs.Ytjgeknkfinaimaa.udpE Go.Proofs.Ytjgeknkfinaimaa.tcpC Go.Proofs.Ytjgeknkfinaimaa.tcpD Go.Proofs.Ytjgeknkfinaimaa.tcpE Go.Proofs.Ytjgeknkfinaimaa.tcpF
set_option linter.unusedVariables false

set_option maxRecDepth 100000 in
theorem parses_short (v1 v2 : Value) (A1 A2 : Option Addr) (n1 n2 c1 c2 : Nat) (w : World) (hn : n1 < 20)
    (C1 : Hid (∀ w : World, Calls Try.prog 17 #[v1] w fun e w' => e = .returned (.slice A1 n1 c1) ∧ w = w'))
    (C2 : Hid (∀ w : World, Calls Try.prog 17 #[v2] w fun e w' => e = .returned (.slice A2 n2 c2) ∧ w = w')) :
    Calls Try.prog 6 #[v1, v2] w fun e w' => e = .returned (.bool true) ∧ Below w.heap.size w w' := by
  have HP := Lib.hid (fun w => parse_short A1 A2 n1 c1 n2 c2 w hn)
  have HAW := Lib.hid Go.Proofs.Ytjgeknkfinaimaa.tcpB.awake_any
  go_enter Try.func6, Try.ntmps6
  go_wp2_with fail
  refine (C1.out _).mono ?_
  rintro e w' ⟨rfl, rfl⟩
  go_wp2_with fail
  refine (C2.out _).mono ?_
  rintro e w' ⟨rfl, rfl⟩
  go_wp2_with fail
  refine (HP.out _).mono ?_
  rintro e w1 ⟨he, hb⟩
  unfold errt at he
  subst he
  have HB := Lib.hid (bel_alloc hb (.cells #[.int .i64 0, .int .i64 0, .int .u32 0, .int .u32 0, .int .i64 0, .int .i64 0, .int .i64 0, .slice none 0 0] 40))
  clear hb
  go_wp2_with fail
  refine (Go.Proofs.Ytjgeknkfinaimaa.tcpF.same_zero _).mono ?_
  rintro e w8 ⟨rfl, hb8⟩
  go_wp2_with fail
  refine (HAW.out _).mono ?_
  rintro e w9 ⟨rfl, hb9⟩
  go_wp2_with fail
  go_ret
  exact ⟨rfl, bel_call (bel_call HB.out hb8) hb9⟩
set_option maxRecDepth 100000 in
set_option maxHeartbeats 4000000 in
theorem parses_h1 (v1 v2 : Value) (b off : Nat) (A2 : Option Addr) (n1 n2 c1 c2 : Nat) (l1 l2 : List Int) (w : World) (h1 : l1.length = n1) (h2 : l2.length = n2) (k8 : 20 ≤ n1) (k1 : n1 ≤ 300) (k2 : n2 ≤ 300) (hnc : n1 ≤ c1) (hc : c1 ≤ 9223372036854775807) (hb : b < w.heap.size) (hs : Lies w b off l1) (z2 : A2 = none → c2 = 0) (r2 : Row w w.heap.size A2 (l2.map (.int .u8))) (b1 : ∀ x ∈ l1, 0 ≤ x ∧ x ≤ 255) (b2 : ∀ x ∈ l2, 0 ≤ x ∧ x ≤ 255)
    (C1 : Hid (∀ w : World, Calls Try.prog 17 #[v1] w fun e w' => e = .returned (.slice (some ⟨b, off, none⟩) n1 c1) ∧ w = w'))
    (C2 : Hid (∀ w : World, Calls Try.prog 17 #[v2] w fun e w' => e = .returned (.slice A2 n2 c2) ∧ w = w'))
    (hw : l1.getD 12 0 / 16 * 4 < 20) :
    Calls Try.prog 6 #[v1, v2] w fun e w' => e = .returned (.bool true) ∧ Below w.heap.size w w' := by
  have HP := Lib.hid (parse_head b off n1 c1 n2 c2 A2 l1 l2 w h1 k8 (by omega) hnc hc hb hs b1 h2 (by omega) r2 b2 (.inl hw))
  have HAW := Lib.hid Go.Proofs.Ytjgeknkfinaimaa.tcpB.awake_any
  have HS := Lib.hid hs
  have R2 := Lib.hid r2
  have L1 := Lib.hid h1
  have L2 := Lib.hid h2
  have B1 := Lib.hid b1
  have B2 := Lib.hid b2
  have Z2 := Lib.hid z2
  have x12 := getD_in l1 b1 12
  have HC4 := Lib.hid (show ∀ i, i < n1 → ∀ W : World, Below w.heap.size w W → W.cell? ⟨b, off + i, none⟩ = some (.int .u8 (l1.getD i 0)) from fun i hi W hW => (hs.below hW hb) i (by rw [h1]; exact hi))
  have HQ := Lib.hid (HC4.out 12 (by omega))
  have t1 : decide (l1.getD 12 0 / 16 < 5) = true := decide_eq_true (by omega)
  clear hs r2 h1 h2 b1 b2 z2 hw
  generalize l1.getD 12 0 = y at *
  obtain ⟨z0, z1⟩ := x12
  go_enter Try.func6, Try.ntmps6
  go_wp2_with fail
  refine (C1.out _).mono ?_
  rintro e w' ⟨rfl, rfl⟩
  go_wp2_with fail
  refine (C2.out _).mono ?_
  rintro e w' ⟨rfl, rfl⟩
  go_wp2_with fail
  refine HP.out.mono ?_
  rintro e w1 ⟨he, hbel⟩
  unfold errt at he
  subst he
  have HW := Lib.hid (bel_alloc hbel (.cells #[.int .i64 0, .int .i64 0, .int .u32 0, .int .u32 0, .int .i64 0, .int .i64 0, .int .i64 0, .slice none 0 0] 40))
  have HRB := Lib.hid (Blk.new w1 40 #[.int .i64 0, .int .i64 0, .int .u32 0, .int .u32 0, .int .i64 0, .int .i64 0, .int .i64 0, .slice none 0 0])
  have q12 : (w1.alloc (.cells #[.int .i64 0, .int .i64 0, .int .u32 0, .int .u32 0, .int .i64 0, .int .i64 0, .int .i64 0, .slice none 0 0] 40)).cell? ⟨b, off + 12, none⟩ = some (.int .u8 y) := HQ.out _ HW.out
  have y12 : (12 : Int) < (n1 : Int) := by omega
  clear hbel
  go_wp2_with fail
  refine (Go.Proofs.Ytjgeknkfinaimaa.tcpF.same_zero _).mono ?_
  rintro e w8 ⟨rfl, hb8⟩
  go_wp2_with fail
  refine (HAW.out _).mono ?_
  rintro e w9 ⟨rfl, hb9⟩
  go_wp2_with fail
  go_ret
  exact ⟨rfl, bel_call (bel_call HW.out hb8) hb9⟩
set_option maxRecDepth 100000 in
set_option maxHeartbeats 4000000 in
theorem parses_h2 (v1 v2 : Value) (b off : Nat) (A2 : Option Addr) (n1 n2 c1 c2 : Nat) (l1 l2 : List Int) (w : World) (h1 : l1.length = n1) (h2 : l2.length = n2) (k8 : 20 ≤ n1) (k1 : n1 ≤ 300) (k2 : n2 ≤ 300) (hnc : n1 ≤ c1) (hc : c1 ≤ 9223372036854775807) (hb : b < w.heap.size) (hs : Lies w b off l1) (z2 : A2 = none → c2 = 0) (r2 : Row w w.heap.size A2 (l2.map (.int .u8))) (b1 : ∀ x ∈ l1, 0 ≤ x ∧ x ≤ 255) (b2 : ∀ x ∈ l2, 0 ≤ x ∧ x ≤ 255)
    (C1 : Hid (∀ w : World, Calls Try.prog 17 #[v1] w fun e w' => e = .returned (.slice (some ⟨b, off, none⟩) n1 c1) ∧ w = w'))
    (C2 : Hid (∀ w : World, Calls Try.prog 17 #[v2] w fun e w' => e = .returned (.slice A2 n2 c2) ∧ w = w'))
    (hw : 20 ≤ l1.getD 12 0 / 16 * 4 ∧ (n1 : Int) < l1.getD 12 0 / 16 * 4) :
    Calls Try.prog 6 #[v1, v2] w fun e w' => e = .returned (.bool true) ∧ Below w.heap.size w w' := by
  have HP := Lib.hid (parse_head b off n1 c1 n2 c2 A2 l1 l2 w h1 k8 (by omega) hnc hc hb hs b1 h2 (by omega) r2 b2 (.inr (.inl hw)))
  have HAW := Lib.hid Go.Proofs.Ytjgeknkfinaimaa.tcpB.awake_any
  have HS := Lib.hid hs
  have R2 := Lib.hid r2
  have L1 := Lib.hid h1
  have L2 := Lib.hid h2
  have B1 := Lib.hid b1
  have B2 := Lib.hid b2
  have Z2 := Lib.hid z2
  have x12 := getD_in l1 b1 12
  have HC4 := Lib.hid (show ∀ i, i < n1 → ∀ W : World, Below w.heap.size w W → W.cell? ⟨b, off + i, none⟩ = some (.int .u8 (l1.getD i 0)) from fun i hi W hW => (hs.below hW hb) i (by rw [h1]; exact hi))
  have HQ := Lib.hid (HC4.out 12 (by omega))
  have t1 : decide (l1.getD 12 0 / 16 < 5) = false := decide_eq_false (by omega)
  have t2 : decide ((n1 : Int) < l1.getD 12 0 / 16 * 4) = true := decide_eq_true hw.2
  clear hs r2 h1 h2 b1 b2 z2 hw
  generalize l1.getD 12 0 = y at *
  obtain ⟨z0, z1⟩ := x12
  go_enter Try.func6, Try.ntmps6
  go_wp2_with fail
  refine (C1.out _).mono ?_
  rintro e w' ⟨rfl, rfl⟩
  go_wp2_with fail
  refine (C2.out _).mono ?_
  rintro e w' ⟨rfl, rfl⟩
  go_wp2_with fail
  refine HP.out.mono ?_
  rintro e w1 ⟨he, hbel⟩
  unfold errt at he
  subst he
  have HW := Lib.hid (bel_alloc hbel (.cells #[.int .i64 0, .int .i64 0, .int .u32 0, .int .u32 0, .int .i64 0, .int .i64 0, .int .i64 0, .slice none 0 0] 40))
  have HRB := Lib.hid (Blk.new w1 40 #[.int .i64 0, .int .i64 0, .int .u32 0, .int .u32 0, .int .i64 0, .int .i64 0, .int .i64 0, .slice none 0 0])
  have q12 : (w1.alloc (.cells #[.int .i64 0, .int .i64 0, .int .u32 0, .int .u32 0, .int .i64 0, .int .i64 0, .int .i64 0, .slice none 0 0] 40)).cell? ⟨b, off + 12, none⟩ = some (.int .u8 y) := HQ.out _ HW.out
  have y12 : (12 : Int) < (n1 : Int) := by omega
  clear hbel
  go_wp2_with fail
  refine (Go.Proofs.Ytjgeknkfinaimaa.tcpF.same_zero _).mono ?_
  rintro e w8 ⟨rfl, hb8⟩
  go_wp2_with fail
  refine (HAW.out _).mono ?_
  rintro e w9 ⟨rfl, hb9⟩
  go_wp2_with fail
  go_ret
  exact ⟨rfl, bel_call (bel_call HW.out hb8) hb9⟩
set_option maxRecDepth 100000 in
set_option maxHeartbeats 4000000 in
theorem parses_h3 (v1 v2 : Value) (b off : Nat) (A2 : Option Addr) (n1 n2 c1 c2 : Nat) (l1 l2 : List Int) (w : World) (h1 : l1.length = n1) (h2 : l2.length = n2) (k8 : 20 ≤ n1) (k1 : n1 ≤ 300) (k2 : n2 ≤ 300) (hnc : n1 ≤ c1) (hc : c1 ≤ 9223372036854775807) (hb : b < w.heap.size) (hs : Lies w b off l1) (z2 : A2 = none → c2 = 0) (r2 : Row w w.heap.size A2 (l2.map (.int .u8))) (b1 : ∀ x ∈ l1, 0 ≤ x ∧ x ≤ 255) (b2 : ∀ x ∈ l2, 0 ≤ x ∧ x ≤ 255)
    (C1 : Hid (∀ w : World, Calls Try.prog 17 #[v1] w fun e w' => e = .returned (.slice (some ⟨b, off, none⟩) n1 c1) ∧ w = w'))
    (C2 : Hid (∀ w : World, Calls Try.prog 17 #[v2] w fun e w' => e = .returned (.slice A2 n2 c2) ∧ w = w'))
    (hw : 20 ≤ l1.getD 12 0 / 16 * 4 ∧ l1.getD 12 0 / 16 * 4 ≤ n1 ∧ l1.getD 12 0 % 16 ≠ 0) :
    Calls Try.prog 6 #[v1, v2] w fun e w' => e = .returned (.bool true) ∧ Below w.heap.size w w' := by
  have HP := Lib.hid (parse_head b off n1 c1 n2 c2 A2 l1 l2 w h1 k8 (by omega) hnc hc hb hs b1 h2 (by omega) r2 b2 (.inr (.inr hw)))
  have HAW := Lib.hid Go.Proofs.Ytjgeknkfinaimaa.tcpB.awake_any
  have HS := Lib.hid hs
  have R2 := Lib.hid r2
  have L1 := Lib.hid h1
  have L2 := Lib.hid h2
  have B1 := Lib.hid b1
  have B2 := Lib.hid b2
  have Z2 := Lib.hid z2
  have x12 := getD_in l1 b1 12
  have HC4 := Lib.hid (show ∀ i, i < n1 → ∀ W : World, Below w.heap.size w W → W.cell? ⟨b, off + i, none⟩ = some (.int .u8 (l1.getD i 0)) from fun i hi W hW => (hs.below hW hb) i (by rw [h1]; exact hi))
  have HQ := Lib.hid (HC4.out 12 (by omega))
  have t1 : decide (l1.getD 12 0 / 16 < 5) = false := decide_eq_false (by omega)
  have t2 : decide ((n1 : Int) < l1.getD 12 0 / 16 * 4) = false := decide_eq_false (by omega)
  have t3 : (l1.getD 12 0 % 16 != 0) = true := bneT hw.2.2
  clear hs r2 h1 h2 b1 b2 z2 hw
  generalize l1.getD 12 0 = y at *
  obtain ⟨z0, z1⟩ := x12
  go_enter Try.func6, Try.ntmps6
  go_wp2_with fail
  refine (C1.out _).mono ?_
  rintro e w' ⟨rfl, rfl⟩
  go_wp2_with fail
  refine (C2.out _).mono ?_
  rintro e w' ⟨rfl, rfl⟩
  go_wp2_with fail
  refine HP.out.mono ?_
  rintro e w1 ⟨he, hbel⟩
  unfold errt at he
  subst he
  have HW := Lib.hid (bel_alloc hbel (.cells #[.int .i64 0, .int .i64 0, .int .u32 0, .int .u32 0, .int .i64 0, .int .i64 0, .int .i64 0, .slice none 0 0] 40))
  have HRB := Lib.hid (Blk.new w1 40 #[.int .i64 0, .int .i64 0, .int .u32 0, .int .u32 0, .int .i64 0, .int .i64 0, .int .i64 0, .slice none 0 0])
  have q12 : (w1.alloc (.cells #[.int .i64 0, .int .i64 0, .int .u32 0, .int .u32 0, .int .i64 0, .int .i64 0, .int .i64 0, .slice none 0 0] 40)).cell? ⟨b, off + 12, none⟩ = some (.int .u8 y) := HQ.out _ HW.out
  have y12 : (12 : Int) < (n1 : Int) := by omega
  clear hbel
  go_wp2_with fail
  refine (Go.Proofs.Ytjgeknkfinaimaa.tcpF.same_zero _).mono ?_
  rintro e w8 ⟨rfl, hb8⟩
  go_wp2_with fail
  refine (HAW.out _).mono ?_
  rintro e w9 ⟨rfl, hb9⟩
  go_wp2_with fail
  go_ret
  exact ⟨rfl, bel_call (bel_call HW.out hb8) hb9⟩
set_option maxRecDepth 100000 in
set_option maxHeartbeats 4000000 in
theorem parses_sum (v1 v2 : Value) (b off : Nat) (A2 : Option Addr) (n1 n2 c1 c2 : Nat) (l1 l2 : List Int) (w : World) (h1 : l1.length = n1) (h2 : l2.length = n2) (k8 : 20 ≤ n1) (k1 : n1 ≤ 300) (k2 : n2 ≤ 300) (hnc : n1 ≤ c1) (hc : c1 ≤ 9223372036854775807) (hb : b < w.heap.size) (hs : Lies w b off l1) (z2 : A2 = none → c2 = 0) (r2 : Row w w.heap.size A2 (l2.map (.int .u8))) (b1 : ∀ x ∈ l1, 0 ≤ x ∧ x ≤ 255) (b2 : ∀ x ∈ l2, 0 ≤ x ∧ x ≤ 255)
    (C1 : Hid (∀ w : World, Calls Try.prog 17 #[v1] w fun e w' => e = .returned (.slice (some ⟨b, off, none⟩) n1 c1) ∧ w = w'))
    (C2 : Hid (∀ w : World, Calls Try.prog 17 #[v2] w fun e w' => e = .returned (.slice A2 n2 c2) ∧ w = w'))
    (h3 : 20 ≤ l1.getD 12 0 / 16 * 4) (h4 : l1.getD 12 0 / 16 * 4 ≤ n1) (h5 : l1.getD 12 0 % 16 = 0) (hS : ¬ fo (wsum (l2 ++ l1)) = 65535) :
    Calls Try.prog 6 #[v1, v2] w fun e w' => e = .returned (.bool true) ∧ Below w.heap.size w w' := by
  have HP := Lib.hid (parse_sum b off n1 c1 n2 c2 A2 l1 l2 w h1 k8 (by omega) hnc hc hb hs b1 h2 (by omega) r2 b2 h3 h4 h5 hS)
  have HAW := Lib.hid Go.Proofs.Ytjgeknkfinaimaa.tcpB.awake_any
  have HS := Lib.hid hs
  have R2 := Lib.hid r2
  have L1 := Lib.hid h1
  have L2 := Lib.hid h2
  have B1 := Lib.hid b1
  have B2 := Lib.hid b2
  have Z2 := Lib.hid z2
  have x12 := getD_in l1 b1 12
  have HC4 := Lib.hid (show ∀ i, i < n1 → ∀ W : World, Below w.heap.size w W → W.cell? ⟨b, off + i, none⟩ = some (.int .u8 (l1.getD i 0)) from fun i hi W hW => (hs.below hW hb) i (by rw [h1]; exact hi))
  have HQ := Lib.hid (HC4.out 12 (by omega))
  have t1 : decide (l1.getD 12 0 / 16 < 5) = false := decide_eq_false (by omega)
  have t2 : decide ((n1 : Int) < l1.getD 12 0 / 16 * 4) = false := decide_eq_false (by omega)
  have t3 : (l1.getD 12 0 % 16 != 0) = false := bneF h5
  have TS := Lib.hid (show (fo (wsum (l2 ++ l1)) != 65535) = true from bneT hS)
  have HFB := fo_bd (wsum (l2 ++ l1)) (wsum_bd _ (fun x hx => (List.mem_append.1 hx).elim (b2 x) (b1 x))).1
  have HREF := Lib.hid (fun (A : Option Addr) (c : Nat) (W : World) hr => Go.Proofs.Ytjgeknkfinaimaa.sumH.refOf_any A (n2 + n1) c (l2 ++ l1) W (by rw [List.length_append, h1, h2]) (by omega) hr (fun x hx => (List.mem_append.1 hx).elim (b2 x) (b1 x)))
  obtain ⟨i0, hi0, hz0, hz1, hz2⟩ := info_parts info_u8
  have HI0 := Lib.hid hi0
  have HZ0 := Lib.hid hz0
  have HZ1 := Lib.hid hz1
  have HZ2 := Lib.hid hz2
  have ONE := Lib.hid (show ∀ l : List Int, ∀ u ∈ l.map (Value.int .u8), u.oneCell' = true from by
    intro l u hu
    rw [List.mem_map] at hu
    obtain ⟨x, _, rfl⟩ := hu
    rfl)
  have ME1 := Lib.hid (show 0 + n2 ≤ maxLen by unfold maxLen; omega)
  have ME2 := Lib.hid (show (0 + n2) * 1 ≤ 140737488355328 by omega)
  have ME3 := Lib.hid (show 0 + n2 + n1 ≤ maxLen by unfold maxLen; omega)
  have ME4 := Lib.hid (show (0 + n2 + n1) * 1 ≤ 140737488355328 by omega)
  have EL := Lib.hid (show [] ++ l2.map (Value.int .u8) ++ l1.map (Value.int .u8) = (l2 ++ l1).map (Value.int .u8) by simp)
  clear hi0 hz0 hz1 hz2
  clear hs r2 h1 h2 b1 b2 z2 h3 h4 h5 hS
  have tsv : (fo (wsum (l2 ++ l1)) != 65535) = true := TS.out
  generalize fo (wsum (l2 ++ l1)) = sv at *
  clear HFB TS
  generalize l1.getD 12 0 = y at *
  obtain ⟨z0, z1⟩ := x12
  go_enter Try.func6, Try.ntmps6
  go_wp2_with fail
  refine (C1.out _).mono ?_
  rintro e w' ⟨rfl, rfl⟩
  go_wp2_with fail
  refine (C2.out _).mono ?_
  rintro e w' ⟨rfl, rfl⟩
  go_wp2_with fail
  refine HP.out.mono ?_
  rintro e w1 ⟨he, hbel⟩
  unfold errt at he
  subst he
  have HW := Lib.hid (bel_alloc hbel (.cells #[.int .i64 0, .int .i64 0, .int .u32 0, .int .u32 0, .int .i64 0, .int .i64 0, .int .i64 0, .slice none 0 0] 40))
  have HRB := Lib.hid (Blk.new w1 40 #[.int .i64 0, .int .i64 0, .int .u32 0, .int .u32 0, .int .i64 0, .int .i64 0, .int .i64 0, .slice none 0 0])
  have q12 : (w1.alloc (.cells #[.int .i64 0, .int .i64 0, .int .u32 0, .int .u32 0, .int .i64 0, .int .i64 0, .int .i64 0, .slice none 0 0] 40)).cell? ⟨b, off + 12, none⟩ = some (.int .u8 y) := HQ.out _ HW.out
  have y12 : (12 : Int) < (n1 : Int) := by omega
  clear hbel
  have hk0 : w1.heap.size < (w1.alloc (.cells #[.int .i64 0, .int .i64 0, .int .u32 0, .int .u32 0, .int .i64 0, .int .i64 0, .int .i64 0, .slice none 0 0] 40)).heap.size := by simp
  have HXA := Lib.hid (HW.out.alloc HW.out.size (.cells #[] 5))
  have HSZ := Lib.hid (show (w1.alloc (.cells #[.int .i64 0, .int .i64 0, .int .u32 0, .int .u32 0, .int .i64 0, .int .i64 0, .int .i64 0, .slice none 0 0] 40)).heap.size = w1.heap.size + 1 by simp)
  have HWS := Lib.hid (show w.heap.size ≤ w1.heap.size + 1 by rw [← HSZ.out]; exact HW.out.size)
  have HXB := Lib.hid ((Below.refl (w1.heap.size + 1) (w1.alloc (.cells #[.int .i64 0, .int .i64 0, .int .u32 0, .int .u32 0, .int .i64 0, .int .i64 0, .int .i64 0, .slice none 0 0] 40))).alloc (Nat.le_of_eq HSZ.out.symm) (.cells #[] 5))
  have hlit := World.ownsRow_lit (base := (w1.alloc (.cells #[.int .i64 0, .int .i64 0, .int .u32 0, .int .u32 0, .int .i64 0, .int .i64 0, .int .i64 0, .slice none 0 0] 40)).heap.size) (e := 5) (size := 1) (w1.alloc (.cells #[.int .i64 0, .int .i64 0, .int .u32 0, .int .u32 0, .int .i64 0, .int .i64 0, .int .i64 0, .slice none 0 0] 40)) #[] 0 (Nat.le_refl _) (Nat.zero_le _) rfl
  rw [HSZ.out] at hlit
  have HLIT := Lib.hid hlit
  clear hlit
  go_wp2_with (first
    | (at_builtin; refine wpList_append_row rfl (.tmp 48) (.tmp 49) _ rfl (w1.heap.size + 1) 5 i0 _ 1 Try.underlying23 HI0.out HZ0.out HZ1.out HZ2.out rfl (.slice (some ⟨w1.heap.size + 1, 0, none⟩) 0 0) 0 [] rfl HLIT.out A2 n2 c2 w.heap.size (l2.map (.int .u8)) rfl Z2.out (by rw [List.length_map]; exact L2.out) (R2.out.below HXA.out) (ONE.out _) ME1.out ME2.out (by simp) ?_; intro va wa owna ga; have HOa := Lib.hid owna; have HBa := Lib.hid (below_grown HXB.out HLIT.out (Nat.le_refl _) (by simp) ga); clear owna ga)
    | (at_builtin; have hsa := Nat.le_trans (Nat.le_of_eq HSZ.out.symm) HBa.out.size; refine wpList_append_row rfl (.tmp 50) (.tmp 51) _ rfl (w1.heap.size + 1) 5 i0 _ 1 Try.underlying23 HI0.out HZ0.out HZ1.out HZ2.out rfl va (0 + n2) _ rfl HOa.out (some ⟨b, off, none⟩) n1 c1 w.heap.size (l1.map (.int .u8)) rfl (by intro h; cases h) (by rw [List.length_map]; exact L1.out) ((HS.out.row hb).below (HW.out.trans (HBa.out.mono HWS.out))) (ONE.out _) ME3.out ME4.out hsa ?_; intro vb wb ownb gb; have HOb := Lib.hid ownb; have HBb := Lib.hid (below_grown HBa.out HOa.out (Nat.le_refl _) hsa gb); clear ownb gb))
  have hob := HOb.out
  rw [EL.out, Nat.zero_add] at hob
  obtain ⟨Ab, cb, rfl⟩ := own_slice hob
  have HRW := Lib.hid (HREF.out Ab cb wb (own_row hob))
  clear hob HOa HOb
  refine HRW.out.mono ?_
  rintro e w5 ⟨rfl, hb5⟩
  have hbV : Below (w1.alloc (.cells #[.int .i64 0, .int .i64 0, .int .u32 0, .int .u32 0, .int .i64 0, .int .i64 0, .int .i64 0, .slice none 0 0] 40)).heap.size (w1.alloc (.cells #[.int .i64 0, .int .i64 0, .int .u32 0, .int .u32 0, .int .i64 0, .int .i64 0, .int .i64 0, .slice none 0 0] 40)) w5 := bel_call (show Below (w1.alloc (.cells #[.int .i64 0, .int .i64 0, .int .u32 0, .int .u32 0, .int .i64 0, .int .i64 0, .int .i64 0, .slice none 0 0] 40)).heap.size (w1.alloc (.cells #[.int .i64 0, .int .i64 0, .int .u32 0, .int .u32 0, .int .i64 0, .int .i64 0, .int .i64 0, .slice none 0 0] 40)) wb by rw [HSZ.out]; exact HBb.out) hb5
  have HB5 := Lib.hid (HW.out.trans (hbV.mono HW.out.size))
  have HR5 := HRB.out.below hbV hk0
  have r0 : w5.cell? ⟨w1.heap.size, 0, none⟩ = some (.int .i64 0) := HR5.cell 0
  have r1 : w5.cell? ⟨w1.heap.size, 1, none⟩ = some (.int .i64 0) := HR5.cell 1
  have r2 : w5.cell? ⟨w1.heap.size, 2, none⟩ = some (.int .u32 0) := HR5.cell 2
  have r3 : w5.cell? ⟨w1.heap.size, 3, none⟩ = some (.int .u32 0) := HR5.cell 3
  have r4 : w5.cell? ⟨w1.heap.size, 4, none⟩ = some (.int .i64 0) := HR5.cell 4
  have r5 : w5.cell? ⟨w1.heap.size, 5, none⟩ = some (.int .i64 0) := HR5.cell 5
  have r6 : w5.cell? ⟨w1.heap.size, 6, none⟩ = some (.int .i64 0) := HR5.cell 6
  have r7 : w5.cell? ⟨w1.heap.size, 7, none⟩ = some (.slice none 0 0) := HR5.cell 7
  clear HR5 HRB q12
  go_wp2_with fail
  refine (Go.Proofs.Ytjgeknkfinaimaa.tcpF.same_zero _).mono ?_
  rintro e w8 ⟨rfl, hb8⟩
  go_wp2_with fail
  refine (HAW.out _).mono ?_
  rintro e w9 ⟨rfl, hb9⟩
  go_wp2_with fail
  go_ret
  exact ⟨rfl, bel_call (bel_call HB5.out hb8) hb9⟩
end Go.Proofs.Ytjgeknkfinaimaa.tcpG
