/- Layer 11: the law on bytes that are parsed, walked. -/
import Derived.Test.YtjgeknkfinaimaaUdpD
namespace Go.Proofs.Ytjgeknkfinaimaa.udpE
open Go.ChangeShapes Go.WideShapes Go.ChangeAt Go.RowKit
open Go.Proofs.Ytjgeknkfinaimaa.base Go.Proofs.Ytjgeknkfinaimaa.sumA Go.Proofs.Ytjgeknkfinaimaa.sumB Go.Proofs.Ytjgeknkfinaimaa.octA Go.Proofs.Ytjgeknkfinaimaa.octB Go.Proofs.Ytjgeknkfinaimaa.octC Go.Proofs.Ytjgeknkfinaimaa.octE Go.Proofs.Ytjgeknkfinaimaa.octF Go.Proofs.Ytjgeknkfinaimaa.rdrA Go.Proofs.Ytjgeknkfinaimaa.udpA Go.Proofs.Ytjgeknkfinaimaa.udpB Go.Proofs.Ytjgeknkfinaimaa.udpD
set_option linter.unusedVariables false

theorem own_keep {w w' : World} {base n : Nat} {e : TypeId} {v : Value} {xs : List Value} (h : w.ownsRow base e 1 v n xs) (hb : Below w.heap.size w w') : w'.ownsRow base e 1 v n xs := by
  refine ⟨h.1, ?_⟩
  rcases h.2 with hn | ⟨g, cap, cur, rfl, hg, hgg, rest⟩
  · exact .inl hn
  · exact .inr ⟨g, cap, cur, rfl, hg, (hb.block g (Array.getElem?_eq_some_iff.1 hgg).1).trans hgg, rest⟩
theorem bneT {a b : Int} (h : a ≠ b) : (a != b) = true := by simpa using h
theorem bneF {a b : Int} (h : a = b) : (a != b) = false := by subst h; simp
theorem eqT {a b : Int} (h : a = b) : (a == b) = true := by simpa using h
theorem eqF {a b : Int} (h : a ≠ b) : (a == b) = false := by simpa using h
theorem getD_ub (l : List Int) (h8 : 8 ≤ l.length) (hx : ∀ x ∈ l, 0 ≤ x ∧ x ≤ 255) (hn : l.length ≤ 65535) (h4 : w16 l 4 = l.length) (i : Nat) (hi : i < l.length) (h6 : i ≠ 6) (h7 : i ≠ 7) :
    (ub (w16 l 0) (w16 l 2) (l.drop 8) 0).getD i 0 = l.getD i 0 := by
  have b : ∀ j, 0 ≤ l.getD j 0 ∧ l.getD j 0 ≤ 255 := fun j => getD_in l hx j
  have k0 := w16_in l hx 0
  have k2 := w16_in l hx 2
  have e8 : ((8 + (l.drop 8).length : Nat) : Int) = w16 l 4 := by rw [h4, List.length_drop]; omega
  rw [ub_eight _ _ _ ⟨k0.1, k0.2, k2.1, k2.2⟩ (by rw [List.length_drop]; omega), e8]
  rcases Nat.lt_or_ge i 8 with g | g
  · have b0 := b 0
    have b1 := b 1
    have b2 := b 2
    have b3 := b 3
    have b4 := b 4
    have b5 := b 5
    rw [List.getD_eq_getElem?_getD, List.getElem?_append_left (by simpa using g)]
    unfold w16
    match i, g, h6, h7 with
    | 0, _, _, _ => show (l.getD 0 0 * 256 + l.getD 1 0) / 256 = _; omega
    | 1, _, _, _ => show (l.getD 0 0 * 256 + l.getD 1 0) % 256 = _; omega
    | 2, _, _, _ => show (l.getD 2 0 * 256 + l.getD 3 0) / 256 = _; omega
    | 3, _, _, _ => show (l.getD 2 0 * 256 + l.getD 3 0) % 256 = _; omega
    | 4, _, _, _ => show (l.getD 4 0 * 256 + l.getD 5 0) / 256 = _; omega
    | 5, _, _, _ => show (l.getD 4 0 * 256 + l.getD 5 0) % 256 = _; omega
    | 6, _, h, _ => exact absurd rfl h
    | 7, _, _, h => exact absurd rfl h
  · rw [List.getD_eq_getElem?_getD, List.getElem?_append_right (by simpa using g), List.getElem?_drop, List.getD_eq_getElem?_getD]
    congr 2
    show 8 + (i - 8) = i
    omega
theorem w16_zero (l : List Int) (hx : ∀ x ∈ l, 0 ≤ x ∧ x ≤ 255) : w16 l 6 = 0 ↔ l.getD 6 0 = 0 ∧ l.getD 7 0 = 0 := by
  have a := getD_in l hx 6
  have b := getD_in l hx 7
  show l.getD 6 0 * 256 + l.getD 7 0 = 0 ↔ _
  omega
theorem parses_short (v1 v2 : Value) (A1 A2 : Option Addr) (n1 n2 c1 c2 : Nat) (bare : Bool) (w : World) (hn : n1 < 8)
    (C1 : Hid (∀ w : World, Calls Try.prog 10 #[v1] w fun e w' => e = .returned (.slice A1 n1 c1) ∧ w = w'))
    (C2 : Hid (∀ w : World, Calls Try.prog 10 #[v2] w fun e w' => e = .returned (.slice A2 n2 c2) ∧ w = w')) :
    Calls Try.prog 4 #[v1, v2, .bool bare] w fun e w' => e = .returned (.bool true) ∧ Below w.heap.size w w' := by
  have HP := Lib.hid (fun w => parse_short A1 A2 n1 c1 n2 c2 bare w hn)
  have HAW := Lib.hid awake_any
  go_enter Try.func4, Try.ntmps4
  go_wp2_with fail
  refine (C1.out _).mono ?_
  rintro e w' ⟨rfl, rfl⟩
  go_wp2_with fail
  refine (C2.out _).mono ?_
  rintro e w' ⟨rfl, rfl⟩
  go_wp2_with fail
  refine (HP.out _).mono ?_
  rintro e w1 ⟨rfl, hb⟩
  have HB := Lib.hid (bel_alloc hb (.cells #[.int .i64 0, .int .i64 0, .bool false] 28))
  clear hb
  go_wp2_with fail
  refine (HAW.out _).mono ?_
  rintro e w2 ⟨rfl, hb2⟩
  go_wp2_with fail
  go_ret
  exact ⟨rfl, bel_call HB.out hb2⟩
set_option maxRecDepth 100000 in
set_option maxHeartbeats 4000000 in
theorem parses_len (v1 v2 : Value) (b off : Nat) (A2 : Option Addr) (n1 n2 c1 c2 : Nat) (l1 l2 : List Int) (bare : Bool) (w : World) (h1 : l1.length = n1) (h2 : l2.length = n2) (k8 : 8 ≤ n1) (k1 : n1 ≤ 300) (k2 : n2 ≤ 300) (hnc : n1 ≤ c1) (hc : c1 ≤ 9223372036854775807) (hb : b < w.heap.size) (hs : Lies w b off l1) (z2 : A2 = none → c2 = 0) (r2 : Row w w.heap.size A2 (l2.map (.int .u8))) (b1 : ∀ x ∈ l1, 0 ≤ x ∧ x ≤ 255) (b2 : ∀ x ∈ l2, 0 ≤ x ∧ x ≤ 255)
    (C1 : Hid (∀ w : World, Calls Try.prog 10 #[v1] w fun e w' => e = .returned (.slice (some ⟨b, off, none⟩) n1 c1) ∧ w = w'))
    (C2 : Hid (∀ w : World, Calls Try.prog 10 #[v2] w fun e w' => e = .returned (.slice A2 n2 c2) ∧ w = w'))
    (h4 : w16 l1 4 ≠ n1) :
    Calls Try.prog 4 #[v1, v2, .bool bare] w fun e w' => e = .returned (.bool true) ∧ Below w.heap.size w w' := by
  have HP := Lib.hid (parse_any b off n1 c1 n2 c2 A2 l1 l2 bare w h1 k8 (by omega) hnc hc hb hs b1 h2 (by omega) r2 b2)
  have HAW := Lib.hid awake_any
  have HS := Lib.hid hs
  have R2 := Lib.hid r2
  have L1 := Lib.hid h1
  have L2 := Lib.hid h2
  have B1 := Lib.hid b1
  have B2 := Lib.hid b2
  have Z2 := Lib.hid z2
  have HW6 := Lib.hid (w16_zero l1 b1)
  have x4 := getD_in l1 b1 4
  have x5 := getD_in l1 b1 5
  have x6 := getD_in l1 b1 6
  have x7 := getD_in l1 b1 7
  have h45 : w16 l1 4 = l1.getD 4 0 * 256 + l1.getD 5 0 := rfl
  have h4n : w16 l1 4 ≠ l1.length := by rw [h1]; exact h4
  have HPB := Lib.hid (show ∀ e w', ParsePost w l1 l2 bare e w' → e = .returned (errv 12) ∧ Below w.heap.size w w' from fun e w' h => h.1 h4n)
  have t45 : ((256 * l1.getD 4 0 + l1.getD 5 0) != (n1 : Int)) = true := bneT (by rw [h45] at h4; omega)
  have K1 := Lib.hid h4n
  clear h45 h4n hs r2 h1 h2 b1 b2 z2
  clear h4
  have HC4 := Lib.hid (show ∀ i, i < n1 → ∀ W : World, Below w.heap.size w W → W.cell? ⟨b, off + i, none⟩ = some (.int .u8 (l1.getD i 0)) from fun i hi W hW => (HS.out.below hW hb) i (by rw [L1.out]; exact hi))
  have HQ4 := Lib.hid (HC4.out 4 (by omega))
  have HQ5 := Lib.hid (HC4.out 5 (by omega))
  have HQ6 := Lib.hid (HC4.out 6 (by omega))
  have HQ7 := Lib.hid (HC4.out 7 (by omega))
  generalize l1.getD 4 0 = y4 at *
  generalize l1.getD 5 0 = y5 at *
  generalize l1.getD 6 0 = y6 at *
  generalize l1.getD 7 0 = y7 at *
  obtain ⟨x40, x41⟩ := x4
  obtain ⟨x50, x51⟩ := x5
  clear x6 x7
  go_enter Try.func4, Try.ntmps4
  go_wp2_with fail
  refine (C1.out _).mono ?_
  rintro e w' ⟨rfl, rfl⟩
  go_wp2_with fail
  refine (C2.out _).mono ?_
  rintro e w' ⟨rfl, rfl⟩
  go_wp2_with fail
  refine HP.out.mono ?_
  rintro e w1 hpost
  obtain ⟨he, hbel⟩ := HPB.out _ _ hpost
  unfold errv at he
  subst he
  have HW := Lib.hid (bel_alloc hbel (.cells #[.int .i64 0, .int .i64 0, .bool false] 28))
  have HRB := Lib.hid (Blk.new w1 28 #[.int .i64 0, .int .i64 0, .bool false])
  clear hpost hbel
  go_wp2_with fail
  generalize hk : w1.heap.size = k at *
  clear hk
  generalize w1.alloc (.cells #[.int .i64 0, .int .i64 0, .bool false] 28) = W at *
  have q4 : W.cell? ⟨b, off + 4, none⟩ = some (.int .u8 y4) := HQ4.out W HW.out
  have q5 : W.cell? ⟨b, off + 5, none⟩ = some (.int .u8 y5) := HQ5.out W HW.out
  have q6 : W.cell? ⟨b, off + 6, none⟩ = some (.int .u8 y6) := HQ6.out W HW.out
  have q7 : W.cell? ⟨b, off + 7, none⟩ = some (.int .u8 y7) := HQ7.out W HW.out
  have r0 : W.cell? ⟨k, 0, none⟩ = some (.int .i64 0) := HRB.out.cell 0
  have r1 : W.cell? ⟨k, 1, none⟩ = some (.int .i64 0) := HRB.out.cell 1
  have r2 : W.cell? ⟨k, 2, none⟩ = some (.bool false) := HRB.out.cell 2
  have y0 : (4 : Int) < (n1 : Int) := by omega
  have y1 : (5 : Int) < (n1 : Int) := by omega
  have y2 : (6 : Int) < (n1 : Int) := by omega
  have y3 : (7 : Int) < (n1 : Int) := by omega
  go_quiet (fail)
  go_wp2_with fail
  refine (HAW.out _).mono ?_
  rintro e w2 ⟨rfl, hb2⟩
  go_wp2_with fail
  go_ret
  exact ⟨rfl, bel_call (below_drewN HW.out _) hb2⟩
set_option maxRecDepth 100000 in
set_option maxHeartbeats 4000000 in
theorem parses_bare0 (v1 v2 : Value) (b off : Nat) (A2 : Option Addr) (n1 n2 c1 c2 : Nat) (l1 l2 : List Int) (w : World) (h1 : l1.length = n1) (h2 : l2.length = n2) (k8 : 8 ≤ n1) (k1 : n1 ≤ 300) (k2 : n2 ≤ 300) (hnc : n1 ≤ c1) (hc : c1 ≤ 9223372036854775807) (hb : b < w.heap.size) (hs : Lies w b off l1) (z2 : A2 = none → c2 = 0) (r2 : Row w w.heap.size A2 (l2.map (.int .u8))) (b1 : ∀ x ∈ l1, 0 ≤ x ∧ x ≤ 255) (b2 : ∀ x ∈ l2, 0 ≤ x ∧ x ≤ 255)
    (C1 : Hid (∀ w : World, Calls Try.prog 10 #[v1] w fun e w' => e = .returned (.slice (some ⟨b, off, none⟩) n1 c1) ∧ w = w'))
    (C2 : Hid (∀ w : World, Calls Try.prog 10 #[v2] w fun e w' => e = .returned (.slice A2 n2 c2) ∧ w = w'))
    (h4 : w16 l1 4 = n1) (h6 : w16 l1 6 = 0) :
    Calls Try.prog 4 #[v1, v2, .bool false] w fun e w' => e = .returned (.bool true) ∧ Below w.heap.size w w' := by
  have HP := Lib.hid (parse_any b off n1 c1 n2 c2 A2 l1 l2 false w h1 k8 (by omega) hnc hc hb hs b1 h2 (by omega) r2 b2)
  have HAW := Lib.hid awake_any
  have HS := Lib.hid hs
  have R2 := Lib.hid r2
  have L1 := Lib.hid h1
  have L2 := Lib.hid h2
  have B1 := Lib.hid b1
  have B2 := Lib.hid b2
  have Z2 := Lib.hid z2
  have HW6 := Lib.hid (w16_zero l1 b1)
  have x4 := getD_in l1 b1 4
  have x5 := getD_in l1 b1 5
  have x6 := getD_in l1 b1 6
  have x7 := getD_in l1 b1 7
  have h45 : w16 l1 4 = l1.getD 4 0 * 256 + l1.getD 5 0 := rfl
  have h4n : w16 l1 4 = l1.length := by rw [h1]; exact h4
  have t45 : ((256 * l1.getD 4 0 + l1.getD 5 0) != (n1 : Int)) = false := bneF (by rw [h45] at h4; omega)
  have HPB := Lib.hid (show ∀ e w', ParsePost w l1 l2 false e w' → e = .returned (errv 13) ∧ Below w.heap.size w w' from fun e w' h => h.2.1 h4n (.inl ⟨h6, rfl⟩))
  have g67 := (w16_zero l1 b1).1 h6
  have t6 : (l1.getD 6 0 == 0) = true := eqT g67.1
  have t7 : (l1.getD 7 0 == 0) = true := eqT g67.2
  clear g67
  have K1 := Lib.hid h4n
  clear h45 h4n hs r2 h1 h2 b1 b2 z2
  clear h4
  clear h6
  have HC4 := Lib.hid (show ∀ i, i < n1 → ∀ W : World, Below w.heap.size w W → W.cell? ⟨b, off + i, none⟩ = some (.int .u8 (l1.getD i 0)) from fun i hi W hW => (HS.out.below hW hb) i (by rw [L1.out]; exact hi))
  have HQ4 := Lib.hid (HC4.out 4 (by omega))
  have HQ5 := Lib.hid (HC4.out 5 (by omega))
  have HQ6 := Lib.hid (HC4.out 6 (by omega))
  have HQ7 := Lib.hid (HC4.out 7 (by omega))
  generalize l1.getD 4 0 = y4 at *
  generalize l1.getD 5 0 = y5 at *
  generalize l1.getD 6 0 = y6 at *
  generalize l1.getD 7 0 = y7 at *
  obtain ⟨x40, x41⟩ := x4
  obtain ⟨x50, x51⟩ := x5
  clear x6 x7
  go_enter Try.func4, Try.ntmps4
  go_wp2_with fail
  refine (C1.out _).mono ?_
  rintro e w' ⟨rfl, rfl⟩
  go_wp2_with fail
  refine (C2.out _).mono ?_
  rintro e w' ⟨rfl, rfl⟩
  go_wp2_with fail
  refine HP.out.mono ?_
  rintro e w1 hpost
  obtain ⟨he, hbel⟩ := HPB.out _ _ hpost
  unfold errv at he
  subst he
  have HW := Lib.hid (bel_alloc hbel (.cells #[.int .i64 0, .int .i64 0, .bool false] 28))
  have HRB := Lib.hid (Blk.new w1 28 #[.int .i64 0, .int .i64 0, .bool false])
  clear hpost hbel
  go_wp2_with fail
  generalize hk : w1.heap.size = k at *
  clear hk
  generalize w1.alloc (.cells #[.int .i64 0, .int .i64 0, .bool false] 28) = W at *
  have q4 : W.cell? ⟨b, off + 4, none⟩ = some (.int .u8 y4) := HQ4.out W HW.out
  have q5 : W.cell? ⟨b, off + 5, none⟩ = some (.int .u8 y5) := HQ5.out W HW.out
  have q6 : W.cell? ⟨b, off + 6, none⟩ = some (.int .u8 y6) := HQ6.out W HW.out
  have q7 : W.cell? ⟨b, off + 7, none⟩ = some (.int .u8 y7) := HQ7.out W HW.out
  have r0 : W.cell? ⟨k, 0, none⟩ = some (.int .i64 0) := HRB.out.cell 0
  have r1 : W.cell? ⟨k, 1, none⟩ = some (.int .i64 0) := HRB.out.cell 1
  have r2 : W.cell? ⟨k, 2, none⟩ = some (.bool false) := HRB.out.cell 2
  have y0 : (4 : Int) < (n1 : Int) := by omega
  have y1 : (5 : Int) < (n1 : Int) := by omega
  have y2 : (6 : Int) < (n1 : Int) := by omega
  have y3 : (7 : Int) < (n1 : Int) := by omega
  go_quiet (fail)
  go_wp2_with fail
  refine (HAW.out _).mono ?_
  rintro e w2 ⟨rfl, hb2⟩
  go_wp2_with fail
  go_ret
  exact ⟨rfl, bel_call (below_drewN HW.out _) hb2⟩
end Go.Proofs.Ytjgeknkfinaimaa.udpE
