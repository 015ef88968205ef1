/- Layer 10: the law and the code on headers that may not be. -/
import Derived.Test.YtjgeknkfinaimaaTcpK
import Derived.Test.YtjgeknkfinaimaaTcpL
import Derived.Test.YtjgeknkfinaimaaTcpF
namespace Go.Proofs.Ytjgeknkfinaimaa.tcpM
open Go.ChangeShapes Go.WideShapes Go.ChangeAt Go.RowKit
open Go.Proofs.Ytjgeknkfinaimaa.base Go.Proofs.Ytjgeknkfinaimaa.sumA Go.Proofs.Ytjgeknkfinaimaa.sumB Go.Proofs.Ytjgeknkfinaimaa.octA Go.Proofs.Ytjgeknkfinaimaa.octB Go.Proofs.Ytjgeknkfinaimaa.octC Go.Proofs.Ytjgeknkfinaimaa.octE Go.Proofs.Ytjgeknkfinaimaa.octF Go.Proofs.Ytjgeknkfinaimaa.octK Go.Proofs.Ytjgeknkfinaimaa.rdrA Go.Proofs.Ytjgeknkfinaimaa.udpA Go.Proofs.Ytjgeknkfinaimaa.udpE Go.Proofs.Ytjgeknkfinaimaa.tcpC Go.Proofs.Ytjgeknkfinaimaa.tcpD Go.Proofs.Ytjgeknkfinaimaa.tcpE Go.Proofs.Ytjgeknkfinaimaa.tcpI Go.Proofs.Ytjgeknkfinaimaa.tcpJ Go.Proofs.Ytjgeknkfinaimaa.tcpF Go.Proofs.Ytjgeknkfinaimaa.tcpK
set_option linter.unusedVariables false

set_option maxRecDepth 100000 in
theorem lawright_no (sp dp sq ak fl wn ur : Int) (AO : Option Addr) (no co : Nat) (w : World) (h : ¬ okH sp dp wn ur fl no) :
    Calls Try.prog 22 #[.agg #[.int .i64 sp, .int .i64 dp, .int .u32 sq, .int .u32 ak, .int .i64 fl, .int .i64 wn, .int .i64 ur, .slice AO no co]] w fun e w' => e = .returned (.bool false) ∧ Below w.heap.size w w' := by
  have hz : (w.alloc (.cells #[.int .i64 sp, .int .i64 dp, .int .u32 sq, .int .u32 ak, .int .i64 fl, .int .i64 wn, .int .i64 ur, .slice AO no co] 40)).heap.size = w.heap.size + 1 := by simp
  have hblk := Blk.new (w.alloc (.cells #[.int .i64 sp, .int .i64 dp, .int .u32 sq, .int .u32 ak, .int .i64 fl, .int .i64 wn, .int .i64 ur, .slice AO no co] 40)) 3 #[.int .i64 sp, .int .i64 dp, .int .i64 wn, .int .i64 ur]
  rw [hz] at hblk
  have HCELL := Lib.hid (show ∀ k, k < 4 → ((w.alloc (.cells #[.int .i64 sp, .int .i64 dp, .int .u32 sq, .int .u32 ak, .int .i64 fl, .int .i64 wn, .int .i64 ur, .slice AO no co] 40)).alloc (.cells #[.int .i64 sp, .int .i64 dp, .int .i64 wn, .int .i64 ur] 3)).cell? ⟨w.heap.size + 1, k, none⟩ = some (.int .i64 (fourF sp dp wn ur k)) from fun k hk => by
    rw [hblk.cell k]
    match k, hk with
    | 0, _ => rfl
    | 1, _ => rfl
    | 2, _ => rfl
    | 3, _ => rfl)
  have HBAD := Lib.hid (show (∀ j, j < 4 → 0 ≤ fourF sp dp wn ur j ∧ fourF sp dp wn ur j ≤ 65535) → fl < 0 ∨ (0 ≤ fl ∧ 255 < fl) ∨ (0 ≤ fl ∧ fl ≤ 255 ∧ 40 < no) ∨ (0 ≤ fl ∧ fl ≤ 255 ∧ no ≤ 40 ∧ no % 4 ≠ 0) from fun hj => by
    have a0 : 0 ≤ sp ∧ sp ≤ 65535 := hj 0 (by omega)
    have a1 : 0 ≤ dp ∧ dp ≤ 65535 := hj 1 (by omega)
    have a2 : 0 ≤ wn ∧ wn ≤ 65535 := hj 2 (by omega)
    have a3 : 0 ≤ ur ∧ ur ≤ 65535 := hj 3 (by omega)
    unfold okH at h
    omega)
  have box := ((Blk.new w 40 #[.int .i64 sp, .int .i64 dp, .int .u32 sq, .int .u32 ak, .int .i64 fl, .int .i64 wn, .int .i64 ur, .slice AO no co]).alloc (.cells #[.int .i64 sp, .int .i64 dp, .int .i64 wn, .int .i64 ur] 3))
  have HBOX := Lib.hid box
  clear hz hblk box h
  go_enter Try.func22, Try.ntmps22
  go_wp2_with fail
  go_loop [4] (fun i => ∃ k : Nat, k ≤ 4 ∧ i = .int .i64 k ∧ ∀ j, j < k → 0 ≤ fourF sp dp wn ur j ∧ fourF sp dp wn ur j ≤ 65535) (fun i => 4 - (intOf i).toNat)
  case atStart => exact ⟨0, by omega, rfl, fun j hj => absurd hj (by omega)⟩
  case round =>
    obtain ⟨k, hk, rfl, hall⟩ := hrel
    by_cases hlt : k < 4
    · have hcell := HCELL.out k hlt
      have HA := Lib.hid (show (0 ≤ fourF sp dp wn ur k ∧ fourF sp dp wn ur k ≤ 65535) → ∀ j, j < k + 1 → 0 ≤ fourF sp dp wn ur j ∧ fourF sp dp wn ur j ≤ 65535 from fun hk j hj => by
        rcases Nat.lt_or_eq_of_le (Nat.lt_succ_iff.1 hj) with h | rfl
        · exact hall j h
        · exact hk)
      clear hall
      have e0 : (0 : Int) ≤ (k : Int) := by omega
      have e1 : (k : Int) < 4 := by omega
      generalize fourF sp dp wn ur k = x at hcell HA
      by_cases g0 : x < 0
      · go_wp2_with fail
        go_ret
        exact ⟨rfl, ((Below.refl _ _).alloc (Nat.le_refl _) _).alloc (by simp) _⟩
      · by_cases g1 : 65535 < x
        · go_wp2_with fail
          go_ret
          exact ⟨rfl, ((Below.refl _ _).alloc (Nat.le_refl _) _).alloc (by simp) _⟩
        · have q0 : decide (x < 0) = false := decide_eq_false g0
          have q1 : decide (65535 < x) = false := decide_eq_false g1
          go_wp2_with fail
          go_round
          case rel => exact ⟨k + 1, by omega, by go_num, HA.out ⟨by omega, by omega⟩⟩
          case measure => simp [intOf]; omega
    · have hcc : decide ((k : Int) < 4) = false := decide_eq_false (by omega)
      have hb := HBAD.out (fun j hj => hall j (by omega))
      clear hall
      rcases hb with b0 | ⟨b0, b1⟩ | ⟨b0, b1, b2⟩ | ⟨b0, b1, b2, b3⟩
      · have q0 : decide (0 ≤ fl) = false := decide_eq_false (by omega)
        go_wp2_with fail
        go_ret
        exact ⟨rfl, ((Below.refl _ _).alloc (Nat.le_refl _) _).alloc (by simp) _⟩
      · have q0 : decide (fl ≤ 255) = false := decide_eq_false (by omega)
        go_wp2_with fail
        go_ret
        exact ⟨rfl, ((Below.refl _ _).alloc (Nat.le_refl _) _).alloc (by simp) _⟩
      · have q0 : decide ((no : Int) ≤ 40) = false := decide_eq_false (by omega)
        go_wp2_with fail
        go_ret
        exact ⟨rfl, ((Below.refl _ _).alloc (Nat.le_refl _) _).alloc (by simp) _⟩
      · have q0 : decide ((no : Int) ≤ 40) = true := decide_eq_true (by omega)
        have t0 : (((no : Int) % 4) == 0) = false := eqF (by omega)
        go_wp2_with fail
        go_ret
        exact ⟨rfl, ((Below.refl _ _).alloc (Nat.le_refl _) _).alloc (by simp) _⟩
theorem bytes_wrong (sp dp sq ak fl wn ur : Int) (AO : Option Addr) (no co : Nat) (A A2 : Option Addr) (n c n2 c2 : Nat) (w : World) (h : ¬ okH sp dp wn ur fl no) :
    Calls Try.prog 23 #[.agg #[.int .i64 sp, .int .i64 dp, .int .u32 sq, .int .u32 ak, .int .i64 fl, .int .i64 wn, .int .i64 ur, .slice AO no co], .slice A n c, .slice A2 n2 c2] w fun e w' => e = .returned (.tuple #[.slice none 0 0, .int .i64 1]) ∧ Below w.heap.size w w' := by
  have HB0 := Lib.hid (show Below w.heap.size w (w.alloc (.cells #[.int .i64 sp, .int .i64 dp, .int .u32 sq, .int .u32 ak, .int .i64 fl, .int .i64 wn, .int .i64 ur, .slice AO no co] 40)) from (Below.refl _ _).alloc (Nat.le_refl _) _)
  have H := Lib.hid (fun w => right_no sp dp sq ak fl wn ur AO no co w h)
  clear h
  go_enter Try.func23, Try.ntmps23
  go_wp2_with fail
  refine (H.out _).mono ?_
  rintro e w' ⟨rfl, hb⟩
  have HB := Lib.hid (bel_call HB0.out hb)
  go_wp2_with fail
  go_ret2
  exact ⟨rfl, HB.out⟩
end Go.Proofs.Ytjgeknkfinaimaa.tcpM
