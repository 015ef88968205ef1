/- Layer 10: which headers may be, by the law; what came in, cut. -/
import Derived.Test.YtjgeknkfinaimaaTcpE
import Derived.Test.YtjgeknkfinaimaaTcpB
import Derived.Test.YtjgeknkfinaimaaSumH
namespace Go.Proofs.Ytjgeknkfinaimaa.tcpF
open Go.ChangeShapes Go.WideShapes Go.ChangeAt Go.RowKit
open Go.Proofs.Ytjgeknkfinaimaa.base Go.Proofs.Ytjgeknkfinaimaa.sumA Go.Proofs.Ytjgeknkfinaimaa.sumB Go.Proofs.Ytjgeknkfinaimaa.octA Go.Proofs.Ytjgeknkfinaimaa.octB Go.Proofs.Ytjgeknkfinaimaa.octC Go.Proofs.Ytjgeknkfinaimaa.octE Go.Proofs.Ytjgeknkfinaimaa.octF Go.Proofs.Ytjgeknkfinaimaa.rdrA Go.Proofs.Ytjgeknkfinaimaa.udpA Go.Proofs.Ytjgeknkfinaimaa.udpE Go.Proofs.Ytjgeknkfinaimaa.tcpC Go.Proofs.Ytjgeknkfinaimaa.tcpD Go.Proofs.Ytjgeknkfinaimaa.tcpE
set_option linter.unusedVariables false

theorem same_zero (w : World) :
    Calls Try.prog 19 #[.agg #[.int .i64 0, .int .i64 0, .int .u32 0, .int .u32 0, .int .i64 0, .int .i64 0, .int .i64 0, .slice none 0 0], .agg #[.int .i64 0, .int .i64 0, .int .u32 0, .int .u32 0, .int .i64 0, .int .i64 0, .int .i64 0, .slice none 0 0]] w fun e w' => e = .returned (.bool true) ∧ Below w.heap.size w w' := by
  have cz := fun (w : World) => conv_zero w none 0
  go_enter Try.func19, Try.ntmps19
  go_wp2
  go_ret
  exact ⟨rfl, ((Below.refl _ _).alloc (Nat.le_refl _) _).alloc (by simp) _⟩
def fourF (a b c d : Int) : Nat → Int
  | 0 => a
  | 1 => b
  | 2 => c
  | _ => d
set_option maxRecDepth 100000 in
theorem lawright_yes (sp dp sq ak fl wn ur : Int) (AO : Option Addr) (no co : Nat) (w : World) (h1 : 0 ≤ sp) (h2 : sp ≤ 65535) (h3 : 0 ≤ dp) (h4 : dp ≤ 65535) (h9 : 0 ≤ fl) (h10 : fl ≤ 255) (h11 : 0 ≤ wn) (h12 : wn ≤ 65535) (h13 : 0 ≤ ur) (h14 : ur ≤ 65535)
    (ho : no ≤ 40) (hm : no % 4 = 0) :
    Calls Try.prog 22 #[.agg #[.int .i64 sp, .int .i64 dp, .int .u32 sq, .int .u32 ak, .int .i64 fl, .int .i64 wn, .int .i64 ur, .slice AO no co]] w fun e w' => e = .returned (.bool true) ∧ Below w.heap.size w w' := by
  have hz : (w.alloc (.cells #[.int .i64 sp, .int .i64 dp, .int .u32 sq, .int .u32 ak, .int .i64 fl, .int .i64 wn, .int .i64 ur, .slice AO no co] 40)).heap.size = w.heap.size + 1 := by simp
  have hblk := Blk.new (w.alloc (.cells #[.int .i64 sp, .int .i64 dp, .int .u32 sq, .int .u32 ak, .int .i64 fl, .int .i64 wn, .int .i64 ur, .slice AO no co] 40)) 3 #[.int .i64 sp, .int .i64 dp, .int .i64 wn, .int .i64 ur]
  rw [hz] at hblk
  have HCELL := Lib.hid (show ∀ k, k < 4 → ((w.alloc (.cells #[.int .i64 sp, .int .i64 dp, .int .u32 sq, .int .u32 ak, .int .i64 fl, .int .i64 wn, .int .i64 ur, .slice AO no co] 40)).alloc (.cells #[.int .i64 sp, .int .i64 dp, .int .i64 wn, .int .i64 ur] 3)).cell? ⟨w.heap.size + 1, k, none⟩ = some (.int .i64 (fourF sp dp wn ur k)) from fun k hk => by
    rw [hblk.cell k]
    match k, hk with
    | 0, _ => rfl
    | 1, _ => rfl
    | 2, _ => rfl
    | 3, _ => rfl)
  have HIN := Lib.hid (show ∀ k, 0 ≤ fourF sp dp wn ur k ∧ fourF sp dp wn ur k ≤ 65535 from fun k => by
    match k with
    | 0 => exact ⟨h1, h2⟩
    | 1 => exact ⟨h3, h4⟩
    | 2 => exact ⟨h11, h12⟩
    | (n + 3) => exact ⟨h13, h14⟩)
  have t0 : (((no : Int) % 4) == 0) = true := eqT (by omega)
  have box := ((Blk.new w 40 #[.int .i64 sp, .int .i64 dp, .int .u32 sq, .int .u32 ak, .int .i64 fl, .int .i64 wn, .int .i64 ur, .slice AO no co]).alloc (.cells #[.int .i64 sp, .int .i64 dp, .int .i64 wn, .int .i64 ur] 3))
  have HBOX := Lib.hid box
  clear hz hblk box
  go_enter Try.func22, Try.ntmps22
  go_wp2_with fail
  go_loop [4] (fun i => ∃ k : Nat, k ≤ 4 ∧ i = .int .i64 k) (fun i => 4 - (intOf i).toNat)
  case atStart => exact ⟨0, by omega, rfl⟩
  case round =>
    obtain ⟨k, hk, rfl⟩ := hrel
    by_cases hlt : k < 4
    · have hcell := HCELL.out k hlt
      have hin := HIN.out k
      generalize fourF sp dp wn ur k = x at *
      obtain ⟨i0, i1⟩ := hin
      have e0 : (0 : Int) ≤ (k : Int) := by omega
      have e1 : (k : Int) < 4 := by omega
      go_wp2_with fail
      go_round
      case rel => exact ⟨k + 1, by omega, by go_num⟩
      case measure => simp [intOf]; omega
    · have hcc : decide ((k : Int) < 4) = false := decide_eq_false (by omega)
      go_wp2_with fail
      go_ret
      exact ⟨rfl, ((Below.refl _ _).alloc (Nat.le_refl _) _).alloc (by simp) _⟩
theorem cut10_any (A : Option Addr) (n c : Nat) (w : World) (hnc : n ≤ c) (hc : c ≤ 9223372036854775807) (hA : ∀ x, A = some x → 300 < n → ∃ b off, x = ⟨b, off, none⟩) (hA2 : A = none → n = 0) :
    Calls Try.prog 17 #[.slice A n c] w fun e w' => e = .returned (.slice A (min n 300 : Nat) c) ∧ w = w' := by
  by_cases h : 300 < n
  · have hm : min n 300 = 300 := by omega
    rw [hm]
    have hd : decide ((300 : Int) < (n : Int)) = true := by simp; omega
    cases A with
    | none => have := hA2 rfl; omega
    | some x =>
      obtain ⟨b, off, rfl⟩ := hA x rfl h
      clear hA hA2 hm
      go_enter Try.func17, Try.ntmps17
      go_wp2_with fail
      go_ret
      exact ⟨rfl, rfl⟩
  · have hm : min n 300 = n := by omega
    rw [hm]
    have hd : decide ((300 : Int) < (n : Int)) = false := by simp; omega
    clear hA hA2 hm
    go_enter Try.func17, Try.ntmps17
    go_wp2_with fail
    go_ret
    exact ⟨rfl, rfl⟩
theorem join_drop (l : List Int) (s : Nat) (h : 20 ≤ s) (hs : s ≤ l.length) : (l.take s).drop 20 ++ l.drop s = l.drop 20 := by
  have e : l.drop 20 = (l.take s ++ l.drop s).drop 20 := by rw [List.take_append_drop]
  rw [e, List.drop_append_of_le_length (by rw [List.length_take]; omega)]
theorem tb_len (l : List Int) (s : Nat) (h : 20 ≤ s) (hs : s ≤ l.length) (sp dp sq ak fl wn ur : Int) : (tb sp dp sq ak fl wn ur ((l.take s).drop 20) (l.drop s)).length = l.length := by
  simp [tb]
  omega
theorem getD_tb (l : List Int) (s : Nat) (h : 20 ≤ s) (hs : s ≤ l.length) (hx : ∀ x ∈ l, 0 ≤ x ∧ x ≤ 255) (h1 : l.getD 12 0 / 16 * 4 = (s : Int)) (h3 : l.getD 12 0 % 16 = 0) (i : Nat) (hi : i < l.length) (h6 : i ≠ 16) (h7 : i ≠ 17) :
    (tb (w16 l 0) (w16 l 2) (w32 l 4) (w32 l 8) (l.getD 13 0) (w16 l 14) (w16 l 18) ((l.take s).drop 20) (l.drop s)).getD i 0 = l.getD i 0 := by
  have b : ∀ j, 0 ≤ l.getD j 0 ∧ l.getD j 0 ≤ 255 := fun j => getD_in l hx j
  have hol : ((l.take s).drop 20).length = s - 20 := by rw [List.length_drop, List.length_take]; omega
  unfold tb
  rw [List.append_assoc, join_drop l s h hs, hol]
  rcases Nat.lt_or_ge i 20 with g | g
  · rw [List.getD_eq_getElem?_getD, List.getElem?_append_left (by simpa using g)]
    have b0 := b 0
    have b1 := b 1
    have b2 := b 2
    have b3 := b 3
    have b4 := b 4
    have b5 := b 5
    have b6 := b 6
    have b7 := b 7
    have b8 := b 8
    have b9 := b 9
    have b10 := b 10
    have b11 := b 11
    have b12 := b 12
    have b13 := b 13
    have b14 := b 14
    have b15 := b 15
    have b16 := b 16
    have b17 := b 17
    have b18 := b 18
    have b19 := b 19
    unfold w32 w16
    match i, g, h6, h7 with
    | 0, _, _, _ => show (l.getD 0 0 * 256 + l.getD 1 0) / 256 = _; omega
    | 1, _, _, _ => show (l.getD 0 0 * 256 + l.getD 1 0) % 256 = _; omega
    | 2, _, _, _ => show (l.getD 2 0 * 256 + l.getD 3 0) / 256 = _; omega
    | 3, _, _, _ => show (l.getD 2 0 * 256 + l.getD 3 0) % 256 = _; omega
    | 4, _, _, _ => show ((l.getD 4 0 * 256 + l.getD 5 0) * 65536 + (l.getD 6 0 * 256 + l.getD 7 0)) / 65536 / 256 = _; omega
    | 5, _, _, _ => show ((l.getD 4 0 * 256 + l.getD 5 0) * 65536 + (l.getD 6 0 * 256 + l.getD 7 0)) / 65536 % 256 = _; omega
    | 6, _, _, _ => show ((l.getD 4 0 * 256 + l.getD 5 0) * 65536 + (l.getD 6 0 * 256 + l.getD 7 0)) % 65536 / 256 = _; omega
    | 7, _, _, _ => show ((l.getD 4 0 * 256 + l.getD 5 0) * 65536 + (l.getD 6 0 * 256 + l.getD 7 0)) % 65536 % 256 = _; omega
    | 8, _, _, _ => show ((l.getD 8 0 * 256 + l.getD 9 0) * 65536 + (l.getD 10 0 * 256 + l.getD 11 0)) / 65536 / 256 = _; omega
    | 9, _, _, _ => show ((l.getD 8 0 * 256 + l.getD 9 0) * 65536 + (l.getD 10 0 * 256 + l.getD 11 0)) / 65536 % 256 = _; omega
    | 10, _, _, _ => show ((l.getD 8 0 * 256 + l.getD 9 0) * 65536 + (l.getD 10 0 * 256 + l.getD 11 0)) % 65536 / 256 = _; omega
    | 11, _, _, _ => show ((l.getD 8 0 * 256 + l.getD 9 0) * 65536 + (l.getD 10 0 * 256 + l.getD 11 0)) % 65536 % 256 = _; omega
    | 12, _, _, _ => show (5 + ((s - 20 : Nat) : Int) / 4) * 16 = _; omega
    | 13, _, _, _ => rfl
    | 14, _, _, _ => show (l.getD 14 0 * 256 + l.getD 15 0) / 256 = _; omega
    | 15, _, _, _ => show (l.getD 14 0 * 256 + l.getD 15 0) % 256 = _; omega
    | 16, _, h, _ => exact absurd rfl h
    | 17, _, _, h => exact absurd rfl h
    | 18, _, _, _ => show (l.getD 18 0 * 256 + l.getD 19 0) / 256 = _; omega
    | 19, _, _, _ => show (l.getD 18 0 * 256 + l.getD 19 0) % 256 = _; omega
    | m + 20, g, _, _ => omega
  · rw [List.getD_eq_getElem?_getD, List.getElem?_append_right (by simpa using g), List.getElem?_drop, List.getD_eq_getElem?_getD]
    congr 2
    show 20 + (i - 20) = i
    omega
end Go.Proofs.Ytjgeknkfinaimaa.tcpF
