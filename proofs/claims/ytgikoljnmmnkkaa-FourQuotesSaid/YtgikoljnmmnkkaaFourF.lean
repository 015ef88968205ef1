/- Layer 8: the example; why bytes are none. -/
import Derived.Test.YtgikoljnmmnkkaaFourE
namespace Go.Proofs.Ytgikoljnmmnkkaa.fourF
open Go.ChangeShapes Go.WideShapes Go.ChangeAt Go.RowKit
open Go.Proofs.Ytgikoljnmmnkkaa.base Go.Proofs.Ytgikoljnmmnkkaa.sumA Go.Proofs.Ytgikoljnmmnkkaa.sumB Go.Proofs.Ytgikoljnmmnkkaa.octA Go.Proofs.Ytgikoljnmmnkkaa.octB Go.Proofs.Ytgikoljnmmnkkaa.octC Go.Proofs.Ytgikoljnmmnkkaa.octD Go.Proofs.Ytgikoljnmmnkkaa.octE Go.Proofs.Ytgikoljnmmnkkaa.octF Go.Proofs.Ytgikoljnmmnkkaa.octK Go.Proofs.Ytgikoljnmmnkkaa.rdrA Go.Proofs.Ytgikoljnmmnkkaa.udpA Go.Proofs.Ytgikoljnmmnkkaa.tcpC Go.Proofs.Ytgikoljnmmnkkaa.net Go.Proofs.Ytgikoljnmmnkkaa.fourA Go.Proofs.Ytgikoljnmmnkkaa.fourB Go.Proofs.Ytgikoljnmmnkkaa.fourC Go.Proofs.Ytgikoljnmmnkkaa.fourD Go.Proofs.Ytgikoljnmmnkkaa.fourE
set_option linter.unusedVariables false

set_option maxRecDepth 100000 in
theorem awake_any (w : World) : Calls Try.prog 28 #[] w fun e w' => e = .returned (.bool true) ∧ Below w.heap.size w w' := by
  have hb := bytes_any 0 0 false false 0 9 0 0 0 none 0 0 [] none 0 0 [] w ⟨by omega, by omega, by omega, by omega, by omega, by omega, by omega, by omega, by omega⟩ rfl (.inl rfl) (fun _ => rfl) (by simp) rfl (by omega) (.inl rfl) (fun _ => rfl) _ rfl
  generalize 65535 - fo _ = ck at hb
  unfold BPost at hb
  have HB := Lib.hid hb
  have HLEN := Lib.hid (show (hk 0 0 (flz false false 0) 9 0 0 0 ck (20 + ((0 : Nat) : Int) + ((0 : Nat) : Int)) [] ++ []).length = 20 by rw [List.append_nil, hk_len]; rfl)
  have HFST := Lib.hid (show ((hk 0 0 (flz false false 0) 9 0 0 0 ck (20 + ((0 : Nat) : Int) + ((0 : Nat) : Int)) [] ++ []).map (Value.int .u8))[0]? = some (.int .u8 69) from rfl)
  clear hb
  go_enter Try.func28, Try.ntmps28
  go_wp2_with fail
  refine HB.out.mono ?_
  rintro e w1 ⟨v, rfl, hown, hbel⟩
  rw [HLEN.out] at hown
  obtain ⟨g, cp, rfl, _, _, _, _, hcell, _⟩ := own_form hown (by omega)
  have c0 : w1.cell? ⟨g, 0, none⟩ = some (.int .u8 69) := (hcell 0 (by omega)).trans HFST.out
  have HBE := Lib.hid hbel
  clear hown hbel hcell
  go_wp2_with fail
  go_ret
  exact ⟨rfl, HBE.out⟩
theorem cut_any (A : Option Addr) (n c : Nat) (w : World) (hnc : n ≤ c) (hc : c ≤ 9223372036854775807) (hA : ∀ x, A = some x → 300 < n → ∃ b off, x = ⟨b, off, none⟩) (hA2 : A = none → n = 0) :
    Calls Try.prog 24 #[.slice A n c] w fun e w' => e = .returned (.slice A (min n 300 : Nat) c) ∧ w = w' := by
  by_cases h : 300 < n
  · have hm : min n 300 = 300 := by omega
    rw [hm]
    have hd : decide ((300 : Int) < (n : Int)) = true := by simp; omega
    cases A with
    | none => have := hA2 rfl; omega
    | some x =>
      obtain ⟨b, off, rfl⟩ := hA x rfl h
      clear hA hA2 hm
      go_enter Try.func24, Try.ntmps24
      go_wp2_with fail
      go_ret
      exact ⟨rfl, rfl⟩
  · have hm : min n 300 = n := by omega
    rw [hm]
    have hd : decide ((300 : Int) < (n : Int)) = false := by simp; omega
    clear hA hA2 hm
    go_enter Try.func24, Try.ntmps24
    go_wp2_with fail
    go_ret
    exact ⟨rfl, rfl⟩
theorem cut08_arg {w : World} {B : Nat} {A : Option Addr} {n c : Nat} {l : List Int} (hl : l.length = n) (hr : Row w B A (l.map (.int .u8))) (hnc : n ≤ c) (hc : c ≤ 9223372036854775807) :
    (l.take (min n 300)).length = min n 300 ∧ Row w B A ((l.take (min n 300)).map (.int .u8)) ∧
      Hid (∀ w : World, Calls Try.prog 24 #[.slice A n c] w fun e w' => e = .returned (.slice A (min n 300 : Nat) c) ∧ w = w') := by
  refine ⟨by rw [List.length_take]; omega, ?_, Lib.hid fun w => ?_⟩
  · have := hr.take (min n 300)
    rwa [← List.map_take] at this
  · refine cut_any A n c w hnc hc (fun x hx h => ?_) (fun h => ?_)
    · rcases hr with h0 | ⟨b, off, hA, _⟩
      · have := congrArg List.length h0; simp at this; rw [this] at hl; simp at hl; omega
      · rw [hx] at hA; injection hA with hA; exact ⟨b, off, hA⟩
    · rcases hr with h0 | ⟨b, off, hA, _⟩
      · have := congrArg List.length h0; simp at this; rw [this] at hl; simpa using hl.symm
      · rw [h] at hA; cases hA
theorem why_short (A : Option Addr) (n c : Nat) (w : World) (hn : n < 20) :
    Calls Try.prog 26 #[.slice A n c] w fun e w' => e = .returned (.int .i64 2) ∧ Below w.heap.size w w' := by
  go_enter Try.func26, Try.ntmps26
  go_wp2
  go_ret
  exact ⟨rfl, Below.refl _ _⟩
set_option maxRecDepth 100000 in
set_option maxHeartbeats 2000000 in
theorem why_ver (b off n c : Nat) (l : List Int) (w : World) (hl' : l.length = n) (hn : 20 ≤ n) (hn2 : n ≤ 1000) (hnc : n ≤ c) (hc : c ≤ 9223372036854775807) (hb : b < w.heap.size) (hs : Lies w b off l) (hx : ∀ x ∈ l, 0 ≤ x ∧ x ≤ 255) (h0 : l.getD 0 0 / 16 ≠ 4) :
    Calls Try.prog 26 #[.slice (some ⟨b, off, none⟩) n c] w fun e w' => e = .returned (.int .i64 10) ∧ Below w.heap.size w w' := by
  have c0 : w.cell? ⟨b, off, none⟩ = some (.int .u8 (l.getD 0 0)) := hs 0 (by omega)
  have k0 := getD_in l hx 0
  have y0 : 0 < n := by omega
  have t0 : (l.getD 0 0 / 16 != 4) = true := bneT h0
  clear hs hx hl' h0
  generalize l.getD 0 0 = x0 at *
  obtain ⟨z0, z1⟩ := k0
  go_enter Try.func26, Try.ntmps26
  go_wp2
  go_ret
  exact ⟨rfl, Below.refl _ _⟩
set_option maxRecDepth 100000 in
set_option maxHeartbeats 2000000 in
theorem why_small (b off n c : Nat) (l : List Int) (w : World) (hl' : l.length = n) (hn : 20 ≤ n) (hn2 : n ≤ 1000) (hnc : n ≤ c) (hc : c ≤ 9223372036854775807) (hb : b < w.heap.size) (hs : Lies w b off l) (hx : ∀ x ∈ l, 0 ≤ x ∧ x ≤ 255) (h0 : l.getD 0 0 / 16 = 4) (s : Nat) (hsz : hl l = (s : Int)) (hb1 : s < 20) :
    Calls Try.prog 26 #[.slice (some ⟨b, off, none⟩) n c] w fun e w' => e = .returned (.int .i64 11) ∧ Below w.heap.size w w' := by
  have c0 : w.cell? ⟨b, off, none⟩ = some (.int .u8 (l.getD 0 0)) := hs 0 (by omega)
  have k0 := getD_in l hx 0
  have y0 : 0 < n := by omega
  have t0 : (l.getD 0 0 / 16 != 4) = false := bneF h0
  have c2 : w.cell? ⟨b, off + 2, none⟩ = some (.int .u8 (l.getD 2 0)) := hs 2 (by omega)
  have c3 : w.cell? ⟨b, off + 3, none⟩ = some (.int .u8 (l.getD 3 0)) := hs 3 (by omega)
  have c6 : w.cell? ⟨b, off + 6, none⟩ = some (.int .u8 (l.getD 6 0)) := hs 6 (by omega)
  have k2 := getD_in l hx 2
  have k3 := getD_in l hx 3
  have k6 := getD_in l hx 6
  have k7 := getD_in l hx 7
  have e2 : w16 l 2 = l.getD 2 0 * 256 + l.getD 3 0 := rfl
  have e6 : w16 l 6 = l.getD 6 0 * 256 + l.getD 7 0 := rfl
  have y2 : (2 : Int) < (n : Int) := by omega
  have y3 : (3 : Int) < (n : Int) := by omega
  have y6 : (6 : Int) < (n : Int) := by omega
  have HX := Lib.hid hx
  have HS := Lib.hid hs
  have HL := Lib.hid hl'
  unfold hl at hsz
  have t1 : decide ((s : Int) < 20) = true := decide_eq_true (by omega)
  clear hs hx hl' h0 e2 e6
  generalize l.getD 0 0 = x0 at *
  generalize l.getD 2 0 = x2 at *
  generalize l.getD 3 0 = x3 at *
  generalize l.getD 6 0 = x6 at *
  generalize l.getD 7 0 = x7 at *
  obtain ⟨z00, z01⟩ := k0
  obtain ⟨z20, z21⟩ := k2
  obtain ⟨z30, z31⟩ := k3
  obtain ⟨z60, z61⟩ := k6
  have v2 : IntKind.i64.wrap x2 = x2 := by rw [IntKind.wrap_i64]; omega
  have v3 : IntKind.i64.wrap x3 = x3 := by rw [IntKind.wrap_i64]; omega
  have v4 : IntKind.i64.wrap (256 * x2) = 256 * x2 := by rw [IntKind.wrap_i64]; omega
  have v5 : IntKind.i64.wrap (256 * x2 + x3) = 256 * x2 + x3 := by rw [IntKind.wrap_i64]; omega
  go_enter Try.func26, Try.ntmps26
  go_wp2_with fail
  go_quiet (fail)
  go_wp2_with fail
  go_ret
  exact ⟨rfl, below_drewN (Below.refl _ _) _⟩
set_option maxRecDepth 100000 in
set_option maxHeartbeats 2000000 in
theorem why_long (b off n c : Nat) (l : List Int) (w : World) (hl' : l.length = n) (hn : 20 ≤ n) (hn2 : n ≤ 1000) (hnc : n ≤ c) (hc : c ≤ 9223372036854775807) (hb : b < w.heap.size) (hs : Lies w b off l) (hx : ∀ x ∈ l, 0 ≤ x ∧ x ≤ 255) (h0 : l.getD 0 0 / 16 = 4) (s : Nat) (hsz : hl l = (s : Int)) (hb1 : 20 ≤ s) (hb2 : n < s) :
    Calls Try.prog 26 #[.slice (some ⟨b, off, none⟩) n c] w fun e w' => e = .returned (.int .i64 11) ∧ Below w.heap.size w w' := by
  have c0 : w.cell? ⟨b, off, none⟩ = some (.int .u8 (l.getD 0 0)) := hs 0 (by omega)
  have k0 := getD_in l hx 0
  have y0 : 0 < n := by omega
  have t0 : (l.getD 0 0 / 16 != 4) = false := bneF h0
  have c2 : w.cell? ⟨b, off + 2, none⟩ = some (.int .u8 (l.getD 2 0)) := hs 2 (by omega)
  have c3 : w.cell? ⟨b, off + 3, none⟩ = some (.int .u8 (l.getD 3 0)) := hs 3 (by omega)
  have c6 : w.cell? ⟨b, off + 6, none⟩ = some (.int .u8 (l.getD 6 0)) := hs 6 (by omega)
  have k2 := getD_in l hx 2
  have k3 := getD_in l hx 3
  have k6 := getD_in l hx 6
  have k7 := getD_in l hx 7
  have e2 : w16 l 2 = l.getD 2 0 * 256 + l.getD 3 0 := rfl
  have e6 : w16 l 6 = l.getD 6 0 * 256 + l.getD 7 0 := rfl
  have y2 : (2 : Int) < (n : Int) := by omega
  have y3 : (3 : Int) < (n : Int) := by omega
  have y6 : (6 : Int) < (n : Int) := by omega
  have HX := Lib.hid hx
  have HS := Lib.hid hs
  have HL := Lib.hid hl'
  unfold hl at hsz
  have t1 : decide ((s : Int) < 20) = false := decide_eq_false (by omega)
  have t2 : decide ((n : Int) < (s : Int)) = true := decide_eq_true (by omega)
  have t2n : decide (n < s) = true := decide_eq_true (by omega)
  clear hs hx hl' h0 e2 e6
  generalize l.getD 0 0 = x0 at *
  generalize l.getD 2 0 = x2 at *
  generalize l.getD 3 0 = x3 at *
  generalize l.getD 6 0 = x6 at *
  generalize l.getD 7 0 = x7 at *
  obtain ⟨z00, z01⟩ := k0
  obtain ⟨z20, z21⟩ := k2
  obtain ⟨z30, z31⟩ := k3
  obtain ⟨z60, z61⟩ := k6
  have v2 : IntKind.i64.wrap x2 = x2 := by rw [IntKind.wrap_i64]; omega
  have v3 : IntKind.i64.wrap x3 = x3 := by rw [IntKind.wrap_i64]; omega
  have v4 : IntKind.i64.wrap (256 * x2) = 256 * x2 := by rw [IntKind.wrap_i64]; omega
  have v5 : IntKind.i64.wrap (256 * x2 + x3) = 256 * x2 + x3 := by rw [IntKind.wrap_i64]; omega
  go_enter Try.func26, Try.ntmps26
  go_wp2_with fail
  go_quiet (fail)
  go_wp2_with fail
  go_ret
  exact ⟨rfl, below_drewN (Below.refl _ _) _⟩
set_option maxRecDepth 100000 in
set_option maxHeartbeats 2000000 in
theorem why_bit (b off n c : Nat) (l : List Int) (w : World) (hl' : l.length = n) (hn : 20 ≤ n) (hn2 : n ≤ 1000) (hnc : n ≤ c) (hc : c ≤ 9223372036854775807) (hb : b < w.heap.size) (hs : Lies w b off l) (hx : ∀ x ∈ l, 0 ≤ x ∧ x ≤ 255) (h0 : l.getD 0 0 / 16 = 4) (s : Nat) (hsz : hl l = (s : Int)) (hb1 : 20 ≤ s) (hb2 : s ≤ n) (hq : 32768 ≤ w16 l 6) :
    Calls Try.prog 26 #[.slice (some ⟨b, off, none⟩) n c] w fun e w' => e = .returned (.int .i64 11) ∧ Below w.heap.size w w' := by
  have c0 : w.cell? ⟨b, off, none⟩ = some (.int .u8 (l.getD 0 0)) := hs 0 (by omega)
  have k0 := getD_in l hx 0
  have y0 : 0 < n := by omega
  have t0 : (l.getD 0 0 / 16 != 4) = false := bneF h0
  have c2 : w.cell? ⟨b, off + 2, none⟩ = some (.int .u8 (l.getD 2 0)) := hs 2 (by omega)
  have c3 : w.cell? ⟨b, off + 3, none⟩ = some (.int .u8 (l.getD 3 0)) := hs 3 (by omega)
  have c6 : w.cell? ⟨b, off + 6, none⟩ = some (.int .u8 (l.getD 6 0)) := hs 6 (by omega)
  have k2 := getD_in l hx 2
  have k3 := getD_in l hx 3
  have k6 := getD_in l hx 6
  have k7 := getD_in l hx 7
  have e2 : w16 l 2 = l.getD 2 0 * 256 + l.getD 3 0 := rfl
  have e6 : w16 l 6 = l.getD 6 0 * 256 + l.getD 7 0 := rfl
  have y2 : (2 : Int) < (n : Int) := by omega
  have y3 : (3 : Int) < (n : Int) := by omega
  have y6 : (6 : Int) < (n : Int) := by omega
  have HX := Lib.hid hx
  have HS := Lib.hid hs
  have HL := Lib.hid hl'
  unfold hl at hsz
  have t6 : decide (128 ≤ l.getD 6 0) = true := decide_eq_true (by omega)
  have t1 : decide ((s : Int) < 20) = false := decide_eq_false (by omega)
  have t2 : decide ((n : Int) < (s : Int)) = false := decide_eq_false (by omega)
  have t2n : decide (n < s) = false := decide_eq_false (by omega)
  clear hs hx hl' h0 e2 e6 hq
  generalize l.getD 0 0 = x0 at *
  generalize l.getD 2 0 = x2 at *
  generalize l.getD 3 0 = x3 at *
  generalize l.getD 6 0 = x6 at *
  generalize l.getD 7 0 = x7 at *
  obtain ⟨z00, z01⟩ := k0
  obtain ⟨z20, z21⟩ := k2
  obtain ⟨z30, z31⟩ := k3
  obtain ⟨z60, z61⟩ := k6
  have v2 : IntKind.i64.wrap x2 = x2 := by rw [IntKind.wrap_i64]; omega
  have v3 : IntKind.i64.wrap x3 = x3 := by rw [IntKind.wrap_i64]; omega
  have v4 : IntKind.i64.wrap (256 * x2) = 256 * x2 := by rw [IntKind.wrap_i64]; omega
  have v5 : IntKind.i64.wrap (256 * x2 + x3) = 256 * x2 + x3 := by rw [IntKind.wrap_i64]; omega
  go_enter Try.func26, Try.ntmps26
  go_wp2_with fail
  go_quiet (fail)
  go_wp2_with fail
  go_ret
  exact ⟨rfl, below_drewN (Below.refl _ _) _⟩
set_option maxRecDepth 100000 in
set_option maxHeartbeats 2000000 in
theorem why_less (b off n c : Nat) (l : List Int) (w : World) (hl' : l.length = n) (hn : 20 ≤ n) (hn2 : n ≤ 1000) (hnc : n ≤ c) (hc : c ≤ 9223372036854775807) (hb : b < w.heap.size) (hs : Lies w b off l) (hx : ∀ x ∈ l, 0 ≤ x ∧ x ≤ 255) (h0 : l.getD 0 0 / 16 = 4) (s : Nat) (hsz : hl l = (s : Int)) (hb1 : 20 ≤ s) (hb2 : s ≤ n) (hq : w16 l 6 < 32768) (ha : w16 l 2 < s) :
    Calls Try.prog 26 #[.slice (some ⟨b, off, none⟩) n c] w fun e w' => e = .returned (.int .i64 12) ∧ Below w.heap.size w w' := by
  have c0 : w.cell? ⟨b, off, none⟩ = some (.int .u8 (l.getD 0 0)) := hs 0 (by omega)
  have k0 := getD_in l hx 0
  have y0 : 0 < n := by omega
  have t0 : (l.getD 0 0 / 16 != 4) = false := bneF h0
  have c2 : w.cell? ⟨b, off + 2, none⟩ = some (.int .u8 (l.getD 2 0)) := hs 2 (by omega)
  have c3 : w.cell? ⟨b, off + 3, none⟩ = some (.int .u8 (l.getD 3 0)) := hs 3 (by omega)
  have c6 : w.cell? ⟨b, off + 6, none⟩ = some (.int .u8 (l.getD 6 0)) := hs 6 (by omega)
  have k2 := getD_in l hx 2
  have k3 := getD_in l hx 3
  have k6 := getD_in l hx 6
  have k7 := getD_in l hx 7
  have e2 : w16 l 2 = l.getD 2 0 * 256 + l.getD 3 0 := rfl
  have e6 : w16 l 6 = l.getD 6 0 * 256 + l.getD 7 0 := rfl
  have y2 : (2 : Int) < (n : Int) := by omega
  have y3 : (3 : Int) < (n : Int) := by omega
  have y6 : (6 : Int) < (n : Int) := by omega
  have HX := Lib.hid hx
  have HS := Lib.hid hs
  have HL := Lib.hid hl'
  unfold hl at hsz
  have t6 : decide (128 ≤ l.getD 6 0) = false := decide_eq_false (by omega)
  have t1 : decide ((s : Int) < 20) = false := decide_eq_false (by omega)
  have t2 : decide ((n : Int) < (s : Int)) = false := decide_eq_false (by omega)
  have t2n : decide (n < s) = false := decide_eq_false (by omega)
  have t3 : decide (256 * l.getD 2 0 + l.getD 3 0 < (s : Int)) = true := decide_eq_true (by omega)
  clear hs hx hl' h0 e2 e6 hq ha
  generalize l.getD 0 0 = x0 at *
  generalize l.getD 2 0 = x2 at *
  generalize l.getD 3 0 = x3 at *
  generalize l.getD 6 0 = x6 at *
  generalize l.getD 7 0 = x7 at *
  obtain ⟨z00, z01⟩ := k0
  obtain ⟨z20, z21⟩ := k2
  obtain ⟨z30, z31⟩ := k3
  obtain ⟨z60, z61⟩ := k6
  have v2 : IntKind.i64.wrap x2 = x2 := by rw [IntKind.wrap_i64]; omega
  have v3 : IntKind.i64.wrap x3 = x3 := by rw [IntKind.wrap_i64]; omega
  have v4 : IntKind.i64.wrap (256 * x2) = 256 * x2 := by rw [IntKind.wrap_i64]; omega
  have v5 : IntKind.i64.wrap (256 * x2 + x3) = 256 * x2 + x3 := by rw [IntKind.wrap_i64]; omega
  go_enter Try.func26, Try.ntmps26
  go_wp2_with fail
  go_quiet (fail)
  go_wp2_with fail
  go_ret
  exact ⟨rfl, below_drewN (Below.refl _ _) _⟩
set_option maxRecDepth 100000 in
set_option maxHeartbeats 2000000 in
theorem why_more (b off n c : Nat) (l : List Int) (w : World) (hl' : l.length = n) (hn : 20 ≤ n) (hn2 : n ≤ 1000) (hnc : n ≤ c) (hc : c ≤ 9223372036854775807) (hb : b < w.heap.size) (hs : Lies w b off l) (hx : ∀ x ∈ l, 0 ≤ x ∧ x ≤ 255) (h0 : l.getD 0 0 / 16 = 4) (s : Nat) (hsz : hl l = (s : Int)) (hb1 : 20 ≤ s) (hb2 : s ≤ n) (hq : w16 l 6 < 32768) (ha1 : (s : Int) ≤ w16 l 2) (ha : (n : Int) < w16 l 2) :
    Calls Try.prog 26 #[.slice (some ⟨b, off, none⟩) n c] w fun e w' => e = .returned (.int .i64 12) ∧ Below w.heap.size w w' := by
  have c0 : w.cell? ⟨b, off, none⟩ = some (.int .u8 (l.getD 0 0)) := hs 0 (by omega)
  have k0 := getD_in l hx 0
  have y0 : 0 < n := by omega
  have t0 : (l.getD 0 0 / 16 != 4) = false := bneF h0
  have c2 : w.cell? ⟨b, off + 2, none⟩ = some (.int .u8 (l.getD 2 0)) := hs 2 (by omega)
  have c3 : w.cell? ⟨b, off + 3, none⟩ = some (.int .u8 (l.getD 3 0)) := hs 3 (by omega)
  have c6 : w.cell? ⟨b, off + 6, none⟩ = some (.int .u8 (l.getD 6 0)) := hs 6 (by omega)
  have k2 := getD_in l hx 2
  have k3 := getD_in l hx 3
  have k6 := getD_in l hx 6
  have k7 := getD_in l hx 7
  have e2 : w16 l 2 = l.getD 2 0 * 256 + l.getD 3 0 := rfl
  have e6 : w16 l 6 = l.getD 6 0 * 256 + l.getD 7 0 := rfl
  have y2 : (2 : Int) < (n : Int) := by omega
  have y3 : (3 : Int) < (n : Int) := by omega
  have y6 : (6 : Int) < (n : Int) := by omega
  have HX := Lib.hid hx
  have HS := Lib.hid hs
  have HL := Lib.hid hl'
  unfold hl at hsz
  have t6 : decide (128 ≤ l.getD 6 0) = false := decide_eq_false (by omega)
  have t1 : decide ((s : Int) < 20) = false := decide_eq_false (by omega)
  have t2 : decide ((n : Int) < (s : Int)) = false := decide_eq_false (by omega)
  have t2n : decide (n < s) = false := decide_eq_false (by omega)
  have t3 : decide (256 * l.getD 2 0 + l.getD 3 0 < (s : Int)) = false := decide_eq_false (by omega)
  have t4 : decide ((n : Int) < 256 * l.getD 2 0 + l.getD 3 0) = true := decide_eq_true (by omega)
  clear hs hx hl' h0 e2 e6 hq ha ha1
  generalize l.getD 0 0 = x0 at *
  generalize l.getD 2 0 = x2 at *
  generalize l.getD 3 0 = x3 at *
  generalize l.getD 6 0 = x6 at *
  generalize l.getD 7 0 = x7 at *
  obtain ⟨z00, z01⟩ := k0
  obtain ⟨z20, z21⟩ := k2
  obtain ⟨z30, z31⟩ := k3
  obtain ⟨z60, z61⟩ := k6
  have v2 : IntKind.i64.wrap x2 = x2 := by rw [IntKind.wrap_i64]; omega
  have v3 : IntKind.i64.wrap x3 = x3 := by rw [IntKind.wrap_i64]; omega
  have v4 : IntKind.i64.wrap (256 * x2) = 256 * x2 := by rw [IntKind.wrap_i64]; omega
  have v5 : IntKind.i64.wrap (256 * x2 + x3) = 256 * x2 + x3 := by rw [IntKind.wrap_i64]; omega
  go_enter Try.func26, Try.ntmps26
  go_wp2_with fail
  go_quiet (fail)
  go_wp2_with fail
  go_ret
  exact ⟨rfl, below_drewN (Below.refl _ _) _⟩
set_option maxRecDepth 100000 in
set_option maxHeartbeats 2000000 in
theorem why_sum (b off n c : Nat) (l : List Int) (w : World) (hl' : l.length = n) (hn : 20 ≤ n) (hn2 : n ≤ 1000) (hnc : n ≤ c) (hc : c ≤ 9223372036854775807) (hb : b < w.heap.size) (hs : Lies w b off l) (hx : ∀ x ∈ l, 0 ≤ x ∧ x ≤ 255) (h0 : l.getD 0 0 / 16 = 4) (s : Nat) (hsz : hl l = (s : Int)) (hb1 : 20 ≤ s) (hb2 : s ≤ n) (hq : w16 l 6 < 32768) (ha1 : (s : Int) ≤ w16 l 2) (ha : w16 l 2 ≤ n) (hS : fo (wsum (l.take s)) ≠ 65535) :
    Calls Try.prog 26 #[.slice (some ⟨b, off, none⟩) n c] w fun e w' => e = .returned (.int .i64 13) ∧ Below w.heap.size w w' := by
  have c0 : w.cell? ⟨b, off, none⟩ = some (.int .u8 (l.getD 0 0)) := hs 0 (by omega)
  have k0 := getD_in l hx 0
  have y0 : 0 < n := by omega
  have t0 : (l.getD 0 0 / 16 != 4) = false := bneF h0
  have c2 : w.cell? ⟨b, off + 2, none⟩ = some (.int .u8 (l.getD 2 0)) := hs 2 (by omega)
  have c3 : w.cell? ⟨b, off + 3, none⟩ = some (.int .u8 (l.getD 3 0)) := hs 3 (by omega)
  have c6 : w.cell? ⟨b, off + 6, none⟩ = some (.int .u8 (l.getD 6 0)) := hs 6 (by omega)
  have k2 := getD_in l hx 2
  have k3 := getD_in l hx 3
  have k6 := getD_in l hx 6
  have k7 := getD_in l hx 7
  have e2 : w16 l 2 = l.getD 2 0 * 256 + l.getD 3 0 := rfl
  have e6 : w16 l 6 = l.getD 6 0 * 256 + l.getD 7 0 := rfl
  have y2 : (2 : Int) < (n : Int) := by omega
  have y3 : (3 : Int) < (n : Int) := by omega
  have y6 : (6 : Int) < (n : Int) := by omega
  have HX := Lib.hid hx
  have HS := Lib.hid hs
  have HL := Lib.hid hl'
  unfold hl at hsz
  have t6 : decide (128 ≤ l.getD 6 0) = false := decide_eq_false (by omega)
  have t1 : decide ((s : Int) < 20) = false := decide_eq_false (by omega)
  have t2 : decide ((n : Int) < (s : Int)) = false := decide_eq_false (by omega)
  have t2n : decide (n < s) = false := decide_eq_false (by omega)
  have t3 : decide (256 * l.getD 2 0 + l.getD 3 0 < (s : Int)) = false := decide_eq_false (by omega)
  have t4 : decide ((n : Int) < 256 * l.getD 2 0 + l.getD 3 0) = false := decide_eq_false (by omega)
  have HREF := Lib.hid (fun (W : World) hr => Go.Proofs.Ytgikoljnmmnkkaa.sumH.refOf_any (some ⟨b, off, none⟩) s c (l.take s) W (by rw [List.length_take]; omega) (by omega) hr (take_u8' hx s))
  have i1 : (0 : Int) ≤ (s : Int) := by omega
  have i2 : (s : Int) ≤ (n : Int) := by omega
  have i3 : (s : Int) ≤ (c : Int) := by omega
  have tS : (fo (wsum (l.take s)) != 65535) = true := bneT hS
  clear hs hx hl' h0 e2 e6 hq ha ha1 hS
  generalize fo (wsum (l.take s)) = fs at *
  generalize l.getD 0 0 = x0 at *
  generalize l.getD 2 0 = x2 at *
  generalize l.getD 3 0 = x3 at *
  generalize l.getD 6 0 = x6 at *
  generalize l.getD 7 0 = x7 at *
  obtain ⟨z00, z01⟩ := k0
  obtain ⟨z20, z21⟩ := k2
  obtain ⟨z30, z31⟩ := k3
  obtain ⟨z60, z61⟩ := k6
  have v2 : IntKind.i64.wrap x2 = x2 := by rw [IntKind.wrap_i64]; omega
  have v3 : IntKind.i64.wrap x3 = x3 := by rw [IntKind.wrap_i64]; omega
  have v4 : IntKind.i64.wrap (256 * x2) = 256 * x2 := by rw [IntKind.wrap_i64]; omega
  have v5 : IntKind.i64.wrap (256 * x2 + x3) = 256 * x2 + x3 := by rw [IntKind.wrap_i64]; omega
  go_enter Try.func26, Try.ntmps26
  go_wp2_with fail
  go_quiet (fail)
  have HB := Lib.hid (below_drewN (Below.refl w.heap.size w) nq)
  have HRX := Lib.hid (HREF.out (w.drewN nq) (((HS.out.below HB.out hb).take s).row hb))
  clear v2 v3 v4 v5
  go_wp2_with fail
  refine HRX.out.mono ?_
  rintro e w5 ⟨rfl, hb5⟩
  have HB5 := Lib.hid (bel_call HB.out hb5)
  clear hb5
  go_wp2_with fail
  go_ret
  exact ⟨rfl, HB5.out⟩
set_option maxRecDepth 100000 in
set_option maxHeartbeats 2000000 in
theorem why_ok (b off n c : Nat) (l : List Int) (w : World) (hl' : l.length = n) (hn : 20 ≤ n) (hn2 : n ≤ 1000) (hnc : n ≤ c) (hc : c ≤ 9223372036854775807) (hb : b < w.heap.size) (hs : Lies w b off l) (hx : ∀ x ∈ l, 0 ≤ x ∧ x ≤ 255) (h0 : l.getD 0 0 / 16 = 4) (s : Nat) (hsz : hl l = (s : Int)) (hb1 : 20 ≤ s) (hb2 : s ≤ n) (hq : w16 l 6 < 32768) (ha1 : (s : Int) ≤ w16 l 2) (ha : w16 l 2 ≤ n) (hS : fo (wsum (l.take s)) = 65535) :
    Calls Try.prog 26 #[.slice (some ⟨b, off, none⟩) n c] w fun e w' => e = .returned (.int .i64 0) ∧ Below w.heap.size w w' := by
  have c0 : w.cell? ⟨b, off, none⟩ = some (.int .u8 (l.getD 0 0)) := hs 0 (by omega)
  have k0 := getD_in l hx 0
  have y0 : 0 < n := by omega
  have t0 : (l.getD 0 0 / 16 != 4) = false := bneF h0
  have c2 : w.cell? ⟨b, off + 2, none⟩ = some (.int .u8 (l.getD 2 0)) := hs 2 (by omega)
  have c3 : w.cell? ⟨b, off + 3, none⟩ = some (.int .u8 (l.getD 3 0)) := hs 3 (by omega)
  have c6 : w.cell? ⟨b, off + 6, none⟩ = some (.int .u8 (l.getD 6 0)) := hs 6 (by omega)
  have k2 := getD_in l hx 2
  have k3 := getD_in l hx 3
  have k6 := getD_in l hx 6
  have k7 := getD_in l hx 7
  have e2 : w16 l 2 = l.getD 2 0 * 256 + l.getD 3 0 := rfl
  have e6 : w16 l 6 = l.getD 6 0 * 256 + l.getD 7 0 := rfl
  have y2 : (2 : Int) < (n : Int) := by omega
  have y3 : (3 : Int) < (n : Int) := by omega
  have y6 : (6 : Int) < (n : Int) := by omega
  have HX := Lib.hid hx
  have HS := Lib.hid hs
  have HL := Lib.hid hl'
  unfold hl at hsz
  have t6 : decide (128 ≤ l.getD 6 0) = false := decide_eq_false (by omega)
  have t1 : decide ((s : Int) < 20) = false := decide_eq_false (by omega)
  have t2 : decide ((n : Int) < (s : Int)) = false := decide_eq_false (by omega)
  have t2n : decide (n < s) = false := decide_eq_false (by omega)
  have t3 : decide (256 * l.getD 2 0 + l.getD 3 0 < (s : Int)) = false := decide_eq_false (by omega)
  have t4 : decide ((n : Int) < 256 * l.getD 2 0 + l.getD 3 0) = false := decide_eq_false (by omega)
  have HREF := Lib.hid (fun (W : World) hr => Go.Proofs.Ytgikoljnmmnkkaa.sumH.refOf_any (some ⟨b, off, none⟩) s c (l.take s) W (by rw [List.length_take]; omega) (by omega) hr (take_u8' hx s))
  have i1 : (0 : Int) ≤ (s : Int) := by omega
  have i2 : (s : Int) ≤ (n : Int) := by omega
  have i3 : (s : Int) ≤ (c : Int) := by omega
  have tS : (fo (wsum (l.take s)) != 65535) = false := bneF hS
  clear hs hx hl' h0 e2 e6 hq ha ha1 hS
  generalize fo (wsum (l.take s)) = fs at *
  generalize l.getD 0 0 = x0 at *
  generalize l.getD 2 0 = x2 at *
  generalize l.getD 3 0 = x3 at *
  generalize l.getD 6 0 = x6 at *
  generalize l.getD 7 0 = x7 at *
  obtain ⟨z00, z01⟩ := k0
  obtain ⟨z20, z21⟩ := k2
  obtain ⟨z30, z31⟩ := k3
  obtain ⟨z60, z61⟩ := k6
  have v2 : IntKind.i64.wrap x2 = x2 := by rw [IntKind.wrap_i64]; omega
  have v3 : IntKind.i64.wrap x3 = x3 := by rw [IntKind.wrap_i64]; omega
  have v4 : IntKind.i64.wrap (256 * x2) = 256 * x2 := by rw [IntKind.wrap_i64]; omega
  have v5 : IntKind.i64.wrap (256 * x2 + x3) = 256 * x2 + x3 := by rw [IntKind.wrap_i64]; omega
  go_enter Try.func26, Try.ntmps26
  go_wp2_with fail
  go_quiet (fail)
  have HB := Lib.hid (below_drewN (Below.refl w.heap.size w) nq)
  have HRX := Lib.hid (HREF.out (w.drewN nq) (((HS.out.below HB.out hb).take s).row hb))
  clear v2 v3 v4 v5
  go_wp2_with fail
  refine HRX.out.mono ?_
  rintro e w5 ⟨rfl, hb5⟩
  have HB5 := Lib.hid (bel_call HB.out hb5)
  clear hb5
  go_wp2_with fail
  go_ret
  exact ⟨rfl, HB5.out⟩
end Go.Proofs.Ytgikoljnmmnkkaa.fourF
