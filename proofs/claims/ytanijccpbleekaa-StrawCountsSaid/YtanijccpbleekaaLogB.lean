/- Layer 3: the code's logarithm. -/
import Derived.Test.YtanijccpbleekaaLogA
namespace Go.Proofs.Ytanijccpbleekaa.logB
open Go.ChangeShapes Go.WideShapes Go.ChangeAt Go.RowKit
open Go.Proofs.Ytanijccpbleekaa.base Go.Proofs.Ytanijccpbleekaa.logA
set_option linter.unusedVariables false

theorem bitLenAux_eq : ∀ (f x : Nat), 0 < x → x < 2 ^ f → Lib.bitLenAux f x = x.log2 + 1
  | 0, x, h0, h1 => by simp at h1; omega
  | f + 1, x, h0, h1 => by
    rw [Lib.bitLenAux, if_neg (by omega)]
    rw [Nat.log2_def]
    by_cases h : 2 ≤ x
    · rw [if_pos h, bitLenAux_eq f (x / 2) (by omega) (by rw [Nat.pow_succ] at h1; omega)]
      omega
    · rw [if_neg h]
      have : x / 2 = 0 := by omega
      rw [this]
      cases f <;> simp [Lib.bitLenAux]
theorem bitLen_eq {x : Nat} (h0 : 0 < x) (h1 : x < 18446744073709551616) : Lib.bitLen x = x.log2 + 1 := bitLenAux_eq 64 x h0 h1
theorem or_bit (o b : Int) (h0 : 0 ≤ o) (h1 : o < 9223372036854775808) (hb : b = 0 ∨ b = 1) : bits .or .u64 (2 * o) b = 2 * o + b := by
  obtain ⟨m, rfl⟩ := Int.eq_ofNat_of_zero_le h0
  rcases hb with rfl | rfl
  · have h := u64_or_nat (2 * m) 0 (by omega) (by omega)
    rw [Nat.or_zero] at h
    simpa using h
  · have h := u64_or_nat (2 * m) 1 (by omega) (by omega)
    have e : 2 * m ||| 1 = 2 * m + 1 := by
      have := Nat.shiftLeft_add_eq_or_of_lt (show 1 < 2 ^ 1 by omega) m
      rw [Nat.shiftLeft_eq, Nat.pow_one] at this
      rw [Nat.mul_comm 2 m]
      exact this.symm
    rw [e] at h
    simpa using h

theorem log2_any (n : Nat) (h1 : n < 18446744073709551616) (w : World) :
    Calls Try.prog 18 #[.int .u64 n] w fun e w' => e = .returned (.int .u64 (logZ n)) ∧ w = w' := by
  rcases Nat.eq_zero_or_pos n with rfl | h0
  · go_enter Try.func18, Try.ntmps18
    go_wp2
    go_ret
    exact ⟨rfl, rfl⟩
  · have hL := log2_lt h1
    have hk := norm_ok h0 h1
    have hx : okx (norm n : Nat) := ⟨by omega, by omega⟩
    have hz : logZ n = (iter 24 ((norm n : Nat), (n.log2 : Nat))).2 := by unfold logZ; rw [if_neg (by omega)]
    have hbl := bitLen_eq h0 h1
    have hn0 : (((n : Int)) == 0) = false := by simp; omega
    have hp2 := hk.2.2
    have hnorm : (n : Int) * 2 ^ (63 - n.log2) / 4294967296 = (norm n : Nat) := by
      unfold norm
      rw [Int.natCast_ediv, Int.natCast_mul, Int.natCast_pow]; rfl
    have hwr : IntKind.u64.wrap ((n : Int) * 2 ^ (63 - n.log2)) = (n : Int) * 2 ^ (63 - n.log2) := by
      rw [IntKind.wrap_u64]
      have : ((n : Int) * 2 ^ (63 - n.log2)) = ((n * 2 ^ (63 - n.log2) : Nat) : Int) := by rw [Int.natCast_mul, Int.natCast_pow]; rfl
      rw [this]; omega
    generalize hnn : norm n = x0 at *
    generalize hLL : n.log2 = L at *
    obtain ⟨s, hs⟩ : ∃ s : Nat, s = 63 - L := ⟨_, rfl⟩
    rw [← hs] at hnorm hwr hp2
    have hs2 : (64 : Int) - ((L : Int) + 1) = (s : Int) := by omega
    have HZ := Lib.hid hz
    have HX := Lib.hid hx
    have HBL := Lib.hid hbl
    have HSS := Lib.hid hs
    have hs63 : s ≤ 63 := by omega
    clear hz hx hbl hnn hLL hs hk hp2
    go_enter Try.func18, Try.ntmps18
    go_wp2_with fail
    refine (Try.bits_Len64 (n : Int) _ (by omega) (by omega)).mono ?_
    rintro e w' ⟨rfl, rfl⟩
    rw [Int.toNat_natCast, HBL.out]
    go_wp2_with fail
    go_loop [4, 5, 6, 19] (fun x o b i => ∃ k : Nat, k ≤ 24 ∧ i = .int .i64 k ∧ x = .int .u64 (iter k ((x0 : Nat), (L : Nat))).1 ∧ o = .int .u64 (iter k ((x0 : Nat), (L : Nat))).2) (fun _ _ _ i => 24 - (intOf i).toNat)
    case atStart => exact ⟨0, by omega, rfl, rfl, rfl⟩
    case round =>
      obtain ⟨k, hk, rfl, rfl, rfl⟩ := hrel
      by_cases hlt : k < 24
      · have hok := iter_ok (p := ((x0 : Nat), (L : Nat))) HX.out k
        have hbd := iter_bd (p := ((x0 : Nat), (L : Nat))) (by dsimp only; omega) (by dsimp only; omega) k
        have h24 : (2 : Int) ^ k ≤ 2 ^ 23 := by
          have := Nat.pow_le_pow_right (n := 2) (by omega) (show k ≤ 23 by omega)
          exact_mod_cast this
        have e23 : (2 : Int) ^ 23 = 8388608 := by decide
        have ob : (iter k ((x0 : Nat), (L : Nat))).2 < 536870912 := by omega
        have o0 := hbd.1
        have hsq := sq_bd hok
        have hst : iter (k + 1) ((x0 : Nat), (L : Nat)) = stp (iter k ((x0 : Nat), (L : Nat))) := rfl
        have HST := Lib.hid hst
        clear hbd h24 e23 hst hok
        generalize iter k ((x0 : Nat), (L : Nat)) = p at *
        obtain ⟨x, o⟩ := p
        dsimp only at *
        have hw : IntKind.u64.wrap (x * x) = x * x := by rw [IntKind.wrap_u64]; omega
        have hst : stp (x, o) = if 4294967296 ≤ x * x / 2147483648 then (x * x / 2147483648 / 2, 2 * o + 1) else (x * x / 2147483648, 2 * o) := rfl
        have HS2 := Lib.hid hst
        clear hst
        generalize hxy : x * x = y at *
        by_cases hb : 4294967296 ≤ y / 2147483648
        · have e1 : y / 2147483648 / 4294967296 = 1 := by omega
          have e2 : IntKind.u64.wrap (o * 2) = 2 * o := by rw [IntKind.wrap_u64]; omega
          have e3 := or_bit o 1 o0 (by omega) (.inr rfl)
          have HS3 := Lib.hid (HS2.out.trans (if_pos hb))
          clear hb
          go_wp2_with fail
          go_round
          case rel => exact ⟨k + 1, by omega, by go_num, by rw [HST.out, HS3.out], by rw [HST.out, HS3.out]⟩
          case measure => simp [intOf]; omega
        · have e1 : y / 2147483648 / 4294967296 = 0 := by omega
          have e2 : IntKind.u64.wrap (o * 2) = 2 * o := by rw [IntKind.wrap_u64]; omega
          have e3 := or_bit o 0 o0 (by omega) (.inl rfl)
          have HS3 := Lib.hid (HS2.out.trans (if_neg hb))
          clear hb
          go_wp2_with fail
          go_round
          case rel => exact ⟨k + 1, by omega, by go_num, by rw [HST.out, HS3.out], by rw [HST.out, HS3.out]⟩
          case measure => simp [intOf]; omega
      · obtain rfl : k = 24 := by omega
        go_wp2
        go_ret
        exact ⟨by rw [HZ.out]; rfl, rfl⟩
end Go.Proofs.Ytanijccpbleekaa.logB
