/- 7 texts in one. -/
import Derived.Deep.QuietTactic
import Derived.BigQuiet
import Derived.Deep.RegionHeld3
import Derived.Test.YtoaboklckkcjcaaGreatPk01
import Derived.Test.YtoaboklckkcjcaaGreatPk02
import Derived.Test.YtoaboklckkcjcaaGreatPk12
/- math/bits.Div64: a high word that is not 0. -/
namespace Go.Proofs.YtoaboklckkcjcaaGreat.divD
open Go.ChangeShapes Go.WideShapes Go.ChangeAt Go.RowKit
open Go.Proofs.YtoaboklckkcjcaaGreat.base Go.Proofs.YtoaboklckkcjcaaGreat.divA Go.Proofs.YtoaboklckkcjcaaGreat.divB Go.Proofs.YtoaboklckkcjcaaGreat.mixB
set_option linter.unusedVariables false

set_option maxHeartbeats 1000000 in
/-- Div64 over what its words are once they are shifted: the quotient's digits Q1, Q0, what is left V2 (shifted). -/
theorem core (hi lo y : Nat) (s : Nat) (U A C n1 n0 W Y Q1 Q0 V V2 : Int) (h0 : 0 < hi) (hlt : hi < y) (l1 : lo < 18446744073709551616) (y1 : y < 18446744073709551616) (hs : (64 : Int) - (Lib.bitLen y : Int) = (s : Int)) (s63 : s ≤ 63)
    (k1 : IntKind.u64.wrap ((y : Int) * 2 ^ s) = Y) (k2 : Y / 4294967296 = A) (k3 : bits .and .u64 Y 4294967295 = C)
    (k4 : bits .or .u64 (IntKind.u64.wrap ((hi : Int) * 2 ^ s)) ((lo : Int) / 2 ^ (64 - s)) = U) (k5 : IntKind.u64.wrap ((lo : Int) * 2 ^ s) = W) (k6 : W / 4294967296 = n1) (k7 : bits .and .u64 W 4294967295 = n0)
    (hY : Y = A * 4294967296 + C) (hA : 2147483648 ≤ A) (hA9 : A < 4294967296) (hC : 0 ≤ C) (hC9 : C < 4294967296) (hn1 : 0 ≤ n1) (hn19 : n1 < 4294967296) (hn0 : 0 ≤ n0) (hn09 : n0 < 4294967296) (hU : 0 ≤ U) (hUY : U < Y)
    (hQ1 : (U * 4294967296 + n1) / Y = Q1) (hV : U * 4294967296 + n1 - Q1 * Y = V) (hQ0 : (V * 4294967296 + n0) / Y = Q0) (hV2 : V * 4294967296 + n0 - Q0 * Y = V2) (w : World) :
    Calls Tryz.prog 114 #[.int .u64 hi, .int .u64 lo, .int .u64 y] w fun e w' => e = .returned (.tuple #[.int .u64 (Q1 * 4294967296 + Q0), .int .u64 (V2 / 2 ^ s)]) ∧ w = w' := by
  have hYp : 0 < Y := by omega
  have q1b : 0 ≤ Q1 ∧ Q1 < 4294967296 := by
    rw [← hQ1]
    exact ⟨Int.ediv_nonneg (by omega) (by omega), digit_lt hUY hn19 hYp⟩
  have vb : 0 ≤ V ∧ V < Y := by
    have e := Int.emod_add_mul_ediv (U * 4294967296 + n1) Y
    have e1 := Int.emod_nonneg (U * 4294967296 + n1) (show Y ≠ 0 by omega)
    have e2 := Int.emod_lt_of_pos (U * 4294967296 + n1) hYp
    rw [hQ1, Int.mul_comm Y Q1] at e
    omega
  have q0b : 0 ≤ Q0 ∧ Q0 < 4294967296 := by
    rw [← hQ0]
    exact ⟨Int.ediv_nonneg (by omega) (by omega), digit_lt vb.2 hn09 hYp⟩
  have v2b : 0 ≤ V2 ∧ V2 < Y := by
    have e := Int.emod_add_mul_ediv (V * 4294967296 + n0) Y
    have e1 := Int.emod_nonneg (V * 4294967296 + n0) (show Y ≠ 0 by omega)
    have e2 := Int.emod_lt_of_pos (V * 4294967296 + n0) hYp
    rw [hQ0, Int.mul_comm Y Q0] at e
    omega
  have f1 : ((y : Int) == 0) = false := by simp; omega
  have f2 : decide ((y : Int) ≤ (hi : Int)) = false := by simp; omega
  have f3 : ((hi : Int) == 0) = false := by simp; omega
  have hA0 : ¬ A = 0 := by omega
  -- the first guess
  obtain ⟨g, hg⟩ : ∃ g, g = U / A := ⟨_, rfl⟩
  obtain ⟨r, hr⟩ : ∃ r, r = U - g * A := ⟨_, rfl⟩
  have gb : 0 ≤ g ∧ g ≤ 8589934592 := by
    rw [hg]
    refine ⟨Int.ediv_nonneg hU (by omega), ?_⟩
    have : U / A < 8589934593 := by
      rw [Int.ediv_lt_iff_lt_mul (by omega)]
      omega
    omega
  have rb : 0 ≤ r ∧ r < A := by
    have e := Int.emod_add_mul_ediv U A
    have e1 := Int.emod_nonneg U hA0
    have e2 := Int.emod_lt_of_pos U (show 0 < A by omega)
    rw [← hg, Int.mul_comm A g] at e
    omega
  have m1 : U.tdiv A = g := by rw [hg]; exact Int.tdiv_eq_ediv_of_nonneg hU
  have m2 : IntKind.u64.wrap g = g := by rw [IntKind.wrap_u64]; omega
  have pb : 0 ≤ g * A := Int.mul_nonneg gb.1 (by omega)
  have m3 : IntKind.u64.wrap (g * A) = g * A := by rw [IntKind.wrap_u64]; omega
  have m4 : IntKind.u64.wrap (U - g * A) = r := by rw [IntKind.wrap_u64]; omega
  have gq : Q1 ≤ g := by
    rw [← hQ1]
    have hlast : (U * 4294967296 + n1) / Y < g + 1 := by
      rw [Int.ediv_lt_iff_lt_mul hYp, hY, Int.mul_add]
      have c0 : 0 ≤ (g + 1) * C := Int.mul_nonneg (by omega) hC
      have c1 : (g + 1) * (A * 4294967296) = (g * A + A) * 4294967296 := by rw [← Int.mul_assoc, Int.add_mul, Int.one_mul]
      rw [c1]
      omega
    omega
  obtain ⟨g', hg'⟩ : ∃ g', g' = V / A := ⟨_, rfl⟩
  obtain ⟨r', hr'⟩ : ∃ r', r' = V - g' * A := ⟨_, rfl⟩
  have gb' : 0 ≤ g' ∧ g' ≤ 8589934592 := by
    rw [hg']
    refine ⟨Int.ediv_nonneg vb.1 (by omega), ?_⟩
    have : V / A < 8589934593 := by
      rw [Int.ediv_lt_iff_lt_mul (by omega)]
      omega
    omega
  have rb' : 0 ≤ r' ∧ r' < A := by
    have e := Int.emod_add_mul_ediv V A
    have e1 := Int.emod_nonneg V hA0
    have e2 := Int.emod_lt_of_pos V (show 0 < A by omega)
    rw [← hg', Int.mul_comm A g'] at e
    omega
  have m1' : V.tdiv A = g' := by rw [hg']; exact Int.tdiv_eq_ediv_of_nonneg vb.1
  have m2' : IntKind.u64.wrap g' = g' := by rw [IntKind.wrap_u64]; omega
  have pb' : 0 ≤ g' * A := Int.mul_nonneg gb'.1 (by omega)
  have m3' : IntKind.u64.wrap (g' * A) = g' * A := by rw [IntKind.wrap_u64]; omega
  have m4' : IntKind.u64.wrap (V - g' * A) = r' := by rw [IntKind.wrap_u64]; omega
  have gq' : Q0 ≤ g' := by
    rw [← hQ0]
    have hlast : (V * 4294967296 + n0) / Y < g' + 1 := by
      rw [Int.ediv_lt_iff_lt_mul hYp, hY, Int.mul_add]
      have c0 : 0 ≤ (g' + 1) * C := Int.mul_nonneg (by omega) hC
      have c1 : (g' + 1) * (A * 4294967296) = (g' * A + A) * 4294967296 := by rw [← Int.mul_assoc, Int.add_mul, Int.one_mul]
      rw [c1]
      omega
    omega
  obtain ⟨x1, hx1⟩ : ∃ x, IntKind.u64.wrap (U * 4294967296) = x := ⟨_, rfl⟩
  obtain ⟨x2, hx2⟩ : ∃ x, IntKind.u64.wrap (x1 + n1) = x := ⟨_, rfl⟩
  obtain ⟨x3, hx3⟩ : ∃ x, IntKind.u64.wrap (Q1 * Y) = x := ⟨_, rfl⟩
  have hx4 : IntKind.u64.wrap (x2 - x3) = V := by
    rw [← hx3, ← hx2, ← hx1]
    simp only [IntKind.wrap_u64]
    generalize Q1 * Y = p at *
    omega
  obtain ⟨z1, hz1⟩ : ∃ x, IntKind.u64.wrap (V * 4294967296) = x := ⟨_, rfl⟩
  obtain ⟨z2, hz2⟩ : ∃ x, IntKind.u64.wrap (z1 + n0) = x := ⟨_, rfl⟩
  obtain ⟨z3, hz3⟩ : ∃ x, IntKind.u64.wrap (Q0 * Y) = x := ⟨_, rfl⟩
  have hz4 : IntKind.u64.wrap (z2 - z3) = V2 := by
    rw [← hz3, ← hz2, ← hz1]
    simp only [IntKind.wrap_u64]
    generalize Q0 * Y = p at *
    omega
  have e1 : IntKind.u64.wrap (Q1 * 4294967296) = Q1 * 4294967296 := by rw [IntKind.wrap_u64]; omega
  have e2 : IntKind.u64.wrap (Q1 * 4294967296 + Q0) = Q1 * 4294967296 + Q0 := by rw [IntKind.wrap_u64]; omega
  have HG' := Lib.hid (show g' * A + r' = V by omega)
  have HS := Lib.hid hs
  have HG := Lib.hid (show g * A + r = U by omega)
  have HQ1 := Lib.hid hQ1
  have HV := Lib.hid hV
  have HQ0 := Lib.hid hQ0
  have HV2 := Lib.hid hV2
  have HY := Lib.hid hY
  clear hs hQ1 hV hQ0 hV2 hY hg hr pb hg' hr' pb'
  go_enter Tryz.func114, Tryz.ntmps114
  go_wp2_with fail
  refine (Tryz.bits_LeadingZeros64 (y : Int) _ (by omega) (by omega)).mono ?_
  rintro e w' ⟨rfl, rfl⟩
  rw [Int.toNat_natCast, HS.out]
  go_wp2_with fail
  go_loop [15, 16] (fun a b => ∃ q r : Int, a = .int .u64 q ∧ b = .int .u64 r ∧ Hid (q * A + r = U) ∧ 0 ≤ q ∧ q ≤ 8589934592 ∧ 0 ≤ r ∧ r < 4294967296 ∧ Q1 ≤ q) (fun a _ => (intOf a).toNat)
  case atStart => exact ⟨g, r, rfl, rfl, HG, by omega, by omega, by omega, by omega, by omega⟩
  case round =>
    obtain ⟨q, r, rfl, rfl, HE, c0, c9, d0, d9, hqq⟩ := hrel
    obtain ⟨a', ha'⟩ : ∃ x, IntKind.u64.wrap (q - 1) = x := ⟨_, rfl⟩
    obtain ⟨b', hb'⟩ : ∃ x, IntKind.u64.wrap (r + A) = x := ⟨_, rfl⟩
    have hb2 : b' = r + A := by rw [← hb', IntKind.wrap_u64]; omega
    have HB2 := Lib.hid hb2
    by_cases hbig : 4294967296 ≤ q
    · have f4 : decide (4294967296 ≤ q) = true := by simpa using hbig
      have hgt : Q1 ≤ q - 1 := by omega
      have ha2 : a' = q - 1 := by rw [← ha', IntKind.wrap_u64]; omega
      have HA2 := Lib.hid ha2
      by_cases hrr : 4294967296 ≤ b'
      · have f9 : decide (4294967296 ≤ b') = true := by simpa using hrr
        have hq : a' = Q1 := by
          have : a' ≤ Q1 := by
            rw [← HQ1.out, HY.out]
            exact guess_out hC hC9 (by omega) (by have := HY.out; omega) (by omega) (by omega) (by
              have h1 := HE.out
              have h2 : (q - 1) * A = q * A - A := by rw [Int.sub_mul, Int.one_mul]
              rw [ha2, hb2, h2]
              omega) hrr
          omega
        rw [hq] at ha'
        clear ha2 HA2 hb2 HB2 HE hrr
        go_wp2_with fail
        go_loop [18, 16] (fun a b => ∃ q r : Int, a = .int .u64 q ∧ b = .int .u64 r ∧ Hid (q * A + r = V) ∧ 0 ≤ q ∧ q ≤ 8589934592 ∧ 0 ≤ r ∧ r < 4294967296 ∧ Q0 ≤ q) (fun a _ => (intOf a).toNat)
        case atStart => exact ⟨g', r', rfl, rfl, HG', by omega, by omega, by omega, by omega, by omega⟩
        case round =>
          obtain ⟨q, r, rfl, rfl, HE, c0, c9, d0, d9, hqq⟩ := hrel
          obtain ⟨a', ha'⟩ : ∃ x, IntKind.u64.wrap (q - 1) = x := ⟨_, rfl⟩
          obtain ⟨b', hb'⟩ : ∃ x, IntKind.u64.wrap (r + A) = x := ⟨_, rfl⟩
          have hb2 : b' = r + A := by rw [← hb', IntKind.wrap_u64]; omega
          have HB2 := Lib.hid hb2
          by_cases hbig : 4294967296 ≤ q
          · have f4 : decide (4294967296 ≤ q) = true := by simpa using hbig
            have hgt : Q0 ≤ q - 1 := by omega
            have ha2 : a' = q - 1 := by rw [← ha', IntKind.wrap_u64]; omega
            have HA2 := Lib.hid ha2
            by_cases hrr : 4294967296 ≤ b'
            · have f9 : decide (4294967296 ≤ b') = true := by simpa using hrr
              have hq : a' = Q0 := by
                have : a' ≤ Q0 := by
                  rw [← HQ0.out, HY.out]
                  exact guess_out hC hC9 (by omega) (by have := HY.out; omega) (by omega) (by omega) (by
                    have h1 := HE.out
                    have h2 : (q - 1) * A = q * A - A := by rw [Int.sub_mul, Int.one_mul]
                    rw [ha2, hb2, h2]
                    omega) hrr
                omega
              rw [hq] at ha'
              clear ha2 HA2 hb2 HB2 HE hrr
              go_wp2_with fail
              go_returns
              exact ⟨rfl, rfl⟩
            · have f9 : decide (4294967296 ≤ b') = false := by simpa using hrr
              have HN := Lib.hid (show a' * A + b' = V by
                have h1 := HE.out
                have h2 : (q - 1) * A = q * A - A := by rw [Int.sub_mul, Int.one_mul]
                rw [ha2, hb2, h2]
                omega)
              have y1 : 0 ≤ a' := by omega
              have y2 : a' ≤ 8589934592 := by omega
              have y3 : 0 ≤ b' := by omega
              have y4 : b' < 4294967296 := by omega
              have y5 : Q0 ≤ a' := by omega
              clear ha2 hb2 HE hrr
              go_wp2_with fail
              go_round
              case rel => exact ⟨a', b', rfl, rfl, HN, y1, y2, y3, y4, y5⟩
              case measure =>
                have := HA2.out
                simp [intOf]; omega
          · have f4 : decide (4294967296 ≤ q) = false := by simpa using hbig
            have t0 : 0 ≤ q * C := Int.mul_nonneg c0 hC
            have t9 : q * C ≤ 4294967296 * C := Int.mul_le_mul_of_nonneg_right (by omega) hC
            have f5 : IntKind.u64.wrap (q * C) = q * C := by rw [IntKind.wrap_u64]; omega
            have f6 : IntKind.u64.wrap (4294967296 * r) = 4294967296 * r := by rw [IntKind.wrap_u64]; omega
            have f7 : IntKind.u64.wrap (4294967296 * r + n0) = 4294967296 * r + n0 := by rw [IntKind.wrap_u64]; omega
            by_cases ht : 4294967296 * r + n0 < q * C
            · have f8 : decide (4294967296 * r + n0 < q * C) = true := by simpa using ht
              have hgt : Q0 ≤ q - 1 := by
                rw [← HQ0.out, HY.out]
                exact guess_on (by omega) (by have := HY.out; omega) (by omega) HE.out (.inr ht)
              clear t0 t9 ht
              have ha2 : a' = q - 1 := by rw [← ha', IntKind.wrap_u64]; omega
              have HA2 := Lib.hid ha2
              by_cases hrr : 4294967296 ≤ b'
              · have f9 : decide (4294967296 ≤ b') = true := by simpa using hrr
                have hq : a' = Q0 := by
                  have : a' ≤ Q0 := by
                    rw [← HQ0.out, HY.out]
                    exact guess_out hC hC9 (by omega) (by have := HY.out; omega) (by omega) (by omega) (by
                      have h1 := HE.out
                      have h2 : (q - 1) * A = q * A - A := by rw [Int.sub_mul, Int.one_mul]
                      rw [ha2, hb2, h2]
                      omega) hrr
                  omega
                rw [hq] at ha'
                clear ha2 HA2 hb2 HB2 HE hrr
                go_wp2_with fail
                go_returns
                exact ⟨rfl, rfl⟩
              · have f9 : decide (4294967296 ≤ b') = false := by simpa using hrr
                have HN := Lib.hid (show a' * A + b' = V by
                  have h1 := HE.out
                  have h2 : (q - 1) * A = q * A - A := by rw [Int.sub_mul, Int.one_mul]
                  rw [ha2, hb2, h2]
                  omega)
                have y1 : 0 ≤ a' := by omega
                have y2 : a' ≤ 8589934592 := by omega
                have y3 : 0 ≤ b' := by omega
                have y4 : b' < 4294967296 := by omega
                have y5 : Q0 ≤ a' := by omega
                clear ha2 hb2 HE hrr
                go_wp2_with fail
                go_round
                case rel => exact ⟨a', b', rfl, rfl, HN, y1, y2, y3, y4, y5⟩
                case measure =>
                  have := HA2.out
                  simp [intOf]; omega
            · have f8 : decide (4294967296 * r + n0 < q * C) = false := by simpa using ht
              have hq : q = Q0 := by
                have : q ≤ Q0 := by
                  rw [← HQ0.out, HY.out]
                  exact guess_le (by omega) HE.out (by omega)
                omega
              subst hq
              clear t0 t9 ht HE ha' hb' hb2 HB2
              go_wp2_with fail
              go_returns
              exact ⟨rfl, rfl⟩
      · have f9 : decide (4294967296 ≤ b') = false := by simpa using hrr
        have HN := Lib.hid (show a' * A + b' = U by
          have h1 := HE.out
          have h2 : (q - 1) * A = q * A - A := by rw [Int.sub_mul, Int.one_mul]
          rw [ha2, hb2, h2]
          omega)
        have y1 : 0 ≤ a' := by omega
        have y2 : a' ≤ 8589934592 := by omega
        have y3 : 0 ≤ b' := by omega
        have y4 : b' < 4294967296 := by omega
        have y5 : Q1 ≤ a' := by omega
        clear ha2 hb2 HE hrr
        go_wp2_with fail
        go_round
        case rel => exact ⟨a', b', rfl, rfl, HN, y1, y2, y3, y4, y5⟩
        case measure =>
          have := HA2.out
          simp [intOf]; omega
    · have f4 : decide (4294967296 ≤ q) = false := by simpa using hbig
      have t0 : 0 ≤ q * C := Int.mul_nonneg c0 hC
      have t9 : q * C ≤ 4294967296 * C := Int.mul_le_mul_of_nonneg_right (by omega) hC
      have f5 : IntKind.u64.wrap (q * C) = q * C := by rw [IntKind.wrap_u64]; omega
      have f6 : IntKind.u64.wrap (4294967296 * r) = 4294967296 * r := by rw [IntKind.wrap_u64]; omega
      have f7 : IntKind.u64.wrap (4294967296 * r + n1) = 4294967296 * r + n1 := by rw [IntKind.wrap_u64]; omega
      by_cases ht : 4294967296 * r + n1 < q * C
      · have f8 : decide (4294967296 * r + n1 < q * C) = true := by simpa using ht
        have hgt : Q1 ≤ q - 1 := by
          rw [← HQ1.out, HY.out]
          exact guess_on (by omega) (by have := HY.out; omega) (by omega) HE.out (.inr ht)
        clear t0 t9 ht
        have ha2 : a' = q - 1 := by rw [← ha', IntKind.wrap_u64]; omega
        have HA2 := Lib.hid ha2
        by_cases hrr : 4294967296 ≤ b'
        · have f9 : decide (4294967296 ≤ b') = true := by simpa using hrr
          have hq : a' = Q1 := by
            have : a' ≤ Q1 := by
              rw [← HQ1.out, HY.out]
              exact guess_out hC hC9 (by omega) (by have := HY.out; omega) (by omega) (by omega) (by
                have h1 := HE.out
                have h2 : (q - 1) * A = q * A - A := by rw [Int.sub_mul, Int.one_mul]
                rw [ha2, hb2, h2]
                omega) hrr
            omega
          rw [hq] at ha'
          clear ha2 HA2 hb2 HB2 HE hrr
          go_wp2_with fail
          go_loop [18, 16] (fun a b => ∃ q r : Int, a = .int .u64 q ∧ b = .int .u64 r ∧ Hid (q * A + r = V) ∧ 0 ≤ q ∧ q ≤ 8589934592 ∧ 0 ≤ r ∧ r < 4294967296 ∧ Q0 ≤ q) (fun a _ => (intOf a).toNat)
          case atStart => exact ⟨g', r', rfl, rfl, HG', by omega, by omega, by omega, by omega, by omega⟩
          case round =>
            obtain ⟨q, r, rfl, rfl, HE, c0, c9, d0, d9, hqq⟩ := hrel
            obtain ⟨a', ha'⟩ : ∃ x, IntKind.u64.wrap (q - 1) = x := ⟨_, rfl⟩
            obtain ⟨b', hb'⟩ : ∃ x, IntKind.u64.wrap (r + A) = x := ⟨_, rfl⟩
            have hb2 : b' = r + A := by rw [← hb', IntKind.wrap_u64]; omega
            have HB2 := Lib.hid hb2
            by_cases hbig : 4294967296 ≤ q
            · have f4 : decide (4294967296 ≤ q) = true := by simpa using hbig
              have hgt : Q0 ≤ q - 1 := by omega
              have ha2 : a' = q - 1 := by rw [← ha', IntKind.wrap_u64]; omega
              have HA2 := Lib.hid ha2
              by_cases hrr : 4294967296 ≤ b'
              · have f9 : decide (4294967296 ≤ b') = true := by simpa using hrr
                have hq : a' = Q0 := by
                  have : a' ≤ Q0 := by
                    rw [← HQ0.out, HY.out]
                    exact guess_out hC hC9 (by omega) (by have := HY.out; omega) (by omega) (by omega) (by
                      have h1 := HE.out
                      have h2 : (q - 1) * A = q * A - A := by rw [Int.sub_mul, Int.one_mul]
                      rw [ha2, hb2, h2]
                      omega) hrr
                  omega
                rw [hq] at ha'
                clear ha2 HA2 hb2 HB2 HE hrr
                go_wp2_with fail
                go_returns
                exact ⟨rfl, rfl⟩
              · have f9 : decide (4294967296 ≤ b') = false := by simpa using hrr
                have HN := Lib.hid (show a' * A + b' = V by
                  have h1 := HE.out
                  have h2 : (q - 1) * A = q * A - A := by rw [Int.sub_mul, Int.one_mul]
                  rw [ha2, hb2, h2]
                  omega)
                have y1 : 0 ≤ a' := by omega
                have y2 : a' ≤ 8589934592 := by omega
                have y3 : 0 ≤ b' := by omega
                have y4 : b' < 4294967296 := by omega
                have y5 : Q0 ≤ a' := by omega
                clear ha2 hb2 HE hrr
                go_wp2_with fail
                go_round
                case rel => exact ⟨a', b', rfl, rfl, HN, y1, y2, y3, y4, y5⟩
                case measure =>
                  have := HA2.out
                  simp [intOf]; omega
            · have f4 : decide (4294967296 ≤ q) = false := by simpa using hbig
              have t0 : 0 ≤ q * C := Int.mul_nonneg c0 hC
              have t9 : q * C ≤ 4294967296 * C := Int.mul_le_mul_of_nonneg_right (by omega) hC
              have f5 : IntKind.u64.wrap (q * C) = q * C := by rw [IntKind.wrap_u64]; omega
              have f6 : IntKind.u64.wrap (4294967296 * r) = 4294967296 * r := by rw [IntKind.wrap_u64]; omega
              have f7 : IntKind.u64.wrap (4294967296 * r + n0) = 4294967296 * r + n0 := by rw [IntKind.wrap_u64]; omega
              by_cases ht : 4294967296 * r + n0 < q * C
              · have f8 : decide (4294967296 * r + n0 < q * C) = true := by simpa using ht
                have hgt : Q0 ≤ q - 1 := by
                  rw [← HQ0.out, HY.out]
                  exact guess_on (by omega) (by have := HY.out; omega) (by omega) HE.out (.inr ht)
                clear t0 t9 ht
                have ha2 : a' = q - 1 := by rw [← ha', IntKind.wrap_u64]; omega
                have HA2 := Lib.hid ha2
                by_cases hrr : 4294967296 ≤ b'
                · have f9 : decide (4294967296 ≤ b') = true := by simpa using hrr
                  have hq : a' = Q0 := by
                    have : a' ≤ Q0 := by
                      rw [← HQ0.out, HY.out]
                      exact guess_out hC hC9 (by omega) (by have := HY.out; omega) (by omega) (by omega) (by
                        have h1 := HE.out
                        have h2 : (q - 1) * A = q * A - A := by rw [Int.sub_mul, Int.one_mul]
                        rw [ha2, hb2, h2]
                        omega) hrr
                    omega
                  rw [hq] at ha'
                  clear ha2 HA2 hb2 HB2 HE hrr
                  go_wp2_with fail
                  go_returns
                  exact ⟨rfl, rfl⟩
                · have f9 : decide (4294967296 ≤ b') = false := by simpa using hrr
                  have HN := Lib.hid (show a' * A + b' = V by
                    have h1 := HE.out
                    have h2 : (q - 1) * A = q * A - A := by rw [Int.sub_mul, Int.one_mul]
                    rw [ha2, hb2, h2]
                    omega)
                  have y1 : 0 ≤ a' := by omega
                  have y2 : a' ≤ 8589934592 := by omega
                  have y3 : 0 ≤ b' := by omega
                  have y4 : b' < 4294967296 := by omega
                  have y5 : Q0 ≤ a' := by omega
                  clear ha2 hb2 HE hrr
                  go_wp2_with fail
                  go_round
                  case rel => exact ⟨a', b', rfl, rfl, HN, y1, y2, y3, y4, y5⟩
                  case measure =>
                    have := HA2.out
                    simp [intOf]; omega
              · have f8 : decide (4294967296 * r + n0 < q * C) = false := by simpa using ht
                have hq : q = Q0 := by
                  have : q ≤ Q0 := by
                    rw [← HQ0.out, HY.out]
                    exact guess_le (by omega) HE.out (by omega)
                  omega
                subst hq
                clear t0 t9 ht HE ha' hb' hb2 HB2
                go_wp2_with fail
                go_returns
                exact ⟨rfl, rfl⟩
        · have f9 : decide (4294967296 ≤ b') = false := by simpa using hrr
          have HN := Lib.hid (show a' * A + b' = U by
            have h1 := HE.out
            have h2 : (q - 1) * A = q * A - A := by rw [Int.sub_mul, Int.one_mul]
            rw [ha2, hb2, h2]
            omega)
          have y1 : 0 ≤ a' := by omega
          have y2 : a' ≤ 8589934592 := by omega
          have y3 : 0 ≤ b' := by omega
          have y4 : b' < 4294967296 := by omega
          have y5 : Q1 ≤ a' := by omega
          clear ha2 hb2 HE hrr
          go_wp2_with fail
          go_round
          case rel => exact ⟨a', b', rfl, rfl, HN, y1, y2, y3, y4, y5⟩
          case measure =>
            have := HA2.out
            simp [intOf]; omega
      · have f8 : decide (4294967296 * r + n1 < q * C) = false := by simpa using ht
        have hq : q = Q1 := by
          have : q ≤ Q1 := by
            rw [← HQ1.out, HY.out]
            exact guess_le (by omega) HE.out (by omega)
          omega
        subst hq
        clear t0 t9 ht HE ha' hb' hb2 HB2
        go_wp2_with fail
        go_loop [18, 16] (fun a b => ∃ q r : Int, a = .int .u64 q ∧ b = .int .u64 r ∧ Hid (q * A + r = V) ∧ 0 ≤ q ∧ q ≤ 8589934592 ∧ 0 ≤ r ∧ r < 4294967296 ∧ Q0 ≤ q) (fun a _ => (intOf a).toNat)
        case atStart => exact ⟨g', r', rfl, rfl, HG', by omega, by omega, by omega, by omega, by omega⟩
        case round =>
          obtain ⟨q, r, rfl, rfl, HE, c0, c9, d0, d9, hqq⟩ := hrel
          obtain ⟨a', ha'⟩ : ∃ x, IntKind.u64.wrap (q - 1) = x := ⟨_, rfl⟩
          obtain ⟨b', hb'⟩ : ∃ x, IntKind.u64.wrap (r + A) = x := ⟨_, rfl⟩
          have hb2 : b' = r + A := by rw [← hb', IntKind.wrap_u64]; omega
          have HB2 := Lib.hid hb2
          by_cases hbig : 4294967296 ≤ q
          · have f4 : decide (4294967296 ≤ q) = true := by simpa using hbig
            have hgt : Q0 ≤ q - 1 := by omega
            have ha2 : a' = q - 1 := by rw [← ha', IntKind.wrap_u64]; omega
            have HA2 := Lib.hid ha2
            by_cases hrr : 4294967296 ≤ b'
            · have f9 : decide (4294967296 ≤ b') = true := by simpa using hrr
              have hq : a' = Q0 := by
                have : a' ≤ Q0 := by
                  rw [← HQ0.out, HY.out]
                  exact guess_out hC hC9 (by omega) (by have := HY.out; omega) (by omega) (by omega) (by
                    have h1 := HE.out
                    have h2 : (q - 1) * A = q * A - A := by rw [Int.sub_mul, Int.one_mul]
                    rw [ha2, hb2, h2]
                    omega) hrr
                omega
              rw [hq] at ha'
              clear ha2 HA2 hb2 HB2 HE hrr
              go_wp2_with fail
              go_returns
              exact ⟨rfl, rfl⟩
            · have f9 : decide (4294967296 ≤ b') = false := by simpa using hrr
              have HN := Lib.hid (show a' * A + b' = V by
                have h1 := HE.out
                have h2 : (q - 1) * A = q * A - A := by rw [Int.sub_mul, Int.one_mul]
                rw [ha2, hb2, h2]
                omega)
              have y1 : 0 ≤ a' := by omega
              have y2 : a' ≤ 8589934592 := by omega
              have y3 : 0 ≤ b' := by omega
              have y4 : b' < 4294967296 := by omega
              have y5 : Q0 ≤ a' := by omega
              clear ha2 hb2 HE hrr
              go_wp2_with fail
              go_round
              case rel => exact ⟨a', b', rfl, rfl, HN, y1, y2, y3, y4, y5⟩
              case measure =>
                have := HA2.out
                simp [intOf]; omega
          · have f4 : decide (4294967296 ≤ q) = false := by simpa using hbig
            have t0 : 0 ≤ q * C := Int.mul_nonneg c0 hC
            have t9 : q * C ≤ 4294967296 * C := Int.mul_le_mul_of_nonneg_right (by omega) hC
            have f5 : IntKind.u64.wrap (q * C) = q * C := by rw [IntKind.wrap_u64]; omega
            have f6 : IntKind.u64.wrap (4294967296 * r) = 4294967296 * r := by rw [IntKind.wrap_u64]; omega
            have f7 : IntKind.u64.wrap (4294967296 * r + n0) = 4294967296 * r + n0 := by rw [IntKind.wrap_u64]; omega
            by_cases ht : 4294967296 * r + n0 < q * C
            · have f8 : decide (4294967296 * r + n0 < q * C) = true := by simpa using ht
              have hgt : Q0 ≤ q - 1 := by
                rw [← HQ0.out, HY.out]
                exact guess_on (by omega) (by have := HY.out; omega) (by omega) HE.out (.inr ht)
              clear t0 t9 ht
              have ha2 : a' = q - 1 := by rw [← ha', IntKind.wrap_u64]; omega
              have HA2 := Lib.hid ha2
              by_cases hrr : 4294967296 ≤ b'
              · have f9 : decide (4294967296 ≤ b') = true := by simpa using hrr
                have hq : a' = Q0 := by
                  have : a' ≤ Q0 := by
                    rw [← HQ0.out, HY.out]
                    exact guess_out hC hC9 (by omega) (by have := HY.out; omega) (by omega) (by omega) (by
                      have h1 := HE.out
                      have h2 : (q - 1) * A = q * A - A := by rw [Int.sub_mul, Int.one_mul]
                      rw [ha2, hb2, h2]
                      omega) hrr
                  omega
                rw [hq] at ha'
                clear ha2 HA2 hb2 HB2 HE hrr
                go_wp2_with fail
                go_returns
                exact ⟨rfl, rfl⟩
              · have f9 : decide (4294967296 ≤ b') = false := by simpa using hrr
                have HN := Lib.hid (show a' * A + b' = V by
                  have h1 := HE.out
                  have h2 : (q - 1) * A = q * A - A := by rw [Int.sub_mul, Int.one_mul]
                  rw [ha2, hb2, h2]
                  omega)
                have y1 : 0 ≤ a' := by omega
                have y2 : a' ≤ 8589934592 := by omega
                have y3 : 0 ≤ b' := by omega
                have y4 : b' < 4294967296 := by omega
                have y5 : Q0 ≤ a' := by omega
                clear ha2 hb2 HE hrr
                go_wp2_with fail
                go_round
                case rel => exact ⟨a', b', rfl, rfl, HN, y1, y2, y3, y4, y5⟩
                case measure =>
                  have := HA2.out
                  simp [intOf]; omega
            · have f8 : decide (4294967296 * r + n0 < q * C) = false := by simpa using ht
              have hq : q = Q0 := by
                have : q ≤ Q0 := by
                  rw [← HQ0.out, HY.out]
                  exact guess_le (by omega) HE.out (by omega)
                omega
              subst hq
              clear t0 t9 ht HE ha' hb' hb2 HB2
              go_wp2_with fail
              go_returns
              exact ⟨rfl, rfl⟩
end Go.Proofs.YtoaboklckkcjcaaGreat.divD
/- math/bits.Div64, and the division of a number of 128 bits. -/
namespace Go.Proofs.YtoaboklckkcjcaaGreat.divE
open Go.ChangeShapes Go.WideShapes Go.ChangeAt Go.RowKit
open Go.Proofs.YtoaboklckkcjcaaGreat.base Go.Proofs.YtoaboklckkcjcaaGreat.divA Go.Proofs.YtoaboklckkcjcaaGreat.divB Go.Proofs.YtoaboklckkcjcaaGreat.divC Go.Proofs.YtoaboklckkcjcaaGreat.divD Go.Proofs.YtoaboklckkcjcaaGreat.mixB Go.Proofs.YtoaboklckkcjcaaGreat.wideB Go.Proofs.YtoaboklckkcjcaaGreat.wideD
set_option linter.unusedVariables false

theorem div64_full (hi lo y : Int) (h0 : 0 ≤ hi) (hlt : hi < y) (l0 : 0 ≤ lo) (l1 : lo < 18446744073709551616) (y1 : y < 18446744073709551616) (w : World) :
    Calls Tryz.prog 114 #[.int .u64 hi, .int .u64 lo, .int .u64 y] w fun e w' => e = .returned (.tuple #[.int .u64 ((hi * 18446744073709551616 + lo) / y), .int .u64 ((hi * 18446744073709551616 + lo) % y)]) ∧ Below w.heap.size w w' := by
  by_cases hz : hi = 0
  · subst hz
    have h := div64_small lo y l0 l1 hlt y1 w
    simpa using h
  · obtain ⟨hi, rfl⟩ := Int.eq_ofNat_of_zero_le h0
    obtain ⟨lo, rfl⟩ := Int.eq_ofNat_of_zero_le l0
    obtain ⟨y, rfl⟩ := Int.eq_ofNat_of_zero_le (by omega : 0 ≤ y)
    have hlt' : hi < y := by omega
    have l1' : lo < 18446744073709551616 := by omega
    have y1' : y < 18446744073709551616 := by omega
    have hp : 0 < hi := by omega
    obtain ⟨s, s63, hs, ys, ys1⟩ := norm_y (y := y) (by omega) y1'
    obtain ⟨g1, g2, g3⟩ := hi_word hi lo y s s63 l1' hlt' ys1
    have g4 : IntKind.u64.wrap ((y : Int) * 2 ^ s) = ((y * 2 ^ s : Nat) : Int) := by
      have e : (y : Int) * 2 ^ s = ((y * 2 ^ s : Nat) : Int) := by rw [Int.natCast_mul, Int.natCast_pow]; rfl
      rw [e, IntKind.wrap_u64]
      omega
    have hP : 0 < 2 ^ s := Nat.two_pow_pos s
    have hPc : ((2 ^ s : Nat) : Int) = 2 ^ s := by rw [Int.natCast_pow]; rfl
    have hYc : ((y * 2 ^ s : Nat) : Int) = (y : Int) * 2 ^ s := by rw [Int.natCast_mul, hPc]
    have hNc : (((hi * 18446744073709551616 + lo) * 2 ^ s : Nat) : Int) = ((hi : Int) * 18446744073709551616 + lo) * 2 ^ s := by rw [Int.natCast_mul, hPc]; rfl
    have hUW : (((hi * 18446744073709551616 + lo) * 2 ^ s / 18446744073709551616 : Nat) : Int) * 18446744073709551616 + (((hi * 18446744073709551616 + lo) * 2 ^ s % 18446744073709551616 : Nat) : Int) = ((hi : Int) * 18446744073709551616 + lo) * 2 ^ s := by rw [← hNc]; omega
    have hW9 : (hi * 18446744073709551616 + lo) * 2 ^ s % 18446744073709551616 < 18446744073709551616 := Nat.mod_lt _ (by omega)
    generalize hU : (hi * 18446744073709551616 + lo) * 2 ^ s / 18446744073709551616 = U at *
    generalize hW : (hi * 18446744073709551616 + lo) * 2 ^ s % 18446744073709551616 = W at *
    generalize hY : y * 2 ^ s = Y at *
    have a1 := and_low32 (Y : Int) (by omega) (by omega)
    have a2 := and_low32 (W : Int) (by omega) (by omega)
    obtain ⟨Q1, hQ1⟩ : ∃ q, ((U : Int) * 4294967296 + (W : Int) / 4294967296) / (Y : Int) = q := ⟨_, rfl⟩
    obtain ⟨V, hV⟩ : ∃ v, (U : Int) * 4294967296 + (W : Int) / 4294967296 - Q1 * (Y : Int) = v := ⟨_, rfl⟩
    obtain ⟨Q0, hQ0⟩ : ∃ q, (V * 4294967296 + (W : Int) % 4294967296) / (Y : Int) = q := ⟨_, rfl⟩
    obtain ⟨V2, hV2⟩ : ∃ v, V * 4294967296 + (W : Int) % 4294967296 - Q0 * (Y : Int) = v := ⟨_, rfl⟩
    have hd := digits (u := (U : Int)) (n1 := (W : Int) / 4294967296) (n0 := (W : Int) % 4294967296) (y := (Y : Int)) (q1 := Q1) (by omega) hQ1.symm
    have hN : (U : Int) * 18446744073709551616 + (W : Int) / 4294967296 * 4294967296 + (W : Int) % 4294967296 = ((hi : Int) * 18446744073709551616 + lo) * 2 ^ s := by rw [← hUW]; omega
    have hsc := scaled (a := (hi : Int) * 18446744073709551616 + lo) (y := (y : Int)) (s := (2 : Int) ^ s) (by rw [← hPc]; omega) (by omega)
    rw [hV, hQ0, hN, hYc] at hd
    have hV2' : V2 = ((hi : Int) * 18446744073709551616 + lo) * 2 ^ s % ((y : Int) * 2 ^ s) := by
      have e := Int.emod_add_mul_ediv (V * 4294967296 + (W : Int) % 4294967296) (Y : Int)
      rw [hQ0, Int.mul_comm (Y : Int) Q0, hYc] at e
      rw [hYc] at hV2
      have := hd.2
      omega
    have r1 : Q1 * 4294967296 + Q0 = ((hi : Int) * 18446744073709551616 + lo) / y := hd.1.trans hsc.1
    have r2 : V2 / 2 ^ s = ((hi : Int) * 18446744073709551616 + lo) % y := by rw [hV2']; exact hsc.2
    have h := core hi lo y s (U : Int) ((Y : Int) / 4294967296) ((Y : Int) % 4294967296) ((W : Int) / 4294967296) ((W : Int) % 4294967296) (W : Int) (Y : Int) Q1 Q0 V V2 hp hlt' l1' y1' hs s63 g4 rfl a1 g1 g2 rfl a2
      (by omega) (by omega) (by omega) (by omega) (by omega) (by omega) (by omega) (by omega) (by omega) (by omega) (by omega) hQ1 hV hQ0 hV2 w
    rw [r1, r2] at h
    exact h.mono fun e w' ⟨he, hw⟩ => ⟨he, hw ▸ Below.refl _ _⟩
end Go.Proofs.YtoaboklckkcjcaaGreat.divE
/- Layer 1: quotients and shares. -/
namespace Go.Proofs.YtoaboklckkcjcaaGreat.divF
open Go.ChangeShapes Go.WideShapes Go.ChangeAt Go.RowKit
open Go.Proofs.YtoaboklckkcjcaaGreat.base Go.Proofs.YtoaboklckkcjcaaGreat.wideB Go.Proofs.YtoaboklckkcjcaaGreat.wideD Go.Proofs.YtoaboklckkcjcaaGreat.divE
set_option linter.unusedVariables false

theorem numDiv_no (xh xl y : Int) (h : y ≤ xh) (w : World) :
    Calls Tryz.prog 110 #[.agg #[.int .u64 xh, .int .u64 xl], .int .u64 y] w fun e w' => e = .returned (.tuple #[.int .u64 0, .int .u64 0, .bool false]) ∧ Below w.heap.size w w' := by
  have f1 : decide (y ≤ xh) = true := by simpa using h
  clear h
  go_enter Tryz.func110, Tryz.ntmps110
  go_wp2
  go_returns
  exact ⟨rfl, by go_grown⟩
theorem numDiv_ok (xh xl y : Int) (a0 : 0 ≤ xh) (h : xh < y) (b0 : 0 ≤ xl) (b1 : xl < 18446744073709551616) (y1 : y < 18446744073709551616) (w : World) :
    Calls Tryz.prog 110 #[.agg #[.int .u64 xh, .int .u64 xl], .int .u64 y] w fun e w' => e = .returned (.tuple #[.int .u64 ((xh * 18446744073709551616 + xl) / y), .int .u64 ((xh * 18446744073709551616 + xl) % y), .bool true]) ∧ Below w.heap.size w w' := by
  have f1 : decide (y ≤ xh) = false := by simp; omega
  have H := Lib.hid (fun w => div64_full xh xl y a0 h b0 b1 y1 w)
  go_enter Tryz.func110, Tryz.ntmps110
  go_wp2_with (go_at_call 114; refine (H.out _).mono ?_; rintro e w1 ⟨rfl, hb⟩; have HB := Lib.hid hb; clear hb)
  go_returns
  exact ⟨rfl, ((Below.refl _ _).alloc (Nat.le_refl _) _).trans (HB.out.mono (by simp))⟩
theorem share_no (n p y : Int) (a0 : 0 ≤ n) (a1 : n < 18446744073709551616) (b0 : 0 ≤ p) (b1 : p < 18446744073709551616) (h : y ≤ n * p / 18446744073709551616) (w : World) :
    Calls Tryz.prog 100 #[.int .u64 n, .int .u64 p, .int .u64 y] w fun e w' => e = .returned (.tuple #[.int .u64 0, .bool false]) ∧ Below w.heap.size w w' := by
  have HM := Lib.hid (fun w => mul_any n p a0 a1 b0 b1 w)
  have HD := Lib.hid (fun w => numDiv_no (n * p / 18446744073709551616) (n * p % 18446744073709551616) y h w)
  clear h
  go_enter Tryz.func100, Tryz.ntmps100
  go_wp2_with (first
    | (go_at_call 50; refine (HM.out _).mono ?_; rintro e w1 ⟨rfl, hb⟩; have HB := Lib.hid hb; clear hb)
    | (go_at_call 110; refine (HD.out _).mono ?_; rintro e w2 ⟨rfl, hb⟩; have HB2 := Lib.hid hb; clear hb))
  go_returns
  exact ⟨rfl, HB.out.trans (HB2.out.mono HB.out.size)⟩
theorem share_ok (n p y : Int) (a0 : 0 ≤ n) (a1 : n < 18446744073709551616) (b0 : 0 ≤ p) (b1 : p < 18446744073709551616) (h : n * p / 18446744073709551616 < y) (y1 : y < 18446744073709551616) (w : World) :
    Calls Tryz.prog 100 #[.int .u64 n, .int .u64 p, .int .u64 y] w fun e w' => e = .returned (.tuple #[.int .u64 (n * p / y), .bool true]) ∧ Below w.heap.size w w' := by
  have h0 : 0 ≤ n * p := Int.mul_nonneg a0 b0
  have e : n * p / 18446744073709551616 * 18446744073709551616 + n * p % 18446744073709551616 = n * p := by omega
  have HM := Lib.hid (fun w => mul_any n p a0 a1 b0 b1 w)
  have HD := Lib.hid (fun w => numDiv_ok (n * p / 18446744073709551616) (n * p % 18446744073709551616) y (by omega) h (by omega) (by omega) y1 w)
  rw [e] at HD
  clear h e
  go_enter Tryz.func100, Tryz.ntmps100
  go_wp2_with (first
    | (go_at_call 50; refine (HM.out _).mono ?_; rintro e w1 ⟨rfl, hb⟩; have HB := Lib.hid hb; clear hb)
    | (go_at_call 110; refine (HD.out _).mono ?_; rintro e w2 ⟨rfl, hb⟩; have HB2 := Lib.hid hb; clear hb))
  go_returns
  exact ⟨rfl, HB.out.trans (HB2.out.mono HB.out.size)⟩
end Go.Proofs.YtoaboklckkcjcaaGreat.divF
/- A slice of integers that came in, as a row. -/
namespace Go.Proofs.YtoaboklckkcjcaaGreat.base
open Go.RowKit Go.WideShapes Go.ChangeShapes
set_option linter.unusedVariables false
theorem isrow {k : IntKind} {w : World} {a : Option Addr} {len cap : Nat} {zs : List Int}
    (h : (a = none ∧ len = 0 ∧ cap = 0 ∧ zs = []) ∨ ∃ x, a = some x ∧ len ≤ cap ∧ cap ≤ maxLen ∧ zs.length = cap ∧ (∀ i, i < zs.length → w.cell? (x.add i) = some (.int k (zs.getD i 0))) ∧ ∀ n ∈ zs, (Lit.int k n).wf = true) :
    ∃ l : List Int, l.length = len ∧ Row w w.heap.size a (l.map (.int k)) ∧ (∀ x ∈ l, (Lit.int k x).wf = true) ∧ len ≤ cap ∧ cap ≤ 9223372036854775807 := by
  rcases h with ⟨rfl, rfl, rfl, rfl⟩ | ⟨x, rfl, hle, hcm, hzl, hcell, hwf⟩
  · exact ⟨[], rfl, .inl rfl, by simp, Nat.le_refl _, by omega⟩
  · unfold maxLen at hcm
    refine ⟨zs.take len, by rw [List.length_take]; omega, row_of_cells hcell len, fun x hx => hwf x (List.mem_of_mem_take hx), hle, by omega⟩
/-- The first m of them. -/
theorem row_cut {k : IntKind} {w : World} {B : Nat} {a : Option Addr} {l : List Int} (h : Row w B a (l.map (.int k))) (m : Nat) (hm : m ≤ l.length) (h0 : 0 < m) :
    ∃ b off, a = some ⟨b, off, none⟩ ∧ (l.take m).length = m ∧ Row w B (some ⟨b, off, none⟩) ((l.take m).map (.int k)) := by
  have hr := h.take m
  rw [← List.map_take] at hr
  have hl : (l.take m).length = m := by rw [List.length_take]; omega
  obtain ⟨b, off, rfl, _⟩ := hr.at_ (by intro e; have e2 := congrArg List.length e; rw [List.length_map, hl] at e2; simp at e2; omega)
  exact ⟨b, off, rfl, hl, hr⟩
end Go.Proofs.YtoaboklckkcjcaaGreat.base
/- Layer 24: the health of a level. -/
namespace Go.Proofs.YtoaboklckkcjcaaGreat.loadA
open Go.ChangeShapes Go.WideShapes Go.ChangeAt Go.RowKit
open Go.Proofs.YtoaboklckkcjcaaGreat.base Go.Proofs.YtoaboklckkcjcaaGreat.divF
set_option linter.unusedVariables false

theorem heldU_any (n a b : Int) (w : World) :
    Calls Tryz.prog 101 #[.int .u64 n, .int .u64 a, .int .u64 b] w fun e w' => e = .returned (.int .u64 (min (max n a) b)) ∧ w = w' := by
  go_enter Tryz.func101, Tryz.ntmps101
  go_wp2
  go_ret
  exact ⟨rfl, rfl⟩
theorem heldI_any (n a b : Int) (w : World) :
    Calls Tryz.prog 83 #[.int .i64 n, .int .i64 a, .int .i64 b] w fun e w' => e = .returned (.int .i64 (min (max n a) b)) ∧ w = w' := by
  go_enter Tryz.func83, Tryz.ntmps83
  go_wp2
  go_ret
  exact ⟨rfl, rfl⟩
/-- a level's health -/
def healthZ (h a f : Int) : Int := if h < 1 ∨ a < 1 ∨ f < 1 then 0 else min (f * 100 * h / a) 10000
theorem healthZ_in (h a f : Int) : 0 ≤ healthZ h a f ∧ healthZ h a f ≤ 10000 := by
  unfold healthZ
  split
  · omega
  · have : 0 ≤ f * 100 * h / a := Int.ediv_nonneg (Int.mul_nonneg (by omega) (by omega)) (by omega)
    omega
theorem prod_in {h f : Int} (h1 : 1 ≤ h) (h2 : h ≤ 1048576) (f1 : 1 ≤ f) (f2 : f ≤ 1048576) : 0 ≤ f * 100 * h ∧ f * 100 * h ≤ 109951162777600 := by
  have a := Int.mul_le_mul (a := f * 100) (c := 104857600) (b := h) (d := 1048576) (by omega) h2 (by omega) (by omega)
  have b : 0 ≤ f * 100 * h := Int.mul_nonneg (by omega) (by omega)
  omega
theorem health_any (h a f : Int) (h2 : h ≤ 1048576) (a2 : a ≤ 1048576) (f2 : f ≤ 1048576) (w : World) :
    Calls Tryz.prog 82 #[.int .i64 h, .int .i64 a, .int .i64 f] w fun e w' => e = .returned (.int .i64 (healthZ h a f)) ∧ Below w.heap.size w w' := by
  by_cases hh : h < 1
  · have hv : healthZ h a f = 0 := by simp [healthZ, hh]
    rw [hv]; clear hv
    go_enter Tryz.func82, Tryz.ntmps82
    go_wp2
    go_ret
    exact ⟨rfl, Below.refl _ _⟩
  by_cases ha : a < 1
  · have hv : healthZ h a f = 0 := by simp [healthZ, ha]
    rw [hv]; clear hv
    go_enter Tryz.func82, Tryz.ntmps82
    go_wp2
    go_ret
    exact ⟨rfl, Below.refl _ _⟩
  by_cases hf : f < 1
  · have hv : healthZ h a f = 0 := by simp [healthZ, hf]
    rw [hv]; clear hv
    go_enter Tryz.func82, Tryz.ntmps82
    go_wp2
    go_ret
    exact ⟨rfl, Below.refl _ _⟩
  have hv : healthZ h a f = min (f * 100 * h / a) 10000 := by simp only [healthZ]; rw [if_neg (by omega)]
  have hp := prod_in (by omega : 1 ≤ h) h2 (by omega : 1 ≤ f) f2
  have hq : 0 ≤ f * 100 * h / a := Int.ediv_nonneg hp.1 (by omega)
  have hq2 : f * 100 * h / a ≤ f * 100 * h := Int.ediv_le_self _ hp.1
  have hS := share_ok (f * 100) h a (by omega) (by omega) (by omega) (by omega) (by rw [Int.ediv_eq_zero_of_lt hp.1 (by omega)]; omega) (by omega)
  have HS := Lib.hid hS
  have HV := Lib.hid hv
  clear hv hS
  generalize hg : f * 100 * h / a = q at *
  have HG := Lib.hid hg
  have hp' : q ≤ 109951162777600 := by omega
  clear hg hp hq2
  go_enter Tryz.func82, Tryz.ntmps82
  go_wp2_with fail
  refine (HS.out _).mono ?_
  rintro e w1 ⟨rfl, hb⟩
  go_wp2_with fail
  refine (heldU_any _ _ _ _).mono ?_
  rintro e w' ⟨rfl, rfl⟩
  have hm : min (max q 0) 10000 = min q 10000 := by omega
  rw [hm]
  go_wp2_with fail
  go_ret
  exact ⟨by rw [HV.out]; first | rfl | (congr 2; omega), hb⟩

end Go.Proofs.YtoaboklckkcjcaaGreat.loadA
/- Layer 24: which counts may be. -/
namespace Go.Proofs.YtoaboklckkcjcaaGreat.loadB
open Go.ChangeShapes Go.WideShapes Go.ChangeAt Go.RowKit
open Go.Proofs.YtoaboklckkcjcaaGreat.base Go.Proofs.YtoaboklckkcjcaaGreat.loadA
set_option linter.unusedVariables false

def okp (x a : Int) : Bool := decide (0 ≤ x ∧ x ≤ a ∧ a ≤ 1048576)
def okAll (xs ys : List Int) (n : Nat) : Prop := ∀ i, i < n → okp (xs.getD i 0) (ys.getD i 0) = true
def rightP (xs ys : List Int) (f : Int) : Prop := xs.length = ys.length ∧ xs.length ≤ 4 ∧ 100 ≤ f ∧ f ≤ 1000 ∧ okAll xs ys xs.length
theorem row_get {w : World} {B : Nat} {A : Option Addr} {l : List Int} (h : Row w B A (l.map (.int .i64))) (h0 : 0 < l.length) :
    ∃ b off, A = some ⟨b, off, none⟩ ∧ b < B ∧ ∀ i, i < l.length → w.cell? ⟨b, off + i, none⟩ = some (.int .i64 (l.getD i 0)) := by
  obtain ⟨b, off, rfl, hb, hc⟩ := h.at_ (by intro e; have e2 := congrArg List.length e; simp at e2; rw [e2] at h0; simp at h0)
  refine ⟨b, off, rfl, hb, fun i hi => hc i _ ?_⟩
  rw [List.getElem?_map, List.getD_eq_getElem?_getD, List.getElem?_eq_getElem hi]
  rfl

theorem right_yes (A B : Option Addr) (n c m d : Nat) (xs ys : List Int) (f : Int) (w : World) (hl : xs.length = n) (al : ys.length = m) (hr : Row w w.heap.size A (xs.map (.int .i64))) (ar : Row w w.heap.size B (ys.map (.int .i64)))
    (hp : rightP xs ys f) :
    Calls Tryz.prog 81 #[.slice A n c, .slice B m d, .int .i64 f] w fun e w' => e = .returned (.bool true) ∧ Below w.heap.size w w' := by
  obtain ⟨p1, p2, p3, p4, p5⟩ := hp
  have t1 : ((n : Int) != (m : Int)) = false := by simp; omega
  have t2 : decide ((4 : Int) < (n : Int)) = false := by simp; omega
  have HH := Lib.hid hl
  have HA := Lib.hid al
  have HR := Lib.hid hr
  have AR := Lib.hid ar
  have HP := Lib.hid p5
  have n4 : n ≤ 4 := by omega
  have nm : n = m := by omega
  clear hl al hr ar p1 p2 p5
  go_enter Tryz.func81, Tryz.ntmps81
  go_wp2_with fail
  go_loopw [28] (fun i wr => ∃ k : Nat, k ≤ n ∧ i = .int .i64 k ∧ Below w.heap.size w wr) (fun i _ => n - (intOf i).toNat)
  case atStart => exact ⟨0, by omega, rfl, Below.refl _ _⟩
  case round =>
    obtain ⟨k, hk, rfl, hbel⟩ := hrel
    by_cases hlt : k < n
    · have ok := HP.out k (by rw [HH.out]; exact hlt)
      have ok' : 0 ≤ xs.getD k 0 ∧ xs.getD k 0 ≤ ys.getD k 0 ∧ ys.getD k 0 ≤ 1048576 := by simpa [okp] using ok
      obtain ⟨b, off, rfl, _, hc⟩ := row_get (HR.out.below hbel) (by rw [HH.out]; omega)
      obtain ⟨b2, off2, rfl, _, hc2⟩ := row_get (AR.out.below hbel) (by rw [HA.out]; omega)
      have c1 := hc k (by rw [HH.out]; exact hlt)
      have c2 := hc2 k (by rw [HA.out]; omega)
      have HBel := Lib.hid hbel
      have km : k < m := by omega
      clear hc hc2 hbel ok nm
      generalize xs.getD k 0 = x at *
      generalize ys.getD k 0 = y at *
      obtain ⟨o1, o2, o3⟩ := ok'
      have q1 : decide (x < 0) = false := by simp; omega
      have q2 : decide (y < x) = false := by simp; omega
      have q3 : decide (1048576 < y) = false := by simp; omega
      go_wp2_with fail
      go_quiet (fail)
      go_wp2_with fail
      go_roundw
      case rel => exact ⟨k + 1, by omega, by go_num, below_drewN HBel.out _⟩
      case measure => simp [intOf]; omega
    · have HBel := Lib.hid hbel
      clear hbel
      go_wp2_with fail
      go_ret
      exact ⟨rfl, HBel.out⟩
end Go.Proofs.YtoaboklckkcjcaaGreat.loadB
/- Layer 24: how much each level gets, reckoned. -/
namespace Go.Proofs.YtoaboklckkcjcaaGreat.loadC
open Go.ChangeShapes Go.WideShapes Go.ChangeAt Go.RowKit
open Go.Proofs.YtoaboklckkcjcaaGreat.base Go.Proofs.YtoaboklckkcjcaaGreat.loadA Go.Proofs.YtoaboklckkcjcaaGreat.loadB
set_option linter.unusedVariables false

theorem info_int : (Tryz.prog.info? 3).map (fun i => (i.zero, i.size, i.bytes)) = some (some (.int .i64 0), 1, 8) := by kernel_rfl
/-- A table of n numbers, as cells. -/
def tab (n : Nat) (g : Nat → Int) : Array Value := ((List.range n).map fun i => Value.int .i64 (g i)).toArray
theorem tab_get (n : Nat) (g : Nat → Int) (i : Nat) (h : i < n) : (tab n g)[i]? = some (.int .i64 (g i)) := by simp [tab, h]
theorem tab_size (n : Nat) (g : Nat → Int) : (tab n g).size = n := by simp [tab]
theorem tab_congr {n : Nat} {g g' : Nat → Int} (h : ∀ i, i < n → g i = g' i) : tab n g = tab n g' := by
  unfold tab
  congr 1
  exact List.map_congr_left fun i hi => by rw [h i (by simpa using hi)]
theorem tab_set (n : Nat) (g : Nat → Int) (k : Nat) (v : Int) : (tab n g).setIfInBounds k (.int .i64 v) = tab n fun i => if i = k then v else g i := by
  apply Array.ext_getElem?
  intro i
  rcases Nat.lt_or_ge i n with h | h
  · rw [tab_get n _ i h, Array.getElem?_setIfInBounds, tab_size, tab_get n _ i h]
    by_cases hk : k = i
    · subst hk; simp [h]
    · have : ¬ i = k := fun h => hk h.symm
      simp [hk, this]
  · rw [Array.getElem?_eq_none (by simp [tab_size]; exact h), Array.getElem?_eq_none (by rw [tab_size]; exact h)]
theorem tab_zero (n : Nat) : zeros n (.int .i64 0) = tab n fun _ => 0 := by simp [zeros, tab, List.map_const']
def heaZ (xs ys : List Int) (f : Int) (i : Nat) : Int := healthZ (xs.getD i 0) (ys.getD i 0) f
def sumF (h : Nat → Int) : Nat → Int
  | 0 => 0
  | k + 1 => sumF h k + h k
theorem sumF_in (h : Nat → Int) (B : Int) (hB : ∀ i, 0 ≤ h i ∧ h i ≤ B) (k : Nat) : 0 ≤ sumF h k ∧ sumF h k ≤ k * B := by
  induction k with
  | zero => simp [sumF]
  | succ k ih =>
    have := hB k
    have e : ((k + 1 : Nat) : Int) * B = k * B + B := by rw [Int.natCast_succ, Int.add_mul, Int.one_mul]
    rw [e, sumF]
    omega
def partZ (S x left : Int) : Int := if 0 < S then min (max (x * 10000 / S) 0) left else 0
def leftZ (S : Int) (h : Nat → Int) : Nat → Int
  | 0 => 10000
  | k + 1 => leftZ S h k - partZ S (h k) (leftZ S h k)
theorem part_in (S x left : Int) (h : 0 ≤ left) : 0 ≤ partZ S x left ∧ partZ S x left ≤ left := by
  unfold partZ
  split
  · generalize x * 10000 / S = q
    omega
  · omega
theorem left_in (S : Int) (h : Nat → Int) (k : Nat) : 0 ≤ leftZ S h k ∧ leftZ S h k ≤ 10000 := by
  induction k with
  | zero => simp [leftZ]
  | succ k ih =>
    have := part_in S (h k) (leftZ S h k) ih.1
    rw [leftZ]
    omega
def capZ (x : Int) : Int := min (max x 0) 10000
def firstP (xs : List Int) : Nat → Option Nat
  | 0 => none
  | k + 1 => match firstP xs k with
    | some j => some j
    | none => if 0 < xs.getD k 0 then some k else none
theorem firstP_lt (xs : List Int) (k j : Nat) (h : firstP xs k = some j) : j < k ∧ 0 < xs.getD j 0 := by
  induction k with
  | zero => simp [firstP] at h
  | succ k ih =>
    rw [firstP] at h
    cases hk : firstP xs k with
    | some i =>
      rw [hk] at h
      simp only [Option.some.injEq] at h
      subst h
      have := ih hk
      exact ⟨by omega, this.2⟩
    | none =>
      rw [hk] at h
      simp only at h
      split at h
      · simp only [Option.some.injEq] at h
        subst h
        exact ⟨by omega, by assumption⟩
      · cases h
theorem firstP_mono (xs : List Int) (k j : Nat) (h : firstP xs k = some j) (m : Nat) : firstP xs (k + m) = some j := by
  induction m with
  | zero => exact h
  | succ m ih => rw [← Nat.add_assoc, firstP, ih]
theorem keepS {W w w' : World} {p1 p2 p3 : Addr} {v1 v2 v3 : Value} (h : Below W.heap.size W w ∧ w.cell? p1 = some v1 ∧ w.cell? p2 = some v2 ∧ w.cell? p3 = some v3 ∧ w.frozen? p3 = false) (hb : Below w.heap.size w w') :
    Below W.heap.size W w' ∧ w'.cell? p1 = some v1 ∧ w'.cell? p2 = some v2 ∧ w'.cell? p3 = some v3 ∧ w'.frozen? p3 = false := by
  obtain ⟨h0, h1, h2, h3, h4⟩ := h
  exact ⟨h0.trans (hb.mono h0.size), kept h1 hb, kept h2 hb, kept h3 hb, (hb.frozen (World.block_lt_of_cell? w _ h3)).trans h4⟩

theorem closure_any (x : Int) (w : World) :
    Calls Tryz.prog 85 #[.int .i64 x] w fun e w' => e = .returned (.bool (decide (0 < x))) ∧ w = w' := by
  go_enter Tryz.func85, Tryz.ntmps85
  go_wp2
  go_ret
  exact ⟨rfl, rfl⟩
def placeZ : Option Nat → Int
  | none => -1
  | some j => j
theorem index_any (A : Option Addr) (n c : Nat) (xs : List Int) (w : World) (hl : xs.length = n) (hn : n ≤ 1000000) (hr : Row w w.heap.size A (xs.map (.int .i64))) :
    Calls Tryz.prog 84 #[.slice A n c, .func (.func 85) #[] #[]] w fun e w' => e = .returned (.int .i64 (placeZ (firstP xs n))) ∧ w = w' := by
  have HH := Lib.hid hl
  have HR := Lib.hid hr
  clear hl hr
  go_enter Tryz.func84, Tryz.ntmps84
  go_wp2_with fail
  go_loop [8] (fun i => ∃ k : Nat, k ≤ n ∧ i = .int .i64 k ∧ firstP xs k = none) (fun i => n - (intOf i).toNat)
  case atStart => exact ⟨0, by omega, rfl, rfl⟩
  case round =>
    obtain ⟨k, hk, rfl, hnone⟩ := hrel
    by_cases hlt : k < n
    · obtain ⟨b, off, rfl, _, hc⟩ := row_get HR.out (by rw [HH.out]; omega)
      have c1 := hc k (by rw [HH.out]; exact hlt)
      have hstep : firstP xs (k + 1) = if 0 < xs.getD k 0 then some k else none := by rw [firstP, hnone]
      have HN := Lib.hid hnone
      clear hc hnone
      generalize xs.getD k 0 = x at *
      by_cases hx : 0 < x
      · rw [if_pos hx] at hstep
        have hfin := firstP_mono xs (k + 1) k hstep (n - (k + 1))
        rw [Nat.add_sub_cancel' (by omega : k + 1 ≤ n)] at hfin
        have HF := Lib.hid hfin
        have q : decide (0 < x) = true := by simpa using hx
        clear hstep hfin hx
        go_wp2_with (go_at_call 85; refine (closure_any _ _).mono ?_; rintro e w' ⟨rfl, rfl⟩)
        go_ret
        exact ⟨by rw [HF.out]; rfl, rfl⟩
      · rw [if_neg hx] at hstep
        have HF := Lib.hid hstep
        have q : decide (0 < x) = false := by simpa using hx
        clear hstep hx
        go_wp2_with (go_at_call 85; refine (closure_any _ _).mono ?_; rintro e w' ⟨rfl, rfl⟩)
        go_round
        case rel => exact ⟨k + 1, by omega, by go_num, HF.out⟩
        case measure => simp [intOf]; omega
    · obtain rfl : k = n := by omega
      have HN := Lib.hid hnone
      clear hnone
      go_wp2_with fail
      go_ret
      exact ⟨by rw [HN.out]; rfl, rfl⟩
end Go.Proofs.YtoaboklckkcjcaaGreat.loadC
