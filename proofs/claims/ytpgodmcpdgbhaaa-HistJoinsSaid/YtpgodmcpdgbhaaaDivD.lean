/- math/bits.Div64: a high word that is not 0. -/
import Derived.Test.YtpgodmcpdgbhaaaDivC
namespace Go.Proofs.Ytpgodmcpdgbhaaa.divD
open Go.ChangeShapes Go.WideShapes Go.ChangeAt Go.RowKit
open Go.Proofs.Ytpgodmcpdgbhaaa.base Go.Proofs.Ytpgodmcpdgbhaaa.divA Go.Proofs.Ytpgodmcpdgbhaaa.divB Go.Proofs.Ytpgodmcpdgbhaaa.mixB
set_option linter.unusedVariables false

set_option maxHeartbeats 1000000 in
/-- Div64 over what its words are once they are shifted: the quotient's digits Q1, Q0, what is left V2 (shifted). -/
theorem core (hi lo y : Nat) (s : Nat) (U A C n1 n0 W Y Q1 Q0 V V2 : Int) (h0 : 0 < hi) (hlt : hi < y) (l1 : lo < 18446744073709551616) (y1 : y < 18446744073709551616) (hs : (64 : Int) - (Lib.bitLen y : Int) = (s : Int)) (s63 : s ≤ 63)
    (k1 : IntKind.u64.wrap ((y : Int) * 2 ^ s) = Y) (k2 : Y / 4294967296 = A) (k3 : bits .and .u64 Y 4294967295 = C)
    (k4 : bits .or .u64 (IntKind.u64.wrap ((hi : Int) * 2 ^ s)) ((lo : Int) / 2 ^ (64 - s)) = U) (k5 : IntKind.u64.wrap ((lo : Int) * 2 ^ s) = W) (k6 : W / 4294967296 = n1) (k7 : bits .and .u64 W 4294967295 = n0)
    (hY : Y = A * 4294967296 + C) (hA : 2147483648 ≤ A) (hA9 : A < 4294967296) (hC : 0 ≤ C) (hC9 : C < 4294967296) (hn1 : 0 ≤ n1) (hn19 : n1 < 4294967296) (hn0 : 0 ≤ n0) (hn09 : n0 < 4294967296) (hU : 0 ≤ U) (hUY : U < Y)
    (hQ1 : (U * 4294967296 + n1) / Y = Q1) (hV : U * 4294967296 + n1 - Q1 * Y = V) (hQ0 : (V * 4294967296 + n0) / Y = Q0) (hV2 : V * 4294967296 + n0 - Q0 * Y = V2) (w : World) :
    Calls Try.prog 48 #[.int .u64 hi, .int .u64 lo, .int .u64 y] w fun e w' => e = .returned (.tuple #[.int .u64 (Q1 * 4294967296 + Q0), .int .u64 (V2 / 2 ^ s)]) ∧ w = w' := by
  have hYp : 0 < Y := by omega
  have q1b : 0 ≤ Q1 ∧ Q1 < 4294967296 := by
    rw [← hQ1]
    exact ⟨Int.ediv_nonneg (by omega) (by omega), digit_lt hUY hn19 hYp⟩
  have vb : 0 ≤ V ∧ V < Y := by
    have e := Int.emod_add_mul_ediv (U * 4294967296 + n1) Y
    have e1 := Int.emod_nonneg (U * 4294967296 + n1) (show Y ≠ 0 by omega)
    have e2 := Int.emod_lt_of_pos (U * 4294967296 + n1) hYp
    rw [hQ1, Int.mul_comm Y Q1] at e
    omega
  have q0b : 0 ≤ Q0 ∧ Q0 < 4294967296 := by
    rw [← hQ0]
    exact ⟨Int.ediv_nonneg (by omega) (by omega), digit_lt vb.2 hn09 hYp⟩
  have v2b : 0 ≤ V2 ∧ V2 < Y := by
    have e := Int.emod_add_mul_ediv (V * 4294967296 + n0) Y
    have e1 := Int.emod_nonneg (V * 4294967296 + n0) (show Y ≠ 0 by omega)
    have e2 := Int.emod_lt_of_pos (V * 4294967296 + n0) hYp
    rw [hQ0, Int.mul_comm Y Q0] at e
    omega
  have f1 : ((y : Int) == 0) = false := by simp; omega
  have f2 : decide ((y : Int) ≤ (hi : Int)) = false := by simp; omega
  have f3 : ((hi : Int) == 0) = false := by simp; omega
  have hA0 : ¬ A = 0 := by omega
  -- the first guess
  obtain ⟨g, hg⟩ : ∃ g, g = U / A := ⟨_, rfl⟩
  obtain ⟨r, hr⟩ : ∃ r, r = U - g * A := ⟨_, rfl⟩
  have gb : 0 ≤ g ∧ g ≤ 8589934592 := by
    rw [hg]
    refine ⟨Int.ediv_nonneg hU (by omega), ?_⟩
    have : U / A < 8589934593 := by
      rw [Int.ediv_lt_iff_lt_mul (by omega)]
      omega
    omega
  have rb : 0 ≤ r ∧ r < A := by
    have e := Int.emod_add_mul_ediv U A
    have e1 := Int.emod_nonneg U hA0
    have e2 := Int.emod_lt_of_pos U (show 0 < A by omega)
    rw [← hg, Int.mul_comm A g] at e
    omega
  have m1 : U.tdiv A = g := by rw [hg]; exact Int.tdiv_eq_ediv_of_nonneg hU
  have m2 : IntKind.u64.wrap g = g := by rw [IntKind.wrap_u64]; omega
  have pb : 0 ≤ g * A := Int.mul_nonneg gb.1 (by omega)
  have m3 : IntKind.u64.wrap (g * A) = g * A := by rw [IntKind.wrap_u64]; omega
  have m4 : IntKind.u64.wrap (U - g * A) = r := by rw [IntKind.wrap_u64]; omega
  have gq : Q1 ≤ g := by
    rw [← hQ1]
    have hlast : (U * 4294967296 + n1) / Y < g + 1 := by
      rw [Int.ediv_lt_iff_lt_mul hYp, hY, Int.mul_add]
      have c0 : 0 ≤ (g + 1) * C := Int.mul_nonneg (by omega) hC
      have c1 : (g + 1) * (A * 4294967296) = (g * A + A) * 4294967296 := by rw [← Int.mul_assoc, Int.add_mul, Int.one_mul]
      rw [c1]
      omega
    omega
  obtain ⟨g', hg'⟩ : ∃ g', g' = V / A := ⟨_, rfl⟩
  obtain ⟨r', hr'⟩ : ∃ r', r' = V - g' * A := ⟨_, rfl⟩
  have gb' : 0 ≤ g' ∧ g' ≤ 8589934592 := by
    rw [hg']
    refine ⟨Int.ediv_nonneg vb.1 (by omega), ?_⟩
    have : V / A < 8589934593 := by
      rw [Int.ediv_lt_iff_lt_mul (by omega)]
      omega
    omega
  have rb' : 0 ≤ r' ∧ r' < A := by
    have e := Int.emod_add_mul_ediv V A
    have e1 := Int.emod_nonneg V hA0
    have e2 := Int.emod_lt_of_pos V (show 0 < A by omega)
    rw [← hg', Int.mul_comm A g'] at e
    omega
  have m1' : V.tdiv A = g' := by rw [hg']; exact Int.tdiv_eq_ediv_of_nonneg vb.1
  have m2' : IntKind.u64.wrap g' = g' := by rw [IntKind.wrap_u64]; omega
  have pb' : 0 ≤ g' * A := Int.mul_nonneg gb'.1 (by omega)
  have m3' : IntKind.u64.wrap (g' * A) = g' * A := by rw [IntKind.wrap_u64]; omega
  have m4' : IntKind.u64.wrap (V - g' * A) = r' := by rw [IntKind.wrap_u64]; omega
  have gq' : Q0 ≤ g' := by
    rw [← hQ0]
    have hlast : (V * 4294967296 + n0) / Y < g' + 1 := by
      rw [Int.ediv_lt_iff_lt_mul hYp, hY, Int.mul_add]
      have c0 : 0 ≤ (g' + 1) * C := Int.mul_nonneg (by omega) hC
      have c1 : (g' + 1) * (A * 4294967296) = (g' * A + A) * 4294967296 := by rw [← Int.mul_assoc, Int.add_mul, Int.one_mul]
      rw [c1]
      omega
    omega
  obtain ⟨x1, hx1⟩ : ∃ x, IntKind.u64.wrap (U * 4294967296) = x := ⟨_, rfl⟩
  obtain ⟨x2, hx2⟩ : ∃ x, IntKind.u64.wrap (x1 + n1) = x := ⟨_, rfl⟩
  obtain ⟨x3, hx3⟩ : ∃ x, IntKind.u64.wrap (Q1 * Y) = x := ⟨_, rfl⟩
  have hx4 : IntKind.u64.wrap (x2 - x3) = V := by
    rw [← hx3, ← hx2, ← hx1]
    simp only [IntKind.wrap_u64]
    generalize Q1 * Y = p at *
    omega
  obtain ⟨z1, hz1⟩ : ∃ x, IntKind.u64.wrap (V * 4294967296) = x := ⟨_, rfl⟩
  obtain ⟨z2, hz2⟩ : ∃ x, IntKind.u64.wrap (z1 + n0) = x := ⟨_, rfl⟩
  obtain ⟨z3, hz3⟩ : ∃ x, IntKind.u64.wrap (Q0 * Y) = x := ⟨_, rfl⟩
  have hz4 : IntKind.u64.wrap (z2 - z3) = V2 := by
    rw [← hz3, ← hz2, ← hz1]
    simp only [IntKind.wrap_u64]
    generalize Q0 * Y = p at *
    omega
  have e1 : IntKind.u64.wrap (Q1 * 4294967296) = Q1 * 4294967296 := by rw [IntKind.wrap_u64]; omega
  have e2 : IntKind.u64.wrap (Q1 * 4294967296 + Q0) = Q1 * 4294967296 + Q0 := by rw [IntKind.wrap_u64]; omega
  have HG' := Lib.hid (show g' * A + r' = V by omega)
  have HS := Lib.hid hs
  have HG := Lib.hid (show g * A + r = U by omega)
  have HQ1 := Lib.hid hQ1
  have HV := Lib.hid hV
  have HQ0 := Lib.hid hQ0
  have HV2 := Lib.hid hV2
  have HY := Lib.hid hY
  clear hs hQ1 hV hQ0 hV2 hY hg hr pb hg' hr' pb'
  go_enter Try.func48, Try.ntmps48
  go_wp2_with fail
  refine (Try.bits_LeadingZeros64 (y : Int) _ (by omega) (by omega)).mono ?_
  rintro e w' ⟨rfl, rfl⟩
  rw [Int.toNat_natCast, HS.out]
  go_wp2_with fail
  go_loop [15, 16] (fun a b => ∃ q r : Int, a = .int .u64 q ∧ b = .int .u64 r ∧ Hid (q * A + r = U) ∧ 0 ≤ q ∧ q ≤ 8589934592 ∧ 0 ≤ r ∧ r < 4294967296 ∧ Q1 ≤ q) (fun a _ => (intOf a).toNat)
  case atStart => exact ⟨g, r, rfl, rfl, HG, by omega, by omega, by omega, by omega, by omega⟩
  case round =>
    obtain ⟨q, r, rfl, rfl, HE, c0, c9, d0, d9, hqq⟩ := hrel
    obtain ⟨a', ha'⟩ : ∃ x, IntKind.u64.wrap (q - 1) = x := ⟨_, rfl⟩
    obtain ⟨b', hb'⟩ : ∃ x, IntKind.u64.wrap (r + A) = x := ⟨_, rfl⟩
    have hb2 : b' = r + A := by rw [← hb', IntKind.wrap_u64]; omega
    have HB2 := Lib.hid hb2
    by_cases hbig : 4294967296 ≤ q
    · have f4 : decide (4294967296 ≤ q) = true := by simpa using hbig
      have hgt : Q1 ≤ q - 1 := by omega
      have ha2 : a' = q - 1 := by rw [← ha', IntKind.wrap_u64]; omega
      have HA2 := Lib.hid ha2
      by_cases hrr : 4294967296 ≤ b'
      · have f9 : decide (4294967296 ≤ b') = true := by simpa using hrr
        have hq : a' = Q1 := by
          have : a' ≤ Q1 := by
            rw [← HQ1.out, HY.out]
            exact guess_out hC hC9 (by omega) (by have := HY.out; omega) (by omega) (by omega) (by
              have h1 := HE.out
              have h2 : (q - 1) * A = q * A - A := by rw [Int.sub_mul, Int.one_mul]
              rw [ha2, hb2, h2]
              omega) hrr
          omega
        rw [hq] at ha'
        clear ha2 HA2 hb2 HB2 HE hrr
        go_wp2_with fail
        go_loop [18, 16] (fun a b => ∃ q r : Int, a = .int .u64 q ∧ b = .int .u64 r ∧ Hid (q * A + r = V) ∧ 0 ≤ q ∧ q ≤ 8589934592 ∧ 0 ≤ r ∧ r < 4294967296 ∧ Q0 ≤ q) (fun a _ => (intOf a).toNat)
        case atStart => exact ⟨g', r', rfl, rfl, HG', by omega, by omega, by omega, by omega, by omega⟩
        case round =>
          obtain ⟨q, r, rfl, rfl, HE, c0, c9, d0, d9, hqq⟩ := hrel
          obtain ⟨a', ha'⟩ : ∃ x, IntKind.u64.wrap (q - 1) = x := ⟨_, rfl⟩
          obtain ⟨b', hb'⟩ : ∃ x, IntKind.u64.wrap (r + A) = x := ⟨_, rfl⟩
          have hb2 : b' = r + A := by rw [← hb', IntKind.wrap_u64]; omega
          have HB2 := Lib.hid hb2
          by_cases hbig : 4294967296 ≤ q
          · have f4 : decide (4294967296 ≤ q) = true := by simpa using hbig
            have hgt : Q0 ≤ q - 1 := by omega
            have ha2 : a' = q - 1 := by rw [← ha', IntKind.wrap_u64]; omega
            have HA2 := Lib.hid ha2
            by_cases hrr : 4294967296 ≤ b'
            · have f9 : decide (4294967296 ≤ b') = true := by simpa using hrr
              have hq : a' = Q0 := by
                have : a' ≤ Q0 := by
                  rw [← HQ0.out, HY.out]
                  exact guess_out hC hC9 (by omega) (by have := HY.out; omega) (by omega) (by omega) (by
                    have h1 := HE.out
                    have h2 : (q - 1) * A = q * A - A := by rw [Int.sub_mul, Int.one_mul]
                    rw [ha2, hb2, h2]
                    omega) hrr
                omega
              rw [hq] at ha'
              clear ha2 HA2 hb2 HB2 HE hrr
              go_wp2_with fail
              go_returns
              exact ⟨rfl, rfl⟩
            · have f9 : decide (4294967296 ≤ b') = false := by simpa using hrr
              have HN := Lib.hid (show a' * A + b' = V by
                have h1 := HE.out
                have h2 : (q - 1) * A = q * A - A := by rw [Int.sub_mul, Int.one_mul]
                rw [ha2, hb2, h2]
                omega)
              have y1 : 0 ≤ a' := by omega
              have y2 : a' ≤ 8589934592 := by omega
              have y3 : 0 ≤ b' := by omega
              have y4 : b' < 4294967296 := by omega
              have y5 : Q0 ≤ a' := by omega
              clear ha2 hb2 HE hrr
              go_wp2_with fail
              go_round
              case rel => exact ⟨a', b', rfl, rfl, HN, y1, y2, y3, y4, y5⟩
              case measure =>
                have := HA2.out
                simp [intOf]; omega
          · have f4 : decide (4294967296 ≤ q) = false := by simpa using hbig
            have t0 : 0 ≤ q * C := Int.mul_nonneg c0 hC
            have t9 : q * C ≤ 4294967296 * C := Int.mul_le_mul_of_nonneg_right (by omega) hC
            have f5 : IntKind.u64.wrap (q * C) = q * C := by rw [IntKind.wrap_u64]; omega
            have f6 : IntKind.u64.wrap (4294967296 * r) = 4294967296 * r := by rw [IntKind.wrap_u64]; omega
            have f7 : IntKind.u64.wrap (4294967296 * r + n0) = 4294967296 * r + n0 := by rw [IntKind.wrap_u64]; omega
            by_cases ht : 4294967296 * r + n0 < q * C
            · have f8 : decide (4294967296 * r + n0 < q * C) = true := by simpa using ht
              have hgt : Q0 ≤ q - 1 := by
                rw [← HQ0.out, HY.out]
                exact guess_on (by omega) (by have := HY.out; omega) (by omega) HE.out (.inr ht)
              clear t0 t9 ht
              have ha2 : a' = q - 1 := by rw [← ha', IntKind.wrap_u64]; omega
              have HA2 := Lib.hid ha2
              by_cases hrr : 4294967296 ≤ b'
              · have f9 : decide (4294967296 ≤ b') = true := by simpa using hrr
                have hq : a' = Q0 := by
                  have : a' ≤ Q0 := by
                    rw [← HQ0.out, HY.out]
                    exact guess_out hC hC9 (by omega) (by have := HY.out; omega) (by omega) (by omega) (by
                      have h1 := HE.out
                      have h2 : (q - 1) * A = q * A - A := by rw [Int.sub_mul, Int.one_mul]
                      rw [ha2, hb2, h2]
                      omega) hrr
                  omega
                rw [hq] at ha'
                clear ha2 HA2 hb2 HB2 HE hrr
                go_wp2_with fail
                go_returns
                exact ⟨rfl, rfl⟩
              · have f9 : decide (4294967296 ≤ b') = false := by simpa using hrr
                have HN := Lib.hid (show a' * A + b' = V by
                  have h1 := HE.out
                  have h2 : (q - 1) * A = q * A - A := by rw [Int.sub_mul, Int.one_mul]
                  rw [ha2, hb2, h2]
                  omega)
                have y1 : 0 ≤ a' := by omega
                have y2 : a' ≤ 8589934592 := by omega
                have y3 : 0 ≤ b' := by omega
                have y4 : b' < 4294967296 := by omega
                have y5 : Q0 ≤ a' := by omega
                clear ha2 hb2 HE hrr
                go_wp2_with fail
                go_round
                case rel => exact ⟨a', b', rfl, rfl, HN, y1, y2, y3, y4, y5⟩
                case measure =>
                  have := HA2.out
                  simp [intOf]; omega
            · have f8 : decide (4294967296 * r + n0 < q * C) = false := by simpa using ht
              have hq : q = Q0 := by
                have : q ≤ Q0 := by
                  rw [← HQ0.out, HY.out]
                  exact guess_le (by omega) HE.out (by omega)
                omega
              subst hq
              clear t0 t9 ht HE ha' hb' hb2 HB2
              go_wp2_with fail
              go_returns
              exact ⟨rfl, rfl⟩
      · have f9 : decide (4294967296 ≤ b') = false := by simpa using hrr
        have HN := Lib.hid (show a' * A + b' = U by
          have h1 := HE.out
          have h2 : (q - 1) * A = q * A - A := by rw [Int.sub_mul, Int.one_mul]
          rw [ha2, hb2, h2]
          omega)
        have y1 : 0 ≤ a' := by omega
        have y2 : a' ≤ 8589934592 := by omega
        have y3 : 0 ≤ b' := by omega
        have y4 : b' < 4294967296 := by omega
        have y5 : Q1 ≤ a' := by omega
        clear ha2 hb2 HE hrr
        go_wp2_with fail
        go_round
        case rel => exact ⟨a', b', rfl, rfl, HN, y1, y2, y3, y4, y5⟩
        case measure =>
          have := HA2.out
          simp [intOf]; omega
    · have f4 : decide (4294967296 ≤ q) = false := by simpa using hbig
      have t0 : 0 ≤ q * C := Int.mul_nonneg c0 hC
      have t9 : q * C ≤ 4294967296 * C := Int.mul_le_mul_of_nonneg_right (by omega) hC
      have f5 : IntKind.u64.wrap (q * C) = q * C := by rw [IntKind.wrap_u64]; omega
      have f6 : IntKind.u64.wrap (4294967296 * r) = 4294967296 * r := by rw [IntKind.wrap_u64]; omega
      have f7 : IntKind.u64.wrap (4294967296 * r + n1) = 4294967296 * r + n1 := by rw [IntKind.wrap_u64]; omega
      by_cases ht : 4294967296 * r + n1 < q * C
      · have f8 : decide (4294967296 * r + n1 < q * C) = true := by simpa using ht
        have hgt : Q1 ≤ q - 1 := by
          rw [← HQ1.out, HY.out]
          exact guess_on (by omega) (by have := HY.out; omega) (by omega) HE.out (.inr ht)
        clear t0 t9 ht
        have ha2 : a' = q - 1 := by rw [← ha', IntKind.wrap_u64]; omega
        have HA2 := Lib.hid ha2
        by_cases hrr : 4294967296 ≤ b'
        · have f9 : decide (4294967296 ≤ b') = true := by simpa using hrr
          have hq : a' = Q1 := by
            have : a' ≤ Q1 := by
              rw [← HQ1.out, HY.out]
              exact guess_out hC hC9 (by omega) (by have := HY.out; omega) (by omega) (by omega) (by
                have h1 := HE.out
                have h2 : (q - 1) * A = q * A - A := by rw [Int.sub_mul, Int.one_mul]
                rw [ha2, hb2, h2]
                omega) hrr
            omega
          rw [hq] at ha'
          clear ha2 HA2 hb2 HB2 HE hrr
          go_wp2_with fail
          go_loop [18, 16] (fun a b => ∃ q r : Int, a = .int .u64 q ∧ b = .int .u64 r ∧ Hid (q * A + r = V) ∧ 0 ≤ q ∧ q ≤ 8589934592 ∧ 0 ≤ r ∧ r < 4294967296 ∧ Q0 ≤ q) (fun a _ => (intOf a).toNat)
          case atStart => exact ⟨g', r', rfl, rfl, HG', by omega, by omega, by omega, by omega, by omega⟩
          case round =>
            obtain ⟨q, r, rfl, rfl, HE, c0, c9, d0, d9, hqq⟩ := hrel
            obtain ⟨a', ha'⟩ : ∃ x, IntKind.u64.wrap (q - 1) = x := ⟨_, rfl⟩
            obtain ⟨b', hb'⟩ : ∃ x, IntKind.u64.wrap (r + A) = x := ⟨_, rfl⟩
            have hb2 : b' = r + A := by rw [← hb', IntKind.wrap_u64]; omega
            have HB2 := Lib.hid hb2
            by_cases hbig : 4294967296 ≤ q
            · have f4 : decide (4294967296 ≤ q) = true := by simpa using hbig
              have hgt : Q0 ≤ q - 1 := by omega
              have ha2 : a' = q - 1 := by rw [← ha', IntKind.wrap_u64]; omega
              have HA2 := Lib.hid ha2
              by_cases hrr : 4294967296 ≤ b'
              · have f9 : decide (4294967296 ≤ b') = true := by simpa using hrr
                have hq : a' = Q0 := by
                  have : a' ≤ Q0 := by
                    rw [← HQ0.out, HY.out]
                    exact guess_out hC hC9 (by omega) (by have := HY.out; omega) (by omega) (by omega) (by
                      have h1 := HE.out
                      have h2 : (q - 1) * A = q * A - A := by rw [Int.sub_mul, Int.one_mul]
                      rw [ha2, hb2, h2]
                      omega) hrr
                  omega
                rw [hq] at ha'
                clear ha2 HA2 hb2 HB2 HE hrr
                go_wp2_with fail
                go_returns
                exact ⟨rfl, rfl⟩
              · have f9 : decide (4294967296 ≤ b') = false := by simpa using hrr
                have HN := Lib.hid (show a' * A + b' = V by
                  have h1 := HE.out
                  have h2 : (q - 1) * A = q * A - A := by rw [Int.sub_mul, Int.one_mul]
                  rw [ha2, hb2, h2]
                  omega)
                have y1 : 0 ≤ a' := by omega
                have y2 : a' ≤ 8589934592 := by omega
                have y3 : 0 ≤ b' := by omega
                have y4 : b' < 4294967296 := by omega
                have y5 : Q0 ≤ a' := by omega
                clear ha2 hb2 HE hrr
                go_wp2_with fail
                go_round
                case rel => exact ⟨a', b', rfl, rfl, HN, y1, y2, y3, y4, y5⟩
                case measure =>
                  have := HA2.out
                  simp [intOf]; omega
            · have f4 : decide (4294967296 ≤ q) = false := by simpa using hbig
              have t0 : 0 ≤ q * C := Int.mul_nonneg c0 hC
              have t9 : q * C ≤ 4294967296 * C := Int.mul_le_mul_of_nonneg_right (by omega) hC
              have f5 : IntKind.u64.wrap (q * C) = q * C := by rw [IntKind.wrap_u64]; omega
              have f6 : IntKind.u64.wrap (4294967296 * r) = 4294967296 * r := by rw [IntKind.wrap_u64]; omega
              have f7 : IntKind.u64.wrap (4294967296 * r + n0) = 4294967296 * r + n0 := by rw [IntKind.wrap_u64]; omega
              by_cases ht : 4294967296 * r + n0 < q * C
              · have f8 : decide (4294967296 * r + n0 < q * C) = true := by simpa using ht
                have hgt : Q0 ≤ q - 1 := by
                  rw [← HQ0.out, HY.out]
                  exact guess_on (by omega) (by have := HY.out; omega) (by omega) HE.out (.inr ht)
                clear t0 t9 ht
                have ha2 : a' = q - 1 := by rw [← ha', IntKind.wrap_u64]; omega
                have HA2 := Lib.hid ha2
                by_cases hrr : 4294967296 ≤ b'
                · have f9 : decide (4294967296 ≤ b') = true := by simpa using hrr
                  have hq : a' = Q0 := by
                    have : a' ≤ Q0 := by
                      rw [← HQ0.out, HY.out]
                      exact guess_out hC hC9 (by omega) (by have := HY.out; omega) (by omega) (by omega) (by
                        have h1 := HE.out
                        have h2 : (q - 1) * A = q * A - A := by rw [Int.sub_mul, Int.one_mul]
                        rw [ha2, hb2, h2]
                        omega) hrr
                    omega
                  rw [hq] at ha'
                  clear ha2 HA2 hb2 HB2 HE hrr
                  go_wp2_with fail
                  go_returns
                  exact ⟨rfl, rfl⟩
                · have f9 : decide (4294967296 ≤ b') = false := by simpa using hrr
                  have HN := Lib.hid (show a' * A + b' = V by
                    have h1 := HE.out
                    have h2 : (q - 1) * A = q * A - A := by rw [Int.sub_mul, Int.one_mul]
                    rw [ha2, hb2, h2]
                    omega)
                  have y1 : 0 ≤ a' := by omega
                  have y2 : a' ≤ 8589934592 := by omega
                  have y3 : 0 ≤ b' := by omega
                  have y4 : b' < 4294967296 := by omega
                  have y5 : Q0 ≤ a' := by omega
                  clear ha2 hb2 HE hrr
                  go_wp2_with fail
                  go_round
                  case rel => exact ⟨a', b', rfl, rfl, HN, y1, y2, y3, y4, y5⟩
                  case measure =>
                    have := HA2.out
                    simp [intOf]; omega
              · have f8 : decide (4294967296 * r + n0 < q * C) = false := by simpa using ht
                have hq : q = Q0 := by
                  have : q ≤ Q0 := by
                    rw [← HQ0.out, HY.out]
                    exact guess_le (by omega) HE.out (by omega)
                  omega
                subst hq
                clear t0 t9 ht HE ha' hb' hb2 HB2
                go_wp2_with fail
                go_returns
                exact ⟨rfl, rfl⟩
        · have f9 : decide (4294967296 ≤ b') = false := by simpa using hrr
          have HN := Lib.hid (show a' * A + b' = U by
            have h1 := HE.out
            have h2 : (q - 1) * A = q * A - A := by rw [Int.sub_mul, Int.one_mul]
            rw [ha2, hb2, h2]
            omega)
          have y1 : 0 ≤ a' := by omega
          have y2 : a' ≤ 8589934592 := by omega
          have y3 : 0 ≤ b' := by omega
          have y4 : b' < 4294967296 := by omega
          have y5 : Q1 ≤ a' := by omega
          clear ha2 hb2 HE hrr
          go_wp2_with fail
          go_round
          case rel => exact ⟨a', b', rfl, rfl, HN, y1, y2, y3, y4, y5⟩
          case measure =>
            have := HA2.out
            simp [intOf]; omega
      · have f8 : decide (4294967296 * r + n1 < q * C) = false := by simpa using ht
        have hq : q = Q1 := by
          have : q ≤ Q1 := by
            rw [← HQ1.out, HY.out]
            exact guess_le (by omega) HE.out (by omega)
          omega
        subst hq
        clear t0 t9 ht HE ha' hb' hb2 HB2
        go_wp2_with fail
        go_loop [18, 16] (fun a b => ∃ q r : Int, a = .int .u64 q ∧ b = .int .u64 r ∧ Hid (q * A + r = V) ∧ 0 ≤ q ∧ q ≤ 8589934592 ∧ 0 ≤ r ∧ r < 4294967296 ∧ Q0 ≤ q) (fun a _ => (intOf a).toNat)
        case atStart => exact ⟨g', r', rfl, rfl, HG', by omega, by omega, by omega, by omega, by omega⟩
        case round =>
          obtain ⟨q, r, rfl, rfl, HE, c0, c9, d0, d9, hqq⟩ := hrel
          obtain ⟨a', ha'⟩ : ∃ x, IntKind.u64.wrap (q - 1) = x := ⟨_, rfl⟩
          obtain ⟨b', hb'⟩ : ∃ x, IntKind.u64.wrap (r + A) = x := ⟨_, rfl⟩
          have hb2 : b' = r + A := by rw [← hb', IntKind.wrap_u64]; omega
          have HB2 := Lib.hid hb2
          by_cases hbig : 4294967296 ≤ q
          · have f4 : decide (4294967296 ≤ q) = true := by simpa using hbig
            have hgt : Q0 ≤ q - 1 := by omega
            have ha2 : a' = q - 1 := by rw [← ha', IntKind.wrap_u64]; omega
            have HA2 := Lib.hid ha2
            by_cases hrr : 4294967296 ≤ b'
            · have f9 : decide (4294967296 ≤ b') = true := by simpa using hrr
              have hq : a' = Q0 := by
                have : a' ≤ Q0 := by
                  rw [← HQ0.out, HY.out]
                  exact guess_out hC hC9 (by omega) (by have := HY.out; omega) (by omega) (by omega) (by
                    have h1 := HE.out
                    have h2 : (q - 1) * A = q * A - A := by rw [Int.sub_mul, Int.one_mul]
                    rw [ha2, hb2, h2]
                    omega) hrr
                omega
              rw [hq] at ha'
              clear ha2 HA2 hb2 HB2 HE hrr
              go_wp2_with fail
              go_returns
              exact ⟨rfl, rfl⟩
            · have f9 : decide (4294967296 ≤ b') = false := by simpa using hrr
              have HN := Lib.hid (show a' * A + b' = V by
                have h1 := HE.out
                have h2 : (q - 1) * A = q * A - A := by rw [Int.sub_mul, Int.one_mul]
                rw [ha2, hb2, h2]
                omega)
              have y1 : 0 ≤ a' := by omega
              have y2 : a' ≤ 8589934592 := by omega
              have y3 : 0 ≤ b' := by omega
              have y4 : b' < 4294967296 := by omega
              have y5 : Q0 ≤ a' := by omega
              clear ha2 hb2 HE hrr
              go_wp2_with fail
              go_round
              case rel => exact ⟨a', b', rfl, rfl, HN, y1, y2, y3, y4, y5⟩
              case measure =>
                have := HA2.out
                simp [intOf]; omega
          · have f4 : decide (4294967296 ≤ q) = false := by simpa using hbig
            have t0 : 0 ≤ q * C := Int.mul_nonneg c0 hC
            have t9 : q * C ≤ 4294967296 * C := Int.mul_le_mul_of_nonneg_right (by omega) hC
            have f5 : IntKind.u64.wrap (q * C) = q * C := by rw [IntKind.wrap_u64]; omega
            have f6 : IntKind.u64.wrap (4294967296 * r) = 4294967296 * r := by rw [IntKind.wrap_u64]; omega
            have f7 : IntKind.u64.wrap (4294967296 * r + n0) = 4294967296 * r + n0 := by rw [IntKind.wrap_u64]; omega
            by_cases ht : 4294967296 * r + n0 < q * C
            · have f8 : decide (4294967296 * r + n0 < q * C) = true := by simpa using ht
              have hgt : Q0 ≤ q - 1 := by
                rw [← HQ0.out, HY.out]
                exact guess_on (by omega) (by have := HY.out; omega) (by omega) HE.out (.inr ht)
              clear t0 t9 ht
              have ha2 : a' = q - 1 := by rw [← ha', IntKind.wrap_u64]; omega
              have HA2 := Lib.hid ha2
              by_cases hrr : 4294967296 ≤ b'
              · have f9 : decide (4294967296 ≤ b') = true := by simpa using hrr
                have hq : a' = Q0 := by
                  have : a' ≤ Q0 := by
                    rw [← HQ0.out, HY.out]
                    exact guess_out hC hC9 (by omega) (by have := HY.out; omega) (by omega) (by omega) (by
                      have h1 := HE.out
                      have h2 : (q - 1) * A = q * A - A := by rw [Int.sub_mul, Int.one_mul]
                      rw [ha2, hb2, h2]
                      omega) hrr
                  omega
                rw [hq] at ha'
                clear ha2 HA2 hb2 HB2 HE hrr
                go_wp2_with fail
                go_returns
                exact ⟨rfl, rfl⟩
              · have f9 : decide (4294967296 ≤ b') = false := by simpa using hrr
                have HN := Lib.hid (show a' * A + b' = V by
                  have h1 := HE.out
                  have h2 : (q - 1) * A = q * A - A := by rw [Int.sub_mul, Int.one_mul]
                  rw [ha2, hb2, h2]
                  omega)
                have y1 : 0 ≤ a' := by omega
                have y2 : a' ≤ 8589934592 := by omega
                have y3 : 0 ≤ b' := by omega
                have y4 : b' < 4294967296 := by omega
                have y5 : Q0 ≤ a' := by omega
                clear ha2 hb2 HE hrr
                go_wp2_with fail
                go_round
                case rel => exact ⟨a', b', rfl, rfl, HN, y1, y2, y3, y4, y5⟩
                case measure =>
                  have := HA2.out
                  simp [intOf]; omega
            · have f8 : decide (4294967296 * r + n0 < q * C) = false := by simpa using ht
              have hq : q = Q0 := by
                have : q ≤ Q0 := by
                  rw [← HQ0.out, HY.out]
                  exact guess_le (by omega) HE.out (by omega)
                omega
              subst hq
              clear t0 t9 ht HE ha' hb' hb2 HB2
              go_wp2_with fail
              go_returns
              exact ⟨rfl, rfl⟩
end Go.Proofs.Ytpgodmcpdgbhaaa.divD
