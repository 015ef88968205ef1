/- Layer 3: the document's own logarithm. -/
import Derived.Test.YtanijccpbleekaaLogC
namespace Go.Proofs.Ytanijccpbleekaa.logD
open Go.ChangeShapes Go.WideShapes Go.ChangeAt Go.RowKit
open Go.Proofs.Ytanijccpbleekaa.base Go.Proofs.Ytanijccpbleekaa.logA Go.Proofs.Ytanijccpbleekaa.logB Go.Proofs.Ytanijccpbleekaa.logC
set_option linter.unusedVariables false

/-- The least power of 2 that k halvings leave. -/
theorem log2_test {n k : Nat} (h0 : 0 < n) : 0 < n / 2 ^ k ↔ k ≤ n.log2 := by
  rw [Nat.div_pos_iff]
  constructor
  · rintro ⟨_, h⟩
    exact (Nat.le_log2 (by omega)).2 h
  · intro h
    exact ⟨Nat.two_pow_pos _, (Nat.le_log2 (by omega)).1 h⟩
theorem norm_down {n : Nat} (h : 31 ≤ n.log2) (h2 : n.log2 ≤ 63) : n / 2 ^ (n.log2 - 31) = norm n := by
  unfold norm
  have e : (4294967296 : Nat) = 2 ^ (n.log2 - 31) * 2 ^ (63 - n.log2) := by rw [← Nat.pow_add, show n.log2 - 31 + (63 - n.log2) = 32 by omega]
  rw [e, Nat.mul_div_mul_right _ _ (Nat.two_pow_pos _)]
theorem norm_up {n : Nat} (h : n.log2 ≤ 31) : n * 2 ^ (31 - n.log2) = norm n := by
  unfold norm
  have e : 2 ^ (63 - n.log2) = 2 ^ (31 - n.log2) * 4294967296 := by
    rw [show (4294967296 : Nat) = 2 ^ 32 by decide, ← Nat.pow_add, show 31 - n.log2 + 32 = 63 - n.log2 by omega]
  rw [e, ← Nat.mul_assoc, Nat.mul_div_cancel _ (by omega)]
theorem div_step (n k : Nat) : n / 2 ^ k / 2 = n / 2 ^ (k + 1) := by rw [Nat.div_div_eq_div_mul, Nat.pow_succ]
theorem mul_step (n k : Nat) : n * 2 ^ k * 2 = n * 2 ^ (k + 1) := by rw [Nat.mul_assoc, Nat.pow_succ]

theorem reflog2_any (n : Nat) (h1 : n < 18446744073709551616) (w : World) :
    Calls Try.prog 20 #[.int .u64 n] w fun e w' => e = .returned (.int .u64 (logZ n)) ∧ w = w' := by
  rcases Nat.eq_zero_or_pos n with rfl | h0
  · go_enter Try.func20, Try.ntmps20
    go_wp2
    go_ret
    exact ⟨rfl, rfl⟩
  · have hn0 : (((n : Int)) == 0) = false := by simp; omega
    have hL := log2_lt h1
    have hk := norm_ok h0 h1
    have hx : okx (norm n : Nat) := ⟨by omega, by omega⟩
    have hz : logZ n = (iter 24 ((norm n : Nat), (n.log2 : Nat))).2 := by unfold logZ; rw [if_neg (by omega)]
    have htest := fun k => log2_test (n := n) (k := k) h0
    have hdn := fun h => norm_down (n := n) h hL
    have hup := fun h => norm_up (n := n) h
    have hk1 := hk.2.1
    generalize hnn : norm n = x0 at *
    generalize hLL : n.log2 = L at *
    have HX := Lib.hid hx
    have HZ := Lib.hid hz
    have HT := Lib.hid htest
    have HD := Lib.hid hdn
    have HU := Lib.hid hup
    clear hx hz htest hdn hup hnn hLL hk
    go_enter Try.func20, Try.ntmps20
    go_wp2_with fail
    go_loop [3, 4] (fun s i => ∃ k m : Nat, 1 ≤ k ∧ k ≤ 64 ∧ i = .int .u64 k ∧ s = .int .u64 m ∧ Hid (m = min (k - 1) L)) (fun _ i => 64 - (intOf i).toNat)
    case atStart => exact ⟨1, 0, by omega, by omega, rfl, rfl, by show 0 = min (1 - 1) L; omega⟩
    case round =>
      obtain ⟨k, m, hk0, hk, rfl, rfl, HM⟩ := hrel
      by_cases hlt : k < 64
      · by_cases hkl : k ≤ L
        · have hd : decide ((0 : Int) < (n : Int) / 2 ^ k) = true := by
            have := (HT.out k).2 hkl
            rw [decide_eq_true_iff]
            have e : (n : Int) / 2 ^ k = ((n / 2 ^ k : Nat) : Int) := by rw [Int.natCast_ediv, Int.natCast_pow]; rfl
            rw [e]; omega
          go_wp2_with fail
          go_round
          case rel => exact ⟨k + 1, k, by omega, by omega, by go_num, rfl, by show k = min (k + 1 - 1) L; omega⟩
          case measure => simp [intOf]; omega
        · have hd : decide ((0 : Int) < (n : Int) / 2 ^ k) = false := by
            have h3 := (HT.out k)
            have e : (n : Int) / 2 ^ k = ((n / 2 ^ k : Nat) : Int) := by rw [Int.natCast_ediv, Int.natCast_pow]; rfl
            rw [decide_eq_false_iff_not, e]
            intro h4
            exact hkl (h3.1 (by omega))
          go_wp2_with fail
          go_round
          case rel => exact ⟨k + 1, m, by omega, by omega, by go_num, rfl, by have := HM.out; show m = min (k + 1 - 1) L; omega⟩
          case measure => simp [intOf]; omega
      · obtain rfl : L = m := by have := HM.out; omega
        clear HM
        by_cases hL31 : 31 ≤ L
        · go_wp2_with fail
          go_loop [5, 6] (fun x i => ∃ j : Nat, j ≤ L - 31 ∧ i = .int .u64 ((L - j : Nat) : Int) ∧ x = .int .u64 ((n / 2 ^ j : Nat) : Int)) (fun _ i => (intOf i).toNat)
          case atStart => exact ⟨0, by omega, rfl, by simp⟩
          case round =>
            obtain ⟨j, hj, rfl, rfl⟩ := hrel
            by_cases hj2 : j < L - 31
            · have hds := div_step n j
              have HDS := Lib.hid hds
              have hdl : n / 2 ^ j ≤ n := Nat.div_le_self _ _
              clear hds
              generalize n / 2 ^ j = y at *
              go_wp2_with fail
              go_round
              case rel => exact ⟨j + 1, by omega, by congr 1; omega, by rw [← HDS.out]; go_num⟩
              case measure => simp [intOf]; omega
            · have e0 : n / 2 ^ j = x0 := by
                have : j = L - 31 := by omega
                rw [this]; exact HD.out hL31
              have e1 : L - j = 31 := by omega
              rw [e0, e1]
              clear e0 e1
              go_wp2_with fail
              go_loop [5, 7] (fun x i => x = .int .u64 (x0 : Nat) ∧ i = .int .u64 (L : Nat)) (fun _ _ => 0)
              case atStart => exact ⟨rfl, rfl⟩
              case round =>
                obtain ⟨rfl, rfl⟩ := hrel
                go_wp2_with fail
                go_loop [5, 8, 9] (fun x o i => ∃ k : Nat, k ≤ 24 ∧ i = .int .i64 k ∧ x = .int .u64 (iter k ((x0 : Nat), (L : Nat))).1 ∧ o = .int .u64 (iter k ((x0 : Nat), (L : Nat))).2) (fun _ _ i => 24 - (intOf i).toNat)
                case atStart => exact ⟨0, by omega, rfl, rfl, rfl⟩
                case round =>
                  obtain ⟨k, hk, rfl, rfl, rfl⟩ := hrel
                  by_cases hlt : k < 24
                  · have hok := iter_ok (p := ((x0 : Nat), (L : Nat))) HX.out k
                    have hbd := iter_bd (p := ((x0 : Nat), (L : Nat))) (by dsimp only; omega) (by dsimp only; omega) k
                    have h24 : (2 : Int) ^ k ≤ 2 ^ 23 := by
                      have := Nat.pow_le_pow_right (n := 2) (by omega) (show k ≤ 23 by omega)
                      exact_mod_cast this
                    have e23 : (2 : Int) ^ 23 = 8388608 := by decide
                    have ob : (iter k ((x0 : Nat), (L : Nat))).2 < 536870912 := by omega
                    have o0 := hbd.1
                    have hsq := sq_bd hok
                    have hst : iter (k + 1) ((x0 : Nat), (L : Nat)) = stp (iter k ((x0 : Nat), (L : Nat))) := rfl
                    have HST := Lib.hid hst
                    clear hbd h24 e23 hst hok
                    generalize iter k ((x0 : Nat), (L : Nat)) = p at *
                    obtain ⟨x, o⟩ := p
                    dsimp only at *
                    have hw : IntKind.u64.wrap (x * x) = x * x := by rw [IntKind.wrap_u64]; omega
                    have hst : stp (x, o) = if 4294967296 ≤ x * x / 2147483648 then (x * x / 2147483648 / 2, 2 * o + 1) else (x * x / 2147483648, 2 * o) := rfl
                    have HS2 := Lib.hid hst
                    clear hst
                    generalize hxy : x * x = y at *
                    by_cases hb : 4294967296 ≤ y / 2147483648
                    · have HS3 := Lib.hid (HS2.out.trans (if_pos hb))
                      go_wp2_with fail
                      go_round
                      case rel => exact ⟨k + 1, by omega, by go_num, by rw [HST.out, HS3.out], by rw [HST.out, HS3.out]⟩
                      case measure => simp [intOf]; omega
                    · have HS3 := Lib.hid (HS2.out.trans (if_neg hb))
                      go_wp2_with fail
                      go_round
                      case rel => exact ⟨k + 1, by omega, by go_num, by rw [HST.out, HS3.out], by rw [HST.out, HS3.out]⟩
                      case measure => simp [intOf]; omega
                  · obtain rfl : k = 24 := by omega
                    go_wp2
                    go_ret
                    exact ⟨by rw [HZ.out]; rfl, rfl⟩
        · go_wp2_with fail
          go_loop [5, 6] (fun x i => x = .int .u64 (n : Nat) ∧ i = .int .u64 (L : Nat)) (fun _ _ => 0)
          case atStart => exact ⟨rfl, rfl⟩
          case round =>
            obtain ⟨rfl, rfl⟩ := hrel
            go_wp2_with fail
            go_loop [5, 7] (fun x i => ∃ j : Nat, j ≤ 31 - L ∧ i = .int .u64 ((L + j : Nat) : Int) ∧ x = .int .u64 ((n * 2 ^ j : Nat) : Int)) (fun _ i => 31 - (intOf i).toNat)
            case atStart => exact ⟨0, by omega, rfl, by simp⟩
            case round =>
              obtain ⟨j, hj, rfl, rfl⟩ := hrel
              by_cases hj2 : j < 31 - L
              · have hms := mul_step n j
                have HMS := Lib.hid hms
                have hbd : n * 2 ^ (j + 1) ≤ x0 := by
                  rw [← HU.out (by omega)]
                  exact Nat.mul_le_mul_left _ (Nat.pow_le_pow_right (by omega) (by omega))
                rw [← hms] at hbd
                clear hms
                generalize n * 2 ^ j = y at *
                go_wp2_with fail
                go_round
                case rel => exact ⟨j + 1, by omega, by go_num, by rw [← HMS.out]; go_num⟩
                case measure => simp [intOf]; omega
              · have e0 : n * 2 ^ j = x0 := by
                  have : j = 31 - L := by omega
                  rw [this]; exact HU.out (by omega)
                have e1 : L + j = 31 := by omega
                rw [e0, e1]
                clear e0 e1
                go_wp2_with fail
                go_loop [5, 8, 9] (fun x o i => ∃ k : Nat, k ≤ 24 ∧ i = .int .i64 k ∧ x = .int .u64 (iter k ((x0 : Nat), (L : Nat))).1 ∧ o = .int .u64 (iter k ((x0 : Nat), (L : Nat))).2) (fun _ _ i => 24 - (intOf i).toNat)
                case atStart => exact ⟨0, by omega, rfl, rfl, rfl⟩
                case round =>
                  obtain ⟨k, hk, rfl, rfl, rfl⟩ := hrel
                  by_cases hlt : k < 24
                  · have hok := iter_ok (p := ((x0 : Nat), (L : Nat))) HX.out k
                    have hbd := iter_bd (p := ((x0 : Nat), (L : Nat))) (by dsimp only; omega) (by dsimp only; omega) k
                    have h24 : (2 : Int) ^ k ≤ 2 ^ 23 := by
                      have := Nat.pow_le_pow_right (n := 2) (by omega) (show k ≤ 23 by omega)
                      exact_mod_cast this
                    have e23 : (2 : Int) ^ 23 = 8388608 := by decide
                    have ob : (iter k ((x0 : Nat), (L : Nat))).2 < 536870912 := by omega
                    have o0 := hbd.1
                    have hsq := sq_bd hok
                    have hst : iter (k + 1) ((x0 : Nat), (L : Nat)) = stp (iter k ((x0 : Nat), (L : Nat))) := rfl
                    have HST := Lib.hid hst
                    clear hbd h24 e23 hst hok
                    generalize iter k ((x0 : Nat), (L : Nat)) = p at *
                    obtain ⟨x, o⟩ := p
                    dsimp only at *
                    have hw : IntKind.u64.wrap (x * x) = x * x := by rw [IntKind.wrap_u64]; omega
                    have hst : stp (x, o) = if 4294967296 ≤ x * x / 2147483648 then (x * x / 2147483648 / 2, 2 * o + 1) else (x * x / 2147483648, 2 * o) := rfl
                    have HS2 := Lib.hid hst
                    clear hst
                    generalize hxy : x * x = y at *
                    by_cases hb : 4294967296 ≤ y / 2147483648
                    · have HS3 := Lib.hid (HS2.out.trans (if_pos hb))
                      go_wp2_with fail
                      go_round
                      case rel => exact ⟨k + 1, by omega, by go_num, by rw [HST.out, HS3.out], by rw [HST.out, HS3.out]⟩
                      case measure => simp [intOf]; omega
                    · have HS3 := Lib.hid (HS2.out.trans (if_neg hb))
                      go_wp2_with fail
                      go_round
                      case rel => exact ⟨k + 1, by omega, by go_num, by rw [HST.out, HS3.out], by rw [HST.out, HS3.out]⟩
                      case measure => simp [intOf]; omega
                  · obtain rfl : k = 24 := by omega
                    go_wp2
                    go_ret
                    exact ⟨by rw [HZ.out]; rfl, rfl⟩

end Go.Proofs.Ytanijccpbleekaa.logD
