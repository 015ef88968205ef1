/- Layer 24: the health of a level. -/
import Derived.Test.YtiagepmfajpbpaaDivF
import Derived.Test.YtiagepmfajpbpaaKeep
import Derived.Test.YtiagepmfajpbpaaIsRow
namespace Go.Proofs.Ytiagepmfajpbpaa.loadA
open Go.ChangeShapes Go.WideShapes Go.ChangeAt Go.RowKit
open Go.Proofs.Ytiagepmfajpbpaa.base Go.Proofs.Ytiagepmfajpbpaa.divF
set_option linter.unusedVariables false

theorem heldU_any (n a b : Int) (w : World) :
    Calls Try.prog 87 #[.int .u64 n, .int .u64 a, .int .u64 b] w fun e w' => e = .returned (.int .u64 (min (max n a) b)) ∧ w = w' := by
  go_enter Try.func87, Try.ntmps87
  go_wp2
  go_ret
  exact ⟨rfl, rfl⟩
theorem heldI_any (n a b : Int) (w : World) :
    Calls Try.prog 49 #[.int .i64 n, .int .i64 a, .int .i64 b] w fun e w' => e = .returned (.int .i64 (min (max n a) b)) ∧ w = w' := by
  go_enter Try.func49, Try.ntmps49
  go_wp2
  go_ret
  exact ⟨rfl, rfl⟩
/-- a level's health -/
def healthZ (h a f : Int) : Int := if h < 1 ∨ a < 1 ∨ f < 1 then 0 else min (f * 100 * h / a) 10000
theorem healthZ_in (h a f : Int) : 0 ≤ healthZ h a f ∧ healthZ h a f ≤ 10000 := by
  unfold healthZ
  split
  · omega
  · have : 0 ≤ f * 100 * h / a := Int.ediv_nonneg (Int.mul_nonneg (by omega) (by omega)) (by omega)
    omega
theorem prod_in {h f : Int} (h1 : 1 ≤ h) (h2 : h ≤ 1048576) (f1 : 1 ≤ f) (f2 : f ≤ 1048576) : 0 ≤ f * 100 * h ∧ f * 100 * h ≤ 109951162777600 := by
  have a := Int.mul_le_mul (a := f * 100) (c := 104857600) (b := h) (d := 1048576) (by omega) h2 (by omega) (by omega)
  have b : 0 ≤ f * 100 * h := Int.mul_nonneg (by omega) (by omega)
  omega
theorem health_any (h a f : Int) (h2 : h ≤ 1048576) (a2 : a ≤ 1048576) (f2 : f ≤ 1048576) (w : World) :
    Calls Try.prog 48 #[.int .i64 h, .int .i64 a, .int .i64 f] w fun e w' => e = .returned (.int .i64 (healthZ h a f)) ∧ Below w.heap.size w w' := by
  by_cases hh : h < 1
  · have hv : healthZ h a f = 0 := by simp [healthZ, hh]
    rw [hv]; clear hv
    go_enter Try.func48, Try.ntmps48
    go_wp2
    go_ret
    exact ⟨rfl, Below.refl _ _⟩
  by_cases ha : a < 1
  · have hv : healthZ h a f = 0 := by simp [healthZ, ha]
    rw [hv]; clear hv
    go_enter Try.func48, Try.ntmps48
    go_wp2
    go_ret
    exact ⟨rfl, Below.refl _ _⟩
  by_cases hf : f < 1
  · have hv : healthZ h a f = 0 := by simp [healthZ, hf]
    rw [hv]; clear hv
    go_enter Try.func48, Try.ntmps48
    go_wp2
    go_ret
    exact ⟨rfl, Below.refl _ _⟩
  have hv : healthZ h a f = min (f * 100 * h / a) 10000 := by simp only [healthZ]; rw [if_neg (by omega)]
  have hp := prod_in (by omega : 1 ≤ h) h2 (by omega : 1 ≤ f) f2
  have hq : 0 ≤ f * 100 * h / a := Int.ediv_nonneg hp.1 (by omega)
  have hq2 : f * 100 * h / a ≤ f * 100 * h := Int.ediv_le_self _ hp.1
  have hS := share_ok (f * 100) h a (by omega) (by omega) (by omega) (by omega) (by rw [Int.ediv_eq_zero_of_lt hp.1 (by omega)]; omega) (by omega)
  have HS := Lib.hid hS
  have HV := Lib.hid hv
  clear hv hS
  generalize hg : f * 100 * h / a = q at *
  have HG := Lib.hid hg
  have hp' : q ≤ 109951162777600 := by omega
  clear hg hp hq2
  go_enter Try.func48, Try.ntmps48
  go_wp2_with fail
  refine (HS.out _).mono ?_
  rintro e w1 ⟨rfl, hb⟩
  go_wp2_with fail
  refine (heldU_any _ _ _ _).mono ?_
  rintro e w' ⟨rfl, rfl⟩
  have hm : min (max q 0) 10000 = min q 10000 := by omega
  rw [hm]
  go_wp2_with fail
  go_ret
  exact ⟨by rw [HV.out]; first | rfl | (congr 2; omega), hb⟩

theorem lawhealth_any (h a f : Int) (h2 : h ≤ 1048576) (a2 : a ≤ 1048576) (f2 : f ≤ 1048576) (w : World) :
    Calls Try.prog 14 #[.int .i64 h, .int .i64 a, .int .i64 f] w fun e w' => e = .returned (.int .i64 (healthZ h a f)) ∧ w = w' := by
  by_cases hh : h < 1
  · have hv : healthZ h a f = 0 := by simp [healthZ, hh]
    rw [hv]; clear hv
    go_enter Try.func14, Try.ntmps14
    go_wp2
    go_ret
    exact ⟨rfl, rfl⟩
  by_cases ha : a < 1
  · have hv : healthZ h a f = 0 := by simp [healthZ, ha]
    rw [hv]; clear hv
    go_enter Try.func14, Try.ntmps14
    go_wp2
    go_ret
    exact ⟨rfl, rfl⟩
  by_cases hf : f < 1
  · have hv : healthZ h a f = 0 := by simp [healthZ, hf]
    rw [hv]; clear hv
    go_enter Try.func14, Try.ntmps14
    go_wp2
    go_ret
    exact ⟨rfl, rfl⟩
  have hv : healthZ h a f = min (f * 100 * h / a) 10000 := by simp only [healthZ]; rw [if_neg (by omega)]
  have hp := prod_in (by omega : 1 ≤ h) h2 (by omega : 1 ≤ f) f2
  by_cases hfull : a ≤ h ∧ 100 ≤ f
  · have hv2 : healthZ h a f = 10000 := by
      rw [hv]
      have : (10000 : Int) ≤ f * 100 * h / a := by
        apply Int.le_ediv_of_mul_le (by omega)
        have e1 : (10000 : Int) * a ≤ 10000 * h := by omega
        have e2 : (10000 : Int) * h ≤ f * 100 * h := Int.mul_le_mul_of_nonneg_right (by omega) (by omega)
        omega
      omega
    rw [hv2]
    clear hv hv2 hp
    obtain ⟨g1, g2⟩ := hfull
    go_enter Try.func14, Try.ntmps14
    go_wp2
    go_ret
    exact ⟨rfl, rfl⟩
  have HV := Lib.hid hv
  have hmul : ∀ k : Int, k * a ≤ f * 100 * h ↔ k ≤ f * 100 * h / a := fun k => (Int.le_ediv_iff_mul_le (by omega)).symm
  have HM := Lib.hid hmul
  have hq : 0 ≤ f * 100 * h / a := Int.ediv_nonneg hp.1 (by omega)
  clear hmul hv
  generalize hg : f * 100 * h = P at *
  have a1 : 1 ≤ a := by omega
  have g3 : h < a ∨ (a ≤ h ∧ f < 100) := by omega
  clear hfull
  rcases g3 with g1 | ⟨g1, g2⟩
  all_goals
    go_enter Try.func14, Try.ntmps14
    go_wp2_with fail
    go_loop [7] (fun n => ∃ k : Nat, (k : Int) ≤ 10000 ∧ (k : Int) ≤ P / a ∧ n = .int .i64 k) (fun n => 10000 - (intOf n).toNat)
    case atStart => exact ⟨0, by omega, by omega, rfl⟩
    case round =>
      obtain ⟨k, hk, hka, rfl⟩ := hrel
      by_cases hlt : (k : Int) < 10000
      · have hQ0 : 0 ≤ ((k : Int) + 1) * a := Int.mul_nonneg (by omega) (by omega)
        have hQ1 : ((k : Int) + 1) * a ≤ 10000 * 1048576 := Int.mul_le_mul (by omega) a2 (by omega) (by omega)
        have hm := HM.out ((k : Int) + 1)
        generalize hQ : ((k : Int) + 1) * a = Q at *
        by_cases hle : Q ≤ P
        · have hk2 := hm.1 hle
          have HK := Lib.hid hk2
          clear hm hk2 hka hq
          go_wp2_with fail
          go_round
          case rel => exact ⟨k + 1, by omega, by have := HK.out; omega, by go_num⟩
          case measure => simp [intOf]; omega
        · have hk2 : ¬ ((k : Int) + 1 ≤ P / a) := fun h => hle (hm.2 h)
          have hv : min (P / a) 10000 = (k : Int) := by omega
          have HK := Lib.hid hv
          clear hm hk2 hka hq hv
          go_wp2_with fail
          go_ret
          exact ⟨by rw [HV.out, HK.out]; rfl, rfl⟩
      · have hv : min (P / a) 10000 = (k : Int) := by omega
        have HK := Lib.hid hv
        clear hka hq hv
        go_wp2_with fail
        go_ret
        exact ⟨by rw [HV.out, HK.out]; rfl, rfl⟩
end Go.Proofs.Ytiagepmfajpbpaa.loadA
