/- Layer 7: the number at a place. -/
import Derived.Test.YtndekicblbpkjaaOctB
namespace Go.Proofs.Ytndekicblbpkjaa.octC
open Go.ChangeShapes Go.WideShapes Go.ChangeAt Go.RowKit
open Go.Proofs.Ytndekicblbpkjaa.base Go.Proofs.Ytndekicblbpkjaa.octA Go.Proofs.Ytndekicblbpkjaa.octB
set_option linter.unusedVariables false

def zr (j : Nat) : Int := 0
theorem atN_none (l : List Int) (f : Nat) (h : l.length ≤ f) (k : Nat) : atN l f k = 0 := by
  induction k with
  | zero => rfl
  | succ k ih => rw [atN, ih, List.getD_eq_getElem?_getD, List.getElem?_eq_none (by omega)]; rfl
set_option maxRecDepth 100000 in
set_option maxHeartbeats 400000 in
theorem at_any (A : Option Addr) (n c : Nat) (l : List Int) (f s : Int) (w : World) (hl : l.length = n) (hn : n ≤ 1000000) (hc : n ≤ c) (hcm : c ≤ 9223372036854775807) (hz : A = none → c = 0) (hr : Row w w.heap.size A (l.map (.int .u8))) (hb : ∀ x ∈ l, 0 ≤ x ∧ x ≤ 255) (f1 : f < 9223372036854775808) :
    Calls Try.prog 39 #[.slice A n c, .int .i64 f, .int .i64 s] w fun e w' => e = .returned (.int .u64 (atZ l f s)) ∧ w = w' := by
  by_cases hf : f < 0
  · have hv : atZ l f s = 0 := by simp [atZ, hf]
    rw [hv]; clear hv hr hz hb
    go_enter Try.func39, Try.ntmps39
    go_wp2
    go_ret
    exact ⟨rfl, rfl⟩
  obtain ⟨q, rfl⟩ := Int.eq_ofNat_of_zero_le (by omega : 0 ≤ f)
  have hv : atZ l (q : Int) s = atN l q (hs s) := by unfold atZ; rw [if_neg (by omega), Int.toNat_natCast]
  rw [hv]
  have HH := Lib.hid (fun w => held_any s w)
  have hk8 := hs_le s
  have HB := Lib.hid hb
  have HN := Lib.hid hl
  have HR := Lib.hid hr
  clear hv hb hl hr hf f1
  generalize hs s = k at *
  by_cases hq : q < n
  · have hql : q < l.length := by rw [HN.out]; exact hq
    obtain ⟨b, off, rfl, hbl, hcc⟩ := slice_from HR.out q hql
    have HC := Lib.hid hcc
    have e1 : min q n = q := by omega
    have hqc : ¬ c = q := by omega
    clear hcc hz
    go_enter Try.func39, Try.ntmps39
    go_wp2_with fail
    refine (HH.out _).mono ?_
    rintro e w' ⟨rfl, rfl⟩
    go_wp2_with fail
    go_loop [8, 20] (fun x i => ∃ j : Nat, j ≤ k ∧ i = .int .i64 j ∧ x = .int .u64 (atN l q j)) (fun _ i => k - (intOf i).toNat)
    case atStart => exact ⟨0, by omega, rfl, rfl⟩
    case round =>
      obtain ⟨j, hj, rfl, rfl⟩ := hrel
      by_cases hlt : j < k
      · have hin := atN_in l q HB.out j
        have hp := pow256 j (by omega)
        have hst : atN l q (j + 1) = atN l q j * 256 + l.getD (q + j) 0 := rfl
        have hg := getD_in l HB.out (q + j)
        obtain ⟨z, hz⟩ := Int.eq_ofNat_of_zero_le hin.1
        have hz2 : (z : Int) * 256 + 255 < 18446744073709551616 := by rw [← hz]; omega
        rw [hz] at hst ⊢
        clear hin hp hz
        by_cases hin2 : q + j < n
        · have hcell := HC.out (q + j) (by rw [HN.out]; exact hin2)
          obtain ⟨y, hy⟩ := Int.eq_ofNat_of_zero_le hg.1
          rw [hy] at hst hcell hg
          have hor := or_add z y (by omega) (by omega)
          have e3 : IntKind.u64.wrap ((z : Int) * 256) = (z : Int) * 256 := by rw [IntKind.wrap_u64]; omega
          have e4 : IntKind.u64.wrap (y : Int) = (y : Int) := by rw [IntKind.wrap_u64]; omega
          have HST := Lib.hid hst
          have hlen : (j : Int) < ((n - q : Nat) : Int) := by omega
          have hlen2 : j < n - q := by omega
          have e5 : off + q + j = off + (q + j) := by omega
          clear hst hy
          go_wp2_with fail
          go_round
          case rel => exact ⟨j + 1, by omega, by go_num, by rw [HST.out]⟩
          case measure => simp [intOf]; omega
        · have hg0 : l.getD (q + j) 0 = 0 := by rw [List.getD_eq_getElem?_getD, List.getElem?_eq_none (by rw [HN.out]; omega)]; rfl
          rw [hg0, Int.add_zero] at hst
          have e3 : IntKind.u64.wrap ((z : Int) * 256) = (z : Int) * 256 := by rw [IntKind.wrap_u64]; omega
          have HST := Lib.hid hst
          have hlen : ¬ (j < n - q) := by omega
          have hlen2 : decide (j < n - q) = false := by simp; omega
          clear hst hg hg0
          go_wp2_with fail
          go_round
          case rel => exact ⟨j + 1, by omega, by go_num, by rw [HST.out]⟩
          case measure => simp [intOf]; omega
      · obtain rfl : j = k := by omega
        go_wp2_with fail
        go_ret
        exact ⟨rfl, rfl⟩
  · have hq0 := atN_none l q (by rw [HN.out]; omega) k
    rw [hq0]
    have hnone : A = none → n = 0 ∧ c = 0 := fun h => by have := hz h; omega
    clear hq0 HR hz HB
    have loop0 : IntKind.u64.wrap 0 = 0 := by decide
    have hqn : n = q ∨ n < q := by omega
    clear hq
    rcases hqn with hqn | hqn
    all_goals
      (try have e1 : min q n = n := by omega)
      (try subst hqn)
      cases A with
      | none =>
        obtain ⟨rfl, rfl⟩ := hnone rfl
        clear hnone HN
        go_enter Try.func39, Try.ntmps39
        go_wp2_with fail
        refine (HH.out _).mono ?_
        rintro e w' ⟨rfl, rfl⟩
        go_wp2_with fail
        go_loop [8, 20] (fun y i => ∃ j : Nat, j ≤ k ∧ i = .int .i64 j ∧ y = .int .u64 (zr j)) (fun _ i => k - (intOf i).toNat)
        case atStart => exact ⟨0, by omega, rfl, rfl⟩
        case round =>
          obtain ⟨j, hj, rfl, rfl⟩ := hrel
          rw [show zr j = 0 from rfl]
          by_cases hlt : j < k
          · go_wp2_with fail
            go_round
            case rel => exact ⟨j + 1, by omega, by go_num, rfl⟩
            case measure => simp [intOf]; omega
          · go_wp2_with fail
            go_ret
            exact ⟨rfl, rfl⟩
      | some x =>
        have hcn : c = n ∨ ¬ c = n := by omega
        clear hnone HN
        rcases hcn with rfl | hcn
        all_goals
          go_enter Try.func39, Try.ntmps39
          go_wp2_with fail
          refine (HH.out _).mono ?_
          rintro e w' ⟨rfl, rfl⟩
          go_wp2_with fail
          go_loop [8, 20] (fun y i => ∃ j : Nat, j ≤ k ∧ i = .int .i64 j ∧ y = .int .u64 (zr j)) (fun _ i => k - (intOf i).toNat)
          case atStart => exact ⟨0, by omega, rfl, rfl⟩
          case round =>
            obtain ⟨j, hj, rfl, rfl⟩ := hrel
            rw [show zr j = 0 from rfl]
            by_cases hlt : j < k
            · go_wp2_with fail
              go_round
              case rel => exact ⟨j + 1, by omega, by go_num, rfl⟩
              case measure => simp [intOf]; omega
            · go_wp2_with fail
              go_ret
              exact ⟨rfl, rfl⟩
end Go.Proofs.Ytndekicblbpkjaa.octC
