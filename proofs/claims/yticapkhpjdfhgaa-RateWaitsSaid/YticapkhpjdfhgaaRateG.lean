/- Layer 37: the law on waiting. -/
import Derived.Test.YticapkhpjdfhgaaRateE
import Derived.Test.YticapkhpjdfhgaaQuiet
namespace Go.Proofs.Yticapkhpjdfhgaa.rateG
open Go.ChangeShapes Go.WideShapes Go.ChangeAt Go.RowKit
open Go.Proofs.Yticapkhpjdfhgaa.base Go.Proofs.Yticapkhpjdfhgaa.rateA Go.Proofs.Yticapkhpjdfhgaa.rateB Go.Proofs.Yticapkhpjdfhgaa.rateC Go.Proofs.Yticapkhpjdfhgaa.rateD Go.Proofs.Yticapkhpjdfhgaa.rateE
set_option linter.unusedVariables false

/-- what a time to wait is: n units are there then, and not one unit ahead -/
theorem wait_never {E M H N n : Int} (E0 : 0 ≤ E) (n0 : 0 ≤ n) (nM : n ≤ M) (H0 : 0 ≤ H) (HM : H ≤ M) (N0 : 0 ≤ N) (N1 : N ≤ 1099511627776) (h : waitZ E M H N n < 0) : H < n ∧ fillZ E M H (1099511627776 - N) < n := by
  unfold waitZ at h
  split at h
  · omega
  · split at h
    · omega
    · rename_i h1 h2
      have hHn : H < n := by omega
      split at h
      · rename_i h3
        have hE : E = 0 := by omega
        refine ⟨hHn, ?_⟩
        unfold fillZ
        rw [hE, Int.zero_mul]
        split <;> omega
      · rename_i h3
        split at h
        · rename_i h4
          refine ⟨hHn, ?_⟩
          have hE : 0 < E := by omega
          have hle : 1099511627776 - N + 1 ≤ (n - H + E - 1) / E := by omega
          have hmul := (Int.le_ediv_iff_mul_le hE).1 hle
          rw [Int.add_mul, Int.one_mul, Int.mul_comm] at hmul
          unfold fillZ
          split <;> omega
        · exfalso
          have : 0 ≤ (n - H + E - 1) / E := Int.ediv_nonneg (by omega) (by omega)
          omega
theorem wait_when {E M H N n : Int} (E0 : 0 ≤ E) (n0 : 0 ≤ n) (nM : n ≤ M) (H0 : 0 ≤ H) (HM : H ≤ M) (N0 : 0 ≤ N) (N1 : N ≤ 1099511627776) (h : 0 ≤ waitZ E M H N n) :
    N ≤ waitZ E M H N n ∧ waitZ E M H N n ≤ 1099511627776 ∧ (N = waitZ E M H N n → n ≤ H) ∧ (N < waitZ E M H N n → fillZ E M H (waitZ E M H N n - 1 - N) < n ∧ n ≤ fillZ E M (fillZ E M H (waitZ E M H N n - 1 - N)) 1 ∧ 0 ≤ fillZ E M H (waitZ E M H N n - 1 - N)) := by
  unfold waitZ at h ⊢
  rw [if_neg (by omega)] at h ⊢
  by_cases h1 : n ≤ H
  · rw [if_pos h1] at h ⊢
    exact ⟨by omega, N1, fun _ => h1, fun h => absurd h (by omega)⟩
  · rw [if_neg h1] at h ⊢
    by_cases h2 : M < n ∨ E < 1
    · rw [if_pos h2] at h; omega
    · rw [if_neg h2] at h ⊢
      by_cases h3 : 1099511627776 - N < (n - H + E - 1) / E
      · rw [if_pos h3] at h; omega
      · rw [if_neg h3] at h ⊢
        have hE : 0 < E := by omega
        obtain ⟨q, hq⟩ : ∃ q, q = (n - H + E - 1) / E := ⟨_, rfl⟩
        rw [← hq] at h3 ⊢
        have l1 : q * E ≤ n - H + E - 1 := (Int.le_ediv_iff_mul_le hE).1 (by omega)
        have l2 : n - H + E - 1 < (q + 1) * E := by
          have := Int.lt_ediv_add_one_mul_self (n - H + E - 1) hE
          rw [← hq] at this; exact this
        have q1 : 1 ≤ q := by
          rw [hq]; exact (Int.le_ediv_iff_mul_le hE).2 (by omega)
        rw [Int.add_mul, Int.one_mul] at l2
        have e : N + q - 1 - N = q - 1 := by omega
        rw [e]
        have l3 : E * (q - 1) = q * E - E := by rw [Int.mul_sub, Int.mul_one, Int.mul_comm]
        refine ⟨by omega, by omega, fun h => by omega, fun _ => ?_⟩
        have f1 : fillZ E M H (q - 1) = H + E * (q - 1) := by unfold fillZ; rw [if_neg (by omega)]
        have l4 : 0 ≤ E * (q - 1) := Int.mul_nonneg E0 (by omega)
        rw [f1]
        refine ⟨by omega, ?_, by omega⟩
        unfold fillZ
        rw [Int.mul_one]
        split <;> omega
theorem waits_no (E M : Int) (A : Option Addr) (m c : Nat) (n : Int) (w : World) (hr : rightB E M = false) :
    Calls Try.prog 8 #[.agg #[.int .i64 E, .int .i64 M], .slice A m c, .int .i64 n] w fun e w' => e = .returned (.bool true) ∧ Below w.heap.size w w' := by
  have hn := Lib.hid (fun w => new_no E M w hr)
  clear hr
  go_enter Try.func8, Try.ntmps8
  go_wp2_with fail
  refine (hn.out _).mono ?_
  rintro e w1 ⟨rfl, hb⟩
  have HB := Lib.hid hb
  clear hb
  go_wp2_with fail
  refine (awake_any _).mono ?_
  rintro e w2 ⟨rfl, hb2⟩
  go_wp2_with fail
  go_ret
  exact ⟨rfl, bel_call (bel_call ((Below.refl _ _).alloc (Nat.le_refl _) _) HB.out) hb2⟩

set_option maxHeartbeats 4000000 in
theorem waits_yes (E M : Int) (A : Option Addr) (m c : Nat) (n : Int) (xs : List (Int × Int)) (w : World) (hr : rightB E M = true) (hl : xs.length = m) (hx : ok64 xs) (hrow : RowP w w.heap.size A xs) (hc : m ≤ 9223372036854775807) (n0 : -9223372036854775808 ≤ n) (n1 : n < 9223372036854775808) :
    Calls Try.prog 8 #[.agg #[.int .i64 E, .int .i64 M], .slice A m c, .int .i64 n] w fun e w' => e = .returned (.bool true) ∧ Below w.heap.size w w' := by
  have hrr : 0 ≤ E ∧ E ≤ 1099511627776 ∧ 1 ≤ M ∧ M ≤ 1099511627776 := by simpa [rightB] using hr
  obtain ⟨E0, E1, M0, M1⟩ := hrr
  have hn := Lib.hid (fun w => new_yes E M w hr)
  have HN := Lib.hid hl
  have HX := Lib.hid hx
  have HR := Lib.hid hrow
  clear hr hl hx hrow
  go_enter Try.func8, Try.ntmps8
  go_wp2_with fail
  refine (hn.out _).mono ?_
  rintro e w1 ⟨g, rfl, hg, hb, hbel⟩
  have hbx := (Blk.new w 33 #[.int .i64 E, .int .i64 M]).below hbel (by simp)
  have r0 := hbx.cell 0
  have r1 := hbx.cell 1
  simp only [List.getElem?_toArray, List.getElem?_cons_zero, List.getElem?_cons_succ] at r0 r1
  have hg1 : w.heap.size + 1 ≤ g := by simpa using hg
  have hsz : w.heap.size + 1 ≤ w1.heap.size := by have := hbel.size; simpa using this
  have hbel1 : Below w.heap.size w w1 := bel_call ((Below.refl _ _).alloc (Nat.le_refl _) _) hbel
  have hgl := hb.lt
  have HB := Lib.hid hb
  have HBe := Lib.hid hbel1
  have HRX := Lib.hid hbx
  have hrow1 := HR.out.below hbel1
  have HR1 := Lib.hid hrow1
  clear hbel hb hbx hbel1 hrow1 HR
  go_wp2_with fail
  clear r0 r1
  have hlr : w.heap.size < w.heap.size + 1 := by omega
  have hgp : g ≠ w1.heap.size := by omega
  have hpl : Pl (w1.alloc (.cells #[.int .i64 E, .int .i64 M, .int .i64 M, .int .i64 0] 44)) w1.heap.size E M M 0 := Blk.new w1 _ _
  have HPL := Lib.hid hpl
  clear hpl
  go_loopw [10] (fun i wr => ∃ (k : Nat) (H T : Int), k ≤ 60 ∧ k ≤ m ∧ i = .int .i64 k ∧ Bk wr g E M H T ∧ Pl wr w1.heap.size E M H T ∧ inv M (H, T) ∧ Below (w.heap.size + 1) w1 wr) (fun i _ => 60 - (intOf i).toNat)
  case atStart => exact ⟨0, M, 0, by omega, by omega, rfl, Blk.alloc HB.out _, HPL.out, ⟨by dsimp only; omega, by dsimp only; omega, by dsimp only; omega, by dsimp only; omega⟩, (Below.refl _ _).alloc hsz _⟩
  case round =>
    obtain ⟨k, H, T, hk, hkn, rfl, hb, hpl, hinv, hbel⟩ := hrel
    have HBk := Lib.hid hb
    have HPk := Lib.hid hpl
    have HBl := Lib.hid hbel
    have HIN := Lib.hid hinv
    have hgl2 := hb.lt
    have hs2 := hbel.size
    have hws : w.heap.size + 1 ≤ wr.heap.size := by omega
    have hfin : Below w.heap.size w wr := HBe.out.trans (hbel.mono (by omega))
    have HFin := Lib.hid hfin
    by_cases hgo : k < m ∧ k < 60
    · obtain ⟨hlt, h60⟩ := hgo
      have hkl : k < xs.length := by rw [HN.out]; exact hlt
      obtain ⟨b, off, rfl, hbl, hcc⟩ := HR1.out.at_ (by omega)
      obtain ⟨c0, c1⟩ := hcc k hkl
      have c0 := (hbel.cell (p := ⟨b, off + k * 2, none⟩) (by dsimp only; omega)).trans c0
      have c1 := (hbel.cell (p := ⟨b, off + k * 2 + 1, none⟩) (by dsimp only; omega)).trans c1
      have hxk := HX.out k hkl
      clear hcc hb hpl hbel hfin hinv
      generalize xs.getD k (0, 0) = o at *
      obtain ⟨K, u⟩ := o
      simp only at c0 c1 hxk
      obtain ⟨x0, x1⟩ := hxk
      go_wp2_with fail
      refine (step_any (w.heap.size + 1) g w1.heap.size E M H T K u _ hws hg1 hsz hgp HBk.out HPk.out E0 E1 M1 HIN.out x0 x1).mono ?_
      rintro e w2 ⟨rfl, hb2, hp2, hl2⟩
      have hinv2 := stp_inv (o := (K, u)) E0 HIN.out
      have HB2 := Lib.hid hb2
      have HP2 := Lib.hid hp2
      have HL2 := Lib.hid (HBl.out.trans hl2)
      have HI2 := Lib.hid hinv2
      clear hb2 hp2 hl2 hinv2
      go_wp2_with fail
      go_roundw
      case rel => exact ⟨k + 1, _, _, by omega, by omega, by go_num, HB2.out, HP2.out, HI2.out, HL2.out⟩
      case measure => simp [intOf]; omega
    · have hend : m ≤ k ∨ (k < m ∧ 60 ≤ k) := by omega
      clear hgo
      obtain ⟨H0, HM, T0, T1⟩ := hinv
      simp only at H0 HM T0 T1
      have hrx2 := HRX.out.below hbel hlr
      have r1 := hrx2.cell 1
      have p3 := hpl.c3
      simp only [List.getElem?_toArray, List.getElem?_cons_zero, List.getElem?_cons_succ] at r1
      have hwt := Lib.hid (fun w hb => wait_any g E M H T n w hb E0 E1 M1 HIN.out)
      clear hrx2 hb hpl hbel hfin
      by_cases hno : n < 0 ∨ M < n
      · have hv : waitZ E M H T n = -1 := by
          unfold waitZ
          rcases hno with h | h
          · rw [if_pos h]
          · rw [if_neg (by omega), if_neg (by omega), if_pos (.inl h)]
        have HV := Lib.hid hv
        have hno2 : n < 0 ∨ (0 ≤ n ∧ M < n) := by omega
        clear hno hv
        rcases hend with g1 | ⟨g0, g1⟩
        all_goals
          rcases hno2 with f1 | ⟨f0, f1⟩
          all_goals
            go_wp2_with fail
            refine (hwt.out _ HBk.out).mono ?_
            rintro e w2 ⟨rfl, hb2⟩
            rw [HV.out]
            have r1' := kept r1 hb2
            have HL2 := Lib.hid hb2
            clear hb2
            go_wp2_with fail
            refine (awake_any _).mono ?_
            rintro e w3 ⟨rfl, hb3⟩
            go_wp2_with fail
            go_ret
            exact ⟨rfl, bel_call (bel_call HFin.out HL2.out) hb3⟩
      · have f0 : 0 ≤ n := by omega
        have f1 : n ≤ M := by omega
        clear hno
        rcases Int.lt_or_le (waitZ E M H T n) 0 with hneg | hpos
        · obtain ⟨v1, v2⟩ := wait_never E0 f0 f1 H0 HM T0 T1 hneg
          have hgo := Lib.hid (fun (w : World) (hb : Bk w g E M H T) => go_ok g E M H T 1099511627776 w hb E0 E1 M1 H0 HM T0 T1 (by omega))
          generalize waitZ E M H T n = t at *
          rcases hend with g1 | ⟨g0, g1⟩
          all_goals
            go_wp2_with fail
            refine (hwt.out _ HBk.out).mono ?_
            rintro e w2 ⟨rfl, hb2⟩
            have r1' := kept r1 hb2
            have bk2 : Bk w2 g E M H T := Blk.below HBk.out hb2 hgl2
            have hl2 := bel_call HFin.out hb2
            have BK2 := Lib.hid bk2
            have HL2 := Lib.hid hl2
            clear hb2 bk2 hl2
            go_wp2_with fail
            refine (have_any g E M H T _ BK2.out).mono ?_
            rintro e w' ⟨rfl, rfl⟩
            go_wp2_with fail
            refine (hgo.out _ BK2.out).mono ?_
            rintro e w3 ⟨rfl, hb3, hg3⟩
            have hl3 := below_pt HL2.out hg3 HL2.out.size (by omega)
            have BK3 := Lib.hid hb3
            have HL3 := Lib.hid hl3
            clear hb3 hg3 hl3
            generalize fillZ E M H (1099511627776 - T) = H' at *
            go_wp2_with fail
            refine (have_any g E M H' _ _ BK3.out).mono ?_
            rintro e w' ⟨rfl, rfl⟩
            have q1 : decide (H' < n) = true := by simpa using v2
            go_wp2_with fail
            refine (awake_any _).mono ?_
            rintro e w4 ⟨rfl, hb4⟩
            go_wp2_with fail
            go_ret
            exact ⟨rfl, bel_call HL3.out hb4⟩
        · obtain ⟨v1, v2, v3, v4⟩ := wait_when E0 f0 f1 H0 HM T0 T1 hpos
          obtain ⟨t, ht⟩ : ∃ t, t = waitZ E M H T n := ⟨_, rfl⟩
          rw [← ht] at v1 v2 v3 v4 hpos hwt
          clear ht
          rcases Int.lt_or_le T t with hlt | hle
          · obtain ⟨v5, v6, v7⟩ := v4 hlt
            have hgo := Lib.hid (fun (w : World) (hb : Bk w g E M H T) => go_ok g E M H T (t - 1) w hb E0 E1 M1 H0 HM T0 (by omega) (by omega))
            have hfa := fill_in (M := M) (d := t - 1 - T) E0 H0 HM (by omega)
            clear v3 v4
            generalize hfl : fillZ E M H (t - 1 - T) = H' at *
            have HFL := Lib.hid hfl
            clear hfl
            have hgo2 := Lib.hid (fun (w : World) (hb : Bk w g E M H' (t - 1)) => go_ok g E M H' (t - 1) t w hb E0 E1 M1 v7 hfa.2 (by omega) (by omega) v2)
            have htk := Lib.hid (fun (w : World) (hb : Bk w g E M H' (t - 1)) => take_no g E M H' (t - 1) n w hb (.inr v5))
            have hfb := fill_in (M := M) (d := 1) E0 v7 hfa.2 (by omega)
            rw [← show t - (t - 1) = 1 by omega] at v6 hfb
            have HV6 := Lib.hid v6
            have hH2 : fillZ E M H' (t - (t - 1)) < 9223372036854775808 := by omega
            have HH2 := Lib.hid hH2
            clear v6 hfa hfb hH2
            rcases hend with g1 | ⟨g0, g1⟩
            all_goals
              go_wp2_with fail
              refine (hwt.out _ HBk.out).mono ?_
              rintro e w2 ⟨rfl, hb2⟩
              have r1' := kept r1 hb2
              have p3' := kept p3 hb2
              have bk2 : Bk w2 g E M H T := Blk.below HBk.out hb2 hgl2
              have pk2 : Pl w2 w1.heap.size E M H T := Blk.below HPk.out hb2 HPk.out.lt
              have hl2 := bel_call HFin.out hb2
              have BK2 := Lib.hid bk2
              have PK2 := Lib.hid pk2
              have HL2 := Lib.hid hl2
              clear hb2 bk2 hl2 pk2
              go_wp2_with fail
              refine (hgo.out _ BK2.out).mono ?_
              rintro e w3 ⟨rfl, hb3, hg3⟩
              rw [HFL.out] at hb3
              have pk3 : Pl w3 w1.heap.size E M H T := Blk.grown PK2.out hg3 (by simp; omega)
              have hl3 := below_pt HL2.out hg3 HL2.out.size (by omega)
              have p3'' := pk3.c3
              have BK3 := Lib.hid hb3
              have HL3 := Lib.hid hl3
              clear hb3 hg3 hl3 pk3
              go_wp2_with fail
              refine (htk.out _ BK3.out).mono ?_
              rintro e w' ⟨rfl, rfl⟩
              go_wp2_with fail
              refine (hgo2.out _ BK3.out).mono ?_
              rintro e w4 ⟨rfl, hb4, hg4⟩
              have hl4 := below_pt HL3.out hg4 HL3.out.size (by omega)
              have BK4 := Lib.hid hb4
              have HL4 := Lib.hid hl4
              clear hb4 hg4 hl4
              by_cases hz : n = 0
              · have z1 : (n == 0) = true := by simp [hz]
                clear hz
                go_wp2_with fail
                refine (awake_any _).mono ?_
                rintro e w5 ⟨rfl, hb5⟩
                go_wp2_with fail
                go_ret
                exact ⟨rfl, bel_call HL4.out hb5⟩
              · have z1 : (n == 0) = false := by simp [hz]
                clear hz
                go_wp2_with fail
                refine (take_yes g E M _ _ n _ BK4.out f0 HV6.out HH2.out).mono ?_
                rintro e w' ⟨rfl, rfl⟩
                have hl5 := HL4.out.setCell (p := ⟨g, 2, none⟩) (by dsimp only; omega) (.int .i64 (fillZ E M H' (t - (t - 1)) - n))
                have HL5 := Lib.hid hl5
                clear hl5
                go_wp2_with fail
                refine (awake_any _).mono ?_
                rintro e w5 ⟨rfl, hb5⟩
                go_wp2_with fail
                go_ret
                exact ⟨rfl, bel_call HL5.out hb5⟩
          · obtain rfl : T = t := by omega
            have hnH := v3 rfl
            have hgo := Lib.hid (fun (w : World) (hb : Bk w g E M H T) => go_ok g E M H T T w hb E0 E1 M1 H0 HM T0 (by omega) v2)
            have hf0 : fillZ E M H (T - T) = H := by
              have : E * (T - T) = 0 := by rw [Int.sub_self, Int.mul_zero]
              unfold fillZ; rw [this, if_neg (by omega), Int.add_zero]
            have HF0 := Lib.hid hf0
            clear v3 v4 hf0
            rcases hend with g1 | ⟨g0, g1⟩
            all_goals
              go_wp2_with fail
              refine (hwt.out _ HBk.out).mono ?_
              rintro e w2 ⟨rfl, hb2⟩
              have r1' := kept r1 hb2
              have p3' := kept p3 hb2
              have bk2 : Bk w2 g E M H T := Blk.below HBk.out hb2 hgl2
              have hl2 := bel_call HFin.out hb2
              have BK2 := Lib.hid bk2
              have HL2 := Lib.hid hl2
              clear hb2 bk2 hl2
              go_wp2_with fail
              refine (hgo.out _ BK2.out).mono ?_
              rintro e w4 ⟨rfl, hb4, hg4⟩
              rw [HF0.out] at hb4
              have hl4 := below_pt HL2.out hg4 HL2.out.size (by omega)
              have BK4 := Lib.hid hb4
              have HL4 := Lib.hid hl4
              clear hb4 hg4 hl4
              by_cases hz : n = 0
              · have z1 : (n == 0) = true := by simp [hz]
                clear hz
                go_wp2_with fail
                refine (awake_any _).mono ?_
                rintro e w5 ⟨rfl, hb5⟩
                go_wp2_with fail
                go_ret
                exact ⟨rfl, bel_call HL4.out hb5⟩
              · have z1 : (n == 0) = false := by simp [hz]
                clear hz
                go_wp2_with fail
                refine (take_yes g E M _ _ n _ BK4.out f0 hnH (by omega)).mono ?_
                rintro e w' ⟨rfl, rfl⟩
                have hl5 := HL4.out.setCell (p := ⟨g, 2, none⟩) (by dsimp only; omega) (.int .i64 (H - n))
                have HL5 := Lib.hid hl5
                clear hl5
                go_wp2_with fail
                refine (awake_any _).mono ?_
                rintro e w5 ⟨rfl, hb5⟩
                go_wp2_with fail
                go_ret
                exact ⟨rfl, bel_call HL5.out hb5⟩
end Go.Proofs.Yticapkhpjdfhgaa.rateG
