/- Layer 37: the law on bounds. -/
import Derived.Test.YticapkhpjdfhgaaRateE
import Derived.Test.YticapkhpjdfhgaaQuiet
namespace Go.Proofs.Yticapkhpjdfhgaa.rateF
open Go.ChangeShapes Go.WideShapes Go.ChangeAt Go.RowKit
open Go.Proofs.Yticapkhpjdfhgaa.base Go.Proofs.Yticapkhpjdfhgaa.rateA Go.Proofs.Yticapkhpjdfhgaa.rateB Go.Proofs.Yticapkhpjdfhgaa.rateC Go.Proofs.Yticapkhpjdfhgaa.rateD Go.Proofs.Yticapkhpjdfhgaa.rateE
set_option linter.unusedVariables false

theorem bounds_no (E M : Int) (A : Option Addr) (n c : Nat) (w : World) (hr : rightB E M = false) :
    Calls Try.prog 9 #[.agg #[.int .i64 E, .int .i64 M], .slice A n c] w fun e w' => e = .returned (.bool true) ∧ Below w.heap.size w w' := by
  have hn := Lib.hid (fun w => new_no E M w hr)
  clear hr
  go_enter Try.func9, Try.ntmps9
  go_wp2_with fail
  refine (hn.out _).mono ?_
  rintro e w1 ⟨rfl, hb⟩
  have HB := Lib.hid hb
  clear hb
  go_wp2_with fail
  refine (awake_any _).mono ?_
  rintro e w2 ⟨rfl, hb2⟩
  go_wp2_with fail
  go_ret
  exact ⟨rfl, bel_call (bel_call ((Below.refl _ _).alloc (Nat.le_refl _) _) HB.out) hb2⟩

set_option maxHeartbeats 4000000 in
theorem bounds_yes (E M : Int) (A : Option Addr) (n c : Nat) (xs : List (Int × Int)) (w : World) (hr : rightB E M = true) (hl : xs.length = n) (hx : ok64 xs) (hrow : RowP w w.heap.size A xs) (hc : n ≤ 9223372036854775807) :
    Calls Try.prog 9 #[.agg #[.int .i64 E, .int .i64 M], .slice A n c] w fun e w' => e = .returned (.bool true) ∧ Below w.heap.size w w' := by
  have hrr : 0 ≤ E ∧ E ≤ 1099511627776 ∧ 1 ≤ M ∧ M ≤ 1099511627776 := by simpa [rightB] using hr
  obtain ⟨E0, E1, M0, M1⟩ := hrr
  have hn := Lib.hid (fun w => new_yes E M w hr)
  have HN := Lib.hid hl
  have HX := Lib.hid hx
  have HR := Lib.hid hrow
  clear hr hl hx hrow
  by_cases hbig : 1048576 < E ∨ 1048576 < M
  · have hbig2 : 1048576 < E ∨ (E ≤ 1048576 ∧ 1048576 < M) := by omega
    clear hbig
    rcases hbig2 with g1 | ⟨g1, g2⟩
    all_goals
      go_enter Try.func9, Try.ntmps9
      go_wp2_with fail
      refine (hn.out _).mono ?_
      rintro e w1 ⟨g, rfl, hg, hb, hbel⟩
      have hbx := (Blk.new w 33 #[.int .i64 E, .int .i64 M]).below hbel (by simp)
      have r0 := hbx.cell 0
      have r1 := hbx.cell 1
      simp only [List.getElem?_toArray, List.getElem?_cons_zero, List.getElem?_cons_succ] at r0 r1
      have HB := Lib.hid hbel
      clear hbel hb hbx
      go_wp2_with fail
      refine (awake_any _).mono ?_
      rintro e w2 ⟨rfl, hb2⟩
      go_wp2_with fail
      go_ret
      exact ⟨rfl, bel_call (bel_call ((Below.refl _ _).alloc (Nat.le_refl _) _) HB.out) hb2⟩
  have E2 : E ≤ 1048576 := by omega
  have M2 : M ≤ 1048576 := by omega
  clear hbig
  go_enter Try.func9, Try.ntmps9
  go_wp2_with fail
  refine (hn.out _).mono ?_
  rintro e w1 ⟨g, rfl, hg, hb, hbel⟩
  have hbx := (Blk.new w 33 #[.int .i64 E, .int .i64 M]).below hbel (by simp)
  have r0 := hbx.cell 0
  have r1 := hbx.cell 1
  simp only [List.getElem?_toArray, List.getElem?_cons_zero, List.getElem?_cons_succ] at r0 r1
  have hg1 : w.heap.size + 1 ≤ g := by simpa using hg
  have hsz : w.heap.size + 1 ≤ w1.heap.size := by have := hbel.size; simpa using this
  have hbel1 : Below w.heap.size w w1 := bel_call ((Below.refl _ _).alloc (Nat.le_refl _) _) hbel
  have HB := Lib.hid hb
  have HBe := Lib.hid hbel1
  have HRX := Lib.hid hbx
  have hrow1 := HR.out.below hbel1
  have HR1 := Lib.hid hrow1
  clear hbel hb hbx hbel1 hrow1 HR
  go_wp2_with fail
  clear r0 r1
  have hlr : w.heap.size < w.heap.size + 1 := by omega
  go_loopw [7, 8] (fun s i wr => ∃ (k : Nat) (H T S : Int), k ≤ 60 ∧ k ≤ n ∧ i = .int .i64 k ∧ s = .int .i64 S ∧ Bk wr g E M H T ∧ inv M (H, T) ∧ 0 ≤ S ∧ H + S ≤ M + E * T ∧ Below (w.heap.size + 1) w1 wr) (fun _ i _ => 60 - (intOf i).toNat)
  case atStart => exact ⟨0, M, 0, 0, by omega, by omega, rfl, rfl, HB.out, ⟨by dsimp only; omega, by dsimp only; omega, by dsimp only; omega, by dsimp only; omega⟩, by omega, by omega, Below.refl _ _⟩
  case round =>
    obtain ⟨k, H, T, S, hk, hkn, rfl, rfl, hb, ⟨H0, HM, T0, T1⟩, hS0, hS, hbel⟩ := hrel
    simp only at H0 HM T0 T1
    have HBk := Lib.hid hb
    have HBl := Lib.hid hbel
    have hgl := hb.lt
    have hs2 := hbel.size
    have hws : w.heap.size + 1 ≤ wr.heap.size := by omega
    have hfin : Below w.heap.size w wr := HBe.out.trans (hbel.mono (by omega))
    have HFin := Lib.hid hfin
    by_cases hlt : k < n
    · by_cases h60 : k < 60
      · have hkl : k < xs.length := by rw [HN.out]; exact hlt
        obtain ⟨b, off, rfl, hbl, hcc⟩ := HR1.out.at_ (by omega)
        obtain ⟨c0, c1⟩ := hcc k hkl
        have c0 := (hbel.cell (p := ⟨b, off + k * 2, none⟩) (by dsimp only; omega)).trans c0
        have c1 := (hbel.cell (p := ⟨b, off + k * 2 + 1, none⟩) (by dsimp only; omega)).trans c1
        have hxk := HX.out k hkl
        have hP0 : 0 ≤ E * T := Int.mul_nonneg E0 T0
        have hP1 : E * T ≤ 1048576 * 1099511627776 := Int.mul_le_mul E2 T1 T0 (by omega)
        clear hcc hb hbel hfin
        generalize xs.getD k (0, 0) = o at *
        obtain ⟨K, m⟩ := o
        simp only at c0 c1 hxk
        obtain ⟨x0, x1⟩ := hxk
        have hbx := Blk.new wr 47 #[.int .i64 K, .int .i64 m]
        have hb1 : Bk (wr.alloc (.cells #[.int .i64 K, .int .i64 m] 47)) g E M H T := Blk.alloc HBk.out _
        have hbel1 : Below (w.heap.size + 1) w1 (wr.alloc (.cells #[.int .i64 K, .int .i64 m] 47)) := HBl.out.alloc hws _
        have o0 := hbx.cell 0
        have o1 := hbx.cell 1
        simp only [List.getElem?_toArray, List.getElem?_cons_zero, List.getElem?_cons_succ] at o0 o1
        have HO := Lib.hid hbx
        have HB1 := Lib.hid hb1
        have HL1 := Lib.hid hbel1
        have hne : wr.heap.size ≠ g := by omega
        clear hbx hb1 hbel1
        by_cases hK : K = 2
        · have t2 : (K != 2) = false := by simp [hK]
          clear hK
          by_cases hm : m ≤ 1099511627776
          · by_cases hmt : m < T
            · have hgo := Lib.hid (fun (w : World) (hb : Bk w g E M H T) => go_bad g E M H T m w hb (.inl hmt))
              go_wp2_with fail
              generalize wr.alloc (.cells #[.int .i64 K, .int .i64 m] 47) = w2 at *
              go_wp2_with fail
              refine (hgo.out _ HB1.out).mono ?_
              rintro e w' ⟨rfl, rfl⟩
              have r0 : w2.cell? ⟨w.heap.size, 0, none⟩ = some (.int .i64 E) := (HRX.out.below HL1.out hlr).cell 0
              have r1 : w2.cell? ⟨w.heap.size, 1, none⟩ = some (.int .i64 M) := (HRX.out.below HL1.out hlr).cell 1
              have hP0 : 0 ≤ E * T := Int.mul_nonneg E0 (by omega)
              have hP1 : E * T ≤ 1048576 * 1099511627776 := Int.mul_le_mul E2 (by omega) (by omega) (by omega)
              have hS : H + S ≤ M + E * T := hS
              have HSS := Lib.hid hS
              have m1 : IntKind.i64.wrap (E * T) = E * T := IntWalk.i64_in _ (by omega)
              have m2 : IntKind.i64.wrap (M + E * T) = M + E * T := IntWalk.i64_in _ (by omega)
              have m3 : decide (M + E * T < S) = false := by simp; omega
              clear hS hP0 hP1
              go_wp2_with fail
              go_quiet ((go_at_call 30; refine Go.Proofs.Yticapkhpjdfhgaa.base.quiet_left (now_any g E M H T _ (Blk.drewN HB1.out _))))
              clear m1 m2
              go_wp2_with fail
              go_roundw
              case rel => exact ⟨k + 1, H, T, S, by omega, by omega, by go_num, rfl, Blk.drewN HB1.out _, by refine ⟨?_, ?_, ?_, ?_⟩ <;> dsimp only <;> omega, by omega, HSS.out, below_drewN HL1.out _⟩
              case measure => simp [intOf]; omega
            · have hgo := Lib.hid (fun (w : World) (hb : Bk w g E M H T) => go_ok g E M H T m w hb E0 E1 M1 H0 HM T0 (by omega) hm)
              have hfi := fill_in (M := M) (d := m - T) E0 H0 HM (by omega)
              have hf2 : fillZ E M H (m - T) ≤ H + E * (m - T) := by
                have := Int.mul_nonneg E0 (by omega : 0 ≤ m - T)
                unfold fillZ; split <;> omega
              have hf3 : E * (m - T) = E * m - E * T := Int.mul_sub E m T
              have hS2 : fillZ E M H (m - T) + S ≤ M + E * m := by omega
              obtain ⟨hfa, hfb⟩ := hfi
              clear hf2 hf3
              go_wp2_with fail
              generalize wr.alloc (.cells #[.int .i64 K, .int .i64 m] 47) = w2 at *
              go_wp2_with fail
              refine (hgo.out _ HB1.out).mono ?_
              rintro e w3 ⟨rfl, hb3, hg3⟩
              have hl3 := below_pt HL1.out hg3 (by have := HL1.out.size; omega) hg1
              have HB3 := Lib.hid hb3
              have HL3 := Lib.hid hl3
              clear hb3 hl3 hg3
              generalize fillZ E M H (m - T) = H' at *
              have r0 : w3.cell? ⟨w.heap.size, 0, none⟩ = some (.int .i64 E) := (HRX.out.below HL3.out hlr).cell 0
              have r1 : w3.cell? ⟨w.heap.size, 1, none⟩ = some (.int .i64 M) := (HRX.out.below HL3.out hlr).cell 1
              have hP0 : 0 ≤ E * m := Int.mul_nonneg E0 (by omega)
              have hP1 : E * m ≤ 1048576 * 1099511627776 := Int.mul_le_mul E2 (by omega) (by omega) (by omega)
              have hS : H' + S ≤ M + E * m := hS2
              have HSS := Lib.hid hS
              have m1 : IntKind.i64.wrap (E * m) = E * m := IntWalk.i64_in _ (by omega)
              have m2 : IntKind.i64.wrap (M + E * m) = M + E * m := IntWalk.i64_in _ (by omega)
              have m3 : decide (M + E * m < S) = false := by simp; omega
              clear hS hP0 hP1
              go_wp2_with fail
              go_quiet ((go_at_call 30; refine Go.Proofs.Yticapkhpjdfhgaa.base.quiet_left (now_any g E M H' m _ (Blk.drewN HB3.out _))))
              clear m1 m2
              go_wp2_with fail
              go_roundw
              case rel => exact ⟨k + 1, H', m, S, by omega, by omega, by go_num, rfl, Blk.drewN HB3.out _, by refine ⟨?_, ?_, ?_, ?_⟩ <;> dsimp only <;> omega, by omega, HSS.out, below_drewN HL3.out _⟩
              case measure => simp [intOf]; omega
          · go_wp2_with fail
            generalize wr.alloc (.cells #[.int .i64 K, .int .i64 m] 47) = w2 at *
            have r0 : w2.cell? ⟨w.heap.size, 0, none⟩ = some (.int .i64 E) := (HRX.out.below HL1.out hlr).cell 0
            have r1 : w2.cell? ⟨w.heap.size, 1, none⟩ = some (.int .i64 M) := (HRX.out.below HL1.out hlr).cell 1
            have hP0 : 0 ≤ E * T := Int.mul_nonneg E0 (by omega)
            have hP1 : E * T ≤ 1048576 * 1099511627776 := Int.mul_le_mul E2 (by omega) (by omega) (by omega)
            have hS : H + S ≤ M + E * T := hS
            have HSS := Lib.hid hS
            have m1 : IntKind.i64.wrap (E * T) = E * T := IntWalk.i64_in _ (by omega)
            have m2 : IntKind.i64.wrap (M + E * T) = M + E * T := IntWalk.i64_in _ (by omega)
            have m3 : decide (M + E * T < S) = false := by simp; omega
            clear hS hP0 hP1
            go_wp2_with fail
            go_quiet ((go_at_call 30; refine Go.Proofs.Yticapkhpjdfhgaa.base.quiet_left (now_any g E M H T _ (Blk.drewN HB1.out _))))
            clear m1 m2
            go_wp2_with fail
            go_roundw
            case rel => exact ⟨k + 1, H, T, S, by omega, by omega, by go_num, rfl, Blk.drewN HB1.out _, by refine ⟨?_, ?_, ?_, ?_⟩ <;> dsimp only <;> omega, by omega, HSS.out, below_drewN HL1.out _⟩
            case measure => simp [intOf]; omega
        · have t2 : (K != 2) = true := by simp [hK]
          clear hK
          by_cases hok : 0 ≤ m ∧ m ≤ H
          · obtain ⟨k0, k1⟩ := hok
            have htk := Lib.hid (fun (w : World) (hb : Bk w g E M H T) => take_yes g E M H T m w hb k0 k1 (by omega))
            go_wp2_with fail
            generalize wr.alloc (.cells #[.int .i64 K, .int .i64 m] 47) = w2 at *
            go_wp2_with fail
            refine (htk.out _ HB1.out).mono ?_
            rintro e w' ⟨rfl, rfl⟩
            have hb3 := Bk.take HB1.out (H - m)
            have ho3 := HO.out.far (p := ⟨g, 2, none⟩) hne (.int .i64 (H - m))
            have hl3 := HL1.out.setCell (p := ⟨g, 2, none⟩) hg1 (.int .i64 (H - m))
            have o1' := ho3.cell 1
            simp only [List.getElem?_toArray, List.getElem?_cons_zero, List.getElem?_cons_succ] at o1'
            have HB3 := Lib.hid hb3
            have HL3 := Lib.hid hl3
            clear hb3 ho3 hl3
            generalize w2.setCell ⟨g, 2, none⟩ (.int .i64 (H - m)) = w3 at *
            have r0 : w3.cell? ⟨w.heap.size, 0, none⟩ = some (.int .i64 E) := (HRX.out.below HL3.out hlr).cell 0
            have r1 : w3.cell? ⟨w.heap.size, 1, none⟩ = some (.int .i64 M) := (HRX.out.below HL3.out hlr).cell 1
            have hP0 : 0 ≤ E * T := Int.mul_nonneg E0 (by omega)
            have hP1 : E * T ≤ 1048576 * 1099511627776 := Int.mul_le_mul E2 (by omega) (by omega) (by omega)
            have hS : (H - m) + (S + m) ≤ M + E * T := by omega
            have HSS := Lib.hid hS
            have m1 : IntKind.i64.wrap (E * T) = E * T := IntWalk.i64_in _ (by omega)
            have m2 : IntKind.i64.wrap (M + E * T) = M + E * T := IntWalk.i64_in _ (by omega)
            have m3 : decide (M + E * T < (S + m)) = false := by simp; omega
            clear hS hP0 hP1
            go_wp2_with fail
            go_quiet ((go_at_call 30; refine Go.Proofs.Yticapkhpjdfhgaa.base.quiet_left (now_any g E M (H - m) T _ (Blk.drewN HB3.out _))))
            clear m1 m2
            go_wp2_with fail
            go_roundw
            case rel => exact ⟨k + 1, (H - m), T, (S + m), by omega, by omega, by go_num, rfl, Blk.drewN HB3.out _, by refine ⟨?_, ?_, ?_, ?_⟩ <;> dsimp only <;> omega, by omega, HSS.out, below_drewN HL3.out _⟩
            case measure => simp [intOf]; omega
          · have htk := Lib.hid (fun (w : World) (hb : Bk w g E M H T) => take_no g E M H T m w hb (by omega))
            go_wp2_with fail
            generalize wr.alloc (.cells #[.int .i64 K, .int .i64 m] 47) = w2 at *
            go_wp2_with fail
            refine (htk.out _ HB1.out).mono ?_
            rintro e w' ⟨rfl, rfl⟩
            have r0 : w2.cell? ⟨w.heap.size, 0, none⟩ = some (.int .i64 E) := (HRX.out.below HL1.out hlr).cell 0
            have r1 : w2.cell? ⟨w.heap.size, 1, none⟩ = some (.int .i64 M) := (HRX.out.below HL1.out hlr).cell 1
            have hP0 : 0 ≤ E * T := Int.mul_nonneg E0 (by omega)
            have hP1 : E * T ≤ 1048576 * 1099511627776 := Int.mul_le_mul E2 (by omega) (by omega) (by omega)
            have hS : H + S ≤ M + E * T := hS
            have HSS := Lib.hid hS
            have m1 : IntKind.i64.wrap (E * T) = E * T := IntWalk.i64_in _ (by omega)
            have m2 : IntKind.i64.wrap (M + E * T) = M + E * T := IntWalk.i64_in _ (by omega)
            have m3 : decide (M + E * T < S) = false := by simp; omega
            clear hS hP0 hP1
            go_wp2_with fail
            go_quiet ((go_at_call 30; refine Go.Proofs.Yticapkhpjdfhgaa.base.quiet_left (now_any g E M H T _ (Blk.drewN HB1.out _))))
            clear m1 m2
            go_wp2_with fail
            go_roundw
            case rel => exact ⟨k + 1, H, T, S, by omega, by omega, by go_num, rfl, Blk.drewN HB1.out _, by refine ⟨?_, ?_, ?_, ?_⟩ <;> dsimp only <;> omega, by omega, HSS.out, below_drewN HL1.out _⟩
            case measure => simp [intOf]; omega
      · clear hb hbel hfin
        go_wp2_with fail
        refine (awake_any _).mono ?_
        rintro e w2 ⟨rfl, hb2⟩
        go_wp2_with fail
        go_ret
        exact ⟨rfl, bel_call HFin.out hb2⟩
    · clear hb hbel hfin
      go_wp2_with fail
      refine (awake_any _).mono ?_
      rintro e w2 ⟨rfl, hb2⟩
      go_wp2_with fail
      go_ret
      exact ⟨rfl, bel_call HFin.out hb2⟩
end Go.Proofs.Yticapkhpjdfhgaa.rateF
