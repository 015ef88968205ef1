/- Layer 37: the law on plays. -/
import Derived.Test.YticapkhpjdfhgaaRateE
import Derived.Test.YticapkhpjdfhgaaQuiet
namespace Go.Proofs.Yticapkhpjdfhgaa.rateH
open Go.ChangeShapes Go.WideShapes Go.ChangeAt Go.RowKit
open Go.Proofs.Yticapkhpjdfhgaa.base Go.Proofs.Yticapkhpjdfhgaa.rateA Go.Proofs.Yticapkhpjdfhgaa.rateB Go.Proofs.Yticapkhpjdfhgaa.rateC Go.Proofs.Yticapkhpjdfhgaa.rateD Go.Proofs.Yticapkhpjdfhgaa.rateE
set_option linter.unusedVariables false

set_option maxHeartbeats 2000000 in
theorem plays_no (E M : Int) (A : Option Addr) (n c : Nat) (w : World) (hr : rightB E M = false) :
    Calls Try.prog 7 #[.agg #[.int .i64 E, .int .i64 M], .slice A n c] w fun e w' => e = .returned (.bool true) ∧ Below w.heap.size w w' := by
  have hn := Lib.hid (fun w => new_no E M w hr)
  have HRB := Lib.hid hr
  have q0 : (rightB E M != rightB E M) = false := by simp
  clear hr
  go_enter Try.func7, Try.ntmps7
  go_wp2_with fail
  refine (hn.out _).mono ?_
  rintro e w1 ⟨rfl, hbel⟩
  have hbx := (Blk.new w 33 #[.int .i64 E, .int .i64 M]).below hbel (by simp)
  have r0 := hbx.cell 0
  have r1 := hbx.cell 1
  simp only [List.getElem?_toArray, List.getElem?_cons_zero, List.getElem?_cons_succ] at r0 r1
  have hbel1 : Below w.heap.size w w1 := bel_call ((Below.refl _ _).alloc (Nat.le_refl _) _) hbel
  have HBe := Lib.hid hbel1
  clear hbel hbx hbel1
  go_wp2_with fail
  have kk : ∀ X, Below w1.heap.size w1 X → Below w1.heap.size w1 X ∧ X.cell? ⟨w.heap.size, 0, none⟩ = some (.int .i64 E) ∧ X.cell? ⟨w.heap.size, 1, none⟩ = some (.int .i64 M) := fun X h => ⟨h, kept r0 h, kept r1 h⟩
  have KK := Lib.hid kk
  clear kk
  go_region_held3 (fun w' => Below w1.heap.size w1 w' ∧ w'.cell? ⟨w.heap.size, 0, none⟩ = some (.int .i64 E) ∧ w'.cell? ⟨w.heap.size, 1, none⟩ = some (.int .i64 M))
    ((refine KK.out _ ?_; repeat' (first | (with_reducible exact Below.refl _ _) | (with_reducible refine bel_drew ?_) | (with_reducible refine bel_call ?_ hb) | (with_reducible exact And.left (by assumption)))))
    (first
      | (go_at_call 25; refine (right_any E M _).mono ?_; rintro e w' ⟨rfl, hb⟩)
      | (go_at_call 26; refine (lawright_any E M _).mono ?_; rintro e w' ⟨rfl, hb⟩))
  rename_i hH
  obtain ⟨hB, s0, s1⟩ := hH
  have HB := Lib.hid hB
  clear hB
  go_wp2_with fail
  refine (lawright_any E M _).mono ?_
  rintro e w2 ⟨rfl, hb2⟩
  rw [HRB.out]
  have HB2 := Lib.hid hb2
  clear hb2
  go_wp2_with fail
  refine (awake_any _).mono ?_
  rintro e w3 ⟨rfl, hb3⟩
  go_wp2_with fail
  go_ret
  exact ⟨rfl, bel_call (bel_call (bel_call HBe.out HB.out) HB2.out) hb3⟩

set_option maxHeartbeats 8000000 in
theorem plays_yes (E M : Int) (A : Option Addr) (m c : Nat) (xs : List (Int × Int)) (w : World) (hr : rightB E M = true) (hl : xs.length = m) (hx : ok64 xs) (hrow : RowP w w.heap.size A xs) (hc : m ≤ 9223372036854775807) :
    Calls Try.prog 7 #[.agg #[.int .i64 E, .int .i64 M], .slice A m c] w fun e w' => e = .returned (.bool true) ∧ Below w.heap.size w w' := by
  have hrr : 0 ≤ E ∧ E ≤ 1099511627776 ∧ 1 ≤ M ∧ M ≤ 1099511627776 := by simpa [rightB] using hr
  obtain ⟨E0, E1, M0, M1⟩ := hrr
  have hn := Lib.hid (fun w => new_yes E M w hr)
  have HRB := Lib.hid hr
  have q0 : (rightB E M != rightB E M) = false := by simp
  have q1 : (M != M) = false := by simp
  have HN := Lib.hid hl
  have HX := Lib.hid hx
  have HR := Lib.hid hrow
  clear hr hl hx hrow
  go_enter Try.func7, Try.ntmps7
  go_wp2_with fail
  refine (hn.out _).mono ?_
  rintro e w1 ⟨g, rfl, hg, hb, hbel⟩
  have hbx := (Blk.new w 33 #[.int .i64 E, .int .i64 M]).below hbel (by simp)
  have r0 := hbx.cell 0
  have r1 := hbx.cell 1
  simp only [List.getElem?_toArray, List.getElem?_cons_zero, List.getElem?_cons_succ] at r0 r1
  have hg1 : w.heap.size + 1 ≤ g := by simpa using hg
  have hsz : w.heap.size + 1 ≤ w1.heap.size := by have := hbel.size; simpa using this
  have hbel1 : Below w.heap.size w w1 := bel_call ((Below.refl _ _).alloc (Nat.le_refl _) _) hbel
  have hgl := hb.lt
  have HB := Lib.hid hb
  have HBe := Lib.hid hbel1
  have HRX := Lib.hid hbx
  have hrow1 := HR.out.below hbel1
  have HR1 := Lib.hid hrow1
  clear hbel hb hbx hbel1 hrow1 HR
  go_wp2_with fail
  have kk : ∀ X, Below w1.heap.size w1 X → Below w1.heap.size w1 X ∧ X.cell? ⟨w.heap.size, 0, none⟩ = some (.int .i64 E) ∧ X.cell? ⟨w.heap.size, 1, none⟩ = some (.int .i64 M) := fun X h => ⟨h, kept r0 h, kept r1 h⟩
  have KK := Lib.hid kk
  clear kk
  go_region_held3 (fun w' => Below w1.heap.size w1 w' ∧ w'.cell? ⟨w.heap.size, 0, none⟩ = some (.int .i64 E) ∧ w'.cell? ⟨w.heap.size, 1, none⟩ = some (.int .i64 M))
    ((refine KK.out _ ?_; repeat' (first | (with_reducible exact Below.refl _ _) | (with_reducible refine bel_drew ?_) | (with_reducible refine bel_call ?_ hb) | (with_reducible exact And.left (by assumption)))))
    (first
      | (go_at_call 25; refine (right_any E M _).mono ?_; rintro e w' ⟨rfl, hb⟩)
      | (go_at_call 26; refine (lawright_any E M _).mono ?_; rintro e w' ⟨rfl, hb⟩))
  rename_i hH
  obtain ⟨hB, s0, s1⟩ := hH
  rename World => wz
  have HBZ := Lib.hid hB
  clear hB r0 r1 KK
  go_wp2_with fail
  refine (lawright_any E M _).mono ?_
  rintro e w2 ⟨rfl, hb2⟩
  rw [HRB.out]
  have hB2 := HBZ.out.trans (hb2.mono HBZ.out.size)
  have HB2 := Lib.hid hB2
  have bk2 : Bk w2 g E M M 0 := Blk.below HB.out hB2 hgl
  have b1 := bk2.c1
  have rx2 := HRX.out.below hB2 (by omega)
  have r0 := rx2.cell 0
  have r1 := rx2.cell 1
  simp only [List.getElem?_toArray, List.getElem?_cons_zero, List.getElem?_cons_succ] at r0 r1
  have BK2 := Lib.hid bk2
  have RX2 := Lib.hid rx2
  have hsz2 : w1.heap.size ≤ w2.heap.size := hB2.size
  have hgl2 := bk2.lt
  have hfin2 := HBe.out.trans (hB2.mono (by omega))
  have HF2 := Lib.hid hfin2
  have hrow2 := HR1.out.below (hB2.mono (by omega) : Below w.heap.size w1 w2)
  have HR2 := Lib.hid hrow2
  clear hb2 hB2 bk2 rx2 hfin2 hrow2 s0 s1
  go_wp2_with fail
  go_quiet (fail)
  go_wp2_with fail
  have hgp : g ≠ w2.heap.size := by omega
  have hlr : w.heap.size < w.heap.size + 1 := by omega
  have hpl : Pl ((w2.drewN nq).alloc (.cells #[.int .i64 E, .int .i64 M, .int .i64 M, .int .i64 0] 44)) w2.heap.size E M M 0 := Blk.new (w2.drewN nq) _ _
  have HPL := Lib.hid hpl
  have hB1 : w.heap.size + 1 ≤ w2.heap.size := by omega
  clear hpl b1 r0 r1
  go_loopw [8] (fun i wr => ∃ (k : Nat) (H T : Int), k ≤ 60 ∧ k ≤ m ∧ i = .int .i64 k ∧ Bk wr g E M H T ∧ Pl wr w2.heap.size E M H T ∧ inv M (H, T) ∧ Below (w.heap.size + 1) w2 wr) (fun i _ => 60 - (intOf i).toNat)
  case atStart => exact ⟨0, M, 0, by omega, by omega, rfl, Blk.alloc (Blk.drewN BK2.out _) _, HPL.out, ⟨by dsimp only; omega, by dsimp only; omega, by dsimp only; omega, by dsimp only; omega⟩, (below_drewN (Below.refl _ _) _).alloc hB1 _⟩
  case round =>
    obtain ⟨k, H, T, hk, hkn, rfl, hb, hpl, hinv, hbel⟩ := hrel
    have HBk := Lib.hid hb
    have HPk := Lib.hid hpl
    have HBl := Lib.hid hbel
    have HIN := Lib.hid hinv
    have hs2 := hbel.size
    have hws : w.heap.size + 1 ≤ wr.heap.size := by omega
    have hfin : Below w.heap.size w wr := HF2.out.trans (hbel.mono (by omega))
    have HFin := Lib.hid hfin
    by_cases hgo : k < m ∧ k < 60
    · obtain ⟨hlt, h60⟩ := hgo
      have hkl : k < xs.length := by rw [HN.out]; exact hlt
      obtain ⟨b, off, rfl, hbl, hcc⟩ := HR2.out.at_ (by omega)
      obtain ⟨c0, c1⟩ := hcc k hkl
      have c0 := (hbel.cell (p := ⟨b, off + k * 2, none⟩) (by dsimp only; omega)).trans c0
      have c1 := (hbel.cell (p := ⟨b, off + k * 2 + 1, none⟩) (by dsimp only; omega)).trans c1
      have r1 := (RX2.out.below hbel hlr).cell 1
      simp only [List.getElem?_toArray, List.getElem?_cons_zero, List.getElem?_cons_succ] at r1
      have hxk := HX.out k hkl
      clear hcc hb hpl hbel hfin hinv
      generalize xs.getD k (0, 0) = o at *
      obtain ⟨K, u⟩ := o
      simp only at c0 c1 hxk
      obtain ⟨x0, x1⟩ := hxk
      obtain ⟨H', T', hst⟩ : ∃ H' T', stp E M (H, T) (K, u) = (H', T') := ⟨_, _, rfl⟩
      have hinv2 := stp_inv (o := (K, u)) E0 HIN.out
      rw [hst] at hinv2
      have hstep := fun (w0 : World) (a : w.heap.size + 1 ≤ w0.heap.size) (b : Bk w0 g E M H T) (c : Pl w0 w2.heap.size E M H T) => step_any (w.heap.size + 1) g w2.heap.size E M H T K u w0 a hg1 hB1 hgp b c E0 E1 M1 HIN.out x0 x1
      rw [hst] at hstep
      have HST := Lib.hid hstep
      have HI2 := Lib.hid hinv2
      obtain ⟨i1, i2, i3, i4⟩ := hinv2
      simp only at i1 i2 i3 i4
      have t1 : (H' != H') = false := by simp
      have t2 : (T' != T') = false := by simp
      have t3 : decide (M < H') = false := by simp; omega
      have t4 : decide (H' < 0) = false := by simp; omega
      have y0 : (0 : Int) ≤ (k : Int) := by omega
      have y1 : (k : Int) < (m : Int) := by omega
      clear hstep hst i1 i2 i3 i4
      go_wp2_with fail
      go_region_with
        (first
          | (go_at_call 28; refine (HST.out wr.drew hws (Blk.drew HBk.out) (Blk.drew HPk.out)).mono ?_; rintro e w5 ⟨rfl, hb2, hp2, hl2⟩; have y2 := Pl.c2 hp2; have y3 := Pl.c3 hp2; have kc0 := (hl2.cell (p := ⟨b, off + k * 2, none⟩) (by dsimp only; omega)).trans c0; have kc1 := (hl2.cell (p := ⟨b, off + k * 2 + 1, none⟩) (by dsimp only; omega)).trans c1; have kr1 := (hl2.cell (p := ⟨w.heap.size, 1, none⟩) hlr).trans r1; have HB5 := Lib.hid hb2; have HP5 := Lib.hid hp2; have HL5 := Lib.hid hl2; clear hb2 hp2 hl2)
          | (go_at_call 29; refine (have_any g E M H' T' _ HB5.out).mono ?_; rintro e w' ⟨rfl, rfl⟩)
          | (go_at_call 30; refine (now_any g E M H' T' _ HB5.out).mono ?_; rintro e w' ⟨rfl, rfl⟩))
      all_goals
        go_wp2_with fail
        go_roundw
        case rel => exact ⟨k + 1, _, _, by omega, by omega, by go_num, HB5.out, HP5.out, HI2.out, HBl.out.trans (below_drewN (Below.refl _ _) 1 |>.trans HL5.out)⟩
        case measure => simp [intOf]; omega
    · have hend : m ≤ k ∨ (k < m ∧ 60 ≤ k) := by omega
      clear hgo hb hpl hbel hfin hinv
      rcases hend with g1 | ⟨g0, g1⟩
      all_goals
        go_wp2_with fail
        refine (awake_any _).mono ?_
        rintro e w3 ⟨rfl, hb3⟩
        go_wp2_with fail
        go_ret
        exact ⟨rfl, bel_call HFin.out hb3⟩
end Go.Proofs.Yticapkhpjdfhgaa.rateH
