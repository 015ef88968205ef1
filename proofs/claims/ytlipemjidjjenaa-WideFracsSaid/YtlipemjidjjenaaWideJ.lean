/- Layer 1: the law on fractions, where the list is cut. -/
import Derived.Test.YtlipemjidjjenaaWideI
namespace Go.Proofs.Ytlipemjidjjenaa.wideJ
open Go.ChangeShapes Go.WideShapes Go.ChangeAt Go.RowKit
open Go.Proofs.Ytlipemjidjjenaa.base Go.Proofs.Ytlipemjidjjenaa.wideB Go.Proofs.Ytlipemjidjjenaa.wideC Go.Proofs.Ytlipemjidjjenaa.wideD Go.Proofs.Ytlipemjidjjenaa.wideF Go.Proofs.Ytlipemjidjjenaa.wideG Go.Proofs.Ytlipemjidjjenaa.wideH Go.Proofs.Ytlipemjidjjenaa.wideI
set_option linter.unusedVariables false

set_option maxHeartbeats 1000000 in
theorem fracsBig (b0 off0 n : Nat) (c : Nat) (l : List (Int × Int)) (au ad bu bd : Int) (w : World) (a1 : 0 ≤ au) (a2 : au < 18446744073709551616) (b1 : 0 ≤ ad) (b2 : ad < 18446744073709551616) (c1 : 0 ≤ bu) (c2 : bu < 18446744073709551616) (d1 : 0 ≤ bd) (d2 : bd < 18446744073709551616)
    (hl : l.length = 40) (hn : 40 < n) (hnc : n ≤ c) (hc9 : c ≤ 9223372036854775807) (hg : ∀ i, good (l.getD i (0, 0))) (hr : Row2 w w.heap.size (some ⟨b0, off0, none⟩ : Option Addr) l) :
    Calls Try.prog 6 #[.agg #[.int .u64 au, .int .u64 ad], .agg #[.int .u64 bu, .int .u64 bd], .slice (some ⟨b0, off0, none⟩ : Option Addr) n c] w fun e w' => e = .returned (.bool true) ∧ Below w.heap.size w w' := by
  have HL := Lib.hid hl
  have HG := Lib.hid hg
  have HR := Lib.hid hr
  have hd : decide ((40 : Int) < (n : Int)) = true := by simp; omega
  have bd0 := cmpF_bd au ad bu bd
  have hneg := cmpF_neg au ad bu bd
  have q1 : (cmpF au ad bu bd == cmpF au ad bu bd) = true := by simp
  have q2 : IntKind.i64.wrap (-cmpF au ad bu bd) = -cmpF au ad bu bd := by rw [IntKind.wrap_i64]; omega
  have q3 : (cmpF bu bd au ad == -cmpF au ad bu bd) = true := by rw [hneg]; simp
  have HQ1 := Lib.hid q1
  have HQ2 := Lib.hid q2
  have HQ3 := Lib.hid q3
  clear hl hg hr bd0 hneg q1 q2 q3
  obtain ⟨L, hL⟩ : ∃ L, L = least l 40 := ⟨_, rfl⟩
  have HLL := Lib.hid hL
  clear hL
  go_enter Try.func6, Try.ntmps6
  go_wp2_with fail
  have hbel : Below w.heap.size w ((w.alloc (.cells #[.int .u64 au, .int .u64 ad] 43)).alloc (.cells #[.int .u64 bu, .int .u64 bd] 43)) := (((Below.refl _ _).alloc (Nat.le_refl _) _).alloc (by simp) _)
  have k := boxes (w := w) (a := .int .u64 au) (b := .int .u64 ad) (c := .int .u64 bu) (d := .int .u64 bd) 43 _ rfl
  generalize (w.alloc (.cells #[.int .u64 au, .int .u64 ad] 43)).alloc (.cells #[.int .u64 bu, .int .u64 bd] 43) = W at *
  have HK := Lib.hid k
  have HBel := Lib.hid hbel
  have HRW := Lib.hid (Row2.more (HR.out.below hbel) hbel.size)
  clear hbel k
  go_loopw [7, 8, 9, 10, 11] (fun best i f k y wr => ∃ a : Nat, a ≤ 40 ∧ i = .int .i64 a ∧ best = .int .i64 (bestAt L a) ∧ Below W.heap.size W wr) (fun _ i _ _ _ _ => 40 - (intOf i).toNat)
  case atStart => exact ⟨0, by omega, rfl, by rw [show bestAt L 0 = -1 from by cases L <;> simp [bestAt]], Below.refl _ _⟩
  case round =>
    obtain ⟨a, ha, rfl, rfl, hbel⟩ := hrel
    have HB := Lib.hid hbel
    clear hbel
    by_cases hlt : a < 40
    · have ja : (a : Int) < (40 : Int) := by omega
      go_wp2_with fail
      go_loopw [9, 10, 11] (fun f k y wr => ∃ b : Nat, b ≤ 40 ∧ k = .int .i64 b ∧ f = .bool (firstTo l a b) ∧ Below W.heap.size W wr) (fun _ k _ _ => 40 - (intOf k).toNat)
      case atStart => exact ⟨0, by omega, rfl, rfl, HB.out⟩
      case round =>
        obtain ⟨b, hb0, rfl, rfl, hbel⟩ := hrel
        have HB2 := Lib.hid hbel
        clear hbel
        by_cases hlt2 : b < 40
        · obtain ⟨g, off, hA, hbl, hc⟩ := (HRW.out.below HB2.out).at_ (by rw [HL.out]; omega)
          obtain ⟨rfl, rfl⟩ : b0 = g ∧ off0 = off := by injection hA with hA; injection hA with e1 e2; exact ⟨e1, e2⟩
          clear hA
          have ha0 := (hc a (by rw [HL.out]; exact hlt)).1
          have ha1 := (hc a (by rw [HL.out]; exact hlt)).2
          have hk0 := (hc b (by rw [HL.out]; exact hlt2)).1
          have hk1 := (hc b (by rw [HL.out]; exact hlt2)).2
          have ga := HG.out a
          have gb := HG.out b
          have hf : firstTo l a (b + 1) = (firstTo l a b && !(decide (cf (l.getD b (0, 0)) (l.getD a (0, 0)) < 0) || (cf (l.getD b (0, 0)) (l.getD a (0, 0)) == 0 && decide (b < a)))) := rfl
          clear hc
          generalize l.getD a (0, 0) = x at *
          generalize l.getD b (0, 0) = y at *
          obtain ⟨xu, xd⟩ := x
          obtain ⟨yu, yd⟩ := y
          simp only at ha0 ha1 hk0 hk1
          obtain ⟨⟨x1, x2⟩, x3, x4⟩ := ga
          obtain ⟨⟨y1, y2⟩, y3, y4⟩ := gb
          simp only at x1 x2 x3 x4 y1 y2 y3 y4
          have hcf : cf (yu, yd) (xu, xd) = cmpF yu yd xu xd := rfl
          rw [hcf] at hf
          have HF := Lib.hid hf
          clear hcf hf
          have jb : (b : Int) < (40 : Int) := by omega
          have ja0 : (0 : Int) ≤ (a : Int) := by omega
          have jb0 : (0 : Int) ≤ (b : Int) := by omega
          go_wp2_with fail
          have h0 := elems hk0 hk1 ha0 ha1
          go_region_held3 (fun w' => Below wr.heap.size wr w' ∧ w'.cell? ⟨b0, off0 + b * 2, none⟩ = some (.int .u64 yu) ∧ w'.cell? ⟨b0, off0 + b * 2 + 1, none⟩ = some (.int .u64 yd) ∧ w'.cell? ⟨b0, off0 + a * 2, none⟩ = some (.int .u64 xu) ∧ w'.cell? ⟨b0, off0 + a * 2 + 1, none⟩ = some (.int .u64 xd))
            (first | exact h0 | (refine keep4 ?_ hb; assumption))
            (first | (go_at_call 28; refine (fracs_any _ _ _ _ y1 y2 y3 y4 x1 x2 x3 x4 _).mono ?_; rintro e w' ⟨rfl, hb⟩))
          rename_i hH
          have HB3 := Lib.hid (HB2.out.trans (hH.1.mono HB2.out.size))
          clear hH h0 ha0 ha1 hk0 hk1 x1 x2 x3 x4 y1 y2 y3 y4
          generalize cmpF yu yd xu xd = z at *
          rcases Int.lt_trichotomy z 0 with hz | hz | hz
          · have f1 : decide (z < 0) = true := by simpa using hz
            have HF2 := Lib.hid (HF.out.trans (show _ = false by rw [f1]; simp))
            go_wp2_with fail
            go_roundw
            case rel => exact ⟨b + 1, by omega, by go_num, by rw [HF2.out], HB3.out⟩
            case measure => simp [intOf]; omega
          · subst hz
            by_cases hba : b < a
            · have f2 : decide ((b : Int) < (a : Int)) = true := by simpa using hba
              have HF2 := Lib.hid (HF.out.trans (show _ = false by simp [hba]))
              go_wp2_with fail
              go_roundw
              case rel => exact ⟨b + 1, by omega, by go_num, by rw [HF2.out], HB3.out⟩
              case measure => simp [intOf]; omega
            · have f2 : decide ((b : Int) < (a : Int)) = false := by simpa using hba
              have HF2 := Lib.hid (HF.out.trans (show _ = firstTo l a b by simp [hba]))
              go_wp2_with fail
              go_roundw
              case rel => exact ⟨b + 1, by omega, by go_num, by rw [HF2.out], HB3.out⟩
              case measure => simp [intOf]; omega
          · have f1 : decide (z < 0) = false := by simp; omega
            have f3 : (z == 0) = false := by simp; omega
            have HF2 := Lib.hid (HF.out.trans (show _ = firstTo l a b by rw [f1, f3]; simp))
            clear hz
            go_wp2_with fail
            go_roundw
            case rel => exact ⟨b + 1, by omega, by go_num, by rw [HF2.out], HB3.out⟩
            case measure => simp [intOf]; omega
        · have hbm : 40 = b := by omega
          subst hbm
          have hn := best_next HG.out hlt
          rw [← HLL.out] at hn
          cases hft : firstTo l a 40
          · rw [hft, if_neg (by simp)] at hn
            have HN := Lib.hid hn
            clear hn hft
            go_wp2_with fail
            go_roundw
            case rel => exact ⟨a + 1, by omega, by go_num, by rw [HN.out], HB2.out⟩
            case measure => simp [intOf]; omega
          · rw [hft, if_pos rfl] at hn
            have HN := Lib.hid hn
            clear hn hft
            go_wp2_with fail
            go_roundw
            case rel => exact ⟨a + 1, by omega, by go_num, by rw [HN.out], HB2.out⟩
            case measure => simp [intOf]; omega
    · have ham : 40 = a := by omega
      subst ham
      have hbe := best_end HG.out 40
      rw [← HLL.out] at hbe
      rw [hbe]
      have q1 := HQ1.out
      have q2 := HQ2.out
      have q3 := HQ3.out
      have q4 : (place L == place L) = true := by simp
      have h0 := elems (kept (W := W) HK.out.2.1 HB.out) (kept (W := W) HK.out.2.2.1 HB.out) (kept (W := W) HK.out.2.2.2.1 HB.out) (kept (W := W) HK.out.2.2.2.2 HB.out)
      have HRX := Lib.hid (Row2.more (HRW.out.below HB.out) HB.out.size)
      have hneg := cmpF_neg au ad bu bd
      clear hbe
      go_wp2_with fail
      go_region_held3 (fun w' => Below wr.heap.size wr w' ∧ w'.cell? ⟨w.heap.size, 0, none⟩ = some (.int .u64 au) ∧ w'.cell? ⟨w.heap.size, 1, none⟩ = some (.int .u64 ad) ∧ w'.cell? ⟨w.heap.size + 1, 0, none⟩ = some (.int .u64 bu) ∧ w'.cell? ⟨w.heap.size + 1, 1, none⟩ = some (.int .u64 bd))
        (first | exact h0 | (refine keep4 ?_ hb; assumption))
        (first
          | (go_at_call 29; refine (fracCmp_any _ _ _ _ (by omega) (by omega) (by omega) (by omega) (by omega) (by omega) (by omega) (by omega) _).mono ?_; rintro e w' ⟨rfl, hb⟩)
          | (go_at_call 28; refine (fracs_any _ _ _ _ (by omega) (by omega) (by omega) (by omega) (by omega) (by omega) (by omega) (by omega) _).mono ?_; rintro e w' ⟨rfl, hb⟩)
          | (go_at_call 30; refine (least_any _ _ _ l _ HL.out (by omega) HG.out (by have hS := ‹Below wr.heap.size wr _ ∧ _›; exact Row2.more (HRX.out.below hS.1) hS.1.size)).mono ?_; rintro e w' ⟨rfl, hb⟩; rw [← HLL.out])
          | (go_at_call 23; refine (awake_any _).mono ?_; rintro e w' ⟨rfl, hb⟩))
      go_wp2
      go_ret
      refine ⟨rfl, ?_⟩
      rename_i hH
      exact HBel.out.trans ((HB.out.trans (hH.1.mono HB.out.size)).mono HBel.out.size)
end Go.Proofs.Ytlipemjidjjenaa.wideJ
