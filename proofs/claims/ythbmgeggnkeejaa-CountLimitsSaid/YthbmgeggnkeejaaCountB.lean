/- Layer 31: the law on limits. -/
import Derived.Test.YthbmgeggnkeejaaCountA
namespace Go.Proofs.Ythbmgeggnkeejaa.countB
open Go.ChangeShapes Go.WideShapes Go.ChangeAt Go.RowKit
open Go.Proofs.Ythbmgeggnkeejaa.base Go.Proofs.Ythbmgeggnkeejaa.countA
set_option linter.unusedVariables false

theorem limits_any (m : Int) (A : Option Addr) (n c : Nat) (l : List Bool) (w : World) (m0 : -9223372036854775808 ≤ m) (m1 : m < 9223372036854775808) (hl : l.length = n) (hc : n ≤ 9223372036854775807) (hr : Row w w.heap.size A (l.map .bool)) :
    Calls Try.prog 11 #[.int .i64 m, .slice A n c] w fun e w' => e = .returned (.bool true) ∧ Below w.heap.size w w' := by
  have HR := Lib.hid hr
  have HN := Lib.hid hl
  clear hr hl
  obtain ⟨M, hM⟩ : ∃ M, M = max m 0 := ⟨_, rfl⟩
  have HNEW := Lib.hid (fun w => new_any m w)
  rw [← hM] at HNEW
  have M0 : 0 ≤ M := by omega
  have M1 : m ≤ M := by omega
  have M2 : M = m ∨ (M = 0 ∧ m < 0) := by omega
  have HM := Lib.hid M2
  clear hM M2
  go_enter Try.func11, Try.ntmps11
  go_wp2_with fail
  refine (HNEW.out _).mono ?_
  rintro e w' ⟨rfl, rfl⟩
  have hb := Blk.new w 110 #[.int .i64 M, .int .i64 0]
  have hbel : Below w.heap.size w (w.alloc (.cells #[.int .i64 M, .int .i64 0] 110)) := (Below.refl _ _).alloc (Nat.le_refl _) _
  have HB := Lib.hid hb
  have HBel := Lib.hid hbel
  clear hb hbel
  generalize w.alloc (.cells #[.int .i64 M, .int .i64 0] 110) = w1 at *
  go_wp2_with fail
  go_loopw [6, 7] (fun t i wr => ∃ k T : Nat, k ≤ 60 ∧ k ≤ n ∧ T ≤ k ∧ (T : Int) ≤ M ∧ i = .int .i64 k ∧ t = .int .i64 T ∧ Blk wr w.heap.size 110 #[.int .i64 M, .int .i64 T] ∧ Below w.heap.size w wr) (fun _ i _ => 60 - (intOf i).toNat)
  case atStart => exact ⟨0, 0, by omega, by omega, by omega, by omega, rfl, rfl, HB.out, HBel.out⟩
  case round =>
    obtain ⟨k, T, hk, hkn, hT, hTM, rfl, rfl, hb, hbel⟩ := hrel
    have h0 := hb.cell 0
    have h1 := hb.cell 1
    have hz := hb.frozen 1
    simp only [List.getElem?_toArray, List.getElem?_cons_zero, List.getElem?_cons_succ] at h0 h1
    have HBk := Lib.hid hb
    have HBl := Lib.hid hbel
    by_cases hlt : k < n
    · by_cases h60 : k < 60
      · have hkl : k < l.length := by rw [HN.out]; exact hlt
        obtain ⟨b, off, rfl, hbl, hcc⟩ := (HR.out.below hbel).at_ (by intro h; simp at h; rw [h] at hkl; simp at hkl)
        have hcell : wr.cell? ⟨b, off + k, none⟩ = some (.bool (l[k])) := hcc k _ (by simp [hkl])
        have H0 := Lib.hid h0
        have H1 := Lib.hid h1
        clear hcc hbel hb h0 h1
        generalize l[k] = x at *
        cases x
        · -- give
          rcases Nat.eq_zero_or_pos T with rfl | hpos
          · go_wp2_with fail
            refine (give_no _ M _ H0.out H1.out).mono ?_
            rintro e w' ⟨rfl, rfl⟩
            have h1 := H1.out
            go_wp2_with fail
            refine (taken_any _ 0 _ h1).mono ?_
            rintro e w' ⟨rfl, rfl⟩
            go_wp2_with fail
            go_roundw
            case rel => exact ⟨k + 1, 0, by omega, by omega, by omega, by omega, by go_num, rfl, HBk.out, HBl.out⟩
            case measure => simp [intOf]; omega
          · have q0 : decide (0 < T) = true := by simpa using hpos
            go_wp2_with fail
            refine (give_yes _ M T _ H0.out H1.out hz (by omega) (by omega) hTM).mono ?_
            rintro e w' ⟨rfl, rfl⟩
            have hb2 := HBk.out.set_ 1 (.int .i64 ((T : Int) + -1))
            have hbel2 := bel_set HBl.out (p := ⟨w.heap.size, 1, none⟩) (Nat.le_refl _) (.int .i64 ((T : Int) + -1))
            have e : (T : Int) + -1 = ((T - 1 : Nat) : Int) := by omega
            have e2 : (T : Int) - 1 = ((T - 1 : Nat) : Int) := by omega
            have HB2 := Lib.hid hb2
            have HBel2 := Lib.hid hbel2
            have E2 := Lib.hid e2
            rw [e] at HB2 HBel2 ⊢
            clear hb2 hbel2 e e2
            have o1 : (((T - 1 : Nat) : Int) != ((T - 1 : Nat) : Int)) = false := by simp
            generalize wr.setCell ⟨w.heap.size, 1, none⟩ (.int .i64 ((T - 1 : Nat) : Int)) = w2 at *
            have h1' : w2.cell? ⟨w.heap.size, 1, none⟩ = some (.int .i64 ((T - 1 : Nat) : Int)) := HB2.out.cell 1
            have H1' := Lib.hid h1'
            clear h1'
            go_wp2_with fail
            refine (taken_any _ ((T - 1 : Nat) : Int) _ H1'.out).mono ?_
            rintro e w' ⟨rfl, rfl⟩
            have o2 : (((T - 1 : Nat) : Int) != (T : Int) - 1) = false := by simp; omega
            go_wp2_with fail
            go_roundw
            case rel => exact ⟨k + 1, T - 1, by omega, by omega, by omega, by omega, by go_num, by rw [← E2.out], HB2.out, HBel2.out⟩
            case measure => simp [intOf]; omega
        · -- take
          by_cases hm : (T : Int) < m
          · have q1 : decide ((T : Int) < m) = true := by simpa using hm
            go_wp2_with fail
            refine (take_yes _ M T _ H0.out H1.out hz (by omega) (by omega) (by omega)).mono ?_
            rintro e w' ⟨rfl, rfl⟩
            have hb2 := HBk.out.set_ 1 (.int .i64 ((T : Int) + 1))
            have hbel2 := bel_set HBl.out (p := ⟨w.heap.size, 1, none⟩) (Nat.le_refl _) (.int .i64 ((T : Int) + 1))
            have HB2 := Lib.hid hb2
            have HBel2 := Lib.hid hbel2
            clear hb2 hbel2
            have o1 : ((T : Int) + 1 != (T : Int) + 1) = false := by simp
            generalize wr.setCell ⟨w.heap.size, 1, none⟩ (.int .i64 ((T : Int) + 1)) = w2 at *
            have h1' : w2.cell? ⟨w.heap.size, 1, none⟩ = some (.int .i64 ((T : Int) + 1)) := HB2.out.cell 1
            have H1' := Lib.hid h1'
            clear h1'
            go_wp2_with fail
            refine (taken_any _ ((T : Int) + 1) _ H1'.out).mono ?_
            rintro e w' ⟨rfl, rfl⟩
            go_wp2_with fail
            go_roundw
            case rel => exact ⟨k + 1, T + 1, by omega, by omega, by omega, by omega, by go_num, by go_num, HB2.out, HBel2.out⟩
            case measure => simp [intOf]; omega
          · have q1 : decide ((T : Int) < m) = false := by simpa using hm
            have hMT : M < (T : Int) + 1 := by have := HM.out; omega
            have o1 : ((T : Int) != (T : Int)) = false := by simp
            go_wp2_with fail
            refine (take_no _ M T _ H0.out H1.out (by omega) (by omega) hMT).mono ?_
            rintro e w' ⟨rfl, rfl⟩
            have h1 := H1.out
            go_wp2_with fail
            refine (taken_any _ T _ h1).mono ?_
            rintro e w' ⟨rfl, rfl⟩
            go_wp2_with fail
            go_roundw
            case rel => exact ⟨k + 1, T, by omega, by omega, by omega, by omega, by go_num, rfl, HBk.out, HBl.out⟩
            case measure => simp [intOf]; omega
      · clear hb hbel
        go_wp2_with fail
        refine (awake_any _).mono ?_
        rintro e w2 ⟨rfl, hb2⟩
        go_wp2_with fail
        go_ret
        exact ⟨rfl, bel_call HBl.out hb2⟩
    · clear hb hbel
      go_wp2_with fail
      refine (awake_any _).mono ?_
      rintro e w2 ⟨rfl, hb2⟩
      go_wp2_with fail
      go_ret
      exact ⟨rfl, bel_call HBl.out hb2⟩
end Go.Proofs.Ythbmgeggnkeejaa.countB
