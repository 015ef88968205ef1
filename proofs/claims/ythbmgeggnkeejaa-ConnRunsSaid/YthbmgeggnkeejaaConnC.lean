/- Layer 28: the law on runs. -/
import Derived.Test.YthbmgeggnkeejaaConnB
namespace Go.Proofs.Ythbmgeggnkeejaa.connC
open Go.ChangeShapes Go.WideShapes Go.ChangeAt Go.RowKit
open Go.Proofs.Ythbmgeggnkeejaa.base Go.Proofs.Ythbmgeggnkeejaa.connA Go.Proofs.Ythbmgeggnkeejaa.connB
set_option linter.unusedVariables false

theorem runsSmall (p : Int) (A : Option Addr) (n c : Nat) (l : List Int) (w : World) (hl : l.length = n) (hn : n ≤ 40) (hc0 : n ≤ c) (hcm : c ≤ 9223372036854775807) (hw : ∀ x ∈ l, -9223372036854775808 ≤ x ∧ x < 9223372036854775808) (hr : Row w w.heap.size A (l.map (.int .i64))) :
    Calls Try.prog 8 #[.int .i64 p, .slice A n c] w fun e w' => e = .returned (.bool true) ∧ Below w.heap.size w w' := by
  have HR := Lib.hid hr
  clear hr
  have HN := Lib.hid hl
  clear hl
  have HW := Lib.hid hw
  clear hw
  have hd : decide ((40 : Int) < (n : Int)) = false := by simp; omega
  go_enter Try.func8, Try.ntmps8
  go_wp2_with fail
  go_loopw [5, 6] (fun s i wr => ∃ k : Nat, k ≤ n ∧ i = .int .i64 k ∧ s = .int .i64 (runZ p (l.take k)) ∧ Below w.heap.size w wr) (fun _ i _ => n - (intOf i).toNat)
  case atStart => exact ⟨0, by omega, rfl, rfl, Below.refl _ _⟩
  case round =>
    obtain ⟨k, hk, rfl, rfl, hbel⟩ := hrel
    by_cases hlt : k < n
    · have hkl : k < l.length := by rw [HN.out]; exact hlt
      have hrow := HR.out.below hbel
      obtain ⟨b, off, rfl, hbl, hc⟩ := hrow.at_ (by intro h; simp at h; rw [h] at hkl; simp at hkl)
      have hcell : wr.cell? ⟨b, off + k, none⟩ = some (.int .i64 (l[k])) := hc k _ (by simp [hkl])
      have hx := HW.out l[k] (List.getElem_mem hkl)
      have HBel := Lib.hid hbel
      have hr2 : Row wr wr.heap.size (some ⟨b, off, none⟩) ((l.take (k + 1)).map (.int .i64)) := by
        have := (hrow.more hbel.size).take (k + 1)
        rwa [← List.map_take] at this
      have HR2 := Lib.hid hr2
      have hlen : (l.take (k + 1)).length = k + 1 := by rw [List.length_take]; omega
      have HLen := Lib.hid hlen
      clear hr2 hrow hbel hlen
      by_cases hneg : l[k] < 0
      · clear hc
        generalize l[k] = x at *
        go_wp2_with fail
        refine (awake_any _).mono ?_
        rintro e w1 ⟨rfl, hb⟩
        go_wp2_with fail
        go_ret
        exact ⟨rfl, bel_call HBel.out hb⟩
      · have o : (runZ p (l.take (k + 1)) != runZ p (l.take (k + 1))) = false := by simp
        by_cases hz : k = 0
        · have hs : runZ p (l.take (k + 1)) = beginZ p l[k] := by
            rw [take_snoc l k hkl]; subst hz; rfl
          have HS := Lib.hid hs
          have t0 : ((k : Int) == 0) = true := by simp [hz]
          clear hs hc hz
          generalize runZ p (l.take k) = h at *
          generalize l[k] = x at *
          go_wp2_with fail
          refine (lawbegin_any _ _ (by omega) (by omega) _).mono ?_
          rintro e w' ⟨rfl, rfl⟩
          rw [← HS.out]
          go_wp2_with fail
          refine (run_any _ _ (k + 1) _ (l.take (k + 1)) _ HLen.out (by omega) HR2.out).mono ?_
          rintro e w1 ⟨rfl, hb⟩
          go_wp2_with fail
          go_roundw
          case rel => exact ⟨k + 1, by omega, by go_num, rfl, bel_call HBel.out hb⟩
          case measure => simp [intOf]; omega
        · have hs : runZ p (l.take (k + 1)) = nextZ (runZ p (l.take k)) l[k] := by
            rw [take_snoc l k hkl, runZ_snoc _ _ _ (by rw [List.length_take]; omega)]
          have HS := Lib.hid hs
          have t0 : ((k : Int) == 0) = false := by simp; omega
          clear hs hc hz
          generalize runZ p (l.take k) = h at *
          generalize l[k] = x at *
          go_wp2_with fail
          refine (lawnext_any _ _ (by omega) (by omega) _).mono ?_
          rintro e w' ⟨rfl, rfl⟩
          rw [← HS.out]
          go_wp2_with fail
          refine (run_any _ _ (k + 1) _ (l.take (k + 1)) _ HLen.out (by omega) HR2.out).mono ?_
          rintro e w1 ⟨rfl, hb⟩
          go_wp2_with fail
          go_roundw
          case rel => exact ⟨k + 1, by omega, by go_num, rfl, bel_call HBel.out hb⟩
          case measure => simp [intOf]; omega
    · obtain rfl : k = n := by omega
      have hz : l.take k = l := List.take_of_length_le (by rw [HN.out]; omega)
      rw [hz]
      clear hz
      have o : (runZ p l == runZ p l) = true := by simp
      have hr2 := (HR.out.below hbel).more hbel.size
      have HR2 := Lib.hid hr2
      have HBel := Lib.hid hbel
      clear hr2 hbel
      go_wp2_with fail
      refine (run_any _ _ _ _ l _ HN.out (by omega) HR2.out).mono ?_
      rintro e w1 ⟨rfl, hb⟩
      have HB := Lib.hid hb
      clear hb
      go_wp2_with fail
      refine (awake_any _).mono ?_
      rintro e w2 ⟨rfl, hb2⟩
      go_wp2_with fail
      go_ret
      exact ⟨rfl, bel_call (bel_call HBel.out HB.out) hb2⟩

theorem runsBig (p : Int) (b off n0 c : Nat) (l : List Int) (w : World) (hl : l.length = 40) (hn0 : 40 < n0) (hc0 : n0 ≤ c) (hcm : c ≤ 9223372036854775807) (hw : ∀ x ∈ l, -9223372036854775808 ≤ x ∧ x < 9223372036854775808) (hr : Row w w.heap.size (some ⟨b, off, none⟩) (l.map (.int .i64))) :
    Calls Try.prog 8 #[.int .i64 p, .slice (some ⟨b, off, none⟩) n0 c] w fun e w' => e = .returned (.bool true) ∧ Below w.heap.size w w' := by
  have HR := Lib.hid hr
  clear hr
  have HN := Lib.hid hl
  clear hl
  have HW := Lib.hid hw
  clear hw
  have hd : decide ((40 : Int) < (n0 : Int)) = true := by simp; omega
  go_enter Try.func8, Try.ntmps8
  go_wp2_with fail
  go_loopw [5, 6] (fun s i wr => ∃ k : Nat, k ≤ 40 ∧ i = .int .i64 k ∧ s = .int .i64 (runZ p (l.take k)) ∧ Below w.heap.size w wr) (fun _ i _ => 40 - (intOf i).toNat)
  case atStart => exact ⟨0, by omega, rfl, rfl, Below.refl _ _⟩
  case round =>
    obtain ⟨k, hk, rfl, rfl, hbel⟩ := hrel
    by_cases hlt : k < 40
    · have hkl : k < l.length := by rw [HN.out]; exact hlt
      have hrow := HR.out.below hbel
      obtain ⟨b1, off1, hA, hbl, hc⟩ := hrow.at_ (by intro h; simp at h; rw [h] at hkl; simp at hkl)
      obtain ⟨rfl, rfl⟩ : b = b1 ∧ off = off1 := by injection hA with hA; injection hA with h1 h2; exact ⟨h1, h2⟩
      have hcell : wr.cell? ⟨b, off + k, none⟩ = some (.int .i64 (l[k])) := hc k _ (by simp [hkl])
      have hx := HW.out l[k] (List.getElem_mem hkl)
      have HBel := Lib.hid hbel
      have hr2 : Row wr wr.heap.size (some ⟨b, off, none⟩) ((l.take (k + 1)).map (.int .i64)) := by
        have := (hrow.more hbel.size).take (k + 1)
        rwa [← List.map_take] at this
      have HR2 := Lib.hid hr2
      have hlen : (l.take (k + 1)).length = k + 1 := by rw [List.length_take]; omega
      have HLen := Lib.hid hlen
      clear hr2 hrow hbel hlen
      by_cases hneg : l[k] < 0
      · clear hc
        generalize l[k] = x at *
        go_wp2_with fail
        refine (awake_any _).mono ?_
        rintro e w1 ⟨rfl, hb⟩
        go_wp2_with fail
        go_ret
        exact ⟨rfl, bel_call HBel.out hb⟩
      · have o : (runZ p (l.take (k + 1)) != runZ p (l.take (k + 1))) = false := by simp
        by_cases hz : k = 0
        · have hs : runZ p (l.take (k + 1)) = beginZ p l[k] := by
            rw [take_snoc l k hkl]; subst hz; rfl
          have HS := Lib.hid hs
          have t0 : ((k : Int) == 0) = true := by simp [hz]
          clear hs hc hz
          generalize runZ p (l.take k) = h at *
          generalize l[k] = x at *
          go_wp2_with fail
          refine (lawbegin_any _ _ (by omega) (by omega) _).mono ?_
          rintro e w' ⟨rfl, rfl⟩
          rw [← HS.out]
          go_wp2_with fail
          refine (run_any _ _ (k + 1) _ (l.take (k + 1)) _ HLen.out (by omega) HR2.out).mono ?_
          rintro e w1 ⟨rfl, hb⟩
          go_wp2_with fail
          go_roundw
          case rel => exact ⟨k + 1, by omega, by go_num, rfl, bel_call HBel.out hb⟩
          case measure => simp [intOf]; omega
        · have hs : runZ p (l.take (k + 1)) = nextZ (runZ p (l.take k)) l[k] := by
            rw [take_snoc l k hkl, runZ_snoc _ _ _ (by rw [List.length_take]; omega)]
          have HS := Lib.hid hs
          have t0 : ((k : Int) == 0) = false := by simp; omega
          clear hs hc hz
          generalize runZ p (l.take k) = h at *
          generalize l[k] = x at *
          go_wp2_with fail
          refine (lawnext_any _ _ (by omega) (by omega) _).mono ?_
          rintro e w' ⟨rfl, rfl⟩
          rw [← HS.out]
          go_wp2_with fail
          refine (run_any _ _ (k + 1) _ (l.take (k + 1)) _ HLen.out (by omega) HR2.out).mono ?_
          rintro e w1 ⟨rfl, hb⟩
          go_wp2_with fail
          go_roundw
          case rel => exact ⟨k + 1, by omega, by go_num, rfl, bel_call HBel.out hb⟩
          case measure => simp [intOf]; omega
    · obtain rfl : k = 40 := by omega
      have hz : l.take 40 = l := List.take_of_length_le (by rw [HN.out]; omega)
      rw [hz]
      clear hz
      have o : (runZ p l == runZ p l) = true := by simp
      have hr2 := (HR.out.below hbel).more hbel.size
      have HR2 := Lib.hid hr2
      have HBel := Lib.hid hbel
      clear hr2 hbel
      go_wp2_with fail
      refine (run_any _ _ _ _ l _ HN.out (by omega) HR2.out).mono ?_
      rintro e w1 ⟨rfl, hb⟩
      have HB := Lib.hid hb
      clear hb
      go_wp2_with fail
      refine (awake_any _).mono ?_
      rintro e w2 ⟨rfl, hb2⟩
      go_wp2_with fail
      go_ret
      exact ⟨rfl, bel_call (bel_call HBel.out HB.out) hb2⟩
end Go.Proofs.Ythbmgeggnkeejaa.connC
