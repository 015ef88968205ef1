/- Layer 28: begin, run, the law on states. -/
import Derived.Test.YthbmgeggnkeejaaConnA
import Derived.Test.YthbmgeggnkeejaaKeep
namespace Go.Proofs.Ythbmgeggnkeejaa.connB
open Go.ChangeShapes Go.WideShapes Go.ChangeAt Go.RowKit
open Go.Proofs.Ythbmgeggnkeejaa.base Go.Proofs.Ythbmgeggnkeejaa.connA
set_option linter.unusedVariables false

theorem begin_any (p f : Int) (w : World) :
    Calls Try.prog 28 #[.int .i64 p, .int .i64 f] w fun e w' => e = .returned (.int .i64 (beginZ p f)) ∧ Below w.heap.size w w' := by
  by_cases h : p = 6
  · have hv : beginZ p f = nextZ 2 f := by simp [beginZ, h]
    have t : (p != 6) = false := by simp [h]
    rw [hv]
    clear hv h
    go_enter Try.func28, Try.ntmps28
    go_wp2_with fail
    refine (next_any _ _ _).mono ?_
    rintro e w1 ⟨rfl, hb⟩
    go_wp2_with fail
    go_ret
    exact ⟨rfl, hb⟩
  · have hv : beginZ p f = 5 := by simp [beginZ, h]
    have t : (p != 6) = true := by simp [h]
    rw [hv]
    clear hv h
    go_enter Try.func28, Try.ntmps28
    go_wp2
    go_ret
    exact ⟨rfl, Below.refl _ _⟩
theorem lawbegin_any (p f : Int) (h0 : 0 ≤ f) (h1 : f < 9223372036854775808) (w : World) :
    Calls Try.prog 29 #[.int .i64 p, .int .i64 f] w fun e w' => e = .returned (.int .i64 (beginZ p f)) ∧ w = w' := by
  by_cases h : p = 6
  · have hv : beginZ p f = nextZ 2 f := by simp [beginZ, h]
    have t : (p != 6) = false := by simp [h]
    rw [hv]
    clear hv h
    go_enter Try.func29, Try.ntmps29
    go_wp2_with fail
    refine (lawnext_any _ _ h0 h1 _).mono ?_
    rintro e w' ⟨rfl, rfl⟩
    go_wp2_with fail
    go_ret
    exact ⟨rfl, rfl⟩
  · have hv : beginZ p f = 5 := by simp [beginZ, h]
    have t : (p != 6) = true := by simp [h]
    rw [hv]
    clear hv h
    go_enter Try.func29, Try.ntmps29
    go_wp2
    go_ret
    exact ⟨rfl, rfl⟩

def runZ (p : Int) : List Int → Int
  | [] => 0
  | f :: r => r.foldl nextZ (beginZ p f)
theorem runZ_one (p f : Int) : runZ p [f] = beginZ p f := rfl
theorem runZ_snoc (p : Int) (l : List Int) (f : Int) (h : 0 < l.length) : runZ p (l ++ [f]) = nextZ (runZ p l) f := by
  cases l with
  | nil => simp at h
  | cons a r => simp [runZ]
theorem take_snoc (l : List Int) (k : Nat) (h : k < l.length) : l.take (k + 1) = l.take k ++ [l[k]] := List.take_succ_eq_append_getElem h

theorem run_any (p : Int) (A : Option Addr) (n c : Nat) (l : List Int) (w : World) (hl : l.length = n) (hn : n ≤ 1000000) (hr : Row w w.heap.size A (l.map (.int .i64))) :
    Calls Try.prog 32 #[.int .i64 p, .slice A n c] w fun e w' => e = .returned (.int .i64 (runZ p l)) ∧ Below w.heap.size w w' := by
  have HR := Lib.hid hr
  clear hr
  have HN := Lib.hid hl
  clear hl
  go_enter Try.func32, Try.ntmps32
  go_wp2_with fail
  go_loopw [5, 10] (fun s i wr => ∃ k : Nat, k ≤ n ∧ i = .int .i64 k ∧ s = .int .i64 (runZ p (l.take k)) ∧ Below w.heap.size w wr) (fun _ i _ => n - (intOf i).toNat)
  case atStart => exact ⟨0, by omega, rfl, rfl, Below.refl _ _⟩
  case round =>
    obtain ⟨k, hk, rfl, rfl, hbel⟩ := hrel
    by_cases hlt : k < n
    · have hkl : k < l.length := by rw [HN.out]; exact hlt
      obtain ⟨b, off, rfl, hbl, hc⟩ := (HR.out.below hbel).at_ (by intro h; simp at h; rw [h] at hkl; simp at hkl)
      have hcell : wr.cell? ⟨b, off + k, none⟩ = some (.int .i64 (l[k])) := hc k _ (by simp [hkl])
      have HBel := Lib.hid hbel
      by_cases hz : k = 0
      · have hs : runZ p (l.take (k + 1)) = beginZ p l[k] := by
          rw [take_snoc l k hkl]; subst hz; rfl
        have HS := Lib.hid hs
        have t0 : ((k : Int) == 0) = true := by simp [hz]
        clear hs hc hbel hz
        generalize runZ p (l.take k) = h at *
        generalize l[k] = x at *
        go_wp2_with fail
        refine (begin_any _ _ _).mono ?_
        rintro e w1 ⟨rfl, hb⟩
        go_wp2_with fail
        go_roundw
        case rel => exact ⟨k + 1, by omega, by go_num, by rw [HS.out], bel_call HBel.out hb⟩
        case measure => simp [intOf]; omega
      · have hs : runZ p (l.take (k + 1)) = nextZ (runZ p (l.take k)) l[k] := by
          rw [take_snoc l k hkl, runZ_snoc _ _ _ (by rw [List.length_take]; omega)]
        have HS := Lib.hid hs
        have t0 : ((k : Int) == 0) = false := by simp; omega
        clear hs hc hbel hz
        generalize runZ p (l.take k) = h at *
        generalize l[k] = x at *
        go_wp2_with fail
        refine (next_any _ _ _).mono ?_
        rintro e w1 ⟨rfl, hb⟩
        go_wp2_with fail
        go_roundw
        case rel => exact ⟨k + 1, by omega, by go_num, by rw [HS.out], bel_call HBel.out hb⟩
        case measure => simp [intOf]; omega
    · go_wp2
      go_ret
      exact ⟨by rw [List.take_of_length_le (by rw [HN.out]; omega)]; rfl, hbel⟩

theorem awake_any (w : World) :
    Calls Try.prog 27 #[] w fun e w' => e = .returned (.bool true) ∧ Below w.heap.size w w' := by
  have o : (runZ 6 [2, 16, 17] == 3) = true := by decide
  go_enter Try.func27, Try.ntmps27
  go_wp2_with fail
  refine (run_any 6 _ 3 3 [2, 16, 17] _ rfl (by omega) (.inr ⟨_, 0, rfl, by simp, fun i u hu => ?_⟩)).mono ?_
  · rw [Nat.zero_add]
    rw [(Blk.new w 3 #[.int .i64 2, .int .i64 16, .int .i64 17]).cell i]
    simpa using hu
  rintro e w1 ⟨rfl, hb⟩
  go_wp2_with fail
  go_ret
  exact ⟨rfl, ((Below.refl _ _).alloc (Nat.le_refl _) _).trans (hb.mono (by simp))⟩

theorem connStates_any (p s f : Int) (g1 : f < 9223372036854775808) (w : World) :
    Calls Try.prog 7 #[.int .i64 p, .int .i64 s, .int .i64 f] w fun e w' => e = .returned (.bool true) ∧ Below w.heap.size w w' := by
  by_cases hf : f < 0
  · go_enter Try.func7, Try.ntmps7
    go_wp2_with (go_at_call 27; refine (awake_any _).mono ?_; rintro e w' ⟨rfl, hb⟩)
    go_ret
    exact ⟨rfl, hb⟩
  · have g0 : 0 ≤ f := by omega
    have o1 : (beginZ p f == beginZ p f) = true := by simp
    have o2 : (nextZ s f == nextZ s f) = true := by simp
    go_enter Try.func7, Try.ntmps7
    go_wp2_with fail
    refine (begin_any _ _ _).mono ?_
    rintro e w1 ⟨rfl, hb1⟩
    go_wp2_with fail
    refine (lawbegin_any _ _ g0 g1 _).mono ?_
    rintro e w' ⟨rfl, rfl⟩
    go_wp2_with fail
    refine (next_any _ _ _).mono ?_
    rintro e w2 ⟨rfl, hb2⟩
    go_wp2_with fail
    refine (lawnext_any _ _ g0 g1 _).mono ?_
    rintro e w' ⟨rfl, rfl⟩
    go_wp2_with fail
    refine (awake_any _).mono ?_
    rintro e w3 ⟨rfl, hb3⟩
    go_wp2_with fail
    go_ret
    exact ⟨rfl, bel_call (bel_call hb1 hb2) hb3⟩
end Go.Proofs.Ythbmgeggnkeejaa.connB
