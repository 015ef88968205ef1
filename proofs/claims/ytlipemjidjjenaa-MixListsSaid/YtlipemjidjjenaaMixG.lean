/- Layer 2: texts of the document and of the code are the same. -/
import Derived.Test.YtlipemjidjjenaaMixF
namespace Go.Proofs.Ytlipemjidjjenaa.mixG
open Go.ChangeShapes Go.WideShapes Go.ChangeAt Go.RowKit
open Go.Proofs.Ytlipemjidjjenaa.mixA Go.Proofs.Ytlipemjidjjenaa.base Go.Proofs.Ytlipemjidjjenaa.mixD Go.Proofs.Ytlipemjidjjenaa.mixE Go.Proofs.Ytlipemjidjjenaa.mixF
set_option linter.unusedVariables false

theorem putb_app (a b : List Int) (k : Nat) (c : Int) (h : k / 8 < a.length) : putb (a ++ b) k c = putb a k c ++ b := by
  unfold putb
  have e : (a ++ b).getD (k / 8) 0 = a.getD (k / 8) 0 := by
    rw [List.getD_eq_getElem?_getD, List.getD_eq_getElem?_getD, List.getElem?_append_left h]
  rw [List.set_append_left _ _ h, e]
theorem mw_rw (s : ByteArray) (k : Nat) (hk : k ≤ s.size) : mw s k = rw_ s k ++ List.replicate ((s.size + 7) / 8 - (k + 7) / 8) 0 := by
  induction k with
  | zero => simp [mw, rw_]
  | succ k ih =>
    have hl := rw_len s k
    rw [mw, ih (by omega)]
    by_cases hz : k % 8 = 0
    · have e : (s.size + 7) / 8 - (k + 7) / 8 = ((s.size + 7) / 8 - (k + 1 + 7) / 8) + 1 := by omega
      have e2 : ∀ (a b : List Int), a ++ 0 :: b = (a ++ [0]) ++ b := fun a b => by simp
      rw [e, List.replicate_succ, e2, putb_app _ _ _ _ (by simp [hl]; omega)]
      simp [rw_, rwPre, hz]
    · have e : (s.size + 7) / 8 - (k + 7) / 8 = (s.size + 7) / 8 - (k + 1 + 7) / 8 := by omega
      rw [e, putb_app _ _ _ _ (by rw [hl]; omega)]
      simp [rw_, rwPre, hz]
theorem mw_all (s : ByteArray) : mw s s.size = rw_ s s.size := by
  rw [mw_rw s s.size (Nat.le_refl _)]; simp

theorem reftext_any (key : Int) (s : ByteArray) (hs : s.size ≤ 200) (w : World) :
    Calls Try.prog 38 #[.int .u64 key, .string s] w fun e w' => e = .returned (.int .u64 (oneZ (bits .xor .u64 (ofZ key (mw s s.size)) s.size))) ∧ Below w.heap.size w w' := by
  have hl := rw_len s s.size
  rw [mw_all]
  go_enter Try.func38, Try.ntmps38
  go_wp2_with fail
  refine (words_any s hs w).mono ?_
  rintro e w1 ⟨v, rfl, hown, hbel⟩
  obtain ⟨A, c, rfl⟩ := own_slice hown
  have hrow := own_row hown
  have HB := Lib.hid hbel
  clear hown hbel
  go_wp2_with fail
  refine (refof_any key A _ c (rw_ s s.size) w1 _ hl (by omega) hrow).mono ?_
  rintro e w2 ⟨rfl, rfl⟩
  clear hl hrow
  go_wp2_with (go_at_call 32; refine (refone_any _ _).mono ?_; rintro e w' ⟨rfl, rfl⟩)
  go_ret
  exact ⟨rfl, HB.out⟩

theorem mixLists_any (key : Int) (A : Option Addr) (n c : Nat) (zs : List Int) (s : ByteArray) (w : World) (hz : n ≤ zs.length) (hzc : zs.length = c) (hc : c ≤ maxLen)
    (hr : Row w w.heap.size A (zs.map (.int .u64))) (hs : s.size ≤ maxLen) :
    Calls Try.prog 8 #[.int .u64 key, .slice A n c, .string s] w fun e w' => e = .returned (.bool true) ∧ Below w.heap.size w w' := by
  have q : ∀ x : Int, (x == x) = true := fun x => by simp
  unfold maxLen at hc hs
  have hzc' : n ≤ c := by omega
  have HZ := Lib.hid hz
  have HR := Lib.hid hr
  clear hz hr hzc
  by_cases hn : n ≤ 40
  · have hl : (zs.take n).length = n := by rw [List.length_take]; have := HZ.out; omega
    have hr : Row w w.heap.size A ((zs.take n).map (.int .u64)) := by rw [List.map_take]; exact HR.out.take n
    have q1 := q (ofZ key (zs.take n))
    generalize zs.take n = l' at *
    by_cases h2 : s.size ≤ 200
    · have hs := h2
      have q2 := q (oneZ (bits .xor .u64 (ofZ key (mw s s.size)) s.size))
      clear q
      go_enter Try.func8, Try.ntmps8
      go_wp2_with (first
      | (go_at_call 35; refine (of_any _ _ _ _ l' _ _ hl (by omega) hr).mono ?_; rintro e w' ⟨rfl, rfl⟩)
      | (go_at_call 36; refine (refof_any _ _ _ _ l' _ _ hl (by omega) hr).mono ?_; rintro e w' ⟨rfl, rfl⟩)
      | (go_at_call 37; refine (text_any _ _ hs _).mono ?_; rintro e w1 ⟨rfl, hb1⟩; have HB1 := Lib.hid hb1; clear hb1)
      | (go_at_call 38; refine (reftext_any _ _ hs _).mono ?_; rintro e w2 ⟨rfl, hb2⟩; have HB2 := Lib.hid hb2; clear hb2)
      | (go_at_call 34; refine (awake_any _).mono ?_; rintro e w' ⟨rfl, rfl⟩))
      go_ret
      exact ⟨rfl, HB1.out.trans (HB2.out.mono HB1.out.size)⟩
    · obtain ⟨s', hs'⟩ : ∃ s', s' = s.extract 0 200 := ⟨_, rfl⟩
      have hsz : s'.size = 200 := by rw [hs']; simp; omega
      have hs0 : s'.size ≤ 200 := by omega
      have q2 := q (oneZ (bits .xor .u64 (ofZ key (mw s' s'.size)) s'.size))
      have e := hs'.symm
      clear q hs' hsz
      go_enter Try.func8, Try.ntmps8
      go_wp2_with (first
      | (go_at_call 35; refine (of_any _ _ _ _ l' _ _ hl (by omega) hr).mono ?_; rintro e w' ⟨rfl, rfl⟩)
      | (go_at_call 36; refine (refof_any _ _ _ _ l' _ _ hl (by omega) hr).mono ?_; rintro e w' ⟨rfl, rfl⟩)
      | (go_at_call 37; refine (text_any _ _ hs0 _).mono ?_; rintro e w1 ⟨rfl, hb1⟩; have HB1 := Lib.hid hb1; clear hb1)
      | (go_at_call 38; refine (reftext_any _ _ hs0 _).mono ?_; rintro e w2 ⟨rfl, hb2⟩; have HB2 := Lib.hid hb2; clear hb2)
      | (go_at_call 34; refine (awake_any _).mono ?_; rintro e w' ⟨rfl, rfl⟩))
      go_ret
      exact ⟨rfl, HB1.out.trans (HB2.out.mono HB1.out.size)⟩
  · have hl : (zs.take 40).length = 40 := by rw [List.length_take]; have := HZ.out; omega
    have hr0 : Row w w.heap.size A ((zs.take 40).map (.int .u64)) := by rw [List.map_take]; exact HR.out.take 40
    obtain ⟨b, off, rfl, _⟩ := hr0.at_ (by intro h; have h2 := congrArg List.length h; rw [List.length_map, hl] at h2; simp at h2)
    have hr : Row w w.heap.size (some ⟨b, off, none⟩) ((zs.take 40).map (.int .u64)) := hr0
    have q1 := q (ofZ key (zs.take 40))
    clear hr0
    generalize zs.take 40 = l' at *
    by_cases h2 : s.size ≤ 200
    · have hs := h2
      have q2 := q (oneZ (bits .xor .u64 (ofZ key (mw s s.size)) s.size))
      clear q
      go_enter Try.func8, Try.ntmps8
      go_wp2_with (first
      | (go_at_call 35; refine (of_any _ _ _ _ l' _ _ hl (by omega) hr).mono ?_; rintro e w' ⟨rfl, rfl⟩)
      | (go_at_call 36; refine (refof_any _ _ _ _ l' _ _ hl (by omega) hr).mono ?_; rintro e w' ⟨rfl, rfl⟩)
      | (go_at_call 37; refine (text_any _ _ hs _).mono ?_; rintro e w1 ⟨rfl, hb1⟩; have HB1 := Lib.hid hb1; clear hb1)
      | (go_at_call 38; refine (reftext_any _ _ hs _).mono ?_; rintro e w2 ⟨rfl, hb2⟩; have HB2 := Lib.hid hb2; clear hb2)
      | (go_at_call 34; refine (awake_any _).mono ?_; rintro e w' ⟨rfl, rfl⟩))
      go_ret
      exact ⟨rfl, HB1.out.trans (HB2.out.mono HB1.out.size)⟩
    · obtain ⟨s', hs'⟩ : ∃ s', s' = s.extract 0 200 := ⟨_, rfl⟩
      have hsz : s'.size = 200 := by rw [hs']; simp; omega
      have hs0 : s'.size ≤ 200 := by omega
      have q2 := q (oneZ (bits .xor .u64 (ofZ key (mw s' s'.size)) s'.size))
      have e := hs'.symm
      clear q hs' hsz
      go_enter Try.func8, Try.ntmps8
      go_wp2_with (first
      | (go_at_call 35; refine (of_any _ _ _ _ l' _ _ hl (by omega) hr).mono ?_; rintro e w' ⟨rfl, rfl⟩)
      | (go_at_call 36; refine (refof_any _ _ _ _ l' _ _ hl (by omega) hr).mono ?_; rintro e w' ⟨rfl, rfl⟩)
      | (go_at_call 37; refine (text_any _ _ hs0 _).mono ?_; rintro e w1 ⟨rfl, hb1⟩; have HB1 := Lib.hid hb1; clear hb1)
      | (go_at_call 38; refine (reftext_any _ _ hs0 _).mono ?_; rintro e w2 ⟨rfl, hb2⟩; have HB2 := Lib.hid hb2; clear hb2)
      | (go_at_call 34; refine (awake_any _).mono ?_; rintro e w' ⟨rfl, rfl⟩))
      go_ret
      exact ⟨rfl, HB1.out.trans (HB2.out.mono HB1.out.size)⟩
end Go.Proofs.Ytlipemjidjjenaa.mixG
