/- Layer 16: which names may be. -/
import Derived.Test.YtamndmlaikgogaaDfA
namespace Go.Proofs.Ytamndmlaikgogaa.treA
open Go.ChangeShapes Go.WideShapes Go.ChangeAt Go.RowKit
open Go.Proofs.Ytamndmlaikgogaa.base Go.Proofs.Ytamndmlaikgogaa.dfA
set_option linter.unusedVariables false

/-- May a byte stand in a name? -/
def chB (c : Int) : Bool := (decide (97 ≤ c) && decide (c ≤ 122)) || (decide (65 ≤ c) && decide (c ≤ 90)) || (decide (48 ≤ c) && decide (c ≤ 57)) || c == 45 || c == 95 || c == 46
theorem ch_yes {c : Int} (h : (97 ≤ c ∧ c ≤ 122) ∨ (65 ≤ c ∧ c ≤ 90) ∨ (48 ≤ c ∧ c ≤ 57) ∨ c = 45 ∨ c = 95 ∨ c = 46) : chB c = true := by
  simp only [chB, Bool.or_eq_true, Bool.and_eq_true, decide_eq_true_eq, beq_iff_eq]
  omega
theorem ch_no {c : Int} (h : ¬ ((97 ≤ c ∧ c ≤ 122) ∨ (65 ≤ c ∧ c ≤ 90) ∨ (48 ≤ c ∧ c ≤ 57) ∨ c = 45 ∨ c = 95 ∨ c = 46)) : chB c = false := by
  cases hq : chB c with
  | false => rfl
  | true =>
    simp only [chB, Bool.or_eq_true, Bool.and_eq_true, decide_eq_true_eq, beq_iff_eq] at hq
    omega
def okTo (s : ByteArray) (k : Nat) : Bool := (s.data.toList.take k).all fun c => chB (c.toNat : Int)
/-- May a name be? -/
def nameB (s : ByteArray) : Bool := decide (1 ≤ s.size) && decide (s.size ≤ 32) && okTo s s.size
theorem okTo_next {s : ByteArray} {k : Nat} (hk : k < s.size) : okTo s (k + 1) = (okTo s k && chB (s[k].toNat : Int)) := by
  unfold okTo
  rw [List.take_succ_eq_append_getElem (by simpa using hk), List.all_append]
  simp only [List.all_cons, List.all_nil, Bool.and_true]
  rfl
theorem okTo_all {s : ByteArray} {k : Nat} (hk : s.size ≤ k) : okTo s k = okTo s s.size := by
  unfold okTo
  rw [List.take_of_length_le (by simpa using hk), List.take_of_length_le (by simp)]
theorem okTo_bad {s : ByteArray} {k : Nat} (hk : k < s.size) (h : chB (s[k].toNat : Int) = false) : okTo s s.size = false := by
  cases hq : okTo s s.size with
  | false => rfl
  | true =>
    unfold okTo at hq
    rw [List.all_eq_true] at hq
    have h2 := hq s[k] (by
      rw [List.take_of_length_le (by simp)]
      exact List.getElem_mem (by simpa using hk))
    rw [h] at h2
    cases h2
theorem name_bad {s : ByteArray} {k : Nat} (hk : k < s.size) (h : chB (s[k].toNat : Int) = false) : nameB s = false := by
  unfold nameB
  rw [okTo_bad hk h, Bool.and_false]
set_option maxHeartbeats 2000000 in
theorem name_any (s : ByteArray) (w : World) (hs : s.size ≤ 9223372036854775807) : Calls Try.prog 57 #[.string s] w fun e w' => e = .returned (.bool (nameB s)) ∧ w = w' := by
  have HNB := Lib.hid (show ∀ k, (hk : k < s.size) → chB (s[k].toNat : Int) = false → nameB s = false from fun k hk h => name_bad hk h)
  have HNX := Lib.hid (show ∀ k, (hk : k < s.size) → chB (s[k].toNat : Int) = true → okTo s k = true → okTo s (k + 1) = true from fun k hk h h2 => by rw [okTo_next hk, h, h2]; rfl)
  have HE := Lib.hid (show okTo s s.size = true → nameB s = (decide (1 ≤ (s.size : Int)) && decide ((s.size : Int) ≤ 32)) from fun h => by
    unfold nameB
    rw [h, Bool.and_true]
    congr 1
    · simp only [decide_eq_decide]; omega
    · simp only [decide_eq_decide]; omega)
  go_enter Try.func57, Try.ntmps57
  go_wp2
  go_loop [8] (fun i => ∃ k : Nat, k ≤ s.size ∧ i = .int .i64 k ∧ Hid (okTo s k = true)) (fun i => s.size - (intOf i).toNat)
  case atStart => exact ⟨0, Nat.zero_le _, rfl, Lib.hid rfl⟩
  case round =>
    obtain ⟨k, hk, rfl, HK⟩ := hrel
    by_cases hlt : k < s.size
    · have hb1 := s[k].toNat_lt
      go_wp2
      all_goals (try simp only [Bool.not_eq_eq_eq_not, Bool.not_true, Bool.not_false, decide_eq_true_eq, decide_eq_false_iff_not, bne_iff_ne, bne_eq_false_iff_eq, ne_eq] at *)
      all_goals first
        | (have e := HNB.out k hlt (ch_no (by omega))
           rw [e]
           go_ret
           exact ⟨rfl, rfl⟩)
        | (have hy := ch_yes (c := (s[k].toNat : Int)) (by omega)
           refine ⟨⟨k + 1, by omega, rfl, Lib.hid (HNX.out k hlt hy HK.out)⟩, ?_⟩
           simp only [intOf]
           omega)
    · obtain rfl : k = s.size := by omega
      have H5 := Lib.hid (HE.out HK.out)
      go_wp2
      all_goals rw [H5.out]
      all_goals first
        | (rw [show (decide (1 ≤ (s.size : Int)) && decide ((s.size : Int) ≤ 32)) = true by simp only [Bool.and_eq_true, decide_eq_true_eq]; omega]; go_ret; exact ⟨rfl, rfl⟩)
        | (rw [show (decide (1 ≤ (s.size : Int)) && decide ((s.size : Int) ≤ 32)) = false by simp only [Bool.and_eq_false_iff, decide_eq_false_iff_not]; omega]; go_ret; exact ⟨rfl, rfl⟩)
        | (rw [show decide (1 ≤ (s.size : Int)) = true from decide_eq_true (by omega), Bool.true_and]; go_ret; exact ⟨rfl, rfl⟩)
end Go.Proofs.Ytamndmlaikgogaa.treA
