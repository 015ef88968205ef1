/- Layer 1: how fractions compare. -/
import Derived.Test.YtanijccpbleekaaWideE
namespace Go.Proofs.Ytanijccpbleekaa.wideF
open Go.ChangeShapes Go.WideShapes Go.ChangeAt Go.RowKit
open Go.Proofs.Ytanijccpbleekaa.base Go.Proofs.Ytanijccpbleekaa.wideA Go.Proofs.Ytanijccpbleekaa.wideB Go.Proofs.Ytanijccpbleekaa.wideC Go.Proofs.Ytanijccpbleekaa.wideD
set_option linter.unusedVariables false

/-- How two fractions compare. -/
def cmpF (au ad bu bd : Int) : Int := if ad = 0 ∨ bd = 0 then (if ad = bd then 0 else if ad = 0 then 1 else -1) else cmpI (au * bd) (bu * ad)
theorem cmp128_div (p q : Int) : cmp128 (p / 18446744073709551616) (p % 18446744073709551616) (q / 18446744073709551616) (q % 18446744073709551616) = cmpI p q := by
  unfold cmp128 cmpI
  rcases Int.lt_trichotomy p q with h | h | h
  · have h1 : p / 18446744073709551616 < q / 18446744073709551616 ∨ (p / 18446744073709551616 = q / 18446744073709551616 ∧ p % 18446744073709551616 < q % 18446744073709551616) := by omega
    rcases h1 with h1 | ⟨h1, h2⟩
    · have h3 : ¬ p / 18446744073709551616 = q / 18446744073709551616 := by omega
      rw [if_neg h3, if_pos h1, if_pos h]
    · rw [if_pos h1, if_pos h2, if_pos h]
  · subst h
    simp
  · have h1 : q / 18446744073709551616 < p / 18446744073709551616 ∨ (p / 18446744073709551616 = q / 18446744073709551616 ∧ q % 18446744073709551616 < p % 18446744073709551616) := by omega
    have h4 : ¬ p < q := by omega
    rcases h1 with h1 | ⟨h1, h2⟩
    · have h3 : ¬ p / 18446744073709551616 = q / 18446744073709551616 := by omega
      have h5 : ¬ p / 18446744073709551616 < q / 18446744073709551616 := by omega
      rw [if_neg h3, if_neg h5, if_pos h1, if_neg h4, if_pos h]
    · have h5 : ¬ p % 18446744073709551616 < q % 18446744073709551616 := by omega
      rw [if_pos h1, if_neg h5, if_pos h2, if_neg h4, if_pos h]
theorem cmpF_bd (au ad bu bd : Int) : -1 ≤ cmpF au ad bu bd ∧ cmpF au ad bu bd ≤ 1 := by
  unfold cmpF cmpI
  split <;> (split <;> (try split)) <;> omega
theorem cmpF_neg (au ad bu bd : Int) : cmpF bu bd au ad = - cmpF au ad bu bd := by
  unfold cmpF cmpI
  by_cases h : ad = 0 <;> by_cases h2 : bd = 0
  · simp [h, h2]
  · have h3 : ¬ (0 = bd) := fun e => h2 e.symm
    simp [h, h2, h3]
  · have h3 : ¬ (0 = ad) := fun e => h e.symm
    simp [h, h2, h3]
  · simp only [h, h2, or_self, if_false]
    generalize au * bd = p
    generalize bu * ad = q
    split <;> split <;> (try split) <;> omega

theorem keep4 {W w w' : World} {p1 p2 p3 p4 : Addr} {v1 v2 v3 v4 : Value}
    (h : Below W.heap.size W w ∧ w.cell? p1 = some v1 ∧ w.cell? p2 = some v2 ∧ w.cell? p3 = some v3 ∧ w.cell? p4 = some v4) (hb : Below w.heap.size w w') :
    Below W.heap.size W w' ∧ w'.cell? p1 = some v1 ∧ w'.cell? p2 = some v2 ∧ w'.cell? p3 = some v3 ∧ w'.cell? p4 = some v4 := by
  obtain ⟨h0, h1, h2, h3, h4⟩ := h
  exact ⟨h0.trans (hb.mono h0.size), keep1 h1 hb, keep1 h2 hb, keep1 h3 hb, keep1 h4 hb⟩
theorem boxes {w : World} {a b c d : Value} (t : TypeId) (W : World) (hW : W = (w.alloc (.cells #[a, b] t)).alloc (.cells #[c, d] t)) :
    Below W.heap.size W W.drew ∧ W.drew.cell? ⟨w.heap.size, 0, none⟩ = some a ∧ W.drew.cell? ⟨w.heap.size, 1, none⟩ = some b ∧ W.drew.cell? ⟨w.heap.size + 1, 0, none⟩ = some c ∧ W.drew.cell? ⟨w.heap.size + 1, 1, none⟩ = some d := by
  subst hW
  refine ⟨(Below.refl _ _).drew, ?_, ?_, ?_, ?_⟩ <;> simp [go_sem]

theorem fracCmp_any (au ad bu bd : Int) (a1 : 0 ≤ au) (a2 : au < 18446744073709551616) (b1 : 0 ≤ ad) (b2 : ad < 18446744073709551616) (c1 : 0 ≤ bu) (c2 : bu < 18446744073709551616) (d1 : 0 ≤ bd) (d2 : bd < 18446744073709551616) (w : World) :
    Calls Try.prog 23 #[.agg #[.int .u64 au, .int .u64 ad], .agg #[.int .u64 bu, .int .u64 bd]] w fun e w' => e = .returned (.int .i64 (cmpF au ad bu bd)) ∧ Below w.heap.size w w' := by
  by_cases h : ad = 0
  · by_cases h2 : bd = 0
    · have e : cmpF au ad bu bd = 0 := by simp [cmpF, h, h2]
      rw [e]
      subst h h2
      clear e
      go_enter Try.func23, Try.ntmps23
      go_wp2
      go_ret
      exact ⟨rfl, by go_grown⟩
    · have h3 : ¬ (0 = bd) := fun e => h2 e.symm
      have e : cmpF au ad bu bd = 1 := by simp [cmpF, h, h3]
      rw [e]
      subst h
      have f1 : (bd == 0) = false := by simpa using h2
      have f2 : (0 == bd) = false := by simpa using h3
      clear e h2 h3
      go_enter Try.func23, Try.ntmps23
      go_wp2
      go_ret
      exact ⟨rfl, by go_grown⟩
  · have f1 : (ad == 0) = false := by simpa using h
    by_cases h2 : bd = 0
    · have e : cmpF au ad bu bd = -1 := by simp [cmpF, h, h2]
      rw [e]
      subst h2
      clear e h
      go_enter Try.func23, Try.ntmps23
      go_wp2
      go_ret
      exact ⟨rfl, by go_grown⟩
    · have f2 : (bd == 0) = false := by simpa using h2
      have e : cmpF au ad bu bd = cmpI (au * bd) (bu * ad) := by simp [cmpF, h, h2]
      rw [e]
      have E := Lib.hid (cmp128_div (au * bd) (bu * ad))
      clear e h h2
      go_enter Try.func23, Try.ntmps23
      go_wp2_with fail
      have hbel : Below w.heap.size w ((w.alloc (.cells #[.int .u64 au, .int .u64 ad] 52)).alloc (.cells #[.int .u64 bu, .int .u64 bd] 52)) := (((Below.refl _ _).alloc (Nat.le_refl _) _).alloc (by simp) _)
      have k := boxes (w := w) (a := .int .u64 au) (b := .int .u64 ad) (c := .int .u64 bu) (d := .int .u64 bd) 52 _ rfl
      generalize (w.alloc (.cells #[.int .u64 au, .int .u64 ad] 52)).alloc (.cells #[.int .u64 bu, .int .u64 bd] 52) = W at *
      have h0 := k
      clear k
      have HBel := Lib.hid hbel
      clear hbel
      go_region_held3 (fun w' => Below W.heap.size W w' ∧ w'.cell? ⟨w.heap.size, 0, none⟩ = some (.int .u64 au) ∧ w'.cell? ⟨w.heap.size, 1, none⟩ = some (.int .u64 ad) ∧ w'.cell? ⟨w.heap.size + 1, 0, none⟩ = some (.int .u64 bu) ∧ w'.cell? ⟨w.heap.size + 1, 1, none⟩ = some (.int .u64 bd))
        (first | exact h0 | (refine keep4 ?_ hb; assumption))
        (first
          | (go_at_call 31; refine (mul_any _ _ (by omega) (by omega) (by omega) (by omega) _).mono ?_; rintro e w' ⟨rfl, hb⟩)
          | (go_at_call 32; refine (numCmp_any _ _ _ _ _).mono ?_; rintro e w' ⟨rfl, hb⟩))
      go_wp2
      go_ret
      refine ⟨ret_int E.out, HBel.out.trans (Below.mono (B := W.heap.size) ?_ HBel.out.size)⟩
      rename_i hH
      exact hH.1

end Go.Proofs.Ytanijccpbleekaa.wideF
