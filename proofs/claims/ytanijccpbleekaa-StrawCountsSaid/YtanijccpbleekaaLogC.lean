/- Layer 3: what draws are, and the law that greater ones are not more. -/
import Derived.Test.YtanijccpbleekaaLogB
namespace Go.Proofs.Ytanijccpbleekaa.logC
open Go.ChangeShapes Go.WideShapes Go.ChangeAt Go.RowKit
open Go.Proofs.Ytanijccpbleekaa.base Go.Proofs.Ytanijccpbleekaa.logA Go.Proofs.Ytanijccpbleekaa.logB
set_option linter.unusedVariables false

def heldN (d : Int) : Nat := if d < 1 then 1 else if 65536 < d then 65536 else d.toNat
theorem heldN_bd (d : Int) : 1 ≤ heldN d ∧ heldN d ≤ 65536 := by unfold heldN; split <;> (try split) <;> omega
theorem heldN_le {a b : Int} (h : a ≤ b) : heldN a ≤ heldN b := by unfold heldN; split <;> split <;> (try split) <;> (try split) <;> omega
def ofZ (d : Int) : Int := 268435456 - logZ (heldN d)
theorem logZ_16 : logZ 65536 = 268435456 := logZ_pow 16 (by omega)
theorem logZ_top {n : Nat} (h0 : 1 ≤ n) (h : n ≤ 65536) : 0 ≤ logZ n ∧ logZ n ≤ 268435456 := by
  have := logZ_le (m := n) (n := 65536) (by omega) h (by omega)
  rw [logZ_16] at this
  exact ⟨(logZ_bd (by omega)).1, this⟩
theorem ofZ_bd (d : Int) : 0 ≤ ofZ d ∧ ofZ d ≤ 268435456 := by
  have h := heldN_bd d
  have := logZ_top h.1 h.2
  unfold ofZ; omega
theorem ofZ_le {a b : Int} (h : a ≤ b) : ofZ b ≤ ofZ a := by
  have h1 := heldN_bd a
  have h2 := heldN_bd b
  have := logZ_le (m := heldN a) (n := heldN b) (by omega) (heldN_le h) (by omega)
  unfold ofZ; omega
theorem ofZ_pow (k : Nat) (hk : k ≤ 16) : ofZ ((2 ^ k : Nat) : Int) = (16 - (k : Int)) * 16777216 := by
  have h1 : 1 ≤ 2 ^ k := Nat.one_le_two_pow
  have h2 : 2 ^ k ≤ 65536 := by
    have := Nat.pow_le_pow_right (n := 2) (by omega) hk
    simpa using this
  have e : heldN ((2 ^ k : Nat) : Int) = 2 ^ k := by unfold heldN; rw [if_neg (by omega), if_neg (by omega), Int.toNat_natCast]
  unfold ofZ
  rw [e, logZ_pow k (by omega)]
  omega

theorem held_any (d : Int) (w : World) :
    Calls Try.prog 19 #[.int .i64 d] w fun e w' => e = .returned (.int .i64 (heldN d)) ∧ w = w' := by
  have e : min (max d 1) 65536 = (heldN d : Int) := by unfold heldN; split <;> (try split) <;> omega
  go_enter Try.func19, Try.ntmps19
  go_wp2
  go_ret
  exact ⟨rfl, rfl⟩

theorem of_any (d : Int) (w : World) :
    Calls Try.prog 7 #[.int .i64 d] w fun e w' => e = .returned (.int .u64 (ofZ d)) ∧ w = w' := by
  have hb := heldN_bd d
  have hl := logZ_top hb.1 hb.2
  have he : 268435456 - logZ (heldN d) = ofZ d := rfl
  generalize hn : heldN d = n at *
  have HN := Lib.hid hn
  have HE := Lib.hid he
  clear hn he
  have H := fun w => held_any d w
  rw [HN.out] at H
  have HH := Lib.hid H
  clear H
  go_enter Try.func7, Try.ntmps7
  go_wp2_with (first
    | (go_at_call 19; refine (HH.out _).mono ?_; rintro e w' ⟨rfl, rfl⟩)
    | (go_at_call 18; refine (log2_any n (by omega) _).mono ?_; rintro e w' ⟨rfl, rfl⟩))
  go_ret
  exact ⟨by rw [← HE.out]; rfl, rfl⟩

theorem awake_any (w : World) :
    Calls Try.prog 10 #[] w fun e w' => e = .returned (.bool true) ∧ w = w' := by
  have e1 : (ofZ 65536 == 0) = true := by
    have := ofZ_pow 16 (by omega)
    simpa using this
  have e2 : (ofZ 32768 == 16777216) = true := by
    have := ofZ_pow 15 (by omega)
    simpa using this
  go_enter Try.func10, Try.ntmps10
  go_wp2_with (go_at_call 7; refine (of_any _ _).mono ?_; rintro e w' ⟨rfl, rfl⟩)
  go_ret
  exact ⟨rfl, rfl⟩
end Go.Proofs.Ytanijccpbleekaa.logC
