/- Layer 36: a number's bytes turned round, as the program does it. -/
import Derived.Test.YtmchedjeohhpcaaPcapA
namespace Go.Proofs.Ytmchedjeohhpcaa.pcapB
open Go.ChangeShapes Go.WideShapes Go.ChangeAt Go.RowKit
open Go.Proofs.Ytmchedjeohhpcaa.base Go.Proofs.Ytmchedjeohhpcaa.pcapA
set_option linter.unusedVariables false

/-- The first round, then the second one, as the library does them. -/
def halfZ (x : Int) : Int := bits .or .u32 (bits .and .u32 (x / 256) 16711935) (bits .and .u32 x 16711935 * 256 % 4294967296)
def rev32Z (x : Int) : Int := bits .or .u32 (halfZ x / 65536) (halfZ x * 65536 % 4294967296)
def rev16Z (x : Int) : Int := bits .or .u16 (x / 256) (IntKind.u16.wrap (x * 256))
set_option maxRecDepth 100000 in
theorem rev32Z_eq {n : Nat} (h : n < 4294967296) : rev32Z (n : Int) = ((rev32 n : Nat) : Int) := by
  have hm : ∀ a : Nat, a < 4294967296 → a &&& 16711935 < 4294967296 := fun a ha => Nat.lt_of_le_of_lt Nat.and_le_left ha
  have d1 : (n : Int) / 256 = ((n / 256 : Nat) : Int) := rfl
  have e1 : bits .and .u32 ((n : Int) / 256) 16711935 = ((n / 256 &&& 16711935 : Nat) : Int) := by
    rw [d1]
    exact u32_and_nat (n / 256) 16711935 (Nat.lt_of_le_of_lt (Nat.div_le_self _ _) h) (by decide)
  have e2 : bits .and .u32 (n : Int) 16711935 = ((n &&& 16711935 : Nat) : Int) := u32_and_nat n 16711935 h (by decide)
  obtain ⟨y, hy⟩ : ∃ y : Nat, y = (n / 256 &&& 16711935) ||| ((n &&& 16711935) * 256 % 4294967296) := ⟨_, rfl⟩
  have ly : y < 4294967296 := by
    rw [hy]
    exact Nat.or_lt_two_pow (n := 32) (hm _ (Nat.lt_of_le_of_lt (Nat.div_le_self _ _) h)) (Nat.mod_lt _ (by decide))
  have e3 : halfZ (n : Int) = ((y : Nat) : Int) := by
    unfold halfZ
    rw [e1, e2, hy]
    exact u32_or_nat _ _ (hm _ (Nat.lt_of_le_of_lt (Nat.div_le_self _ _) h)) (Nat.mod_lt _ (by decide))
  unfold rev32Z
  rw [e3, ← rev32_is h, ← hy]
  exact u32_or_nat (y / 65536) (y * 65536 % 4294967296) (Nat.lt_of_le_of_lt (Nat.div_le_self _ _) ly) (Nat.mod_lt _ (by decide))
theorem rev16Z_eq {n : Nat} (h : n < 65536) : rev16Z (n : Int) = ((rev16 n : Nat) : Int) := by
  have e : IntKind.u16.wrap ((n : Int) * 256) = ((n * 256 % 65536 : Nat) : Int) := by rw [IntKind.wrap_u16]; omega
  unfold rev16Z
  rw [e, ← rev16_is h]
  exact u16_or_nat (n / 256) (n * 256 % 65536) (Nat.lt_of_le_of_lt (Nat.div_le_self _ _) h) (Nat.mod_lt _ (by decide))
theorem rev32_any {n : Nat} (h : n < 4294967296) (w : World) :
    Calls Try.prog 28 #[.int .u32 (n : Int)] w fun e w' => e = .returned (.int .u32 ((rev32 n : Nat) : Int)) ∧ w = w' := by
  rw [← rev32Z_eq h]
  go_enter Try.func28, Try.ntmps28
  go_wp2
  go_ret
  exact ⟨rfl, rfl⟩
theorem rev16_any {n : Nat} (h : n < 65536) (w : World) :
    Calls Try.prog 27 #[.int .u16 (n : Int)] w fun e w' => e = .returned (.int .u16 ((rev16 n : Nat) : Int)) ∧ w = w' := by
  rw [← rev16Z_eq h]
  go_enter Try.func27, Try.ntmps27
  go_wp2
  go_ret
  exact ⟨rfl, rfl⟩
/-- The order of a file's words. -/
def ordN (big : Bool) (n : Nat) : Nat := if big then n else rev32 n
def ordH (big : Bool) (n : Nat) : Nat := if big then n else rev16 n
theorem ordN_lt (big : Bool) {n : Nat} (h : n < 4294967296) : ordN big n < 4294967296 := by
  cases big
  · exact rev32_lt n
  · exact h
theorem ordN_twice (big : Bool) {n : Nat} (h : n < 4294967296) : ordN big (ordN big n) = n := by
  cases big
  · exact rev32_twice h
  · rfl
theorem order_any (big : Bool) {n : Nat} (h : n < 4294967296) (w : World) :
    Calls Try.prog 25 #[.bool big, .int .u32 (n : Int)] w fun e w' => e = .returned (.int .u32 ((ordN big n : Nat) : Int)) ∧ w = w' := by
  cases big
  · go_enter Try.func25, Try.ntmps25
    go_wp2_with (go_at_call 28; refine (rev32_any h _).mono ?_; rintro e w' ⟨rfl, rfl⟩)
    go_ret
    exact ⟨rfl, rfl⟩
  · go_enter Try.func25, Try.ntmps25
    go_wp2
    go_ret
    exact ⟨rfl, rfl⟩
end Go.Proofs.Ytmchedjeohhpcaa.pcapB
