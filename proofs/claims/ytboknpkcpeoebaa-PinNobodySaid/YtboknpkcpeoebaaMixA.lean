/- Layer 2, the mixer: contracts of One, its document's answer, and what turns it back. -/
import Derived.Test.YtboknpkcpeoebaaRows
import Derived.WalkKit
import Derived.ProofKit
import Derived.OpenShut
import Derived.Lib.Hide
namespace Go.Proofs.Ytboknpkcpeoebaa.mixA
open Go.ChangeShapes Go.WideShapes Go.ChangeAt Go.RowKit
set_option linter.unusedVariables false

def xs (x : Nat) : Nat := x ^^^ x / 8589934592
theorem xs_lt {x : Nat} (h : x < 18446744073709551616) : xs x < 18446744073709551616 := by
  unfold xs
  exact Nat.xor_lt_two_pow (n := 64) h (Nat.lt_of_le_of_lt (Nat.div_le_self _ _) h)
theorem xs_xs {x : Nat} (h : x < 18446744073709551616) : xs (xs x) = x := by
  have e : ∀ y : Nat, y / 8589934592 = y >>> 33 := fun y => by rw [Nat.shiftRight_eq_div_pow]
  have z : x >>> 66 = 0 := by rw [Nat.shiftRight_eq_div_pow]; exact Nat.div_eq_of_lt (by omega)
  unfold xs
  rw [e, e, Nat.shiftRight_xor_distrib, ← Nat.shiftRight_add, z, Nat.xor_zero, Nat.xor_assoc, Nat.xor_self, Nat.xor_zero]
theorem mul_back {x c d : Nat} (h : x < 18446744073709551616) (e : c * d % 18446744073709551616 = 1) : (x * c % 18446744073709551616) * d % 18446744073709551616 = x := by
  rw [Nat.mod_mul_mod, Nat.mul_assoc, Nat.mul_mod, e, Nat.mul_one, Nat.mod_mod, Nat.mod_eq_of_lt h]
def one (x : Nat) : Nat := xs (xs (xs x * 18397679294719823053 % 18446744073709551616) * 14181476777654086739 % 18446744073709551616)
def back (x : Nat) : Nat := xs (xs (xs x * 11291846944257947611 % 18446744073709551616) * 5725274745694666757 % 18446744073709551616)
theorem mod_lt64 (y : Nat) : y % 18446744073709551616 < 18446744073709551616 := Nat.mod_lt _ (by decide)
theorem one_lt (x : Nat) : one x < 18446744073709551616 := xs_lt (mod_lt64 _)
theorem back_one {x : Nat} (h : x < 18446744073709551616) : back (one x) = x := by
  have h1 : xs (one x) = xs (xs x * 18397679294719823053 % 18446744073709551616) * 14181476777654086739 % 18446744073709551616 := xs_xs (mod_lt64 _)
  unfold back
  rw [h1, mul_back (xs_lt (mod_lt64 _)) (by decide), xs_xs (mod_lt64 _), mul_back (xs_lt h) (by decide), xs_xs h]

theorem xsI {x : Nat} (h : x < 18446744073709551616) : bits .xor .u64 (x : Int) ((x : Int) / 8589934592) = ((xs x : Nat) : Int) := by
  have := xorShift_u64 x 8589934592 h
  simpa [xs] using this
theorem mul1 (x : Nat) : IntKind.u64.wrap ((x : Int) * 18397679294719823053) = ((x * 18397679294719823053 % 18446744073709551616 : Nat) : Int) := by
  rw [IntKind.wrap_u64]; omega
theorem mul2 (x : Nat) : IntKind.u64.wrap ((x : Int) * 14181476777654086739) = ((x * 14181476777654086739 % 18446744073709551616 : Nat) : Int) := by
  rw [IntKind.wrap_u64]; omega
theorem mul3 (x : Nat) : IntKind.u64.wrap ((x : Int) * 11291846944257947611) = ((x * 11291846944257947611 % 18446744073709551616 : Nat) : Int) := by
  rw [IntKind.wrap_u64]; omega
theorem mul4 (x : Nat) : IntKind.u64.wrap ((x : Int) * 5725274745694666757) = ((x * 5725274745694666757 % 18446744073709551616 : Nat) : Int) := by
  rw [IntKind.wrap_u64]; omega
def xsZ (x : Int) : Int := bits .xor .u64 x (x / 8589934592)
def oneZ (x : Int) : Int := xsZ (IntKind.u64.wrap (xsZ (IntKind.u64.wrap (xsZ x * 18397679294719823053)) * 14181476777654086739))
theorem oneZ_eq {x : Nat} (h : x < 18446744073709551616) : oneZ (x : Int) = ((one x : Nat) : Int) := by
  have e : ∀ {y : Nat}, y < 18446744073709551616 → xsZ (y : Int) = ((xs y : Nat) : Int) := fun h => xsI h
  unfold oneZ one
  rw [e h, mul1, e (mod_lt64 _), mul2, e (mod_lt64 _)]
theorem ret_int {k : IntKind} {a b : Int} (h : a = b) : Ending.returned (.int k a) = .returned (.int k b) := by rw [h]

def backZ (x : Int) : Int := xsZ (IntKind.u64.wrap (xsZ (IntKind.u64.wrap (xsZ x * 11291846944257947611)) * 5725274745694666757))
theorem backZ_eq {x : Nat} (h : x < 18446744073709551616) : backZ (x : Int) = ((back x : Nat) : Int) := by
  have e : ∀ {y : Nat}, y < 18446744073709551616 → xsZ (y : Int) = ((xs y : Nat) : Int) := fun h => xsI h
  unfold backZ back
  rw [e h, mul3, e (mod_lt64 _), mul4, e (mod_lt64 _)]
theorem backZ_oneZ {x : Nat} (h : x < 18446744073709551616) : backZ (oneZ (x : Int)) = (x : Int) := by
  rw [oneZ_eq h, backZ_eq (one_lt x), back_one h]

theorem one_any (x : Int) (w : World) :
    Calls Try.prog 68 #[.int .u64 x] w fun e w' => e = .returned (.int .u64 (oneZ x)) ∧ w = w' := by
  go_enter Try.func68, Try.ntmps68
  go_wp2
  go_ret
  exact ⟨rfl, rfl⟩

end Go.Proofs.Ytboknpkcpeoebaa.mixA
