/- Layer 3: logarithms, reckoned bit by bit. -/
import Derived.Test.YtanijccpbleekaaBase
import Derived.Test.YtanijccpbleekaaShelf
namespace Go.Proofs.Ytanijccpbleekaa.logA
open Go.ChangeShapes Go.WideShapes Go.ChangeAt Go.RowKit
open Go.Proofs.Ytanijccpbleekaa.base
set_option linter.unusedVariables false

/-- One bit more behind the point. -/
def stp (p : Int × Int) : Int × Int := if 4294967296 ≤ p.1 * p.1 / 2147483648 then (p.1 * p.1 / 2147483648 / 2, 2 * p.2 + 1) else (p.1 * p.1 / 2147483648, 2 * p.2)
def iter : Nat → Int × Int → Int × Int
  | 0, p => p
  | k + 1, p => stp (iter k p)
def okx (x : Int) : Prop := 2147483648 ≤ x ∧ x < 4294967296
theorem sq_bd {x : Int} (h : okx x) : 4611686018427387904 ≤ x * x ∧ x * x < 18446744073709551616 := by
  obtain ⟨h0, h1⟩ := h
  constructor
  · have := Int.mul_le_mul h0 h0 (by omega) (by omega : (0 : Int) ≤ x)
    simpa using this
  · have := Int.mul_le_mul (by omega : x ≤ 4294967295) (by omega : x ≤ 4294967295) (by omega) (by omega : (0 : Int) ≤ 4294967295)
    omega
theorem stp_ok {p : Int × Int} (h : okx p.1) : okx (stp p).1 := by
  have := sq_bd h
  unfold stp okx
  split <;> dsimp only <;> omega
theorem iter_ok {p : Int × Int} (h : okx p.1) : ∀ k, okx (iter k p).1
  | 0 => h
  | k + 1 => stp_ok (iter_ok h k)
theorem iter_bd {p : Int × Int} (h0 : 0 ≤ p.2) (h1 : p.2 ≤ 63) : ∀ k, 0 ≤ (iter k p).2 ∧ (iter k p).2 < 64 * 2 ^ k
  | 0 => by simp only [iter]; omega
  | k + 1 => by
    have h := iter_bd h0 h1 k
    have e : (64 : Int) * 2 ^ (k + 1) = 2 * (64 * 2 ^ k) := by rw [Int.pow_succ]; omega
    rw [e]
    simp only [iter, stp]
    split <;> dsimp only <;> omega
/-- In order: first by what is told already, then by what is left. -/
def le (p q : Int × Int) : Prop := p.2 < q.2 ∨ (p.2 = q.2 ∧ p.1 ≤ q.1)
theorem stp_le {p q : Int × Int} (hp : okx p.1) (hq : okx q.1) (h : le p q) : le (stp p) (stp q) := by
  unfold le at h ⊢
  have hs : p.1 ≤ q.1 → p.1 * p.1 ≤ q.1 * q.1 := fun h => Int.mul_le_mul h h (by unfold okx at hp; omega) (by unfold okx at hq; omega)
  generalize hpp : p.1 * p.1 = a at *
  generalize hqq : q.1 * q.1 = b at *
  unfold stp
  rw [hpp, hqq]
  rcases h with h | ⟨h, h2⟩
  · split <;> split <;> dsimp only <;> omega
  · have := hs h2
    split <;> split <;> dsimp only <;> omega
theorem iter_le {p q : Int × Int} (hp : okx p.1) (hq : okx q.1) (h : le p q) : ∀ k, le (iter k p) (iter k q)
  | 0 => h
  | k + 1 => stp_le (iter_ok hp k) (iter_ok hq k) (iter_le hp hq h k)
theorem iter_pow (o : Int) : ∀ k, iter k (2147483648, o) = (2147483648, o * 2 ^ k)
  | 0 => by simp [iter]
  | k + 1 => by
    rw [iter, iter_pow o k, stp]
    simp only [Int.pow_succ]
    rw [if_neg (by decide)]
    congr 1
    grind

/-- A number, shifted so that its highest bit is the bit 31. -/
def norm (n : Nat) : Nat := n * 2 ^ (63 - n.log2) / 4294967296
theorem log2_lt {n : Nat} (h : n < 18446744073709551616) : n.log2 ≤ 63 := by
  rcases Nat.eq_zero_or_pos n with rfl | h0
  · decide
  · have := (Nat.log2_lt (by omega : n ≠ 0)).2 (show n < 2 ^ 64 from h)
    omega
theorem norm_ok {n : Nat} (h0 : 0 < n) (h : n < 18446744073709551616) : 2147483648 ≤ norm n ∧ norm n < 4294967296 ∧ n * 2 ^ (63 - n.log2) < 18446744073709551616 := by
  have h1 := Nat.log2_self_le (by omega : n ≠ 0)
  have h2 : n < 2 ^ (n.log2 + 1) := Nat.lt_log2_self
  have h3 := log2_lt h
  have e1 : 2 ^ n.log2 * 2 ^ (63 - n.log2) = 9223372036854775808 := by rw [← Nat.pow_add, show n.log2 + (63 - n.log2) = 63 by omega]
  have e2 : 2 ^ (n.log2 + 1) * 2 ^ (63 - n.log2) = 18446744073709551616 := by rw [← Nat.pow_add, show n.log2 + 1 + (63 - n.log2) = 64 by omega]
  have p : 0 < 2 ^ (63 - n.log2) := Nat.two_pow_pos _
  have a1 := Nat.mul_le_mul_right (2 ^ (63 - n.log2)) h1
  have a2 := Nat.mul_lt_mul_of_pos_right h2 p
  rw [e1] at a1
  rw [e2] at a2
  unfold norm
  omega
def logZ (n : Nat) : Int := if n = 0 then 0 else (iter 24 ((norm n : Nat), (n.log2 : Nat))).2
theorem start_le {m n : Nat} (hm : 0 < m) (h : m ≤ n) (hn : n < 18446744073709551616) : le ((norm m : Nat), (m.log2 : Nat)) ((norm n : Nat), (n.log2 : Nat)) := by
  unfold le
  have hl : m.log2 ≤ n.log2 := by
    have h1 := Nat.log2_self_le (by omega : m ≠ 0)
    exact (Nat.le_log2 (by omega : n ≠ 0)).2 (Nat.le_trans h1 h)
  rcases Nat.lt_or_ge m.log2 n.log2 with h2 | h2
  · left; dsimp only; omega
  · right
    have e : m.log2 = n.log2 := by omega
    refine ⟨by dsimp only; omega, ?_⟩
    dsimp only
    have : norm m ≤ norm n := by
      unfold norm
      rw [e]
      exact Nat.div_le_div_right (Nat.mul_le_mul_right _ h)
    omega
theorem logZ_le {m n : Nat} (hm : 0 < m) (h : m ≤ n) (hn : n < 18446744073709551616) : logZ m ≤ logZ n := by
  unfold logZ
  rw [if_neg (by omega), if_neg (by omega)]
  have a := norm_ok hm (by omega)
  have b := norm_ok (by omega : 0 < n) hn
  have h := iter_le (p := ((norm m : Nat), (m.log2 : Nat))) (q := ((norm n : Nat), (n.log2 : Nat))) ⟨by dsimp only; omega, by dsimp only; omega⟩ ⟨by dsimp only; omega, by dsimp only; omega⟩ (start_le hm h hn) 24
  unfold le at h
  omega
theorem norm_pow (k : Nat) (hk : k ≤ 63) : norm (2 ^ k) = 2147483648 := by
  unfold norm
  rw [Nat.log2_two_pow, ← Nat.pow_add, show k + (63 - k) = 63 by omega]
theorem logZ_pow (k : Nat) (hk : k ≤ 63) : logZ (2 ^ k) = k * 16777216 := by
  unfold logZ
  rw [if_neg (by have := Nat.two_pow_pos k; omega), norm_pow k hk, Nat.log2_two_pow]
  have := iter_pow (k : Int) 24
  show (iter 24 (2147483648, (k : Int))).2 = _
  rw [this]
  simp
theorem logZ_bd {n : Nat} (hn : n < 18446744073709551616) : 0 ≤ logZ n ∧ logZ n < 1073741824 := by
  unfold logZ
  split
  · omega
  · have h := iter_bd (p := ((norm n : Nat), (n.log2 : Nat))) (by dsimp only; omega) (by have := log2_lt hn; dsimp only; omega) 24
    have e : (64 : Int) * 2 ^ 24 = 1073741824 := by decide
    rw [e] at h
    exact h
end Go.Proofs.Ytanijccpbleekaa.logA
