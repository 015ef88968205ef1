/- Layer 28: flags, states. -/
import Derived.Test.YtgikoljnmmnkkaaRow
namespace Go.Proofs.Ytgikoljnmmnkkaa.connA
open Go.ChangeShapes Go.WideShapes Go.ChangeAt Go.RowKit
open Go.Proofs.Ytgikoljnmmnkkaa.base
set_option linter.unusedVariables false

theorem i64_and_nat (a b : Nat) (ha : a < 9223372036854775808) (hb : b < 9223372036854775808) : bits .and .i64 (a : Int) (b : Int) = ((a &&& b : Nat) : Int) := by
  have hA : (BitVec.ofInt 64 (a : Int)).toNat = a := by rw [BitVec.ofInt_natCast, BitVec.toNat_ofNat]; exact Nat.mod_eq_of_lt (by omega)
  have hB : (BitVec.ofInt 64 (b : Int)).toNat = b := by rw [BitVec.ofInt_natCast, BitVec.toNat_ofNat]; exact Nat.mod_eq_of_lt (by omega)
  show IntKind.i64.wrap ((BitVec.ofInt 64 (a : Int) &&& BitVec.ofInt 64 (b : Int)).toNat : Nat) = _
  rw [BitVec.toNat_and, hA, hB]
  have : a &&& b ≤ a := Nat.and_le_left
  exact IntWalk.i64_in _ (by omega)
theorem and_pow (n k : Nat) : n &&& 2 ^ k = if n.testBit k then 2 ^ k else 0 := by
  apply Nat.eq_of_testBit_eq
  intro i
  rw [Nat.testBit_and, Nat.testBit_two_pow]
  by_cases h : k = i
  · subst h
    cases hn : n.testBit k <;> simp [Nat.testBit_two_pow_self]
  · split <;> simp [h]
/-- has a number all bits of another one? -/
def hasB (f m : Int) : Bool := bits .and .i64 f m == m
theorem has_pow (f : Int) (k : Nat) (hk : k < 63) (h0 : 0 ≤ f) (h1 : f < 9223372036854775808) : hasB f ((2 ^ k : Nat) : Int) = (f / ((2 ^ k : Nat) : Int) % 2 == 1) := by
  obtain ⟨n, rfl⟩ := Int.eq_ofNat_of_zero_le h0
  have hp : 2 ^ k < 2 ^ 63 := Nat.pow_lt_pow_right (by decide) hk
  have hp0 : 0 < 2 ^ k := Nat.two_pow_pos k
  have tb := Nat.testBit_eq_decide_div_mod_eq (x := n) (i := k)
  unfold hasB
  rw [i64_and_nat n (2 ^ k) (by omega) (by omega), and_pow, tb]
  clear tb hk
  generalize 2 ^ k = p at *
  rw [← Int.natCast_ediv]
  generalize n / p = q
  by_cases hq : q % 2 = 1
  · have e : ((q : Int) % 2 == 1) = true := by simp; omega
    rw [e]; simp [hq]
  · have e : ((q : Int) % 2 == 1) = false := by simp; omega
    rw [e]; simp [hq]; omega
theorem has1 (f : Int) (h0 : 0 ≤ f) (h1 : f < 9223372036854775808) : (f / 1 % 2 == 1) = hasB f 1 := (has_pow f 0 (by decide) h0 h1).symm
theorem has2 (f : Int) (h0 : 0 ≤ f) (h1 : f < 9223372036854775808) : (f / 2 % 2 == 1) = hasB f 2 := (has_pow f 1 (by decide) h0 h1).symm
theorem has4 (f : Int) (h0 : 0 ≤ f) (h1 : f < 9223372036854775808) : (f / 4 % 2 == 1) = hasB f 4 := (has_pow f 2 (by decide) h0 h1).symm

def nextZ (s f : Int) : Int := if s = 5 ∨ s = 4 then s else if hasB f 4 = true then 4 else if hasB f 1 = true ∨ s = 3 then 3 else if hasB f 2 = true then 1 else 2
def beginZ (p f : Int) : Int := if p = 6 then nextZ 2 f else 5
theorem nextZ_in (s f : Int) : nextZ s f = s ∨ 1 ≤ nextZ s f ∧ nextZ s f ≤ 4 := by
  unfold nextZ
  split
  · exact .inl rfl
  · split
    · exact .inr (by omega)
    · split
      · exact .inr (by omega)
      · split <;> exact .inr (by omega)

theorem bcell {W w1 : World} (hb : Below W.heap.size W w1) : (∀ b o, b < W.heap.size → w1.cell? ⟨b, o, none⟩ = W.cell? ⟨b, o, none⟩) ∧ (∀ b o, b < W.heap.size → w1.frozen? ⟨b, o, none⟩ = W.frozen? ⟨b, o, none⟩) :=
  ⟨fun b o h => hb.cell (p := ⟨b, o, none⟩) h, fun b o h => hb.frozen (p := ⟨b, o, none⟩) h⟩
theorem s5 {s f : Int} (h : s = 5) : nextZ s f = s := by simp [nextZ, h]
theorem s4 {s f : Int} (h : s = 4) : nextZ s f = s := by simp [nextZ, h]
theorem nN {s f v : Int} (h5 : s ≠ 5) (h4 : s ≠ 4) (h : (if hasB f 4 = true then 4 else if hasB f 1 = true ∨ s = 3 then 3 else if hasB f 2 = true then 1 else 2) = v) : nextZ s f = v := by
  unfold nextZ
  rw [if_neg (by omega)]
  exact h
end Go.Proofs.Ytgikoljnmmnkkaa.connA
