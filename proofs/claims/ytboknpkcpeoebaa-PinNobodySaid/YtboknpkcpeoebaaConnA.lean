/- Layer 28: flags, states. -/
import Derived.Test.YtboknpkcpeoebaaRow
namespace Go.Proofs.Ytboknpkcpeoebaa.connA
open Go.ChangeShapes Go.WideShapes Go.ChangeAt Go.RowKit
open Go.Proofs.Ytboknpkcpeoebaa.base
set_option linter.unusedVariables false

theorem i64_and_nat (a b : Nat) (ha : a < 9223372036854775808) (hb : b < 9223372036854775808) : bits .and .i64 (a : Int) (b : Int) = ((a &&& b : Nat) : Int) := by
  have hA : (BitVec.ofInt 64 (a : Int)).toNat = a := by rw [BitVec.ofInt_natCast, BitVec.toNat_ofNat]; exact Nat.mod_eq_of_lt (by omega)
  have hB : (BitVec.ofInt 64 (b : Int)).toNat = b := by rw [BitVec.ofInt_natCast, BitVec.toNat_ofNat]; exact Nat.mod_eq_of_lt (by omega)
  show IntKind.i64.wrap ((BitVec.ofInt 64 (a : Int) &&& BitVec.ofInt 64 (b : Int)).toNat : Nat) = _
  rw [BitVec.toNat_and, hA, hB]
  have : a &&& b ≤ a := Nat.and_le_left
  exact IntWalk.i64_in _ (by omega)
theorem and_pow (n k : Nat) : n &&& 2 ^ k = if n.testBit k then 2 ^ k else 0 := by
  apply Nat.eq_of_testBit_eq
  intro i
  rw [Nat.testBit_and, Nat.testBit_two_pow]
  by_cases h : k = i
  · subst h
    cases hn : n.testBit k <;> simp [Nat.testBit_two_pow_self]
  · split <;> simp [h]
/-- has a number all bits of another one? -/
def hasB (f m : Int) : Bool := bits .and .i64 f m == m
theorem has_pow (f : Int) (k : Nat) (hk : k < 63) (h0 : 0 ≤ f) (h1 : f < 9223372036854775808) : hasB f ((2 ^ k : Nat) : Int) = (f / ((2 ^ k : Nat) : Int) % 2 == 1) := by
  obtain ⟨n, rfl⟩ := Int.eq_ofNat_of_zero_le h0
  have hp : 2 ^ k < 2 ^ 63 := Nat.pow_lt_pow_right (by decide) hk
  have hp0 : 0 < 2 ^ k := Nat.two_pow_pos k
  have tb := Nat.testBit_eq_decide_div_mod_eq (x := n) (i := k)
  unfold hasB
  rw [i64_and_nat n (2 ^ k) (by omega) (by omega), and_pow, tb]
  clear tb hk
  generalize 2 ^ k = p at *
  rw [← Int.natCast_ediv]
  generalize n / p = q
  by_cases hq : q % 2 = 1
  · have e : ((q : Int) % 2 == 1) = true := by simp; omega
    rw [e]; simp [hq]
  · have e : ((q : Int) % 2 == 1) = false := by simp; omega
    rw [e]; simp [hq]; omega
theorem has1 (f : Int) (h0 : 0 ≤ f) (h1 : f < 9223372036854775808) : (f / 1 % 2 == 1) = hasB f 1 := (has_pow f 0 (by decide) h0 h1).symm
theorem has2 (f : Int) (h0 : 0 ≤ f) (h1 : f < 9223372036854775808) : (f / 2 % 2 == 1) = hasB f 2 := (has_pow f 1 (by decide) h0 h1).symm
theorem has4 (f : Int) (h0 : 0 ≤ f) (h1 : f < 9223372036854775808) : (f / 4 % 2 == 1) = hasB f 4 := (has_pow f 2 (by decide) h0 h1).symm

theorem has_any (a b c d f g h : Int) (A : Option Addr) (n cp : Nat) (m : Int) (w : World) :
    Calls Try.prog 51 #[.agg #[.int .i64 a, .int .i64 b, .int .u32 c, .int .u32 d, .int .i64 f, .int .i64 g, .int .i64 h, .slice A n cp], .int .i64 m] w fun e w' => e = .returned (.bool (hasB f m)) ∧ Below w.heap.size w w' := by
  go_enter Try.func51, Try.ntmps51
  go_wp2
  go_ret
  exact ⟨rfl, (Below.refl _ _).alloc (Nat.le_refl _) _⟩

def nextZ (s f : Int) : Int := if s = 5 ∨ s = 4 then s else if hasB f 4 = true then 4 else if hasB f 1 = true ∨ s = 3 then 3 else if hasB f 2 = true then 1 else 2
def beginZ (p f : Int) : Int := if p = 6 then nextZ 2 f else 5
theorem nextZ_in (s f : Int) : nextZ s f = s ∨ 1 ≤ nextZ s f ∧ nextZ s f ≤ 4 := by
  unfold nextZ
  split
  · exact .inl rfl
  · split
    · exact .inr (by omega)
    · split
      · exact .inr (by omega)
      · split <;> exact .inr (by omega)

theorem bcell {W w1 : World} (hb : Below W.heap.size W w1) : (∀ b o, b < W.heap.size → w1.cell? ⟨b, o, none⟩ = W.cell? ⟨b, o, none⟩) ∧ (∀ b o, b < W.heap.size → w1.frozen? ⟨b, o, none⟩ = W.frozen? ⟨b, o, none⟩) :=
  ⟨fun b o h => hb.cell (p := ⟨b, o, none⟩) h, fun b o h => hb.frozen (p := ⟨b, o, none⟩) h⟩
theorem s5 {s f : Int} (h : s = 5) : nextZ s f = s := by simp [nextZ, h]
theorem s4 {s f : Int} (h : s = 4) : nextZ s f = s := by simp [nextZ, h]
theorem nN {s f v : Int} (h5 : s ≠ 5) (h4 : s ≠ 4) (h : (if hasB f 4 = true then 4 else if hasB f 1 = true ∨ s = 3 then 3 else if hasB f 2 = true then 1 else 2) = v) : nextZ s f = v := by
  unfold nextZ
  rw [if_neg (by omega)]
  exact h
theorem next_any (s f : Int) (w : World) :
    Calls Try.prog 26 #[.int .i64 s, .int .i64 f] w fun e w' => e = .returned (.int .i64 (nextZ s f)) ∧ Below w.heap.size w w' := by
  by_cases e5 : s = 5
  · rw [s5 e5]
    have t5 : (s == 5) = true := by simp [e5]
    clear e5
    go_enter Try.func26, Try.ntmps26
    go_wp2
    go_ret
    exact ⟨rfl, (Below.refl _ _).alloc (Nat.le_refl _) _⟩
  · have t5 : (s == 5) = false := by simp [e5]
    by_cases e4 : s = 4
    · rw [s4 e4]
      have t4 : (s == 4) = true := by simp [e4]
      clear e5 e4
      go_enter Try.func26, Try.ntmps26
      go_wp2
      go_ret
      exact ⟨rfl, (Below.refl _ _).alloc (Nat.le_refl _) _⟩
    · have t4 : (s == 4) = false := by simp [e4]
      cases b4 : hasB f 4
      · have H4 := Lib.hid b4
        cases b1 : hasB f 1
        · have H1 := Lib.hid b1
          by_cases e3 : s = 3
          · rw [nN (v := 3) e5 e4 (by simp [b4, e3])]
            have t3 : (s == 3) = true := by simp [e3]
            clear e3 e4 e5 b4 b1
            go_enter Try.func26, Try.ntmps26
            go_wp2_with fail
            refine (has_any _ _ _ _ _ _ _ _ _ _ _ _).mono ?_
            rintro e w1 ⟨rfl, hb⟩
            obtain ⟨hc, hf⟩ := bcell hb
            have HB1 := Lib.hid hb
            have hs1 : w.heap.size < w1.heap.size := by have := hb.size; first | omega | (simp at this; omega)
            clear hb
            rw [H4.out]
            go_wp2_with fail
            refine (has_any _ _ _ _ _ _ _ _ _ _ _ _).mono ?_
            rintro e w2 ⟨rfl, hb⟩
            obtain ⟨hc, hf⟩ := bcell hb
            have HB2 := Lib.hid hb
            have hs2 : w.heap.size < w2.heap.size := by have := hb.size; first | omega | (simp at this; omega)
            clear hb
            rw [H1.out]
            go_wp2_with fail
            go_ret
            exact ⟨rfl, (((Below.refl _ _).alloc (Nat.le_refl _) _).trans (HB1.out.mono (by first | omega | (simp; try omega)))).trans (HB2.out.mono (by first | omega | (simp; try omega)))⟩
          · have t3 : (s == 3) = false := by simp [e3]
            cases b2 : hasB f 2
            · have H2 := Lib.hid b2
              rw [nN (v := 2) e5 e4 (by simp [b4, b1, b2, e3])]
              clear e3 e4 e5 b4 b1 b2
              go_enter Try.func26, Try.ntmps26
              go_wp2_with fail
              refine (has_any _ _ _ _ _ _ _ _ _ _ _ _).mono ?_
              rintro e w1 ⟨rfl, hb⟩
              obtain ⟨hc, hf⟩ := bcell hb
              have HB1 := Lib.hid hb
              have hs1 : w.heap.size < w1.heap.size := by have := hb.size; first | omega | (simp at this; omega)
              clear hb
              rw [H4.out]
              go_wp2_with fail
              refine (has_any _ _ _ _ _ _ _ _ _ _ _ _).mono ?_
              rintro e w2 ⟨rfl, hb⟩
              obtain ⟨hc, hf⟩ := bcell hb
              have HB2 := Lib.hid hb
              have hs2 : w.heap.size < w2.heap.size := by have := hb.size; first | omega | (simp at this; omega)
              clear hb
              rw [H1.out]
              go_wp2_with fail
              refine (has_any _ _ _ _ _ _ _ _ _ _ _ _).mono ?_
              rintro e w3 ⟨rfl, hb⟩
              obtain ⟨hc, hf⟩ := bcell hb
              have HB3 := Lib.hid hb
              have hs3 : w.heap.size < w3.heap.size := by have := hb.size; first | omega | (simp at this; omega)
              clear hb
              rw [H2.out]
              go_wp2_with fail
              go_ret
              exact ⟨rfl, ((((Below.refl _ _).alloc (Nat.le_refl _) _).trans (HB1.out.mono (by first | omega | (simp; try omega)))).trans (HB2.out.mono (by first | omega | (simp; try omega)))).trans (HB3.out.mono (by first | omega | (simp; try omega)))⟩
            · have H2 := Lib.hid b2
              rw [nN (v := 1) e5 e4 (by simp [b4, b1, b2, e3])]
              clear e3 e4 e5 b4 b1 b2
              go_enter Try.func26, Try.ntmps26
              go_wp2_with fail
              refine (has_any _ _ _ _ _ _ _ _ _ _ _ _).mono ?_
              rintro e w1 ⟨rfl, hb⟩
              obtain ⟨hc, hf⟩ := bcell hb
              have HB1 := Lib.hid hb
              have hs1 : w.heap.size < w1.heap.size := by have := hb.size; first | omega | (simp at this; omega)
              clear hb
              rw [H4.out]
              go_wp2_with fail
              refine (has_any _ _ _ _ _ _ _ _ _ _ _ _).mono ?_
              rintro e w2 ⟨rfl, hb⟩
              obtain ⟨hc, hf⟩ := bcell hb
              have HB2 := Lib.hid hb
              have hs2 : w.heap.size < w2.heap.size := by have := hb.size; first | omega | (simp at this; omega)
              clear hb
              rw [H1.out]
              go_wp2_with fail
              refine (has_any _ _ _ _ _ _ _ _ _ _ _ _).mono ?_
              rintro e w3 ⟨rfl, hb⟩
              obtain ⟨hc, hf⟩ := bcell hb
              have HB3 := Lib.hid hb
              have hs3 : w.heap.size < w3.heap.size := by have := hb.size; first | omega | (simp at this; omega)
              clear hb
              rw [H2.out]
              go_wp2_with fail
              go_ret
              exact ⟨rfl, ((((Below.refl _ _).alloc (Nat.le_refl _) _).trans (HB1.out.mono (by first | omega | (simp; try omega)))).trans (HB2.out.mono (by first | omega | (simp; try omega)))).trans (HB3.out.mono (by first | omega | (simp; try omega)))⟩
        · have H1 := Lib.hid b1
          rw [nN (v := 3) e5 e4 (by simp [b4, b1])]
          clear e4 e5 b4 b1
          go_enter Try.func26, Try.ntmps26
          go_wp2_with fail
          refine (has_any _ _ _ _ _ _ _ _ _ _ _ _).mono ?_
          rintro e w1 ⟨rfl, hb⟩
          obtain ⟨hc, hf⟩ := bcell hb
          have HB1 := Lib.hid hb
          have hs1 : w.heap.size < w1.heap.size := by have := hb.size; first | omega | (simp at this; omega)
          clear hb
          rw [H4.out]
          go_wp2_with fail
          refine (has_any _ _ _ _ _ _ _ _ _ _ _ _).mono ?_
          rintro e w2 ⟨rfl, hb⟩
          obtain ⟨hc, hf⟩ := bcell hb
          have HB2 := Lib.hid hb
          have hs2 : w.heap.size < w2.heap.size := by have := hb.size; first | omega | (simp at this; omega)
          clear hb
          rw [H1.out]
          go_wp2_with fail
          go_ret
          exact ⟨rfl, (((Below.refl _ _).alloc (Nat.le_refl _) _).trans (HB1.out.mono (by first | omega | (simp; try omega)))).trans (HB2.out.mono (by first | omega | (simp; try omega)))⟩
      · have H4 := Lib.hid b4
        rw [nN (v := 4) e5 e4 (by simp [b4])]
        clear e4 e5 b4
        go_enter Try.func26, Try.ntmps26
        go_wp2_with fail
        refine (has_any _ _ _ _ _ _ _ _ _ _ _ _).mono ?_
        rintro e w1 ⟨rfl, hb⟩
        obtain ⟨hc, hf⟩ := bcell hb
        have HB1 := Lib.hid hb
        have hs1 : w.heap.size < w1.heap.size := by have := hb.size; first | omega | (simp at this; omega)
        clear hb
        rw [H4.out]
        go_wp2_with fail
        go_ret
        exact ⟨rfl, ((Below.refl _ _).alloc (Nat.le_refl _) _).trans (HB1.out.mono (by first | omega | (simp; try omega)))⟩
end Go.Proofs.Ytboknpkcpeoebaa.connA
