/- Layer 7: the law on numbers put. -/
import Derived.Test.YtndekicblbpkjaaOctD
import Derived.Deep.QuietTactic
import Derived.BigQuiet
namespace Go.Proofs.Ytndekicblbpkjaa.octE
open Go.ChangeShapes Go.WideShapes Go.ChangeAt Go.RowKit
open Go.Proofs.Ytndekicblbpkjaa.base Go.Proofs.Ytndekicblbpkjaa.octA Go.Proofs.Ytndekicblbpkjaa.octB Go.Proofs.Ytndekicblbpkjaa.octC Go.Proofs.Ytndekicblbpkjaa.octD
set_option linter.unusedVariables false

theorem getD_app (a b : List Int) (i : Nat) (h : i < a.length) : (a ++ b).getD i 0 = a.getD i 0 := by
  rw [List.getD_eq_getElem?_getD, List.getElem?_append_left h, ← List.getD_eq_getElem?_getD]
theorem getD_app2 (a b : List Int) (i : Nat) : (a ++ b).getD (a.length + i) 0 = b.getD i 0 := by
  rw [List.getD_eq_getElem?_getD, List.getElem?_append_right (by omega), Nat.add_sub_cancel_left, ← List.getD_eq_getElem?_getD]
theorem conv_zero (w : World) (A : Option Addr) (c : Nat) : (convert 22 9 (.slice A 0 c)).run Try.prog w = .ok (.string (strOfNums [])) w := by
  rw [run_convert_bytes_string w 22 9 5 _ 0 c Try.underlying22 Try.underlying5 Try.underlying9]
  cases A <;> simp [Conv.bytesToString, loadCells]
  all_goals rfl
theorem conv_any {w : World} {B : Nat} {A : Option Addr} {n c : Nat} {l : List Int} (h : Row w B A (l.map (.int .u8))) (hl : l.length = n) :
    (convert 22 9 (.slice A n c)).run Try.prog w = .ok (.string (strOfNums l)) w := by
  rcases Nat.eq_zero_or_pos n with h0 | h0
  · have : l = [] := List.eq_nil_of_length_eq_zero (by omega)
    subst this; subst h0
    exact conv_zero w A c
  · obtain ⟨b, off, rfl, _⟩ := slice_from h 0 (by omega)
    exact conv_row h hl
theorem own_cases {w : World} {base : Nat} {e : TypeId} {v : Value} {n : Nat} {xs : List Value} (h : w.ownsRow base e 1 v n xs) :
    (v = .slice none 0 0 ∧ n = 0) ∨ ∃ g cap, v = .slice (some ⟨g, 0, none⟩) n cap ∧ n ≤ cap ∧ cap ≤ maxLen := by
  rcases h.2 with ⟨rfl, h0⟩ | ⟨g, cap, cur, rfl, hb, hg, hnc, hm, hsz, htake⟩
  · exact .inl ⟨rfl, h0⟩
  · exact .inr ⟨g, cap, rfl, hnc, hm⟩
theorem allb_in (k : Nat) (l : List Int) : ∀ x ∈ allb k l, 0 ≤ x ∧ x ≤ 255 := by
  intro x hx
  simp only [allb, List.mem_flatMap, pb, List.mem_map] at hx
  obtain ⟨n, _, t, _, rfl⟩ := hx
  exact byteZ_in n _
theorem allb_cons (k : Nat) (n : Int) (l : List Int) : allb k (n :: l) = pb n k k ++ allb k l := by simp [allb]
theorem pb_get (n : Int) (k j : Nat) (h : j < k) : (pb n k k).getD j 0 = byteZ n (k - 1 - j) := by simp [pb, List.getD, h]
theorem allb_get (k : Nat) (l : List Int) (i j : Nat) (hi : i < l.length) (hj : j < k) : (allb k l).getD (k * i + j) 0 = byteZ (l.getD i 0) (k - 1 - j) := by
  induction l generalizing i with
  | nil => simp at hi
  | cons n l ih =>
    rw [allb_cons]
    cases i with
    | zero =>
      rw [Nat.mul_zero, Nat.zero_add, getD_app _ _ _ (by rw [pb_len]; exact hj), pb_get n k j hj]
      rfl
    | succ i =>
      have e : k * (i + 1) + j = k + (k * i + j) := by rw [Nat.mul_succ]; omega
      have e9 := getD_app2 (pb n k k) (allb k l) (k * i + j)
      rw [pb_len] at e9
      rw [e, e9, ih i (by simpa using hi)]
      rfl
/-- A number, put in k bytes, is told again. -/
theorem atN_put (bs : List Int) (k : Nat) (l : List Int) (i x : Nat) (hi : i < l.length) (hx : l.getD i 0 = (x : Int)) (j : Nat) (hj : j ≤ k) :
    atN (bs ++ allb k l) (bs.length + k * i) j = ((x / 256 ^ (k - j) % 256 ^ j : Nat) : Int) := by
  induction j with
  | zero => simp [atN, Nat.mod_one]
  | succ j ih =>
    rw [atN, ih (by omega)]
    have e1 : bs.length + k * i + j = bs.length + (k * i + j) := by omega
    rw [e1, getD_app2, allb_get k l i j hi (by omega), hx]
    obtain ⟨q, hq⟩ : ∃ q, k = j + q + 1 := ⟨k - j - 1, by omega⟩
    have a1 : k - j = q + 1 := by omega
    have a2 : k - (j + 1) = q := by omega
    have a3 : k - 1 - j = q := by omega
    rw [a1, a2, a3]
    have hb : byteZ (x : Int) q = ((x / 256 ^ q % 256 : Nat) : Int) := by
      unfold byteZ
      have e : (2 : Int) ^ (8 * q) = ((256 ^ q : Nat) : Int) := by rw [Int.pow_mul, Int.natCast_pow]; rfl
      rw [e, Int.natCast_emod, Int.natCast_ediv]; rfl
    rw [hb, Nat.pow_succ, ← Nat.div_div_eq_div_mul]
    generalize x / 256 ^ q = y
    have hm := Nat.mod_mul (x := y) (a := 256) (b := 256 ^ j)
    rw [Nat.pow_succ, Nat.mul_comm (256 ^ j) 256, hm]
    generalize y / 256 % 256 ^ j = u
    omega
end Go.Proofs.Ytndekicblbpkjaa.octE
