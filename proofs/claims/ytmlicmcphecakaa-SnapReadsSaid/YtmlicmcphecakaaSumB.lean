/- Layer 4: sums of bytes. -/
import Derived.Test.YtmlicmcphecakaaSumA
import Derived.Test.YtmlicmcphecakaaRow
import Derived.Test.YtmlicmcphecakaaMem
namespace Go.Proofs.Ytmlicmcphecakaa.sumB
open Go.ChangeShapes Go.WideShapes Go.ChangeAt Go.RowKit
open Go.Proofs.Ytmlicmcphecakaa.base Go.Proofs.Ytmlicmcphecakaa.sumA
set_option linter.unusedVariables false

/-- The words of bytes, added. -/
def wsum : List Int → Int
  | [] => 0
  | [a] => 256 * a
  | a :: b :: r => 256 * a + b + wsum r
def even (l : List Int) : Bool := l.length % 2 == 0
theorem wsum_snoc : ∀ (l : List Int) (x : Int), wsum (l ++ [x]) = wsum l + if even l then 256 * x else x
  | [], x => by simp [wsum, even]
  | [a], x => by simp [wsum, even]
  | a :: b :: r, x => by
    have h := wsum_snoc r x
    have e : even (a :: b :: r) = even r := by
      simp only [even, List.length_cons]
      congr 1
      omega
    simp only [List.cons_append, wsum, h, e]
    omega
theorem even_snoc (l : List Int) (x : Int) : even (l ++ [x]) = !even l := by
  simp only [even, List.length_append, List.length_cons, List.length_nil]
  rcases Nat.mod_two_eq_zero_or_one l.length with h | h
  · have h2 : (l.length + (0 + 1)) % 2 = 1 := by omega
    rw [h, h2]; rfl
  · have h2 : (l.length + (0 + 1)) % 2 = 0 := by omega
    rw [h, h2]; rfl
theorem wsum_bd : ∀ (l : List Int), (∀ x ∈ l, 0 ≤ x ∧ x ≤ 255) → 0 ≤ wsum l ∧ wsum l ≤ l.length * 65280
  | [], _ => by simp [wsum]
  | [a], h => by
    have := h a (by simp)
    simp [wsum]; omega
  | a :: b :: r, h => by
    have h1 := h a (by simp)
    have h2 := h b (by simp)
    have h3 := wsum_bd r (fun x hx => h x (by simp [hx]))
    simp only [wsum, List.length_cons]
    omega

/-- One part: where it lies, its room, its bytes. -/
structure Part where
  a : Option Addr
  c : Nat
  l : List Int
def Part.val (p : Part) : Value := .slice p.a p.l.length p.c
def Part.ok (p : Part) (w : World) (B : Nat) : Prop := Row w B p.a (p.l.map (.int .u8)) ∧ (∀ x ∈ p.l, 0 ≤ x ∧ x ≤ 255)
def flat (ps : List Part) : List Int := (ps.map (·.l)).flatten

theorem flat_snoc (ps : List Part) (k : Nat) (h : k < ps.length) : flat (ps.take (k + 1)) = flat (ps.take k) ++ (ps[k]).l := by
  unfold flat
  rw [List.take_succ_eq_append_getElem h, List.map_append, List.flatten_append]
  simp only [List.map_cons, List.map_nil, List.flatten_cons, List.flatten_nil, List.append_nil]
theorem flat_take_len (ps : List Part) (k : Nat) : (flat (ps.take k)).length ≤ (flat ps).length := by
  have : flat ps = flat (ps.take k) ++ flat (ps.drop k) := by
    unfold flat
    rw [← List.flatten_append, ← List.map_append, List.take_append_drop]
  rw [this, List.length_append]; omega
theorem flat_mem {ps : List Part} {w : World} {B : Nat} (h : ∀ p ∈ ps, p.ok w B) : ∀ x ∈ flat ps, 0 ≤ x ∧ x ≤ 255 := by
  intro x hx
  unfold flat at hx
  rw [List.mem_flatten] at hx
  obtain ⟨l, hl, hx⟩ := hx
  rw [List.mem_map] at hl
  obtain ⟨p, hp, rfl⟩ := hl
  exact (h p hp).2 x hx
end Go.Proofs.Ytmlicmcphecakaa.sumB
