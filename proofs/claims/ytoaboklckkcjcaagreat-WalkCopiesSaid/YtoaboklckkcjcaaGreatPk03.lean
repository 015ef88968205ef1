/- 8 texts in one. -/
import Derived.Deep.RegionHeld3
import Derived.Deep.QuietTactic
import Derived.BigQuiet
import Derived.IntWalk
import Derived.Test.YtoaboklckkcjcaaGreatPk01
import Derived.Test.YtoaboklckkcjcaaGreatPk02
/- Layer 1: the order of fractions, and the least of any (no walk). -/
namespace Go.Proofs.YtoaboklckkcjcaaGreat.wideG
open Go.ChangeShapes Go.WideShapes Go.ChangeAt Go.RowKit
open Go.Proofs.YtoaboklckkcjcaaGreat.base Go.Proofs.YtoaboklckkcjcaaGreat.wideC Go.Proofs.YtoaboklckkcjcaaGreat.wideF
set_option linter.unusedVariables false

def cf (a b : Int × Int) : Int := cmpF a.1 a.2 b.1 b.2
def good (a : Int × Int) : Prop := (0 ≤ a.1 ∧ a.1 < 18446744073709551616) ∧ 0 ≤ a.2 ∧ a.2 < 18446744073709551616
theorem cf_neg (a b : Int × Int) : cf b a = - cf a b := cmpF_neg _ _ _ _
theorem cf_le (a b : Int × Int) : cf a b ≤ 0 ↔ (b.2 = 0 ∨ (a.2 ≠ 0 ∧ a.1 * b.2 ≤ b.1 * a.2)) := by
  unfold cf cmpF cmpI
  generalize a.1 * b.2 = p
  generalize b.1 * a.2 = q
  by_cases h : a.2 = 0 <;> by_cases h2 : b.2 = 0
  · simp [h, h2]
  · have h3 : ¬ (0 = b.2) := fun e => h2 e.symm
    simp [h, h2, h3]
  · simp [h, h2]
  · simp only [h, h2, or_self, if_false, false_or, not_false_eq_true, true_and, ne_eq]
    split
    · constructor <;> intro <;> omega
    · split
      · constructor <;> intro <;> omega
      · constructor <;> intro <;> omega
theorem cf_trans {a b c : Int × Int} (ha : good a) (hb : good b) (hc : good c) (h1 : cf a b ≤ 0) (h2 : cf b c ≤ 0) : cf a c ≤ 0 := by
  rw [cf_le] at h1 h2 ⊢
  by_cases hc0 : c.2 = 0
  · exact .inl hc0
  · obtain h2 | ⟨hb0, h2⟩ := h2
    · exact absurd h2 hc0
    · obtain h1 | ⟨ha0, h1⟩ := h1
      · exact absurd h1 hb0
      · refine .inr ⟨ha0, ?_⟩
        have pb : 0 < b.2 := by have := hb.2.1; omega
        have e1 : a.1 * b.2 * c.2 ≤ b.1 * a.2 * c.2 := Int.mul_le_mul_of_nonneg_right h1 hc.2.1
        have e2 : b.1 * c.2 * a.2 ≤ c.1 * b.2 * a.2 := Int.mul_le_mul_of_nonneg_right h2 ha.2.1
        have e3 : a.1 * c.2 * b.2 ≤ c.1 * a.2 * b.2 := by
          have x1 : a.1 * c.2 * b.2 = a.1 * b.2 * c.2 := by rw [Int.mul_assoc, Int.mul_comm c.2, ← Int.mul_assoc]
          have x2 : c.1 * a.2 * b.2 = c.1 * b.2 * a.2 := by rw [Int.mul_assoc, Int.mul_comm a.2, ← Int.mul_assoc]
          have x3 : b.1 * a.2 * c.2 = b.1 * c.2 * a.2 := by rw [Int.mul_assoc, Int.mul_comm a.2, ← Int.mul_assoc]
          omega
        exact Int.le_of_mul_le_mul_right e3 pb
theorem cf_self {a : Int × Int} : cf a a = 0 := by
  have := cf_neg a a
  omega

/-- The place of the least of the first k. -/
def least (l : List (Int × Int)) : Nat → Option Nat
  | 0 => none
  | k + 1 => match least l k with
    | none => some k
    | some j => if cf (l.getD k (0, 0)) (l.getD j (0, 0)) < 0 then some k else some j
def isLeast (l : List (Int × Int)) (n j : Nat) : Prop := j < n ∧ ∀ k, k < n → cf (l.getD j (0, 0)) (l.getD k (0, 0)) ≤ 0 ∧ (k < j → cf (l.getD j (0, 0)) (l.getD k (0, 0)) < 0)
theorem least_none {l : List (Int × Int)} {n : Nat} (h : least l n = none) : n = 0 := by
  cases n with
  | zero => rfl
  | succ k =>
    unfold least at h
    split at h
    · cases h
    · split at h <;> cases h
theorem least_is (l : List (Int × Int)) (hg : ∀ i, good (l.getD i (0, 0))) : ∀ (n j : Nat), least l n = some j → isLeast l n j
  | 0, j, h => by cases h
  | n + 1, j, h => by
    unfold least at h
    split at h
    · rename_i h0
      have hn := least_none h0
      subst hn
      injection h with h
      subst h
      refine ⟨by omega, fun k hk => ?_⟩
      have : k = 0 := by omega
      subst this
      exact ⟨by rw [cf_self]; omega, fun h => absurd h (by omega)⟩
    · rename_i i hi
      obtain ⟨hin, ih⟩ := least_is l hg n i hi
      split at h
      · rename_i hc
        injection h with h
        subst h
        refine ⟨by omega, fun k hk => ?_⟩
        have lt : k < n → cf (l.getD n (0, 0)) (l.getD k (0, 0)) < 0 := by
          intro hkn
          have h1 := (ih k hkn).1
          rcases Int.lt_or_le (cf (l.getD n (0, 0)) (l.getD k (0, 0))) 0 with h | h
          · exact h
          · have h2 := cf_neg (l.getD n (0, 0)) (l.getD k (0, 0))
            have h3 := cf_trans (hg i) (hg k) (hg n) h1 (by omega)
            have h4 := cf_neg (l.getD n (0, 0)) (l.getD i (0, 0))
            omega
        refine ⟨?_, fun h => lt h⟩
        rcases Nat.lt_or_ge k n with hkn | hkn
        · have := lt hkn; omega
        · have : k = n := by omega
          subst this
          rw [cf_self]; omega
      · rename_i hc
        injection h with h
        subst h
        refine ⟨by omega, fun k hk => ?_⟩
        rcases Nat.lt_or_ge k n with hkn | hkn
        · exact ih k hkn
        · have : k = n := by omega
          subst this
          have h4 := cf_neg (l.getD k (0, 0)) (l.getD i (0, 0))
          exact ⟨by omega, fun h => absurd h (by omega)⟩
theorem least_one {l : List (Int × Int)} {n i j : Nat} (hi : isLeast l n i) (hj : isLeast l n j) : i = j := by
  have a := (hi.2 j hj.1)
  have b := (hj.2 i hi.1)
  have c := cf_neg (l.getD i (0, 0)) (l.getD j (0, 0))
  rcases Nat.lt_trichotomy i j with h | h | h
  · have := b.2 h; omega
  · exact h
  · have := a.2 h; omega
/-- As a number: -1 where there is none. -/
def place : Option Nat → Int
  | none => -1
  | some j => j
end Go.Proofs.YtoaboklckkcjcaaGreat.wideG
/- Layer 25: how long a straw is, and which one is shorter. -/
namespace Go.Proofs.YtoaboklckkcjcaaGreat.strA
open Go.ChangeShapes Go.WideShapes Go.ChangeAt Go.RowKit
open Go.Proofs.YtoaboklckkcjcaaGreat.base Go.Proofs.YtoaboklckkcjcaaGreat.mixA Go.Proofs.YtoaboklckkcjcaaGreat.wideC Go.Proofs.YtoaboklckkcjcaaGreat.wideD Go.Proofs.YtoaboklckkcjcaaGreat.wideF Go.Proofs.YtoaboklckkcjcaaGreat.wideG
set_option linter.unusedVariables false

theorem xsZ_in {y : Nat} (h : y < 18446744073709551616) : 0 ≤ xsZ (y : Int) ∧ xsZ (y : Int) < 18446744073709551616 := by
  have e : xsZ (y : Int) = ((xs y : Nat) : Int) := xsI h
  rw [e]
  have := xs_lt h
  omega
theorem wrapN (y : Int) : ∃ n : Nat, IntKind.u64.wrap y = (n : Int) ∧ n < 18446744073709551616 := by
  rw [IntKind.wrap_u64]
  exact ⟨(y % 18446744073709551616).toNat, by omega, by omega⟩
theorem oneZ_in (x : Int) : 0 ≤ oneZ x ∧ oneZ x < 18446744073709551616 := by
  unfold oneZ
  obtain ⟨n, h1, h2⟩ := wrapN (xsZ (IntKind.u64.wrap (xsZ x * 18397679294719823053)) * 14181476777654086739)
  rw [h1]
  exact xsZ_in h2
theorem mix_in (key id : Int) : 0 ≤ mixD.ofZ key [id] ∧ mixD.ofZ key [id] < 18446744073709551616 := oneZ_in _
/-- How long a straw is, without the weight. -/
def lenZ (key id : Int) : Int := logC.ofZ (mixD.ofZ key [id] / 281474976710656 + 1)
theorem lenZ_in (key id : Int) : 0 ≤ lenZ key id ∧ lenZ key id < 18446744073709551616 := by
  have := logC.ofZ_bd (mixD.ofZ key [id] / 281474976710656 + 1)
  unfold lenZ
  omega
/-- Is an item's straw shorter than another one's, or as long, and its number lower? -/
def shB (key : Int) (a b : Int × Int) : Bool := decide (cmpI (lenZ key a.1 * b.2) (lenZ key b.1 * a.2) < 0) || (cmpI (lenZ key a.1 * b.2) (lenZ key b.1 * a.2) == 0 && decide (a.1 < b.1))
/-- The place of the item that is picked, of the first k. -/
def pk (key : Int) (l : List (Int × Int)) : Nat → Option Nat
  | 0 => none
  | k + 1 => if 0 < (l.getD k (0, 0)).2 then (match pk key l k with
    | none => some k
    | some j => if shB key (l.getD k (0, 0)) (l.getD j (0, 0)) = true then some k else some j) else pk key l k
theorem pk_lt (key : Int) (l : List (Int × Int)) : ∀ k j, pk key l k = some j → j < k ∧ 0 < (l.getD j (0, 0)).2
  | 0, j, h => by cases h
  | k + 1, j, h => by
    have ih := pk_lt key l k
    unfold pk at h
    by_cases hw : 0 < (l.getD k (0, 0)).2
    · rw [if_pos hw] at h
      cases hm : pk key l k with
      | none =>
        rw [hm] at h
        injection h with h
        subst h
        exact ⟨by omega, hw⟩
      | some q =>
        rw [hm] at h
        simp only at h
        split at h
        · injection h with h
          subst h
          exact ⟨by omega, hw⟩
        · injection h with h
          subst h
          exact ⟨by have := (ih q hm).1; omega, (ih q hm).2⟩
    · rw [if_neg hw] at h
      exact ⟨by have := (ih j h).1; omega, (ih j h).2⟩
def plc (o : Option Nat) : Int := match o with
  | none => -1
  | some j => j
end Go.Proofs.YtoaboklckkcjcaaGreat.strA
/- Layer 1: the least of fractions. -/
namespace Go.Proofs.YtoaboklckkcjcaaGreat.wideH
open Go.ChangeShapes Go.WideShapes Go.ChangeAt Go.RowKit
open Go.Proofs.YtoaboklckkcjcaaGreat.base Go.Proofs.YtoaboklckkcjcaaGreat.wideC Go.Proofs.YtoaboklckkcjcaaGreat.wideD Go.Proofs.YtoaboklckkcjcaaGreat.wideF Go.Proofs.YtoaboklckkcjcaaGreat.wideG
set_option linter.unusedVariables false

/-- The slice at A reads as these fractions, in blocks below B. -/
def Row2 (w : World) (B : Nat) (A : Option Addr) (xs : List (Int × Int)) : Prop :=
  xs = [] ∨ ∃ b off, A = some ⟨b, off, none⟩ ∧ b < B ∧ ∀ i, i < xs.length → w.cell? ⟨b, off + i * 2, none⟩ = some (.int .u64 (xs.getD i (0, 0)).1) ∧ w.cell? ⟨b, off + i * 2 + 1, none⟩ = some (.int .u64 (xs.getD i (0, 0)).2)
theorem Row2.below {w w' : World} {B : Nat} {A : Option Addr} {xs : List (Int × Int)} (h : Row2 w B A xs) (hb : Below B w w') : Row2 w' B A xs := by
  rcases h with h | ⟨b, off, rfl, hlt, hc⟩
  · exact .inl h
  · exact .inr ⟨b, off, rfl, hlt, fun i hi => ⟨(hb.cell (p := ⟨b, off + i * 2, none⟩) hlt).trans (hc i hi).1, (hb.cell (p := ⟨b, off + i * 2 + 1, none⟩) hlt).trans (hc i hi).2⟩⟩
theorem Row2.at_ {w : World} {B : Nat} {A : Option Addr} {xs : List (Int × Int)} (h : Row2 w B A xs) (hne : 0 < xs.length) : ∃ b off, A = some ⟨b, off, none⟩ ∧ b < B ∧ ∀ i, i < xs.length → w.cell? ⟨b, off + i * 2, none⟩ = some (.int .u64 (xs.getD i (0, 0)).1) ∧ w.cell? ⟨b, off + i * 2 + 1, none⟩ = some (.int .u64 (xs.getD i (0, 0)).2) := by
  rcases h with h | h
  · rw [h] at hne; simp at hne
  · exact h

theorem box_el {w : World} {p : Addr} {q : Addr} {u v x y : Value} {t : TypeId} (h1 : w.cell? p = some x) (h2 : w.cell? q = some y) (W : World) (hW : W = w.alloc (.cells #[u, v] t)) :
    Below W.heap.size W W.drew ∧ W.drew.cell? ⟨w.heap.size, 0, none⟩ = some u ∧ W.drew.cell? ⟨w.heap.size, 1, none⟩ = some v ∧ W.drew.cell? p = some x ∧ W.drew.cell? q = some y := by
  subst hW
  have hb : Below w.heap.size w (w.alloc (.cells #[u, v] t)).drew := ((Below.refl _ _).alloc (Nat.le_refl _) _).drew
  exact ⟨(Below.refl _ _).drew, (Blk.new w t #[u, v]).drew.cell 0, (Blk.new w t #[u, v]).drew.cell 1, kept h1 hb, kept h2 hb⟩
end Go.Proofs.YtoaboklckkcjcaaGreat.wideH
/- Layer 1: the law on fractions. -/
namespace Go.Proofs.YtoaboklckkcjcaaGreat.wideI
open Go.ChangeShapes Go.WideShapes Go.ChangeAt Go.RowKit
open Go.Proofs.YtoaboklckkcjcaaGreat.base Go.Proofs.YtoaboklckkcjcaaGreat.wideB Go.Proofs.YtoaboklckkcjcaaGreat.wideC Go.Proofs.YtoaboklckkcjcaaGreat.wideD Go.Proofs.YtoaboklckkcjcaaGreat.wideF Go.Proofs.YtoaboklckkcjcaaGreat.wideG Go.Proofs.YtoaboklckkcjcaaGreat.wideH
set_option linter.unusedVariables false

theorem Row2.more {w : World} {B B' : Nat} {A : Option Addr} {xs : List (Int × Int)} (h : Row2 w B A xs) (hB : B ≤ B') : Row2 w B' A xs := by
  rcases h with h | ⟨b, off, rfl, hlt, hc⟩
  · exact .inl h
  · exact .inr ⟨b, off, rfl, by omega, hc⟩
/-- Is none of the first k ahead of i? -/
def firstTo (l : List (Int × Int)) (i : Nat) : Nat → Bool
  | 0 => true
  | k + 1 => firstTo l i k && !(decide (cf (l.getD k (0, 0)) (l.getD i (0, 0)) < 0) || (cf (l.getD k (0, 0)) (l.getD i (0, 0)) == 0 && decide (k < i)))
theorem firstTo_all (l : List (Int × Int)) (i : Nat) : ∀ n, firstTo l i n = true ↔ ∀ k, k < n → cf (l.getD i (0, 0)) (l.getD k (0, 0)) ≤ 0 ∧ (k < i → cf (l.getD i (0, 0)) (l.getD k (0, 0)) < 0)
  | 0 => by simp [firstTo]
  | n + 1 => by
    have ih := firstTo_all l i n
    have h4 := cf_neg (l.getD n (0, 0)) (l.getD i (0, 0))
    have e : (!(decide (cf (l.getD n (0, 0)) (l.getD i (0, 0)) < 0) || (cf (l.getD n (0, 0)) (l.getD i (0, 0)) == 0 && decide (n < i)))) = true ↔ (cf (l.getD i (0, 0)) (l.getD n (0, 0)) ≤ 0 ∧ (n < i → cf (l.getD i (0, 0)) (l.getD n (0, 0)) < 0)) := by
      rw [h4]
      generalize cf (l.getD n (0, 0)) (l.getD i (0, 0)) = z
      simp only [Bool.not_eq_true', Bool.or_eq_false_iff, Bool.and_eq_false_iff, decide_eq_false_iff_not, beq_eq_false_iff_ne]
      constructor
      · rintro ⟨h1, h2⟩
        refine ⟨by omega, fun h => ?_⟩
        rcases h2 with h2 | h2
        · omega
        · exact absurd h h2
      · rintro ⟨h1, h2⟩
        refine ⟨by omega, ?_⟩
        by_cases h : n < i
        · have := h2 h; exact .inl (by omega)
        · exact .inr h
    unfold firstTo
    rw [Bool.and_eq_true, ih, e]
    constructor
    · rintro ⟨h1, h2⟩ k hk
      rcases Nat.lt_or_ge k n with h | h
      · exact h1 k h
      · have : k = n := by omega
        subst this
        exact h2
    · intro h
      exact ⟨fun k hk => h k (by omega), h n (by omega)⟩
theorem least_some {l : List (Int × Int)} {n : Nat} (h : 0 < n) : ∃ j, least l n = some j := by
  cases hm : least l n with
  | none => have := least_none hm; omega
  | some j => exact ⟨j, rfl⟩
def bestAt (L : Option Nat) (i : Nat) : Int := match L with
  | none => -1
  | some j => if j < i then j else -1
theorem best_next {l : List (Int × Int)} (hg : ∀ i, good (l.getD i (0, 0))) {n i : Nat} (hi : i < n) : bestAt (least l n) (i + 1) = if firstTo l i n = true then (i : Int) else bestAt (least l n) i := by
  obtain ⟨j, hj⟩ := least_some (l := l) (n := n) (by omega)
  have h1 := least_is l hg n j hj
  rw [hj]
  by_cases h : firstTo l i n = true
  · rw [if_pos h]
    have h2 : isLeast l n i := ⟨hi, (firstTo_all l i n).1 h⟩
    have := least_one h1 h2
    subst this
    simp [bestAt]
  · rw [if_neg h]
    have hne : j ≠ i := by
      rintro rfl
      exact h ((firstTo_all l j n).2 h1.2)
    unfold bestAt
    simp only
    by_cases h3 : j < i
    · rw [if_pos h3, if_pos (by omega)]
    · rw [if_neg h3, if_neg (by omega)]
theorem best_end {l : List (Int × Int)} (hg : ∀ i, good (l.getD i (0, 0))) (n : Nat) : bestAt (least l n) n = place (least l n) := by
  cases hm : least l n with
  | none => rfl
  | some j =>
    have h1 := (least_is l hg n j hm).1
    simp [bestAt, place, h1]
theorem elems {W : World} {p1 p2 p3 p4 : Addr} {x y u v : Value} (h1 : W.cell? p1 = some x) (h2 : W.cell? p2 = some y) (h3 : W.cell? p3 = some u) (h4 : W.cell? p4 = some v) :
    Below W.heap.size W W.drew ∧ W.drew.cell? p1 = some x ∧ W.drew.cell? p2 = some y ∧ W.drew.cell? p3 = some u ∧ W.drew.cell? p4 = some v := ⟨(Below.refl _ _).drew, h1, h2, h3, h4⟩

end Go.Proofs.YtoaboklckkcjcaaGreat.wideI
/- Layer 25: the law's own pick. -/
namespace Go.Proofs.YtoaboklckkcjcaaGreat.strB
open Go.ChangeShapes Go.WideShapes Go.ChangeAt Go.RowKit
open Go.Proofs.YtoaboklckkcjcaaGreat.base Go.Proofs.YtoaboklckkcjcaaGreat.wideF Go.Proofs.YtoaboklckkcjcaaGreat.wideG Go.Proofs.YtoaboklckkcjcaaGreat.wideH Go.Proofs.YtoaboklckkcjcaaGreat.wideI Go.Proofs.YtoaboklckkcjcaaGreat.strA
set_option linter.unusedVariables false

end Go.Proofs.YtoaboklckkcjcaaGreat.strB
/- Layer 3: a table of draws, filled once. -/
namespace Go.Proofs.YtoaboklckkcjcaaGreat.onceBw
open Go.ChangeShapes Go.WideShapes Go.ChangeAt Go.RowKit
open Go.Proofs.YtoaboklckkcjcaaGreat.base Go.Proofs.YtoaboklckkcjcaaGreat.onceA Go.Proofs.YtoaboklckkcjcaaGreat.logC
set_option linter.unusedVariables false

/-- Nothing has changed but block g, and what is new. -/
structure AsideG (g : Nat) (w w' : World) : Prop where
  os : w'.os = w.os
  tape : w'.tape = w.tape
  output : w'.output = w.output
  size : w.heap.size ≤ w'.heap.size
  block : ∀ k, k < w.heap.size → k ≠ g → w'.heap[k]? = w.heap[k]?
theorem AsideG.refl (g : Nat) (w : World) : AsideG g w w := ⟨rfl, rfl, rfl, Nat.le_refl _, fun _ _ _ => rfl⟩
theorem AsideG.trans {g : Nat} {a b c : World} (h : AsideG g a b) (k : AsideG g b c) : AsideG g a c :=
  ⟨k.os.trans h.os, k.tape.trans h.tape, k.output.trans h.output, Nat.le_trans h.size k.size, fun i h1 h2 => (k.block i (Nat.lt_of_lt_of_le h1 h.size) h2).trans (h.block i h1 h2)⟩
theorem AsideG.set {g : Nat} {a b : World} (h : AsideG g a b) (o : Nat) (u : Value) : AsideG g a (b.setCell ⟨g, o, none⟩ u) :=
  ⟨h.os, h.tape, h.output, by simpa using h.size, fun k h1 h2 => (Below.heap_setCell b ⟨g, o, none⟩ u k h2).trans (h.block k h1 h2)⟩
theorem AsideG.new {g : Nat} {a b : World} (h : AsideG g a b) (p : Addr) (hp : a.heap.size ≤ p.block) (u : Value) : AsideG g a (b.setCell p u) :=
  ⟨h.os, h.tape, h.output, by simpa using h.size, fun k h1 h2 => (Below.heap_setCell b p u k (by omega)).trans (h.block k h1 h2)⟩
theorem AsideG.drew {g : Nat} {a b : World} (h : AsideG g a b) : AsideG g a b.drew := ⟨h.os, h.tape, h.output, h.size, h.block⟩
theorem AsideG.below {g : Nat} {a b c : World} (h : AsideG g a b) (k : Below b.heap.size b c) : AsideG g a c :=
  ⟨k.os.trans h.os, k.tape.trans h.tape, k.output.trans h.output, Nat.le_trans h.size k.size, fun i h1 h2 => (k.block i (Nat.lt_of_lt_of_le h1 h.size)).trans (h.block i h1 h2)⟩
theorem AsideG.low {g B : Nat} {a b : World} (h : AsideG g a b) (hg : B ≤ g) (hB : B ≤ a.heap.size) : Below B a b :=
  ⟨h.os, h.tape, h.output, h.size, fun k hk => h.block k (by omega) (by omega)⟩
theorem AsideG.from {g B : Nat} {z a b : World} (h : AsideG g a b) (hz : Below B z a) (hg : B ≤ g) (hB : B ≤ z.heap.size) : Below B z b := hz.trans (h.low hg (Nat.le_trans hB hz.size))
theorem AsideG.blk {g : Nat} {a b : World} (h : AsideG g a b) {k : Nat} {t : TypeId} {cs : Array Value} (hb : Blk a k t cs) (hk : k ≠ g) : Blk b k t cs := (h.block k hb.lt hk).trans hb

theorem info64 : (Tryz.prog.info? 24).map (fun i => (i.zero, i.size, i.bytes)) = some (some (.int .u64 0), 1, 8) := by kernel_rfl
/-- The first k of the table's numbers. -/
def FillTo (w : World) (h k : Nat) : Prop := ∃ cs : Array Value, Blk w h 24 cs ∧ cs.size = 65536 ∧ ∀ i, i < k → cs[i]? = some (.int .u64 (ofZ ((i : Int) + 1)))
theorem FillTo.blk {w w' : World} {h k : Nat} (f : FillTo w h k) (hb : w'.heap[h]? = w.heap[h]?) : FillTo w' h k := by
  obtain ⟨cs, h1, h2, h3⟩ := f
  exact ⟨cs, hb.trans h1, h2, h3⟩
theorem FillTo.lt {w : World} {h k : Nat} (f : FillTo w h k) : h < w.heap.size := by
  obtain ⟨cs, h1, _, _⟩ := f
  exact h1.lt
theorem FillTo.cell {w : World} {h k : Nat} (f : FillTo w h k) (i : Nat) (hi : i < k) : w.cell? ⟨h, i, none⟩ = some (.int .u64 (ofZ ((i : Int) + 1))) := by
  obtain ⟨cs, h1, _, h3⟩ := f
  rw [h1.cell i]
  exact h3 i hi
theorem FillTo.old {w : World} {h k : Nat} (f : FillTo w h k) (i : Nat) (hi : i < 65536) : ∃ u, w.cell? ⟨h, i, none⟩ = some u := by
  obtain ⟨cs, h1, h2, _⟩ := f
  exact ⟨cs[i]'(by omega), by rw [h1.cell i]; simp [h2, hi]⟩
theorem FillTo.frozen {w : World} {h k : Nat} (f : FillTo w h k) (i : Nat) : w.frozen? ⟨h, i, none⟩ = false := by
  obtain ⟨cs, h1, _, _⟩ := f
  exact h1.frozen i
theorem FillTo.next {w : World} {h k : Nat} (f : FillTo w h k) (hk : k < 65536) : FillTo (w.setCell ⟨h, k, none⟩ (.int .u64 (ofZ ((k : Int) + 1)))) h (k + 1) := by
  obtain ⟨cs, h1, h2, h3⟩ := f
  refine ⟨_, h1.set_ k _, by simpa using h2, fun i hi => ?_⟩
  rcases Nat.lt_or_ge i k with hlt | hge
  · rw [Array.getElem?_setIfInBounds_ne (by omega)]
    exact h3 i hlt
  · have : i = k := by omega
    subst this
    rw [Array.getElem?_setIfInBounds_self_of_lt (by omega)]
def TabC (R : List Value) (d s : Int) (all : Value) : Array Value := ([.int .u32 d, .int .i32 s, .int .u32 0, all] ++ R).toArray
def FillPost (g : Nat) (T : TypeId × List Value) (w : World) (e : Ending) (w' : World) : Prop :=
  e = .returned (.tuple #[]) ∧ ∃ h, w.heap.size ≤ h ∧ Blk w' g T.1 (TabC T.2 0 1 (.slice (some ⟨h, 0, none⟩) 65536 65536)) ∧ FillTo w' h 65536 ∧ AsideG g w w'
set_option maxRecDepth 100000 in
set_option maxHeartbeats 4000000 in
theorem fill_any (g : Nat) (T : TypeId × List Value) (w : World) (hb : Blk w g T.1 (TabC T.2 0 1 (.slice none 0 0))) :
    Calls Tryz.prog 108 #[.pointer (some ⟨g, 0, none⟩)] w (FillPost g T w) := by
  obtain ⟨i0, hi, hz0, hz1, hz2⟩ := info_parts info64
  have hmk := run_make_one (P := Tryz.prog) 31 24 i0 (.int .u64 0) Tryz.underlying31 hi hz0 hz1 rfl .i64 .i64 65536 (by omega) (by rw [hz2]; decide) (by omega) w
  have HB := Lib.hid hb
  have HMK := Lib.hid hmk
  clear hi hz0 hz1 hz2
  have c3 : (w.alloc (.cells (zeros 65536 (.int .u64 0)) 24)).cell? ⟨g, 3, none⟩ = some (.slice none 0 0) := (hb.alloc _).cell 3
  have f3 : (w.alloc (.cells (zeros 65536 (.int .u64 0)) 24)).frozen? ⟨g, 3, none⟩ = false := (hb.alloc _).frozen 3
  have HG := Lib.hid hb.lt
  have HN := Lib.hid (show FillTo (w.alloc (.cells (zeros 65536 (.int .u64 0)) 24)) w.heap.size 0 from ⟨_, Blk.new _ _ _, by rw [zeros_size], fun i hi => by omega⟩)
  have HB2 := Lib.hid (show Blk ((w.alloc (.cells (zeros 65536 (.int .u64 0)) 24)).setCell ⟨g, 3, none⟩ (.slice (some ⟨w.heap.size, 0, none⟩) 65536 65536)) g T.1 (TabC T.2 0 1 (.slice (some ⟨w.heap.size, 0, none⟩) 65536 65536)) from (hb.alloc _).set_ 3 _)
  have HA := Lib.hid (show AsideG g w ((w.alloc (.cells (zeros 65536 (.int .u64 0)) 24)).setCell ⟨g, 3, none⟩ (.slice (some ⟨w.heap.size, 0, none⟩) 65536 65536)) from ((AsideG.refl g w).below ((Below.refl w.heap.size w).alloc (Nat.le_refl _) _)).set 3 _)
  clear hb
  rw [show ((65536 : Int)).toNat = 65536 by rfl] at hmk
  go_enter Tryz.func108, Tryz.ntmps108
  go_wp2_with fail
  obtain ⟨h, hh⟩ : ∃ h, h = w.heap.size := ⟨_, rfl⟩
  rw [← hh] at HN HB2 HA HMK ⊢
  have HH := Lib.hid hh
  have HGH := Lib.hid (show g < h by rw [hh]; exact HG.out)
  obtain ⟨w1, hw1⟩ : ∃ w1, w1 = (w.alloc (.cells (zeros 65536 (.int .u64 0)) 24)).setCell ⟨g, 3, none⟩ (.slice (some ⟨h, 0, none⟩) 65536 65536) := ⟨_, rfl⟩
  have HF1 := Lib.hid (show FillTo w1 h 0 from HN.out.blk (by rw [hw1]; exact Below.heap_setCell _ _ _ _ (by have := HGH.out; simp; omega)))
  rw [← hw1] at HB2 HA ⊢
  clear hw1 hh hmk c3 f3 HN HMK HB
  go_loopw [7] (fun i wr => ∃ k : Nat, i = .int .i64 k ∧ k ≤ 65536 ∧ FillTo wr h k ∧ Blk wr g T.1 (TabC T.2 0 1 (.slice (some ⟨h, 0, none⟩) 65536 65536)) ∧ AsideG g w wr) (fun i _ => 65536 - (intOf i).toNat)
  case atStart => exact ⟨0, rfl, by omega, HF1.out, HB2.out, HA.out⟩
  case round =>
    obtain ⟨k, rfl, hk, hf, hb, ha⟩ := hrel
    have KF := Lib.hid hf
    have KB := Lib.hid hb
    have KA := Lib.hid ha
    clear hf hb ha
    by_cases hlt : k < 65536
    · have t1 : decide ((k : Int) < 65536) = true := decide_eq_true (by omega)
      have c3 : wr.drew.cell? ⟨g, 3, none⟩ = some (.slice (some ⟨h, 0, none⟩) 65536 65536) := KB.out.cell 3
      obtain ⟨u, hu⟩ := KF.out.old k hlt
      have cu : wr.drew.cell? ⟨h, k, none⟩ = some u := hu
      have fu : wr.drew.frozen? ⟨h, k, none⟩ = false := KF.out.frozen k
      have k0 : (0 : Int) ≤ k := by omega
      have k1 : (k : Int) < 65536 := by omega
      have HX := Lib.hid (KF.out.next hlt)
      have HW := Lib.hid (show Blk (wr.setCell ⟨h, k, none⟩ (.int .u64 (ofZ ((k : Int) + 1)))) g T.1 (TabC T.2 0 1 (.slice (some ⟨h, 0, none⟩) 65536 65536)) from KB.out.far (by have := HGH.out; simp; omega) _)
      have HY := Lib.hid (KA.out.new ⟨h, k, none⟩ (by rw [HH.out]; exact Nat.le_refl _) (.int .u64 (ofZ ((k : Int) + 1))))
      have wk : IntKind.i64.wrap ((k : Int) + 1) = (k : Int) + 1 := IntWalk.i64_in _ (by omega)
      have H4 := Lib.hid (show (wr.setCell ⟨h, k, none⟩ (.int .u64 (ofZ ((k : Int) + 1)))).drew.cell? ⟨g, 3, none⟩ = some (.slice (some ⟨h, 0, none⟩) 65536 65536) from HW.out.drew.cell 3)
      clear hu
      go_wp2_with fail
      go_region_held3 (fun w' => w'.cell? ⟨g, 3, none⟩ = some (.slice (some ⟨h, 0, none⟩) 65536 65536)) (first | with_reducible assumption | with_reducible exact H4.out)
        (first
          | (go_at_call 113
             (with_reducible refine (of_any _ _).mono ?_)
             rintro e w' ⟨rfl, rfl⟩))
      clear c3 cu fu
      go_wp2_with fail
      go_roundw
      case rel => exact ⟨k + 1, by go_num, by omega, HX.out, HW.out, HY.out.drew⟩
      case measure => simp [intOf]; omega
    · have t1 : decide ((k : Int) < 65536) = false := decide_eq_false (by omega)
      have hk2 : k = 65536 := by omega
      have HP := Lib.hid (show FillPost g T w (.returned (.tuple #[])) wr from ⟨rfl, h, by rw [HH.out]; exact Nat.le_refl _, KB.out, hk2 ▸ KF.out, KA.out⟩)
      clear hk2
      go_wp2_with fail
      go_end0
      exact HP.out
end Go.Proofs.YtoaboklckkcjcaaGreat.onceBw
/- Layer 3: a table of draws, asked. -/
namespace Go.Proofs.YtoaboklckkcjcaaGreat.onceCw
open Go.ChangeShapes Go.WideShapes Go.ChangeAt Go.RowKit
open Go.Proofs.YtoaboklckkcjcaaGreat.base Go.Proofs.YtoaboklckkcjcaaGreat.onceA Go.Proofs.YtoaboklckkcjcaaGreat.onceBw Go.Proofs.YtoaboklckkcjcaaGreat.logC
set_option linter.unusedVariables false

/-- A table that is filled. -/
def Full (g : Nat) (T : TypeId × List Value) (w : World) : Prop := ∃ h, h ≠ g ∧ Blk w g T.1 (TabC T.2 1 0 (.slice (some ⟨h, 0, none⟩) 65536 65536)) ∧ FillTo w h 65536
/-- A table, filled or not yet. -/
def Tab (g : Nat) (T : TypeId × List Value) (w : World) : Prop := Blk w g T.1 (TabC T.2 0 0 (.slice none 0 0)) ∨ Full g T w
def DonePost (g : Nat) (T : TypeId × List Value) (w : World) (e : Ending) (w' : World) : Prop := e = .returned (.tuple #[]) ∧ Full g T w' ∧ AsideG g w w'
set_option maxRecDepth 100000 in
set_option maxHeartbeats 4000000 in
theorem slow_any (g : Nat) (T : TypeId × List Value) (w : World) (hb : Blk w g T.1 (TabC T.2 0 0 (.slice none 0 0))) :
    Calls Tryz.prog 112 #[.pointer (some ⟨g, 0, none⟩), .func (.func 108) #[.pointer (some ⟨g, 0, none⟩)] #[]] w (DonePost g T w) := by
  have l0 : w.cell? ⟨g, 1, none⟩ = some (.int .i32 0) := hb.cell 1
  have z0 : w.frozen? ⟨g, 1, none⟩ = false := hb.frozen 1
  have HG := Lib.hid hb.lt
  obtain ⟨w1, hw1⟩ : ∃ w1, w1 = w.setCell ⟨g, 1, none⟩ (.int .i32 1) := ⟨_, rfl⟩
  have HW1 := Lib.hid hw1
  have HB1 := Lib.hid (show Blk w1 g T.1 (TabC T.2 0 1 (.slice none 0 0)) from hw1 ▸ hb.set_ 1 _)
  have HA1 := Lib.hid (show AsideG g w w1 from hw1 ▸ (AsideG.refl g w).set 1 _)
  have HL := Lib.hid (lock_free ⟨g, 1, none⟩ w l0 z0)
  have HF := Lib.hid (fill_any g T w1 HB1.out)
  have HD := Lib.hid (loadBool ⟨g, 0, none⟩ 0 w1 (HB1.out.cell 0))
  have hnot : ∀ (x : Bool) (w : World), (Op.unary .not (.bool x)).run Tryz.prog w = .ok (.bool (!x)) w := fun _ _ => rfl
  clear hb hw1 l0 z0
  go_enter_defers Tryz.func112, Tryz.ntmps112
  go_wp2_with fail
  refine HL.out.mono ?_
  rintro e w' ⟨rfl, rfl⟩
  rw [← HW1.out]
  go_wp2_with fail
  refine HD.out.mono ?_
  rintro e w' ⟨rfl, rfl⟩
  go_wp2_with fail
  refine HF.out.mono ?_
  rintro e w3 ⟨rfl, h, hh, hb3, hf3, ha3⟩
  have HB3 := Lib.hid hb3
  have HF3 := Lib.hid hf3
  have HA3 := Lib.hid (HA1.out.trans ha3)
  have HH := Lib.hid (show h ≠ g by have := HG.out; have := HA1.out.size; omega)
  clear hh hb3 hf3 ha3
  go_wp2_with fail
  have c0 : w3.cell? ⟨g, 0, none⟩ = some (.int .u32 0) := HB3.out.cell 0
  have f0 : w3.frozen? ⟨g, 0, none⟩ = false := HB3.out.frozen 0
  have HB4 : Blk (w3.drew.setCell ⟨g, 0, none⟩ (.int .u32 1)) g T.1 (TabC T.2 1 1 (.slice (some ⟨h, 0, none⟩) 65536 65536)) := HB3.out.drew.set_ 0 _
  have HF4 : FillTo (w3.drew.setCell ⟨g, 0, none⟩ (.int .u32 1)) h 65536 := HF3.out.blk (Below.heap_setCell w3.drew ⟨g, 0, none⟩ (.int .u32 1) h HH.out)
  have HA4 : AsideG g w (w3.drew.setCell ⟨g, 0, none⟩ (.int .u32 1)) := HA3.out.drew.set 0 _
  refine leaves_cons (f := 118) (args := #[.pointer (some ⟨g, 0, none⟩), .bool true]) (by simp) (by simp [go_sem]) ?_
  refine (store_deferred ⟨g, 0, none⟩ (.int .u32 0) .returning _ c0 f0).mono ?_
  rintro e u' w'' ⟨rfl, rfl, rfl⟩
  have c1 : (w3.drew.setCell ⟨g, 0, none⟩ (.int .u32 1)).cell? ⟨g, 1, none⟩ = some (.int .i32 1) := HB4.cell 1
  have f1 : (w3.drew.setCell ⟨g, 0, none⟩ (.int .u32 1)).frozen? ⟨g, 1, none⟩ = false := HB4.frozen 1
  refine leaves_cons (f := 117) (args := #[.pointer (some ⟨g, 1, none⟩)]) (by simp [settle]) (by simp [go_sem]) ?_
  refine (unlock_deferred ⟨g, 1, none⟩ _ _ c1 f1).mono ?_
  rintro e u' w'' ⟨rfl, rfl, rfl⟩
  have HP : DonePost g T w (.returned (.tuple #[])) ((w3.drew.setCell ⟨g, 0, none⟩ (.int .u32 1)).setCell ⟨g, 1, none⟩ (.int .i32 0)) :=
    ⟨rfl, ⟨h, HH.out, HB4.set_ 1 _, HF4.blk (Below.heap_setCell _ ⟨g, 1, none⟩ (.int .i32 0) h HH.out)⟩, HA4.set 1 _⟩
  simp [Leaves, settle, results, Tryz.results112]
  exact HP
set_option maxRecDepth 100000 in
set_option maxHeartbeats 4000000 in
theorem do_any (g : Nat) (T : TypeId × List Value) (w : World) (hb : Tab g T w) :
    Calls Tryz.prog 107 #[.pointer (some ⟨g, 0, none⟩), .func (.func 108) #[.pointer (some ⟨g, 0, none⟩)] #[]] w (DonePost g T w) := by
  have hnot : ∀ (x : Bool) (w : World), (Op.unary .not (.bool x)).run Tryz.prog w = .ok (.bool (!x)) w := fun _ _ => rfl
  rcases hb with hb | hb
  · have HD := Lib.hid (loadBool ⟨g, 0, none⟩ 0 w (hb.cell 0))
    have HS := Lib.hid (slow_any g T w hb)
    clear hb
    go_enter Tryz.func107, Tryz.ntmps107
    go_wp2_with fail
    refine HD.out.mono ?_
    rintro e w' ⟨rfl, rfl⟩
    go_wp2_with fail
    refine HS.out.mono ?_
    rintro e w' ⟨rfl, h2, h3⟩
    have HP := Lib.hid (show DonePost g T w (.returned (.tuple #[])) w' from ⟨rfl, h2, h3⟩)
    clear h2 h3
    go_wp2_with fail
    go_end0
    exact HP.out
  · obtain ⟨h, h1, h2, h3⟩ := hb
    have HD := Lib.hid (loadBool ⟨g, 0, none⟩ 1 w (h2.cell 0))
    have HP := Lib.hid (show DonePost g T w (.returned (.tuple #[])) w from ⟨rfl, ⟨h, h1, h2, h3⟩, AsideG.refl g w⟩)
    clear h1 h2 h3
    go_enter Tryz.func107, Tryz.ntmps107
    go_wp2_with fail
    refine HD.out.mono ?_
    rintro e w' ⟨rfl, rfl⟩
    go_wp2_with fail
    go_end0
    exact HP.out
def AtPost (g : Nat) (T : TypeId × List Value) (x : Int) (w : World) (e : Ending) (w' : World) : Prop := e = .returned (.int .u64 x) ∧ Full g T w' ∧ AsideG g w w'
theorem Full.drewN {g : Nat} {T : TypeId × List Value} {w : World} (h : Full g T w) (n : Nat) : Full g T (w.drewN n) := h
theorem asideN {g : Nat} {a b : World} (h : AsideG g a b) (n : Nat) : AsideG g a (b.drewN n) := ⟨h.os, h.tape, h.output, h.size, h.block⟩
set_option maxRecDepth 100000 in
set_option maxHeartbeats 4000000 in
theorem at_any (g : Nat) (T : TypeId × List Value) (d : Int) (w : World) (hb : Tab g T w) :
    Calls Tryz.prog 97 #[.pointer (some ⟨g, 0, none⟩), .int .i64 d] w (AtPost g T (ofZ d) w) := by
  have HD := Lib.hid (do_any g T w hb)
  have hd := heldN_bd d
  have HZ : ofZ d = ofZ (((heldN d - 1 : Nat) : Int) + 1) := by
    have e : heldN (((heldN d - 1 : Nat) : Int) + 1) = heldN d := by
      rw [show (((heldN d - 1 : Nat) : Int) + 1) = (heldN d : Int) by omega]
      have h2 := heldN_bd d
      generalize heldN d = n at *
      unfold heldN
      rw [if_neg (by omega), if_neg (by omega), Int.toNat_natCast]
    unfold ofZ
    rw [e]
  rw [HZ]
  have HH := Lib.hid (fun W => held_any d W)
  obtain ⟨k, hk⟩ : ∃ k, heldN d = k + 1 := ⟨heldN d - 1, by omega⟩
  rw [hk] at HH
  rw [show heldN d - 1 = k by omega]
  have hk2 : k < 65536 := by omega
  have k0 : (0 : Int) ≤ k := by omega
  have k1 : (k : Int) < 65536 := by omega
  clear hd HZ hk hb
  go_enter Tryz.func97, Tryz.ntmps97
  go_wp2_with fail
  refine HD.out.mono ?_
  rintro e w3 ⟨rfl, hf, ha⟩
  have HFU := Lib.hid hf
  have HAS := Lib.hid ha
  obtain ⟨h, hh, hb3, hf3⟩ := hf
  have c3 : w3.cell? ⟨g, 3, none⟩ = some (.slice (some ⟨h, 0, none⟩) 65536 65536) := hb3.cell 3
  have ck : w3.cell? ⟨h, k, none⟩ = some (.int .u64 (ofZ ((k : Int) + 1))) := hf3.cell k hk2
  have wk : IntKind.i64.wrap (((k + 1 : Nat) : Int) - 1) = (k : Int) := by
    rw [IntWalk.i64_in _ (by omega)]
    omega
  clear ha hh hb3 hf3
  go_wp2_with fail
  go_quiet ((go_at_call 109; exact Calls.quiet_of_same ((HH.out _).mono fun e w' ⟨x, y⟩ => ⟨x, y.symm⟩)))
  have HP := Lib.hid (show AtPost g T (ofZ ((k : Int) + 1)) w (.returned (.int .u64 (ofZ ((k : Int) + 1)))) (w3.drewN nq) from ⟨rfl, HFU.out.drewN nq, asideN HAS.out nq⟩)
  clear c3 ck wk
  go_wp2_with fail
  go_ret
  exact HP.out
end Go.Proofs.YtoaboklckkcjcaaGreat.onceCw
/- Layer 25: how long an item's straw is. -/
namespace Go.Proofs.YtoaboklckkcjcaaGreat.strCw
open Go.ChangeShapes Go.WideShapes Go.ChangeAt Go.RowKit
open Go.Proofs.YtoaboklckkcjcaaGreat.base Go.Proofs.YtoaboklckkcjcaaGreat.onceBw Go.Proofs.YtoaboklckkcjcaaGreat.onceCw Go.Proofs.YtoaboklckkcjcaaGreat.wideF Go.Proofs.YtoaboklckkcjcaaGreat.wideG Go.Proofs.YtoaboklckkcjcaaGreat.wideH Go.Proofs.YtoaboklckkcjcaaGreat.wideI Go.Proofs.YtoaboklckkcjcaaGreat.strA
set_option linter.unusedVariables false

theorem tab_blk {g : Nat} {T : TypeId × List Value} {w w' : World} (h : Tab g T w) (hb : ∀ k, k < w.heap.size → w'.heap[k]? = w.heap[k]?) : Tab g T w' := by
  rcases h with h | ⟨q, h1, h2, h3⟩
  · exact .inl ((hb g h.lt).trans h)
  · exact .inr ⟨q, h1, (hb g h2.lt).trans h2, h3.blk (hb q h3.lt)⟩
theorem tab_below {g : Nat} {T : TypeId × List Value} {w w' : World} (h : Tab g T w) (hb : Below w.heap.size w w') : Tab g T w' := tab_blk h fun k hk => hb.block k hk
theorem tab_lt {g : Nat} {T : TypeId × List Value} {w : World} (h : Tab g T w) : g < w.heap.size := by
  rcases h with h | ⟨q, h1, h2, h3⟩
  · exact h.lt
  · exact h2.lt
theorem tab_far {g : Nat} {T : TypeId × List Value} {w : World} (h : Tab g T w) {k : Nat} {t : TypeId} {cs : Array Value} (hk : Blk w k t cs) (hs : cs.size ≠ 65536) (hg : k ≠ g) (o : Nat) (v : Value) : Tab g T (w.setCell ⟨k, o, none⟩ v) := by
  rcases h with h | ⟨q, h1, h2, h3⟩
  · exact .inl (h.far (fun e => hg e.symm) v)
  · refine .inr ⟨q, h1, h2.far (fun e => hg e.symm) v, h3.blk (Below.heap_setCell w ⟨k, o, none⟩ v q fun e => ?_)⟩
    obtain ⟨ds, h4, h5, _⟩ := h3
    have e2 : q = k := e
    subst e2
    have := Option.some.inj (h4.symm.trans hk)
    injection this with h6
    rw [h6] at h5
    exact hs h5
def LongPost (g : Nat) (T : TypeId × List Value) (x wt : Int) (w : World) (e : Ending) (w' : World) : Prop := e = .returned (.agg #[.int .u64 x, .int .u64 wt]) ∧ Tab g T w' ∧ AsideG g w w'
theorem long_nil (key id wt : Int) (w : World) : Calls Tryz.prog 72 #[.pointer none, .int .u64 key, .agg #[.int .u64 id, .int .u64 wt]] w fun e w' => e = .returned (.agg #[.int .u64 0, .int .u64 0]) ∧ Below w.heap.size w w' := by
  go_enter Tryz.func72, Tryz.ntmps72
  go_wp2
  go_returns
  exact ⟨rfl, by go_grown⟩
set_option maxHeartbeats 4000000 in
theorem long_any (g : Nat) (T : TypeId × List Value) (key id wt : Int) (w : World) (ht : Tab g T w) :
    Calls Tryz.prog 72 #[.pointer (some ⟨g, 0, none⟩), .int .u64 key, .agg #[.int .u64 id, .int .u64 wt]] w (LongPost g T (lenZ key id) wt w) := by
  obtain ⟨W, hW⟩ : ∃ W, W = (w.alloc (.cells #[.int .u64 id, .int .u64 wt] 97)).alloc (.cells #[.int .u64 0, .int .u64 0] 126) := ⟨_, rfl⟩
  have hBel : Below w.heap.size w W := hW ▸ ((Below.refl w.heap.size w).alloc (Nat.le_refl _) _).alloc (by simp) _
  have hsz : W.heap.size = w.heap.size + 2 := by rw [hW]; simp
  have hB1 : Blk W w.heap.size 97 #[.int .u64 id, .int .u64 wt] := hW ▸ (Blk.new w _ _).alloc _
  have hB2 : Blk W (w.heap.size + 1) 126 #[.int .u64 0, .int .u64 0] := by
    have := Blk.new (w.alloc (.cells #[.int .u64 id, .int .u64 wt] 97)) 126 #[.int .u64 0, .int .u64 0]
    rw [hW]
    simpa using this
  obtain ⟨W1, hW1⟩ : ∃ W1, W1 = (W.alloc (.cells #[.int .u64 id] 24)).drew := ⟨_, rfl⟩
  have hb1 : Below W.heap.size W W1 := hW1 ▸ ((Below.refl W.heap.size W).alloc (Nat.le_refl _) _).drew
  have hr : Row W1 W1.heap.size (some ⟨W.heap.size, 0, none⟩) ([id].map (.int .u64)) := .inr ⟨W.heap.size, 0, rfl, by rw [hW1]; simp, fun i u hu => by
    rw [Nat.zero_add, hW1, World.cell?_drew, (Blk.new W 24 #[.int .u64 id]).cell i]
    simpa using hu⟩
  have HM := Lib.hid (mixD.of_any key _ 1 1 [id] _ _ rfl (by omega) hr)
  have hm := mix_in key id
  have he : lenZ key id = logC.ofZ (mixD.ofZ key [id] / 281474976710656 + 1) := rfl
  obtain ⟨x, hx⟩ : ∃ x, x = mixD.ofZ key [id] := ⟨_, rfl⟩
  rw [← hx] at HM hm he
  have HD := Lib.hid (fun W => mixB.draw_in x hm.1 hm.2 W)
  have HT := Lib.hid (at_any g T (x / 281474976710656 + 1) W1 (tab_below (tab_below ht hBel) hb1))
  rw [← he] at HT
  have hg := tab_lt ht
  generalize lenZ key id = y at *
  have HG := Lib.hid hg
  have HA1 := Lib.hid (((AsideG.refl g w).below hBel).below hb1)
  have s0 : W.drew.cell? ⟨w.heap.size, 0, none⟩ = some (.int .u64 id) ∧ W.drew.cell? ⟨w.heap.size, 1, none⟩ = some (.int .u64 wt) := ⟨hB1.cell 0, hB1.cell 1⟩
  have s1 : W1.cell? ⟨w.heap.size, 0, none⟩ = some (.int .u64 id) ∧ W1.cell? ⟨w.heap.size, 1, none⟩ = some (.int .u64 wt) := ⟨(hB1.below hb1 hB1.lt).cell 0, (hB1.below hb1 hB1.lt).cell 1⟩
  have KB1 := Lib.hid (hB1.below hb1 hB1.lt)
  have KB2 := Lib.hid (hB2.below hb1 hB2.lt)
  have HW := Lib.hid hW
  have HW1 := Lib.hid hW1
  have HSZ := Lib.hid hsz
  clear hr hx he hW hW1 hB1 hB2 hsz hm hg hb1 hBel ht
  go_enter Tryz.func72, Tryz.ntmps72
  go_wp2_with fail
  rw [← HW.out]
  go_region_held3 (fun w' => w'.cell? ⟨w.heap.size, 0, none⟩ = some (.int .u64 id) ∧ w'.cell? ⟨w.heap.size, 1, none⟩ = some (.int .u64 wt))
    (first | with_reducible assumption | (rw [← HW1.out]; with_reducible assumption))
    (first
      | (go_at_call 46; rw [← HW1.out]; (with_reducible refine HM.out.mono ?_); rintro e w' ⟨rfl, rfl⟩)
      | (go_at_call 98; (with_reducible refine (HD.out _).mono ?_); rintro e w' ⟨rfl, rfl⟩)
      | (go_at_call 97; (with_reducible refine HT.out.mono ?_)
         rintro e w3 ⟨rfl, hf, ha⟩
         have k1 := ha.blk KB1.out (show w.heap.size ≠ g by have := HG.out; omega)
         have k2 := ha.blk KB2.out (show w.heap.size + 1 ≠ g by have := HG.out; omega)
         have k3 : Blk ((w3.setCell ⟨w.heap.size + 1, 0, none⟩ (.int .u64 y)).setCell ⟨w.heap.size + 1, 1, none⟩ (.int .u64 wt)) (w.heap.size + 1) 126 #[.int .u64 y, .int .u64 wt] := (k2.set_ 0 _).set_ 1 _
         have k4 : Blk ((w3.setCell ⟨w.heap.size + 1, 0, none⟩ (.int .u64 y)).setCell ⟨w.heap.size + 1, 1, none⟩ (.int .u64 wt)) w.heap.size 97 #[.int .u64 id, .int .u64 wt] := (k1.far (by simp) _).far (by simp) _
         have s3 : w3.cell? ⟨w.heap.size, 0, none⟩ = some (.int .u64 id) ∧ w3.cell? ⟨w.heap.size, 1, none⟩ = some (.int .u64 wt) := ⟨k1.cell 0, k1.cell 1⟩
         have s4 : ((w3.setCell ⟨w.heap.size + 1, 0, none⟩ (.int .u64 y)).setCell ⟨w.heap.size + 1, 1, none⟩ (.int .u64 wt)).cell? ⟨w.heap.size, 0, none⟩ = some (.int .u64 id) ∧ ((w3.setCell ⟨w.heap.size + 1, 0, none⟩ (.int .u64 y)).setCell ⟨w.heap.size + 1, 1, none⟩ (.int .u64 wt)).cell? ⟨w.heap.size, 1, none⟩ = some (.int .u64 wt) := ⟨k4.cell 0, k4.cell 1⟩
         have d0 : w3.cell? ⟨w.heap.size + 1, 0, none⟩ = some (.int .u64 0) := k2.cell 0
         have d1 : w3.cell? ⟨w.heap.size + 1, 1, none⟩ = some (.int .u64 0) := k2.cell 1
         have f0 : w3.frozen? ⟨w.heap.size + 1, 0, none⟩ = false := k2.frozen 0
         have f1 : w3.frozen? ⟨w.heap.size + 1, 1, none⟩ = false := k2.frozen 1
         have HK3 := Lib.hid k3
         have HA3 := Lib.hid (((HA1.out.trans ha).new ⟨w.heap.size + 1, 0, none⟩ (by simp) (.int .u64 y)).new ⟨w.heap.size + 1, 1, none⟩ (by simp) (.int .u64 wt))
         have HTF := Lib.hid (tab_far (tab_far (.inr hf) k2 (by show (2 : Nat) ≠ 65536; omega) (by have := HG.out; omega) 0 (.int .u64 y)) (k2.set_ 0 _) (by simp) (by have := HG.out; omega) 1 (.int .u64 wt))
         clear k1 k2 k3 k4 hf ha))
  clear s0 s1
  have HP := Lib.hid (show LongPost g T y wt w (.returned (.agg #[.int .u64 y, .int .u64 wt])) ((w3.setCell ⟨w.heap.size + 1, 0, none⟩ (.int .u64 y)).setCell ⟨w.heap.size + 1, 1, none⟩ (.int .u64 wt)) from ⟨rfl, HTF.out, HA3.out⟩)
  have e0 : ((w3.setCell ⟨w.heap.size + 1, 0, none⟩ (.int .u64 y)).setCell ⟨w.heap.size + 1, 1, none⟩ (.int .u64 wt)).cell? ⟨w.heap.size + 1, 0, none⟩ = some (.int .u64 y) := HK3.out.cell 0
  have e1 : ((w3.setCell ⟨w.heap.size + 1, 0, none⟩ (.int .u64 y)).setCell ⟨w.heap.size + 1, 1, none⟩ (.int .u64 wt)).cell? ⟨w.heap.size + 1, 1, none⟩ = some (.int .u64 wt) := HK3.out.cell 1
  clear d0 d1 f0 f1 s3 s4
  generalize (w3.setCell ⟨w.heap.size + 1, 0, none⟩ (.int .u64 y)).setCell ⟨w.heap.size + 1, 1, none⟩ (.int .u64 wt) = w4 at *
  go_wp2_with fail
  exact bodyPost_ret (v := .agg #[.int .u64 y, .int .u64 wt]) (by simp [results, Tryz.results72, go_sem, e0, e1]) rfl HP.out
end Go.Proofs.YtoaboklckkcjcaaGreat.strCw
