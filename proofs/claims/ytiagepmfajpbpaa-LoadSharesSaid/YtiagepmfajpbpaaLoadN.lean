/- Layer 24: the law on shares, where counts may not be. -/
import Derived.Test.YtiagepmfajpbpaaLoadM
import Derived.Test.YtiagepmfajpbpaaLoadE
namespace Go.Proofs.Ytiagepmfajpbpaa.loadN
open Go.ChangeShapes Go.WideShapes Go.ChangeAt Go.RowKit
open Go.Proofs.Ytiagepmfajpbpaa.base Go.Proofs.Ytiagepmfajpbpaa.loadA Go.Proofs.Ytiagepmfajpbpaa.loadB Go.Proofs.Ytiagepmfajpbpaa.loadC Go.Proofs.Ytiagepmfajpbpaa.loadD Go.Proofs.Ytiagepmfajpbpaa.loadL Go.Proofs.Ytiagepmfajpbpaa.loadM
set_option linter.unusedVariables false

theorem of_no (A B : Option Addr) (n c m d : Nat) (xs ys : List Int) (f : Int) (w : World) (hl : xs.length = n) (al : ys.length = m) (hr : Row w w.heap.size A (xs.map (.int .i64))) (ar : Row w w.heap.size B (ys.map (.int .i64)))
    (hn : n ≤ 9223372036854775807) (hm : m ≤ 9223372036854775807) (hp : ¬ rightP xs ys f) :
    Calls Try.prog 10 #[.slice A n c, .slice B m d, .int .i64 f] w fun e w' => e = .returned (.slice none 0 0) ∧ Below w.heap.size w w' := by
  have HR := Lib.hid (right_no A B n c m d xs ys f w hl al hr ar hn hm hp)
  clear hl al hr ar hp hn hm
  go_enter Try.func10, Try.ntmps10
  go_wp2_with fail
  refine HR.out.mono ?_
  rintro e w1 ⟨rfl, hb⟩
  go_wp2_with fail
  go_ret
  exact ⟨rfl, hb⟩
set_option maxRecDepth 100000 in
theorem shares_no (A B : Option Addr) (n c m d : Nat) (xs ys : List Int) (f : Int) (w : World) (hl : xs.length = n) (al : ys.length = m) (hr : Row w w.heap.size A (xs.map (.int .i64))) (ar : Row w w.heap.size B (ys.map (.int .i64)))
    (hn : n ≤ 9223372036854775807) (hm : m ≤ 9223372036854775807) (hp : ¬ rightP xs ys f) :
    Calls Try.prog 3 #[.slice A n c, .slice B m d, .int .i64 f] w fun e w' => e = .returned (.bool true) ∧ Below w.heap.size w w' := by
  have HO := Lib.hid (of_no A B n c m d xs ys f w hl al hr ar hn hm hp)
  have HR := Lib.hid (fun w hr ar => right_no A B n c m d xs ys f w hl al hr ar hn hm hp)
  have HL := Lib.hid (fun w hr ar => lawright_no A B n c m d xs ys f w hl al hr ar hn hm hp)
  have R1 := Lib.hid hr
  have R2 := Lib.hid ar
  clear hl al hr ar hp hn hm
  go_enter Try.func3, Try.ntmps3
  go_wp2_with fail
  refine HO.out.mono ?_
  rintro e w1 ⟨rfl, hb⟩
  have HB1 := Lib.hid hb
  clear hb
  go_wp2_with fail
  refine (HR.out _ ((R1.out.below HB1.out).more HB1.out.size) ((R2.out.below HB1.out).more HB1.out.size)).mono ?_
  rintro e w2 ⟨rfl, hb⟩
  have HB2 := Lib.hid (bel_call HB1.out hb)
  clear hb
  go_wp2_with fail
  refine (HL.out _ ((R1.out.below HB2.out).more HB2.out.size) ((R2.out.below HB2.out).more HB2.out.size)).mono ?_
  rintro e w3 ⟨rfl, hb⟩
  have HB3 := Lib.hid (bel_call HB2.out hb)
  clear hb
  go_wp2_with fail
  refine (HL.out _ ((R1.out.below HB3.out).more HB3.out.size) ((R2.out.below HB3.out).more HB3.out.size)).mono ?_
  rintro e w4 ⟨rfl, hb⟩
  have HB4 := Lib.hid (bel_call HB3.out hb)
  clear hb
  go_wp2_with fail
  refine (Go.Proofs.Ytiagepmfajpbpaa.loadE.awake_any _).mono ?_
  rintro e w5 ⟨rfl, hb⟩
  have HB5 := Lib.hid (bel_call HB4.out hb)
  clear hb
  go_wp2_with fail
  go_ret
  exact ⟨rfl, HB5.out⟩
theorem bne_zero {x : Int} (h : x = 0) : (x != 0) = false := by subst h; rfl
theorem keep3 {w w' : World} {p1 p2 p3 : Addr} {v1 v2 v3 : Value} (h : w.cell? p1 = some v1 ∧ w.cell? p2 = some v2 ∧ w.cell? p3 = some v3) (hb : Below w.heap.size w w') : w'.cell? p1 = some v1 ∧ w'.cell? p2 = some v2 ∧ w'.cell? p3 = some v3 :=
  ⟨kept h.1 hb, kept h.2.1 hb, kept h.2.2 hb⟩
theorem place_none : placeZ none = -1 := rfl
theorem place_some (j : Nat) : placeZ (some j) = (j : Int) := rfl
theorem place_step (xs : List Int) (k : Nat) : placeZ (firstP xs (k + 1)) = if 0 < xs.getD k 0 ∧ placeZ (firstP xs k) < 0 then (k : Int) else placeZ (firstP xs k) := by
  rw [firstP]
  cases h : firstP xs k with
  | none =>
    rw [place_none]
    by_cases hx : 0 < xs.getD k 0
    · have e : (if 0 < xs.getD k 0 ∧ (-1 : Int) < 0 then (k : Int) else -1) = k := if_pos ⟨hx, by decide⟩
      rw [e]
      show placeZ (if 0 < xs.getD k 0 then some k else none) = _
      rw [if_pos hx, place_some]
    · have e : (if 0 < xs.getD k 0 ∧ (-1 : Int) < 0 then (k : Int) else -1) = -1 := if_neg (fun e => hx e.1)
      rw [e]
      show placeZ (if 0 < xs.getD k 0 then some k else none) = _
      rw [if_neg hx, place_none]
  | some j =>
    have e : (if 0 < xs.getD k 0 ∧ placeZ (some j) < 0 then (k : Int) else placeZ (some j)) = placeZ (some j) := if_neg (by rw [place_some]; omega)
    rw [e]
theorem place_in (xs : List Int) (k : Nat) : -1 ≤ placeZ (firstP xs k) ∧ placeZ (firstP xs k) ≤ k := by
  cases h : firstP xs k with
  | none => rw [place_none]; omega
  | some j => have := (firstP_lt xs k j h).1; rw [place_some]; omega
theorem ofZ_place (xs : List Int) (n : Nat) (S : Int) (h : Nat → Int) (i : Nat) : ofZ xs n S h i = partZ S (h i) (leftZ S h i) + if (i : Int) = placeZ (firstP xs n) then leftZ S h n else 0 := by
  unfold ofZ
  cases hf : firstP xs n with
  | none => rw [place_none, if_neg (by simp), if_neg (by omega)]
  | some q =>
    rw [place_some]
    by_cases e : q = i
    · subst e; simp
    · rw [if_neg (by simpa using e), if_neg (by omega)]
/-- The document's facts on what each level gets. -/
structure Facts (xs ys : List Int) (n : Nat) (f S P : Int) (h v : Nat → Int) : Prop where
  hin : ∀ i, 0 ≤ h i ∧ h i ≤ 10000
  val : ∀ i, v i = partZ S (h i) (leftZ S h i) + if (i : Int) = P then leftZ S h n else 0
  bare : ∀ i, i < n → xs.getD i 0 = 0 → v i = 0
  behind : ∀ i, i < n → 10000 ≤ sumF h i → v i = 0
  none : P < 0 → sumF v n = 0
  all : 0 ≤ P → sumF v n = 10000
  pin : -1 ≤ P ∧ P < n ∧ (P < 0 ∨ 0 < n)
  first : 0 < n → f * xs.getD 0 0 < 100 * ys.getD 0 0 ∨ xs.getD 0 0 = 0 ∨ v 0 = 10000
  part : ∀ i, 0 ≤ v i ∧ v i ≤ 20000
theorem facts (xs ys : List Int) (n : Nat) (f : Int) (hl : xs.length = n) (hp : rightP xs ys f) :
    Facts xs ys n f (capZ (sumF (heaZ xs ys f) n)) (placeZ (firstP xs n)) (heaZ xs ys f) (ofZ xs n (capZ (sumF (heaZ xs ys f) n)) (heaZ xs ys f)) := by
  obtain ⟨p1, p2, p3, p4, p5⟩ := hp
  have ok : ∀ i, i < n → 0 ≤ xs.getD i 0 ∧ xs.getD i 0 ≤ ys.getD i 0 ∧ ys.getD i 0 ≤ 1048576 := fun i hi => by
    have := p5 i (by rw [hl]; exact hi)
    simpa [okp] using this
  have hin : ∀ i, 0 ≤ heaZ xs ys f i ∧ heaZ xs ys f i ≤ 10000 := fun i => healthZ_in _ _ _
  have bare : ∀ i, i < n → xs.getD i 0 = 0 → ofZ xs n (capZ (sumF (heaZ xs ys f) n)) (heaZ xs ys f) i = 0 := fun i hi hx => by
    refine ofZ_bare xs n _ _ i ?_ hx
    unfold heaZ
    rw [hx]
    exact health_none _ _
  refine ⟨hin, fun i => ofZ_place xs n _ _ i, bare, fun i hi hs => ofZ_behind xs n _ (fun i => (hin i).1) i hi hs, fun hP => ?_, fun hP => ?_, ?_, fun h0 => ?_, fun i => ofZ_in _ _ _ _ _⟩
  · cases hf : firstP xs n with
    | none => 
      refine sumF_zero _ n fun i hi => bare i hi ?_
      have := firstP_none xs n hf i hi
      have := ok i hi
      omega
    | some q => rw [hf] at hP; first | (rw [place_some] at hP; omega) | (rw [place_none] at hP; omega)
  · cases hf : firstP xs n with
    | none => rw [hf] at hP; first | (rw [place_some] at hP; omega) | (rw [place_none] at hP; omega)
    | some q => exact sum_all xs n _ _ q hf
  · cases hf : firstP xs n with
    | none => rw [place_none]; omega
    | some q => have := (firstP_lt xs n q hf).1; rw [place_some]; omega
  · by_cases h1 : f * xs.getD 0 0 < 100 * ys.getD 0 0
    · exact .inl h1
    · by_cases h2 : xs.getD 0 0 = 0
      · exact .inr (.inl h2)
      · have o := ok 0 h0
        refine .inr (.inr (ofZ_first xs n _ (fun i => (hin i).1) h0 ?_ (by omega)))
        exact health_full _ _ _ (by omega) o.2.1 p3 (by omega)
end Go.Proofs.Ytiagepmfajpbpaa.loadN
