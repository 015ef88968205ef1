/- Layer 24: how much each level gets, reckoned. -/
import Derived.Test.YtiagepmfajpbpaaLoadB
import Derived.Test.YtiagepmfajpbpaaMem
import Derived.Deep.RegionHeld3
namespace Go.Proofs.Ytiagepmfajpbpaa.loadC
open Go.ChangeShapes Go.WideShapes Go.ChangeAt Go.RowKit
open Go.Proofs.Ytiagepmfajpbpaa.base Go.Proofs.Ytiagepmfajpbpaa.loadA Go.Proofs.Ytiagepmfajpbpaa.loadB
set_option linter.unusedVariables false

theorem info_int : (Try.prog.info? 3).map (fun i => (i.zero, i.size, i.bytes)) = some (some (.int .i64 0), 1, 8) := by kernel_rfl
/-- A table of n numbers, as cells. -/
def tab (n : Nat) (g : Nat → Int) : Array Value := ((List.range n).map fun i => Value.int .i64 (g i)).toArray
theorem tab_get (n : Nat) (g : Nat → Int) (i : Nat) (h : i < n) : (tab n g)[i]? = some (.int .i64 (g i)) := by simp [tab, h]
theorem tab_size (n : Nat) (g : Nat → Int) : (tab n g).size = n := by simp [tab]
theorem tab_congr {n : Nat} {g g' : Nat → Int} (h : ∀ i, i < n → g i = g' i) : tab n g = tab n g' := by
  unfold tab
  congr 1
  exact List.map_congr_left fun i hi => by rw [h i (by simpa using hi)]
theorem tab_set (n : Nat) (g : Nat → Int) (k : Nat) (v : Int) : (tab n g).setIfInBounds k (.int .i64 v) = tab n fun i => if i = k then v else g i := by
  apply Array.ext_getElem?
  intro i
  rcases Nat.lt_or_ge i n with h | h
  · rw [tab_get n _ i h, Array.getElem?_setIfInBounds, tab_size, tab_get n _ i h]
    by_cases hk : k = i
    · subst hk; simp [h]
    · have : ¬ i = k := fun h => hk h.symm
      simp [hk, this]
  · rw [Array.getElem?_eq_none (by simp [tab_size]; exact h), Array.getElem?_eq_none (by rw [tab_size]; exact h)]
theorem tab_zero (n : Nat) : zeros n (.int .i64 0) = tab n fun _ => 0 := by simp [zeros, tab, List.map_const']
def heaZ (xs ys : List Int) (f : Int) (i : Nat) : Int := healthZ (xs.getD i 0) (ys.getD i 0) f
def sumF (h : Nat → Int) : Nat → Int
  | 0 => 0
  | k + 1 => sumF h k + h k
theorem sumF_in (h : Nat → Int) (B : Int) (hB : ∀ i, 0 ≤ h i ∧ h i ≤ B) (k : Nat) : 0 ≤ sumF h k ∧ sumF h k ≤ k * B := by
  induction k with
  | zero => simp [sumF]
  | succ k ih =>
    have := hB k
    have e : ((k + 1 : Nat) : Int) * B = k * B + B := by rw [Int.natCast_succ, Int.add_mul, Int.one_mul]
    rw [e, sumF]
    omega
def partZ (S x left : Int) : Int := if 0 < S then min (max (x * 10000 / S) 0) left else 0
def leftZ (S : Int) (h : Nat → Int) : Nat → Int
  | 0 => 10000
  | k + 1 => leftZ S h k - partZ S (h k) (leftZ S h k)
theorem part_in (S x left : Int) (h : 0 ≤ left) : 0 ≤ partZ S x left ∧ partZ S x left ≤ left := by
  unfold partZ
  split
  · generalize x * 10000 / S = q
    omega
  · omega
theorem left_in (S : Int) (h : Nat → Int) (k : Nat) : 0 ≤ leftZ S h k ∧ leftZ S h k ≤ 10000 := by
  induction k with
  | zero => simp [leftZ]
  | succ k ih =>
    have := part_in S (h k) (leftZ S h k) ih.1
    rw [leftZ]
    omega
def capZ (x : Int) : Int := min (max x 0) 10000
def firstP (xs : List Int) : Nat → Option Nat
  | 0 => none
  | k + 1 => match firstP xs k with
    | some j => some j
    | none => if 0 < xs.getD k 0 then some k else none
theorem firstP_lt (xs : List Int) (k j : Nat) (h : firstP xs k = some j) : j < k ∧ 0 < xs.getD j 0 := by
  induction k with
  | zero => simp [firstP] at h
  | succ k ih =>
    rw [firstP] at h
    cases hk : firstP xs k with
    | some i =>
      rw [hk] at h
      simp only [Option.some.injEq] at h
      subst h
      have := ih hk
      exact ⟨by omega, this.2⟩
    | none =>
      rw [hk] at h
      simp only at h
      split at h
      · simp only [Option.some.injEq] at h
        subst h
        exact ⟨by omega, by assumption⟩
      · cases h
theorem firstP_mono (xs : List Int) (k j : Nat) (h : firstP xs k = some j) (m : Nat) : firstP xs (k + m) = some j := by
  induction m with
  | zero => exact h
  | succ m ih => rw [← Nat.add_assoc, firstP, ih]
theorem keepS {W w w' : World} {p1 p2 p3 : Addr} {v1 v2 v3 : Value} (h : Below W.heap.size W w ∧ w.cell? p1 = some v1 ∧ w.cell? p2 = some v2 ∧ w.cell? p3 = some v3 ∧ w.frozen? p3 = false) (hb : Below w.heap.size w w') :
    Below W.heap.size W w' ∧ w'.cell? p1 = some v1 ∧ w'.cell? p2 = some v2 ∧ w'.cell? p3 = some v3 ∧ w'.frozen? p3 = false := by
  obtain ⟨h0, h1, h2, h3, h4⟩ := h
  exact ⟨h0.trans (hb.mono h0.size), kept h1 hb, kept h2 hb, kept h3 hb, (hb.frozen (World.block_lt_of_cell? w _ h3)).trans h4⟩

theorem closure_any (x : Int) (w : World) :
    Calls Try.prog 51 #[.int .i64 x] w fun e w' => e = .returned (.bool (decide (0 < x))) ∧ w = w' := by
  go_enter Try.func51, Try.ntmps51
  go_wp2
  go_ret
  exact ⟨rfl, rfl⟩
def placeZ : Option Nat → Int
  | none => -1
  | some j => j
theorem index_any (A : Option Addr) (n c : Nat) (xs : List Int) (w : World) (hl : xs.length = n) (hn : n ≤ 1000000) (hr : Row w w.heap.size A (xs.map (.int .i64))) :
    Calls Try.prog 50 #[.slice A n c, .func (.func 51) #[] #[]] w fun e w' => e = .returned (.int .i64 (placeZ (firstP xs n))) ∧ w = w' := by
  have HH := Lib.hid hl
  have HR := Lib.hid hr
  clear hl hr
  go_enter Try.func50, Try.ntmps50
  go_wp2_with fail
  go_loop [8] (fun i => ∃ k : Nat, k ≤ n ∧ i = .int .i64 k ∧ firstP xs k = none) (fun i => n - (intOf i).toNat)
  case atStart => exact ⟨0, by omega, rfl, rfl⟩
  case round =>
    obtain ⟨k, hk, rfl, hnone⟩ := hrel
    by_cases hlt : k < n
    · obtain ⟨b, off, rfl, _, hc⟩ := row_get HR.out (by rw [HH.out]; omega)
      have c1 := hc k (by rw [HH.out]; exact hlt)
      have hstep : firstP xs (k + 1) = if 0 < xs.getD k 0 then some k else none := by rw [firstP, hnone]
      have HN := Lib.hid hnone
      clear hc hnone
      generalize xs.getD k 0 = x at *
      by_cases hx : 0 < x
      · rw [if_pos hx] at hstep
        have hfin := firstP_mono xs (k + 1) k hstep (n - (k + 1))
        rw [Nat.add_sub_cancel' (by omega : k + 1 ≤ n)] at hfin
        have HF := Lib.hid hfin
        have q : decide (0 < x) = true := by simpa using hx
        clear hstep hfin hx
        go_wp2_with (go_at_call 51; refine (closure_any _ _).mono ?_; rintro e w' ⟨rfl, rfl⟩)
        go_ret
        exact ⟨by rw [HF.out]; rfl, rfl⟩
      · rw [if_neg hx] at hstep
        have HF := Lib.hid hstep
        have q : decide (0 < x) = false := by simpa using hx
        clear hstep hx
        go_wp2_with (go_at_call 51; refine (closure_any _ _).mono ?_; rintro e w' ⟨rfl, rfl⟩)
        go_round
        case rel => exact ⟨k + 1, by omega, by go_num, HF.out⟩
        case measure => simp [intOf]; omega
    · obtain rfl : k = n := by omega
      have HN := Lib.hid hnone
      clear hnone
      go_wp2_with fail
      go_ret
      exact ⟨by rw [HN.out]; rfl, rfl⟩
end Go.Proofs.Ytiagepmfajpbpaa.loadC
