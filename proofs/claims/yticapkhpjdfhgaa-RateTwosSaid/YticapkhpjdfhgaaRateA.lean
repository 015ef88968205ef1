/- Layer 37: a bucket: what it has, what may go by. -/
import Derived.Test.YticapkhpjdfhgaaWideD
import Derived.Test.YticapkhpjdfhgaaKeep
import Derived.Test.YticapkhpjdfhgaaRow
import Derived.Deep.QuietTactic
import Derived.BigQuiet
namespace Go.Proofs.Yticapkhpjdfhgaa.rateA
open Go.ChangeShapes Go.WideShapes Go.ChangeAt Go.RowKit
open Go.Proofs.Yticapkhpjdfhgaa.base
set_option linter.unusedVariables false

/-- A bucket in block g. -/
def Bk (w : World) (g : Nat) (E M H N : Int) : Prop := Blk w g 41 #[.int .i64 E, .int .i64 M, .int .i64 H, .int .i64 N, .bool true]
section
variable {w w' : World} {g : Nat} {E M H N : Int}
theorem Bk.c0 (h : Bk w g E M H N) : w.cell? ⟨g, 0, none⟩ = some (.int .i64 E) := Blk.cell h 0
theorem Bk.c1 (h : Bk w g E M H N) : w.cell? ⟨g, 1, none⟩ = some (.int .i64 M) := Blk.cell h 1
theorem Bk.c2 (h : Bk w g E M H N) : w.cell? ⟨g, 2, none⟩ = some (.int .i64 H) := Blk.cell h 2
theorem Bk.c3 (h : Bk w g E M H N) : w.cell? ⟨g, 3, none⟩ = some (.int .i64 N) := Blk.cell h 3
theorem Bk.c4 (h : Bk w g E M H N) : w.cell? ⟨g, 4, none⟩ = some (.bool true) := Blk.cell h 4
theorem Bk.fr (h : Bk w g E M H N) (i : Nat) : w.frozen? ⟨g, i, none⟩ = false := Blk.frozen h i
theorem Bk.lt (h : Bk w g E M H N) : g < w.heap.size := Blk.lt h
end

theorem ok_any (g : Nat) (w : World) (h4 : w.cell? ⟨g, 4, none⟩ = some (.bool true)) :
    Calls Try.prog 58 #[.pointer (some ⟨g, 0, none⟩)] w fun e w' => e = .returned (.bool true) ∧ w = w' := by
  go_enter Try.func58, Try.ntmps58
  go_wp2
  go_ret
  exact ⟨rfl, rfl⟩
theorem ok_nil (w : World) :
    Calls Try.prog 58 #[.pointer none] w fun e w' => e = .returned (.bool false) ∧ w = w' := by
  go_enter Try.func58, Try.ntmps58
  go_wp2
  go_ret
  exact ⟨rfl, rfl⟩
theorem have_any (g : Nat) (E M H N : Int) (w : World) (hb : Bk w g E M H N) :
    Calls Try.prog 29 #[.pointer (some ⟨g, 0, none⟩)] w fun e w' => e = .returned (.int .i64 H) ∧ w = w' := by
  have h2 := hb.c2
  have h4 := Lib.hid hb.c4
  clear hb
  go_enter Try.func29, Try.ntmps29
  go_wp2_with (go_at_call 58; refine (ok_any _ _ h4.out).mono ?_; rintro e w' ⟨rfl, rfl⟩)
  go_ret
  exact ⟨rfl, rfl⟩
theorem now_any (g : Nat) (E M H N : Int) (w : World) (hb : Bk w g E M H N) :
    Calls Try.prog 30 #[.pointer (some ⟨g, 0, none⟩)] w fun e w' => e = .returned (.int .i64 N) ∧ w = w' := by
  have h2 := hb.c3
  have h4 := Lib.hid hb.c4
  clear hb
  go_enter Try.func30, Try.ntmps30
  go_wp2_with (go_at_call 58; refine (ok_any _ _ h4.out).mono ?_; rintro e w' ⟨rfl, rfl⟩)
  go_ret
  exact ⟨rfl, rfl⟩
theorem can_any (g : Nat) (E M H N n : Int) (r : Bool) (w : World) (hb : Bk w g E M H N) (hr : r = decide (0 ≤ n ∧ n ≤ H)) :
    Calls Try.prog 61 #[.pointer (some ⟨g, 0, none⟩), .int .i64 n] w fun e w' => e = .returned (.bool r) ∧ w = w' := by
  have h2 := hb.c2
  have h4 := Lib.hid hb.c4
  clear hb
  by_cases h0 : 0 ≤ n
  · by_cases h1 : n ≤ H
    · have hv : r = true := by rw [hr]; simp [h0, h1]
      subst hv
      clear hr
      go_enter Try.func61, Try.ntmps61
      go_wp2_with (go_at_call 58; refine (ok_any _ _ h4.out).mono ?_; rintro e w' ⟨rfl, rfl⟩)
      go_ret
      exact ⟨rfl, rfl⟩
    · have hv : r = false := by rw [hr]; simp; omega
      have q : decide (n ≤ H) = false := by simpa using h1
      subst hv
      clear hr
      go_enter Try.func61, Try.ntmps61
      go_wp2_with (go_at_call 58; refine (ok_any _ _ h4.out).mono ?_; rintro e w' ⟨rfl, rfl⟩)
      go_ret
      exact ⟨rfl, rfl⟩
  · have hv : r = false := by rw [hr]; simp; omega
    subst hv
    clear hr
    go_enter Try.func61, Try.ntmps61
    go_wp2_with (go_at_call 58; refine (ok_any _ _ h4.out).mono ?_; rintro e w' ⟨rfl, rfl⟩)
    go_ret
    exact ⟨rfl, rfl⟩
theorem take_no (g : Nat) (E M H N n : Int) (w : World) (hb : Bk w g E M H N) (hn : n < 0 ∨ H < n) :
    Calls Try.prog 33 #[.pointer (some ⟨g, 0, none⟩), .int .i64 n] w fun e w' => e = .returned (.bool false) ∧ w = w' := by
  have hc := Lib.hid (can_any g E M H N n false w hb (by symm; simp; omega))
  clear hb
  go_enter Try.func33, Try.ntmps33
  go_wp2_with (go_at_call 61; refine (hc.out).mono ?_; rintro e w' ⟨rfl, rfl⟩)
  go_ret
  exact ⟨rfl, rfl⟩
theorem take_yes (g : Nat) (E M H N n : Int) (w : World) (hb : Bk w g E M H N) (h0 : 0 ≤ n) (h1 : n ≤ H) (hH : H < 9223372036854775808) :
    Calls Try.prog 33 #[.pointer (some ⟨g, 0, none⟩), .int .i64 n] w fun e w' => e = .returned (.bool true) ∧ w.setCell ⟨g, 2, none⟩ (.int .i64 (H - n)) = w' := by
  have hc := Lib.hid (can_any g E M H N n true w hb (by symm; simp; omega))
  have h2 := hb.c2
  have hf := hb.fr 2
  clear hb
  go_enter Try.func33, Try.ntmps33
  go_wp2_with (go_at_call 61; refine (hc.out).mono ?_; rintro e w' ⟨rfl, rfl⟩)
  go_ret
  exact ⟨rfl, rfl⟩
theorem Bk.take {w : World} {g : Nat} {E M H N : Int} (hb : Bk w g E M H N) (v : Int) : Bk (w.setCell ⟨g, 2, none⟩ (.int .i64 v)) g E M v N := Blk.set_ hb 2 (.int .i64 v)

theorem bcell {W w1 : World} (hb : Below W.heap.size W w1) : (∀ b o, b < W.heap.size → w1.cell? ⟨b, o, none⟩ = W.cell? ⟨b, o, none⟩) ∧ (∀ b o, b < W.heap.size → w1.frozen? ⟨b, o, none⟩ = W.frozen? ⟨b, o, none⟩) :=
  ⟨fun b o h => hb.cell (p := ⟨b, o, none⟩) h, fun b o h => hb.frozen (p := ⟨b, o, none⟩) h⟩
def rightB (E M : Int) : Bool := decide (0 ≤ E ∧ E ≤ 1099511627776 ∧ 1 ≤ M ∧ M ≤ 1099511627776)
theorem right_any (E M : Int) (w : World) :
    Calls Try.prog 25 #[.agg #[.int .i64 E, .int .i64 M]] w fun e w' => e = .returned (.bool (rightB E M)) ∧ Below w.heap.size w w' := by
  by_cases h1 : 0 ≤ E
  · by_cases h2 : E ≤ 1099511627776
    · by_cases h3 : 1 ≤ M
      · by_cases h4 : M ≤ 1099511627776
        · have hv : rightB E M = true := by simp only [rightB, decide_eq_true_eq]; omega
          rw [hv]; clear hv
          go_enter Try.func25, Try.ntmps25
          go_wp2
          go_ret
          exact ⟨rfl, (Below.refl _ _).alloc (Nat.le_refl _) _⟩
        · have hv : rightB E M = false := by simp only [rightB, decide_eq_false_iff_not]; omega
          rw [hv]; clear hv
          go_enter Try.func25, Try.ntmps25
          go_wp2
          go_ret
          exact ⟨rfl, (Below.refl _ _).alloc (Nat.le_refl _) _⟩
      · have hv : rightB E M = false := by simp only [rightB, decide_eq_false_iff_not]; omega
        rw [hv]; clear hv
        go_enter Try.func25, Try.ntmps25
        go_wp2
        go_ret
        exact ⟨rfl, (Below.refl _ _).alloc (Nat.le_refl _) _⟩
    · have hv : rightB E M = false := by simp only [rightB, decide_eq_false_iff_not]; omega
      rw [hv]; clear hv
      go_enter Try.func25, Try.ntmps25
      go_wp2
      go_ret
      exact ⟨rfl, (Below.refl _ _).alloc (Nat.le_refl _) _⟩
  · have hv : rightB E M = false := by simp only [rightB, decide_eq_false_iff_not]; omega
    rw [hv]; clear hv
    go_enter Try.func25, Try.ntmps25
    go_wp2
    go_ret
    exact ⟨rfl, (Below.refl _ _).alloc (Nat.le_refl _) _⟩
theorem lawright_any (E M : Int) (w : World) :
    Calls Try.prog 26 #[.agg #[.int .i64 E, .int .i64 M]] w fun e w' => e = .returned (.bool (rightB E M)) ∧ Below w.heap.size w w' := by
  by_cases h1 : 0 ≤ E
  · by_cases h2 : E ≤ 1099511627776
    · by_cases h3 : 1 ≤ M
      · by_cases h4 : M ≤ 1099511627776
        · have hv : rightB E M = true := by simp only [rightB, decide_eq_true_eq]; omega
          rw [hv]; clear hv
          go_enter Try.func26, Try.ntmps26
          go_wp2
          go_ret
          exact ⟨rfl, (Below.refl _ _).alloc (Nat.le_refl _) _⟩
        · have hv : rightB E M = false := by simp only [rightB, decide_eq_false_iff_not]; omega
          rw [hv]; clear hv
          go_enter Try.func26, Try.ntmps26
          go_wp2
          go_ret
          exact ⟨rfl, (Below.refl _ _).alloc (Nat.le_refl _) _⟩
      · have hv : rightB E M = false := by simp only [rightB, decide_eq_false_iff_not]; omega
        rw [hv]; clear hv
        go_enter Try.func26, Try.ntmps26
        go_wp2
        go_ret
        exact ⟨rfl, (Below.refl _ _).alloc (Nat.le_refl _) _⟩
    · have hv : rightB E M = false := by simp only [rightB, decide_eq_false_iff_not]; omega
      rw [hv]; clear hv
      go_enter Try.func26, Try.ntmps26
      go_wp2
      go_ret
      exact ⟨rfl, (Below.refl _ _).alloc (Nat.le_refl _) _⟩
  · have hv : rightB E M = false := by simp only [rightB, decide_eq_false_iff_not]; omega
    rw [hv]; clear hv
    go_enter Try.func26, Try.ntmps26
    go_wp2
    go_ret
    exact ⟨rfl, (Below.refl _ _).alloc (Nat.le_refl _) _⟩
theorem new_no (E M : Int) (w : World) (h : rightB E M = false) :
    Calls Try.prog 24 #[.agg #[.int .i64 E, .int .i64 M]] w fun e w' => e = .returned (.tuple #[.pointer none, .int .i64 1]) ∧ Below w.heap.size w w' := by
  have HR := Lib.hid h
  clear h
  go_enter Try.func24, Try.ntmps24
  go_wp2_with fail
  refine (right_any _ _ _).mono ?_
  rintro e w1 ⟨rfl, hb⟩
  rw [HR.out]
  go_wp2_with fail
  go_ret2
  exact ⟨rfl, ((Below.refl _ _).alloc (Nat.le_refl _) _).trans (hb.mono (by simp))⟩
def NewPost (w : World) (E M : Int) (e : Ending) (w' : World) : Prop := ∃ g, e = .returned (.tuple #[.pointer (some ⟨g, 0, none⟩), .int .i64 0]) ∧ w.heap.size ≤ g ∧ Bk w' g E M M 0 ∧ Below w.heap.size w w'
theorem new_yes (E M : Int) (w : World) (h : rightB E M = true) :
    Calls Try.prog 24 #[.agg #[.int .i64 E, .int .i64 M]] w (NewPost w E M) := by
  have HR := Lib.hid h
  clear h
  go_enter Try.func24, Try.ntmps24
  go_wp2_with fail
  refine (right_any _ _ _).mono ?_
  rintro e w1 ⟨rfl, hb⟩
  rw [HR.out]
  obtain ⟨hc, hf⟩ := bcell hb
  have HB := Lib.hid hb
  have hs : w.heap.size < w1.heap.size := by have := hb.size; first | omega | (simp at this; omega)
  clear hb
  go_wp2_with fail
  go_ret2
  exact ⟨w1.heap.size, rfl, by omega, Blk.new w1 41 _, (((Below.refl _ _).alloc (Nat.le_refl _) _).trans (HB.out.mono (by simp))).alloc (by omega) _⟩
end Go.Proofs.Yticapkhpjdfhgaa.rateA
