/- Layer 24: lists turned. -/
import Derived.Test.YticapkhpjdfhgaaLoadG
import Derived.Test.YticapkhpjdfhgaaApp
import Derived.Lib.SliceRun
namespace Go.Proofs.Yticapkhpjdfhgaa.loadH
open Go.ChangeShapes Go.WideShapes Go.ChangeAt Go.RowKit
open Go.Proofs.Yticapkhpjdfhgaa.base Go.Proofs.Yticapkhpjdfhgaa.loadC
set_option linter.unusedVariables false

def ClonePost (w : World) (n : Nat) (l : List Int) (e : Ending) (w' : World) : Prop :=
  ∃ v', e = .returned v' ∧ w'.ownsRow w.heap.size 3 1 v' n (l.map (.int .i64)) ∧ Below w.heap.size w w' ∧ w.heap.size ≤ w'.heap.size
set_option maxRecDepth 100000 in
theorem clone_any (A : Option Addr) (n c : Nat) (l : List Int) (w : World) (hl : l.length = n) (hn : n ≤ 1000) (hz : A = none → c = 0) (hr : Row w w.heap.size A (l.map (.int .i64))) :
    Calls Try.prog 55 #[.slice A n c] w (ClonePost w n l) := by
  cases A with
  | none =>
    have h0 := row_none hr
    have hl0 : l = [] := by simpa using h0
    subst hl0
    have hn0 : n = 0 := by simpa using hl.symm
    subst hn0
    have hc := hz rfl
    subst hc
    clear hr hz h0 hl
    have q22 : ∀ (w : World) (a : Option Addr) (n c n' c' : Nat), (binOp .eql 25 (.slice a n c) (.slice none n' c')).run Try.prog w = .ok (.bool a.isNone) w := fun w a n c n' c' => Lib.run_eql_slice_nil w _ _ a n c n' c' Try.underlying25
    go_enter Try.func55, Try.ntmps55
    go_wp2_with fail
    go_ret
    exact ⟨_, rfl, World.ownsRow_nil _ _ _ _, Below.refl _ _, Nat.le_refl _⟩
  | some ad =>
    obtain ⟨i0, hi0, hz0, hz1, hz2⟩ := info_parts info_int
    have HI0 := Lib.hid hi0
    have HZ0 := Lib.hid hz0
    have HZ1 := Lib.hid hz1
    have HZ2 := Lib.hid hz2
    have R1 := Lib.hid hr
    have L1 := Lib.hid hl
    have oneC : ∀ u ∈ l.map (Value.int .i64), u.oneCell' = true := by
      intro u hu
      rw [List.mem_map] at hu
      obtain ⟨x, _, rfl⟩ := hu
      rfl
    have ONE := Lib.hid oneC
    clear hi0 hz0 hz1 hz2 hr hl oneC hz
    have q22 : ∀ (w : World) (a : Option Addr) (n c n' c' : Nat), (binOp .eql 25 (.slice a n c) (.slice none n' c')).run Try.prog w = .ok (.bool a.isNone) w := fun w a n c n' c' => Lib.run_eql_slice_nil w _ _ a n c n' c' Try.underlying25
    go_enter Try.func55, Try.ntmps55
    go_wp2_with (at_builtin; refine wpList_append_row rfl (.tmp 5) (.tmp 6) _ rfl w.heap.size 3 i0 _ 8 Try.underlying25 HI0.out HZ0.out HZ1.out HZ2.out rfl (.slice (some ⟨w.heap.size, 0, none⟩) 0 0) 0 [] rfl (World.ownsRow_lit w #[] 0 (Nat.le_refl _) (by unfold maxLen; omega) rfl) (some ad) n c w.heap.size (l.map (.int .i64)) rfl (by intro h; cases h) (by simp; exact L1.out) (R1.out.below ((Below.refl _ _).alloc (Nat.le_refl _) _)) ONE.out (by unfold maxLen; omega) (by omega) (by simp) ?_; intro va wa owna ga; have HOa := Lib.hid owna; have HBa := Lib.hid (below_grown ((Below.refl _ _).alloc (Nat.le_refl _) _) (World.ownsRow_lit w #[] 0 (Nat.le_refl _) (by unfold maxLen; omega) rfl) (Nat.le_refl _) (by simp) ga); clear owna ga)
    go_ret
    refine ⟨_, rfl, ?_, HBa.out, HBa.out.size⟩
    have := HOa.out
    rwa [Nat.zero_add, List.nil_append] at this
def backZ (k f n : Int) : Int := if k < 0 ∨ n ≤ k ∨ f < 0 ∨ n ≤ f then k else if n - f ≤ k then k - (n - f) else k + f
theorem back_any (k f : Int) (n : Nat) (hn : n ≤ 1000000) (k0 : -9223372036854775808 ≤ k) (k1 : k < 9223372036854775808) (w : World) :
    Calls Try.prog 23 #[.int .i64 k, .int .i64 f, .int .i64 n] w fun e w' => e = .returned (.int .i64 (backZ k f n)) ∧ w = w' := by
  by_cases h1 : k < 0
  · rw [show backZ k f n = k by simp [backZ, h1]]
    go_enter Try.func23, Try.ntmps23
    go_wp2
    go_ret
    exact ⟨rfl, rfl⟩
  by_cases h2 : (n : Int) ≤ k
  · rw [show backZ k f n = k by simp [backZ, h2]]
    go_enter Try.func23, Try.ntmps23
    go_wp2
    go_ret
    exact ⟨rfl, rfl⟩
  by_cases h3 : f < 0
  · rw [show backZ k f n = k by simp [backZ, h3]]
    go_enter Try.func23, Try.ntmps23
    go_wp2
    go_ret
    exact ⟨rfl, rfl⟩
  by_cases h4 : (n : Int) ≤ f
  · rw [show backZ k f n = k by simp [backZ, h4]]
    go_enter Try.func23, Try.ntmps23
    go_wp2
    go_ret
    exact ⟨rfl, rfl⟩
  have e1 : IntKind.i64.wrap ((n : Int) - f) = (n : Int) - f := IntWalk.i64_in _ (by omega)
  by_cases h5 : (n : Int) - f ≤ k
  · rw [show backZ k f n = k - (n - f) by unfold backZ; rw [if_neg (by omega), if_pos h5]]
    have e2 : IntKind.i64.wrap (k - ((n : Int) - f)) = k - ((n : Int) - f) := IntWalk.i64_in _ (by omega)
    go_enter Try.func23, Try.ntmps23
    go_wp2
    go_ret
    exact ⟨rfl, rfl⟩
  · rw [show backZ k f n = k + f by unfold backZ; rw [if_neg (by omega), if_neg h5]]
    have e2 : IntKind.i64.wrap (k + f) = k + f := IntWalk.i64_in _ (by omega)
    go_enter Try.func23, Try.ntmps23
    go_wp2
    go_ret
    exact ⟨rfl, rfl⟩
theorem turn_same (A : Option Addr) (n c : Nat) (l : List Int) (f : Int) (w : World) (hl : l.length = n) (hn : n ≤ 1000) (hz : A = none → c = 0) (hr : Row w w.heap.size A (l.map (.int .i64))) (hf : f < 0 ∨ (n : Int) ≤ f) :
    Calls Try.prog 22 #[.slice A n c, .int .i64 f] w (ClonePost w n l) := by
  have HC := Lib.hid (clone_any A n c l w hl hn hz hr)
  clear hl hz hr
  rcases hf with hf | hf
  all_goals
    go_enter Try.func22, Try.ntmps22
    go_wp2_with fail
    refine HC.out.mono ?_
    rintro e w1 ⟨v1, rfl, hown, hbel, hsz⟩
    have HO := Lib.hid hown
    have HB := Lib.hid hbel
    clear hown hbel
    go_wp2_with fail
    go_ret
    exact ⟨_, rfl, HO.out, HB.out, hsz⟩
end Go.Proofs.Yticapkhpjdfhgaa.loadH
