/- Layer 24: which counts may be. -/
import Derived.Test.YtiagepmfajpbpaaLoadA
import Derived.Deep.QuietTactic
import Derived.BigQuiet
namespace Go.Proofs.Ytiagepmfajpbpaa.loadB
open Go.ChangeShapes Go.WideShapes Go.ChangeAt Go.RowKit
open Go.Proofs.Ytiagepmfajpbpaa.base Go.Proofs.Ytiagepmfajpbpaa.loadA
set_option linter.unusedVariables false

def okp (x a : Int) : Bool := decide (0 ≤ x ∧ x ≤ a ∧ a ≤ 1048576)
def okAll (xs ys : List Int) (n : Nat) : Prop := ∀ i, i < n → okp (xs.getD i 0) (ys.getD i 0) = true
def rightP (xs ys : List Int) (f : Int) : Prop := xs.length = ys.length ∧ xs.length ≤ 4 ∧ 100 ≤ f ∧ f ≤ 1000 ∧ okAll xs ys xs.length
theorem row_get {w : World} {B : Nat} {A : Option Addr} {l : List Int} (h : Row w B A (l.map (.int .i64))) (h0 : 0 < l.length) :
    ∃ b off, A = some ⟨b, off, none⟩ ∧ b < B ∧ ∀ i, i < l.length → w.cell? ⟨b, off + i, none⟩ = some (.int .i64 (l.getD i 0)) := by
  obtain ⟨b, off, rfl, hb, hc⟩ := h.at_ (by intro e; have e2 := congrArg List.length e; simp at e2; rw [e2] at h0; simp at h0)
  refine ⟨b, off, rfl, hb, fun i hi => hc i _ ?_⟩
  rw [List.getElem?_map, List.getD_eq_getElem?_getD, List.getElem?_eq_getElem hi]
  rfl

theorem right_yes (A B : Option Addr) (n c m d : Nat) (xs ys : List Int) (f : Int) (w : World) (hl : xs.length = n) (al : ys.length = m) (hr : Row w w.heap.size A (xs.map (.int .i64))) (ar : Row w w.heap.size B (ys.map (.int .i64)))
    (hp : rightP xs ys f) :
    Calls Try.prog 11 #[.slice A n c, .slice B m d, .int .i64 f] w fun e w' => e = .returned (.bool true) ∧ Below w.heap.size w w' := by
  obtain ⟨p1, p2, p3, p4, p5⟩ := hp
  have t1 : ((n : Int) != (m : Int)) = false := by simp; omega
  have t2 : decide ((4 : Int) < (n : Int)) = false := by simp; omega
  have HH := Lib.hid hl
  have HA := Lib.hid al
  have HR := Lib.hid hr
  have AR := Lib.hid ar
  have HP := Lib.hid p5
  have n4 : n ≤ 4 := by omega
  have nm : n = m := by omega
  clear hl al hr ar p1 p2 p5
  go_enter Try.func11, Try.ntmps11
  go_wp2_with fail
  go_loopw [28] (fun i wr => ∃ k : Nat, k ≤ n ∧ i = .int .i64 k ∧ Below w.heap.size w wr) (fun i _ => n - (intOf i).toNat)
  case atStart => exact ⟨0, by omega, rfl, Below.refl _ _⟩
  case round =>
    obtain ⟨k, hk, rfl, hbel⟩ := hrel
    by_cases hlt : k < n
    · have ok := HP.out k (by rw [HH.out]; exact hlt)
      have ok' : 0 ≤ xs.getD k 0 ∧ xs.getD k 0 ≤ ys.getD k 0 ∧ ys.getD k 0 ≤ 1048576 := by simpa [okp] using ok
      obtain ⟨b, off, rfl, _, hc⟩ := row_get (HR.out.below hbel) (by rw [HH.out]; omega)
      obtain ⟨b2, off2, rfl, _, hc2⟩ := row_get (AR.out.below hbel) (by rw [HA.out]; omega)
      have c1 := hc k (by rw [HH.out]; exact hlt)
      have c2 := hc2 k (by rw [HA.out]; omega)
      have HBel := Lib.hid hbel
      have km : k < m := by omega
      clear hc hc2 hbel ok nm
      generalize xs.getD k 0 = x at *
      generalize ys.getD k 0 = y at *
      obtain ⟨o1, o2, o3⟩ := ok'
      have q1 : decide (x < 0) = false := by simp; omega
      have q2 : decide (y < x) = false := by simp; omega
      have q3 : decide (1048576 < y) = false := by simp; omega
      go_wp2_with fail
      go_quiet (fail)
      go_wp2_with fail
      go_roundw
      case rel => exact ⟨k + 1, by omega, by go_num, below_drewN HBel.out _⟩
      case measure => simp [intOf]; omega
    · have HBel := Lib.hid hbel
      clear hbel
      go_wp2_with fail
      go_ret
      exact ⟨rfl, HBel.out⟩
end Go.Proofs.Ytiagepmfajpbpaa.loadB
