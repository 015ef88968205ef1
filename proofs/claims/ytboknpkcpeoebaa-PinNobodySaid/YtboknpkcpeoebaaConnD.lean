/- Layer 28: how long a flow may be silent; names. -/
import Derived.Test.YtboknpkcpeoebaaConnB
namespace Go.Proofs.Ytboknpkcpeoebaa.connD
open Go.ChangeShapes Go.WideShapes Go.ChangeAt Go.RowKit
open Go.Proofs.Ytboknpkcpeoebaa.base Go.Proofs.Ytboknpkcpeoebaa.connA Go.Proofs.Ytboknpkcpeoebaa.connB
set_option linter.unusedVariables false

def lZ (a b c d : Int) (j : Nat) : Int := if j = 1 then a else if j = 2 then b else if j = 3 then c else if j = 5 then d else 0
def nZ (j : Nat) : ByteArray := if j = 1 then ⟨#[111, 112, 101, 110, 105, 110, 103]⟩ else if j = 2 then ⟨#[111, 112, 101, 110]⟩ else if j = 3 then ⟨#[99, 108, 111, 115, 105, 110, 103]⟩ else if j = 4 then ⟨#[99, 108, 111, 115, 101, 100]⟩ else if j = 5 then ⟨#[100, 97, 116, 97, 103, 114, 97, 109]⟩ else ⟨#[110, 111, 110, 101]⟩
def idleZ (a b c d s : Int) : Int := if s = 1 then a else if s = 2 then b else if s = 3 then c else if s = 5 then d else 0
def nameZ (s : Int) : ByteArray := if 0 ≤ s ∧ s ≤ 5 then nZ s.toNat else nZ 0
def inB (x : Int) : Bool := decide (1 ≤ x ∧ x ≤ 1073741824)
def rightB (a b c d : Int) : Bool := inB a && inB b && inB c && inB d
theorem idle_any (a b c d s : Int) (w : World) :
    Calls Try.prog 40 #[.agg #[.int .i64 a, .int .i64 b, .int .i64 c, .int .i64 d], .int .i64 s] w fun e w' => e = .returned (.int .i64 (idleZ a b c d s)) ∧ Below w.heap.size w w' := by
  have hb := (Below.refl w.heap.size w).alloc (Nat.le_refl _) (.cells #[.int .i64 a, .int .i64 b, .int .i64 c, .int .i64 d] 32)
  have HB := Lib.hid hb
  clear hb
  by_cases h1 : s = 1
  · subst h1
    rw [show idleZ a b c d 1 = a by simp [idleZ]]
    go_enter Try.func40, Try.ntmps40
    go_wp2
    go_ret
    exact ⟨rfl, HB.out⟩
  by_cases h2 : s = 2
  · subst h2
    rw [show idleZ a b c d 2 = b by simp [idleZ]]
    go_enter Try.func40, Try.ntmps40
    go_wp2
    go_ret
    exact ⟨rfl, HB.out⟩
  by_cases h3 : s = 3
  · subst h3
    rw [show idleZ a b c d 3 = c by simp [idleZ]]
    go_enter Try.func40, Try.ntmps40
    go_wp2
    go_ret
    exact ⟨rfl, HB.out⟩
  by_cases h5 : s = 5
  · subst h5
    rw [show idleZ a b c d 5 = d by simp [idleZ]]
    go_enter Try.func40, Try.ntmps40
    go_wp2
    go_ret
    exact ⟨rfl, HB.out⟩
  have e1 : (s == 1) = false := by simp [h1]
  have e2 : (s == 2) = false := by simp [h2]
  have e3 : (s == 3) = false := by simp [h3]
  have e5 : (s == 5) = false := by simp [h5]
  rw [show idleZ a b c d s = 0 by simp [idleZ, h1, h2, h3, h5]]
  clear h1 h2 h3 h5
  go_enter Try.func40, Try.ntmps40
  go_wp2
  go_ret
  exact ⟨rfl, HB.out⟩
theorem plain_any (w : World) :
    Calls Try.prog 35 #[] w fun e w' => e = .returned (.agg #[.int .i64 30, .int .i64 3600, .int .i64 60, .int .i64 120]) ∧ Below w.heap.size w w' := by
  go_enter Try.func35, Try.ntmps35
  go_wp2
  refine bodyPost_ret (v := .agg #[.int .i64 30, .int .i64 3600, .int .i64 60, .int .i64 120]) (by simp [results, Try.results35, go_sem]) rfl ⟨rfl, ?_⟩
  (repeat' (first | exact Below.refl _ _ | refine Below.alloc ?_ (by simp) _ | refine Below.setCell ?_ (by simp) _ | refine Below.drew ?_))
theorem in_yes {x : Int} (h : inB x = true) : 1 ≤ x ∧ x ≤ 1073741824 := by simpa [inB] using h
theorem in_no {x : Int} (h : ¬ inB x = true) : x < 1 ∨ 1073741824 < x := by
  have : ¬ (1 ≤ x ∧ x ≤ 1073741824) := by simpa [inB] using h
  omega
set_option maxRecDepth 100000 in
set_option maxHeartbeats 1000000 in
theorem right_any (a b c d : Int) (w : World) :
    Calls Try.prog 18 #[.agg #[.int .i64 a, .int .i64 b, .int .i64 c, .int .i64 d]] w fun e w' => e = .returned (.bool (rightB a b c d)) ∧ Below w.heap.size w w' := by
  have hb := (Below.refl w.heap.size w).alloc (Nat.le_refl _) (.cells #[.int .i64 a, .int .i64 b, .int .i64 c, .int .i64 d] 32)
  have HB := Lib.hid hb
  clear hb
  have i0 : ∀ w, (Instr.index 92 (.agg #[.int .i64 a, .int .i64 b, .int .i64 c, .int .i64 d]) (.int .i64 0)).run Try.prog w = .ok (.int .i64 a) w := fun _ => by kernel_rfl
  have i1 : ∀ w, (Instr.index 92 (.agg #[.int .i64 a, .int .i64 b, .int .i64 c, .int .i64 d]) (.int .i64 1)).run Try.prog w = .ok (.int .i64 b) w := fun _ => by kernel_rfl
  have i2 : ∀ w, (Instr.index 92 (.agg #[.int .i64 a, .int .i64 b, .int .i64 c, .int .i64 d]) (.int .i64 2)).run Try.prog w = .ok (.int .i64 c) w := fun _ => by kernel_rfl
  have i3 : ∀ w, (Instr.index 92 (.agg #[.int .i64 a, .int .i64 b, .int .i64 c, .int .i64 d]) (.int .i64 3)).run Try.prog w = .ok (.int .i64 d) w := fun _ => by kernel_rfl
  go_enter Try.func18, Try.ntmps18
  go_wp2_with fail
  go_loop [14] (fun i => ∃ j : Nat, j ≤ 4 ∧ i = .int .i64 j ∧ Hid ((1 ≤ j → inB a = true) ∧ (2 ≤ j → inB b = true) ∧ (3 ≤ j → inB c = true) ∧ (4 ≤ j → inB d = true))) (fun i => 4 - (intOf i).toNat)
  case atStart => exact ⟨0, by omega, rfl, Lib.hid ⟨by omega, by omega, by omega, by omega⟩⟩
  case round =>
    obtain ⟨j, hj, rfl, HI⟩ := hrel
    have hcase : j = 0 ∨ j = 1 ∨ j = 2 ∨ j = 3 ∨ j = 4 := by omega
    rcases hcase with rfl | rfl | rfl | rfl | rfl
    · by_cases hi : inB a = true
      · obtain ⟨y1, y2⟩ := in_yes hi
        have q1 : decide (a < 1) = false := by simp; omega
        have q2 : decide (1073741824 < a) = false := by simp; omega
        have HIN := Lib.hid hi
        clear hi y1 y2
        go_wp2
        go_round
        case rel => exact ⟨1, by omega, by go_num, Lib.hid ⟨fun _ => HIN.out, fun h => absurd h (by omega), fun h => absurd h (by omega), fun h => absurd h (by omega)⟩⟩
        case measure => simp [intOf]
      · have hz : rightB a b c d = false := by unfold rightB; simp [hi]
        have hno := in_no hi
        have HZ := Lib.hid hz
        clear hi hz
        rcases hno with hn | hn
        · have q1 : decide (a < 1) = true := by simp; omega
          clear hn
          go_wp2
          go_ret
          exact ⟨by simp [HZ.out], HB.out⟩
        · have q1 : decide (a < 1) = false := by simp; omega
          have q2 : decide (1073741824 < a) = true := by simp; omega
          clear hn
          go_wp2
          go_ret
          exact ⟨by simp [HZ.out], HB.out⟩
    · by_cases hi : inB b = true
      · obtain ⟨y1, y2⟩ := in_yes hi
        have q1 : decide (b < 1) = false := by simp; omega
        have q2 : decide (1073741824 < b) = false := by simp; omega
        have HIN := Lib.hid hi
        clear hi y1 y2
        go_wp2
        go_round
        case rel => exact ⟨2, by omega, by go_num, Lib.hid ⟨fun _ => HI.out.1 (by omega), fun _ => HIN.out, fun h => absurd h (by omega), fun h => absurd h (by omega)⟩⟩
        case measure => simp [intOf]
      · have hz : rightB a b c d = false := by unfold rightB; simp [hi]
        have hno := in_no hi
        have HZ := Lib.hid hz
        clear hi hz
        rcases hno with hn | hn
        · have q1 : decide (b < 1) = true := by simp; omega
          clear hn
          go_wp2
          go_ret
          exact ⟨by simp [HZ.out], HB.out⟩
        · have q1 : decide (b < 1) = false := by simp; omega
          have q2 : decide (1073741824 < b) = true := by simp; omega
          clear hn
          go_wp2
          go_ret
          exact ⟨by simp [HZ.out], HB.out⟩
    · by_cases hi : inB c = true
      · obtain ⟨y1, y2⟩ := in_yes hi
        have q1 : decide (c < 1) = false := by simp; omega
        have q2 : decide (1073741824 < c) = false := by simp; omega
        have HIN := Lib.hid hi
        clear hi y1 y2
        go_wp2
        go_round
        case rel => exact ⟨3, by omega, by go_num, Lib.hid ⟨fun _ => HI.out.1 (by omega), fun _ => HI.out.2.1 (by omega), fun _ => HIN.out, fun h => absurd h (by omega)⟩⟩
        case measure => simp [intOf]
      · have hz : rightB a b c d = false := by unfold rightB; simp [hi]
        have hno := in_no hi
        have HZ := Lib.hid hz
        clear hi hz
        rcases hno with hn | hn
        · have q1 : decide (c < 1) = true := by simp; omega
          clear hn
          go_wp2
          go_ret
          exact ⟨by simp [HZ.out], HB.out⟩
        · have q1 : decide (c < 1) = false := by simp; omega
          have q2 : decide (1073741824 < c) = true := by simp; omega
          clear hn
          go_wp2
          go_ret
          exact ⟨by simp [HZ.out], HB.out⟩
    · by_cases hi : inB d = true
      · obtain ⟨y1, y2⟩ := in_yes hi
        have q1 : decide (d < 1) = false := by simp; omega
        have q2 : decide (1073741824 < d) = false := by simp; omega
        have HIN := Lib.hid hi
        clear hi y1 y2
        go_wp2
        go_round
        case rel => exact ⟨4, by omega, by go_num, Lib.hid ⟨fun _ => HI.out.1 (by omega), fun _ => HI.out.2.1 (by omega), fun _ => HI.out.2.2.1 (by omega), fun _ => HIN.out⟩⟩
        case measure => simp [intOf]
      · have hz : rightB a b c d = false := by unfold rightB; simp [hi]
        have hno := in_no hi
        have HZ := Lib.hid hz
        clear hi hz
        rcases hno with hn | hn
        · have q1 : decide (d < 1) = true := by simp; omega
          clear hn
          go_wp2
          go_ret
          exact ⟨by simp [HZ.out], HB.out⟩
        · have q1 : decide (d < 1) = false := by simp; omega
          have q2 : decide (1073741824 < d) = true := by simp; omega
          clear hn
          go_wp2
          go_ret
          exact ⟨by simp [HZ.out], HB.out⟩
    · have hz : rightB a b c d = true := by unfold rightB; simp [HI.out.1 (by omega), HI.out.2.1 (by omega), HI.out.2.2.1 (by omega), HI.out.2.2.2 (by omega)]
      have HZ := Lib.hid hz
      clear hz
      go_wp2
      go_ret
      exact ⟨by simp [HZ.out], HB.out⟩
end Go.Proofs.Ytboknpkcpeoebaa.connD
