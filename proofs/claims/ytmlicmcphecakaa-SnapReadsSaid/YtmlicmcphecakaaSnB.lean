/- Layer 44: may an op be kept? -/
import Derived.Test.YtmlicmcphecakaaSnA
namespace Go.Proofs.Ytmlicmcphecakaa.snB
open Go.ChangeShapes Go.WideShapes Go.ChangeAt Go.RowKit
open Go.Proofs.Ytmlicmcphecakaa.base Go.Proofs.Ytmlicmcphecakaa.octA Go.Proofs.Ytmlicmcphecakaa.octB Go.Proofs.Ytmlicmcphecakaa.net Go.Proofs.Ytmlicmcphecakaa.snA
set_option linter.unusedVariables false

set_option maxHeartbeats 4000000 in
set_option maxRecDepth 100000 in
theorem right_any (k : Int) (A : Option Addr) (nb c : Nat) (nm : ByteArray) (h n : Int) (u : Bool) (w : World) :
    Calls Try.prog 7 #[.agg #[.int .i64 k, .slice A nb c, .string nm, .int .i64 h, .int .i64 n, .bool u]] w fun o w' => o = .returned (.bool (decide (RightP k nb nm.size h n))) ∧ Below w.heap.size w w' := by
  have HB := Lib.hid (show Below w.heap.size w (w.alloc (.cells #[.int .i64 k, .slice A nb c, .string nm, .int .i64 h, .int .i64 n, .bool u] 27)) from (Below.refl _ _).alloc (Nat.le_refl _) _)
  obtain ⟨b, hb⟩ : ∃ b, b = decide (RightP k nb nm.size h n) := ⟨_, rfl⟩
  have HBB := Lib.hid hb
  rw [← hb]
  clear hb
  go_enter Try.func7, Try.ntmps7
  by_cases c1 : ¬ 0 ≤ k
  · have HF := Lib.hid (show b = false from by rw [HBB.out]; exact decide_eq_false (fun hc => by unfold RightP at hc; exact c1 (by omega)))
    have f1a : decide (0 ≤ k) = false := decide_eq_false (by omega)
    clear c1
    go_wp2_with fail
    go_ret
    exact ⟨by rw [HF.out]; rfl, HB.out⟩
  have f1a : decide (0 ≤ k) = true := decide_eq_true (by omega)
  have C1 := Lib.hid (Decidable.not_not.mp c1)
  clear c1
  by_cases c2 : ¬ k ≤ 255
  · have HF := Lib.hid (show b = false from by rw [HBB.out]; exact decide_eq_false (fun hc => by unfold RightP at hc; exact c2 (by omega)))
    have f2a : decide (k ≤ 255) = false := decide_eq_false (by omega)
    clear c2
    go_wp2_with fail
    go_ret
    exact ⟨by rw [HF.out]; rfl, HB.out⟩
  have f2a : decide (k ≤ 255) = true := decide_eq_true (by omega)
  have C2 := Lib.hid (Decidable.not_not.mp c2)
  clear c2
  by_cases c3 : ¬ nb ≤ 65536
  · have HF := Lib.hid (show b = false from by rw [HBB.out]; exact decide_eq_false (fun hc => by unfold RightP at hc; exact c3 (by omega)))
    have f3a : decide ((nb : Int) ≤ 65536) = false := decide_eq_false (by omega)
    have f3b : decide (nb ≤ 65536) = false := decide_eq_false (by omega)
    clear c3
    go_wp2_with fail
    go_ret
    exact ⟨by rw [HF.out]; rfl, HB.out⟩
  have f3a : decide ((nb : Int) ≤ 65536) = true := decide_eq_true (by omega)
  have f3b : decide (nb ≤ 65536) = true := decide_eq_true (by omega)
  have C3 := Lib.hid (Decidable.not_not.mp c3)
  clear c3
  by_cases c4 : ¬ nm.size ≤ 255
  · have HF := Lib.hid (show b = false from by rw [HBB.out]; exact decide_eq_false (fun hc => by unfold RightP at hc; exact c4 (by omega)))
    have f4a : decide ((nm.size : Int) ≤ 255) = false := decide_eq_false (by omega)
    have f4b : decide (nm.size ≤ 255) = false := decide_eq_false (by omega)
    clear c4
    go_wp2_with fail
    go_ret
    exact ⟨by rw [HF.out]; rfl, HB.out⟩
  have f4a : decide ((nm.size : Int) ≤ 255) = true := decide_eq_true (by omega)
  have f4b : decide (nm.size ≤ 255) = true := decide_eq_true (by omega)
  have C4 := Lib.hid (Decidable.not_not.mp c4)
  clear c4
  by_cases c5 : ¬ 0 ≤ h
  · have HF := Lib.hid (show b = false from by rw [HBB.out]; exact decide_eq_false (fun hc => by unfold RightP at hc; exact c5 (by omega)))
    have f5a : decide (0 ≤ h) = false := decide_eq_false (by omega)
    clear c5
    go_wp2_with fail
    go_ret
    exact ⟨by rw [HF.out]; rfl, HB.out⟩
  have f5a : decide (0 ≤ h) = true := decide_eq_true (by omega)
  have C5 := Lib.hid (Decidable.not_not.mp c5)
  clear c5
  by_cases c6 : ¬ h ≤ 4294967295
  · have HF := Lib.hid (show b = false from by rw [HBB.out]; exact decide_eq_false (fun hc => by unfold RightP at hc; exact c6 (by omega)))
    have f6a : decide (h ≤ 4294967295) = false := decide_eq_false (by omega)
    clear c6
    go_wp2_with fail
    go_ret
    exact ⟨by rw [HF.out]; rfl, HB.out⟩
  have f6a : decide (h ≤ 4294967295) = true := decide_eq_true (by omega)
  have C6 := Lib.hid (Decidable.not_not.mp c6)
  clear c6
  by_cases c7 : ¬ 0 ≤ n
  · have HF := Lib.hid (show b = false from by rw [HBB.out]; exact decide_eq_false (fun hc => by unfold RightP at hc; exact c7 (by omega)))
    have f7a : decide (0 ≤ n) = false := decide_eq_false (by omega)
    clear c7
    go_wp2_with fail
    go_ret
    exact ⟨by rw [HF.out]; rfl, HB.out⟩
  have f7a : decide (0 ≤ n) = true := decide_eq_true (by omega)
  have C7 := Lib.hid (Decidable.not_not.mp c7)
  clear c7
  by_cases c8 : ¬ n ≤ 4294967295
  · have HF := Lib.hid (show b = false from by rw [HBB.out]; exact decide_eq_false (fun hc => by unfold RightP at hc; exact c8 (by omega)))
    have f8a : decide (n ≤ 4294967295) = false := decide_eq_false (by omega)
    clear c8
    go_wp2_with fail
    go_ret
    exact ⟨by rw [HF.out]; rfl, HB.out⟩
  have f8a : decide (n ≤ 4294967295) = true := decide_eq_true (by omega)
  have C8 := Lib.hid (Decidable.not_not.mp c8)
  clear c8
  have HF := Lib.hid (show b = true from by rw [HBB.out]; exact decide_eq_true ⟨C1.out, C2.out, C3.out, C4.out, C5.out, C6.out, C7.out, C8.out⟩)
  go_wp2_with fail
  go_ret
  exact ⟨by rw [HF.out]; rfl, HB.out⟩
set_option maxHeartbeats 4000000 in
set_option maxRecDepth 100000 in
theorem lright_any (k : Int) (A : Option Addr) (nb c : Nat) (nm : ByteArray) (h n : Int) (u : Bool) (w : World) :
    Calls Try.prog 6 #[.agg #[.int .i64 k, .slice A nb c, .string nm, .int .i64 h, .int .i64 n, .bool u]] w fun o w' => o = .returned (.bool (decide (RightP k nb nm.size h n))) ∧ Below w.heap.size w w' := by
  have HB := Lib.hid (show Below w.heap.size w (w.alloc (.cells #[.int .i64 k, .slice A nb c, .string nm, .int .i64 h, .int .i64 n, .bool u] 27)) from (Below.refl _ _).alloc (Nat.le_refl _) _)
  obtain ⟨b, hb⟩ : ∃ b, b = decide (RightP k nb nm.size h n) := ⟨_, rfl⟩
  have HBB := Lib.hid hb
  rw [← hb]
  clear hb
  go_enter Try.func6, Try.ntmps6
  by_cases c1 : ¬ 0 ≤ k
  · have HF := Lib.hid (show b = false from by rw [HBB.out]; exact decide_eq_false (fun hc => by unfold RightP at hc; exact c1 (by omega)))
    have f1a : decide (0 ≤ k) = false := decide_eq_false (by omega)
    clear c1
    go_wp2_with fail
    go_ret
    exact ⟨by rw [HF.out]; rfl, HB.out⟩
  have f1a : decide (0 ≤ k) = true := decide_eq_true (by omega)
  have C1 := Lib.hid (Decidable.not_not.mp c1)
  clear c1
  by_cases c2 : ¬ k ≤ 255
  · have HF := Lib.hid (show b = false from by rw [HBB.out]; exact decide_eq_false (fun hc => by unfold RightP at hc; exact c2 (by omega)))
    have f2a : decide (k ≤ 255) = false := decide_eq_false (by omega)
    clear c2
    go_wp2_with fail
    go_ret
    exact ⟨by rw [HF.out]; rfl, HB.out⟩
  have f2a : decide (k ≤ 255) = true := decide_eq_true (by omega)
  have C2 := Lib.hid (Decidable.not_not.mp c2)
  clear c2
  by_cases c3 : ¬ nb ≤ 65536
  · have HF := Lib.hid (show b = false from by rw [HBB.out]; exact decide_eq_false (fun hc => by unfold RightP at hc; exact c3 (by omega)))
    have f3a : decide ((nb : Int) ≤ 65536) = false := decide_eq_false (by omega)
    have f3b : decide (nb ≤ 65536) = false := decide_eq_false (by omega)
    clear c3
    go_wp2_with fail
    go_ret
    exact ⟨by rw [HF.out]; rfl, HB.out⟩
  have f3a : decide ((nb : Int) ≤ 65536) = true := decide_eq_true (by omega)
  have f3b : decide (nb ≤ 65536) = true := decide_eq_true (by omega)
  have C3 := Lib.hid (Decidable.not_not.mp c3)
  clear c3
  by_cases c4 : ¬ nm.size ≤ 255
  · have HF := Lib.hid (show b = false from by rw [HBB.out]; exact decide_eq_false (fun hc => by unfold RightP at hc; exact c4 (by omega)))
    have f4a : decide ((nm.size : Int) ≤ 255) = false := decide_eq_false (by omega)
    have f4b : decide (nm.size ≤ 255) = false := decide_eq_false (by omega)
    clear c4
    go_wp2_with fail
    go_ret
    exact ⟨by rw [HF.out]; rfl, HB.out⟩
  have f4a : decide ((nm.size : Int) ≤ 255) = true := decide_eq_true (by omega)
  have f4b : decide (nm.size ≤ 255) = true := decide_eq_true (by omega)
  have C4 := Lib.hid (Decidable.not_not.mp c4)
  clear c4
  by_cases c5 : ¬ 0 ≤ h
  · have HF := Lib.hid (show b = false from by rw [HBB.out]; exact decide_eq_false (fun hc => by unfold RightP at hc; exact c5 (by omega)))
    have f5a : decide (0 ≤ h) = false := decide_eq_false (by omega)
    clear c5
    go_wp2_with fail
    go_ret
    exact ⟨by rw [HF.out]; rfl, HB.out⟩
  have f5a : decide (0 ≤ h) = true := decide_eq_true (by omega)
  have C5 := Lib.hid (Decidable.not_not.mp c5)
  clear c5
  by_cases c6 : ¬ h ≤ 4294967295
  · have HF := Lib.hid (show b = false from by rw [HBB.out]; exact decide_eq_false (fun hc => by unfold RightP at hc; exact c6 (by omega)))
    have f6a : decide (h < 4294967296) = false := decide_eq_false (by omega)
    clear c6
    go_wp2_with fail
    go_ret
    exact ⟨by rw [HF.out]; rfl, HB.out⟩
  have f6a : decide (h < 4294967296) = true := decide_eq_true (by omega)
  have C6 := Lib.hid (Decidable.not_not.mp c6)
  clear c6
  by_cases c7 : ¬ 0 ≤ n
  · have HF := Lib.hid (show b = false from by rw [HBB.out]; exact decide_eq_false (fun hc => by unfold RightP at hc; exact c7 (by omega)))
    have f7a : decide (0 ≤ n) = false := decide_eq_false (by omega)
    clear c7
    go_wp2_with fail
    go_ret
    exact ⟨by rw [HF.out]; rfl, HB.out⟩
  have f7a : decide (0 ≤ n) = true := decide_eq_true (by omega)
  have C7 := Lib.hid (Decidable.not_not.mp c7)
  clear c7
  by_cases c8 : ¬ n ≤ 4294967295
  · have HF := Lib.hid (show b = false from by rw [HBB.out]; exact decide_eq_false (fun hc => by unfold RightP at hc; exact c8 (by omega)))
    have f8a : decide (n < 4294967296) = false := decide_eq_false (by omega)
    clear c8
    go_wp2_with fail
    go_ret
    exact ⟨by rw [HF.out]; rfl, HB.out⟩
  have f8a : decide (n < 4294967296) = true := decide_eq_true (by omega)
  have C8 := Lib.hid (Decidable.not_not.mp c8)
  clear c8
  have HF := Lib.hid (show b = true from by rw [HBB.out]; exact decide_eq_true ⟨C1.out, C2.out, C3.out, C4.out, C5.out, C6.out, C7.out, C8.out⟩)
  go_wp2_with fail
  go_ret
  exact ⟨by rw [HF.out]; rfl, HB.out⟩
end Go.Proofs.Ytmlicmcphecakaa.snB
