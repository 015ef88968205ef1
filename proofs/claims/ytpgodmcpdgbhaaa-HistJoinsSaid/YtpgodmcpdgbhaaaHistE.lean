/- Layer 38: what a histogram says. -/
import Derived.Test.YtpgodmcpdgbhaaaHistD
import Derived.Test.YtpgodmcpdgbhaaaDivF
namespace Go.Proofs.Ytpgodmcpdgbhaaa.histE
open Go.ChangeShapes Go.WideShapes Go.ChangeAt Go.RowKit
open Go.Proofs.Ytpgodmcpdgbhaaa.base Go.Proofs.Ytpgodmcpdgbhaaa.histD
set_option linter.unusedVariables false

theorem len_at (g : Nat) (n : Int) (w : World) (h : w.cell? ⟨g, 65, none⟩ = some (.int .u64 n)) :
    Calls Try.prog 33 #[.pointer (some ⟨g, 0, none⟩)] w fun e w' => e = .returned (.int .u64 n) ∧ w = w' := by
  have H := Lib.hid h
  go_enter Try.func33, Try.ntmps33
  go_wp2
  go_ret
  exact ⟨rfl, rfl⟩
theorem ends_at (g : Nat) (x y : Int) (w : World) (h0 : w.cell? ⟨g, 68, none⟩ = some (.int .u64 x)) (h1 : w.cell? ⟨g, 69, none⟩ = some (.int .u64 y)) :
    Calls Try.prog 32 #[.pointer (some ⟨g, 0, none⟩)] w fun e w' => e = .returned (.tuple #[.int .u64 x, .int .u64 y]) ∧ ∃ n, w.drewN n = w' := by
  go_enter Try.func32, Try.ntmps32
  go_wp2_with fail
  go_quiet (fail)
  go_wp2_with fail
  exact bodyPost_ret (v := .tuple #[.int .u64 x, .int .u64 y]) (by simp [results, Try.results32, go_sem]) rfl ⟨rfl, _, rfl⟩
theorem count_at (g k : Nat) (x : Int) (w : World) (hk : k < 65) (h0 : w.cell? ⟨g, k, none⟩ = some (.int .u64 x)) :
    Calls Try.prog 36 #[.pointer (some ⟨g, 0, none⟩), .int .i64 (k : Int)] w fun e w' => e = .returned (.int .u64 x) ∧ w = w' := by
  have p0 : decide ((k : Int) < 0) = false := decide_eq_false (by omega)
  have p1 : decide (65 ≤ (k : Int)) = false := decide_eq_false (by omega)
  go_enter Try.func36, Try.ntmps36
  go_wp2
  go_ret
  exact ⟨rfl, rfl⟩
theorem count_no (g : Nat) (k : Int) (w : World) (hk : k < 0 ∨ 65 ≤ k) :
    Calls Try.prog 36 #[.pointer (some ⟨g, 0, none⟩), .int .i64 k] w fun e w' => e = .returned (.int .u64 0) ∧ w = w' := by
  rcases hk with h | h
  · have p0 : decide (k < 0) = true := decide_eq_true h
    clear h
    go_enter Try.func36, Try.ntmps36
    go_wp2
    go_ret
    exact ⟨rfl, rfl⟩
  · have p0 : decide (k < 0) = false := decide_eq_false (by omega)
    have p1 : decide (65 ≤ k) = true := decide_eq_true h
    clear h
    go_enter Try.func36, Try.ntmps36
    go_wp2
    go_ret
    exact ⟨rfl, rfl⟩
theorem mean_at (g : Nat) (hi lo n : Int) (w : World) (a0 : 0 ≤ hi) (h : hi < n) (b0 : 0 ≤ lo) (b1 : lo < 18446744073709551616) (y1 : n < 18446744073709551616)
    (h0 : w.cell? ⟨g, 66, none⟩ = some (.int .u64 hi)) (h1 : w.cell? ⟨g, 67, none⟩ = some (.int .u64 lo)) (h2 : w.cell? ⟨g, 65, none⟩ = some (.int .u64 n)) :
    Calls Try.prog 34 #[.pointer (some ⟨g, 0, none⟩)] w fun e w' => e = .returned (.int .u64 ((hi * 18446744073709551616 + lo) / n)) ∧ Below w.heap.size w w' := by
  have HD := Lib.hid (Go.Proofs.Ytpgodmcpdgbhaaa.divF.numDiv_ok hi lo n a0 h b0 b1 y1)
  have c0 : w.drew.cell? ⟨g, 66, none⟩ = some (.int .u64 hi) := h0
  have c1 : w.drew.cell? ⟨g, 67, none⟩ = some (.int .u64 lo) := h1
  have c2 : w.drew.cell? ⟨g, 65, none⟩ = some (.int .u64 n) := h2
  clear a0 h b0 b1 y1
  go_enter Try.func34, Try.ntmps34
  go_wp2_with fail
  go_region_with ((go_at_call 38; (with_reducible refine (HD.out _).mono ?_); rintro e w9 ⟨rfl, hb9⟩; have HB9 := Lib.hid ((Below.refl w.heap.size w).drew.trans hb9); clear hb9))
  all_goals (go_wp2_with fail; go_ret; exact ⟨rfl, HB9.out⟩)
end Go.Proofs.Ytpgodmcpdgbhaaa.histE
