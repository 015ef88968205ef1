/- Layer 36: the number of four bytes at a place. -/
import Derived.Test.YtmchedjeohhpcaaPcapD
import Derived.Deep.QuietTactic
import Derived.BigQuiet
namespace Go.Proofs.Ytmchedjeohhpcaa.pcapE
open Go.ChangeShapes Go.WideShapes Go.ChangeAt Go.RowKit
open Go.Proofs.Ytmchedjeohhpcaa.base Go.Proofs.Ytmchedjeohhpcaa.pcapA Go.Proofs.Ytmchedjeohhpcaa.pcapB Go.Proofs.Ytmchedjeohhpcaa.pcapC Go.Proofs.Ytmchedjeohhpcaa.pcapD
set_option linter.unusedVariables false

/-- Four bytes as a number, the greatest one first. -/
def wordN (p q r t : Nat) : Nat := p * 16777216 + q * 65536 + r * 256 + t
theorem wordN_lt {p q r t : Nat} (h1 : p < 256) (h2 : q < 256) (h3 : r < 256) (h4 : t < 256) : wordN p q r t < 4294967296 := by unfold wordN; omega
set_option maxRecDepth 100000 in
theorem word_or {p q r t : Nat} (h1 : p < 256) (h2 : q < 256) (h3 : r < 256) (h4 : t < 256) :
    bits .or .u32 (bits .or .u32 (bits .or .u32 ((p * 16777216 : Nat) : Int) ((q * 65536 : Nat) : Int)) ((r * 256 : Nat) : Int)) ((t : Nat) : Int) = ((wordN p q r t : Nat) : Int) := by
  have e1 : p * 16777216 ||| q * 65536 = p * 16777216 + q * 65536 := by
    have := or_add (q * 65536) p 24 (by omega)
    rw [Nat.or_comm]
    exact this
  have e2 : (p * 16777216 + q * 65536) ||| r * 256 = p * 16777216 + q * 65536 + r * 256 := by
    have h := or_add (r * 256) (p * 256 + q) 16 (by omega)
    have e : (p * 256 + q) * 2 ^ 16 = p * 16777216 + q * 65536 := by omega
    rw [e] at h
    rw [Nat.or_comm]
    exact h
  have e3 : (p * 16777216 + q * 65536 + r * 256) ||| t = p * 16777216 + q * 65536 + r * 256 + t := by
    have h := or_add t (p * 65536 + q * 256 + r) 8 (by omega)
    have e : (p * 65536 + q * 256 + r) * 2 ^ 8 = p * 16777216 + q * 65536 + r * 256 := by omega
    rw [e] at h
    rw [Nat.or_comm]
    exact h
  rw [u32_or_nat _ _ (by omega) (by omega), e1, u32_or_nat _ _ (by omega) (by omega), e2, u32_or_nat _ _ (by omega) (by omega), e3]
  rfl
set_option maxHeartbeats 3000000 in
set_option maxRecDepth 100000 in
theorem word_any (big : Bool) (g off n c k : Nat) (p q r t : Nat) (w : World) (h1 : p < 256) (h2 : q < 256) (h3 : r < 256) (h4 : t < 256) (hk : k + 4 ≤ n) (hn : n ≤ 1000000000)
    (c0 : w.cell? ⟨g, off + k, none⟩ = some (.int .u8 (p : Int))) (c1 : w.cell? ⟨g, off + (k + 1), none⟩ = some (.int .u8 (q : Int))) (c2 : w.cell? ⟨g, off + (k + 2), none⟩ = some (.int .u8 (r : Int))) (c3 : w.cell? ⟨g, off + (k + 3), none⟩ = some (.int .u8 (t : Int))) :
    Calls Try.prog 19 #[.slice (some ⟨g, off, none⟩) n c, .bool big, .int .i64 (k : Int)] w fun e w' => e = .returned (.int .u32 ((ordN big (wordN p q r t) : Nat) : Int)) ∧ ∃ q, w' = w.drewN q := by
  have ho : bits .or .u32 (bits .or .u32 (bits .or .u32 ((p : Int) * 16777216) ((q : Int) * 65536)) ((r : Int) * 256)) (t : Int) = ((wordN p q r t : Nat) : Int) := word_or h1 h2 h3 h4
  have HC := Lib.hid (show ∀ j, Calls Try.prog 25 #[.bool big, .int .u32 (bits .or .u32 (bits .or .u32 (bits .or .u32 ((p : Int) * 16777216) ((q : Int) * 65536)) ((r : Int) * 256)) (t : Int))] (w.drewN j) fun e w' => e = .returned (.int .u32 ((ordN big (wordN p q r t) : Nat) : Int)) ∧ w' = w.drewN j from fun j => by
    rw [ho]
    exact (order_any big (wordN_lt h1 h2 h3 h4) _).mono fun e w' h => ⟨h.1, h.2.symm⟩)
  clear ho
  obtain ⟨k1, hk1⟩ : ∃ k1, k1 = k + 1 := ⟨_, rfl⟩
  obtain ⟨k2, hk2⟩ : ∃ k2, k2 = k + 2 := ⟨_, rfl⟩
  obtain ⟨k3, hk3⟩ : ∃ k3, k3 = k + 3 := ⟨_, rfl⟩
  rw [← hk1] at c1
  rw [← hk2] at c2
  rw [← hk3] at c3
  have i1 : IntKind.i64.wrap ((k : Int) + 1) = (k1 : Int) := by rw [IntWalk.i64_in _ (by omega), hk1]; rfl
  have i2 : IntKind.i64.wrap ((k : Int) + 2) = (k2 : Int) := by rw [IntWalk.i64_in _ (by omega), hk2]; rfl
  have i3 : IntKind.i64.wrap ((k : Int) + 3) = (k3 : Int) := by rw [IntWalk.i64_in _ (by omega), hk3]; rfl
  have j0 : (0 : Int) ≤ k := by omega
  have j1 : (0 : Int) ≤ k1 := by omega
  have j2 : (0 : Int) ≤ k2 := by omega
  have j3 : (0 : Int) ≤ k3 := by omega
  have l0 : (k : Int) < n := by omega
  have l1 : (k1 : Int) < n := by omega
  have l2 : (k2 : Int) < n := by omega
  have l3 : (k3 : Int) < n := by omega
  clear hk1 hk2 hk3
  have w0 : IntKind.u32.wrap (p : Int) = (p : Int) := by rw [IntKind.wrap_u32]; omega
  have w1 : IntKind.u32.wrap (q : Int) = (q : Int) := by rw [IntKind.wrap_u32]; omega
  have w2 : IntKind.u32.wrap (r : Int) = (r : Int) := by rw [IntKind.wrap_u32]; omega
  have w3 : IntKind.u32.wrap (t : Int) = (t : Int) := by rw [IntKind.wrap_u32]; omega
  go_enter Try.func19, Try.ntmps19
  go_wp2_with fail
  go_quiet ((go_at_call 25; exact Calls.quiet_of_same (HC.out _)))
  go_wp2_with fail
  go_ret
  exact ⟨rfl, _, rfl⟩
end Go.Proofs.Ytmchedjeohhpcaa.pcapE
