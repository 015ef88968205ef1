/- Layer 37: when so many may go by; the example; scripts. -/
import Derived.Test.YtpgodmcpdgbhaaaRateD
namespace Go.Proofs.Ytpgodmcpdgbhaaa.rateE
open Go.ChangeShapes Go.WideShapes Go.ChangeAt Go.RowKit
open Go.Proofs.Ytpgodmcpdgbhaaa.base Go.Proofs.Ytpgodmcpdgbhaaa.rateA Go.Proofs.Ytpgodmcpdgbhaaa.rateB Go.Proofs.Ytpgodmcpdgbhaaa.rateC Go.Proofs.Ytpgodmcpdgbhaaa.rateD
set_option linter.unusedVariables false

def waitZ (E M H N n : Int) : Int := if n < 0 then -1 else if n ≤ H then N else if M < n ∨ E < 1 then -1 else if 1099511627776 - N < (n - H + E - 1) / E then -1 else N + (n - H + E - 1) / E
/-- A slice of pairs of whole numbers. -/
def RowP (w : World) (B : Nat) (A : Option Addr) (xs : List (Int × Int)) : Prop :=
  xs = [] ∨ ∃ b off, A = some ⟨b, off, none⟩ ∧ b < B ∧ ∀ i, i < xs.length → w.cell? ⟨b, off + i * 2, none⟩ = some (.int .i64 (xs.getD i (0, 0)).1) ∧ w.cell? ⟨b, off + i * 2 + 1, none⟩ = some (.int .i64 (xs.getD i (0, 0)).2)
theorem RowP.below {w w' : World} {B : Nat} {A : Option Addr} {xs : List (Int × Int)} (h : RowP w B A xs) (hb : Below B w w') : RowP w' B A xs := by
  rcases h with h | ⟨b, off, rfl, hlt, hc⟩
  · exact .inl h
  · exact .inr ⟨b, off, rfl, hlt, fun i hi => ⟨(hb.cell (p := ⟨b, off + i * 2, none⟩) hlt).trans (hc i hi).1, (hb.cell (p := ⟨b, off + i * 2 + 1, none⟩) hlt).trans (hc i hi).2⟩⟩
theorem RowP.more {w : World} {B B' : Nat} {A : Option Addr} {xs : List (Int × Int)} (h : RowP w B A xs) (hB : B ≤ B') : RowP w B' A xs := by
  rcases h with h | ⟨b, off, rfl, hlt, hc⟩
  · exact .inl h
  · exact .inr ⟨b, off, rfl, by omega, hc⟩
theorem RowP.at_ {w : World} {B : Nat} {A : Option Addr} {xs : List (Int × Int)} (h : RowP w B A xs) (hne : 0 < xs.length) : ∃ b off, A = some ⟨b, off, none⟩ ∧ b < B ∧ ∀ i, i < xs.length → w.cell? ⟨b, off + i * 2, none⟩ = some (.int .i64 (xs.getD i (0, 0)).1) ∧ w.cell? ⟨b, off + i * 2 + 1, none⟩ = some (.int .i64 (xs.getD i (0, 0)).2) := by
  rcases h with h | h
  · rw [h] at hne; simp at hne
  · exact h
/-- Numbers of 64 bits. -/
def ok64 (xs : List (Int × Int)) : Prop := ∀ i, i < xs.length → -9223372036854775808 ≤ (xs.getD i (0, 0)).2 ∧ (xs.getD i (0, 0)).2 < 9223372036854775808
end Go.Proofs.Ytpgodmcpdgbhaaa.rateE
