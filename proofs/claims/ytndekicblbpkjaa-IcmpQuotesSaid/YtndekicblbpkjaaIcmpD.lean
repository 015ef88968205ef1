/- Layer 12: the law on bytes that are parsed as a message. -/
import Derived.Test.YtndekicblbpkjaaIcmpC
namespace Go.Proofs.Ytndekicblbpkjaa.icmpD
open Go.ChangeShapes Go.WideShapes Go.ChangeAt Go.RowKit
open Go.Proofs.Ytndekicblbpkjaa.base Go.Proofs.Ytndekicblbpkjaa.sumA Go.Proofs.Ytndekicblbpkjaa.sumB Go.Proofs.Ytndekicblbpkjaa.octA Go.Proofs.Ytndekicblbpkjaa.octB Go.Proofs.Ytndekicblbpkjaa.octC Go.Proofs.Ytndekicblbpkjaa.octD Go.Proofs.Ytndekicblbpkjaa.octE Go.Proofs.Ytndekicblbpkjaa.octF Go.Proofs.Ytndekicblbpkjaa.rdrA Go.Proofs.Ytndekicblbpkjaa.udpA Go.Proofs.Ytndekicblbpkjaa.tcpC Go.Proofs.Ytndekicblbpkjaa.net Go.Proofs.Ytndekicblbpkjaa.icmpA Go.Proofs.Ytndekicblbpkjaa.icmpC
set_option linter.unusedVariables false

theorem cut_any (A : Option Addr) (n c : Nat) (w : World) (hnc : n ≤ c) (hc : c ≤ 9223372036854775807) (hA : ∀ x, A = some x → 300 < n → ∃ b off, x = ⟨b, off, none⟩) (hA2 : A = none → n = 0) :
    Calls Try.prog 21 #[.slice A n c] w fun e w' => e = .returned (.slice A (min n 300 : Nat) c) ∧ w = w' := by
  by_cases h : 300 < n
  · have hm : min n 300 = 300 := by omega
    rw [hm]
    have hd : decide ((300 : Int) < (n : Int)) = true := by simp; omega
    cases A with
    | none => have := hA2 rfl; omega
    | some x =>
      obtain ⟨b, off, rfl⟩ := hA x rfl h
      clear hA hA2 hm
      go_enter Try.func21, Try.ntmps21
      go_wp2_with fail
      go_ret
      exact ⟨rfl, rfl⟩
  · have hm : min n 300 = n := by omega
    rw [hm]
    have hd : decide ((300 : Int) < (n : Int)) = false := by simp; omega
    clear hA hA2 hm
    go_enter Try.func21, Try.ntmps21
    go_wp2_with fail
    go_ret
    exact ⟨rfl, rfl⟩
theorem cut12_arg {w : World} {B : Nat} {A : Option Addr} {n c : Nat} {l : List Int} (hl : l.length = n) (hr : Row w B A (l.map (.int .u8))) (hnc : n ≤ c) (hc : c ≤ 9223372036854775807) :
    (l.take (min n 300)).length = min n 300 ∧ Row w B A ((l.take (min n 300)).map (.int .u8)) ∧
      Hid (∀ w : World, Calls Try.prog 21 #[.slice A n c] w fun e w' => e = .returned (.slice A (min n 300 : Nat) c) ∧ w = w') := by
  refine ⟨by rw [List.length_take]; omega, ?_, Lib.hid fun w => ?_⟩
  · have := hr.take (min n 300)
    rwa [← List.map_take] at this
  · refine cut_any A n c w hnc hc (fun x hx h => ?_) (fun h => ?_)
    · rcases hr with h0 | ⟨b, off, hA, _⟩
      · have := congrArg List.length h0; simp at this; rw [this] at hl; simp at hl; omega
      · rw [hx] at hA; injection hA with hA; exact ⟨b, off, hA⟩
    · rcases hr with h0 | ⟨b, off, hA, _⟩
      · have := congrArg List.length h0; simp at this; rw [this] at hl; simpa using hl.symm
      · rw [h] at hA; cases hA
end Go.Proofs.Ytndekicblbpkjaa.icmpD
