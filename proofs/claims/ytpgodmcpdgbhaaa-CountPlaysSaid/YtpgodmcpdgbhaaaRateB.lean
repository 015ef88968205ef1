/- Layer 37: time goes by. -/
import Derived.Test.YtpgodmcpdgbhaaaRateA
import Derived.Deep.RegionHeld3
namespace Go.Proofs.Ytpgodmcpdgbhaaa.rateB
open Go.ChangeShapes Go.WideShapes Go.ChangeAt Go.RowKit
open Go.Proofs.Ytpgodmcpdgbhaaa.base Go.Proofs.Ytpgodmcpdgbhaaa.rateA Go.Proofs.Ytpgodmcpdgbhaaa.wideB Go.Proofs.Ytpgodmcpdgbhaaa.wideC
set_option linter.unusedVariables false

theorem keep3 {W w w' : World} {p1 p2 : Addr} {v1 v2 : Value} (h : Below W.heap.size W w ∧ w.cell? p1 = some v1 ∧ w.cell? p2 = some v2) (hb : Below w.heap.size w w') :
    Below W.heap.size W w' ∧ w'.cell? p1 = some v1 ∧ w'.cell? p2 = some v2 := by
  obtain ⟨h0, h1, h2⟩ := h
  exact ⟨h0.trans (hb.mono h0.size), kept h1 hb, kept h2 hb⟩
theorem cmp_big {p R : Int} (p0 : 0 ≤ p) (R0 : 0 ≤ R) (R1 : R < 18446744073709551616) : decide (0 < cmp128 (p / 18446744073709551616) (p % 18446744073709551616) 0 R) = decide (R < p) := by
  have key : 0 < cmp128 (p / 18446744073709551616) (p % 18446744073709551616) 0 R ↔ R < p := by
    unfold cmp128 cmpI
    split
    · split
      · omega
      · split <;> omega
    · split
      · omega
      · split <;> omega
  exact decide_eq_decide.2 key
theorem grown_end {w a : World} {g : Nat} (h : Below w.heap.size w a) (i j : Nat) (v u : Value) : w.grownBy ((a.setCell ⟨g, i, none⟩ v).setCell ⟨g, j, none⟩ u) (some g) := by
  have hb : ∀ k, some k ≠ some g → ((a.setCell ⟨g, i, none⟩ v).setCell ⟨g, j, none⟩ u).heap[k]? = a.heap[k]? := fun k hk => by
    have hk' : k ≠ g := fun e => hk (by rw [e])
    exact (Below.heap_setCell _ ⟨g, j, none⟩ u k hk').trans (Below.heap_setCell _ ⟨g, i, none⟩ v k hk')
  refine ⟨h.os, h.tape, h.output, by simpa using h.size, fun k hk hne => ?_⟩
  rw [hb k hne]
  exact h.block k hk
/-- what a bucket has when so many units went by -/
def fillZ (E M H d : Int) : Int := if M - H < E * d then M else H + E * d
end Go.Proofs.Ytpgodmcpdgbhaaa.rateB
