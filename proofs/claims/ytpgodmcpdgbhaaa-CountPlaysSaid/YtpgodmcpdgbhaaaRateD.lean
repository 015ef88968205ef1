/- Layer 37: a step of both buckets. -/
import Derived.Test.YtpgodmcpdgbhaaaRateC
namespace Go.Proofs.Ytpgodmcpdgbhaaa.rateD
open Go.ChangeShapes Go.WideShapes Go.ChangeAt Go.RowKit
open Go.Proofs.Ytpgodmcpdgbhaaa.base Go.Proofs.Ytpgodmcpdgbhaaa.rateA Go.Proofs.Ytpgodmcpdgbhaaa.rateB Go.Proofs.Ytpgodmcpdgbhaaa.rateC
set_option linter.unusedVariables false

def inv (M : Int) (s : Int × Int) : Prop := 0 ≤ s.1 ∧ s.1 ≤ M ∧ 0 ≤ s.2 ∧ s.2 ≤ 1099511627776
def stp (E M : Int) (s : Int × Int) (o : Int × Int) : Int × Int :=
  if o.1 = 2 then (if o.2 < s.2 ∨ 1099511627776 < o.2 then s else (fillZ E M s.1 (o.2 - s.2), o.2)) else (if 0 ≤ o.2 ∧ o.2 ≤ s.1 then (s.1 - o.2, s.2) else s)
theorem fill_in {E M H d : Int} (E0 : 0 ≤ E) (H0 : 0 ≤ H) (HM : H ≤ M) (d0 : 0 ≤ d) : H ≤ fillZ E M H d ∧ fillZ E M H d ≤ M := by
  have := Int.mul_nonneg E0 d0
  unfold fillZ
  split <;> omega
theorem stp_inv {E M : Int} {s o : Int × Int} (E0 : 0 ≤ E) (h : inv M s) : inv M (stp E M s o) := by
  obtain ⟨h1, h2, h3, h4⟩ := h
  unfold stp
  split
  · split
    · exact ⟨h1, h2, h3, h4⟩
    · have := fill_in (M := M) (H := s.1) (d := o.2 - s.2) E0 h1 h2 (by omega)
      refine ⟨?_, ?_, ?_, ?_⟩ <;> dsimp only <;> omega
  · split
    · refine ⟨?_, ?_, ?_, ?_⟩ <;> dsimp only <;> omega
    · exact ⟨h1, h2, h3, h4⟩
theorem below_pt {B : Nat} {a w w' : World} {g : Nat} (h : Below B a w) (hg : w.grownBy w' (some g)) (hB : B ≤ w.heap.size) (hr : B ≤ g) : Below B a w' :=
  h.grown hg hB fun k hk => by injection hk with hk; omega

end Go.Proofs.Ytpgodmcpdgbhaaa.rateD
