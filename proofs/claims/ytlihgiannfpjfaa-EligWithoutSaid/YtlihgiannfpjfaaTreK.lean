/- Layer 16: the law of TreeNews. -/
import Derived.Test.YtlihgiannfpjfaaTreJ
import Derived.Test.YtlihgiannfpjfaaTreF
namespace Go.Proofs.Ytlihgiannfpjfaa.treK
open Go.ChangeShapes Go.WideShapes Go.ChangeAt Go.RowKit
open Go.Proofs.Ytlihgiannfpjfaa.base Go.Proofs.Ytlihgiannfpjfaa.dfA Go.Proofs.Ytlihgiannfpjfaa.treA Go.Proofs.Ytlihgiannfpjfaa.treB Go.Proofs.Ytlihgiannfpjfaa.treC Go.Proofs.Ytlihgiannfpjfaa.treD Go.Proofs.Ytlihgiannfpjfaa.treE Go.Proofs.Ytlihgiannfpjfaa.treG Go.Proofs.Ytlihgiannfpjfaa.treH Go.Proofs.Ytlihgiannfpjfaa.treI Go.Proofs.Ytlihgiannfpjfaa.treJ
set_option linter.unusedVariables false

theorem rd_take {w : World} {A : Option Addr} {l : List Nd} (h : RdN w A l) (k : Nat) : RdN w A (l.take k) := by
  rcases h with h0 | ⟨b, off, h1, h2, h3⟩
  · subst h0
    exact .inl (by simp)
  · refine .inr ⟨b, off, h1, h2, fun j hj i hi => ?_⟩
    have hj2 : j < l.length := by rw [List.length_take] at hj; omega
    rw [h3 j hj2 i hi]
    simp
end Go.Proofs.Ytlihgiannfpjfaa.treK
