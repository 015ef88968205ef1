/- Layer 1: sums. -/
import Derived.Test.YtanijccpbleekaaWideD
import Derived.Test.YtanijccpbleekaaMixD
import Derived.Test.YtanijccpbleekaaKeep
namespace Go.Proofs.Ytanijccpbleekaa.wideE
open Go.ChangeShapes Go.WideShapes Go.ChangeAt Go.RowKit
open Go.Proofs.Ytanijccpbleekaa.base Go.Proofs.Ytanijccpbleekaa.wideA Go.Proofs.Ytanijccpbleekaa.wideB Go.Proofs.Ytanijccpbleekaa.wideC Go.Proofs.Ytanijccpbleekaa.wideD
set_option linter.unusedVariables false

theorem sum_snoc (l : List Int) (x : Int) : (l ++ [x]).sum = l.sum + x := by simp
theorem sum_bound (l : List Int) (h : ∀ x ∈ l, 0 ≤ x ∧ x < 18446744073709551616) : 0 ≤ l.sum ∧ l.sum ≤ l.length * 18446744073709551615 := by
  induction l with
  | nil => simp
  | cons a l ih =>
    have h1 := h a (by simp)
    have h2 := ih (fun x hx => h x (by simp [hx]))
    simp only [List.sum_cons, List.length_cons]
    omega

end Go.Proofs.Ytanijccpbleekaa.wideE
