/- Layer 16: the chapter's example. -/
import Derived.Test.YtamndmlaikgogaaTreI
namespace Go.Proofs.Ytamndmlaikgogaa.treJ
open Go.ChangeShapes Go.WideShapes Go.ChangeAt Go.RowKit
open Go.Proofs.Ytamndmlaikgogaa.base Go.Proofs.Ytamndmlaikgogaa.dfA Go.Proofs.Ytamndmlaikgogaa.treA Go.Proofs.Ytamndmlaikgogaa.treB Go.Proofs.Ytamndmlaikgogaa.treC Go.Proofs.Ytamndmlaikgogaa.treD Go.Proofs.Ytamndmlaikgogaa.treE Go.Proofs.Ytamndmlaikgogaa.treG Go.Proofs.Ytamndmlaikgogaa.treH Go.Proofs.Ytamndmlaikgogaa.treI
set_option linter.unusedVariables false

def ex0 : Nd := ⟨⟨#[108]⟩, 1, -1, 0, false, 0, 0⟩
def ex1 : Nd := ⟨⟨#[122]⟩, 2, 0, 0, false, 0, 0⟩
def ex2 : Nd := ⟨⟨#[104]⟩, 4, 1, 0, false, 0, 0⟩
theorem ex_0 : whyF [] ex0 = 0 := by kernel_rfl
theorem ex_1 : whyF [ex0] ex1 = 0 := by kernel_rfl
theorem ex_2 : whyF [ex0, ex1] ex2 = 16 := by kernel_rfl
/-- What New tells of the three. -/
theorem ex_post {w w' : World} {o : Ending} (h : NewPost [ex0, ex1, ex2] w o w') : o = .returned (.tuple #[.pointer none, .int .i64 2, .int .i64 16]) := by
  have h0 : whyF ([ex0, ex1, ex2].take 0) ex0 = 0 := ex_0
  have h1 : whyF ([ex0, ex1, ex2].take 1) ex1 = 0 := ex_1
  have h2 : whyF ([ex0, ex1, ex2].take 2) ex2 = 16 := ex_2
  rcases h with ⟨i, hi, hg, hb, rfl⟩ | ⟨hg, _⟩
  · have hi3 : i < 3 := hi
    have hc : i = 0 ∨ i = 1 ∨ i = 2 := by omega
    rcases hc with rfl | rfl | rfl
    · exact absurd h0 hb
    · exact absurd h1 hb
    · show Ending.returned (.tuple #[.pointer none, .int .i64 2, .int .i64 (whyF ([ex0, ex1, ex2].take 2) ex2)]) = _
      rw [h2]
  · have h3 : whyF ([ex0, ex1, ex2].take 2) ex2 = 0 := hg 2 (by decide) (by decide)
    rw [h2] at h3
    cases h3
end Go.Proofs.Ytamndmlaikgogaa.treJ
