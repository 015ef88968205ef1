/- Layer 7: the law's helpers. -/
import Derived.Test.YtndekicblbpkjaaOctC
import Derived.Laws.BytesArg
namespace Go.Proofs.Ytndekicblbpkjaa.octD
open Go.ChangeShapes Go.WideShapes Go.ChangeAt Go.RowKit
open Go.Proofs.Ytndekicblbpkjaa.base Go.Proofs.Ytndekicblbpkjaa.octA Go.Proofs.Ytndekicblbpkjaa.octB Go.Proofs.Ytndekicblbpkjaa.octC
set_option linter.unusedVariables false

/-- Bytes as a text. -/
theorem conv_row {w : World} {B : Nat} {b off n c : Nat} {l : List Int} (h : Row w B (some ⟨b, off, none⟩) (l.map (.int .u8))) (hl : l.length = n) :
    (convert 22 9 (.slice (some ⟨b, off, none⟩) n c)).run Try.prog w = .ok (.string (strOfNums l)) w := by
  refine run_convert_bytes_arg w 22 5 Try.underlying22 Try.underlying5 b off n c l hl (fun i hi => ?_) 9 Try.underlying9
  have h0 : 0 < l.length := by omega
  obtain ⟨b1, o1, e, _, hc⟩ := slice_from h i (by omega)
  injection e with e
  injection e with e1 e2
  subst e1 e2
  exact hc i (by omega)
theorem conv_none {w : World} (n c : Nat) : (convert 22 9 (.slice none n c)).run Try.prog w = .ok (.string (strOfNums [])) w :=
  run_convert_bytes_nil w 22 5 Try.underlying22 Try.underlying5 n c 9 Try.underlying9
end Go.Proofs.Ytndekicblbpkjaa.octD
