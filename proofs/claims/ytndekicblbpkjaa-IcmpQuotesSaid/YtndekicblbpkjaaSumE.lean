/- Layer 4: the words of a number. -/
import Derived.Test.YtndekicblbpkjaaSumD
namespace Go.Proofs.Ytndekicblbpkjaa.sumE
open Go.ChangeShapes Go.WideShapes Go.ChangeAt Go.RowKit
open Go.Proofs.Ytndekicblbpkjaa.base Go.Proofs.Ytndekicblbpkjaa.sumA
set_option linter.unusedVariables false

theorem info_u16 : (Try.prog.info? 121).map (fun i => (i.zero, i.size, i.bytes)) = some (some (.int .u16 0), 1, 2) := by kernel_rfl
def held4 (n : Int) : Nat := (max (min n 4) 0).toNat
/-- The k-th of so many words. -/
def wordAt (n : Int) (size k : Nat) : Int := n / 2 ^ (16 * (size - 1 - k)) % 65536
def words (n : Int) (size k : Nat) : List Int := (List.range k).map (wordAt n size)
theorem words_snoc (n : Int) (size k : Nat) : words n size (k + 1) = words n size k ++ [wordAt n size k] := by simp [words, List.range_succ]

end Go.Proofs.Ytndekicblbpkjaa.sumE
