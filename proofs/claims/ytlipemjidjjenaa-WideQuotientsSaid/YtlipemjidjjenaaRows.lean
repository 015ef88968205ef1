/-
  No cell of these rows narrows 'for every input' (looked for: loops, veiled, ifaces, maps, wideKeys, modest, calm, conditions, laid).
  DERIVED. THE GIVEN ROWS OF THIS SEAT. 14 by the template 'for every input the law returns true; each argument reads behind the call as it read before'; 0 by the template 'total and deterministic' (their statements: YtlipemjidjjenaaTotals.lean).
  GIVEN WITH THE SEED: the statements are not yours to turn. If you find one false, say at which input.
  Laid BY PROGRAM, IN A SANDBOX (cutbox-rows.mjs): the forced cells as the released guide's own fill.sh prints them over the translation 9ea408102a4e7d0d… (all of the seat's roots in one cut). By AI agents, Wed Nov 11 2026. No macro, syntax, notation, axiom, sorry.
-/
import Derived.Test.YtlipemjidjjenaaChecked
import GoSem.Claim
import GoSem.ClaimJoined
import GoSem.ClaimMapViews
import Derived.JoinedTies
import Derived.KernelRfl
namespace Go.Proofs.Ytlipemjidjjenaa
/- THE CELL 'sum', in the pinned program and in every row, IS THE sha256 OF THE DUMP (.gsa) THAT YtlipemjidjjenaaProg.lean LOADS. Nothing in Lean hashes anything: it is a label: what it is worth is what the hold of that sum in a sandbox is worth. -/
noncomputable def Try.pinned : Pinned := { name := "ytlipemjidjjenaa", sum := "9ea408102a4e7d0d398ed537a505677e2458ad0c753187694c8e7dbab17201a4", checked := Try.checked }
namespace Rows
def none {H : Type} : Left H := { results := [], args := [] }

/-- 'distributarylaw01.WideProducts': WHATEVER THE INPUT: true; the input reads as it did. -/
def wideProductsSpec : ChangeSpec := { name := "wideProducts", fn := fun _ => fun
  | [d1, d2, d3, d4] => { results := [.lit (.bool true)], args := [d1, d2, d3, d4] }
  | _ => none }
def wideProductsRow : OpenClaim := { program := "ytlipemjidjjenaa", sum := "9ea408102a4e7d0d398ed537a505677e2458ad0c753187694c8e7dbab17201a4", func := "distributary/distributarylaw01.WideProducts", spec := "wideProducts", inPlace := ["math/bits.Add64"], apart := false }
def WideProductsSaid : Prop := wideProductsRow.holds Try.pinned (OpenSpec.ofChange wideProductsSpec)

/-- ITS FALSE NEIGHBOUR: 'it returns false'. Refute it at one input. -/
def wideProductsWrong : ChangeSpec := { name := "wideProducts", fn := fun _ => fun
  | [d1, d2, d3, d4] => { results := [.lit (.bool false)], args := [d1, d2, d3, d4] }
  | _ => none }
def WideProductsWrongFalsely : Prop := wideProductsRow.holds Try.pinned (OpenSpec.ofChange wideProductsWrong)

/-- 'distributarylaw01.WideSums': WHATEVER THE INPUT: true; the input reads as it did. -/
def wideSumsSpec : ChangeSpec := { name := "wideSums", fn := fun _ => fun
  | [d] => { results := [.lit (.bool true)], args := [d] }
  | _ => none }
def wideSumsRow : OpenClaim := { program := "ytlipemjidjjenaa", sum := "9ea408102a4e7d0d398ed537a505677e2458ad0c753187694c8e7dbab17201a4", func := "distributary/distributarylaw01.WideSums", spec := "wideSums", inPlace := ["math/bits.Add64"], apart := false }
def WideSumsSaid : Prop := wideSumsRow.holds Try.pinned (OpenSpec.ofChange wideSumsSpec)

/-- ITS FALSE NEIGHBOUR: 'it returns false'. Refute it at one input. -/
def wideSumsWrong : ChangeSpec := { name := "wideSums", fn := fun _ => fun
  | [d] => { results := [.lit (.bool false)], args := [d] }
  | _ => none }
def WideSumsWrongFalsely : Prop := wideSumsRow.holds Try.pinned (OpenSpec.ofChange wideSumsWrong)

/-- 'distributarylaw01.WideQuotients': WHATEVER THE INPUT: true; the input reads as it did. -/
def wideQuotientsSpec : ChangeSpec := { name := "wideQuotients", fn := fun _ => fun
  | [d1, d2, d3, d4] => { results := [.lit (.bool true)], args := [d1, d2, d3, d4] }
  | _ => none }
def wideQuotientsRow : OpenClaim := { program := "ytlipemjidjjenaa", sum := "9ea408102a4e7d0d398ed537a505677e2458ad0c753187694c8e7dbab17201a4", func := "distributary/distributarylaw01.WideQuotients", spec := "wideQuotients", named := ["math/bits.divideError", "math/bits.overflowError"], apart := false }
def WideQuotientsSaid : Prop := wideQuotientsRow.holds Try.pinned (OpenSpec.ofChange wideQuotientsSpec)

/-- ITS FALSE NEIGHBOUR: 'it returns false'. Refute it at one input. -/
def wideQuotientsWrong : ChangeSpec := { name := "wideQuotients", fn := fun _ => fun
  | [d1, d2, d3, d4] => { results := [.lit (.bool false)], args := [d1, d2, d3, d4] }
  | _ => none }
def WideQuotientsWrongFalsely : Prop := wideQuotientsRow.holds Try.pinned (OpenSpec.ofChange wideQuotientsWrong)

/-- 'distributarylaw01.WideFracs': WHATEVER THE INPUT: true; the input reads as it did. -/
def wideFracsSpec : ChangeSpec := { name := "wideFracs", fn := fun _ => fun
  | [d1, d2, d3] => { results := [.lit (.bool true)], args := [d1, d2, d3] }
  | _ => none }
def wideFracsRow : OpenClaim := { program := "ytlipemjidjjenaa", sum := "9ea408102a4e7d0d398ed537a505677e2458ad0c753187694c8e7dbab17201a4", func := "distributary/distributarylaw01.WideFracs", spec := "wideFracs", apart := false }
def WideFracsSaid : Prop := wideFracsRow.holds Try.pinned (OpenSpec.ofChange wideFracsSpec)

/-- ITS FALSE NEIGHBOUR: 'it returns false'. Refute it at one input. -/
def wideFracsWrong : ChangeSpec := { name := "wideFracs", fn := fun _ => fun
  | [d1, d2, d3] => { results := [.lit (.bool false)], args := [d1, d2, d3] }
  | _ => none }
def WideFracsWrongFalsely : Prop := wideFracsRow.holds Try.pinned (OpenSpec.ofChange wideFracsWrong)

/-- 'distributarylaw02.MixOnes': WHATEVER THE INPUT: true; the input reads as it did. -/
def mixOnesSpec : ChangeSpec := { name := "mixOnes", fn := fun _ => fun
  | [d] => { results := [.lit (.bool true)], args := [d] }
  | _ => none }
def mixOnesRow : OpenClaim := { program := "ytlipemjidjjenaa", sum := "9ea408102a4e7d0d398ed537a505677e2458ad0c753187694c8e7dbab17201a4", func := "distributary/distributarylaw02.MixOnes", spec := "mixOnes", apart := false }
def MixOnesSaid : Prop := mixOnesRow.holds Try.pinned (OpenSpec.ofChange mixOnesSpec)

/-- ITS FALSE NEIGHBOUR: 'it returns false'. Refute it at one input. -/
def mixOnesWrong : ChangeSpec := { name := "mixOnes", fn := fun _ => fun
  | [d] => { results := [.lit (.bool false)], args := [d] }
  | _ => none }
def MixOnesWrongFalsely : Prop := mixOnesRow.holds Try.pinned (OpenSpec.ofChange mixOnesWrong)

/-- 'distributarylaw02.MixLists': WHATEVER THE INPUT: true; the input reads as it did. -/
def mixListsSpec : ChangeSpec := { name := "mixLists", fn := fun _ => fun
  | [d1, d2, d3] => { results := [.lit (.bool true)], args := [d1, d2, d3] }
  | _ => none }
def mixListsRow : OpenClaim := { program := "ytlipemjidjjenaa", sum := "9ea408102a4e7d0d398ed537a505677e2458ad0c753187694c8e7dbab17201a4", func := "distributary/distributarylaw02.MixLists", spec := "mixLists", apart := false }
def MixListsSaid : Prop := mixListsRow.holds Try.pinned (OpenSpec.ofChange mixListsSpec)

/-- ITS FALSE NEIGHBOUR: 'it returns false'. Refute it at one input. -/
def mixListsWrong : ChangeSpec := { name := "mixLists", fn := fun _ => fun
  | [d1, d2, d3] => { results := [.lit (.bool false)], args := [d1, d2, d3] }
  | _ => none }
def MixListsWrongFalsely : Prop := mixListsRow.holds Try.pinned (OpenSpec.ofChange mixListsWrong)

/-- 'distributarylaw02.MixBelows': WHATEVER THE INPUT: true; the input reads as it did. -/
def mixBelowsSpec : ChangeSpec := { name := "mixBelows", fn := fun _ => fun
  | [d1, d2] => { results := [.lit (.bool true)], args := [d1, d2] }
  | _ => none }
def mixBelowsRow : OpenClaim := { program := "ytlipemjidjjenaa", sum := "9ea408102a4e7d0d398ed537a505677e2458ad0c753187694c8e7dbab17201a4", func := "distributary/distributarylaw02.MixBelows", spec := "mixBelows", apart := false }
def MixBelowsSaid : Prop := mixBelowsRow.holds Try.pinned (OpenSpec.ofChange mixBelowsSpec)

/-- ITS FALSE NEIGHBOUR: 'it returns false'. Refute it at one input. -/
def mixBelowsWrong : ChangeSpec := { name := "mixBelows", fn := fun _ => fun
  | [d1, d2] => { results := [.lit (.bool false)], args := [d1, d2] }
  | _ => none }
def MixBelowsWrongFalsely : Prop := mixBelowsRow.holds Try.pinned (OpenSpec.ofChange mixBelowsWrong)

/-- 'distributarylaw02.MixGens': WHATEVER THE INPUT: true; the input reads as it did. -/
def mixGensSpec : ChangeSpec := { name := "mixGens", fn := fun _ => fun
  | [d1, d2] => { results := [.lit (.bool true)], args := [d1, d2] }
  | _ => none }
def mixGensRow : OpenClaim := { program := "ytlipemjidjjenaa", sum := "9ea408102a4e7d0d398ed537a505677e2458ad0c753187694c8e7dbab17201a4", func := "distributary/distributarylaw02.MixGens", spec := "mixGens", apart := false }
def MixGensSaid : Prop := mixGensRow.holds Try.pinned (OpenSpec.ofChange mixGensSpec)

/-- ITS FALSE NEIGHBOUR: 'it returns false'. Refute it at one input. -/
def mixGensWrong : ChangeSpec := { name := "mixGens", fn := fun _ => fun
  | [d1, d2] => { results := [.lit (.bool false)], args := [d1, d2] }
  | _ => none }
def MixGensWrongFalsely : Prop := mixGensRow.holds Try.pinned (OpenSpec.ofChange mixGensWrong)

/-- 'distributarylaw03.LogsNumbers': WHATEVER THE INPUT: true; the input reads as it did. -/
def logsNumbersSpec : ChangeSpec := { name := "logsNumbers", fn := fun _ => fun
  | [d] => { results := [.lit (.bool true)], args := [d] }
  | _ => none }
def logsNumbersRow : OpenClaim := { program := "ytlipemjidjjenaa", sum := "9ea408102a4e7d0d398ed537a505677e2458ad0c753187694c8e7dbab17201a4", func := "distributary/distributarylaw03.LogsNumbers", spec := "logsNumbers", apart := false }
def LogsNumbersSaid : Prop := logsNumbersRow.holds Try.pinned (OpenSpec.ofChange logsNumbersSpec)

/-- ITS FALSE NEIGHBOUR: 'it returns false'. Refute it at one input. -/
def logsNumbersWrong : ChangeSpec := { name := "logsNumbers", fn := fun _ => fun
  | [d] => { results := [.lit (.bool false)], args := [d] }
  | _ => none }
def LogsNumbersWrongFalsely : Prop := logsNumbersRow.holds Try.pinned (OpenSpec.ofChange logsNumbersWrong)

/-- 'distributarylaw03.LogsRise': WHATEVER THE INPUT: true; the input reads as it did. -/
def logsRiseSpec : ChangeSpec := { name := "logsRise", fn := fun _ => fun
  | [d1, d2, d3] => { results := [.lit (.bool true)], args := [d1, d2, d3] }
  | _ => none }
def logsRiseRow : OpenClaim := { program := "ytlipemjidjjenaa", sum := "9ea408102a4e7d0d398ed537a505677e2458ad0c753187694c8e7dbab17201a4", func := "distributary/distributarylaw03.LogsRise", spec := "logsRise", apart := false }
def LogsRiseSaid : Prop := logsRiseRow.holds Try.pinned (OpenSpec.ofChange logsRiseSpec)

/-- ITS FALSE NEIGHBOUR: 'it returns false'. Refute it at one input. -/
def logsRiseWrong : ChangeSpec := { name := "logsRise", fn := fun _ => fun
  | [d1, d2, d3] => { results := [.lit (.bool false)], args := [d1, d2, d3] }
  | _ => none }
def LogsRiseWrongFalsely : Prop := logsRiseRow.holds Try.pinned (OpenSpec.ofChange logsRiseWrong)

/-- 'distributarylaw04.SumBytes': WHATEVER THE INPUT: true; the input reads as it did. -/
def sumBytesSpec : ChangeSpec := { name := "sumBytes", fn := fun _ => fun
  | [d1, d2, d3] => { results := [.lit (.bool true)], args := [d1, d2, d3] }
  | _ => none }
def sumBytesRow : OpenClaim := { program := "ytlipemjidjjenaa", sum := "9ea408102a4e7d0d398ed537a505677e2458ad0c753187694c8e7dbab17201a4", func := "distributary/distributarylaw04.SumBytes", spec := "sumBytes", apart := false }
def SumBytesSaid : Prop := sumBytesRow.holds Try.pinned (OpenSpec.ofChange sumBytesSpec)

/-- ITS FALSE NEIGHBOUR: 'it returns false'. Refute it at one input. -/
def sumBytesWrong : ChangeSpec := { name := "sumBytes", fn := fun _ => fun
  | [d1, d2, d3] => { results := [.lit (.bool false)], args := [d1, d2, d3] }
  | _ => none }
def SumBytesWrongFalsely : Prop := sumBytesRow.holds Try.pinned (OpenSpec.ofChange sumBytesWrong)

/-- 'distributarylaw04.SumTurns': WHATEVER THE INPUT: true; the input reads as it did. -/
def sumTurnsSpec : ChangeSpec := { name := "sumTurns", fn := fun _ => fun
  | [d1, d2, d3, d4, d5] => { results := [.lit (.bool true)], args := [d1, d2, d3, d4, d5] }
  | _ => none }
def sumTurnsRow : OpenClaim := { program := "ytlipemjidjjenaa", sum := "9ea408102a4e7d0d398ed537a505677e2458ad0c753187694c8e7dbab17201a4", func := "distributary/distributarylaw04.SumTurns", spec := "sumTurns", apart := false }
def SumTurnsSaid : Prop := sumTurnsRow.holds Try.pinned (OpenSpec.ofChange sumTurnsSpec)

/-- ITS FALSE NEIGHBOUR: 'it returns false'. Refute it at one input. -/
def sumTurnsWrong : ChangeSpec := { name := "sumTurns", fn := fun _ => fun
  | [d1, d2, d3, d4, d5] => { results := [.lit (.bool false)], args := [d1, d2, d3, d4, d5] }
  | _ => none }
def SumTurnsWrongFalsely : Prop := sumTurnsRow.holds Try.pinned (OpenSpec.ofChange sumTurnsWrong)

/-- 'distributarylaw04.SumStays': WHATEVER THE INPUT: true; the input reads as it did. -/
def sumStaysSpec : ChangeSpec := { name := "sumStays", fn := fun _ => fun
  | [d1, d2, d3, d4] => { results := [.lit (.bool true)], args := [d1, d2, d3, d4] }
  | _ => none }
def sumStaysRow : OpenClaim := { program := "ytlipemjidjjenaa", sum := "9ea408102a4e7d0d398ed537a505677e2458ad0c753187694c8e7dbab17201a4", func := "distributary/distributarylaw04.SumStays", spec := "sumStays", apart := false }
def SumStaysSaid : Prop := sumStaysRow.holds Try.pinned (OpenSpec.ofChange sumStaysSpec)

/-- ITS FALSE NEIGHBOUR: 'it returns false'. Refute it at one input. -/
def sumStaysWrong : ChangeSpec := { name := "sumStays", fn := fun _ => fun
  | [d1, d2, d3, d4] => { results := [.lit (.bool false)], args := [d1, d2, d3, d4] }
  | _ => none }
def SumStaysWrongFalsely : Prop := sumStaysRow.holds Try.pinned (OpenSpec.ofChange sumStaysWrong)

/-- 'distributarylaw04.SumAdds': WHATEVER THE INPUT: true; the input reads as it did. -/
def sumAddsSpec : ChangeSpec := { name := "sumAdds", fn := fun _ => fun
  | [d1, d2] => { results := [.lit (.bool true)], args := [d1, d2] }
  | _ => none }
def sumAddsRow : OpenClaim := { program := "ytlipemjidjjenaa", sum := "9ea408102a4e7d0d398ed537a505677e2458ad0c753187694c8e7dbab17201a4", func := "distributary/distributarylaw04.SumAdds", spec := "sumAdds", apart := false }
def SumAddsSaid : Prop := sumAddsRow.holds Try.pinned (OpenSpec.ofChange sumAddsSpec)

/-- ITS FALSE NEIGHBOUR: 'it returns false'. Refute it at one input. -/
def sumAddsWrong : ChangeSpec := { name := "sumAdds", fn := fun _ => fun
  | [d1, d2] => { results := [.lit (.bool false)], args := [d1, d2] }
  | _ => none }
def SumAddsWrongFalsely : Prop := sumAddsRow.holds Try.pinned (OpenSpec.ofChange sumAddsWrong)

/- THE SECOND FORM. 'bulk': how many values and letters a reading holds, each counted each time it is reached (what is shared counts as often as it is met; a slice's spare places count too). A statement '..UptoSaid' is the law's where the arguments, and the package variables that the reading takes, are together of bulk at most 1048576: NARROWER than '..Said'. Prove '..Said' where nothing that the law and all that it calls make is longer than what came in: it says more and counts as full. Else prove '..UptoSaid'. A law counts once. -/
mutual
def uptoBulk {H : Type} : DataW H → Nat
  | .lit (.string bytes) => bytes.length + 1
  | .lit _ => 1
  | .nil => 1
  | .ptr d => uptoBulk d + 1
  | .slice elems spare => uptoBulkAll elems + uptoBulkAll spare + 1
  | .agg parts => uptoBulkAll parts + 1
  | .iface _ d => uptoBulk d + 1
  | .map entries => uptoBulkEntries entries + 1
  | .held _ => 1
def uptoBulkAll {H : Type} : List (DataW H) → Nat
  | [] => 0
  | d :: r => uptoBulk d + uptoBulkAll r
def uptoBulkEntries {H : Type} : List (Lit × DataW H) → Nat
  | [] => 0
  | x :: r => uptoBulkEntry x + uptoBulkEntries r
def uptoBulkEntry {H : Type} : Lit × DataW H → Nat
  | (.string bytes, d) => bytes.length + uptoBulk d + 1
  | (_, d) => uptoBulk d + 1
 end
def uptoSmall : (H : Type) → List (DataW H) → Bool := fun _ ds => decide (uptoBulkAll ds ≤ 1048576)
def OpenSpec.upto (s : _root_.Go.ChangeSpec) : _root_.Go.OpenSpec := { _root_.Go.OpenSpec.ofChange s with cond := some uptoSmall }

/-- 'distributarylaw01.WideProducts', WHERE WHAT IT READS IS OF BULK AT MOST 1048576: true; the input reads as it did. -/
def wideProductsUptoRow : OpenClaim := { program := "ytlipemjidjjenaa", sum := "9ea408102a4e7d0d398ed537a505677e2458ad0c753187694c8e7dbab17201a4", func := "distributary/distributarylaw01.WideProducts", spec := "wideProducts", inPlace := ["math/bits.Add64"], apart := false, narrowed := true }
def WideProductsUptoSaid : Prop := wideProductsUptoRow.holds Try.pinned (OpenSpec.upto wideProductsSpec)

/-- 'distributarylaw01.WideSums', WHERE WHAT IT READS IS OF BULK AT MOST 1048576: true; the input reads as it did. -/
def wideSumsUptoRow : OpenClaim := { program := "ytlipemjidjjenaa", sum := "9ea408102a4e7d0d398ed537a505677e2458ad0c753187694c8e7dbab17201a4", func := "distributary/distributarylaw01.WideSums", spec := "wideSums", inPlace := ["math/bits.Add64"], apart := false, narrowed := true }
def WideSumsUptoSaid : Prop := wideSumsUptoRow.holds Try.pinned (OpenSpec.upto wideSumsSpec)

/-- 'distributarylaw01.WideQuotients', WHERE WHAT IT READS IS OF BULK AT MOST 1048576: true; the input reads as it did. -/
def wideQuotientsUptoRow : OpenClaim := { program := "ytlipemjidjjenaa", sum := "9ea408102a4e7d0d398ed537a505677e2458ad0c753187694c8e7dbab17201a4", func := "distributary/distributarylaw01.WideQuotients", spec := "wideQuotients", named := ["math/bits.divideError", "math/bits.overflowError"], apart := false, narrowed := true }
def WideQuotientsUptoSaid : Prop := wideQuotientsUptoRow.holds Try.pinned (OpenSpec.upto wideQuotientsSpec)

/-- 'distributarylaw01.WideFracs', WHERE WHAT IT READS IS OF BULK AT MOST 1048576: true; the input reads as it did. -/
def wideFracsUptoRow : OpenClaim := { program := "ytlipemjidjjenaa", sum := "9ea408102a4e7d0d398ed537a505677e2458ad0c753187694c8e7dbab17201a4", func := "distributary/distributarylaw01.WideFracs", spec := "wideFracs", apart := false, narrowed := true }
def WideFracsUptoSaid : Prop := wideFracsUptoRow.holds Try.pinned (OpenSpec.upto wideFracsSpec)

/-- 'distributarylaw02.MixOnes', WHERE WHAT IT READS IS OF BULK AT MOST 1048576: true; the input reads as it did. -/
def mixOnesUptoRow : OpenClaim := { program := "ytlipemjidjjenaa", sum := "9ea408102a4e7d0d398ed537a505677e2458ad0c753187694c8e7dbab17201a4", func := "distributary/distributarylaw02.MixOnes", spec := "mixOnes", apart := false, narrowed := true }
def MixOnesUptoSaid : Prop := mixOnesUptoRow.holds Try.pinned (OpenSpec.upto mixOnesSpec)

/-- 'distributarylaw02.MixLists', WHERE WHAT IT READS IS OF BULK AT MOST 1048576: true; the input reads as it did. -/
def mixListsUptoRow : OpenClaim := { program := "ytlipemjidjjenaa", sum := "9ea408102a4e7d0d398ed537a505677e2458ad0c753187694c8e7dbab17201a4", func := "distributary/distributarylaw02.MixLists", spec := "mixLists", apart := false, narrowed := true }
def MixListsUptoSaid : Prop := mixListsUptoRow.holds Try.pinned (OpenSpec.upto mixListsSpec)

/-- 'distributarylaw02.MixBelows', WHERE WHAT IT READS IS OF BULK AT MOST 1048576: true; the input reads as it did. -/
def mixBelowsUptoRow : OpenClaim := { program := "ytlipemjidjjenaa", sum := "9ea408102a4e7d0d398ed537a505677e2458ad0c753187694c8e7dbab17201a4", func := "distributary/distributarylaw02.MixBelows", spec := "mixBelows", apart := false, narrowed := true }
def MixBelowsUptoSaid : Prop := mixBelowsUptoRow.holds Try.pinned (OpenSpec.upto mixBelowsSpec)

/-- 'distributarylaw02.MixGens', WHERE WHAT IT READS IS OF BULK AT MOST 1048576: true; the input reads as it did. -/
def mixGensUptoRow : OpenClaim := { program := "ytlipemjidjjenaa", sum := "9ea408102a4e7d0d398ed537a505677e2458ad0c753187694c8e7dbab17201a4", func := "distributary/distributarylaw02.MixGens", spec := "mixGens", apart := false, narrowed := true }
def MixGensUptoSaid : Prop := mixGensUptoRow.holds Try.pinned (OpenSpec.upto mixGensSpec)

/-- 'distributarylaw03.LogsNumbers', WHERE WHAT IT READS IS OF BULK AT MOST 1048576: true; the input reads as it did. -/
def logsNumbersUptoRow : OpenClaim := { program := "ytlipemjidjjenaa", sum := "9ea408102a4e7d0d398ed537a505677e2458ad0c753187694c8e7dbab17201a4", func := "distributary/distributarylaw03.LogsNumbers", spec := "logsNumbers", apart := false, narrowed := true }
def LogsNumbersUptoSaid : Prop := logsNumbersUptoRow.holds Try.pinned (OpenSpec.upto logsNumbersSpec)

/-- 'distributarylaw03.LogsRise', WHERE WHAT IT READS IS OF BULK AT MOST 1048576: true; the input reads as it did. -/
def logsRiseUptoRow : OpenClaim := { program := "ytlipemjidjjenaa", sum := "9ea408102a4e7d0d398ed537a505677e2458ad0c753187694c8e7dbab17201a4", func := "distributary/distributarylaw03.LogsRise", spec := "logsRise", apart := false, narrowed := true }
def LogsRiseUptoSaid : Prop := logsRiseUptoRow.holds Try.pinned (OpenSpec.upto logsRiseSpec)

/-- 'distributarylaw04.SumBytes', WHERE WHAT IT READS IS OF BULK AT MOST 1048576: true; the input reads as it did. -/
def sumBytesUptoRow : OpenClaim := { program := "ytlipemjidjjenaa", sum := "9ea408102a4e7d0d398ed537a505677e2458ad0c753187694c8e7dbab17201a4", func := "distributary/distributarylaw04.SumBytes", spec := "sumBytes", apart := false, narrowed := true }
def SumBytesUptoSaid : Prop := sumBytesUptoRow.holds Try.pinned (OpenSpec.upto sumBytesSpec)

/-- 'distributarylaw04.SumTurns', WHERE WHAT IT READS IS OF BULK AT MOST 1048576: true; the input reads as it did. -/
def sumTurnsUptoRow : OpenClaim := { program := "ytlipemjidjjenaa", sum := "9ea408102a4e7d0d398ed537a505677e2458ad0c753187694c8e7dbab17201a4", func := "distributary/distributarylaw04.SumTurns", spec := "sumTurns", apart := false, narrowed := true }
def SumTurnsUptoSaid : Prop := sumTurnsUptoRow.holds Try.pinned (OpenSpec.upto sumTurnsSpec)

/-- 'distributarylaw04.SumStays', WHERE WHAT IT READS IS OF BULK AT MOST 1048576: true; the input reads as it did. -/
def sumStaysUptoRow : OpenClaim := { program := "ytlipemjidjjenaa", sum := "9ea408102a4e7d0d398ed537a505677e2458ad0c753187694c8e7dbab17201a4", func := "distributary/distributarylaw04.SumStays", spec := "sumStays", apart := false, narrowed := true }
def SumStaysUptoSaid : Prop := sumStaysUptoRow.holds Try.pinned (OpenSpec.upto sumStaysSpec)

/-- 'distributarylaw04.SumAdds', WHERE WHAT IT READS IS OF BULK AT MOST 1048576: true; the input reads as it did. -/
def sumAddsUptoRow : OpenClaim := { program := "ytlipemjidjjenaa", sum := "9ea408102a4e7d0d398ed537a505677e2458ad0c753187694c8e7dbab17201a4", func := "distributary/distributarylaw04.SumAdds", spec := "sumAdds", apart := false, narrowed := true }
def SumAddsUptoSaid : Prop := sumAddsUptoRow.holds Try.pinned (OpenSpec.upto sumAddsSpec)

end Rows
end Go.Proofs.Ytlipemjidjjenaa
