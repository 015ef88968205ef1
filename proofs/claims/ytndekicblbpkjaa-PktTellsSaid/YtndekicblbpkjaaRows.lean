/-
  No cell of these rows narrows 'for every input' (looked for: loops, veiled, ifaces, maps, wideKeys, modest, calm, conditions, laid).
  DERIVED. THE GIVEN ROWS OF THIS SEAT. 7 by the template 'for every input the law returns true; each argument reads behind the call as it read before'; 0 by the template 'total and deterministic' (their statements: YtndekicblbpkjaaTotals.lean).
  GIVEN WITH THE SEED: the statements are not yours to turn. If you find one false, say at which input.
  Laid BY PROGRAM, IN A SANDBOX (cutbox-rows.mjs): the forced cells as the released guide's own fill.sh prints them over the translation f161c02e41925e4d… (all of the seat's roots in one cut). By AI agents, Wed Nov 11 2026. No macro, syntax, notation, axiom, sorry.
-/
import Derived.Test.YtndekicblbpkjaaChecked
import GoSem.Claim
import GoSem.ClaimJoined
import GoSem.ClaimMapViews
import Derived.JoinedTies
import Derived.KernelRfl
namespace Go.Proofs.Ytndekicblbpkjaa
/- THE CELL 'sum', in the pinned program and in every row, IS THE sha256 OF THE DUMP (.gsa) THAT YtndekicblbpkjaaProg.lean LOADS. Nothing in Lean hashes anything: it is a label: what it is worth is what the hold of that sum in a sandbox is worth. -/
noncomputable def Try.pinned : Pinned := { name := "ytndekicblbpkjaa", sum := "f161c02e41925e4dc5567b0e2ebedb007ce66ab13df8de59a4ac2abdb9293bcb", checked := Try.checked }
namespace Rows
def none {H : Type} : Left H := { results := [], args := [] }

/-- 'distributarylaw09.SixParses': WHATEVER THE INPUT: true; the input reads as it did. -/
def sixParsesSpec : ChangeSpec := { name := "sixParses", fn := fun _ => fun
  | [d] => { results := [.lit (.bool true)], args := [d] }
  | _ => none }
def sixParsesRow : OpenClaim := { program := "ytndekicblbpkjaa", sum := "f161c02e41925e4dc5567b0e2ebedb007ce66ab13df8de59a4ac2abdb9293bcb", func := "distributary/distributarylaw09.SixParses", spec := "sixParses", apart := false }
def SixParsesSaid : Prop := sixParsesRow.holds Try.pinned (OpenSpec.ofChange sixParsesSpec)

/-- ITS FALSE NEIGHBOUR: 'it returns false'. Refute it at one input. -/
def sixParsesWrong : ChangeSpec := { name := "sixParses", fn := fun _ => fun
  | [d] => { results := [.lit (.bool false)], args := [d] }
  | _ => none }
def SixParsesWrongFalsely : Prop := sixParsesRow.holds Try.pinned (OpenSpec.ofChange sixParsesWrong)

/-- 'distributarylaw09.SixPuts': WHATEVER THE INPUT: true; the input reads as it did. -/
def sixPutsSpec : ChangeSpec := { name := "sixPuts", fn := fun _ => fun
  | [d1, d2, d3] => { results := [.lit (.bool true)], args := [d1, d2, d3] }
  | _ => none }
def sixPutsRow : OpenClaim := { program := "ytndekicblbpkjaa", sum := "f161c02e41925e4dc5567b0e2ebedb007ce66ab13df8de59a4ac2abdb9293bcb", func := "distributary/distributarylaw09.SixPuts", spec := "sixPuts", apart := false }
def SixPutsSaid : Prop := sixPutsRow.holds Try.pinned (OpenSpec.ofChange sixPutsSpec)

/-- ITS FALSE NEIGHBOUR: 'it returns false'. Refute it at one input. -/
def sixPutsWrong : ChangeSpec := { name := "sixPuts", fn := fun _ => fun
  | [d1, d2, d3] => { results := [.lit (.bool false)], args := [d1, d2, d3] }
  | _ => none }
def SixPutsWrongFalsely : Prop := sixPutsRow.holds Try.pinned (OpenSpec.ofChange sixPutsWrong)

/-- 'distributarylaw12.IcmpQuotes': WHATEVER THE INPUT: true; the input reads as it did. -/
def icmpQuotesSpec : ChangeSpec := { name := "icmpQuotes", fn := fun _ => fun
  | [d1, d2] => { results := [.lit (.bool true)], args := [d1, d2] }
  | _ => none }
def icmpQuotesRow : OpenClaim := { program := "ytndekicblbpkjaa", sum := "f161c02e41925e4dc5567b0e2ebedb007ce66ab13df8de59a4ac2abdb9293bcb", func := "distributary/distributarylaw12.IcmpQuotes", spec := "icmpQuotes", unfollowed := true, recurses := true, apart := false }
def IcmpQuotesSaid : Prop := icmpQuotesRow.holds Try.pinned (OpenSpec.ofChange icmpQuotesSpec)

/-- ITS FALSE NEIGHBOUR: 'it returns false'. Refute it at one input. -/
def icmpQuotesWrong : ChangeSpec := { name := "icmpQuotes", fn := fun _ => fun
  | [d1, d2] => { results := [.lit (.bool false)], args := [d1, d2] }
  | _ => none }
def IcmpQuotesWrongFalsely : Prop := icmpQuotesRow.holds Try.pinned (OpenSpec.ofChange icmpQuotesWrong)

/-- 'distributarylaw13.PktParses': WHATEVER THE INPUT: true; the input reads as it did. -/
def pktParsesSpec : ChangeSpec := { name := "pktParses", fn := fun _ => fun
  | [d] => { results := [.lit (.bool true)], args := [d] }
  | _ => none }
def pktParsesRow : OpenClaim := { program := "ytndekicblbpkjaa", sum := "f161c02e41925e4dc5567b0e2ebedb007ce66ab13df8de59a4ac2abdb9293bcb", func := "distributary/distributarylaw13.PktParses", spec := "pktParses", unfollowed := true, recurses := true, apart := false }
def PktParsesSaid : Prop := pktParsesRow.holds Try.pinned (OpenSpec.ofChange pktParsesSpec)

/-- ITS FALSE NEIGHBOUR: 'it returns false'. Refute it at one input. -/
def pktParsesWrong : ChangeSpec := { name := "pktParses", fn := fun _ => fun
  | [d] => { results := [.lit (.bool false)], args := [d] }
  | _ => none }
def PktParsesWrongFalsely : Prop := pktParsesRow.holds Try.pinned (OpenSpec.ofChange pktParsesWrong)

/-- 'distributarylaw13.PktMakes': WHATEVER THE INPUT: true; the input reads as it did. -/
def pktMakesSpec : ChangeSpec := { name := "pktMakes", fn := fun _ => fun
  | [d1, d2, d3, d4] => { results := [.lit (.bool true)], args := [d1, d2, d3, d4] }
  | _ => none }
def pktMakesRow : OpenClaim := { program := "ytndekicblbpkjaa", sum := "f161c02e41925e4dc5567b0e2ebedb007ce66ab13df8de59a4ac2abdb9293bcb", func := "distributary/distributarylaw13.PktMakes", spec := "pktMakes", unfollowed := true, recurses := true, apart := false }
def PktMakesSaid : Prop := pktMakesRow.holds Try.pinned (OpenSpec.ofChange pktMakesSpec)

/-- ITS FALSE NEIGHBOUR: 'it returns false'. Refute it at one input. -/
def pktMakesWrong : ChangeSpec := { name := "pktMakes", fn := fun _ => fun
  | [d1, d2, d3, d4] => { results := [.lit (.bool false)], args := [d1, d2, d3, d4] }
  | _ => none }
def PktMakesWrongFalsely : Prop := pktMakesRow.holds Try.pinned (OpenSpec.ofChange pktMakesWrong)

/-- 'distributarylaw13.PktTells': WHATEVER THE INPUT: true; the input reads as it did. -/
def pktTellsSpec : ChangeSpec := { name := "pktTells", fn := fun _ => fun
  | [d1, d2, d3, d4, d5] => { results := [.lit (.bool true)], args := [d1, d2, d3, d4, d5] }
  | _ => none }
def pktTellsRow : OpenClaim := { program := "ytndekicblbpkjaa", sum := "f161c02e41925e4dc5567b0e2ebedb007ce66ab13df8de59a4ac2abdb9293bcb", func := "distributary/distributarylaw13.PktTells", spec := "pktTells", unfollowed := true, recurses := true, apart := false }
def PktTellsSaid : Prop := pktTellsRow.holds Try.pinned (OpenSpec.ofChange pktTellsSpec)

/-- ITS FALSE NEIGHBOUR: 'it returns false'. Refute it at one input. -/
def pktTellsWrong : ChangeSpec := { name := "pktTells", fn := fun _ => fun
  | [d1, d2, d3, d4, d5] => { results := [.lit (.bool false)], args := [d1, d2, d3, d4, d5] }
  | _ => none }
def PktTellsWrongFalsely : Prop := pktTellsRow.holds Try.pinned (OpenSpec.ofChange pktTellsWrong)

/-- 'distributarylaw13.PktBig': WHATEVER THE INPUT: true; the input reads as it did. -/
def pktBigSpec : ChangeSpec := { name := "pktBig", fn := fun _ => fun
  | [d] => { results := [.lit (.bool true)], args := [d] }
  | _ => none }
def pktBigRow : OpenClaim := { program := "ytndekicblbpkjaa", sum := "f161c02e41925e4dc5567b0e2ebedb007ce66ab13df8de59a4ac2abdb9293bcb", func := "distributary/distributarylaw13.PktBig", spec := "pktBig", unfollowed := true, recurses := true, apart := false }
def PktBigSaid : Prop := pktBigRow.holds Try.pinned (OpenSpec.ofChange pktBigSpec)

/-- ITS FALSE NEIGHBOUR: 'it returns false'. Refute it at one input. -/
def pktBigWrong : ChangeSpec := { name := "pktBig", fn := fun _ => fun
  | [d] => { results := [.lit (.bool false)], args := [d] }
  | _ => none }
def PktBigWrongFalsely : Prop := pktBigRow.holds Try.pinned (OpenSpec.ofChange pktBigWrong)

/- THE SECOND FORM. 'bulk': how many values and letters a reading holds, each counted each time it is reached (what is shared counts as often as it is met; a slice's spare places count too). A statement '..UptoSaid' is the law's where the arguments, and the package variables that the reading takes, are together of bulk at most 1048576: NARROWER than '..Said'. Prove '..Said' where nothing that the law and all that it calls make is longer than what came in: it says more and counts as full. Else prove '..UptoSaid'. A law counts once. -/
mutual
def uptoBulk {H : Type} : DataW H → Nat
  | .lit (.string bytes) => bytes.length + 1
  | .lit _ => 1
  | .nil => 1
  | .ptr d => uptoBulk d + 1
  | .slice elems spare => uptoBulkAll elems + uptoBulkAll spare + 1
  | .agg parts => uptoBulkAll parts + 1
  | .iface _ d => uptoBulk d + 1
  | .map entries => uptoBulkEntries entries + 1
  | .held _ => 1
def uptoBulkAll {H : Type} : List (DataW H) → Nat
  | [] => 0
  | d :: r => uptoBulk d + uptoBulkAll r
def uptoBulkEntries {H : Type} : List (Lit × DataW H) → Nat
  | [] => 0
  | x :: r => uptoBulkEntry x + uptoBulkEntries r
def uptoBulkEntry {H : Type} : Lit × DataW H → Nat
  | (.string bytes, d) => bytes.length + uptoBulk d + 1
  | (_, d) => uptoBulk d + 1
 end
def uptoSmall : (H : Type) → List (DataW H) → Bool := fun _ ds => decide (uptoBulkAll ds ≤ 1048576)
def OpenSpec.upto (s : _root_.Go.ChangeSpec) : _root_.Go.OpenSpec := { _root_.Go.OpenSpec.ofChange s with cond := some uptoSmall }

/-- 'distributarylaw09.SixParses', WHERE WHAT IT READS IS OF BULK AT MOST 1048576: true; the input reads as it did. -/
def sixParsesUptoRow : OpenClaim := { program := "ytndekicblbpkjaa", sum := "f161c02e41925e4dc5567b0e2ebedb007ce66ab13df8de59a4ac2abdb9293bcb", func := "distributary/distributarylaw09.SixParses", spec := "sixParses", apart := false, narrowed := true }
def SixParsesUptoSaid : Prop := sixParsesUptoRow.holds Try.pinned (OpenSpec.upto sixParsesSpec)

/-- 'distributarylaw09.SixPuts', WHERE WHAT IT READS IS OF BULK AT MOST 1048576: true; the input reads as it did. -/
def sixPutsUptoRow : OpenClaim := { program := "ytndekicblbpkjaa", sum := "f161c02e41925e4dc5567b0e2ebedb007ce66ab13df8de59a4ac2abdb9293bcb", func := "distributary/distributarylaw09.SixPuts", spec := "sixPuts", apart := false, narrowed := true }
def SixPutsUptoSaid : Prop := sixPutsUptoRow.holds Try.pinned (OpenSpec.upto sixPutsSpec)

/-- 'distributarylaw12.IcmpQuotes', WHERE WHAT IT READS IS OF BULK AT MOST 1048576: true; the input reads as it did. -/
def icmpQuotesUptoRow : OpenClaim := { program := "ytndekicblbpkjaa", sum := "f161c02e41925e4dc5567b0e2ebedb007ce66ab13df8de59a4ac2abdb9293bcb", func := "distributary/distributarylaw12.IcmpQuotes", spec := "icmpQuotes", unfollowed := true, recurses := true, apart := false, narrowed := true }
def IcmpQuotesUptoSaid : Prop := icmpQuotesUptoRow.holds Try.pinned (OpenSpec.upto icmpQuotesSpec)

/-- 'distributarylaw13.PktParses', WHERE WHAT IT READS IS OF BULK AT MOST 1048576: true; the input reads as it did. -/
def pktParsesUptoRow : OpenClaim := { program := "ytndekicblbpkjaa", sum := "f161c02e41925e4dc5567b0e2ebedb007ce66ab13df8de59a4ac2abdb9293bcb", func := "distributary/distributarylaw13.PktParses", spec := "pktParses", unfollowed := true, recurses := true, apart := false, narrowed := true }
def PktParsesUptoSaid : Prop := pktParsesUptoRow.holds Try.pinned (OpenSpec.upto pktParsesSpec)

/-- 'distributarylaw13.PktMakes', WHERE WHAT IT READS IS OF BULK AT MOST 1048576: true; the input reads as it did. -/
def pktMakesUptoRow : OpenClaim := { program := "ytndekicblbpkjaa", sum := "f161c02e41925e4dc5567b0e2ebedb007ce66ab13df8de59a4ac2abdb9293bcb", func := "distributary/distributarylaw13.PktMakes", spec := "pktMakes", unfollowed := true, recurses := true, apart := false, narrowed := true }
def PktMakesUptoSaid : Prop := pktMakesUptoRow.holds Try.pinned (OpenSpec.upto pktMakesSpec)

/-- 'distributarylaw13.PktTells', WHERE WHAT IT READS IS OF BULK AT MOST 1048576: true; the input reads as it did. -/
def pktTellsUptoRow : OpenClaim := { program := "ytndekicblbpkjaa", sum := "f161c02e41925e4dc5567b0e2ebedb007ce66ab13df8de59a4ac2abdb9293bcb", func := "distributary/distributarylaw13.PktTells", spec := "pktTells", unfollowed := true, recurses := true, apart := false, narrowed := true }
def PktTellsUptoSaid : Prop := pktTellsUptoRow.holds Try.pinned (OpenSpec.upto pktTellsSpec)

/-- 'distributarylaw13.PktBig', WHERE WHAT IT READS IS OF BULK AT MOST 1048576: true; the input reads as it did. -/
def pktBigUptoRow : OpenClaim := { program := "ytndekicblbpkjaa", sum := "f161c02e41925e4dc5567b0e2ebedb007ce66ab13df8de59a4ac2abdb9293bcb", func := "distributary/distributarylaw13.PktBig", spec := "pktBig", unfollowed := true, recurses := true, apart := false, narrowed := true }
def PktBigUptoSaid : Prop := pktBigUptoRow.holds Try.pinned (OpenSpec.upto pktBigSpec)

end Rows
end Go.Proofs.Ytndekicblbpkjaa
