/-
  No cell of these rows narrows 'for every input' (looked for: loops, veiled, ifaces, maps, wideKeys, modest, calm, conditions, laid).
  DERIVED. THE GIVEN ROWS OF THIS SEAT. 8 by the template 'for every input the law returns true; each argument reads behind the call as it read before'; 0 by the template 'total and deterministic' (their statements: YtgikoljnmmnkkaaTotals.lean).
  GIVEN WITH THE SEED: the statements are not yours to turn. If you find one false, say at which input.
  Laid BY PROGRAM, IN A SANDBOX (cutbox-rows.mjs): the forced cells as the released guide's own fill.sh prints them over the translation 6ca6399869894aee… (all of the seat's roots in one cut). By AI agents, Wed Nov 11 2026. No macro, syntax, notation, axiom, sorry.
-/
import Derived.Test.YtgikoljnmmnkkaaChecked
import GoSem.Claim
import GoSem.ClaimJoined
import GoSem.ClaimMapViews
import Derived.JoinedTies
import Derived.KernelRfl
namespace Go.Proofs.Ytgikoljnmmnkkaa
/- THE CELL 'sum', in the pinned program and in every row, IS THE sha256 OF THE DUMP (.gsa) THAT YtgikoljnmmnkkaaProg.lean LOADS. Nothing in Lean hashes anything: it is a label: what it is worth is what the hold of that sum in a sandbox is worth. -/
noncomputable def Try.pinned : Pinned := { name := "ytgikoljnmmnkkaa", sum := "6ca6399869894aee3d9d4269ad883640a8a69349782234d08621711842525498", checked := Try.checked }
namespace Rows
def none {H : Type} : Left H := { results := [], args := [] }

/-- 'distributarylaw12.IcmpParses': WHATEVER THE INPUT: true; the input reads as it did. -/
def icmpParsesSpec : ChangeSpec := { name := "icmpParses", fn := fun _ => fun
  | [d1, d2] => { results := [.lit (.bool true)], args := [d1, d2] }
  | _ => none }
def icmpParsesRow : OpenClaim := { program := "ytgikoljnmmnkkaa", sum := "6ca6399869894aee3d9d4269ad883640a8a69349782234d08621711842525498", func := "distributary/distributarylaw12.IcmpParses", spec := "icmpParses", apart := false }
def IcmpParsesSaid : Prop := icmpParsesRow.holds Try.pinned (OpenSpec.ofChange icmpParsesSpec)

/-- ITS FALSE NEIGHBOUR: 'it returns false'. Refute it at one input. -/
def icmpParsesWrong : ChangeSpec := { name := "icmpParses", fn := fun _ => fun
  | [d1, d2] => { results := [.lit (.bool false)], args := [d1, d2] }
  | _ => none }
def IcmpParsesWrongFalsely : Prop := icmpParsesRow.holds Try.pinned (OpenSpec.ofChange icmpParsesWrong)

/-- 'distributarylaw12.IcmpPuts': WHATEVER THE INPUT: true; the input reads as it did. -/
def icmpPutsSpec : ChangeSpec := { name := "icmpPuts", fn := fun _ => fun
  | [d1, d2] => { results := [.lit (.bool true)], args := [d1, d2] }
  | _ => none }
def icmpPutsRow : OpenClaim := { program := "ytgikoljnmmnkkaa", sum := "6ca6399869894aee3d9d4269ad883640a8a69349782234d08621711842525498", func := "distributary/distributarylaw12.IcmpPuts", spec := "icmpPuts", apart := false }
def IcmpPutsSaid : Prop := icmpPutsRow.holds Try.pinned (OpenSpec.ofChange icmpPutsSpec)

/-- ITS FALSE NEIGHBOUR: 'it returns false'. Refute it at one input. -/
def icmpPutsWrong : ChangeSpec := { name := "icmpPuts", fn := fun _ => fun
  | [d1, d2] => { results := [.lit (.bool false)], args := [d1, d2] }
  | _ => none }
def IcmpPutsWrongFalsely : Prop := icmpPutsRow.holds Try.pinned (OpenSpec.ofChange icmpPutsWrong)

/-- 'distributarylaw12.IcmpQuotes': WHATEVER THE INPUT: true; the input reads as it did. -/
def icmpQuotesSpec : ChangeSpec := { name := "icmpQuotes", fn := fun _ => fun
  | [d1, d2] => { results := [.lit (.bool true)], args := [d1, d2] }
  | _ => none }
def icmpQuotesRow : OpenClaim := { program := "ytgikoljnmmnkkaa", sum := "6ca6399869894aee3d9d4269ad883640a8a69349782234d08621711842525498", func := "distributary/distributarylaw12.IcmpQuotes", spec := "icmpQuotes", unfollowed := true, recurses := true, apart := false }
def IcmpQuotesSaid : Prop := icmpQuotesRow.holds Try.pinned (OpenSpec.ofChange icmpQuotesSpec)

/-- ITS FALSE NEIGHBOUR: 'it returns false'. Refute it at one input. -/
def icmpQuotesWrong : ChangeSpec := { name := "icmpQuotes", fn := fun _ => fun
  | [d1, d2] => { results := [.lit (.bool false)], args := [d1, d2] }
  | _ => none }
def IcmpQuotesWrongFalsely : Prop := icmpQuotesRow.holds Try.pinned (OpenSpec.ofChange icmpQuotesWrong)

/-- 'distributarylaw08.FourParses': WHATEVER THE INPUT: true; the input reads as it did. -/
def fourParsesSpec : ChangeSpec := { name := "fourParses", fn := fun _ => fun
  | [d] => { results := [.lit (.bool true)], args := [d] }
  | _ => none }
def fourParsesRow : OpenClaim := { program := "ytgikoljnmmnkkaa", sum := "6ca6399869894aee3d9d4269ad883640a8a69349782234d08621711842525498", func := "distributary/distributarylaw08.FourParses", spec := "fourParses", apart := false }
def FourParsesSaid : Prop := fourParsesRow.holds Try.pinned (OpenSpec.ofChange fourParsesSpec)

/-- ITS FALSE NEIGHBOUR: 'it returns false'. Refute it at one input. -/
def fourParsesWrong : ChangeSpec := { name := "fourParses", fn := fun _ => fun
  | [d] => { results := [.lit (.bool false)], args := [d] }
  | _ => none }
def FourParsesWrongFalsely : Prop := fourParsesRow.holds Try.pinned (OpenSpec.ofChange fourParsesWrong)

/-- 'distributarylaw08.FourPuts': WHATEVER THE INPUT: true; the input reads as it did. -/
def fourPutsSpec : ChangeSpec := { name := "fourPuts", fn := fun _ => fun
  | [d1, d2, d3] => { results := [.lit (.bool true)], args := [d1, d2, d3] }
  | _ => none }
def fourPutsRow : OpenClaim := { program := "ytgikoljnmmnkkaa", sum := "6ca6399869894aee3d9d4269ad883640a8a69349782234d08621711842525498", func := "distributary/distributarylaw08.FourPuts", spec := "fourPuts", apart := false }
def FourPutsSaid : Prop := fourPutsRow.holds Try.pinned (OpenSpec.ofChange fourPutsSpec)

/-- ITS FALSE NEIGHBOUR: 'it returns false'. Refute it at one input. -/
def fourPutsWrong : ChangeSpec := { name := "fourPuts", fn := fun _ => fun
  | [d1, d2, d3] => { results := [.lit (.bool false)], args := [d1, d2, d3] }
  | _ => none }
def FourPutsWrongFalsely : Prop := fourPutsRow.holds Try.pinned (OpenSpec.ofChange fourPutsWrong)

/-- 'distributarylaw08.FourQuotes': WHATEVER THE INPUT: true; the input reads as it did. -/
def fourQuotesSpec : ChangeSpec := { name := "fourQuotes", fn := fun _ => fun
  | [d1, d2, d3, d4, d5] => { results := [.lit (.bool true)], args := [d1, d2, d3, d4, d5] }
  | _ => none }
def fourQuotesRow : OpenClaim := { program := "ytgikoljnmmnkkaa", sum := "6ca6399869894aee3d9d4269ad883640a8a69349782234d08621711842525498", func := "distributary/distributarylaw08.FourQuotes", spec := "fourQuotes", apart := false }
def FourQuotesSaid : Prop := fourQuotesRow.holds Try.pinned (OpenSpec.ofChange fourQuotesSpec)

/-- ITS FALSE NEIGHBOUR: 'it returns false'. Refute it at one input. -/
def fourQuotesWrong : ChangeSpec := { name := "fourQuotes", fn := fun _ => fun
  | [d1, d2, d3, d4, d5] => { results := [.lit (.bool false)], args := [d1, d2, d3, d4, d5] }
  | _ => none }
def FourQuotesWrongFalsely : Prop := fourQuotesRow.holds Try.pinned (OpenSpec.ofChange fourQuotesWrong)

/-- 'distributarylaw09.SixParses': WHATEVER THE INPUT: true; the input reads as it did. -/
def sixParsesSpec : ChangeSpec := { name := "sixParses", fn := fun _ => fun
  | [d] => { results := [.lit (.bool true)], args := [d] }
  | _ => none }
def sixParsesRow : OpenClaim := { program := "ytgikoljnmmnkkaa", sum := "6ca6399869894aee3d9d4269ad883640a8a69349782234d08621711842525498", func := "distributary/distributarylaw09.SixParses", spec := "sixParses", apart := false }
def SixParsesSaid : Prop := sixParsesRow.holds Try.pinned (OpenSpec.ofChange sixParsesSpec)

/-- ITS FALSE NEIGHBOUR: 'it returns false'. Refute it at one input. -/
def sixParsesWrong : ChangeSpec := { name := "sixParses", fn := fun _ => fun
  | [d] => { results := [.lit (.bool false)], args := [d] }
  | _ => none }
def SixParsesWrongFalsely : Prop := sixParsesRow.holds Try.pinned (OpenSpec.ofChange sixParsesWrong)

/-- 'distributarylaw09.SixPuts': WHATEVER THE INPUT: true; the input reads as it did. -/
def sixPutsSpec : ChangeSpec := { name := "sixPuts", fn := fun _ => fun
  | [d1, d2, d3] => { results := [.lit (.bool true)], args := [d1, d2, d3] }
  | _ => none }
def sixPutsRow : OpenClaim := { program := "ytgikoljnmmnkkaa", sum := "6ca6399869894aee3d9d4269ad883640a8a69349782234d08621711842525498", func := "distributary/distributarylaw09.SixPuts", spec := "sixPuts", apart := false }
def SixPutsSaid : Prop := sixPutsRow.holds Try.pinned (OpenSpec.ofChange sixPutsSpec)

/-- ITS FALSE NEIGHBOUR: 'it returns false'. Refute it at one input. -/
def sixPutsWrong : ChangeSpec := { name := "sixPuts", fn := fun _ => fun
  | [d1, d2, d3] => { results := [.lit (.bool false)], args := [d1, d2, d3] }
  | _ => none }
def SixPutsWrongFalsely : Prop := sixPutsRow.holds Try.pinned (OpenSpec.ofChange sixPutsWrong)

/- THE SECOND FORM. 'bulk': how many values and letters a reading holds, each counted each time it is reached (what is shared counts as often as it is met; a slice's spare places count too). A statement '..UptoSaid' is the law's where the arguments, and the package variables that the reading takes, are together of bulk at most 1048576: NARROWER than '..Said'. Prove '..Said' where nothing that the law and all that it calls make is longer than what came in: it says more and counts as full. Else prove '..UptoSaid'. A law counts once. -/
mutual
def uptoBulk {H : Type} : DataW H → Nat
  | .lit (.string bytes) => bytes.length + 1
  | .lit _ => 1
  | .nil => 1
  | .ptr d => uptoBulk d + 1
  | .slice elems spare => uptoBulkAll elems + uptoBulkAll spare + 1
  | .agg parts => uptoBulkAll parts + 1
  | .iface _ d => uptoBulk d + 1
  | .map entries => uptoBulkEntries entries + 1
  | .held _ => 1
def uptoBulkAll {H : Type} : List (DataW H) → Nat
  | [] => 0
  | d :: r => uptoBulk d + uptoBulkAll r
def uptoBulkEntries {H : Type} : List (Lit × DataW H) → Nat
  | [] => 0
  | x :: r => uptoBulkEntry x + uptoBulkEntries r
def uptoBulkEntry {H : Type} : Lit × DataW H → Nat
  | (.string bytes, d) => bytes.length + uptoBulk d + 1
  | (_, d) => uptoBulk d + 1
 end
def uptoSmall : (H : Type) → List (DataW H) → Bool := fun _ ds => decide (uptoBulkAll ds ≤ 1048576)
def OpenSpec.upto (s : _root_.Go.ChangeSpec) : _root_.Go.OpenSpec := { _root_.Go.OpenSpec.ofChange s with cond := some uptoSmall }

/-- 'distributarylaw12.IcmpParses', WHERE WHAT IT READS IS OF BULK AT MOST 1048576: true; the input reads as it did. -/
def icmpParsesUptoRow : OpenClaim := { program := "ytgikoljnmmnkkaa", sum := "6ca6399869894aee3d9d4269ad883640a8a69349782234d08621711842525498", func := "distributary/distributarylaw12.IcmpParses", spec := "icmpParses", apart := false, narrowed := true }
def IcmpParsesUptoSaid : Prop := icmpParsesUptoRow.holds Try.pinned (OpenSpec.upto icmpParsesSpec)

/-- 'distributarylaw12.IcmpPuts', WHERE WHAT IT READS IS OF BULK AT MOST 1048576: true; the input reads as it did. -/
def icmpPutsUptoRow : OpenClaim := { program := "ytgikoljnmmnkkaa", sum := "6ca6399869894aee3d9d4269ad883640a8a69349782234d08621711842525498", func := "distributary/distributarylaw12.IcmpPuts", spec := "icmpPuts", apart := false, narrowed := true }
def IcmpPutsUptoSaid : Prop := icmpPutsUptoRow.holds Try.pinned (OpenSpec.upto icmpPutsSpec)

/-- 'distributarylaw12.IcmpQuotes', WHERE WHAT IT READS IS OF BULK AT MOST 1048576: true; the input reads as it did. -/
def icmpQuotesUptoRow : OpenClaim := { program := "ytgikoljnmmnkkaa", sum := "6ca6399869894aee3d9d4269ad883640a8a69349782234d08621711842525498", func := "distributary/distributarylaw12.IcmpQuotes", spec := "icmpQuotes", unfollowed := true, recurses := true, apart := false, narrowed := true }
def IcmpQuotesUptoSaid : Prop := icmpQuotesUptoRow.holds Try.pinned (OpenSpec.upto icmpQuotesSpec)

/-- 'distributarylaw08.FourParses', WHERE WHAT IT READS IS OF BULK AT MOST 1048576: true; the input reads as it did. -/
def fourParsesUptoRow : OpenClaim := { program := "ytgikoljnmmnkkaa", sum := "6ca6399869894aee3d9d4269ad883640a8a69349782234d08621711842525498", func := "distributary/distributarylaw08.FourParses", spec := "fourParses", apart := false, narrowed := true }
def FourParsesUptoSaid : Prop := fourParsesUptoRow.holds Try.pinned (OpenSpec.upto fourParsesSpec)

/-- 'distributarylaw08.FourPuts', WHERE WHAT IT READS IS OF BULK AT MOST 1048576: true; the input reads as it did. -/
def fourPutsUptoRow : OpenClaim := { program := "ytgikoljnmmnkkaa", sum := "6ca6399869894aee3d9d4269ad883640a8a69349782234d08621711842525498", func := "distributary/distributarylaw08.FourPuts", spec := "fourPuts", apart := false, narrowed := true }
def FourPutsUptoSaid : Prop := fourPutsUptoRow.holds Try.pinned (OpenSpec.upto fourPutsSpec)

/-- 'distributarylaw08.FourQuotes', WHERE WHAT IT READS IS OF BULK AT MOST 1048576: true; the input reads as it did. -/
def fourQuotesUptoRow : OpenClaim := { program := "ytgikoljnmmnkkaa", sum := "6ca6399869894aee3d9d4269ad883640a8a69349782234d08621711842525498", func := "distributary/distributarylaw08.FourQuotes", spec := "fourQuotes", apart := false, narrowed := true }
def FourQuotesUptoSaid : Prop := fourQuotesUptoRow.holds Try.pinned (OpenSpec.upto fourQuotesSpec)

/-- 'distributarylaw09.SixParses', WHERE WHAT IT READS IS OF BULK AT MOST 1048576: true; the input reads as it did. -/
def sixParsesUptoRow : OpenClaim := { program := "ytgikoljnmmnkkaa", sum := "6ca6399869894aee3d9d4269ad883640a8a69349782234d08621711842525498", func := "distributary/distributarylaw09.SixParses", spec := "sixParses", apart := false, narrowed := true }
def SixParsesUptoSaid : Prop := sixParsesUptoRow.holds Try.pinned (OpenSpec.upto sixParsesSpec)

/-- 'distributarylaw09.SixPuts', WHERE WHAT IT READS IS OF BULK AT MOST 1048576: true; the input reads as it did. -/
def sixPutsUptoRow : OpenClaim := { program := "ytgikoljnmmnkkaa", sum := "6ca6399869894aee3d9d4269ad883640a8a69349782234d08621711842525498", func := "distributary/distributarylaw09.SixPuts", spec := "sixPuts", apart := false, narrowed := true }
def SixPutsUptoSaid : Prop := sixPutsUptoRow.holds Try.pinned (OpenSpec.upto sixPutsSpec)

end Rows
end Go.Proofs.Ytgikoljnmmnkkaa
