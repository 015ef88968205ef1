/-
  No cell of these rows narrows 'for every input' (looked for: loops, veiled, ifaces, maps, wideKeys, modest, calm, conditions, laid).
  DERIVED. THE GIVEN ROWS OF THIS SEAT. 3 by the template 'for every input the law returns true; each argument reads behind the call as it read before'; 0 by the template 'total and deterministic' (their statements: YtmchedjeohhpcaaTotals.lean).
  GIVEN WITH THE SEED: the statements are not yours to turn. If you find one false, say at which input.
  Laid BY PROGRAM, IN A SANDBOX (cutbox-rows.mjs): the forced cells as the released guide's own fill.sh prints them over the translation 2c62d526334b9ce4… (all of the seat's roots in one cut). By AI agents, Wed Nov 11 2026. No macro, syntax, notation, axiom, sorry.
-/
import Derived.Test.YtmchedjeohhpcaaChecked
import GoSem.Claim
import GoSem.ClaimJoined
import GoSem.ClaimMapViews
import Derived.JoinedTies
import Derived.KernelRfl
namespace Go.Proofs.Ytmchedjeohhpcaa
/- THE CELL 'sum', in the pinned program and in every row, IS THE sha256 OF THE DUMP (.gsa) THAT YtmchedjeohhpcaaProg.lean LOADS. Nothing in Lean hashes anything: it is a label: what it is worth is what the hold of that sum in a sandbox is worth. -/
noncomputable def Try.pinned : Pinned := { name := "ytmchedjeohhpcaa", sum := "2c62d526334b9ce41049f742a3e59e0c9f65d2435a68ee0233421ffbf47afcb5", checked := Try.checked }
namespace Rows
def none {H : Type} : Left H := { results := [], args := [] }

/-- 'distributarylaw36.PcapPuts': WHATEVER THE INPUT: true; the input reads as it did. -/
def pcapPutsSpec : ChangeSpec := { name := "pcapPuts", fn := fun _ => fun
  | [d] => { results := [.lit (.bool true)], args := [d] }
  | _ => none }
def pcapPutsRow : OpenClaim := { program := "ytmchedjeohhpcaa", sum := "2c62d526334b9ce41049f742a3e59e0c9f65d2435a68ee0233421ffbf47afcb5", func := "distributary/distributarylaw36.PcapPuts", spec := "pcapPuts", unfollowed := true, recurses := true, apart := false }
def PcapPutsSaid : Prop := pcapPutsRow.holds Try.pinned (OpenSpec.ofChange pcapPutsSpec)

/-- ITS FALSE NEIGHBOUR: 'it returns false'. Refute it at one input. -/
def pcapPutsWrong : ChangeSpec := { name := "pcapPuts", fn := fun _ => fun
  | [d] => { results := [.lit (.bool false)], args := [d] }
  | _ => none }
def PcapPutsWrongFalsely : Prop := pcapPutsRow.holds Try.pinned (OpenSpec.ofChange pcapPutsWrong)

/-- 'distributarylaw36.PcapReads': WHATEVER THE INPUT: true; the input reads as it did. -/
def pcapReadsSpec : ChangeSpec := { name := "pcapReads", fn := fun _ => fun
  | [d] => { results := [.lit (.bool true)], args := [d] }
  | _ => none }
def pcapReadsRow : OpenClaim := { program := "ytmchedjeohhpcaa", sum := "2c62d526334b9ce41049f742a3e59e0c9f65d2435a68ee0233421ffbf47afcb5", func := "distributary/distributarylaw36.PcapReads", spec := "pcapReads", unfollowed := true, recurses := true, apart := false }
def PcapReadsSaid : Prop := pcapReadsRow.holds Try.pinned (OpenSpec.ofChange pcapReadsSpec)

/-- ITS FALSE NEIGHBOUR: 'it returns false'. Refute it at one input. -/
def pcapReadsWrong : ChangeSpec := { name := "pcapReads", fn := fun _ => fun
  | [d] => { results := [.lit (.bool false)], args := [d] }
  | _ => none }
def PcapReadsWrongFalsely : Prop := pcapReadsRow.holds Try.pinned (OpenSpec.ofChange pcapReadsWrong)

/-- 'distributarylaw36.PcapRanges': WHATEVER THE INPUT: true; the input reads as it did. -/
def pcapRangesSpec : ChangeSpec := { name := "pcapRanges", fn := fun _ => fun
  | [d] => { results := [.lit (.bool true)], args := [d] }
  | _ => none }
def pcapRangesRow : OpenClaim := { program := "ytmchedjeohhpcaa", sum := "2c62d526334b9ce41049f742a3e59e0c9f65d2435a68ee0233421ffbf47afcb5", func := "distributary/distributarylaw36.PcapRanges", spec := "pcapRanges", unfollowed := true, recurses := true, apart := false }
def PcapRangesSaid : Prop := pcapRangesRow.holds Try.pinned (OpenSpec.ofChange pcapRangesSpec)

/-- ITS FALSE NEIGHBOUR: 'it returns false'. Refute it at one input. -/
def pcapRangesWrong : ChangeSpec := { name := "pcapRanges", fn := fun _ => fun
  | [d] => { results := [.lit (.bool false)], args := [d] }
  | _ => none }
def PcapRangesWrongFalsely : Prop := pcapRangesRow.holds Try.pinned (OpenSpec.ofChange pcapRangesWrong)

/- THE SECOND FORM. 'bulk': how many values and letters a reading holds, each counted each time it is reached (what is shared counts as often as it is met; a slice's spare places count too). A statement '..UptoSaid' is the law's where the arguments, and the package variables that the reading takes, are together of bulk at most 1048576: NARROWER than '..Said'. Prove '..Said' where nothing that the law and all that it calls make is longer than what came in: it says more and counts as full. Else prove '..UptoSaid'. A law counts once. -/
mutual
def uptoBulk {H : Type} : DataW H → Nat
  | .lit (.string bytes) => bytes.length + 1
  | .lit _ => 1
  | .nil => 1
  | .ptr d => uptoBulk d + 1
  | .slice elems spare => uptoBulkAll elems + uptoBulkAll spare + 1
  | .agg parts => uptoBulkAll parts + 1
  | .iface _ d => uptoBulk d + 1
  | .map entries => uptoBulkEntries entries + 1
  | .held _ => 1
def uptoBulkAll {H : Type} : List (DataW H) → Nat
  | [] => 0
  | d :: r => uptoBulk d + uptoBulkAll r
def uptoBulkEntries {H : Type} : List (Lit × DataW H) → Nat
  | [] => 0
  | x :: r => uptoBulkEntry x + uptoBulkEntries r
def uptoBulkEntry {H : Type} : Lit × DataW H → Nat
  | (.string bytes, d) => bytes.length + uptoBulk d + 1
  | (_, d) => uptoBulk d + 1
 end
def uptoSmall : (H : Type) → List (DataW H) → Bool := fun _ ds => decide (uptoBulkAll ds ≤ 1048576)
def OpenSpec.upto (s : _root_.Go.ChangeSpec) : _root_.Go.OpenSpec := { _root_.Go.OpenSpec.ofChange s with cond := some uptoSmall }

/-- 'distributarylaw36.PcapPuts', WHERE WHAT IT READS IS OF BULK AT MOST 1048576: true; the input reads as it did. -/
def pcapPutsUptoRow : OpenClaim := { program := "ytmchedjeohhpcaa", sum := "2c62d526334b9ce41049f742a3e59e0c9f65d2435a68ee0233421ffbf47afcb5", func := "distributary/distributarylaw36.PcapPuts", spec := "pcapPuts", unfollowed := true, recurses := true, apart := false, narrowed := true }
def PcapPutsUptoSaid : Prop := pcapPutsUptoRow.holds Try.pinned (OpenSpec.upto pcapPutsSpec)

/-- 'distributarylaw36.PcapReads', WHERE WHAT IT READS IS OF BULK AT MOST 1048576: true; the input reads as it did. -/
def pcapReadsUptoRow : OpenClaim := { program := "ytmchedjeohhpcaa", sum := "2c62d526334b9ce41049f742a3e59e0c9f65d2435a68ee0233421ffbf47afcb5", func := "distributary/distributarylaw36.PcapReads", spec := "pcapReads", unfollowed := true, recurses := true, apart := false, narrowed := true }
def PcapReadsUptoSaid : Prop := pcapReadsUptoRow.holds Try.pinned (OpenSpec.upto pcapReadsSpec)

/-- 'distributarylaw36.PcapRanges', WHERE WHAT IT READS IS OF BULK AT MOST 1048576: true; the input reads as it did. -/
def pcapRangesUptoRow : OpenClaim := { program := "ytmchedjeohhpcaa", sum := "2c62d526334b9ce41049f742a3e59e0c9f65d2435a68ee0233421ffbf47afcb5", func := "distributary/distributarylaw36.PcapRanges", spec := "pcapRanges", unfollowed := true, recurses := true, apart := false, narrowed := true }
def PcapRangesUptoSaid : Prop := pcapRangesUptoRow.holds Try.pinned (OpenSpec.upto pcapRangesSpec)

end Rows
end Go.Proofs.Ytmchedjeohhpcaa
