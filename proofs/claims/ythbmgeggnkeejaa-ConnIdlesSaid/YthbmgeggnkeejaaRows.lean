/-
  No cell of these rows narrows 'for every input' (looked for: loops, veiled, ifaces, maps, wideKeys, modest, calm, conditions, laid).
  DERIVED. THE GIVEN ROWS OF THIS SEAT. 12 by the template 'for every input the law returns true; each argument reads behind the call as it read before'; 0 by the template 'total and deterministic' (their statements: YthbmgeggnkeejaaTotals.lean).
  GIVEN WITH THE SEED: the statements are not yours to turn. If you find one false, say at which input.
  Laid BY PROGRAM, IN A SANDBOX (cutbox-rows.mjs): the forced cells as the released guide's own fill.sh prints them over the translation 50d53e79a82e8b2a… (all of the seat's roots in one cut). By AI agents, Wed Nov 11 2026. No macro, syntax, notation, axiom, sorry.
-/
import Derived.Test.YthbmgeggnkeejaaChecked
import GoSem.Claim
import GoSem.ClaimJoined
import GoSem.ClaimMapViews
import Derived.JoinedTies
import Derived.KernelRfl
namespace Go.Proofs.Ythbmgeggnkeejaa
/- THE CELL 'sum', in the pinned program and in every row, IS THE sha256 OF THE DUMP (.gsa) THAT YthbmgeggnkeejaaProg.lean LOADS. Nothing in Lean hashes anything: it is a label: what it is worth is what the hold of that sum in a sandbox is worth. -/
noncomputable def Try.pinned : Pinned := { name := "ythbmgeggnkeejaa", sum := "50d53e79a82e8b2a6b3d31c1aa5210f4132d8d97596585bc939d36f42ac802a5", checked := Try.checked }
namespace Rows
def none {H : Type} : Left H := { results := [], args := [] }

/-- 'distributarylaw07.OctetPuts': WHATEVER THE INPUT: true; the input reads as it did. -/
def octetPutsSpec : ChangeSpec := { name := "octetPuts", fn := fun _ => fun
  | [d1, d2, d3] => { results := [.lit (.bool true)], args := [d1, d2, d3] }
  | _ => none }
def octetPutsRow : OpenClaim := { program := "ythbmgeggnkeejaa", sum := "50d53e79a82e8b2a6b3d31c1aa5210f4132d8d97596585bc939d36f42ac802a5", func := "distributary/distributarylaw07.OctetPuts", spec := "octetPuts", apart := false }
def OctetPutsSaid : Prop := octetPutsRow.holds Try.pinned (OpenSpec.ofChange octetPutsSpec)

/-- ITS FALSE NEIGHBOUR: 'it returns false'. Refute it at one input. -/
def octetPutsWrong : ChangeSpec := { name := "octetPuts", fn := fun _ => fun
  | [d1, d2, d3] => { results := [.lit (.bool false)], args := [d1, d2, d3] }
  | _ => none }
def OctetPutsWrongFalsely : Prop := octetPutsRow.holds Try.pinned (OpenSpec.ofChange octetPutsWrong)

/-- 'distributarylaw07.OctetSets': WHATEVER THE INPUT: true; the input reads as it did. -/
def octetSetsSpec : ChangeSpec := { name := "octetSets", fn := fun _ => fun
  | [d1, d2, d3, d4] => { results := [.lit (.bool true)], args := [d1, d2, d3, d4] }
  | _ => none }
def octetSetsRow : OpenClaim := { program := "ythbmgeggnkeejaa", sum := "50d53e79a82e8b2a6b3d31c1aa5210f4132d8d97596585bc939d36f42ac802a5", func := "distributary/distributarylaw07.OctetSets", spec := "octetSets", apart := false }
def OctetSetsSaid : Prop := octetSetsRow.holds Try.pinned (OpenSpec.ofChange octetSetsSpec)

/-- ITS FALSE NEIGHBOUR: 'it returns false'. Refute it at one input. -/
def octetSetsWrong : ChangeSpec := { name := "octetSets", fn := fun _ => fun
  | [d1, d2, d3, d4] => { results := [.lit (.bool false)], args := [d1, d2, d3, d4] }
  | _ => none }
def OctetSetsWrongFalsely : Prop := octetSetsRow.holds Try.pinned (OpenSpec.ofChange octetSetsWrong)

/-- 'distributarylaw10.TcpFlags': WHATEVER THE INPUT: true; the input reads as it did. -/
def tcpFlagsSpec : ChangeSpec := { name := "tcpFlags", fn := fun _ => fun
  | [d1, d2] => { results := [.lit (.bool true)], args := [d1, d2] }
  | _ => none }
def tcpFlagsRow : OpenClaim := { program := "ythbmgeggnkeejaa", sum := "50d53e79a82e8b2a6b3d31c1aa5210f4132d8d97596585bc939d36f42ac802a5", func := "distributary/distributarylaw10.TcpFlags", spec := "tcpFlags", apart := false }
def TcpFlagsSaid : Prop := tcpFlagsRow.holds Try.pinned (OpenSpec.ofChange tcpFlagsSpec)

/-- ITS FALSE NEIGHBOUR: 'it returns false'. Refute it at one input. -/
def tcpFlagsWrong : ChangeSpec := { name := "tcpFlags", fn := fun _ => fun
  | [d1, d2] => { results := [.lit (.bool false)], args := [d1, d2] }
  | _ => none }
def TcpFlagsWrongFalsely : Prop := tcpFlagsRow.holds Try.pinned (OpenSpec.ofChange tcpFlagsWrong)

/-- 'distributarylaw12.IcmpBacks': WHATEVER THE INPUT: true; the input reads as it did. -/
def icmpBacksSpec : ChangeSpec := { name := "icmpBacks", fn := fun _ => fun
  | [d] => { results := [.lit (.bool true)], args := [d] }
  | _ => none }
def icmpBacksRow : OpenClaim := { program := "ythbmgeggnkeejaa", sum := "50d53e79a82e8b2a6b3d31c1aa5210f4132d8d97596585bc939d36f42ac802a5", func := "distributary/distributarylaw12.IcmpBacks", spec := "icmpBacks", apart := false }
def IcmpBacksSaid : Prop := icmpBacksRow.holds Try.pinned (OpenSpec.ofChange icmpBacksSpec)

/-- ITS FALSE NEIGHBOUR: 'it returns false'. Refute it at one input. -/
def icmpBacksWrong : ChangeSpec := { name := "icmpBacks", fn := fun _ => fun
  | [d] => { results := [.lit (.bool false)], args := [d] }
  | _ => none }
def IcmpBacksWrongFalsely : Prop := icmpBacksRow.holds Try.pinned (OpenSpec.ofChange icmpBacksWrong)

/-- 'distributarylaw28.ConnStates': WHATEVER THE INPUT: true; the input reads as it did. -/
def connStatesSpec : ChangeSpec := { name := "connStates", fn := fun _ => fun
  | [d1, d2, d3] => { results := [.lit (.bool true)], args := [d1, d2, d3] }
  | _ => none }
def connStatesRow : OpenClaim := { program := "ythbmgeggnkeejaa", sum := "50d53e79a82e8b2a6b3d31c1aa5210f4132d8d97596585bc939d36f42ac802a5", func := "distributary/distributarylaw28.ConnStates", spec := "connStates", apart := false }
def ConnStatesSaid : Prop := connStatesRow.holds Try.pinned (OpenSpec.ofChange connStatesSpec)

/-- ITS FALSE NEIGHBOUR: 'it returns false'. Refute it at one input. -/
def connStatesWrong : ChangeSpec := { name := "connStates", fn := fun _ => fun
  | [d1, d2, d3] => { results := [.lit (.bool false)], args := [d1, d2, d3] }
  | _ => none }
def ConnStatesWrongFalsely : Prop := connStatesRow.holds Try.pinned (OpenSpec.ofChange connStatesWrong)

/-- 'distributarylaw28.ConnRuns': WHATEVER THE INPUT: true; the input reads as it did. -/
def connRunsSpec : ChangeSpec := { name := "connRuns", fn := fun _ => fun
  | [d1, d2] => { results := [.lit (.bool true)], args := [d1, d2] }
  | _ => none }
def connRunsRow : OpenClaim := { program := "ythbmgeggnkeejaa", sum := "50d53e79a82e8b2a6b3d31c1aa5210f4132d8d97596585bc939d36f42ac802a5", func := "distributary/distributarylaw28.ConnRuns", spec := "connRuns", apart := false }
def ConnRunsSaid : Prop := connRunsRow.holds Try.pinned (OpenSpec.ofChange connRunsSpec)

/-- ITS FALSE NEIGHBOUR: 'it returns false'. Refute it at one input. -/
def connRunsWrong : ChangeSpec := { name := "connRuns", fn := fun _ => fun
  | [d1, d2] => { results := [.lit (.bool false)], args := [d1, d2] }
  | _ => none }
def ConnRunsWrongFalsely : Prop := connRunsRow.holds Try.pinned (OpenSpec.ofChange connRunsWrong)

/-- 'distributarylaw28.ConnIdles': WHATEVER THE INPUT: true; the input reads as it did. -/
def connIdlesSpec : ChangeSpec := { name := "connIdles", fn := fun _ => fun
  | [d1, d2] => { results := [.lit (.bool true)], args := [d1, d2] }
  | _ => none }
def connIdlesRow : OpenClaim := { program := "ythbmgeggnkeejaa", sum := "50d53e79a82e8b2a6b3d31c1aa5210f4132d8d97596585bc939d36f42ac802a5", func := "distributary/distributarylaw28.ConnIdles", spec := "connIdles", apart := false }
def ConnIdlesSaid : Prop := connIdlesRow.holds Try.pinned (OpenSpec.ofChange connIdlesSpec)

/-- ITS FALSE NEIGHBOUR: 'it returns false'. Refute it at one input. -/
def connIdlesWrong : ChangeSpec := { name := "connIdles", fn := fun _ => fun
  | [d1, d2] => { results := [.lit (.bool false)], args := [d1, d2] }
  | _ => none }
def ConnIdlesWrongFalsely : Prop := connIdlesRow.holds Try.pinned (OpenSpec.ofChange connIdlesWrong)

/-- 'distributarylaw31.CountPlays': WHATEVER THE INPUT: true; the input reads as it did. -/
def countPlaysSpec : ChangeSpec := { name := "countPlays", fn := fun _ => fun
  | [d1, d2] => { results := [.lit (.bool true)], args := [d1, d2] }
  | _ => none }
def countPlaysRow : OpenClaim := { program := "ythbmgeggnkeejaa", sum := "50d53e79a82e8b2a6b3d31c1aa5210f4132d8d97596585bc939d36f42ac802a5", func := "distributary/distributarylaw31.CountPlays", spec := "countPlays", inPlace := ["sync/atomic.AddInt64", "sync/atomic.SwapInt64", "sync/atomic.LoadInt64", "sync/atomic.CompareAndSwapInt64"], apart := false }
def CountPlaysSaid : Prop := countPlaysRow.holds Try.pinned (OpenSpec.ofChange countPlaysSpec)

/-- ITS FALSE NEIGHBOUR: 'it returns false'. Refute it at one input. -/
def countPlaysWrong : ChangeSpec := { name := "countPlays", fn := fun _ => fun
  | [d1, d2] => { results := [.lit (.bool false)], args := [d1, d2] }
  | _ => none }
def CountPlaysWrongFalsely : Prop := countPlaysRow.holds Try.pinned (OpenSpec.ofChange countPlaysWrong)

/-- 'distributarylaw31.CountLimits': WHATEVER THE INPUT: true; the input reads as it did. -/
def countLimitsSpec : ChangeSpec := { name := "countLimits", fn := fun _ => fun
  | [d1, d2] => { results := [.lit (.bool true)], args := [d1, d2] }
  | _ => none }
def countLimitsRow : OpenClaim := { program := "ythbmgeggnkeejaa", sum := "50d53e79a82e8b2a6b3d31c1aa5210f4132d8d97596585bc939d36f42ac802a5", func := "distributary/distributarylaw31.CountLimits", spec := "countLimits", inPlace := ["sync/atomic.LoadInt64", "sync/atomic.CompareAndSwapInt64"], apart := false }
def CountLimitsSaid : Prop := countLimitsRow.holds Try.pinned (OpenSpec.ofChange countLimitsSpec)

/-- ITS FALSE NEIGHBOUR: 'it returns false'. Refute it at one input. -/
def countLimitsWrong : ChangeSpec := { name := "countLimits", fn := fun _ => fun
  | [d1, d2] => { results := [.lit (.bool false)], args := [d1, d2] }
  | _ => none }
def CountLimitsWrongFalsely : Prop := countLimitsRow.holds Try.pinned (OpenSpec.ofChange countLimitsWrong)

/-- 'distributarylaw31.CountSums': WHATEVER THE INPUT: true; the input reads as it did. -/
def countSumsSpec : ChangeSpec := { name := "countSums", fn := fun _ => fun
  | [d1, d2, d3] => { results := [.lit (.bool true)], args := [d1, d2, d3] }
  | _ => none }
def countSumsRow : OpenClaim := { program := "ythbmgeggnkeejaa", sum := "50d53e79a82e8b2a6b3d31c1aa5210f4132d8d97596585bc939d36f42ac802a5", func := "distributary/distributarylaw31.CountSums", spec := "countSums", inPlace := ["sync/atomic.AddInt64", "sync/atomic.LoadInt64", "sync/atomic.SwapInt64", "sync/atomic.CompareAndSwapInt64"], apart := false }
def CountSumsSaid : Prop := countSumsRow.holds Try.pinned (OpenSpec.ofChange countSumsSpec)

/-- ITS FALSE NEIGHBOUR: 'it returns false'. Refute it at one input. -/
def countSumsWrong : ChangeSpec := { name := "countSums", fn := fun _ => fun
  | [d1, d2, d3] => { results := [.lit (.bool false)], args := [d1, d2, d3] }
  | _ => none }
def CountSumsWrongFalsely : Prop := countSumsRow.holds Try.pinned (OpenSpec.ofChange countSumsWrong)

/-- 'distributarylaw38.HistBuckets': WHATEVER THE INPUT: true; the input reads as it did. -/
def histBucketsSpec : ChangeSpec := { name := "histBuckets", fn := fun _ => fun
  | [d1, d2] => { results := [.lit (.bool true)], args := [d1, d2] }
  | _ => none }
def histBucketsRow : OpenClaim := { program := "ythbmgeggnkeejaa", sum := "50d53e79a82e8b2a6b3d31c1aa5210f4132d8d97596585bc939d36f42ac802a5", func := "distributary/distributarylaw38.HistBuckets", spec := "histBuckets", apart := false }
def HistBucketsSaid : Prop := histBucketsRow.holds Try.pinned (OpenSpec.ofChange histBucketsSpec)

/-- ITS FALSE NEIGHBOUR: 'it returns false'. Refute it at one input. -/
def histBucketsWrong : ChangeSpec := { name := "histBuckets", fn := fun _ => fun
  | [d1, d2] => { results := [.lit (.bool false)], args := [d1, d2] }
  | _ => none }
def HistBucketsWrongFalsely : Prop := histBucketsRow.holds Try.pinned (OpenSpec.ofChange histBucketsWrong)

/-- 'distributarylaw43.DiffNodes': WHATEVER THE INPUT: true; the input reads as it did. -/
def diffNodesSpec : ChangeSpec := { name := "diffNodes", fn := fun _ => fun
  | [d1, d2] => { results := [.lit (.bool true)], args := [d1, d2] }
  | _ => none }
def diffNodesRow : OpenClaim := { program := "ythbmgeggnkeejaa", sum := "50d53e79a82e8b2a6b3d31c1aa5210f4132d8d97596585bc939d36f42ac802a5", func := "distributary/distributarylaw43.DiffNodes", spec := "diffNodes", unfollowed := true, recurses := true, apart := false }
def DiffNodesSaid : Prop := diffNodesRow.holds Try.pinned (OpenSpec.ofChange diffNodesSpec)

/-- ITS FALSE NEIGHBOUR: 'it returns false'. Refute it at one input. -/
def diffNodesWrong : ChangeSpec := { name := "diffNodes", fn := fun _ => fun
  | [d1, d2] => { results := [.lit (.bool false)], args := [d1, d2] }
  | _ => none }
def DiffNodesWrongFalsely : Prop := diffNodesRow.holds Try.pinned (OpenSpec.ofChange diffNodesWrong)

/- THE SECOND FORM. 'bulk': how many values and letters a reading holds, each counted each time it is reached (what is shared counts as often as it is met; a slice's spare places count too). A statement '..UptoSaid' is the law's where the arguments, and the package variables that the reading takes, are together of bulk at most 1048576: NARROWER than '..Said'. Prove '..Said' where nothing that the law and all that it calls make is longer than what came in: it says more and counts as full. Else prove '..UptoSaid'. A law counts once. -/
mutual
def uptoBulk {H : Type} : DataW H → Nat
  | .lit (.string bytes) => bytes.length + 1
  | .lit _ => 1
  | .nil => 1
  | .ptr d => uptoBulk d + 1
  | .slice elems spare => uptoBulkAll elems + uptoBulkAll spare + 1
  | .agg parts => uptoBulkAll parts + 1
  | .iface _ d => uptoBulk d + 1
  | .map entries => uptoBulkEntries entries + 1
  | .held _ => 1
def uptoBulkAll {H : Type} : List (DataW H) → Nat
  | [] => 0
  | d :: r => uptoBulk d + uptoBulkAll r
def uptoBulkEntries {H : Type} : List (Lit × DataW H) → Nat
  | [] => 0
  | x :: r => uptoBulkEntry x + uptoBulkEntries r
def uptoBulkEntry {H : Type} : Lit × DataW H → Nat
  | (.string bytes, d) => bytes.length + uptoBulk d + 1
  | (_, d) => uptoBulk d + 1
 end
def uptoSmall : (H : Type) → List (DataW H) → Bool := fun _ ds => decide (uptoBulkAll ds ≤ 1048576)
def OpenSpec.upto (s : _root_.Go.ChangeSpec) : _root_.Go.OpenSpec := { _root_.Go.OpenSpec.ofChange s with cond := some uptoSmall }

/-- 'distributarylaw07.OctetPuts', WHERE WHAT IT READS IS OF BULK AT MOST 1048576: true; the input reads as it did. -/
def octetPutsUptoRow : OpenClaim := { program := "ythbmgeggnkeejaa", sum := "50d53e79a82e8b2a6b3d31c1aa5210f4132d8d97596585bc939d36f42ac802a5", func := "distributary/distributarylaw07.OctetPuts", spec := "octetPuts", apart := false, narrowed := true }
def OctetPutsUptoSaid : Prop := octetPutsUptoRow.holds Try.pinned (OpenSpec.upto octetPutsSpec)

/-- 'distributarylaw07.OctetSets', WHERE WHAT IT READS IS OF BULK AT MOST 1048576: true; the input reads as it did. -/
def octetSetsUptoRow : OpenClaim := { program := "ythbmgeggnkeejaa", sum := "50d53e79a82e8b2a6b3d31c1aa5210f4132d8d97596585bc939d36f42ac802a5", func := "distributary/distributarylaw07.OctetSets", spec := "octetSets", apart := false, narrowed := true }
def OctetSetsUptoSaid : Prop := octetSetsUptoRow.holds Try.pinned (OpenSpec.upto octetSetsSpec)

/-- 'distributarylaw10.TcpFlags', WHERE WHAT IT READS IS OF BULK AT MOST 1048576: true; the input reads as it did. -/
def tcpFlagsUptoRow : OpenClaim := { program := "ythbmgeggnkeejaa", sum := "50d53e79a82e8b2a6b3d31c1aa5210f4132d8d97596585bc939d36f42ac802a5", func := "distributary/distributarylaw10.TcpFlags", spec := "tcpFlags", apart := false, narrowed := true }
def TcpFlagsUptoSaid : Prop := tcpFlagsUptoRow.holds Try.pinned (OpenSpec.upto tcpFlagsSpec)

/-- 'distributarylaw12.IcmpBacks', WHERE WHAT IT READS IS OF BULK AT MOST 1048576: true; the input reads as it did. -/
def icmpBacksUptoRow : OpenClaim := { program := "ythbmgeggnkeejaa", sum := "50d53e79a82e8b2a6b3d31c1aa5210f4132d8d97596585bc939d36f42ac802a5", func := "distributary/distributarylaw12.IcmpBacks", spec := "icmpBacks", apart := false, narrowed := true }
def IcmpBacksUptoSaid : Prop := icmpBacksUptoRow.holds Try.pinned (OpenSpec.upto icmpBacksSpec)

/-- 'distributarylaw28.ConnStates', WHERE WHAT IT READS IS OF BULK AT MOST 1048576: true; the input reads as it did. -/
def connStatesUptoRow : OpenClaim := { program := "ythbmgeggnkeejaa", sum := "50d53e79a82e8b2a6b3d31c1aa5210f4132d8d97596585bc939d36f42ac802a5", func := "distributary/distributarylaw28.ConnStates", spec := "connStates", apart := false, narrowed := true }
def ConnStatesUptoSaid : Prop := connStatesUptoRow.holds Try.pinned (OpenSpec.upto connStatesSpec)

/-- 'distributarylaw28.ConnRuns', WHERE WHAT IT READS IS OF BULK AT MOST 1048576: true; the input reads as it did. -/
def connRunsUptoRow : OpenClaim := { program := "ythbmgeggnkeejaa", sum := "50d53e79a82e8b2a6b3d31c1aa5210f4132d8d97596585bc939d36f42ac802a5", func := "distributary/distributarylaw28.ConnRuns", spec := "connRuns", apart := false, narrowed := true }
def ConnRunsUptoSaid : Prop := connRunsUptoRow.holds Try.pinned (OpenSpec.upto connRunsSpec)

/-- 'distributarylaw28.ConnIdles', WHERE WHAT IT READS IS OF BULK AT MOST 1048576: true; the input reads as it did. -/
def connIdlesUptoRow : OpenClaim := { program := "ythbmgeggnkeejaa", sum := "50d53e79a82e8b2a6b3d31c1aa5210f4132d8d97596585bc939d36f42ac802a5", func := "distributary/distributarylaw28.ConnIdles", spec := "connIdles", apart := false, narrowed := true }
def ConnIdlesUptoSaid : Prop := connIdlesUptoRow.holds Try.pinned (OpenSpec.upto connIdlesSpec)

/-- 'distributarylaw31.CountPlays', WHERE WHAT IT READS IS OF BULK AT MOST 1048576: true; the input reads as it did. -/
def countPlaysUptoRow : OpenClaim := { program := "ythbmgeggnkeejaa", sum := "50d53e79a82e8b2a6b3d31c1aa5210f4132d8d97596585bc939d36f42ac802a5", func := "distributary/distributarylaw31.CountPlays", spec := "countPlays", inPlace := ["sync/atomic.AddInt64", "sync/atomic.SwapInt64", "sync/atomic.LoadInt64", "sync/atomic.CompareAndSwapInt64"], apart := false, narrowed := true }
def CountPlaysUptoSaid : Prop := countPlaysUptoRow.holds Try.pinned (OpenSpec.upto countPlaysSpec)

/-- 'distributarylaw31.CountLimits', WHERE WHAT IT READS IS OF BULK AT MOST 1048576: true; the input reads as it did. -/
def countLimitsUptoRow : OpenClaim := { program := "ythbmgeggnkeejaa", sum := "50d53e79a82e8b2a6b3d31c1aa5210f4132d8d97596585bc939d36f42ac802a5", func := "distributary/distributarylaw31.CountLimits", spec := "countLimits", inPlace := ["sync/atomic.LoadInt64", "sync/atomic.CompareAndSwapInt64"], apart := false, narrowed := true }
def CountLimitsUptoSaid : Prop := countLimitsUptoRow.holds Try.pinned (OpenSpec.upto countLimitsSpec)

/-- 'distributarylaw31.CountSums', WHERE WHAT IT READS IS OF BULK AT MOST 1048576: true; the input reads as it did. -/
def countSumsUptoRow : OpenClaim := { program := "ythbmgeggnkeejaa", sum := "50d53e79a82e8b2a6b3d31c1aa5210f4132d8d97596585bc939d36f42ac802a5", func := "distributary/distributarylaw31.CountSums", spec := "countSums", inPlace := ["sync/atomic.AddInt64", "sync/atomic.LoadInt64", "sync/atomic.SwapInt64", "sync/atomic.CompareAndSwapInt64"], apart := false, narrowed := true }
def CountSumsUptoSaid : Prop := countSumsUptoRow.holds Try.pinned (OpenSpec.upto countSumsSpec)

/-- 'distributarylaw38.HistBuckets', WHERE WHAT IT READS IS OF BULK AT MOST 1048576: true; the input reads as it did. -/
def histBucketsUptoRow : OpenClaim := { program := "ythbmgeggnkeejaa", sum := "50d53e79a82e8b2a6b3d31c1aa5210f4132d8d97596585bc939d36f42ac802a5", func := "distributary/distributarylaw38.HistBuckets", spec := "histBuckets", apart := false, narrowed := true }
def HistBucketsUptoSaid : Prop := histBucketsUptoRow.holds Try.pinned (OpenSpec.upto histBucketsSpec)

/-- 'distributarylaw43.DiffNodes', WHERE WHAT IT READS IS OF BULK AT MOST 1048576: true; the input reads as it did. -/
def diffNodesUptoRow : OpenClaim := { program := "ythbmgeggnkeejaa", sum := "50d53e79a82e8b2a6b3d31c1aa5210f4132d8d97596585bc939d36f42ac802a5", func := "distributary/distributarylaw43.DiffNodes", spec := "diffNodes", unfollowed := true, recurses := true, apart := false, narrowed := true }
def DiffNodesUptoSaid : Prop := diffNodesUptoRow.holds Try.pinned (OpenSpec.upto diffNodesSpec)

end Rows
end Go.Proofs.Ythbmgeggnkeejaa
