/-
  No cell of these rows narrows 'for every input' (looked for: loops, veiled, ifaces, maps, wideKeys, modest, calm, conditions, laid).
  DERIVED. THE GIVEN ROWS OF THIS SEAT. 7 by the template 'for every input the law returns true; each argument reads behind the call as it read before'; 0 by the template 'total and deterministic' (their statements: YtodckfgfbcnkoaaTotals.lean).
  GIVEN WITH THE SEED: the statements are not yours to turn. If you find one false, say at which input.
  Laid BY PROGRAM, IN A SANDBOX (cutbox-rows.mjs): the forced cells as the released guide's own fill.sh prints them over the translation 59c1e6f5c9c9c15a… (all of the seat's roots in one cut). By AI agents, Wed Nov 11 2026. No macro, syntax, notation, axiom, sorry.
-/
import Derived.Test.YtodckfgfbcnkoaaChecked
import GoSem.Claim
import GoSem.ClaimJoined
import GoSem.ClaimMapViews
import Derived.JoinedTies
import Derived.KernelRfl
namespace Go.Proofs.Ytodckfgfbcnkoaa
/- THE CELL 'sum', in the pinned program and in every row, IS THE sha256 OF THE DUMP (.gsa) THAT YtodckfgfbcnkoaaProg.lean LOADS. Nothing in Lean hashes anything: it is a label: what it is worth is what the hold of that sum in a sandbox is worth. -/
noncomputable def Try.pinned : Pinned := { name := "ytodckfgfbcnkoaa", sum := "59c1e6f5c9c9c15a7b71e083bdaf2bc93f5616b8f2cd26c98a5f5d8893552d3b", checked := Try.checked }
namespace Rows
def none {H : Type} : Left H := { results := [], args := [] }

/-- 'distributarylaw14.TunLess': WHATEVER THE INPUT: true; the input reads as it did. -/
def tunLessSpec : ChangeSpec := { name := "tunLess", fn := fun _ => fun
  | [d] => { results := [.lit (.bool true)], args := [d] }
  | _ => none }
def tunLessRow : OpenClaim := { program := "ytodckfgfbcnkoaa", sum := "59c1e6f5c9c9c15a7b71e083bdaf2bc93f5616b8f2cd26c98a5f5d8893552d3b", func := "distributary/distributarylaw14.TunLess", spec := "tunLess", unfollowed := true, recurses := true, apart := false }
def TunLessSaid : Prop := tunLessRow.holds Try.pinned (OpenSpec.ofChange tunLessSpec)

/-- ITS FALSE NEIGHBOUR: 'it returns false'. Refute it at one input. -/
def tunLessWrong : ChangeSpec := { name := "tunLess", fn := fun _ => fun
  | [d] => { results := [.lit (.bool false)], args := [d] }
  | _ => none }
def TunLessWrongFalsely : Prop := tunLessRow.holds Try.pinned (OpenSpec.ofChange tunLessWrong)

/-- 'distributarylaw14.TunWraps': WHATEVER THE INPUT: true; the input reads as it did. -/
def tunWrapsSpec : ChangeSpec := { name := "tunWraps", fn := fun _ => fun
  | [d1, d2, d3] => { results := [.lit (.bool true)], args := [d1, d2, d3] }
  | _ => none }
def tunWrapsRow : OpenClaim := { program := "ytodckfgfbcnkoaa", sum := "59c1e6f5c9c9c15a7b71e083bdaf2bc93f5616b8f2cd26c98a5f5d8893552d3b", func := "distributary/distributarylaw14.TunWraps", spec := "tunWraps", unfollowed := true, recurses := true, apart := false }
def TunWrapsSaid : Prop := tunWrapsRow.holds Try.pinned (OpenSpec.ofChange tunWrapsSpec)

/-- ITS FALSE NEIGHBOUR: 'it returns false'. Refute it at one input. -/
def tunWrapsWrong : ChangeSpec := { name := "tunWraps", fn := fun _ => fun
  | [d1, d2, d3] => { results := [.lit (.bool false)], args := [d1, d2, d3] }
  | _ => none }
def TunWrapsWrongFalsely : Prop := tunWrapsRow.holds Try.pinned (OpenSpec.ofChange tunWrapsWrong)

/-- 'distributarylaw14.TunOpens': WHATEVER THE INPUT: true; the input reads as it did. -/
def tunOpensSpec : ChangeSpec := { name := "tunOpens", fn := fun _ => fun
  | [d] => { results := [.lit (.bool true)], args := [d] }
  | _ => none }
def tunOpensRow : OpenClaim := { program := "ytodckfgfbcnkoaa", sum := "59c1e6f5c9c9c15a7b71e083bdaf2bc93f5616b8f2cd26c98a5f5d8893552d3b", func := "distributary/distributarylaw14.TunOpens", spec := "tunOpens", unfollowed := true, recurses := true, apart := false }
def TunOpensSaid : Prop := tunOpensRow.holds Try.pinned (OpenSpec.ofChange tunOpensSpec)

/-- ITS FALSE NEIGHBOUR: 'it returns false'. Refute it at one input. -/
def tunOpensWrong : ChangeSpec := { name := "tunOpens", fn := fun _ => fun
  | [d] => { results := [.lit (.bool false)], args := [d] }
  | _ => none }
def TunOpensWrongFalsely : Prop := tunOpensRow.holds Try.pinned (OpenSpec.ofChange tunOpensWrong)

/-- 'distributarylaw15.NatTurns': WHATEVER THE INPUT: true; the input reads as it did. -/
def natTurnsSpec : ChangeSpec := { name := "natTurns", fn := fun _ => fun
  | [d1, d2, d3, d4] => { results := [.lit (.bool true)], args := [d1, d2, d3, d4] }
  | _ => none }
def natTurnsRow : OpenClaim := { program := "ytodckfgfbcnkoaa", sum := "59c1e6f5c9c9c15a7b71e083bdaf2bc93f5616b8f2cd26c98a5f5d8893552d3b", func := "distributary/distributarylaw15.NatTurns", spec := "natTurns", unfollowed := true, recurses := true, apart := false }
def NatTurnsSaid : Prop := natTurnsRow.holds Try.pinned (OpenSpec.ofChange natTurnsSpec)

/-- ITS FALSE NEIGHBOUR: 'it returns false'. Refute it at one input. -/
def natTurnsWrong : ChangeSpec := { name := "natTurns", fn := fun _ => fun
  | [d1, d2, d3, d4] => { results := [.lit (.bool false)], args := [d1, d2, d3, d4] }
  | _ => none }
def NatTurnsWrongFalsely : Prop := natTurnsRow.holds Try.pinned (OpenSpec.ofChange natTurnsWrong)

/-- 'distributarylaw15.NatKeeps': WHATEVER THE INPUT: true; the input reads as it did. -/
def natKeepsSpec : ChangeSpec := { name := "natKeeps", fn := fun _ => fun
  | [d1, d2, d3, d4, d5, d6] => { results := [.lit (.bool true)], args := [d1, d2, d3, d4, d5, d6] }
  | _ => none }
def natKeepsRow : OpenClaim := { program := "ytodckfgfbcnkoaa", sum := "59c1e6f5c9c9c15a7b71e083bdaf2bc93f5616b8f2cd26c98a5f5d8893552d3b", func := "distributary/distributarylaw15.NatKeeps", spec := "natKeeps", unfollowed := true, recurses := true, apart := false }
def NatKeepsSaid : Prop := natKeepsRow.holds Try.pinned (OpenSpec.ofChange natKeepsSpec)

/-- ITS FALSE NEIGHBOUR: 'it returns false'. Refute it at one input. -/
def natKeepsWrong : ChangeSpec := { name := "natKeeps", fn := fun _ => fun
  | [d1, d2, d3, d4, d5, d6] => { results := [.lit (.bool false)], args := [d1, d2, d3, d4, d5, d6] }
  | _ => none }
def NatKeepsWrongFalsely : Prop := natKeepsRow.holds Try.pinned (OpenSpec.ofChange natKeepsWrong)

/-- 'distributarylaw15.NatFlows': WHATEVER THE INPUT: true; the input reads as it did. -/
def natFlowsSpec : ChangeSpec := { name := "natFlows", fn := fun _ => fun
  | [d1, d2, d3, d4] => { results := [.lit (.bool true)], args := [d1, d2, d3, d4] }
  | _ => none }
def natFlowsRow : OpenClaim := { program := "ytodckfgfbcnkoaa", sum := "59c1e6f5c9c9c15a7b71e083bdaf2bc93f5616b8f2cd26c98a5f5d8893552d3b", func := "distributary/distributarylaw15.NatFlows", spec := "natFlows", unfollowed := true, recurses := true, apart := false }
def NatFlowsSaid : Prop := natFlowsRow.holds Try.pinned (OpenSpec.ofChange natFlowsSpec)

/-- ITS FALSE NEIGHBOUR: 'it returns false'. Refute it at one input. -/
def natFlowsWrong : ChangeSpec := { name := "natFlows", fn := fun _ => fun
  | [d1, d2, d3, d4] => { results := [.lit (.bool false)], args := [d1, d2, d3, d4] }
  | _ => none }
def NatFlowsWrongFalsely : Prop := natFlowsRow.holds Try.pinned (OpenSpec.ofChange natFlowsWrong)

/-- 'distributarylaw15.NatBare': WHATEVER THE INPUT: true; the input reads as it did. -/
def natBareSpec : ChangeSpec := { name := "natBare", fn := fun _ => fun
  | [d1, d2, d3, d4] => { results := [.lit (.bool true)], args := [d1, d2, d3, d4] }
  | _ => none }
def natBareRow : OpenClaim := { program := "ytodckfgfbcnkoaa", sum := "59c1e6f5c9c9c15a7b71e083bdaf2bc93f5616b8f2cd26c98a5f5d8893552d3b", func := "distributary/distributarylaw15.NatBare", spec := "natBare", unfollowed := true, recurses := true, apart := false }
def NatBareSaid : Prop := natBareRow.holds Try.pinned (OpenSpec.ofChange natBareSpec)

/-- ITS FALSE NEIGHBOUR: 'it returns false'. Refute it at one input. -/
def natBareWrong : ChangeSpec := { name := "natBare", fn := fun _ => fun
  | [d1, d2, d3, d4] => { results := [.lit (.bool false)], args := [d1, d2, d3, d4] }
  | _ => none }
def NatBareWrongFalsely : Prop := natBareRow.holds Try.pinned (OpenSpec.ofChange natBareWrong)

/- THE SECOND FORM. 'bulk': how many values and letters a reading holds, each counted each time it is reached (what is shared counts as often as it is met; a slice's spare places count too). A statement '..UptoSaid' is the law's where the arguments, and the package variables that the reading takes, are together of bulk at most 1048576: NARROWER than '..Said'. Prove '..Said' where nothing that the law and all that it calls make is longer than what came in: it says more and counts as full. Else prove '..UptoSaid'. A law counts once. -/
mutual
def uptoBulk {H : Type} : DataW H → Nat
  | .lit (.string bytes) => bytes.length + 1
  | .lit _ => 1
  | .nil => 1
  | .ptr d => uptoBulk d + 1
  | .slice elems spare => uptoBulkAll elems + uptoBulkAll spare + 1
  | .agg parts => uptoBulkAll parts + 1
  | .iface _ d => uptoBulk d + 1
  | .map entries => uptoBulkEntries entries + 1
  | .held _ => 1
def uptoBulkAll {H : Type} : List (DataW H) → Nat
  | [] => 0
  | d :: r => uptoBulk d + uptoBulkAll r
def uptoBulkEntries {H : Type} : List (Lit × DataW H) → Nat
  | [] => 0
  | x :: r => uptoBulkEntry x + uptoBulkEntries r
def uptoBulkEntry {H : Type} : Lit × DataW H → Nat
  | (.string bytes, d) => bytes.length + uptoBulk d + 1
  | (_, d) => uptoBulk d + 1
 end
def uptoSmall : (H : Type) → List (DataW H) → Bool := fun _ ds => decide (uptoBulkAll ds ≤ 1048576)
def OpenSpec.upto (s : _root_.Go.ChangeSpec) : _root_.Go.OpenSpec := { _root_.Go.OpenSpec.ofChange s with cond := some uptoSmall }

/-- 'distributarylaw14.TunLess', WHERE WHAT IT READS IS OF BULK AT MOST 1048576: true; the input reads as it did. -/
def tunLessUptoRow : OpenClaim := { program := "ytodckfgfbcnkoaa", sum := "59c1e6f5c9c9c15a7b71e083bdaf2bc93f5616b8f2cd26c98a5f5d8893552d3b", func := "distributary/distributarylaw14.TunLess", spec := "tunLess", unfollowed := true, recurses := true, apart := false, narrowed := true }
def TunLessUptoSaid : Prop := tunLessUptoRow.holds Try.pinned (OpenSpec.upto tunLessSpec)

/-- 'distributarylaw14.TunWraps', WHERE WHAT IT READS IS OF BULK AT MOST 1048576: true; the input reads as it did. -/
def tunWrapsUptoRow : OpenClaim := { program := "ytodckfgfbcnkoaa", sum := "59c1e6f5c9c9c15a7b71e083bdaf2bc93f5616b8f2cd26c98a5f5d8893552d3b", func := "distributary/distributarylaw14.TunWraps", spec := "tunWraps", unfollowed := true, recurses := true, apart := false, narrowed := true }
def TunWrapsUptoSaid : Prop := tunWrapsUptoRow.holds Try.pinned (OpenSpec.upto tunWrapsSpec)

/-- 'distributarylaw14.TunOpens', WHERE WHAT IT READS IS OF BULK AT MOST 1048576: true; the input reads as it did. -/
def tunOpensUptoRow : OpenClaim := { program := "ytodckfgfbcnkoaa", sum := "59c1e6f5c9c9c15a7b71e083bdaf2bc93f5616b8f2cd26c98a5f5d8893552d3b", func := "distributary/distributarylaw14.TunOpens", spec := "tunOpens", unfollowed := true, recurses := true, apart := false, narrowed := true }
def TunOpensUptoSaid : Prop := tunOpensUptoRow.holds Try.pinned (OpenSpec.upto tunOpensSpec)

/-- 'distributarylaw15.NatTurns', WHERE WHAT IT READS IS OF BULK AT MOST 1048576: true; the input reads as it did. -/
def natTurnsUptoRow : OpenClaim := { program := "ytodckfgfbcnkoaa", sum := "59c1e6f5c9c9c15a7b71e083bdaf2bc93f5616b8f2cd26c98a5f5d8893552d3b", func := "distributary/distributarylaw15.NatTurns", spec := "natTurns", unfollowed := true, recurses := true, apart := false, narrowed := true }
def NatTurnsUptoSaid : Prop := natTurnsUptoRow.holds Try.pinned (OpenSpec.upto natTurnsSpec)

/-- 'distributarylaw15.NatKeeps', WHERE WHAT IT READS IS OF BULK AT MOST 1048576: true; the input reads as it did. -/
def natKeepsUptoRow : OpenClaim := { program := "ytodckfgfbcnkoaa", sum := "59c1e6f5c9c9c15a7b71e083bdaf2bc93f5616b8f2cd26c98a5f5d8893552d3b", func := "distributary/distributarylaw15.NatKeeps", spec := "natKeeps", unfollowed := true, recurses := true, apart := false, narrowed := true }
def NatKeepsUptoSaid : Prop := natKeepsUptoRow.holds Try.pinned (OpenSpec.upto natKeepsSpec)

/-- 'distributarylaw15.NatFlows', WHERE WHAT IT READS IS OF BULK AT MOST 1048576: true; the input reads as it did. -/
def natFlowsUptoRow : OpenClaim := { program := "ytodckfgfbcnkoaa", sum := "59c1e6f5c9c9c15a7b71e083bdaf2bc93f5616b8f2cd26c98a5f5d8893552d3b", func := "distributary/distributarylaw15.NatFlows", spec := "natFlows", unfollowed := true, recurses := true, apart := false, narrowed := true }
def NatFlowsUptoSaid : Prop := natFlowsUptoRow.holds Try.pinned (OpenSpec.upto natFlowsSpec)

/-- 'distributarylaw15.NatBare', WHERE WHAT IT READS IS OF BULK AT MOST 1048576: true; the input reads as it did. -/
def natBareUptoRow : OpenClaim := { program := "ytodckfgfbcnkoaa", sum := "59c1e6f5c9c9c15a7b71e083bdaf2bc93f5616b8f2cd26c98a5f5d8893552d3b", func := "distributary/distributarylaw15.NatBare", spec := "natBare", unfollowed := true, recurses := true, apart := false, narrowed := true }
def NatBareUptoSaid : Prop := natBareUptoRow.holds Try.pinned (OpenSpec.upto natBareSpec)

end Rows
end Go.Proofs.Ytodckfgfbcnkoaa
