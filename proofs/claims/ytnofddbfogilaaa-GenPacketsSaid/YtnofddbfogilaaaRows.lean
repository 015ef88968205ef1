/-
  No cell of these rows narrows 'for every input' (looked for: loops, veiled, ifaces, maps, wideKeys, modest, calm, conditions, laid).
  DERIVED. THE GIVEN ROWS OF THIS SEAT. 3 by the template 'for every input the law returns true; each argument reads behind the call as it read before'; 0 by the template 'total and deterministic' (their statements: YtnofddbfogilaaaTotals.lean).
  GIVEN WITH THE SEED: the statements are not yours to turn. If you find one false, say at which input.
  Laid BY PROGRAM, IN A SANDBOX (cutbox-rows.mjs): the forced cells as the released guide's own fill.sh prints them over the translation f6f585c062b61731… (all of the seat's roots in one cut). By AI agents, Wed Nov 11 2026. No macro, syntax, notation, axiom, sorry.
-/
import Derived.Test.YtnofddbfogilaaaChecked
import GoSem.Claim
import GoSem.ClaimJoined
import GoSem.ClaimMapViews
import Derived.JoinedTies
import Derived.KernelRfl
namespace Go.Proofs.Ytnofddbfogilaaa
/- THE CELL 'sum', in the pinned program and in every row, IS THE sha256 OF THE DUMP (.gsa) THAT YtnofddbfogilaaaProg.lean LOADS. Nothing in Lean hashes anything: it is a label: what it is worth is what the hold of that sum in a sandbox is worth. -/
noncomputable def Try.pinned : Pinned := { name := "ytnofddbfogilaaa", sum := "f6f585c062b617313902800621fdda4e11b679841a7216c895b3b724f22b486d", checked := Try.checked }
namespace Rows
def none {H : Type} : Left H := { results := [], args := [] }

/-- 'distributarylaw35.GenFlows': WHATEVER THE INPUT: true; the input reads as it did. -/
def genFlowsSpec : ChangeSpec := { name := "genFlows", fn := fun _ => fun
  | [d1, d2] => { results := [.lit (.bool true)], args := [d1, d2] }
  | _ => none }
def genFlowsRow : OpenClaim := { program := "ytnofddbfogilaaa", sum := "f6f585c062b617313902800621fdda4e11b679841a7216c895b3b724f22b486d", func := "distributary/distributarylaw35.GenFlows", spec := "genFlows", unfollowed := true, recurses := true, apart := false }
def GenFlowsSaid : Prop := genFlowsRow.holds Try.pinned (OpenSpec.ofChange genFlowsSpec)

/-- ITS FALSE NEIGHBOUR: 'it returns false'. Refute it at one input. -/
def genFlowsWrong : ChangeSpec := { name := "genFlows", fn := fun _ => fun
  | [d1, d2] => { results := [.lit (.bool false)], args := [d1, d2] }
  | _ => none }
def GenFlowsWrongFalsely : Prop := genFlowsRow.holds Try.pinned (OpenSpec.ofChange genFlowsWrong)

/-- 'distributarylaw35.GenTakes': WHATEVER THE INPUT: true; the input reads as it did. -/
def genTakesSpec : ChangeSpec := { name := "genTakes", fn := fun _ => fun
  | [d1, d2] => { results := [.lit (.bool true)], args := [d1, d2] }
  | _ => none }
def genTakesRow : OpenClaim := { program := "ytnofddbfogilaaa", sum := "f6f585c062b617313902800621fdda4e11b679841a7216c895b3b724f22b486d", func := "distributary/distributarylaw35.GenTakes", spec := "genTakes", unfollowed := true, recurses := true, apart := false }
def GenTakesSaid : Prop := genTakesRow.holds Try.pinned (OpenSpec.ofChange genTakesSpec)

/-- ITS FALSE NEIGHBOUR: 'it returns false'. Refute it at one input. -/
def genTakesWrong : ChangeSpec := { name := "genTakes", fn := fun _ => fun
  | [d1, d2] => { results := [.lit (.bool false)], args := [d1, d2] }
  | _ => none }
def GenTakesWrongFalsely : Prop := genTakesRow.holds Try.pinned (OpenSpec.ofChange genTakesWrong)

/-- 'distributarylaw35.GenPackets': WHATEVER THE INPUT: true; the input reads as it did. -/
def genPacketsSpec : ChangeSpec := { name := "genPackets", fn := fun _ => fun
  | [d1, d2] => { results := [.lit (.bool true)], args := [d1, d2] }
  | _ => none }
def genPacketsRow : OpenClaim := { program := "ytnofddbfogilaaa", sum := "f6f585c062b617313902800621fdda4e11b679841a7216c895b3b724f22b486d", func := "distributary/distributarylaw35.GenPackets", spec := "genPackets", unfollowed := true, recurses := true, apart := false }
def GenPacketsSaid : Prop := genPacketsRow.holds Try.pinned (OpenSpec.ofChange genPacketsSpec)

/-- ITS FALSE NEIGHBOUR: 'it returns false'. Refute it at one input. -/
def genPacketsWrong : ChangeSpec := { name := "genPackets", fn := fun _ => fun
  | [d1, d2] => { results := [.lit (.bool false)], args := [d1, d2] }
  | _ => none }
def GenPacketsWrongFalsely : Prop := genPacketsRow.holds Try.pinned (OpenSpec.ofChange genPacketsWrong)

/- THE SECOND FORM. 'bulk': how many values and letters a reading holds, each counted each time it is reached (what is shared counts as often as it is met; a slice's spare places count too). A statement '..UptoSaid' is the law's where the arguments, and the package variables that the reading takes, are together of bulk at most 1048576: NARROWER than '..Said'. Prove '..Said' where nothing that the law and all that it calls make is longer than what came in: it says more and counts as full. Else prove '..UptoSaid'. A law counts once. -/
mutual
def uptoBulk {H : Type} : DataW H → Nat
  | .lit (.string bytes) => bytes.length + 1
  | .lit _ => 1
  | .nil => 1
  | .ptr d => uptoBulk d + 1
  | .slice elems spare => uptoBulkAll elems + uptoBulkAll spare + 1
  | .agg parts => uptoBulkAll parts + 1
  | .iface _ d => uptoBulk d + 1
  | .map entries => uptoBulkEntries entries + 1
  | .held _ => 1
def uptoBulkAll {H : Type} : List (DataW H) → Nat
  | [] => 0
  | d :: r => uptoBulk d + uptoBulkAll r
def uptoBulkEntries {H : Type} : List (Lit × DataW H) → Nat
  | [] => 0
  | x :: r => uptoBulkEntry x + uptoBulkEntries r
def uptoBulkEntry {H : Type} : Lit × DataW H → Nat
  | (.string bytes, d) => bytes.length + uptoBulk d + 1
  | (_, d) => uptoBulk d + 1
 end
def uptoSmall : (H : Type) → List (DataW H) → Bool := fun _ ds => decide (uptoBulkAll ds ≤ 1048576)
def OpenSpec.upto (s : _root_.Go.ChangeSpec) : _root_.Go.OpenSpec := { _root_.Go.OpenSpec.ofChange s with cond := some uptoSmall }

/-- 'distributarylaw35.GenFlows', WHERE WHAT IT READS IS OF BULK AT MOST 1048576: true; the input reads as it did. -/
def genFlowsUptoRow : OpenClaim := { program := "ytnofddbfogilaaa", sum := "f6f585c062b617313902800621fdda4e11b679841a7216c895b3b724f22b486d", func := "distributary/distributarylaw35.GenFlows", spec := "genFlows", unfollowed := true, recurses := true, apart := false, narrowed := true }
def GenFlowsUptoSaid : Prop := genFlowsUptoRow.holds Try.pinned (OpenSpec.upto genFlowsSpec)

/-- 'distributarylaw35.GenTakes', WHERE WHAT IT READS IS OF BULK AT MOST 1048576: true; the input reads as it did. -/
def genTakesUptoRow : OpenClaim := { program := "ytnofddbfogilaaa", sum := "f6f585c062b617313902800621fdda4e11b679841a7216c895b3b724f22b486d", func := "distributary/distributarylaw35.GenTakes", spec := "genTakes", unfollowed := true, recurses := true, apart := false, narrowed := true }
def GenTakesUptoSaid : Prop := genTakesUptoRow.holds Try.pinned (OpenSpec.upto genTakesSpec)

/-- 'distributarylaw35.GenPackets', WHERE WHAT IT READS IS OF BULK AT MOST 1048576: true; the input reads as it did. -/
def genPacketsUptoRow : OpenClaim := { program := "ytnofddbfogilaaa", sum := "f6f585c062b617313902800621fdda4e11b679841a7216c895b3b724f22b486d", func := "distributary/distributarylaw35.GenPackets", spec := "genPackets", unfollowed := true, recurses := true, apart := false, narrowed := true }
def GenPacketsUptoSaid : Prop := genPacketsUptoRow.holds Try.pinned (OpenSpec.upto genPacketsSpec)

end Rows
end Go.Proofs.Ytnofddbfogilaaa
