/-
  No cell of these rows narrows 'for every input' (looked for: loops, veiled, ifaces, maps, wideKeys, modest, calm, conditions, laid).
  DERIVED. THE GIVEN ROWS OF THIS SEAT. 3 by the template 'for every input the law returns true; each argument reads behind the call as it read before'; 0 by the template 'total and deterministic' (their statements: YtboknpkcpeoebaaTotals.lean).
  GIVEN WITH THE SEED: the statements are not yours to turn. If you find one false, say at which input.
  Laid BY PROGRAM, IN A SANDBOX (cutbox-rows.mjs): the forced cells as the released guide's own fill.sh prints them over the translation db659033c76924d7… (all of the seat's roots in one cut). By AI agents, Wed Nov 11 2026. No macro, syntax, notation, axiom, sorry.
-/
import Derived.Test.YtboknpkcpeoebaaChecked
import GoSem.Claim
import GoSem.ClaimJoined
import GoSem.ClaimMapViews
import Derived.JoinedTies
import Derived.KernelRfl
namespace Go.Proofs.Ytboknpkcpeoebaa
/- THE CELL 'sum', in the pinned program and in every row, IS THE sha256 OF THE DUMP (.gsa) THAT YtboknpkcpeoebaaProg.lean LOADS. Nothing in Lean hashes anything: it is a label: what it is worth is what the hold of that sum in a sandbox is worth. -/
noncomputable def Try.pinned : Pinned := { name := "ytboknpkcpeoebaa", sum := "db659033c76924d76bcda7e1218840d0efafc87e55a5ae250af90d177f74431d", checked := Try.checked }
namespace Rows
def none {H : Type} : Left H := { results := [], args := [] }

/-- 'distributarylaw29.PinNobody': WHATEVER THE INPUT: true; the input reads as it did. -/
def pinNobodySpec : ChangeSpec := { name := "pinNobody", fn := fun _ => fun
  | [d1, d2] => { results := [.lit (.bool true)], args := [d1, d2] }
  | _ => none }
def pinNobodyRow : OpenClaim := { program := "ytboknpkcpeoebaa", sum := "db659033c76924d76bcda7e1218840d0efafc87e55a5ae250af90d177f74431d", func := "distributary/distributarylaw29.PinNobody", spec := "pinNobody", unfollowed := true, recurses := true, apart := false }
def PinNobodySaid : Prop := pinNobodyRow.holds Try.pinned (OpenSpec.ofChange pinNobodySpec)

/-- ITS FALSE NEIGHBOUR: 'it returns false'. Refute it at one input. -/
def pinNobodyWrong : ChangeSpec := { name := "pinNobody", fn := fun _ => fun
  | [d1, d2] => { results := [.lit (.bool false)], args := [d1, d2] }
  | _ => none }
def PinNobodyWrongFalsely : Prop := pinNobodyRow.holds Try.pinned (OpenSpec.ofChange pinNobodyWrong)

/-- 'distributarylaw29.PinStays': WHATEVER THE INPUT: true; the input reads as it did. -/
def pinStaysSpec : ChangeSpec := { name := "pinStays", fn := fun _ => fun
  | [d1, d2, d3, d4, d5, d6] => { results := [.lit (.bool true)], args := [d1, d2, d3, d4, d5, d6] }
  | _ => none }
def pinStaysRow : OpenClaim := { program := "ytboknpkcpeoebaa", sum := "db659033c76924d76bcda7e1218840d0efafc87e55a5ae250af90d177f74431d", func := "distributary/distributarylaw29.PinStays", spec := "pinStays", unfollowed := true, recurses := true, apart := false }
def PinStaysSaid : Prop := pinStaysRow.holds Try.pinned (OpenSpec.ofChange pinStaysSpec)

/-- ITS FALSE NEIGHBOUR: 'it returns false'. Refute it at one input. -/
def pinStaysWrong : ChangeSpec := { name := "pinStays", fn := fun _ => fun
  | [d1, d2, d3, d4, d5, d6] => { results := [.lit (.bool false)], args := [d1, d2, d3, d4, d5, d6] }
  | _ => none }
def PinStaysWrongFalsely : Prop := pinStaysRow.holds Try.pinned (OpenSpec.ofChange pinStaysWrong)

/-- 'distributarylaw29.PinPlays': WHATEVER THE INPUT: true; the input reads as it did. -/
def pinPlaysSpec : ChangeSpec := { name := "pinPlays", fn := fun _ => fun
  | [d1, d2, d3, d4] => { results := [.lit (.bool true)], args := [d1, d2, d3, d4] }
  | _ => none }
def pinPlaysRow : OpenClaim := { program := "ytboknpkcpeoebaa", sum := "db659033c76924d76bcda7e1218840d0efafc87e55a5ae250af90d177f74431d", func := "distributary/distributarylaw29.PinPlays", spec := "pinPlays", unfollowed := true, recurses := true, apart := false }
def PinPlaysSaid : Prop := pinPlaysRow.holds Try.pinned (OpenSpec.ofChange pinPlaysSpec)

/-- ITS FALSE NEIGHBOUR: 'it returns false'. Refute it at one input. -/
def pinPlaysWrong : ChangeSpec := { name := "pinPlays", fn := fun _ => fun
  | [d1, d2, d3, d4] => { results := [.lit (.bool false)], args := [d1, d2, d3, d4] }
  | _ => none }
def PinPlaysWrongFalsely : Prop := pinPlaysRow.holds Try.pinned (OpenSpec.ofChange pinPlaysWrong)

/- THE SECOND FORM. 'bulk': how many values and letters a reading holds, each counted each time it is reached (what is shared counts as often as it is met; a slice's spare places count too). A statement '..UptoSaid' is the law's where the arguments, and the package variables that the reading takes, are together of bulk at most 1048576: NARROWER than '..Said'. Prove '..Said' where nothing that the law and all that it calls make is longer than what came in: it says more and counts as full. Else prove '..UptoSaid'. A law counts once. -/
mutual
def uptoBulk {H : Type} : DataW H → Nat
  | .lit (.string bytes) => bytes.length + 1
  | .lit _ => 1
  | .nil => 1
  | .ptr d => uptoBulk d + 1
  | .slice elems spare => uptoBulkAll elems + uptoBulkAll spare + 1
  | .agg parts => uptoBulkAll parts + 1
  | .iface _ d => uptoBulk d + 1
  | .map entries => uptoBulkEntries entries + 1
  | .held _ => 1
def uptoBulkAll {H : Type} : List (DataW H) → Nat
  | [] => 0
  | d :: r => uptoBulk d + uptoBulkAll r
def uptoBulkEntries {H : Type} : List (Lit × DataW H) → Nat
  | [] => 0
  | x :: r => uptoBulkEntry x + uptoBulkEntries r
def uptoBulkEntry {H : Type} : Lit × DataW H → Nat
  | (.string bytes, d) => bytes.length + uptoBulk d + 1
  | (_, d) => uptoBulk d + 1
 end
def uptoSmall : (H : Type) → List (DataW H) → Bool := fun _ ds => decide (uptoBulkAll ds ≤ 1048576)
def OpenSpec.upto (s : _root_.Go.ChangeSpec) : _root_.Go.OpenSpec := { _root_.Go.OpenSpec.ofChange s with cond := some uptoSmall }

/-- 'distributarylaw29.PinNobody', WHERE WHAT IT READS IS OF BULK AT MOST 1048576: true; the input reads as it did. -/
def pinNobodyUptoRow : OpenClaim := { program := "ytboknpkcpeoebaa", sum := "db659033c76924d76bcda7e1218840d0efafc87e55a5ae250af90d177f74431d", func := "distributary/distributarylaw29.PinNobody", spec := "pinNobody", unfollowed := true, recurses := true, apart := false, narrowed := true }
def PinNobodyUptoSaid : Prop := pinNobodyUptoRow.holds Try.pinned (OpenSpec.upto pinNobodySpec)

/-- 'distributarylaw29.PinStays', WHERE WHAT IT READS IS OF BULK AT MOST 1048576: true; the input reads as it did. -/
def pinStaysUptoRow : OpenClaim := { program := "ytboknpkcpeoebaa", sum := "db659033c76924d76bcda7e1218840d0efafc87e55a5ae250af90d177f74431d", func := "distributary/distributarylaw29.PinStays", spec := "pinStays", unfollowed := true, recurses := true, apart := false, narrowed := true }
def PinStaysUptoSaid : Prop := pinStaysUptoRow.holds Try.pinned (OpenSpec.upto pinStaysSpec)

/-- 'distributarylaw29.PinPlays', WHERE WHAT IT READS IS OF BULK AT MOST 1048576: true; the input reads as it did. -/
def pinPlaysUptoRow : OpenClaim := { program := "ytboknpkcpeoebaa", sum := "db659033c76924d76bcda7e1218840d0efafc87e55a5ae250af90d177f74431d", func := "distributary/distributarylaw29.PinPlays", spec := "pinPlays", unfollowed := true, recurses := true, apart := false, narrowed := true }
def PinPlaysUptoSaid : Prop := pinPlaysUptoRow.holds Try.pinned (OpenSpec.upto pinPlaysSpec)

end Rows
end Go.Proofs.Ytboknpkcpeoebaa
