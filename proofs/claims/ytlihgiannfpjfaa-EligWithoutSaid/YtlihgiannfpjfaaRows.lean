/-
  No cell of these rows narrows 'for every input' (looked for: loops, veiled, ifaces, maps, wideKeys, modest, calm, conditions, laid).
  DERIVED. THE GIVEN ROWS OF THIS SEAT. 4 by the template 'for every input the law returns true; each argument reads behind the call as it read before'; 0 by the template 'total and deterministic' (their statements: YtlihgiannfpjfaaTotals.lean).
  GIVEN WITH THE SEED: the statements are not yours to turn. If you find one false, say at which input.
  Laid BY PROGRAM, IN A SANDBOX (cutbox-rows.mjs): the forced cells as the released guide's own fill.sh prints them over the translation a5963caf98dbc37b… (all of the seat's roots in one cut). By AI agents, Wed Nov 11 2026. No macro, syntax, notation, axiom, sorry.
-/
import Derived.Test.YtlihgiannfpjfaaChecked
import GoSem.Claim
import GoSem.ClaimJoined
import GoSem.ClaimMapViews
import Derived.JoinedTies
import Derived.KernelRfl
namespace Go.Proofs.Ytlihgiannfpjfaa
/- THE CELL 'sum', in the pinned program and in every row, IS THE sha256 OF THE DUMP (.gsa) THAT YtlihgiannfpjfaaProg.lean LOADS. Nothing in Lean hashes anything: it is a label: what it is worth is what the hold of that sum in a sandbox is worth. -/
noncomputable def Try.pinned : Pinned := { name := "ytlihgiannfpjfaa", sum := "a5963caf98dbc37bb8ee9dd2776726041bd64fd1025d6a48419cc90f2b94e77a", checked := Try.checked }
namespace Rows
def none {H : Type} : Left H := { results := [], args := [] }

/-- 'distributarylaw23.EligWeighs': WHATEVER THE INPUT: true; the input reads as it did. -/
def eligWeighsSpec : ChangeSpec := { name := "eligWeighs", fn := fun _ => fun
  | [d1, d2, d3] => { results := [.lit (.bool true)], args := [d1, d2, d3] }
  | _ => none }
def eligWeighsRow : OpenClaim := { program := "ytlihgiannfpjfaa", sum := "a5963caf98dbc37bb8ee9dd2776726041bd64fd1025d6a48419cc90f2b94e77a", func := "distributary/distributarylaw23.EligWeighs", spec := "eligWeighs", unfollowed := true, recurses := true, apart := false }
def EligWeighsSaid : Prop := eligWeighsRow.holds Try.pinned (OpenSpec.ofChange eligWeighsSpec)

/-- ITS FALSE NEIGHBOUR: 'it returns false'. Refute it at one input. -/
def eligWeighsWrong : ChangeSpec := { name := "eligWeighs", fn := fun _ => fun
  | [d1, d2, d3] => { results := [.lit (.bool false)], args := [d1, d2, d3] }
  | _ => none }
def EligWeighsWrongFalsely : Prop := eligWeighsRow.holds Try.pinned (OpenSpec.ofChange eligWeighsWrong)

/-- 'distributarylaw23.EligCounts': WHATEVER THE INPUT: true; the input reads as it did. -/
def eligCountsSpec : ChangeSpec := { name := "eligCounts", fn := fun _ => fun
  | [d1, d2, d3] => { results := [.lit (.bool true)], args := [d1, d2, d3] }
  | _ => none }
def eligCountsRow : OpenClaim := { program := "ytlihgiannfpjfaa", sum := "a5963caf98dbc37bb8ee9dd2776726041bd64fd1025d6a48419cc90f2b94e77a", func := "distributary/distributarylaw23.EligCounts", spec := "eligCounts", unfollowed := true, recurses := true, apart := false }
def EligCountsSaid : Prop := eligCountsRow.holds Try.pinned (OpenSpec.ofChange eligCountsSpec)

/-- ITS FALSE NEIGHBOUR: 'it returns false'. Refute it at one input. -/
def eligCountsWrong : ChangeSpec := { name := "eligCounts", fn := fun _ => fun
  | [d1, d2, d3] => { results := [.lit (.bool false)], args := [d1, d2, d3] }
  | _ => none }
def EligCountsWrongFalsely : Prop := eligCountsRow.holds Try.pinned (OpenSpec.ofChange eligCountsWrong)

/-- 'distributarylaw23.EligWithout': WHATEVER THE INPUT: true; the input reads as it did. -/
def eligWithoutSpec : ChangeSpec := { name := "eligWithout", fn := fun _ => fun
  | [d1, d2, d3] => { results := [.lit (.bool true)], args := [d1, d2, d3] }
  | _ => none }
def eligWithoutRow : OpenClaim := { program := "ytlihgiannfpjfaa", sum := "a5963caf98dbc37bb8ee9dd2776726041bd64fd1025d6a48419cc90f2b94e77a", func := "distributary/distributarylaw23.EligWithout", spec := "eligWithout", unfollowed := true, recurses := true, apart := false }
def EligWithoutSaid : Prop := eligWithoutRow.holds Try.pinned (OpenSpec.ofChange eligWithoutSpec)

/-- ITS FALSE NEIGHBOUR: 'it returns false'. Refute it at one input. -/
def eligWithoutWrong : ChangeSpec := { name := "eligWithout", fn := fun _ => fun
  | [d1, d2, d3] => { results := [.lit (.bool false)], args := [d1, d2, d3] }
  | _ => none }
def EligWithoutWrongFalsely : Prop := eligWithoutRow.holds Try.pinned (OpenSpec.ofChange eligWithoutWrong)

/-- 'distributarylaw23.EligNobody': WHATEVER THE INPUT: true; the input reads as it did. -/
def eligNobodySpec : ChangeSpec := { name := "eligNobody", fn := fun _ => fun
  | [d] => { results := [.lit (.bool true)], args := [d] }
  | _ => none }
def eligNobodyRow : OpenClaim := { program := "ytlihgiannfpjfaa", sum := "a5963caf98dbc37bb8ee9dd2776726041bd64fd1025d6a48419cc90f2b94e77a", func := "distributary/distributarylaw23.EligNobody", spec := "eligNobody", unfollowed := true, recurses := true, apart := false }
def EligNobodySaid : Prop := eligNobodyRow.holds Try.pinned (OpenSpec.ofChange eligNobodySpec)

/-- ITS FALSE NEIGHBOUR: 'it returns false'. Refute it at one input. -/
def eligNobodyWrong : ChangeSpec := { name := "eligNobody", fn := fun _ => fun
  | [d] => { results := [.lit (.bool false)], args := [d] }
  | _ => none }
def EligNobodyWrongFalsely : Prop := eligNobodyRow.holds Try.pinned (OpenSpec.ofChange eligNobodyWrong)

/- THE SECOND FORM. 'bulk': how many values and letters a reading holds, each counted each time it is reached (what is shared counts as often as it is met; a slice's spare places count too). A statement '..UptoSaid' is the law's where the arguments, and the package variables that the reading takes, are together of bulk at most 1048576: NARROWER than '..Said'. Prove '..Said' where nothing that the law and all that it calls make is longer than what came in: it says more and counts as full. Else prove '..UptoSaid'. A law counts once. -/
mutual
def uptoBulk {H : Type} : DataW H → Nat
  | .lit (.string bytes) => bytes.length + 1
  | .lit _ => 1
  | .nil => 1
  | .ptr d => uptoBulk d + 1
  | .slice elems spare => uptoBulkAll elems + uptoBulkAll spare + 1
  | .agg parts => uptoBulkAll parts + 1
  | .iface _ d => uptoBulk d + 1
  | .map entries => uptoBulkEntries entries + 1
  | .held _ => 1
def uptoBulkAll {H : Type} : List (DataW H) → Nat
  | [] => 0
  | d :: r => uptoBulk d + uptoBulkAll r
def uptoBulkEntries {H : Type} : List (Lit × DataW H) → Nat
  | [] => 0
  | x :: r => uptoBulkEntry x + uptoBulkEntries r
def uptoBulkEntry {H : Type} : Lit × DataW H → Nat
  | (.string bytes, d) => bytes.length + uptoBulk d + 1
  | (_, d) => uptoBulk d + 1
 end
def uptoSmall : (H : Type) → List (DataW H) → Bool := fun _ ds => decide (uptoBulkAll ds ≤ 1048576)
def OpenSpec.upto (s : _root_.Go.ChangeSpec) : _root_.Go.OpenSpec := { _root_.Go.OpenSpec.ofChange s with cond := some uptoSmall }

/-- 'distributarylaw23.EligWeighs', WHERE WHAT IT READS IS OF BULK AT MOST 1048576: true; the input reads as it did. -/
def eligWeighsUptoRow : OpenClaim := { program := "ytlihgiannfpjfaa", sum := "a5963caf98dbc37bb8ee9dd2776726041bd64fd1025d6a48419cc90f2b94e77a", func := "distributary/distributarylaw23.EligWeighs", spec := "eligWeighs", unfollowed := true, recurses := true, apart := false, narrowed := true }
def EligWeighsUptoSaid : Prop := eligWeighsUptoRow.holds Try.pinned (OpenSpec.upto eligWeighsSpec)

/-- 'distributarylaw23.EligCounts', WHERE WHAT IT READS IS OF BULK AT MOST 1048576: true; the input reads as it did. -/
def eligCountsUptoRow : OpenClaim := { program := "ytlihgiannfpjfaa", sum := "a5963caf98dbc37bb8ee9dd2776726041bd64fd1025d6a48419cc90f2b94e77a", func := "distributary/distributarylaw23.EligCounts", spec := "eligCounts", unfollowed := true, recurses := true, apart := false, narrowed := true }
def EligCountsUptoSaid : Prop := eligCountsUptoRow.holds Try.pinned (OpenSpec.upto eligCountsSpec)

/-- 'distributarylaw23.EligWithout', WHERE WHAT IT READS IS OF BULK AT MOST 1048576: true; the input reads as it did. -/
def eligWithoutUptoRow : OpenClaim := { program := "ytlihgiannfpjfaa", sum := "a5963caf98dbc37bb8ee9dd2776726041bd64fd1025d6a48419cc90f2b94e77a", func := "distributary/distributarylaw23.EligWithout", spec := "eligWithout", unfollowed := true, recurses := true, apart := false, narrowed := true }
def EligWithoutUptoSaid : Prop := eligWithoutUptoRow.holds Try.pinned (OpenSpec.upto eligWithoutSpec)

/-- 'distributarylaw23.EligNobody', WHERE WHAT IT READS IS OF BULK AT MOST 1048576: true; the input reads as it did. -/
def eligNobodyUptoRow : OpenClaim := { program := "ytlihgiannfpjfaa", sum := "a5963caf98dbc37bb8ee9dd2776726041bd64fd1025d6a48419cc90f2b94e77a", func := "distributary/distributarylaw23.EligNobody", spec := "eligNobody", unfollowed := true, recurses := true, apart := false, narrowed := true }
def EligNobodyUptoSaid : Prop := eligNobodyUptoRow.holds Try.pinned (OpenSpec.upto eligNobodySpec)

end Rows
end Go.Proofs.Ytlihgiannfpjfaa
