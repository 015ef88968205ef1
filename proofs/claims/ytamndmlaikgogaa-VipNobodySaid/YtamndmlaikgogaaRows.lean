/-
  No cell of these rows narrows 'for every input' (looked for: loops, veiled, ifaces, maps, wideKeys, modest, calm, conditions, laid).
  DERIVED. THE GIVEN ROWS OF THIS SEAT. 6 by the template 'for every input the law returns true; each argument reads behind the call as it read before'; 0 by the template 'total and deterministic' (their statements: YtamndmlaikgogaaTotals.lean).
  GIVEN WITH THE SEED: the statements are not yours to turn. If you find one false, say at which input.
  Laid BY PROGRAM, IN A SANDBOX (cutbox-rows.mjs): the forced cells as the released guide's own fill.sh prints them over the translation aca3519427259734… (all of the seat's roots in one cut). By AI agents, Wed Nov 11 2026. No macro, syntax, notation, axiom, sorry.
-/
import Derived.Test.YtamndmlaikgogaaChecked
import GoSem.Claim
import GoSem.ClaimJoined
import GoSem.ClaimMapViews
import Derived.JoinedTies
import Derived.KernelRfl
namespace Go.Proofs.Ytamndmlaikgogaa
/- THE CELL 'sum', in the pinned program and in every row, IS THE sha256 OF THE DUMP (.gsa) THAT YtamndmlaikgogaaProg.lean LOADS. Nothing in Lean hashes anything: it is a label: what it is worth is what the hold of that sum in a sandbox is worth. -/
noncomputable def Try.pinned : Pinned := { name := "ytamndmlaikgogaa", sum := "aca3519427259734a87f63a16b23c2980376ae3258dc14be9cca41527bfe376e", checked := Try.checked }
namespace Rows
def none {H : Type} : Left H := { results := [], args := [] }

/-- 'distributarylaw19.ValidNews': WHATEVER THE INPUT: true; the input reads as it did. -/
def validNewsSpec : ChangeSpec := { name := "validNews", fn := fun _ => fun
  | [d] => { results := [.lit (.bool true)], args := [d] }
  | _ => none }
def validNewsRow : OpenClaim := { program := "ytamndmlaikgogaa", sum := "aca3519427259734a87f63a16b23c2980376ae3258dc14be9cca41527bfe376e", func := "distributary/distributarylaw19.ValidNews", spec := "validNews", unfollowed := true, recurses := true, plainKeys := false, apart := false }
def ValidNewsSaid : Prop := validNewsRow.holds Try.pinned (OpenSpec.ofChange validNewsSpec)

/-- ITS FALSE NEIGHBOUR: 'it returns false'. Refute it at one input. -/
def validNewsWrong : ChangeSpec := { name := "validNews", fn := fun _ => fun
  | [d] => { results := [.lit (.bool false)], args := [d] }
  | _ => none }
def ValidNewsWrongFalsely : Prop := validNewsRow.holds Try.pinned (OpenSpec.ofChange validNewsWrong)

/-- 'distributarylaw19.ValidSames': WHATEVER THE INPUT: true; the input reads as it did. -/
def validSamesSpec : ChangeSpec := { name := "validSames", fn := fun _ => fun
  | [d1, d2] => { results := [.lit (.bool true)], args := [d1, d2] }
  | _ => none }
def validSamesRow : OpenClaim := { program := "ytamndmlaikgogaa", sum := "aca3519427259734a87f63a16b23c2980376ae3258dc14be9cca41527bfe376e", func := "distributary/distributarylaw19.ValidSames", spec := "validSames", unfollowed := true, recurses := true, plainKeys := false, apart := false }
def ValidSamesSaid : Prop := validSamesRow.holds Try.pinned (OpenSpec.ofChange validSamesSpec)

/-- ITS FALSE NEIGHBOUR: 'it returns false'. Refute it at one input. -/
def validSamesWrong : ChangeSpec := { name := "validSames", fn := fun _ => fun
  | [d1, d2] => { results := [.lit (.bool false)], args := [d1, d2] }
  | _ => none }
def ValidSamesWrongFalsely : Prop := validSamesRow.holds Try.pinned (OpenSpec.ofChange validSamesWrong)

/-- 'distributarylaw19.ValidFull': WHATEVER THE INPUT: true; the input reads as it did. -/
def validFullSpec : ChangeSpec := { name := "validFull", fn := fun _ => fun
  | [d1, d2] => { results := [.lit (.bool true)], args := [d1, d2] }
  | _ => none }
def validFullRow : OpenClaim := { program := "ytamndmlaikgogaa", sum := "aca3519427259734a87f63a16b23c2980376ae3258dc14be9cca41527bfe376e", func := "distributary/distributarylaw19.ValidFull", spec := "validFull", unfollowed := true, recurses := true, plainKeys := false, apart := false }
def ValidFullSaid : Prop := validFullRow.holds Try.pinned (OpenSpec.ofChange validFullSpec)

/-- ITS FALSE NEIGHBOUR: 'it returns false'. Refute it at one input. -/
def validFullWrong : ChangeSpec := { name := "validFull", fn := fun _ => fun
  | [d1, d2] => { results := [.lit (.bool false)], args := [d1, d2] }
  | _ => none }
def ValidFullWrongFalsely : Prop := validFullRow.holds Try.pinned (OpenSpec.ofChange validFullWrong)

/-- 'distributarylaw30.VipMatches': WHATEVER THE INPUT: true; the input reads as it did. -/
def vipMatchesSpec : ChangeSpec := { name := "vipMatches", fn := fun _ => fun
  | [d1, d2] => { results := [.lit (.bool true)], args := [d1, d2] }
  | _ => none }
def vipMatchesRow : OpenClaim := { program := "ytamndmlaikgogaa", sum := "aca3519427259734a87f63a16b23c2980376ae3258dc14be9cca41527bfe376e", func := "distributary/distributarylaw30.VipMatches", spec := "vipMatches", unfollowed := true, recurses := true, plainKeys := false, apart := false }
def VipMatchesSaid : Prop := vipMatchesRow.holds Try.pinned (OpenSpec.ofChange vipMatchesSpec)

/-- ITS FALSE NEIGHBOUR: 'it returns false'. Refute it at one input. -/
def vipMatchesWrong : ChangeSpec := { name := "vipMatches", fn := fun _ => fun
  | [d1, d2] => { results := [.lit (.bool false)], args := [d1, d2] }
  | _ => none }
def VipMatchesWrongFalsely : Prop := vipMatchesRow.holds Try.pinned (OpenSpec.ofChange vipMatchesWrong)

/-- 'distributarylaw30.VipViews': WHATEVER THE INPUT: true; the input reads as it did. -/
def vipViewsSpec : ChangeSpec := { name := "vipViews", fn := fun _ => fun
  | [d1, d2] => { results := [.lit (.bool true)], args := [d1, d2] }
  | _ => none }
def vipViewsRow : OpenClaim := { program := "ytamndmlaikgogaa", sum := "aca3519427259734a87f63a16b23c2980376ae3258dc14be9cca41527bfe376e", func := "distributary/distributarylaw30.VipViews", spec := "vipViews", unfollowed := true, recurses := true, plainKeys := false, apart := false }
def VipViewsSaid : Prop := vipViewsRow.holds Try.pinned (OpenSpec.ofChange vipViewsSpec)

/-- ITS FALSE NEIGHBOUR: 'it returns false'. Refute it at one input. -/
def vipViewsWrong : ChangeSpec := { name := "vipViews", fn := fun _ => fun
  | [d1, d2] => { results := [.lit (.bool false)], args := [d1, d2] }
  | _ => none }
def VipViewsWrongFalsely : Prop := vipViewsRow.holds Try.pinned (OpenSpec.ofChange vipViewsWrong)

/-- 'distributarylaw30.VipNobody': WHATEVER THE INPUT: true; the input reads as it did. -/
def vipNobodySpec : ChangeSpec := { name := "vipNobody", fn := fun _ => fun
  | [d] => { results := [.lit (.bool true)], args := [d] }
  | _ => none }
def vipNobodyRow : OpenClaim := { program := "ytamndmlaikgogaa", sum := "aca3519427259734a87f63a16b23c2980376ae3258dc14be9cca41527bfe376e", func := "distributary/distributarylaw30.VipNobody", spec := "vipNobody", unfollowed := true, recurses := true, plainKeys := false, apart := false }
def VipNobodySaid : Prop := vipNobodyRow.holds Try.pinned (OpenSpec.ofChange vipNobodySpec)

/-- ITS FALSE NEIGHBOUR: 'it returns false'. Refute it at one input. -/
def vipNobodyWrong : ChangeSpec := { name := "vipNobody", fn := fun _ => fun
  | [d] => { results := [.lit (.bool false)], args := [d] }
  | _ => none }
def VipNobodyWrongFalsely : Prop := vipNobodyRow.holds Try.pinned (OpenSpec.ofChange vipNobodyWrong)

/- THE SECOND FORM. 'bulk': how many values and letters a reading holds, each counted each time it is reached (what is shared counts as often as it is met; a slice's spare places count too). A statement '..UptoSaid' is the law's where the arguments, and the package variables that the reading takes, are together of bulk at most 1048576: NARROWER than '..Said'. Prove '..Said' where nothing that the law and all that it calls make is longer than what came in: it says more and counts as full. Else prove '..UptoSaid'. A law counts once. -/
mutual
def uptoBulk {H : Type} : DataW H → Nat
  | .lit (.string bytes) => bytes.length + 1
  | .lit _ => 1
  | .nil => 1
  | .ptr d => uptoBulk d + 1
  | .slice elems spare => uptoBulkAll elems + uptoBulkAll spare + 1
  | .agg parts => uptoBulkAll parts + 1
  | .iface _ d => uptoBulk d + 1
  | .map entries => uptoBulkEntries entries + 1
  | .held _ => 1
def uptoBulkAll {H : Type} : List (DataW H) → Nat
  | [] => 0
  | d :: r => uptoBulk d + uptoBulkAll r
def uptoBulkEntries {H : Type} : List (Lit × DataW H) → Nat
  | [] => 0
  | x :: r => uptoBulkEntry x + uptoBulkEntries r
def uptoBulkEntry {H : Type} : Lit × DataW H → Nat
  | (.string bytes, d) => bytes.length + uptoBulk d + 1
  | (_, d) => uptoBulk d + 1
 end
def uptoSmall : (H : Type) → List (DataW H) → Bool := fun _ ds => decide (uptoBulkAll ds ≤ 1048576)
def OpenSpec.upto (s : _root_.Go.ChangeSpec) : _root_.Go.OpenSpec := { _root_.Go.OpenSpec.ofChange s with cond := some uptoSmall }

/-- 'distributarylaw19.ValidNews', WHERE WHAT IT READS IS OF BULK AT MOST 1048576: true; the input reads as it did. -/
def validNewsUptoRow : OpenClaim := { program := "ytamndmlaikgogaa", sum := "aca3519427259734a87f63a16b23c2980376ae3258dc14be9cca41527bfe376e", func := "distributary/distributarylaw19.ValidNews", spec := "validNews", unfollowed := true, recurses := true, plainKeys := false, apart := false, narrowed := true }
def ValidNewsUptoSaid : Prop := validNewsUptoRow.holds Try.pinned (OpenSpec.upto validNewsSpec)

/-- 'distributarylaw19.ValidSames', WHERE WHAT IT READS IS OF BULK AT MOST 1048576: true; the input reads as it did. -/
def validSamesUptoRow : OpenClaim := { program := "ytamndmlaikgogaa", sum := "aca3519427259734a87f63a16b23c2980376ae3258dc14be9cca41527bfe376e", func := "distributary/distributarylaw19.ValidSames", spec := "validSames", unfollowed := true, recurses := true, plainKeys := false, apart := false, narrowed := true }
def ValidSamesUptoSaid : Prop := validSamesUptoRow.holds Try.pinned (OpenSpec.upto validSamesSpec)

/-- 'distributarylaw19.ValidFull', WHERE WHAT IT READS IS OF BULK AT MOST 1048576: true; the input reads as it did. -/
def validFullUptoRow : OpenClaim := { program := "ytamndmlaikgogaa", sum := "aca3519427259734a87f63a16b23c2980376ae3258dc14be9cca41527bfe376e", func := "distributary/distributarylaw19.ValidFull", spec := "validFull", unfollowed := true, recurses := true, plainKeys := false, apart := false, narrowed := true }
def ValidFullUptoSaid : Prop := validFullUptoRow.holds Try.pinned (OpenSpec.upto validFullSpec)

/-- 'distributarylaw30.VipMatches', WHERE WHAT IT READS IS OF BULK AT MOST 1048576: true; the input reads as it did. -/
def vipMatchesUptoRow : OpenClaim := { program := "ytamndmlaikgogaa", sum := "aca3519427259734a87f63a16b23c2980376ae3258dc14be9cca41527bfe376e", func := "distributary/distributarylaw30.VipMatches", spec := "vipMatches", unfollowed := true, recurses := true, plainKeys := false, apart := false, narrowed := true }
def VipMatchesUptoSaid : Prop := vipMatchesUptoRow.holds Try.pinned (OpenSpec.upto vipMatchesSpec)

/-- 'distributarylaw30.VipViews', WHERE WHAT IT READS IS OF BULK AT MOST 1048576: true; the input reads as it did. -/
def vipViewsUptoRow : OpenClaim := { program := "ytamndmlaikgogaa", sum := "aca3519427259734a87f63a16b23c2980376ae3258dc14be9cca41527bfe376e", func := "distributary/distributarylaw30.VipViews", spec := "vipViews", unfollowed := true, recurses := true, plainKeys := false, apart := false, narrowed := true }
def VipViewsUptoSaid : Prop := vipViewsUptoRow.holds Try.pinned (OpenSpec.upto vipViewsSpec)

/-- 'distributarylaw30.VipNobody', WHERE WHAT IT READS IS OF BULK AT MOST 1048576: true; the input reads as it did. -/
def vipNobodyUptoRow : OpenClaim := { program := "ytamndmlaikgogaa", sum := "aca3519427259734a87f63a16b23c2980376ae3258dc14be9cca41527bfe376e", func := "distributary/distributarylaw30.VipNobody", spec := "vipNobody", unfollowed := true, recurses := true, plainKeys := false, apart := false, narrowed := true }
def VipNobodyUptoSaid : Prop := vipNobodyUptoRow.holds Try.pinned (OpenSpec.upto vipNobodySpec)

end Rows
end Go.Proofs.Ytamndmlaikgogaa
