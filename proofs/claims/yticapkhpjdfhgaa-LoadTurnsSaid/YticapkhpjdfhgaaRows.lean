/-
  No cell of these rows narrows 'for every input' (looked for: loops, veiled, ifaces, maps, wideKeys, modest, calm, conditions, laid).
  DERIVED. THE GIVEN ROWS OF THIS SEAT. 12 by the template 'for every input the law returns true; each argument reads behind the call as it read before'; 0 by the template 'total and deterministic' (their statements: YticapkhpjdfhgaaTotals.lean).
  GIVEN WITH THE SEED: the statements are not yours to turn. If you find one false, say at which input.
  Laid BY PROGRAM, IN A SANDBOX (cutbox-rows.mjs): the forced cells as the released guide's own fill.sh prints them over the translation 7b957d7212c0d3eb… (all of the seat's roots in one cut). By AI agents, Wed Nov 11 2026. No macro, syntax, notation, axiom, sorry.
-/
import Derived.Test.YticapkhpjdfhgaaChecked
import GoSem.Claim
import GoSem.ClaimJoined
import GoSem.ClaimMapViews
import Derived.JoinedTies
import Derived.KernelRfl
namespace Go.Proofs.Yticapkhpjdfhgaa
/- THE CELL 'sum', in the pinned program and in every row, IS THE sha256 OF THE DUMP (.gsa) THAT YticapkhpjdfhgaaProg.lean LOADS. Nothing in Lean hashes anything: it is a label: what it is worth is what the hold of that sum in a sandbox is worth. -/
noncomputable def Try.pinned : Pinned := { name := "yticapkhpjdfhgaa", sum := "7b957d7212c0d3eb7cb69a8c25622d453d9de1e17d714e7ad41e9c9d72fe5be1", checked := Try.checked }
namespace Rows
def none {H : Type} : Left H := { results := [], args := [] }

/-- 'distributarylaw24.LoadHealth': WHATEVER THE INPUT: true; the input reads as it did. -/
def loadHealthSpec : ChangeSpec := { name := "loadHealth", fn := fun _ => fun
  | [d1, d2, d3] => { results := [.lit (.bool true)], args := [d1, d2, d3] }
  | _ => none }
def loadHealthRow : OpenClaim := { program := "yticapkhpjdfhgaa", sum := "7b957d7212c0d3eb7cb69a8c25622d453d9de1e17d714e7ad41e9c9d72fe5be1", func := "distributary/distributarylaw24.LoadHealth", spec := "loadHealth", unfollowed := true, recurses := true, named := ["math/bits.divideError", "math/bits.overflowError"], apart := false }
def LoadHealthSaid : Prop := loadHealthRow.holds Try.pinned (OpenSpec.ofChange loadHealthSpec)

/-- ITS FALSE NEIGHBOUR: 'it returns false'. Refute it at one input. -/
def loadHealthWrong : ChangeSpec := { name := "loadHealth", fn := fun _ => fun
  | [d1, d2, d3] => { results := [.lit (.bool false)], args := [d1, d2, d3] }
  | _ => none }
def LoadHealthWrongFalsely : Prop := loadHealthRow.holds Try.pinned (OpenSpec.ofChange loadHealthWrong)

/-- 'distributarylaw24.LoadShares': WHATEVER THE INPUT: true; the input reads as it did. -/
def loadSharesSpec : ChangeSpec := { name := "loadShares", fn := fun _ => fun
  | [d1, d2, d3] => { results := [.lit (.bool true)], args := [d1, d2, d3] }
  | _ => none }
def loadSharesRow : OpenClaim := { program := "yticapkhpjdfhgaa", sum := "7b957d7212c0d3eb7cb69a8c25622d453d9de1e17d714e7ad41e9c9d72fe5be1", func := "distributary/distributarylaw24.LoadShares", spec := "loadShares", unfollowed := true, recurses := true, named := ["math/bits.divideError", "math/bits.overflowError"], apart := false }
def LoadSharesSaid : Prop := loadSharesRow.holds Try.pinned (OpenSpec.ofChange loadSharesSpec)

/-- ITS FALSE NEIGHBOUR: 'it returns false'. Refute it at one input. -/
def loadSharesWrong : ChangeSpec := { name := "loadShares", fn := fun _ => fun
  | [d1, d2, d3] => { results := [.lit (.bool false)], args := [d1, d2, d3] }
  | _ => none }
def LoadSharesWrongFalsely : Prop := loadSharesRow.holds Try.pinned (OpenSpec.ofChange loadSharesWrong)

/-- 'distributarylaw24.LoadDraws': WHATEVER THE INPUT: true; the input reads as it did. -/
def loadDrawsSpec : ChangeSpec := { name := "loadDraws", fn := fun _ => fun
  | [d1, d2] => { results := [.lit (.bool true)], args := [d1, d2] }
  | _ => none }
def loadDrawsRow : OpenClaim := { program := "yticapkhpjdfhgaa", sum := "7b957d7212c0d3eb7cb69a8c25622d453d9de1e17d714e7ad41e9c9d72fe5be1", func := "distributary/distributarylaw24.LoadDraws", spec := "loadDraws", unfollowed := true, recurses := true, named := ["math/bits.divideError", "math/bits.overflowError"], apart := false }
def LoadDrawsSaid : Prop := loadDrawsRow.holds Try.pinned (OpenSpec.ofChange loadDrawsSpec)

/-- ITS FALSE NEIGHBOUR: 'it returns false'. Refute it at one input. -/
def loadDrawsWrong : ChangeSpec := { name := "loadDraws", fn := fun _ => fun
  | [d1, d2] => { results := [.lit (.bool false)], args := [d1, d2] }
  | _ => none }
def LoadDrawsWrongFalsely : Prop := loadDrawsRow.holds Try.pinned (OpenSpec.ofChange loadDrawsWrong)

/-- 'distributarylaw24.LoadTurns': WHATEVER THE INPUT: true; the input reads as it did. -/
def loadTurnsSpec : ChangeSpec := { name := "loadTurns", fn := fun _ => fun
  | [d1, d2, d3] => { results := [.lit (.bool true)], args := [d1, d2, d3] }
  | _ => none }
def loadTurnsRow : OpenClaim := { program := "yticapkhpjdfhgaa", sum := "7b957d7212c0d3eb7cb69a8c25622d453d9de1e17d714e7ad41e9c9d72fe5be1", func := "distributary/distributarylaw24.LoadTurns", spec := "loadTurns", unfollowed := true, recurses := true, named := ["math/bits.divideError", "math/bits.overflowError"], apart := false }
def LoadTurnsSaid : Prop := loadTurnsRow.holds Try.pinned (OpenSpec.ofChange loadTurnsSpec)

/-- ITS FALSE NEIGHBOUR: 'it returns false'. Refute it at one input. -/
def loadTurnsWrong : ChangeSpec := { name := "loadTurns", fn := fun _ => fun
  | [d1, d2, d3] => { results := [.lit (.bool false)], args := [d1, d2, d3] }
  | _ => none }
def LoadTurnsWrongFalsely : Prop := loadTurnsRow.holds Try.pinned (OpenSpec.ofChange loadTurnsWrong)

/-- 'distributarylaw37.RatePlays': WHATEVER THE INPUT: true; the input reads as it did. -/
def ratePlaysSpec : ChangeSpec := { name := "ratePlays", fn := fun _ => fun
  | [d1, d2] => { results := [.lit (.bool true)], args := [d1, d2] }
  | _ => none }
def ratePlaysRow : OpenClaim := { program := "yticapkhpjdfhgaa", sum := "7b957d7212c0d3eb7cb69a8c25622d453d9de1e17d714e7ad41e9c9d72fe5be1", func := "distributary/distributarylaw37.RatePlays", spec := "ratePlays", apart := false }
def RatePlaysSaid : Prop := ratePlaysRow.holds Try.pinned (OpenSpec.ofChange ratePlaysSpec)

/-- ITS FALSE NEIGHBOUR: 'it returns false'. Refute it at one input. -/
def ratePlaysWrong : ChangeSpec := { name := "ratePlays", fn := fun _ => fun
  | [d1, d2] => { results := [.lit (.bool false)], args := [d1, d2] }
  | _ => none }
def RatePlaysWrongFalsely : Prop := ratePlaysRow.holds Try.pinned (OpenSpec.ofChange ratePlaysWrong)

/-- 'distributarylaw37.RateWaits': WHATEVER THE INPUT: true; the input reads as it did. -/
def rateWaitsSpec : ChangeSpec := { name := "rateWaits", fn := fun _ => fun
  | [d1, d2, d3] => { results := [.lit (.bool true)], args := [d1, d2, d3] }
  | _ => none }
def rateWaitsRow : OpenClaim := { program := "yticapkhpjdfhgaa", sum := "7b957d7212c0d3eb7cb69a8c25622d453d9de1e17d714e7ad41e9c9d72fe5be1", func := "distributary/distributarylaw37.RateWaits", spec := "rateWaits", apart := false }
def RateWaitsSaid : Prop := rateWaitsRow.holds Try.pinned (OpenSpec.ofChange rateWaitsSpec)

/-- ITS FALSE NEIGHBOUR: 'it returns false'. Refute it at one input. -/
def rateWaitsWrong : ChangeSpec := { name := "rateWaits", fn := fun _ => fun
  | [d1, d2, d3] => { results := [.lit (.bool false)], args := [d1, d2, d3] }
  | _ => none }
def RateWaitsWrongFalsely : Prop := rateWaitsRow.holds Try.pinned (OpenSpec.ofChange rateWaitsWrong)

/-- 'distributarylaw37.RateBounds': WHATEVER THE INPUT: true; the input reads as it did. -/
def rateBoundsSpec : ChangeSpec := { name := "rateBounds", fn := fun _ => fun
  | [d1, d2] => { results := [.lit (.bool true)], args := [d1, d2] }
  | _ => none }
def rateBoundsRow : OpenClaim := { program := "yticapkhpjdfhgaa", sum := "7b957d7212c0d3eb7cb69a8c25622d453d9de1e17d714e7ad41e9c9d72fe5be1", func := "distributary/distributarylaw37.RateBounds", spec := "rateBounds", apart := false }
def RateBoundsSaid : Prop := rateBoundsRow.holds Try.pinned (OpenSpec.ofChange rateBoundsSpec)

/-- ITS FALSE NEIGHBOUR: 'it returns false'. Refute it at one input. -/
def rateBoundsWrong : ChangeSpec := { name := "rateBounds", fn := fun _ => fun
  | [d1, d2] => { results := [.lit (.bool false)], args := [d1, d2] }
  | _ => none }
def RateBoundsWrongFalsely : Prop := rateBoundsRow.holds Try.pinned (OpenSpec.ofChange rateBoundsWrong)

/-- 'distributarylaw37.RateTwos': WHATEVER THE INPUT: true; the input reads as it did. -/
def rateTwosSpec : ChangeSpec := { name := "rateTwos", fn := fun _ => fun
  | [d1, d2, d3, d4] => { results := [.lit (.bool true)], args := [d1, d2, d3, d4] }
  | _ => none }
def rateTwosRow : OpenClaim := { program := "yticapkhpjdfhgaa", sum := "7b957d7212c0d3eb7cb69a8c25622d453d9de1e17d714e7ad41e9c9d72fe5be1", func := "distributary/distributarylaw37.RateTwos", spec := "rateTwos", apart := false }
def RateTwosSaid : Prop := rateTwosRow.holds Try.pinned (OpenSpec.ofChange rateTwosSpec)

/-- ITS FALSE NEIGHBOUR: 'it returns false'. Refute it at one input. -/
def rateTwosWrong : ChangeSpec := { name := "rateTwos", fn := fun _ => fun
  | [d1, d2, d3, d4] => { results := [.lit (.bool false)], args := [d1, d2, d3, d4] }
  | _ => none }
def RateTwosWrongFalsely : Prop := rateTwosRow.holds Try.pinned (OpenSpec.ofChange rateTwosWrong)

/-- 'distributarylaw38.HistSays': WHATEVER THE INPUT: true; the input reads as it did. -/
def histSaysSpec : ChangeSpec := { name := "histSays", fn := fun _ => fun
  | [d1, d2] => { results := [.lit (.bool true)], args := [d1, d2] }
  | _ => none }
def histSaysRow : OpenClaim := { program := "yticapkhpjdfhgaa", sum := "7b957d7212c0d3eb7cb69a8c25622d453d9de1e17d714e7ad41e9c9d72fe5be1", func := "distributary/distributarylaw38.HistSays", spec := "histSays", inPlace := ["math/bits.Add64"], unfollowed := true, recurses := true, named := ["math/bits.divideError", "math/bits.overflowError"], apart := false }
def HistSaysSaid : Prop := histSaysRow.holds Try.pinned (OpenSpec.ofChange histSaysSpec)

/-- ITS FALSE NEIGHBOUR: 'it returns false'. Refute it at one input. -/
def histSaysWrong : ChangeSpec := { name := "histSays", fn := fun _ => fun
  | [d1, d2] => { results := [.lit (.bool false)], args := [d1, d2] }
  | _ => none }
def HistSaysWrongFalsely : Prop := histSaysRow.holds Try.pinned (OpenSpec.ofChange histSaysWrong)

/-- 'distributarylaw38.HistJoins': WHATEVER THE INPUT: true; the input reads as it did. -/
def histJoinsSpec : ChangeSpec := { name := "histJoins", fn := fun _ => fun
  | [d1, d2, d3] => { results := [.lit (.bool true)], args := [d1, d2, d3] }
  | _ => none }
def histJoinsRow : OpenClaim := { program := "yticapkhpjdfhgaa", sum := "7b957d7212c0d3eb7cb69a8c25622d453d9de1e17d714e7ad41e9c9d72fe5be1", func := "distributary/distributarylaw38.HistJoins", spec := "histJoins", inPlace := ["math/bits.Add64"], unfollowed := true, recurses := true, named := ["math/bits.divideError", "math/bits.overflowError"], apart := false }
def HistJoinsSaid : Prop := histJoinsRow.holds Try.pinned (OpenSpec.ofChange histJoinsSpec)

/-- ITS FALSE NEIGHBOUR: 'it returns false'. Refute it at one input. -/
def histJoinsWrong : ChangeSpec := { name := "histJoins", fn := fun _ => fun
  | [d1, d2, d3] => { results := [.lit (.bool false)], args := [d1, d2, d3] }
  | _ => none }
def HistJoinsWrongFalsely : Prop := histJoinsRow.holds Try.pinned (OpenSpec.ofChange histJoinsWrong)

/-- 'distributarylaw38.HistNobody': WHATEVER THE INPUT: true; the input reads as it did. -/
def histNobodySpec : ChangeSpec := { name := "histNobody", fn := fun _ => fun
  | [d1, d2] => { results := [.lit (.bool true)], args := [d1, d2] }
  | _ => none }
def histNobodyRow : OpenClaim := { program := "yticapkhpjdfhgaa", sum := "7b957d7212c0d3eb7cb69a8c25622d453d9de1e17d714e7ad41e9c9d72fe5be1", func := "distributary/distributarylaw38.HistNobody", spec := "histNobody", inPlace := ["math/bits.Add64"], unfollowed := true, recurses := true, named := ["math/bits.divideError", "math/bits.overflowError"], apart := false }
def HistNobodySaid : Prop := histNobodyRow.holds Try.pinned (OpenSpec.ofChange histNobodySpec)

/-- ITS FALSE NEIGHBOUR: 'it returns false'. Refute it at one input. -/
def histNobodyWrong : ChangeSpec := { name := "histNobody", fn := fun _ => fun
  | [d1, d2] => { results := [.lit (.bool false)], args := [d1, d2] }
  | _ => none }
def HistNobodyWrongFalsely : Prop := histNobodyRow.holds Try.pinned (OpenSpec.ofChange histNobodyWrong)

/-- 'distributarylaw39.RingPrimes': WHATEVER THE INPUT: true; the input reads as it did. -/
def ringPrimesSpec : ChangeSpec := { name := "ringPrimes", fn := fun _ => fun
  | [d] => { results := [.lit (.bool true)], args := [d] }
  | _ => none }
def ringPrimesRow : OpenClaim := { program := "yticapkhpjdfhgaa", sum := "7b957d7212c0d3eb7cb69a8c25622d453d9de1e17d714e7ad41e9c9d72fe5be1", func := "distributary/distributarylaw39.RingPrimes", spec := "ringPrimes", apart := false }
def RingPrimesSaid : Prop := ringPrimesRow.holds Try.pinned (OpenSpec.ofChange ringPrimesSpec)

/-- ITS FALSE NEIGHBOUR: 'it returns false'. Refute it at one input. -/
def ringPrimesWrong : ChangeSpec := { name := "ringPrimes", fn := fun _ => fun
  | [d] => { results := [.lit (.bool false)], args := [d] }
  | _ => none }
def RingPrimesWrongFalsely : Prop := ringPrimesRow.holds Try.pinned (OpenSpec.ofChange ringPrimesWrong)

/- THE SECOND FORM. 'bulk': how many values and letters a reading holds, each counted each time it is reached (what is shared counts as often as it is met; a slice's spare places count too). A statement '..UptoSaid' is the law's where the arguments, and the package variables that the reading takes, are together of bulk at most 1048576: NARROWER than '..Said'. Prove '..Said' where nothing that the law and all that it calls make is longer than what came in: it says more and counts as full. Else prove '..UptoSaid'. A law counts once. -/
mutual
def uptoBulk {H : Type} : DataW H → Nat
  | .lit (.string bytes) => bytes.length + 1
  | .lit _ => 1
  | .nil => 1
  | .ptr d => uptoBulk d + 1
  | .slice elems spare => uptoBulkAll elems + uptoBulkAll spare + 1
  | .agg parts => uptoBulkAll parts + 1
  | .iface _ d => uptoBulk d + 1
  | .map entries => uptoBulkEntries entries + 1
  | .held _ => 1
def uptoBulkAll {H : Type} : List (DataW H) → Nat
  | [] => 0
  | d :: r => uptoBulk d + uptoBulkAll r
def uptoBulkEntries {H : Type} : List (Lit × DataW H) → Nat
  | [] => 0
  | x :: r => uptoBulkEntry x + uptoBulkEntries r
def uptoBulkEntry {H : Type} : Lit × DataW H → Nat
  | (.string bytes, d) => bytes.length + uptoBulk d + 1
  | (_, d) => uptoBulk d + 1
 end
def uptoSmall : (H : Type) → List (DataW H) → Bool := fun _ ds => decide (uptoBulkAll ds ≤ 1048576)
def OpenSpec.upto (s : _root_.Go.ChangeSpec) : _root_.Go.OpenSpec := { _root_.Go.OpenSpec.ofChange s with cond := some uptoSmall }

/-- 'distributarylaw24.LoadHealth', WHERE WHAT IT READS IS OF BULK AT MOST 1048576: true; the input reads as it did. -/
def loadHealthUptoRow : OpenClaim := { program := "yticapkhpjdfhgaa", sum := "7b957d7212c0d3eb7cb69a8c25622d453d9de1e17d714e7ad41e9c9d72fe5be1", func := "distributary/distributarylaw24.LoadHealth", spec := "loadHealth", unfollowed := true, recurses := true, named := ["math/bits.divideError", "math/bits.overflowError"], apart := false, narrowed := true }
def LoadHealthUptoSaid : Prop := loadHealthUptoRow.holds Try.pinned (OpenSpec.upto loadHealthSpec)

/-- 'distributarylaw24.LoadShares', WHERE WHAT IT READS IS OF BULK AT MOST 1048576: true; the input reads as it did. -/
def loadSharesUptoRow : OpenClaim := { program := "yticapkhpjdfhgaa", sum := "7b957d7212c0d3eb7cb69a8c25622d453d9de1e17d714e7ad41e9c9d72fe5be1", func := "distributary/distributarylaw24.LoadShares", spec := "loadShares", unfollowed := true, recurses := true, named := ["math/bits.divideError", "math/bits.overflowError"], apart := false, narrowed := true }
def LoadSharesUptoSaid : Prop := loadSharesUptoRow.holds Try.pinned (OpenSpec.upto loadSharesSpec)

/-- 'distributarylaw24.LoadDraws', WHERE WHAT IT READS IS OF BULK AT MOST 1048576: true; the input reads as it did. -/
def loadDrawsUptoRow : OpenClaim := { program := "yticapkhpjdfhgaa", sum := "7b957d7212c0d3eb7cb69a8c25622d453d9de1e17d714e7ad41e9c9d72fe5be1", func := "distributary/distributarylaw24.LoadDraws", spec := "loadDraws", unfollowed := true, recurses := true, named := ["math/bits.divideError", "math/bits.overflowError"], apart := false, narrowed := true }
def LoadDrawsUptoSaid : Prop := loadDrawsUptoRow.holds Try.pinned (OpenSpec.upto loadDrawsSpec)

/-- 'distributarylaw24.LoadTurns', WHERE WHAT IT READS IS OF BULK AT MOST 1048576: true; the input reads as it did. -/
def loadTurnsUptoRow : OpenClaim := { program := "yticapkhpjdfhgaa", sum := "7b957d7212c0d3eb7cb69a8c25622d453d9de1e17d714e7ad41e9c9d72fe5be1", func := "distributary/distributarylaw24.LoadTurns", spec := "loadTurns", unfollowed := true, recurses := true, named := ["math/bits.divideError", "math/bits.overflowError"], apart := false, narrowed := true }
def LoadTurnsUptoSaid : Prop := loadTurnsUptoRow.holds Try.pinned (OpenSpec.upto loadTurnsSpec)

/-- 'distributarylaw37.RatePlays', WHERE WHAT IT READS IS OF BULK AT MOST 1048576: true; the input reads as it did. -/
def ratePlaysUptoRow : OpenClaim := { program := "yticapkhpjdfhgaa", sum := "7b957d7212c0d3eb7cb69a8c25622d453d9de1e17d714e7ad41e9c9d72fe5be1", func := "distributary/distributarylaw37.RatePlays", spec := "ratePlays", apart := false, narrowed := true }
def RatePlaysUptoSaid : Prop := ratePlaysUptoRow.holds Try.pinned (OpenSpec.upto ratePlaysSpec)

/-- 'distributarylaw37.RateWaits', WHERE WHAT IT READS IS OF BULK AT MOST 1048576: true; the input reads as it did. -/
def rateWaitsUptoRow : OpenClaim := { program := "yticapkhpjdfhgaa", sum := "7b957d7212c0d3eb7cb69a8c25622d453d9de1e17d714e7ad41e9c9d72fe5be1", func := "distributary/distributarylaw37.RateWaits", spec := "rateWaits", apart := false, narrowed := true }
def RateWaitsUptoSaid : Prop := rateWaitsUptoRow.holds Try.pinned (OpenSpec.upto rateWaitsSpec)

/-- 'distributarylaw37.RateBounds', WHERE WHAT IT READS IS OF BULK AT MOST 1048576: true; the input reads as it did. -/
def rateBoundsUptoRow : OpenClaim := { program := "yticapkhpjdfhgaa", sum := "7b957d7212c0d3eb7cb69a8c25622d453d9de1e17d714e7ad41e9c9d72fe5be1", func := "distributary/distributarylaw37.RateBounds", spec := "rateBounds", apart := false, narrowed := true }
def RateBoundsUptoSaid : Prop := rateBoundsUptoRow.holds Try.pinned (OpenSpec.upto rateBoundsSpec)

/-- 'distributarylaw37.RateTwos', WHERE WHAT IT READS IS OF BULK AT MOST 1048576: true; the input reads as it did. -/
def rateTwosUptoRow : OpenClaim := { program := "yticapkhpjdfhgaa", sum := "7b957d7212c0d3eb7cb69a8c25622d453d9de1e17d714e7ad41e9c9d72fe5be1", func := "distributary/distributarylaw37.RateTwos", spec := "rateTwos", apart := false, narrowed := true }
def RateTwosUptoSaid : Prop := rateTwosUptoRow.holds Try.pinned (OpenSpec.upto rateTwosSpec)

/-- 'distributarylaw38.HistSays', WHERE WHAT IT READS IS OF BULK AT MOST 1048576: true; the input reads as it did. -/
def histSaysUptoRow : OpenClaim := { program := "yticapkhpjdfhgaa", sum := "7b957d7212c0d3eb7cb69a8c25622d453d9de1e17d714e7ad41e9c9d72fe5be1", func := "distributary/distributarylaw38.HistSays", spec := "histSays", inPlace := ["math/bits.Add64"], unfollowed := true, recurses := true, named := ["math/bits.divideError", "math/bits.overflowError"], apart := false, narrowed := true }
def HistSaysUptoSaid : Prop := histSaysUptoRow.holds Try.pinned (OpenSpec.upto histSaysSpec)

/-- 'distributarylaw38.HistJoins', WHERE WHAT IT READS IS OF BULK AT MOST 1048576: true; the input reads as it did. -/
def histJoinsUptoRow : OpenClaim := { program := "yticapkhpjdfhgaa", sum := "7b957d7212c0d3eb7cb69a8c25622d453d9de1e17d714e7ad41e9c9d72fe5be1", func := "distributary/distributarylaw38.HistJoins", spec := "histJoins", inPlace := ["math/bits.Add64"], unfollowed := true, recurses := true, named := ["math/bits.divideError", "math/bits.overflowError"], apart := false, narrowed := true }
def HistJoinsUptoSaid : Prop := histJoinsUptoRow.holds Try.pinned (OpenSpec.upto histJoinsSpec)

/-- 'distributarylaw38.HistNobody', WHERE WHAT IT READS IS OF BULK AT MOST 1048576: true; the input reads as it did. -/
def histNobodyUptoRow : OpenClaim := { program := "yticapkhpjdfhgaa", sum := "7b957d7212c0d3eb7cb69a8c25622d453d9de1e17d714e7ad41e9c9d72fe5be1", func := "distributary/distributarylaw38.HistNobody", spec := "histNobody", inPlace := ["math/bits.Add64"], unfollowed := true, recurses := true, named := ["math/bits.divideError", "math/bits.overflowError"], apart := false, narrowed := true }
def HistNobodyUptoSaid : Prop := histNobodyUptoRow.holds Try.pinned (OpenSpec.upto histNobodySpec)

/-- 'distributarylaw39.RingPrimes', WHERE WHAT IT READS IS OF BULK AT MOST 1048576: true; the input reads as it did. -/
def ringPrimesUptoRow : OpenClaim := { program := "yticapkhpjdfhgaa", sum := "7b957d7212c0d3eb7cb69a8c25622d453d9de1e17d714e7ad41e9c9d72fe5be1", func := "distributary/distributarylaw39.RingPrimes", spec := "ringPrimes", apart := false, narrowed := true }
def RingPrimesUptoSaid : Prop := ringPrimesUptoRow.holds Try.pinned (OpenSpec.upto ringPrimesSpec)

end Rows
end Go.Proofs.Yticapkhpjdfhgaa
