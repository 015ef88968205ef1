/- Layer 30: keys of maps that are structs. -/
import Derived.Test.YtamndmlaikgogaaVpD
import Derived.Maps.OwnSet
import Derived.Maps.OwnOps
import Derived.DeepKeys4
namespace Go.Proofs.Ytamndmlaikgogaa.vpE
open Go.ChangeShapes Go.WideShapes Go.ChangeAt Go.RowKit
open Go.Proofs.Ytamndmlaikgogaa.base Go.Proofs.Ytamndmlaikgogaa.dfA Go.Proofs.Ytamndmlaikgogaa.treB
open Go.Maps
set_option linter.unusedVariables false

theorem rowT : (98 : TypeId) < Try.prog.types.size := of_decide_eq_true (by kernel_rfl)
theorem rowA : (27 : TypeId) < Try.prog.types.size := of_decide_eq_true (by kernel_rfl)
theorem laid : laidOutB Try.prog = true := by kernel_rfl
theorem wideT : (match Try.prog.underlying 98 with | some (.array _ _) | some (.struct _) => true | _ => false) = true := by kernel_rfl
theorem wideA : (match Try.prog.underlying 27 with | some (.array _ _) | some (.struct _) => true | _ => false) = true := by kernel_rfl
theorem ktT : Try.prog.keyTypeAt 4 98 = true := by kernel_rfl
theorem ktA : Try.prog.keyTypeAt 4 27 = true := by kernel_rfl
set_option maxRecDepth 100000 in
theorem lawT : WideMaps.KeyLaw Try.prog 98 := deep_law_laid laid (m := 4) (by omega) rowT ktT wideT
set_option maxRecDepth 100000 in
theorem lawA : WideMaps.KeyLaw Try.prog 27 := deep_law_laid laid (m := 4) (by omega) rowA ktA wideA
theorem keyT : Try.prog.keyType 98 = true := by kernel_rfl
theorem keyA : Try.prog.keyType 27 = true := by kernel_rfl
theorem cT : Try.prog.cellsOf 98 = 5 := by kernel_rfl
theorem cA : Try.prog.cellsOf 27 = 3 := by kernel_rfl
theorem cB : Try.prog.cellsOf 4 = 1 := by kernel_rfl
theorem cU : Try.prog.cellsOf 25 = 1 := by kernel_rfl
theorem cI : Try.prog.cellsOf 3 = 1 := by kernel_rfl
def kA (v6 : Bool) (hi lo : Int) : Lit := .string (keyBytes [.bool v6, .int .u64 hi, .int .u64 lo])
def kT (v6 : Bool) (hi lo pr po : Int) : Lit := .string (keyBytes [.bool v6, .int .u64 hi, .int .u64 lo, .int .i64 pr, .int .i64 po])
theorem litsA (d : Nat) (v6 : Bool) (hi lo : Int) (h1 : (Lit.int .u64 hi).wf = true) (h2 : (Lit.int .u64 lo).wf = true) : Try.prog.keyLits (d + 2) 27 [.bool v6, .int .u64 hi, .int .u64 lo] = some [.bool v6, .int .u64 hi, .int .u64 lo] := by
  unfold Program.keyLits
  simp only [Try.underlying27]
  rw [if_pos (by rw [cA]; exact ⟨rfl, by kernel_rfl⟩)]
  simp [cB, cU, Program.keyLits, Try.underlying4, Try.underlying25, h1, h2]
theorem keyA_of (v6 : Bool) (hi lo : Int) (h1 : (Lit.int .u64 hi).wf = true) (h2 : (Lit.int .u64 lo).wf = true) : keyOf Try.prog 27 (.agg #[.bool v6, .int .u64 hi, .int .u64 lo]) = some (kA v6 hi lo) := by
  have h : (27 : Nat) < Try.prog.types.size := rowA
  obtain ⟨m, hm⟩ : ∃ m, Try.prog.types.size = m + 1 := ⟨Try.prog.types.size - 1, by omega⟩
  unfold keyOf
  simp only [Try.underlying27]
  rw [if_pos (by simp [keyA, Value.formed, Try.underlying27, cA]), hm]
  simp only [Value.cells]
  rw [litsA m v6 hi lo h1 h2]
  rfl
theorem keyT_of (v6 : Bool) (hi lo pr po : Int) (h1 : (Lit.int .u64 hi).wf = true) (h2 : (Lit.int .u64 lo).wf = true) (h3 : (Lit.int .i64 pr).wf = true) (h4 : (Lit.int .i64 po).wf = true) : keyOf Try.prog 98 (.agg #[.bool v6, .int .u64 hi, .int .u64 lo, .int .i64 pr, .int .i64 po]) = some (kT v6 hi lo pr po) := by
  have h : (27 : Nat) < Try.prog.types.size := rowA
  obtain ⟨m, hm⟩ : ∃ m, Try.prog.types.size = m + 2 := ⟨Try.prog.types.size - 2, by omega⟩
  unfold keyOf
  simp only [Try.underlying98]
  rw [if_pos (by simp [keyT, Value.formed, Try.underlying98, cT]), hm]
  simp only [Value.cells]
  have e : Try.prog.keyLits (m + 2 + 1) 98 [.bool v6, .int .u64 hi, .int .u64 lo, .int .i64 pr, .int .i64 po] = some [.bool v6, .int .u64 hi, .int .u64 lo, .int .i64 pr, .int .i64 po] := by
    unfold Program.keyLits
    simp only [Try.underlying98]
    rw [if_pos (by rw [cT]; exact ⟨rfl, by kernel_rfl⟩)]
    have a := litsA m v6 hi lo h1 h2
    simp [cA, cI, a]
    simp [Program.keyLits, Try.underlying3, h3, h4]
  rw [e]
  rfl
theorem kA_inj {v6 v6' : Bool} {hi lo hi' lo' : Int} (h1 : (Lit.int .u64 hi).wf = true) (h2 : (Lit.int .u64 lo).wf = true) (h3 : (Lit.int .u64 hi').wf = true) (h4 : (Lit.int .u64 lo').wf = true) (h : kA v6 hi lo = kA v6' hi' lo') : v6 = v6' ∧ hi = hi' ∧ lo = lo' := by
  have := lawA.inj (keyA_of v6 hi lo h1 h2) (h ▸ keyA_of v6' hi' lo' h3 h4)
  simpa using this
theorem kT_inj {v6 v6' : Bool} {hi lo pr po hi' lo' pr' po' : Int} (h1 : (Lit.int .u64 hi).wf = true) (h2 : (Lit.int .u64 lo).wf = true) (h3 : (Lit.int .i64 pr).wf = true) (h4 : (Lit.int .i64 po).wf = true)
    (g1 : (Lit.int .u64 hi').wf = true) (g2 : (Lit.int .u64 lo').wf = true) (g3 : (Lit.int .i64 pr').wf = true) (g4 : (Lit.int .i64 po').wf = true) (h : kT v6 hi lo pr po = kT v6' hi' lo' pr' po') : v6 = v6' ∧ hi = hi' ∧ lo = lo' ∧ pr = pr' ∧ po = po' := by
  have := lawT.inj (keyT_of v6 hi lo pr po h1 h2 h3 h4) (h ▸ keyT_of v6' hi' lo' pr' po' g1 g2 g3 g4)
  simpa using this
end Go.Proofs.Ytamndmlaikgogaa.vpE
