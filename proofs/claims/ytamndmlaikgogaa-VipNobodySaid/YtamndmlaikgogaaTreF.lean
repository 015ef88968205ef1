/- Layer 16: why a node may not stand behind others, as the law says it. -/
import Derived.Test.YtamndmlaikgogaaTreE
namespace Go.Proofs.Ytamndmlaikgogaa.treF
open Go.ChangeShapes Go.WideShapes Go.ChangeAt Go.RowKit
open Go.Proofs.Ytamndmlaikgogaa.base Go.Proofs.Ytamndmlaikgogaa.dfA Go.Proofs.Ytamndmlaikgogaa.treA Go.Proofs.Ytamndmlaikgogaa.treB Go.Proofs.Ytamndmlaikgogaa.treC Go.Proofs.Ytamndmlaikgogaa.treD Go.Proofs.Ytamndmlaikgogaa.treE
set_option linter.unusedVariables false

theorem addr_eq (a : Bool) (b c : Int) (v6 : Bool) (hi lo : Int) (W : World) : (binOp .eql 27 (.agg #[.bool a, .int .u64 b, .int .u64 c]) (.agg #[.bool v6, .int .u64 hi, .int .u64 lo])).run Try.prog W = .ok (.bool (a == v6 && b == hi && c == lo)) W := by
  cases e0 : (a == v6) <;> cases e1 : (b == hi) <;> cases e2 : (c == lo) <;> go_simp <;> simp [e0, e1, e2]
/-- Why a node may not stand behind nodes l, if there is room for it or not. -/
def whyF (l : List Nd) (n : Nd) : Int := if whyZ l n = 0 then (if fullB l n.kind = true then 6 else 0) else whyZ l n
theorem ofK_one {l : List Nd} {kind : Int} {j : Nat} (hj : j < l.length) (h : (l[j].kind == kind) = true) : (ofK l kind (j + 1)).length = (ofK l kind j).length + 1 := by
  rw [ofK_next hj, if_pos h, List.length_append]; rfl
theorem ofK_same {l : List Nd} {kind : Int} {j : Nat} (hj : j < l.length) (h : (l[j].kind == kind) = false) : (ofK l kind (j + 1)).length = (ofK l kind j).length := by
  rw [ofK_next hj, if_neg (by rw [h]; decide), List.append_nil]
end Go.Proofs.Ytamndmlaikgogaa.treF
