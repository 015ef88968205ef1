/- 1 texts in one. -/
import Derived.Lib.SmallJoins
import Derived.Deep.Slices
import Derived.Deep.Fields
import Derived.Test.YtnofddbfogilaaaGq01
/- Arguments opened. -/
namespace Go.Proofs.Ytnofddbfogilaaa.base
open Go.RowKit Go.WideShapes Go.ChangeShapes Go.Joins Go.Deep
set_option linter.unusedVariables false
section
variable {H:Type} {enc:TypeId × Value→H} {P:Program} {w:World} {b0 base:Nat} {spare:Nat→Bool} {held:Bool}
theorem open_i64 {r:Reach} {t:TypeId} {v:Value} {d:DataW H} {p:List MemPlace} (he:P.underlying t=some (.int .i64)) (hv:Value.okWide P w r b0 t v) (h:DataW.Trod enc P w base spare held t v d p) :
  ∃ x:Int,v=.int .i64 x∧-9223372036854775808≤x∧x<9223372036854775808:=by
 obtain ⟨x,rfl,rfl,rfl,wx⟩:=open_int he hv h
 have hx:=bounds_i64 wx
 exact ⟨x,rfl,hx.1,by omega⟩
end
end Go.Proofs.Ytnofddbfogilaaa.base
