/- Layer 27: a flow, mixed. -/
import Derived.Test.YtboknpkcpeoebaaFlowD
import Derived.Test.YtboknpkcpeoebaaMixB
import Derived.Test.YtboknpkcpeoebaaMixD
namespace Go.Proofs.Ytboknpkcpeoebaa.flowE
open Go.ChangeShapes Go.WideShapes Go.ChangeAt Go.RowKit
open Go.Proofs.Ytboknpkcpeoebaa.base
set_option linter.unusedVariables false

/-- A flow: its protocol, its addresses, its ports. -/
structure Tup where
  pr : Int
  s6 : Bool
  sh : Int
  sl : Int
  d6 : Bool
  dh : Int
  dl : Int
  sp : Int
  dp : Int
def Tup.cells (x : Tup) : Array Value := #[.int .i64 x.pr, .bool x.s6, .int .u64 x.sh, .int .u64 x.sl, .bool x.d6, .int .u64 x.dh, .int .u64 x.dl, .int .i64 x.sp, .int .i64 x.dp]
def versZ (s6 d6 : Bool) : Int := (if s6 then 1 else 0) + (if d6 then 2 else 0)
def nums (x : Tup) : List Int := [versZ x.s6 x.d6, IntKind.u64.wrap x.pr, x.sh, x.sl, x.dh, x.dl, IntKind.u64.wrap x.sp, IntKind.u64.wrap x.dp]
def hashZ (seed : Int) (x : Tup) : Int := mixD.ofZ seed (nums x)
theorem row_list (W : World) (vs : List Value) (t : TypeId) : Row (W.alloc (.cells vs.toArray t)) (W.alloc (.cells vs.toArray t)).heap.size (some ⟨W.heap.size, 0, none⟩) vs := by
  refine .inr ⟨W.heap.size, 0, rfl, by simp, fun i u hu => ?_⟩
  rw [Nat.zero_add, (Blk.new W t vs.toArray).cell i]
  simpa using hu
set_option maxRecDepth 100000 in
theorem hash_any (seed : Int) (x : Tup) (w : World) :
    Calls Try.prog 63 #[.int .u64 seed, .agg x.cells] w fun e w' => e = .returned (.int .u64 (hashZ seed x)) ∧ Below w.heap.size w w' := by
  obtain ⟨pr, s6, sh, sl, d6, dh, dl, sp, dp⟩ := x
  unfold Tup.cells hashZ nums
  dsimp only
  have HOF := Lib.hid (show ∀ (v : Int), Calls Try.prog 66 #[.int .u64 seed, .slice (some ⟨w.heap.size + 1, 0, none⟩) 8 8] ((w.alloc (.cells #[.int .i64 pr, .bool s6, .int .u64 sh, .int .u64 sl, .bool d6, .int .u64 dh, .int .u64 dl, .int .i64 sp, .int .i64 dp] 26)).alloc (.cells #[.int .u64 v, .int .u64 (IntKind.u64.wrap pr), .int .u64 sh, .int .u64 sl, .int .u64 dh, .int .u64 dl, .int .u64 (IntKind.u64.wrap sp), .int .u64 (IntKind.u64.wrap dp)] 22)) fun e w' => e = .returned (.int .u64 (mixD.ofZ seed [v, IntKind.u64.wrap pr, sh, sl, dh, dl, IntKind.u64.wrap sp, IntKind.u64.wrap dp])) ∧ Below w.heap.size w w' from fun v => by
    have hr := row_list (w.alloc (.cells #[.int .i64 pr, .bool s6, .int .u64 sh, .int .u64 sl, .bool d6, .int .u64 dh, .int .u64 dl, .int .i64 sp, .int .i64 dp] 26)) [.int .u64 v, .int .u64 (IntKind.u64.wrap pr), .int .u64 sh, .int .u64 sl, .int .u64 dh, .int .u64 dl, .int .u64 (IntKind.u64.wrap sp), .int .u64 (IntKind.u64.wrap dp)] 22
    rw [show (w.alloc (.cells #[.int .i64 pr, .bool s6, .int .u64 sh, .int .u64 sl, .bool d6, .int .u64 dh, .int .u64 dl, .int .i64 sp, .int .i64 dp] 26)).heap.size = w.heap.size + 1 by simp] at hr
    refine (mixD.of_any seed (some ⟨w.heap.size + 1, 0, none⟩) 8 8 [v, IntKind.u64.wrap pr, sh, sl, dh, dl, IntKind.u64.wrap sp, IntKind.u64.wrap dp] _ _ rfl (by omega) hr).mono fun e w' ⟨he, hw⟩ => ⟨he, ?_⟩
    rw [← hw]
    exact ((Below.refl _ _).alloc (Nat.le_refl _) _).alloc (by simp) _)
  cases s6 <;> cases d6
  all_goals
    go_enter Try.func63, Try.ntmps63
    go_wp2_with fail
    refine (HOF.out _).mono ?_
    rintro e w9 ⟨rfl, hb⟩
    have HB := Lib.hid hb
    clear hb
    go_wp2_with fail
    go_ret
    exact ⟨rfl, HB.out⟩
end Go.Proofs.Ytboknpkcpeoebaa.flowE
