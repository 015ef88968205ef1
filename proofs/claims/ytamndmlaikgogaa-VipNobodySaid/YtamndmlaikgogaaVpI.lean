/- Layer 30: the methods of a table. -/
import Derived.Test.YtamndmlaikgogaaVpH
import Derived.Deep.RegionHeld3
namespace Go.Proofs.Ytamndmlaikgogaa.vpI
open Go.ChangeShapes Go.WideShapes Go.ChangeAt Go.RowKit
open Go.Proofs.Ytamndmlaikgogaa.base Go.Proofs.Ytamndmlaikgogaa.dfA Go.Proofs.Ytamndmlaikgogaa.treB Go.Proofs.Ytamndmlaikgogaa.vdA Go.Proofs.Ytamndmlaikgogaa.vdB Go.Proofs.Ytamndmlaikgogaa.vdC Go.Proofs.Ytamndmlaikgogaa.vdD Go.Proofs.Ytamndmlaikgogaa.vdI Go.Proofs.Ytamndmlaikgogaa.vpA Go.Proofs.Ytamndmlaikgogaa.vpB Go.Proofs.Ytamndmlaikgogaa.vpC Go.Proofs.Ytamndmlaikgogaa.vpD Go.Proofs.Ytamndmlaikgogaa.vpE Go.Proofs.Ytamndmlaikgogaa.vpF Go.Proofs.Ytamndmlaikgogaa.vpG Go.Proofs.Ytamndmlaikgogaa.vpH
open Go.Maps
set_option linter.unusedVariables false

theorem neq_map (x : Option Nat) (W : World) : (binOp .neq 67 (.map x) (.map none)).run Try.prog W = .ok (.bool x.isSome) W := by
  have h : ∀ d : Nat, (Op.equalIn (d + 1) 67 (.map x) (.map none)).run Try.prog W = .ok x.isNone W := fun d => by
    cases x <;> simp [Op.equalIn, run_underlying Try.underlying67]
  simp only [binOp]
  cases x <;> simp [Op.equal, Op.maxDepth, h 9999]
theorem made_nil (w : World) : Calls Try.prog 41 #[.pointer none] w fun e w' => e = .returned (.bool false) ∧ w = w' := by
  go_enter Try.func41, Try.ntmps41
  go_wp2_with fail
  go_ret
  exact ⟨rfl, rfl⟩
theorem made_b (w : World) (tb : Nat) (x : Option Nat) (h : w.cell? ⟨tb, 2, none⟩ = some (.map x)) : Calls Try.prog 41 #[.pointer (some ⟨tb, 0, none⟩)] w fun e w' => e = .returned (.bool x.isSome) ∧ w = w' := by
  have HQ := fun W => neq_map x W
  obtain ⟨q, hq⟩ : ∃ q, q = x.isSome := ⟨_, rfl⟩
  rw [← hq]
  simp only [← hq] at HQ
  clear hq
  go_enter Try.func41, Try.ntmps41
  go_wp2_with fail
  go_ret
  exact ⟨rfl, rfl⟩
/-- A table that nobody made. -/
def Unm (p : Value) (w : World) : Prop := ∀ W, Below w.heap.size w W → Calls Try.prog 41 #[p] W fun e w' => e = .returned (.bool false) ∧ W = w'
theorem unm_nil (w : World) : Unm (.pointer none) w := fun W _ => made_nil W
theorem unm_zero {w : World} {tb : Nat} {t : TypeId} (h : Blk w tb t #[.pointer none, .slice none 0 0, .map none, .map none]) : Unm (.pointer (some ⟨tb, 0, none⟩)) w := fun W hb => made_b W tb none ((h.below hb h.lt).cell 2)
theorem Unm.below {p : Value} {w w' : World} (h : Unm p w) (hb : Below w.heap.size w w') : Unm p w' := fun W hW => h W (hb.trans (hW.mono hb.size))
/-- A flow. -/
structure Tq where
  pr : Int
  s6 : Bool
  sh : Int
  sl : Int
  d6 : Bool
  dh : Int
  dl : Int
  sp : Int
  dp : Int
def Tq.cells (x : Tq) : Array Value := #[.int .i64 x.pr, .bool x.s6, .int .u64 x.sh, .int .u64 x.sl, .bool x.d6, .int .u64 x.dh, .int .u64 x.dl, .int .i64 x.sp, .int .i64 x.dp]
structure Tq.In (x : Tq) : Prop where
  pr : (Lit.int .i64 x.pr).wf = true
  sh : (Lit.int .u64 x.sh).wf = true
  sl : (Lit.int .u64 x.sl).wf = true
  dh : (Lit.int .u64 x.dh).wf = true
  dl : (Lit.int .u64 x.dl).wf = true
  sp : (Lit.int .i64 x.sp).wf = true
  dp : (Lit.int .i64 x.dp).wf = true
theorem size_vip : (Try.prog.info? 48).map (·.size) = some 7 := by kernel_rfl
theorem one_vip (e : Vp) : e.cells.all (·.oneCell') = true := by simp [Vp.cells, Value.oneCell']
theorem results_vip {fn : Func} {p u : Tmp} (h : fn.results = #[.cell p 48, .tmp u]) (tmps : Array Value) (w : World) (g : Nat) (e : Vp) (hp : tmps.getD p undef = .pointer (some ⟨g, 0, none⟩)) (hg : Blk w g 48 e.cells) :
    (results fn tmps).run Try.prog w = .ok (.tuple #[.agg e.cells, tmps.getD u undef]) w := by
  rw [results_cell_tmp h, hp]
  simp only [asAddr, Sem.run_pure, Result.andThen_ok]
  rw [run_loadVar_row w g 48 48 e.cells (0, 0) _ hg Try.underlying48 rfl size_vip]
  rfl
theorem below_row {B g : Nat} {a w : World} (h : Below B a w) (hg : B ≤ g) (cs : Array Value) : Below B a (w.setRow g cs) :=
  ⟨h.os, h.tape, h.output, Nat.le_trans h.size (by unfold World.setRow; simp), fun k hk => (setRow_other _ _ _ _ (by omega)).trans (h.block k hk)⟩
set_option maxHeartbeats 8000000 in
theorem match_un {p : Value} (x : Tq) (w : World) (h : Unm p w) : Calls Try.prog 20 #[p, .agg x.cells] w fun e w' => e = .returned (.tuple #[.agg zVp.cells, .bool false]) ∧ Below w.heap.size w w' := by
  obtain ⟨pr, s6, sh, sl, d6, dh, dl, sp, dp⟩ := x
  unfold Tq.cells
  obtain ⟨w1, hw1⟩ : ∃ w1, w1 = (w.alloc (.cells #[.int .i64 pr, .bool s6, .int .u64 sh, .int .u64 sl, .bool d6, .int .u64 dh, .int .u64 dl, .int .i64 sp, .int .i64 dp] 55)).alloc (.cells #[.bool false, .int .u64 0, .int .u64 0, .int .i64 0, .int .i64 0, .int .i64 0, .bool false] 48) := ⟨_, rfl⟩
  have E1 := Lib.hid hw1
  have hsz : (w.alloc (.cells #[.int .i64 pr, .bool s6, .int .u64 sh, .int .u64 sl, .bool d6, .int .u64 dh, .int .u64 dl, .int .i64 sp, .int .i64 dp] 55)).heap.size = w.heap.size + 1 := by simp
  have HB := Lib.hid (show Blk w1 (w.heap.size + 1) 48 zVp.cells from by rw [hw1, ← hsz]; exact Blk.new _ _ _)
  have HA := Lib.hid (show Blk w1 w.heap.size 55 #[.int .i64 pr, .bool s6, .int .u64 sh, .int .u64 sl, .bool d6, .int .u64 dh, .int .u64 dl, .int .i64 sp, .int .i64 dp] from by rw [hw1]; exact (Blk.new w _ _).alloc _)
  have B1 := Lib.hid (show Below w.heap.size w w1 from hw1 ▸ ((Below.refl w.heap.size w).alloc (Nat.le_refl _) _).alloc (by simp) _)
  have HM := Lib.hid (h w1 B1.out)
  have HEND := Lib.hid (show Blk (w1.setRow (w.heap.size + 1) zVp.cells) (w.heap.size + 1) 48 zVp.cells ∧ Below w.heap.size w (w1.setRow (w.heap.size + 1) zVp.cells) from ⟨setRow_heap w1 (w.heap.size + 1) zVp.cells zVp.cells 48 (0, 0) HB.out, below_row B1.out (by omega) _⟩)
  clear hw1 h hsz
  go_enter Try.func20, Try.ntmps20
  go_upto_region 1 with fail
  rw [← E1.out]
  go_wp2_with fail
  refine HM.out.mono ?_
  rintro o w2 ⟨rfl, rfl⟩
  go_wp2_with (refine wpList_store_row rfl 48 _ _ rfl (w.heap.size + 1) zVp.cells rfl rfl 48 zVp.cells HB.out size_vip rfl (one_vip _) ?_)
  refine bodyPost_ret (results_vip rfl _ _ (w.heap.size + 1) zVp rfl HEND.out.1) rfl ⟨rfl, HEND.out.2⟩
theorem ours_un {p : Value} (v6 : Bool) (hi lo : Int) (w : World) (h : Unm p w) : Calls Try.prog 22 #[p, .agg #[.bool v6, .int .u64 hi, .int .u64 lo]] w fun e w' => e = .returned (.bool false) ∧ Below w.heap.size w w' := by
  obtain ⟨w1, hw1⟩ : ∃ w1, w1 = w.alloc (.cells #[.bool v6, .int .u64 hi, .int .u64 lo] 27) := ⟨_, rfl⟩
  have E1 := Lib.hid hw1
  have B1 := Lib.hid (show Below w.heap.size w w1 from hw1 ▸ (Below.refl _ _).alloc (Nat.le_refl _) _)
  have HM := Lib.hid (h w1 B1.out)
  clear hw1 h
  go_enter Try.func22, Try.ntmps22
  go_upto_region 1 with fail
  rw [← E1.out]
  go_wp2_with fail
  refine HM.out.mono ?_
  rintro o w2 ⟨rfl, rfl⟩
  go_wp2_with fail
  go_ret
  exact ⟨rfl, B1.out⟩
theorem from_un {p : Value} (v6 : Bool) (hi lo : Int) (w : World) (h : Unm p w) : Calls Try.prog 24 #[p, .agg #[.bool v6, .int .u64 hi, .int .u64 lo]] w fun e w' => e = .returned (.int .i64 0) ∧ Below w.heap.size w w' := by
  obtain ⟨w1, hw1⟩ : ∃ w1, w1 = w.alloc (.cells #[.bool v6, .int .u64 hi, .int .u64 lo] 27) := ⟨_, rfl⟩
  have E1 := Lib.hid hw1
  have B1 := Lib.hid (show Below w.heap.size w w1 from hw1 ▸ (Below.refl _ _).alloc (Nat.le_refl _) _)
  have HM := Lib.hid (h w1 B1.out)
  clear hw1 h
  go_enter Try.func24, Try.ntmps24
  go_upto_region 1 with fail
  rw [← E1.out]
  go_wp2_with fail
  refine HM.out.mono ?_
  rintro o w2 ⟨rfl, rfl⟩
  go_wp2_with fail
  go_ret
  exact ⟨rfl, B1.out⟩
theorem list_un {p : Value} (w : World) (h : Unm p w) : Calls Try.prog 21 #[p] w fun e w' => e = .returned (.slice none 0 0) ∧ w = w' := by
  have HM := Lib.hid (h w (Below.refl _ _))
  clear h
  go_enter Try.func21, Try.ntmps21
  go_wp2_with fail
  refine HM.out.mono ?_
  rintro o w2 ⟨rfl, rfl⟩
  go_wp2_with fail
  go_ret
  exact ⟨rfl, rfl⟩
end Go.Proofs.Ytamndmlaikgogaa.vpI
