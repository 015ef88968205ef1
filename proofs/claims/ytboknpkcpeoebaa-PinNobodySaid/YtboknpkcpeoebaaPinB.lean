/- Layer 29: pins that are not made: Pin, Seen. -/
import Derived.Test.YtboknpkcpeoebaaPinA
namespace Go.Proofs.Ytboknpkcpeoebaa.pinB
open Go.ChangeShapes Go.WideShapes Go.ChangeAt Go.RowKit
open Go.Proofs.Ytboknpkcpeoebaa.base Go.Proofs.Ytboknpkcpeoebaa.flowE Go.Proofs.Ytboknpkcpeoebaa.flowG Go.Proofs.Ytboknpkcpeoebaa.flowI Go.Proofs.Ytboknpkcpeoebaa.flowP Go.Proofs.Ytboknpkcpeoebaa.flowS Go.Proofs.Ytboknpkcpeoebaa.flowT Go.Proofs.Ytboknpkcpeoebaa.flowX Go.Proofs.Ytboknpkcpeoebaa.connD Go.Proofs.Ytboknpkcpeoebaa.pinA
set_option linter.unusedVariables false

/-- A flow that is gone, and why. -/
def goneC (e : Ent) (why : Int) : Array Value := #[.int .i64 e.x.pr, .bool e.x.s6, .int .u64 e.x.sh, .int .u64 e.x.sl, .bool e.x.d6, .int .u64 e.x.dh, .int .u64 e.x.dl, .int .i64 e.x.sp, .int .i64 e.x.dp, .int .i64 e.host, .int .i64 e.state, .int .i64 e.till, .int .i64 why]
theorem size_g : (Try.prog.info? 36).map (·.size) = some 13 := by kernel_rfl
theorem one_g (e : Ent) (y : Int) : (goneC e y).all (·.oneCell') = true := by simp [goneC, Value.oneCell']
theorem below_row {B g : Nat} {a w : World} (h : Below B a w) (hg : B ≤ g) (cs : Array Value) : Below B a (w.setRow g cs) :=
  ⟨h.os, h.tape, h.output, Nat.le_trans h.size (by unfold World.setRow; simp), fun k hk => (setRow_other _ _ _ _ (by omega)).trans (h.block k hk)⟩
theorem results_gone {fn : Func} {p u : Tmp} (h : fn.results = #[.cell p 36, .tmp u]) (tmps : Array Value) (w : World) (g : Nat) (cs : Array Value) (hp : tmps.getD p undef = .pointer (some ⟨g, 0, none⟩)) (hg : Blk w g 36 cs) (hs : cs.size = 13) :
    (results fn tmps).run Try.prog w = .ok (.tuple #[.agg cs, tmps.getD u undef]) w := by
  rw [results_cell_tmp h, hp]
  simp only [asAddr, Sem.run_pure, Result.andThen_ok]
  rw [run_loadVar_row w g 36 36 cs (0, 0) _ hg Try.underlying36 rfl (by rw [hs]; exact size_g)]
  rfl
section
variable {P0 : Value} {w : World}
theorem pin_un (x : Tup) (hst f : Int) (h : Unmade P0 w) : Calls Try.prog 6 #[P0, .agg x.cells, .int .i64 hst, .int .i64 f] w fun e w' => e = .returned (.tuple #[.agg (goneC zeroE 0), .bool false]) ∧ Below w.heap.size w w' := by
  obtain ⟨w1, hw1⟩ : ∃ w1, w1 = (w.alloc (.cells #[.int .i64 x.pr, .bool x.s6, .int .u64 x.sh, .int .u64 x.sl, .bool x.d6, .int .u64 x.dh, .int .u64 x.dl, .int .i64 x.sp, .int .i64 x.dp] 26)).alloc (.cells #[.int .i64 0, .bool false, .int .u64 0, .int .u64 0, .bool false, .int .u64 0, .int .u64 0, .int .i64 0, .int .i64 0, .int .i64 0, .int .i64 0, .int .i64 0, .int .i64 0] 36) := ⟨_, rfl⟩
  have HW := Lib.hid (show Below w.heap.size w w1 from hw1 ▸ ((Below.refl w.heap.size w).alloc (Nat.le_refl _) _).alloc (by simp) _)
  have HB1 := Lib.hid (show Blk w1 (w.heap.size + 1) 36 (goneC zeroE 0) from hw1 ▸ (by
    have := Blk.new (w.alloc (.cells #[.int .i64 x.pr, .bool x.s6, .int .u64 x.sh, .int .u64 x.sl, .bool x.d6, .int .u64 x.dh, .int .u64 x.dl, .int .i64 x.sp, .int .i64 x.dp] 26)) 36 #[.int .i64 0, .bool false, .int .u64 0, .int .u64 0, .bool false, .int .u64 0, .int .u64 0, .int .i64 0, .int .i64 0, .int .i64 0, .int .i64 0, .int .i64 0, .int .i64 0]
    rw [show (w.alloc (.cells #[.int .i64 x.pr, .bool x.s6, .int .u64 x.sh, .int .u64 x.sl, .bool x.d6, .int .u64 x.dh, .int .u64 x.dl, .int .i64 x.sp, .int .i64 x.dp] 26)).heap.size = w.heap.size + 1 by simp] at this
    exact this))
  have HE := Lib.hid (h _ HW.out)
  have HW1 := Lib.hid hw1
  unfold Tup.cells
  clear h hw1
  go_enter Try.func6, Try.ntmps6
  go_wp2_with fail
  rw [← HW1.out]
  refine (HE.out).mono ?_
  rintro e w2 ⟨rfl, hb⟩
  have B2 := Lib.hid (HW.out.trans (hb.mono HW.out.size))
  have K2 := Lib.hid (show Blk w2 (w.heap.size + 1) 36 (goneC zeroE 0) from (hb.block _ HB1.out.lt).trans HB1.out)
  clear hb
  have HBL := Lib.hid (setRow_heap _ (w.heap.size + 1) _ (goneC zeroE 0) _ (0, 0) K2.out)
  have BZ := Lib.hid (below_row B2.out (show w.heap.size ≤ w.heap.size + 1 by omega) (goneC zeroE 0))
  go_wp2_with (refine wpList_store_row rfl 36 _ _ rfl (w.heap.size + 1) (goneC zeroE 0) rfl rfl 36 (goneC zeroE 0) K2.out size_g rfl (one_g _ _) ?_)
  refine bodyPost_ret (results_gone rfl _ _ (w.heap.size + 1) (goneC zeroE 0) rfl HBL.out rfl) rfl ⟨rfl, BZ.out⟩
theorem seen_un (x : Tup) (f : Int) (h : Unmade P0 w) : Calls Try.prog 7 #[P0, .agg x.cells, .int .i64 f] w fun e w' => e = .returned (.tuple #[.agg (goneC zeroE 0), .bool false]) ∧ Below w.heap.size w w' := by
  obtain ⟨w1, hw1⟩ : ∃ w1, w1 = (w.alloc (.cells #[.int .i64 x.pr, .bool x.s6, .int .u64 x.sh, .int .u64 x.sl, .bool x.d6, .int .u64 x.dh, .int .u64 x.dl, .int .i64 x.sp, .int .i64 x.dp] 26)).alloc (.cells #[.int .i64 0, .bool false, .int .u64 0, .int .u64 0, .bool false, .int .u64 0, .int .u64 0, .int .i64 0, .int .i64 0, .int .i64 0, .int .i64 0, .int .i64 0, .int .i64 0] 36) := ⟨_, rfl⟩
  have HW := Lib.hid (show Below w.heap.size w w1 from hw1 ▸ ((Below.refl w.heap.size w).alloc (Nat.le_refl _) _).alloc (by simp) _)
  have HB1 := Lib.hid (show Blk w1 (w.heap.size + 1) 36 (goneC zeroE 0) from hw1 ▸ (by
    have := Blk.new (w.alloc (.cells #[.int .i64 x.pr, .bool x.s6, .int .u64 x.sh, .int .u64 x.sl, .bool x.d6, .int .u64 x.dh, .int .u64 x.dl, .int .i64 x.sp, .int .i64 x.dp] 26)) 36 #[.int .i64 0, .bool false, .int .u64 0, .int .u64 0, .bool false, .int .u64 0, .int .u64 0, .int .i64 0, .int .i64 0, .int .i64 0, .int .i64 0, .int .i64 0, .int .i64 0]
    rw [show (w.alloc (.cells #[.int .i64 x.pr, .bool x.s6, .int .u64 x.sh, .int .u64 x.sl, .bool x.d6, .int .u64 x.dh, .int .u64 x.dl, .int .i64 x.sp, .int .i64 x.dp] 26)).heap.size = w.heap.size + 1 by simp] at this
    exact this))
  have HE := Lib.hid (h _ HW.out)
  have HW1 := Lib.hid hw1
  unfold Tup.cells
  clear h hw1
  go_enter Try.func7, Try.ntmps7
  go_wp2_with fail
  rw [← HW1.out]
  refine (HE.out).mono ?_
  rintro e w2 ⟨rfl, hb⟩
  have B2 := Lib.hid (HW.out.trans (hb.mono HW.out.size))
  have K2 := Lib.hid (show Blk w2 (w.heap.size + 1) 36 (goneC zeroE 0) from (hb.block _ HB1.out.lt).trans HB1.out)
  clear hb
  have HBL := Lib.hid (setRow_heap _ (w.heap.size + 1) _ (goneC zeroE 0) _ (0, 0) K2.out)
  have BZ := Lib.hid (below_row B2.out (show w.heap.size ≤ w.heap.size + 1 by omega) (goneC zeroE 0))
  go_wp2_with (refine wpList_store_row rfl 36 _ _ rfl (w.heap.size + 1) (goneC zeroE 0) rfl rfl 36 (goneC zeroE 0) K2.out size_g rfl (one_g _ _) ?_)
  refine bodyPost_ret (results_gone rfl _ _ (w.heap.size + 1) (goneC zeroE 0) rfl HBL.out rfl) rfl ⟨rfl, BZ.out⟩
end
end Go.Proofs.Ytboknpkcpeoebaa.pinB
