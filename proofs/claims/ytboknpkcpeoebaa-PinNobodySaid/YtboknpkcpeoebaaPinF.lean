/- Layer 29: the law of PinNobody. -/
import Derived.Test.YtboknpkcpeoebaaPinE
namespace Go.Proofs.Ytboknpkcpeoebaa.pinF
open Go.ChangeShapes Go.WideShapes Go.ChangeAt Go.RowKit
open Go.Proofs.Ytboknpkcpeoebaa.base Go.Proofs.Ytboknpkcpeoebaa.flowE Go.Proofs.Ytboknpkcpeoebaa.flowG Go.Proofs.Ytboknpkcpeoebaa.flowI Go.Proofs.Ytboknpkcpeoebaa.flowP Go.Proofs.Ytboknpkcpeoebaa.flowS Go.Proofs.Ytboknpkcpeoebaa.flowT Go.Proofs.Ytboknpkcpeoebaa.flowX Go.Proofs.Ytboknpkcpeoebaa.connD Go.Proofs.Ytboknpkcpeoebaa.pinA
open Go.Proofs.Ytboknpkcpeoebaa.pinB Go.Proofs.Ytboknpkcpeoebaa.pinC Go.Proofs.Ytboknpkcpeoebaa.pinE
set_option linter.unusedVariables false

/-- How things stand while the law asks. -/
structure Sn (w : World) (x : Tup) (W : World) : Prop where
  box : Blk W w.heap.size 26 x.cells
  zero : Blk W (w.heap.size + 2) 34 #[.pointer none, .int .i64 0, .int .i64 0, .int .i64 0, .int .i64 0, .int .i64 0]
  bel : Below w.heap.size w W
theorem Sn.below {w : World} {x : Tup} {W W' : World} (h : Sn w x W) (hb : Below W.heap.size W W') : Sn w x W' := ⟨h.box.below hb h.box.lt, h.zero.below hb h.zero.lt, h.bel.trans (hb.mono h.bel.size)⟩
theorem Sn.unz {w : World} {x : Tup} {W : World} (h : Sn w x W) : Unmade (.pointer (some ⟨w.heap.size + 2, 0, none⟩)) W := unmade_zero h.zero
def C9 (w : World) (x : Tup) (W : World) : Prop := W.cell? ⟨w.heap.size, 0, none⟩ = some (.int .i64 x.pr) ∧ W.cell? ⟨w.heap.size, 1, none⟩ = some (.bool x.s6) ∧ W.cell? ⟨w.heap.size, 2, none⟩ = some (.int .u64 x.sh) ∧ W.cell? ⟨w.heap.size, 3, none⟩ = some (.int .u64 x.sl) ∧ W.cell? ⟨w.heap.size, 4, none⟩ = some (.bool x.d6) ∧ W.cell? ⟨w.heap.size, 5, none⟩ = some (.int .u64 x.dh) ∧ W.cell? ⟨w.heap.size, 6, none⟩ = some (.int .u64 x.dl) ∧ W.cell? ⟨w.heap.size, 7, none⟩ = some (.int .i64 x.sp) ∧ W.cell? ⟨w.heap.size, 8, none⟩ = some (.int .i64 x.dp)
theorem Sn.c9 {w : World} {x : Tup} {W : World} (h : Sn w x W) : C9 w x W := ⟨h.box.cell 0, h.box.cell 1, h.box.cell 2, h.box.cell 3, h.box.cell 4, h.box.cell 5, h.box.cell 6, h.box.cell 7, h.box.cell 8⟩
set_option maxRecDepth 100000 in
set_option maxHeartbeats 8000000 in
theorem nobody_any (x : Tup) (e : Ent) (w : World) : Calls Try.prog 3 #[.agg x.cells, .agg e.cells] w fun o w' => o = .returned (.bool true) ∧ Below w.heap.size w w' := by
  have HUN := Lib.hid (fun W => unmade_nil W)
  have HPI := Lib.hid (show ∀ W, Calls Try.prog 6 #[.pointer none, .agg #[.int .i64 x.pr, .bool x.s6, .int .u64 x.sh, .int .u64 x.sl, .bool x.d6, .int .u64 x.dh, .int .u64 x.dl, .int .i64 x.sp, .int .i64 x.dp], .int .i64 1, .int .i64 2] W _ from fun W => pin_un x 1 2 (unmade_nil W))
  have HSE := Lib.hid (show ∀ W, Sn w x W → Calls Try.prog 7 #[.pointer (some ⟨w.heap.size + 2, 0, none⟩), .agg #[.int .i64 x.pr, .bool x.s6, .int .u64 x.sh, .int .u64 x.sl, .bool x.d6, .int .u64 x.dh, .int .u64 x.dl, .int .i64 x.sp, .int .i64 x.dp], .int .i64 2] W _ from fun W h => seen_un x 2 h.unz)
  have HGZ := Lib.hid (fun W (h : Sn w x W) => go_un 1 h.unz)
  have HGN := Lib.hid (fun W => go_un 1 (unmade_nil W))
  have HHN := Lib.hid (show ∀ W, Calls Try.prog 9 #[.pointer none, .agg #[.int .i64 x.pr, .bool x.s6, .int .u64 x.sh, .int .u64 x.sl, .bool x.d6, .int .u64 x.dh, .int .u64 x.dl, .int .i64 x.sp, .int .i64 x.dp]] W _ from fun W => host_un x (unmade_nil W))
  have HNN := Lib.hid (fun W => now_un (unmade_nil W))
  have HNZ := Lib.hid (fun W (h : Sn w x W) => now_un h.unz)
  have HLN := Lib.hid (fun W v => lose_un v (unmade_nil W))
  have HFZ := Lib.hid (fun W (h : Sn w x W) => forget_un h.unz)
  have HRN := Lib.hid (fun W => rename_un none (unmade_nil W))
  have HAW := Lib.hid (fun W => awake_any W)
  have S0 := Lib.hid (show Sn w x (((w.alloc (.cells #[.int .i64 x.pr, .bool x.s6, .int .u64 x.sh, .int .u64 x.sl, .bool x.d6, .int .u64 x.dh, .int .u64 x.dl, .int .i64 x.sp, .int .i64 x.dp] 26)).alloc (.cells #[.int .i64 e.x.pr, .bool e.x.s6, .int .u64 e.x.sh, .int .u64 e.x.sl, .bool e.x.d6, .int .u64 e.x.dh, .int .u64 e.x.dl, .int .i64 e.x.sp, .int .i64 e.x.dp, .int .i64 e.host, .int .i64 e.state, .int .i64 e.till] 28)).alloc (.cells #[.pointer none, .int .i64 0, .int .i64 0, .int .i64 0, .int .i64 0, .int .i64 0] 34)) from
    ⟨((Blk.new w _ _).alloc _).alloc _, by
      have := Blk.new ((w.alloc (.cells #[.int .i64 x.pr, .bool x.s6, .int .u64 x.sh, .int .u64 x.sl, .bool x.d6, .int .u64 x.dh, .int .u64 x.dl, .int .i64 x.sp, .int .i64 x.dp] 26)).alloc (.cells #[.int .i64 e.x.pr, .bool e.x.s6, .int .u64 e.x.sh, .int .u64 e.x.sl, .bool e.x.d6, .int .u64 e.x.dh, .int .u64 e.x.dl, .int .i64 e.x.sp, .int .i64 e.x.dp, .int .i64 e.host, .int .i64 e.state, .int .i64 e.till] 28)) 34 #[.pointer none, .int .i64 0, .int .i64 0, .int .i64 0, .int .i64 0, .int .i64 0]
      simpa using this, (((Below.refl w.heap.size w).alloc (Nat.le_refl _) _).alloc (by simp) _).alloc (by simp; omega) _⟩)
  unfold Tup.cells Ent.cells
  obtain ⟨a0, a1, a2, a3, a4, a5, a6, a7, a8⟩ := S0.out.c9
  go_enter Try.func3, Try.ntmps3
  go_wp2_with fail
  refine (HPI.out _).mono ?_
  rintro o w1 ⟨rfl, hb⟩
  have S1 := Lib.hid (S0.out.below hb)
  have S1a := Lib.hid (S1.out.below ((Below.refl w1.heap.size w1).alloc (Nat.le_refl _) (.cells #[.int .i64 0, .bool false, .int .u64 0, .int .u64 0, .bool false, .int .u64 0, .int .u64 0, .int .i64 0, .int .i64 0, .int .i64 0, .int .i64 0, .int .i64 0, .int .i64 0] 36)))
  obtain ⟨b0, b1, b2, b3, b4, b5, b6, b7, b8⟩ := S1a.out.c9
  clear hb a0 a1 a2 a3 a4 a5 a6 a7 a8 S0
  unfold goneC zeroE
  dsimp only
  go_wp2_with fail
  refine (HSE.out _ S1a.out).mono ?_
  rintro o w2 ⟨rfl, hb⟩
  have S2 := Lib.hid (S1a.out.below hb)
  have S2a := Lib.hid (S2.out.below ((Below.refl w2.heap.size w2).alloc (Nat.le_refl _) (.cells #[.int .i64 0, .bool false, .int .u64 0, .int .u64 0, .bool false, .int .u64 0, .int .u64 0, .int .i64 0, .int .i64 0, .int .i64 0, .int .i64 0, .int .i64 0, .int .i64 0] 36)))
  clear hb b0 b1 b2 b3 b4 b5 b6 b7 b8 S1 S1a
  unfold goneC zeroE
  dsimp only
  go_wp2_with fail
  refine (HGZ.out _ S2a.out).mono ?_
  rintro o w3 ⟨rfl, hb⟩
  have S3 := Lib.hid (S2a.out.below hb)
  clear hb S2 S2a
  go_wp2_with fail
  refine (HGN.out _).mono ?_
  rintro o w4 ⟨rfl, hb⟩
  have S4 := Lib.hid (S3.out.below hb)
  obtain ⟨a0, a1, a2, a3, a4, a5, a6, a7, a8⟩ := S4.out.c9
  clear hb S3
  go_wp2_with fail
  refine (HHN.out _).mono ?_
  rintro o w5 ⟨rfl, hb⟩
  have S5 := Lib.hid (S4.out.below hb)
  clear hb S4 a0 a1 a2 a3 a4 a5 a6 a7 a8
  go_wp2_with fail
  refine (HNN.out _).mono ?_
  rintro o w6 ⟨rfl, hb⟩
  have S6 := Lib.hid (S5.out.below hb)
  clear hb S5
  go_wp2_with fail
  refine (HNZ.out _ S6.out).mono ?_
  rintro o w7 ⟨rfl, hb⟩
  have S7 := Lib.hid (S6.out.below hb)
  clear hb S6
  go_wp2_with fail
  refine (HLN.out _ _).mono ?_
  rintro o w8 ⟨rfl, hb⟩
  have S8 := Lib.hid ((S7.out.below ((Below.refl w7.heap.size w7).alloc (Nat.le_refl _) (.cells #[.int .i64 1] 3))).below hb)
  clear hb S7
  go_wp2_with fail
  refine (HFZ.out _ S8.out).mono ?_
  rintro o w9 ⟨rfl, hb⟩
  have S9 := Lib.hid (S8.out.below hb)
  clear hb S8
  go_wp2_with fail
  refine (HRN.out _).mono ?_
  rintro o wa ⟨rfl, hb⟩
  have Sa := Lib.hid (S9.out.below hb)
  clear hb S9
  go_wp2_with fail
  refine (HAW.out _).mono ?_
  rintro o wb ⟨rfl, hb⟩
  have HZ := Lib.hid ((Sa.out.below hb).bel)
  clear hb Sa
  go_wp2_with fail
  go_ret
  exact ⟨rfl, HZ.out⟩
end Go.Proofs.Ytboknpkcpeoebaa.pinF
