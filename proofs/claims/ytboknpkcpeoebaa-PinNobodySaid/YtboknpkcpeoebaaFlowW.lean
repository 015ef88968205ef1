/- Layer 27: a flow that is not there is put in. -/
import Derived.Test.YtboknpkcpeoebaaFlowV
namespace Go.Proofs.Ytboknpkcpeoebaa.flowW
open Go.ChangeShapes Go.WideShapes Go.ChangeAt Go.RowKit
open Go.Proofs.Ytboknpkcpeoebaa.base Go.Proofs.Ytboknpkcpeoebaa.flowA Go.Proofs.Ytboknpkcpeoebaa.flowB Go.Proofs.Ytboknpkcpeoebaa.flowC Go.Proofs.Ytboknpkcpeoebaa.flowD Go.Proofs.Ytboknpkcpeoebaa.flowE Go.Proofs.Ytboknpkcpeoebaa.flowF Go.Proofs.Ytboknpkcpeoebaa.flowG Go.Proofs.Ytboknpkcpeoebaa.flowH Go.Proofs.Ytboknpkcpeoebaa.flowI Go.Proofs.Ytboknpkcpeoebaa.flowL Go.Proofs.Ytboknpkcpeoebaa.flowM Go.Proofs.Ytboknpkcpeoebaa.flowN Go.Proofs.Ytboknpkcpeoebaa.flowO Go.Proofs.Ytboknpkcpeoebaa.flowP Go.Proofs.Ytboknpkcpeoebaa.flowQ Go.Proofs.Ytboknpkcpeoebaa.flowR Go.Proofs.Ytboknpkcpeoebaa.flowS Go.Proofs.Ytboknpkcpeoebaa.flowT Go.Proofs.Ytboknpkcpeoebaa.flowU Go.Proofs.Ytboknpkcpeoebaa.flowV
set_option linter.unusedVariables false

set_option maxHeartbeats 16000000 in
theorem put_new1 {w : World} {ta r : Nat} {v : Value} {n : Nat} {seed : Int} {t : Tb Ent} {L F : List Nat} {C : Nat → List Nat} (e : Ent) (h : MemF w ta r v n seed t) (g0 : GoodF n seed t L F C) (hn : 1 ≤ n) (hn2 : n ≤ 4096) (hnew : ∀ p, p ∈ L → (t.ent p).x ≠ e.x) (hfull : t.size < n) (hF : F = []) :
    Calls Try.prog 23 #[.pointer (some ⟨ta, 0, none⟩), .agg e.cells] w fun o w' => o = .returned (.tuple #[.agg zeroE.cells, .bool false]) ∧ ∃ v', MemF w' ta r v' n seed (placeT t e (rowN n seed e.x) t.np (t.np + 1) (-1)) ∧ Frm ta r v w w' ∧ ∀ g, v'.ownBlock = some g → v.ownBlock = some g ∨ w.heap.size ≤ g := by
  have S0 := Lib.hid (((StG.start h).add e.cells).add zeroE.cells)
  rw [show (w.alloc (.cells e.cells 28)).heap.size = w.heap.size + 1 by simp] at S0
  have HG := Lib.hid g0
  have HNEW := Lib.hid hnew
  obtain ⟨w1, hw1⟩ : ∃ w1, w1 = (w.alloc (.cells e.cells 28)).alloc (.cells zeroE.cells 28) := ⟨_, rfl⟩
  rw [← hw1] at S0
  have HT := Lib.hid (show Calls Try.prog 45 #[.pointer (some ⟨ta, 0, none⟩), .agg #[.int .i64 e.x.pr, .bool e.x.s6, .int .u64 e.x.sh, .int .u64 e.x.sl, .bool e.x.d6, .int .u64 e.x.dh, .int .u64 e.x.dl, .int .i64 e.x.sp, .int .i64 e.x.dp]] w1 fun o w' => Frm ta r v w1 w' ∧ o = .returned (.bool false) ∧ MemF w' ta r v n seed t from (touch_mem e.x S0.out.mem g0 hn hn2).mono fun o w' ⟨hf, h⟩ => ⟨hf, by
    rcases h with ⟨h1, h2, _⟩ | ⟨A, a, B, hL, hax, _⟩
    · exact ⟨h1, h2⟩
    · exact absurd hax (hnew a (by rw [hL]; simp))⟩)
  have c0 : ((w.alloc (.cells #[.int .i64 e.x.pr, .bool e.x.s6, .int .u64 e.x.sh, .int .u64 e.x.sl, .bool e.x.d6, .int .u64 e.x.dh, .int .u64 e.x.dl, .int .i64 e.x.sp, .int .i64 e.x.dp, .int .i64 e.host, .int .i64 e.state, .int .i64 e.till] 28)).alloc (.cells #[.int .i64 0, .bool false, .int .u64 0, .int .u64 0, .bool false, .int .u64 0, .int .u64 0, .int .i64 0, .int .i64 0, .int .i64 0, .int .i64 0, .int .i64 0] 28)).cell? ⟨ta, 0, none⟩ = some (.int .i64 n) := by
    have := S0.out.mem.cells.1
    rw [hw1] at this
    exact this
  have n0 : ((n : Int) == 0) = false := by simp; omega
  obtain ⟨rr, hrr⟩ : ∃ rr, rr = rowN n seed e.x := ⟨_, rfl⟩
  have hr : rr < n := hrr ▸ (row_in n seed e.x hn).2
  rw [← hrr]
  have HRR := Lib.hid hrr
  have nd : t.size ≤ t.np ∧ t.np ≤ 4096 := by
    have h1 := g0.perm.length_eq
    have h2 := g0.cap
    rw [List.length_append, List.length_range] at h1
    rw [g0.size]
    omega
  unfold Ent.cells
  clear h g0 hnew hrr
  go_enter Try.func23, Try.ntmps23
  go_wp2_with fail
  rw [show ((w.alloc (.cells #[.int .i64 e.x.pr, .bool e.x.s6, .int .u64 e.x.sh, .int .u64 e.x.sl, .bool e.x.d6, .int .u64 e.x.dh, .int .u64 e.x.dl, .int .i64 e.x.sp, .int .i64 e.x.dp, .int .i64 e.host, .int .i64 e.state, .int .i64 e.till] 28)).alloc (.cells #[.int .i64 0, .bool false, .int .u64 0, .int .u64 0, .bool false, .int .u64 0, .int .u64 0, .int .i64 0, .int .i64 0, .int .i64 0, .int .i64 0, .int .i64 0] 28)) = w1 from hw1.symm]
  refine (HT.out).mono ?_
  rintro o w2 ⟨hf, rfl, hm⟩
  have S2 := Lib.hid (S0.out.go hm hf)
  clear hf hm hw1 c0
  have c2 := S2.out.mem.cells.2.2.1
  have c0 := S2.out.mem.cells.1
  have qf : ((t.size : Int) == (n : Int)) = false := by simp; omega
  have S3a := Lib.hid (show StG w (w2.alloc (.cells #[.int .i64 0, .bool false, .int .u64 0, .int .u64 0, .bool false, .int .u64 0, .int .u64 0, .int .i64 0, .int .i64 0, .int .i64 0, .int .i64 0, .int .i64 0] 28)).drew ta r v v n seed t [(w2.heap.size, zeroE.cells), (w.heap.size + 1, zeroE.cells), (w.heap.size, e.cells)] from (S2.out.add zeroE.cells).drew)
  have hl2 : ta < w2.heap.size := S2.out.mem.tab.lt
  go_wp2_with fail
  go_region
  clear S2 c2 c0
  generalize (w2.alloc (.cells #[.int .i64 0, .bool false, .int .u64 0, .int .u64 0, .bool false, .int .u64 0, .int .u64 0, .int .i64 0, .int .i64 0, .int .i64 0, .int .i64 0, .int .i64 0] 28)).drew = w3 at *
  generalize w2.heap.size = b2 at *
  have hfr : t.free = -1 := by rw [HG.out.free, hF]; rfl
  go_wp2_with fail
  refine (room_new S3a.out.mem hfr (by omega)).mono ?_
  rintro o w4 ⟨rfl, v4, hm, hf, hv⟩
  obtain ⟨t1, ht1⟩ : ∃ t1, t1 = moreT t := ⟨_, rfl⟩
  rw [← ht1] at hm
  have S4 := Lib.hid (S3a.out.goV hm hf hv)
  have hAT : t.np < t1.np := by rw [ht1]; exact Nat.lt_succ_self _
  have HNW := Lib.hid (show t1.newest = -1 ∨ ∃ q : Nat, t1.newest = (q : Int) ∧ q < t1.np from by
    rw [ht1]
    show t.newest = -1 ∨ ∃ q : Nat, t.newest = (q : Int) ∧ q < t.np + 1
    rw [HG.out.lru.hd]
    cases L with
    | nil => exact .inl rfl
    | cons q L => exact .inr ⟨q, rfl, Nat.lt_succ_of_lt (HG.out.lt q (.inl (by simp)))⟩)
  have hwr : IntKind.i64.wrap ((t1.size : Int) + 1) = ((t1.size + 1 : Nat) : Int) := by
    have : t1.size = t.size := by rw [ht1]; rfl
    rw [IntWalk.i64_in _ (by omega)]
    omega
  have HT1 := Lib.hid ht1
  have HFR := Lib.hid hfr
  have HFF := Lib.hid hF
  clear hm hf hv ht1 hfr hF S3a
  have HROW := Lib.hid (show Calls Try.prog 48 #[.pointer (some ⟨ta, 0, none⟩), .agg #[.int .i64 e.x.pr, .bool e.x.s6, .int .u64 e.x.sh, .int .u64 e.x.sl, .bool e.x.d6, .int .u64 e.x.dh, .int .u64 e.x.dl, .int .i64 e.x.sp, .int .i64 e.x.dp]] w4 fun o w' => o = .returned (.int .i64 rr) ∧ Below w4.heap.size w4 w' from by rw [HRR.out]; exact row_any e.x S4.out.mem hn hn2)
  have m0 : w4.cell? ⟨w.heap.size, 0, none⟩ = some (.int .i64 e.x.pr) := (S4.out.blk (w.heap.size, e.cells) (by simp)).1.cell 0
  have m1 : w4.cell? ⟨w.heap.size, 1, none⟩ = some (.bool e.x.s6) := (S4.out.blk (w.heap.size, e.cells) (by simp)).1.cell 1
  have m2 : w4.cell? ⟨w.heap.size, 2, none⟩ = some (.int .u64 e.x.sh) := (S4.out.blk (w.heap.size, e.cells) (by simp)).1.cell 2
  have m3 : w4.cell? ⟨w.heap.size, 3, none⟩ = some (.int .u64 e.x.sl) := (S4.out.blk (w.heap.size, e.cells) (by simp)).1.cell 3
  have m4 : w4.cell? ⟨w.heap.size, 4, none⟩ = some (.bool e.x.d6) := (S4.out.blk (w.heap.size, e.cells) (by simp)).1.cell 4
  have m5 : w4.cell? ⟨w.heap.size, 5, none⟩ = some (.int .u64 e.x.dh) := (S4.out.blk (w.heap.size, e.cells) (by simp)).1.cell 5
  have m6 : w4.cell? ⟨w.heap.size, 6, none⟩ = some (.int .u64 e.x.dl) := (S4.out.blk (w.heap.size, e.cells) (by simp)).1.cell 6
  have m7 : w4.cell? ⟨w.heap.size, 7, none⟩ = some (.int .i64 e.x.sp) := (S4.out.blk (w.heap.size, e.cells) (by simp)).1.cell 7
  have m8 : w4.cell? ⟨w.heap.size, 8, none⟩ = some (.int .i64 e.x.dp) := (S4.out.blk (w.heap.size, e.cells) (by simp)).1.cell 8
  go_wp2_with fail
  refine (HROW.out).mono ?_
  rintro o w5 ⟨rfl, hb⟩
  have S5 := Lib.hid (S4.out.below hb)
  clear hb HROW m0 m1 m2 m3 m4 m5 m6 m7 m8
  obtain ⟨g, cap, hv4, g1, g2, hcp, hmx, hc, hfz⟩ := S5.out.mem.place (t.np) hAT
  subst hv4
  unfold maxLen at hmx
  have c3 := S5.out.mem.cells.2.2.2.1
  have c4 := S5.out.mem.cells.2.2.2.2.1
  have cr := (S5.out.mem.row rr hr).1
  have k0 : w5.cell? ⟨w.heap.size, 0, none⟩ = some (.int .i64 e.x.pr) := (S5.out.blk (w.heap.size, e.cells) (by simp)).1.cell 0
  have k1 : w5.cell? ⟨w.heap.size, 1, none⟩ = some (.bool e.x.s6) := (S5.out.blk (w.heap.size, e.cells) (by simp)).1.cell 1
  have k2 : w5.cell? ⟨w.heap.size, 2, none⟩ = some (.int .u64 e.x.sh) := (S5.out.blk (w.heap.size, e.cells) (by simp)).1.cell 2
  have k3 : w5.cell? ⟨w.heap.size, 3, none⟩ = some (.int .u64 e.x.sl) := (S5.out.blk (w.heap.size, e.cells) (by simp)).1.cell 3
  have k4 : w5.cell? ⟨w.heap.size, 4, none⟩ = some (.bool e.x.d6) := (S5.out.blk (w.heap.size, e.cells) (by simp)).1.cell 4
  have k5 : w5.cell? ⟨w.heap.size, 5, none⟩ = some (.int .u64 e.x.dh) := (S5.out.blk (w.heap.size, e.cells) (by simp)).1.cell 5
  have k6 : w5.cell? ⟨w.heap.size, 6, none⟩ = some (.int .u64 e.x.dl) := (S5.out.blk (w.heap.size, e.cells) (by simp)).1.cell 6
  have k7 : w5.cell? ⟨w.heap.size, 7, none⟩ = some (.int .i64 e.x.sp) := (S5.out.blk (w.heap.size, e.cells) (by simp)).1.cell 7
  have k8 : w5.cell? ⟨w.heap.size, 8, none⟩ = some (.int .i64 e.x.dp) := (S5.out.blk (w.heap.size, e.cells) (by simp)).1.cell 8
  have k9 : w5.cell? ⟨w.heap.size, 9, none⟩ = some (.int .i64 e.host) := (S5.out.blk (w.heap.size, e.cells) (by simp)).1.cell 9
  have k10 : w5.cell? ⟨w.heap.size, 10, none⟩ = some (.int .i64 e.state) := (S5.out.blk (w.heap.size, e.cells) (by simp)).1.cell 10
  have k11 : w5.cell? ⟨w.heap.size, 11, none⟩ = some (.int .i64 e.till) := (S5.out.blk (w.heap.size, e.cells) (by simp)).1.cell 11
  have d0 : w5.cell? ⟨g, t.np * 15, none⟩ = some (.int .i64 (t1.ent t.np).x.pr) := hc 0 (by omega)
  have f0 := hfz (t.np * 15)
  have d1 : w5.cell? ⟨g, t.np * 15 + 1, none⟩ = some (.bool (t1.ent t.np).x.s6) := hc 1 (by omega)
  have f1 := hfz (t.np * 15 + 1)
  have d2 : w5.cell? ⟨g, t.np * 15 + 2, none⟩ = some (.int .u64 (t1.ent t.np).x.sh) := hc 2 (by omega)
  have f2 := hfz (t.np * 15 + 2)
  have d3 : w5.cell? ⟨g, t.np * 15 + 3, none⟩ = some (.int .u64 (t1.ent t.np).x.sl) := hc 3 (by omega)
  have f3 := hfz (t.np * 15 + 3)
  have d4 : w5.cell? ⟨g, t.np * 15 + 4, none⟩ = some (.bool (t1.ent t.np).x.d6) := hc 4 (by omega)
  have f4 := hfz (t.np * 15 + 4)
  have d5 : w5.cell? ⟨g, t.np * 15 + 5, none⟩ = some (.int .u64 (t1.ent t.np).x.dh) := hc 5 (by omega)
  have f5 := hfz (t.np * 15 + 5)
  have d6 : w5.cell? ⟨g, t.np * 15 + 6, none⟩ = some (.int .u64 (t1.ent t.np).x.dl) := hc 6 (by omega)
  have f6 := hfz (t.np * 15 + 6)
  have d7 : w5.cell? ⟨g, t.np * 15 + 7, none⟩ = some (.int .i64 (t1.ent t.np).x.sp) := hc 7 (by omega)
  have f7 := hfz (t.np * 15 + 7)
  have d8 : w5.cell? ⟨g, t.np * 15 + 8, none⟩ = some (.int .i64 (t1.ent t.np).x.dp) := hc 8 (by omega)
  have f8 := hfz (t.np * 15 + 8)
  have d9 : w5.cell? ⟨g, t.np * 15 + 9, none⟩ = some (.int .i64 (t1.ent t.np).host) := hc 9 (by omega)
  have f9 := hfz (t.np * 15 + 9)
  have d10 : w5.cell? ⟨g, t.np * 15 + 10, none⟩ = some (.int .i64 (t1.ent t.np).state) := hc 10 (by omega)
  have f10 := hfz (t.np * 15 + 10)
  have d11 : w5.cell? ⟨g, t.np * 15 + 11, none⟩ = some (.int .i64 (t1.ent t.np).till) := hc 11 (by omega)
  have f11 := hfz (t.np * 15 + 11)
  have d12 : w5.cell? ⟨g, t.np * 15 + 12, none⟩ = some (.int .i64 (t1.nw t.np)) := hc 12 (by omega)
  have f12 := hfz (t.np * 15 + 12)
  have d13 : w5.cell? ⟨g, t.np * 15 + 13, none⟩ = some (.int .i64 (t1.od t.np)) := hc 13 (by omega)
  have f13 := hfz (t.np * 15 + 13)
  have d14 : w5.cell? ⟨g, t.np * 15 + 14, none⟩ = some (.int .i64 (t1.bh t.np)) := hc 14 (by omega)
  have f14 := hfz (t.np * 15 + 14)
  have q0 : (0 : Int) ≤ (t.np : Nat) := by omega
  have q1 : ((t.np : Nat) : Int) < t1.np := by omega
  have r0 : (0 : Int) ≤ rr := by omega
  have r1 : (rr : Int) < n := by omega
  clear hc hfz
  go_wp2_with fail
  go_region
  have S6 := Lib.hid (show StG w ((((((((((((((((w5.setCell ⟨g, t.np * 15, none⟩ (.int .i64 e.x.pr)).setCell ⟨g, t.np * 15 + 1, none⟩ (.bool e.x.s6)).setCell ⟨g, t.np * 15 + 2, none⟩ (.int .u64 e.x.sh)).setCell ⟨g, t.np * 15 + 3, none⟩ (.int .u64 e.x.sl)).setCell ⟨g, t.np * 15 + 4, none⟩ (.bool e.x.d6)).setCell ⟨g, t.np * 15 + 5, none⟩ (.int .u64 e.x.dh)).setCell ⟨g, t.np * 15 + 6, none⟩ (.int .u64 e.x.dl)).setCell ⟨g, t.np * 15 + 7, none⟩ (.int .i64 e.x.sp)).setCell ⟨g, t.np * 15 + 8, none⟩ (.int .i64 e.x.dp)).setCell ⟨g, t.np * 15 + 9, none⟩ (.int .i64 e.host)).setCell ⟨g, t.np * 15 + 10, none⟩ (.int .i64 e.state)).setCell ⟨g, t.np * 15 + 11, none⟩ (.int .i64 e.till)).setCell ⟨g, t.np * 15 + 12, none⟩ (.int .i64 0)).setCell ⟨g, t.np * 15 + 13, none⟩ (.int .i64 0)).setCell ⟨g, t.np * 15 + 14, none⟩ (.int .i64 (t1.rows rr)))).drew ta r _ (.slice (some ⟨g, 0, none⟩) t1.np cap) n seed { t1 with ent := updF t1.ent t.np e, nw := updF t1.nw t.np 0, od := updF t1.od t.np 0, bh := updF t1.bh t.np (t1.rows rr) } [(b2, zeroE.cells), (w.heap.size + 1, zeroE.cells), (w.heap.size, e.cells)] from (S5.out.go (S5.out.mem.setAll (t.np) hAT e 0 0 (t1.rows rr)) (Frm.setCells (.inr (.inr (.inl rfl))) (cellsOf e 0 0 (t1.rows rr)).toList w5 (t.np * 15) (Frm.refl _ _ _ _))).drew)
  clear c3 c4 cr k0 k1 k2 k3 k4 k5 k6 k7 k8 k9 k10 k11 d0 f0 d1 f1 d2 f2 d3 f3 d4 f4 d5 f5 d6 f6 d7 f7 d8 f8 d9 f9 d10 f10 d11 f11 d12 f12 d13 f13 d14 f14
  generalize ((((((((((((((((w5.setCell ⟨g, t.np * 15, none⟩ (.int .i64 e.x.pr)).setCell ⟨g, t.np * 15 + 1, none⟩ (.bool e.x.s6)).setCell ⟨g, t.np * 15 + 2, none⟩ (.int .u64 e.x.sh)).setCell ⟨g, t.np * 15 + 3, none⟩ (.int .u64 e.x.sl)).setCell ⟨g, t.np * 15 + 4, none⟩ (.bool e.x.d6)).setCell ⟨g, t.np * 15 + 5, none⟩ (.int .u64 e.x.dh)).setCell ⟨g, t.np * 15 + 6, none⟩ (.int .u64 e.x.dl)).setCell ⟨g, t.np * 15 + 7, none⟩ (.int .i64 e.x.sp)).setCell ⟨g, t.np * 15 + 8, none⟩ (.int .i64 e.x.dp)).setCell ⟨g, t.np * 15 + 9, none⟩ (.int .i64 e.host)).setCell ⟨g, t.np * 15 + 10, none⟩ (.int .i64 e.state)).setCell ⟨g, t.np * 15 + 11, none⟩ (.int .i64 e.till)).setCell ⟨g, t.np * 15 + 12, none⟩ (.int .i64 0)).setCell ⟨g, t.np * 15 + 13, none⟩ (.int .i64 0)).setCell ⟨g, t.np * 15 + 14, none⟩ (.int .i64 (t1.rows rr)))).drew = w6 at *
  have c2 := S6.out.mem.cells.2.2.1
  have c4 := S6.out.mem.cells.2.2.2.2.1
  have cr := (S6.out.mem.row rr hr).1
  have cf := (S6.out.mem.row rr hr).2
  have cf2 := S6.out.mem.cells.2.2.2.2.2.2.2.2 2
  have hne := S6.out.mem.ne
  have S7 := Lib.hid (show StG w ((w6.setCell ⟨r, rr, none⟩ (.int .i64 (t.np : Nat))).setCell ⟨ta, 2, none⟩ (.int .i64 ((t1.size + 1 : Nat) : Int))) ta r _ (.slice (some ⟨g, 0, none⟩) t1.np cap) n seed { { { t1 with ent := updF t1.ent t.np e, nw := updF t1.nw t.np 0, od := updF t1.od t.np 0, bh := updF t1.bh t.np (t1.rows rr) } with rows := updF t1.rows rr (t.np : Nat) } with size := t1.size + 1 } [(b2, zeroE.cells), (w.heap.size + 1, zeroE.cells), (w.heap.size, e.cells)] from S6.out.go ((S6.out.mem.setRow rr hr (t.np : Nat)).setSize (t1.size + 1)) (((Frm.refl ta r (.slice (some ⟨g, 0, none⟩) t1.np cap) w6).setCell (p := ⟨r, rr, none⟩) (.inr (.inl rfl)) (.int .i64 (t.np : Nat))).setCell (p := ⟨ta, 2, none⟩) (.inl rfl) (.int .i64 ((t1.size + 1 : Nat) : Int))))
  go_wp2_with fail
  refine (flowJ.link_any (t.np) S7.out.mem hAT HNW.out).mono ?_
  rintro o w8 ⟨rfl, hm, hf⟩
  have S8 := Lib.hid (S7.out.go hm hf)
  have BG := Lib.hid (S8.out.blk (b2, zeroE.cells) (by simp)).1
  have BR := Lib.hid (S8.out.blk (w.heap.size + 1, zeroE.cells) (by simp)).1
  have S9 := Lib.hid (S8.out.set (b := w.heap.size + 1) (c := zeroE.cells) (by simp) (zeroE.cells) [(w.heap.size + 1, zeroE.cells)] (fun p hp => .inl (by simpa using hp)))
  clear hm hf
  go_wp2_with (first
    | (refine wpList_load_row rfl 28 _ rfl b2 rfl 28 (zeroE.cells) (0, 0) _ BG.out Try.underlying28 rfl size_e ?_)
    | (refine wpList_store_row rfl 28 _ _ rfl (w.heap.size + 1) (zeroE.cells) rfl rfl 28 zeroE.cells BR.out size_e rfl (one_e _) ?_))
  refine bodyPost_ret (results_entry rfl _ _ (w.heap.size + 1) (zeroE.cells) rfl (S9.out.blk _ (List.mem_singleton.mpr rfl)).1 rfl) rfl ?_
  refine ⟨rfl, _, ?_, S9.out.frm, S9.out.own⟩
  have e9 : placeT t e rr t.np (t.np + 1) (-1) = linkT { { { t1 with ent := updF t1.ent t.np e, nw := updF t1.nw t.np 0, od := updF t1.od t.np 0, bh := updF t1.bh t.np (t1.rows rr) } with rows := updF t1.rows rr (t.np : Nat) } with size := t1.size + 1 } t.np := by
    rw [HT1.out]
    unfold placeT moreT
    dsimp only
    rw [upd_twice, upd_twice, upd_twice, upd_twice, HFR.out]
  exact Eq.mpr (congrArg (fun s => MemF _ ta r _ n seed s) e9) S9.out.mem
set_option maxHeartbeats 16000000 in
theorem put_new2 {w : World} {ta r : Nat} {v : Value} {n : Nat} {seed : Int} {t : Tb Ent} {L F : List Nat} {C : Nat → List Nat} (e : Ent) (h : MemF w ta r v n seed t) (g0 : GoodF n seed t L F C) (hn : 1 ≤ n) (hn2 : n ≤ 4096) (hnew : ∀ p, p ∈ L → (t.ent p).x ≠ e.x) (f : Nat) (F2 : List Nat) (hfull : t.size < n) (hF : F = f :: F2) :
    Calls Try.prog 23 #[.pointer (some ⟨ta, 0, none⟩), .agg e.cells] w fun o w' => o = .returned (.tuple #[.agg zeroE.cells, .bool false]) ∧ MemF w' ta r v n seed (placeT t e (rowN n seed e.x) f t.np (t.bh f)) ∧ Frm ta r v w w' := by
  have S0 := Lib.hid (((StG.start h).add e.cells).add zeroE.cells)
  rw [show (w.alloc (.cells e.cells 28)).heap.size = w.heap.size + 1 by simp] at S0
  have HG := Lib.hid g0
  have HNEW := Lib.hid hnew
  obtain ⟨w1, hw1⟩ : ∃ w1, w1 = (w.alloc (.cells e.cells 28)).alloc (.cells zeroE.cells 28) := ⟨_, rfl⟩
  rw [← hw1] at S0
  have HT := Lib.hid (show Calls Try.prog 45 #[.pointer (some ⟨ta, 0, none⟩), .agg #[.int .i64 e.x.pr, .bool e.x.s6, .int .u64 e.x.sh, .int .u64 e.x.sl, .bool e.x.d6, .int .u64 e.x.dh, .int .u64 e.x.dl, .int .i64 e.x.sp, .int .i64 e.x.dp]] w1 fun o w' => Frm ta r v w1 w' ∧ o = .returned (.bool false) ∧ MemF w' ta r v n seed t from (touch_mem e.x S0.out.mem g0 hn hn2).mono fun o w' ⟨hf, h⟩ => ⟨hf, by
    rcases h with ⟨h1, h2, _⟩ | ⟨A, a, B, hL, hax, _⟩
    · exact ⟨h1, h2⟩
    · exact absurd hax (hnew a (by rw [hL]; simp))⟩)
  have c0 : ((w.alloc (.cells #[.int .i64 e.x.pr, .bool e.x.s6, .int .u64 e.x.sh, .int .u64 e.x.sl, .bool e.x.d6, .int .u64 e.x.dh, .int .u64 e.x.dl, .int .i64 e.x.sp, .int .i64 e.x.dp, .int .i64 e.host, .int .i64 e.state, .int .i64 e.till] 28)).alloc (.cells #[.int .i64 0, .bool false, .int .u64 0, .int .u64 0, .bool false, .int .u64 0, .int .u64 0, .int .i64 0, .int .i64 0, .int .i64 0, .int .i64 0, .int .i64 0] 28)).cell? ⟨ta, 0, none⟩ = some (.int .i64 n) := by
    have := S0.out.mem.cells.1
    rw [hw1] at this
    exact this
  have n0 : ((n : Int) == 0) = false := by simp; omega
  obtain ⟨rr, hrr⟩ : ∃ rr, rr = rowN n seed e.x := ⟨_, rfl⟩
  have hr : rr < n := hrr ▸ (row_in n seed e.x hn).2
  rw [← hrr]
  have HRR := Lib.hid hrr
  have nd : t.size ≤ t.np ∧ t.np ≤ 4096 := by
    have h1 := g0.perm.length_eq
    have h2 := g0.cap
    rw [List.length_append, List.length_range] at h1
    rw [g0.size]
    omega
  unfold Ent.cells
  clear h g0 hnew hrr
  go_enter Try.func23, Try.ntmps23
  go_wp2_with fail
  rw [show ((w.alloc (.cells #[.int .i64 e.x.pr, .bool e.x.s6, .int .u64 e.x.sh, .int .u64 e.x.sl, .bool e.x.d6, .int .u64 e.x.dh, .int .u64 e.x.dl, .int .i64 e.x.sp, .int .i64 e.x.dp, .int .i64 e.host, .int .i64 e.state, .int .i64 e.till] 28)).alloc (.cells #[.int .i64 0, .bool false, .int .u64 0, .int .u64 0, .bool false, .int .u64 0, .int .u64 0, .int .i64 0, .int .i64 0, .int .i64 0, .int .i64 0, .int .i64 0] 28)) = w1 from hw1.symm]
  refine (HT.out).mono ?_
  rintro o w2 ⟨hf, rfl, hm⟩
  have S2 := Lib.hid (S0.out.go hm hf)
  clear hf hm hw1 c0
  have c2 := S2.out.mem.cells.2.2.1
  have c0 := S2.out.mem.cells.1
  have qf : ((t.size : Int) == (n : Int)) = false := by simp; omega
  have S3a := Lib.hid (show StG w (w2.alloc (.cells #[.int .i64 0, .bool false, .int .u64 0, .int .u64 0, .bool false, .int .u64 0, .int .u64 0, .int .i64 0, .int .i64 0, .int .i64 0, .int .i64 0, .int .i64 0] 28)).drew ta r v v n seed t [(w2.heap.size, zeroE.cells), (w.heap.size + 1, zeroE.cells), (w.heap.size, e.cells)] from (S2.out.add zeroE.cells).drew)
  have hl2 : ta < w2.heap.size := S2.out.mem.tab.lt
  go_wp2_with fail
  go_region
  clear S2 c2 c0
  generalize (w2.alloc (.cells #[.int .i64 0, .bool false, .int .u64 0, .int .u64 0, .bool false, .int .u64 0, .int .u64 0, .int .i64 0, .int .i64 0, .int .i64 0, .int .i64 0, .int .i64 0] 28)).drew = w3 at *
  generalize w2.heap.size = b2 at *
  have hfr : t.free = (f : Int) := by rw [HG.out.free, hF]; rfl
  have hfn : f < t.np := HG.out.lt f (.inr (by rw [hF]; simp))
  go_wp2_with fail
  refine (room_free S3a.out.mem hfr hfn).mono ?_
  rintro o w4 ⟨rfl, hm, hf⟩
  obtain ⟨t1, ht1⟩ : ∃ t1, t1 = { t with free := t.bh f } := ⟨_, rfl⟩
  rw [← ht1] at hm
  have S4 := Lib.hid (S3a.out.go hm hf)
  have hAT : f < t1.np := by rw [ht1]; exact hfn
  have HNW := Lib.hid (show t1.newest = -1 ∨ ∃ q : Nat, t1.newest = (q : Int) ∧ q < t1.np from by
    rw [ht1]
    show t.newest = -1 ∨ ∃ q : Nat, t.newest = (q : Int) ∧ q < t.np
    rw [HG.out.lru.hd]
    cases L with
    | nil => exact .inl rfl
    | cons q L => exact .inr ⟨q, rfl, HG.out.lt q (.inl (by simp))⟩)
  have hwr : IntKind.i64.wrap ((t1.size : Int) + 1) = ((t1.size + 1 : Nat) : Int) := by
    have : t1.size = t.size := by rw [ht1]
    rw [IntWalk.i64_in _ (by omega)]
    omega
  have HT1 := Lib.hid ht1
  have hnp1 : t1.np = t.np := by rw [ht1]
  have HFF := Lib.hid hF
  clear hm hf ht1 hfr hF S3a
  have HROW := Lib.hid (show Calls Try.prog 48 #[.pointer (some ⟨ta, 0, none⟩), .agg #[.int .i64 e.x.pr, .bool e.x.s6, .int .u64 e.x.sh, .int .u64 e.x.sl, .bool e.x.d6, .int .u64 e.x.dh, .int .u64 e.x.dl, .int .i64 e.x.sp, .int .i64 e.x.dp]] w4 fun o w' => o = .returned (.int .i64 rr) ∧ Below w4.heap.size w4 w' from by rw [HRR.out]; exact row_any e.x S4.out.mem hn hn2)
  have m0 : w4.cell? ⟨w.heap.size, 0, none⟩ = some (.int .i64 e.x.pr) := (S4.out.blk (w.heap.size, e.cells) (by simp)).1.cell 0
  have m1 : w4.cell? ⟨w.heap.size, 1, none⟩ = some (.bool e.x.s6) := (S4.out.blk (w.heap.size, e.cells) (by simp)).1.cell 1
  have m2 : w4.cell? ⟨w.heap.size, 2, none⟩ = some (.int .u64 e.x.sh) := (S4.out.blk (w.heap.size, e.cells) (by simp)).1.cell 2
  have m3 : w4.cell? ⟨w.heap.size, 3, none⟩ = some (.int .u64 e.x.sl) := (S4.out.blk (w.heap.size, e.cells) (by simp)).1.cell 3
  have m4 : w4.cell? ⟨w.heap.size, 4, none⟩ = some (.bool e.x.d6) := (S4.out.blk (w.heap.size, e.cells) (by simp)).1.cell 4
  have m5 : w4.cell? ⟨w.heap.size, 5, none⟩ = some (.int .u64 e.x.dh) := (S4.out.blk (w.heap.size, e.cells) (by simp)).1.cell 5
  have m6 : w4.cell? ⟨w.heap.size, 6, none⟩ = some (.int .u64 e.x.dl) := (S4.out.blk (w.heap.size, e.cells) (by simp)).1.cell 6
  have m7 : w4.cell? ⟨w.heap.size, 7, none⟩ = some (.int .i64 e.x.sp) := (S4.out.blk (w.heap.size, e.cells) (by simp)).1.cell 7
  have m8 : w4.cell? ⟨w.heap.size, 8, none⟩ = some (.int .i64 e.x.dp) := (S4.out.blk (w.heap.size, e.cells) (by simp)).1.cell 8
  go_wp2_with fail
  refine (HROW.out).mono ?_
  rintro o w5 ⟨rfl, hb⟩
  have S5 := Lib.hid (S4.out.below hb)
  clear hb HROW m0 m1 m2 m3 m4 m5 m6 m7 m8
  obtain ⟨g, cap, hv4, g1, g2, hcp, hmx, hc, hfz⟩ := S5.out.mem.place (f) hAT
  subst hv4
  unfold maxLen at hmx
  have c3 := S5.out.mem.cells.2.2.2.1
  have c4 := S5.out.mem.cells.2.2.2.2.1
  have cr := (S5.out.mem.row rr hr).1
  have k0 : w5.cell? ⟨w.heap.size, 0, none⟩ = some (.int .i64 e.x.pr) := (S5.out.blk (w.heap.size, e.cells) (by simp)).1.cell 0
  have k1 : w5.cell? ⟨w.heap.size, 1, none⟩ = some (.bool e.x.s6) := (S5.out.blk (w.heap.size, e.cells) (by simp)).1.cell 1
  have k2 : w5.cell? ⟨w.heap.size, 2, none⟩ = some (.int .u64 e.x.sh) := (S5.out.blk (w.heap.size, e.cells) (by simp)).1.cell 2
  have k3 : w5.cell? ⟨w.heap.size, 3, none⟩ = some (.int .u64 e.x.sl) := (S5.out.blk (w.heap.size, e.cells) (by simp)).1.cell 3
  have k4 : w5.cell? ⟨w.heap.size, 4, none⟩ = some (.bool e.x.d6) := (S5.out.blk (w.heap.size, e.cells) (by simp)).1.cell 4
  have k5 : w5.cell? ⟨w.heap.size, 5, none⟩ = some (.int .u64 e.x.dh) := (S5.out.blk (w.heap.size, e.cells) (by simp)).1.cell 5
  have k6 : w5.cell? ⟨w.heap.size, 6, none⟩ = some (.int .u64 e.x.dl) := (S5.out.blk (w.heap.size, e.cells) (by simp)).1.cell 6
  have k7 : w5.cell? ⟨w.heap.size, 7, none⟩ = some (.int .i64 e.x.sp) := (S5.out.blk (w.heap.size, e.cells) (by simp)).1.cell 7
  have k8 : w5.cell? ⟨w.heap.size, 8, none⟩ = some (.int .i64 e.x.dp) := (S5.out.blk (w.heap.size, e.cells) (by simp)).1.cell 8
  have k9 : w5.cell? ⟨w.heap.size, 9, none⟩ = some (.int .i64 e.host) := (S5.out.blk (w.heap.size, e.cells) (by simp)).1.cell 9
  have k10 : w5.cell? ⟨w.heap.size, 10, none⟩ = some (.int .i64 e.state) := (S5.out.blk (w.heap.size, e.cells) (by simp)).1.cell 10
  have k11 : w5.cell? ⟨w.heap.size, 11, none⟩ = some (.int .i64 e.till) := (S5.out.blk (w.heap.size, e.cells) (by simp)).1.cell 11
  have d0 : w5.cell? ⟨g, f * 15, none⟩ = some (.int .i64 (t1.ent f).x.pr) := hc 0 (by omega)
  have f0 := hfz (f * 15)
  have d1 : w5.cell? ⟨g, f * 15 + 1, none⟩ = some (.bool (t1.ent f).x.s6) := hc 1 (by omega)
  have f1 := hfz (f * 15 + 1)
  have d2 : w5.cell? ⟨g, f * 15 + 2, none⟩ = some (.int .u64 (t1.ent f).x.sh) := hc 2 (by omega)
  have f2 := hfz (f * 15 + 2)
  have d3 : w5.cell? ⟨g, f * 15 + 3, none⟩ = some (.int .u64 (t1.ent f).x.sl) := hc 3 (by omega)
  have f3 := hfz (f * 15 + 3)
  have d4 : w5.cell? ⟨g, f * 15 + 4, none⟩ = some (.bool (t1.ent f).x.d6) := hc 4 (by omega)
  have f4 := hfz (f * 15 + 4)
  have d5 : w5.cell? ⟨g, f * 15 + 5, none⟩ = some (.int .u64 (t1.ent f).x.dh) := hc 5 (by omega)
  have f5 := hfz (f * 15 + 5)
  have d6 : w5.cell? ⟨g, f * 15 + 6, none⟩ = some (.int .u64 (t1.ent f).x.dl) := hc 6 (by omega)
  have f6 := hfz (f * 15 + 6)
  have d7 : w5.cell? ⟨g, f * 15 + 7, none⟩ = some (.int .i64 (t1.ent f).x.sp) := hc 7 (by omega)
  have f7 := hfz (f * 15 + 7)
  have d8 : w5.cell? ⟨g, f * 15 + 8, none⟩ = some (.int .i64 (t1.ent f).x.dp) := hc 8 (by omega)
  have f8 := hfz (f * 15 + 8)
  have d9 : w5.cell? ⟨g, f * 15 + 9, none⟩ = some (.int .i64 (t1.ent f).host) := hc 9 (by omega)
  have f9 := hfz (f * 15 + 9)
  have d10 : w5.cell? ⟨g, f * 15 + 10, none⟩ = some (.int .i64 (t1.ent f).state) := hc 10 (by omega)
  have f10 := hfz (f * 15 + 10)
  have d11 : w5.cell? ⟨g, f * 15 + 11, none⟩ = some (.int .i64 (t1.ent f).till) := hc 11 (by omega)
  have f11 := hfz (f * 15 + 11)
  have d12 : w5.cell? ⟨g, f * 15 + 12, none⟩ = some (.int .i64 (t1.nw f)) := hc 12 (by omega)
  have f12 := hfz (f * 15 + 12)
  have d13 : w5.cell? ⟨g, f * 15 + 13, none⟩ = some (.int .i64 (t1.od f)) := hc 13 (by omega)
  have f13 := hfz (f * 15 + 13)
  have d14 : w5.cell? ⟨g, f * 15 + 14, none⟩ = some (.int .i64 (t1.bh f)) := hc 14 (by omega)
  have f14 := hfz (f * 15 + 14)
  have q0 : (0 : Int) ≤ (f : Nat) := by omega
  have q1 : ((f : Nat) : Int) < t1.np := by omega
  have r0 : (0 : Int) ≤ rr := by omega
  have r1 : (rr : Int) < n := by omega
  clear hc hfz
  go_wp2_with fail
  go_region
  have S6 := Lib.hid (show StG w ((((((((((((((((w5.setCell ⟨g, f * 15, none⟩ (.int .i64 e.x.pr)).setCell ⟨g, f * 15 + 1, none⟩ (.bool e.x.s6)).setCell ⟨g, f * 15 + 2, none⟩ (.int .u64 e.x.sh)).setCell ⟨g, f * 15 + 3, none⟩ (.int .u64 e.x.sl)).setCell ⟨g, f * 15 + 4, none⟩ (.bool e.x.d6)).setCell ⟨g, f * 15 + 5, none⟩ (.int .u64 e.x.dh)).setCell ⟨g, f * 15 + 6, none⟩ (.int .u64 e.x.dl)).setCell ⟨g, f * 15 + 7, none⟩ (.int .i64 e.x.sp)).setCell ⟨g, f * 15 + 8, none⟩ (.int .i64 e.x.dp)).setCell ⟨g, f * 15 + 9, none⟩ (.int .i64 e.host)).setCell ⟨g, f * 15 + 10, none⟩ (.int .i64 e.state)).setCell ⟨g, f * 15 + 11, none⟩ (.int .i64 e.till)).setCell ⟨g, f * 15 + 12, none⟩ (.int .i64 0)).setCell ⟨g, f * 15 + 13, none⟩ (.int .i64 0)).setCell ⟨g, f * 15 + 14, none⟩ (.int .i64 (t1.rows rr)))).drew ta r _ (.slice (some ⟨g, 0, none⟩) t1.np cap) n seed { t1 with ent := updF t1.ent f e, nw := updF t1.nw f 0, od := updF t1.od f 0, bh := updF t1.bh f (t1.rows rr) } [(b2, zeroE.cells), (w.heap.size + 1, zeroE.cells), (w.heap.size, e.cells)] from (S5.out.go (S5.out.mem.setAll (f) hAT e 0 0 (t1.rows rr)) (Frm.setCells (.inr (.inr (.inl rfl))) (cellsOf e 0 0 (t1.rows rr)).toList w5 (f * 15) (Frm.refl _ _ _ _))).drew)
  clear c3 c4 cr k0 k1 k2 k3 k4 k5 k6 k7 k8 k9 k10 k11 d0 f0 d1 f1 d2 f2 d3 f3 d4 f4 d5 f5 d6 f6 d7 f7 d8 f8 d9 f9 d10 f10 d11 f11 d12 f12 d13 f13 d14 f14
  generalize ((((((((((((((((w5.setCell ⟨g, f * 15, none⟩ (.int .i64 e.x.pr)).setCell ⟨g, f * 15 + 1, none⟩ (.bool e.x.s6)).setCell ⟨g, f * 15 + 2, none⟩ (.int .u64 e.x.sh)).setCell ⟨g, f * 15 + 3, none⟩ (.int .u64 e.x.sl)).setCell ⟨g, f * 15 + 4, none⟩ (.bool e.x.d6)).setCell ⟨g, f * 15 + 5, none⟩ (.int .u64 e.x.dh)).setCell ⟨g, f * 15 + 6, none⟩ (.int .u64 e.x.dl)).setCell ⟨g, f * 15 + 7, none⟩ (.int .i64 e.x.sp)).setCell ⟨g, f * 15 + 8, none⟩ (.int .i64 e.x.dp)).setCell ⟨g, f * 15 + 9, none⟩ (.int .i64 e.host)).setCell ⟨g, f * 15 + 10, none⟩ (.int .i64 e.state)).setCell ⟨g, f * 15 + 11, none⟩ (.int .i64 e.till)).setCell ⟨g, f * 15 + 12, none⟩ (.int .i64 0)).setCell ⟨g, f * 15 + 13, none⟩ (.int .i64 0)).setCell ⟨g, f * 15 + 14, none⟩ (.int .i64 (t1.rows rr)))).drew = w6 at *
  have c2 := S6.out.mem.cells.2.2.1
  have c4 := S6.out.mem.cells.2.2.2.2.1
  have cr := (S6.out.mem.row rr hr).1
  have cf := (S6.out.mem.row rr hr).2
  have cf2 := S6.out.mem.cells.2.2.2.2.2.2.2.2 2
  have hne := S6.out.mem.ne
  have S7 := Lib.hid (show StG w ((w6.setCell ⟨r, rr, none⟩ (.int .i64 (f : Nat))).setCell ⟨ta, 2, none⟩ (.int .i64 ((t1.size + 1 : Nat) : Int))) ta r _ (.slice (some ⟨g, 0, none⟩) t1.np cap) n seed { { { t1 with ent := updF t1.ent f e, nw := updF t1.nw f 0, od := updF t1.od f 0, bh := updF t1.bh f (t1.rows rr) } with rows := updF t1.rows rr (f : Nat) } with size := t1.size + 1 } [(b2, zeroE.cells), (w.heap.size + 1, zeroE.cells), (w.heap.size, e.cells)] from S6.out.go ((S6.out.mem.setRow rr hr (f : Nat)).setSize (t1.size + 1)) (((Frm.refl ta r (.slice (some ⟨g, 0, none⟩) t1.np cap) w6).setCell (p := ⟨r, rr, none⟩) (.inr (.inl rfl)) (.int .i64 (f : Nat))).setCell (p := ⟨ta, 2, none⟩) (.inl rfl) (.int .i64 ((t1.size + 1 : Nat) : Int))))
  go_wp2_with fail
  refine (flowJ.link_any (f) S7.out.mem hAT HNW.out).mono ?_
  rintro o w8 ⟨rfl, hm, hf⟩
  have S8 := Lib.hid (S7.out.go hm hf)
  have BG := Lib.hid (S8.out.blk (b2, zeroE.cells) (by simp)).1
  have BR := Lib.hid (S8.out.blk (w.heap.size + 1, zeroE.cells) (by simp)).1
  have S9 := Lib.hid (S8.out.set (b := w.heap.size + 1) (c := zeroE.cells) (by simp) (zeroE.cells) [(w.heap.size + 1, zeroE.cells)] (fun p hp => .inl (by simpa using hp)))
  clear hm hf
  go_wp2_with (first
    | (refine wpList_load_row rfl 28 _ rfl b2 rfl 28 (zeroE.cells) (0, 0) _ BG.out Try.underlying28 rfl size_e ?_)
    | (refine wpList_store_row rfl 28 _ _ rfl (w.heap.size + 1) (zeroE.cells) rfl rfl 28 zeroE.cells BR.out size_e rfl (one_e _) ?_))
  refine bodyPost_ret (results_entry rfl _ _ (w.heap.size + 1) (zeroE.cells) rfl (S9.out.blk _ (List.mem_singleton.mpr rfl)).1 rfl) rfl ?_
  refine ⟨rfl, ?_, S9.out.frm⟩
  have e9 : placeT t e rr f t.np (t.bh f) = linkT { { { t1 with ent := updF t1.ent f e, nw := updF t1.nw f 0, od := updF t1.od f 0, bh := updF t1.bh f (t1.rows rr) } with rows := updF t1.rows rr (f : Nat) } with size := t1.size + 1 } f := by
    rw [HT1.out]
    rfl
  exact Eq.mpr (congrArg (fun s => MemF _ ta r _ n seed s) e9) S9.out.mem
set_option maxHeartbeats 16000000 in
theorem put_new3 {w : World} {ta r : Nat} {v : Value} {n : Nat} {seed : Int} {t : Tb Ent} {L F : List Nat} {C : Nat → List Nat} (e : Ent) (h : MemF w ta r v n seed t) (g0 : GoodF n seed t L F C) (hn : 1 ≤ n) (hn2 : n ≤ 4096) (hnew : ∀ p, p ∈ L → (t.ent p).x ≠ e.x) (A : List Nat) (a : Nat) (hfull : t.size = n) (hL : L = A ++ [a]) :
    Calls Try.prog 23 #[.pointer (some ⟨ta, 0, none⟩), .agg e.cells] w fun o w' => ∃ x : Nat, o = .returned (.tuple #[.agg (t.ent a).cells, .bool true]) ∧ MemF w' ta r v n seed (placeT (takeT t zeroE (rowN n seed (t.ent a).x) a x) e (rowN n seed e.x) a t.np ((takeT t zeroE (rowN n seed (t.ent a).x) a x).bh a)) ∧ (t.rows (rowN n seed (t.ent a).x) ≠ (a : Int) → ∃ U V, C (rowN n seed (t.ent a).x) = U ++ x :: a :: V) ∧ Frm ta r v w w' := by
  have S0 := Lib.hid (((StG.start h).add e.cells).add zeroE.cells)
  rw [show (w.alloc (.cells e.cells 28)).heap.size = w.heap.size + 1 by simp] at S0
  have HG := Lib.hid g0
  have HNEW := Lib.hid hnew
  obtain ⟨w1, hw1⟩ : ∃ w1, w1 = (w.alloc (.cells e.cells 28)).alloc (.cells zeroE.cells 28) := ⟨_, rfl⟩
  rw [← hw1] at S0
  have HT := Lib.hid (show Calls Try.prog 45 #[.pointer (some ⟨ta, 0, none⟩), .agg #[.int .i64 e.x.pr, .bool e.x.s6, .int .u64 e.x.sh, .int .u64 e.x.sl, .bool e.x.d6, .int .u64 e.x.dh, .int .u64 e.x.dl, .int .i64 e.x.sp, .int .i64 e.x.dp]] w1 fun o w' => Frm ta r v w1 w' ∧ o = .returned (.bool false) ∧ MemF w' ta r v n seed t from (touch_mem e.x S0.out.mem g0 hn hn2).mono fun o w' ⟨hf, h⟩ => ⟨hf, by
    rcases h with ⟨h1, h2, _⟩ | ⟨A, a, B, hL, hax, _⟩
    · exact ⟨h1, h2⟩
    · exact absurd hax (hnew a (by rw [hL]; simp))⟩)
  have c0 : ((w.alloc (.cells #[.int .i64 e.x.pr, .bool e.x.s6, .int .u64 e.x.sh, .int .u64 e.x.sl, .bool e.x.d6, .int .u64 e.x.dh, .int .u64 e.x.dl, .int .i64 e.x.sp, .int .i64 e.x.dp, .int .i64 e.host, .int .i64 e.state, .int .i64 e.till] 28)).alloc (.cells #[.int .i64 0, .bool false, .int .u64 0, .int .u64 0, .bool false, .int .u64 0, .int .u64 0, .int .i64 0, .int .i64 0, .int .i64 0, .int .i64 0, .int .i64 0] 28)).cell? ⟨ta, 0, none⟩ = some (.int .i64 n) := by
    have := S0.out.mem.cells.1
    rw [hw1] at this
    exact this
  have n0 : ((n : Int) == 0) = false := by simp; omega
  obtain ⟨rr, hrr⟩ : ∃ rr, rr = rowN n seed e.x := ⟨_, rfl⟩
  have hr : rr < n := hrr ▸ (row_in n seed e.x hn).2
  rw [← hrr]
  have HRR := Lib.hid hrr
  have nd : t.size ≤ t.np ∧ t.np ≤ 4096 := by
    have h1 := g0.perm.length_eq
    have h2 := g0.cap
    rw [List.length_append, List.length_range] at h1
    rw [g0.size]
    omega
  unfold Ent.cells
  clear h g0 hnew hrr
  go_enter Try.func23, Try.ntmps23
  go_wp2_with fail
  rw [show ((w.alloc (.cells #[.int .i64 e.x.pr, .bool e.x.s6, .int .u64 e.x.sh, .int .u64 e.x.sl, .bool e.x.d6, .int .u64 e.x.dh, .int .u64 e.x.dl, .int .i64 e.x.sp, .int .i64 e.x.dp, .int .i64 e.host, .int .i64 e.state, .int .i64 e.till] 28)).alloc (.cells #[.int .i64 0, .bool false, .int .u64 0, .int .u64 0, .bool false, .int .u64 0, .int .u64 0, .int .i64 0, .int .i64 0, .int .i64 0, .int .i64 0, .int .i64 0] 28)) = w1 from hw1.symm]
  refine (HT.out).mono ?_
  rintro o w2 ⟨hf, rfl, hm⟩
  have S2 := Lib.hid (S0.out.go hm hf)
  clear hf hm hw1 c0
  have c2 := S2.out.mem.cells.2.2.1
  have c0 := S2.out.mem.cells.1
  have qf : ((t.size : Int) == (n : Int)) = true := by rw [hfull]; simp
  have S3a := Lib.hid (show StG w (w2.alloc (.cells #[.int .i64 0, .bool false, .int .u64 0, .int .u64 0, .bool false, .int .u64 0, .int .u64 0, .int .i64 0, .int .i64 0, .int .i64 0, .int .i64 0, .int .i64 0] 28)).drew ta r v v n seed t [(w2.heap.size, zeroE.cells), (w.heap.size + 1, zeroE.cells), (w.heap.size, e.cells)] from (S2.out.add zeroE.cells).drew)
  have hl2 : ta < w2.heap.size := S2.out.mem.tab.lt
  go_wp2_with fail
  go_region
  have HD2 := Lib.hid (show w2.heap.size ≠ w.heap.size ∧ w2.heap.size ≠ w.heap.size + 1 from by
    have h1 := (S2.out.blk (w.heap.size, e.cells) (by simp)).1.lt
    have h2 := (S2.out.blk (w.heap.size + 1, zeroE.cells) (by simp)).1.lt
    simp only at h1 h2
    omega)
  clear S2 c2 c0
  generalize (w2.alloc (.cells #[.int .i64 0, .bool false, .int .u64 0, .int .u64 0, .bool false, .int .u64 0, .int .u64 0, .int .i64 0, .int .i64 0, .int .i64 0, .int .i64 0, .int .i64 0] 28)).drew = w3 at *
  generalize w2.heap.size = b2 at *
  subst hL
  have hfn : a < t.np := HG.out.lt a (.inl (by simp))
  have c7 := S3a.out.mem.cells.2.2.2.2.2.2.2.1
  rw [HG.out.lru.tl, show lastZ (A ++ [a]) (-1) = (a : Int) from by rw [lastZ_app]; rfl] at c7
  go_wp2_with fail
  refine (take_any a S3a.out.mem HG.out hn hn2).mono ?_
  rintro o w3t ⟨x, rfl, hm, hx, hf⟩
  have S3b := Lib.hid (S3a.out.go hm hf)
  have HXX := Lib.hid hx
  have BT := Lib.hid (S3b.out.blk (b2, zeroE.cells) (by simp)).1
  have hd0 : b2 ≠ w.heap.size ∧ b2 ≠ w.heap.size + 1 := HD2.out
  have S3c := Lib.hid (S3b.out.set (b := b2) (c := zeroE.cells) (by simp) (t.ent a).cells [(b2, (t.ent a).cells), (w.heap.size + 1, zeroE.cells), (w.heap.size, e.cells)] (fun p hp => by
    simp only [List.mem_cons, List.not_mem_nil, or_false] at hp
    rcases hp with rfl | rfl | rfl
    · exact .inl rfl
    · exact .inr ⟨by simp, Ne.symm hd0.2⟩
    · exact .inr ⟨by simp, Ne.symm hd0.1⟩))
  obtain ⟨t0, ht0⟩ : ∃ t0, t0 = takeT t zeroE (rowN n seed (t.ent a).x) a x := ⟨_, rfl⟩
  rw [← ht0] at hm S3c
  have HG0 := Lib.hid (show GoodF n seed t0 (A ++ []) (a :: F) _ from ht0 ▸ good_take HG.out zeroE (rowN n seed (t.ent a).x) x rfl hx)
  have ht0f : t0.free = (a : Int) := by rw [ht0]; rfl
  have ht0n : t0.np = t.np := by rw [ht0]; rfl
  have ht0s : t0.size = t.size - 1 := by rw [ht0]; rfl
  have HT0 := Lib.hid ht0
  have HFU := Lib.hid hfull
  clear hm hf hx S3a c7 S3b hd0 ht0
  go_wp2_with (refine wpList_store_row rfl 28 _ _ rfl b2 (t.ent a).cells rfl rfl 28 zeroE.cells BT.out size_e rfl (one_e _) ?_)
  refine (room_free S3c.out.mem ht0f (by omega)).mono ?_
  rintro o w4 ⟨rfl, hm, hf⟩
  obtain ⟨t1, ht1⟩ : ∃ t1, t1 = { t0 with free := t0.bh a } := ⟨_, rfl⟩
  rw [← ht1] at hm
  have S4 := Lib.hid (S3c.out.go hm hf)
  have hAT : a < t1.np := by rw [ht1]; show a < t0.np; omega
  have HNW := Lib.hid (show t1.newest = -1 ∨ ∃ q : Nat, t1.newest = (q : Int) ∧ q < t1.np from by
    rw [ht1]
    show t0.newest = -1 ∨ ∃ q : Nat, t0.newest = (q : Int) ∧ q < t0.np
    rw [HG0.out.lru.hd]
    cases A with
    | nil => exact .inl rfl
    | cons q A => exact .inr ⟨q, rfl, HG0.out.lt q (.inl (by simp))⟩)
  have hwr : IntKind.i64.wrap ((t1.size : Int) + 1) = ((t1.size + 1 : Nat) : Int) := by
    have : t1.size = t0.size := by rw [ht1]
    rw [IntWalk.i64_in _ (by omega)]
    omega
  have HT1 := Lib.hid ht1
  have hnp1 : t1.np = t0.np := by rw [ht1]
  clear hm hf ht1 ht0f S3c hfull ht0s
  have HROW := Lib.hid (show Calls Try.prog 48 #[.pointer (some ⟨ta, 0, none⟩), .agg #[.int .i64 e.x.pr, .bool e.x.s6, .int .u64 e.x.sh, .int .u64 e.x.sl, .bool e.x.d6, .int .u64 e.x.dh, .int .u64 e.x.dl, .int .i64 e.x.sp, .int .i64 e.x.dp]] w4 fun o w' => o = .returned (.int .i64 rr) ∧ Below w4.heap.size w4 w' from by rw [HRR.out]; exact row_any e.x S4.out.mem hn hn2)
  have m0 : w4.cell? ⟨w.heap.size, 0, none⟩ = some (.int .i64 e.x.pr) := (S4.out.blk (w.heap.size, e.cells) (by simp)).1.cell 0
  have m1 : w4.cell? ⟨w.heap.size, 1, none⟩ = some (.bool e.x.s6) := (S4.out.blk (w.heap.size, e.cells) (by simp)).1.cell 1
  have m2 : w4.cell? ⟨w.heap.size, 2, none⟩ = some (.int .u64 e.x.sh) := (S4.out.blk (w.heap.size, e.cells) (by simp)).1.cell 2
  have m3 : w4.cell? ⟨w.heap.size, 3, none⟩ = some (.int .u64 e.x.sl) := (S4.out.blk (w.heap.size, e.cells) (by simp)).1.cell 3
  have m4 : w4.cell? ⟨w.heap.size, 4, none⟩ = some (.bool e.x.d6) := (S4.out.blk (w.heap.size, e.cells) (by simp)).1.cell 4
  have m5 : w4.cell? ⟨w.heap.size, 5, none⟩ = some (.int .u64 e.x.dh) := (S4.out.blk (w.heap.size, e.cells) (by simp)).1.cell 5
  have m6 : w4.cell? ⟨w.heap.size, 6, none⟩ = some (.int .u64 e.x.dl) := (S4.out.blk (w.heap.size, e.cells) (by simp)).1.cell 6
  have m7 : w4.cell? ⟨w.heap.size, 7, none⟩ = some (.int .i64 e.x.sp) := (S4.out.blk (w.heap.size, e.cells) (by simp)).1.cell 7
  have m8 : w4.cell? ⟨w.heap.size, 8, none⟩ = some (.int .i64 e.x.dp) := (S4.out.blk (w.heap.size, e.cells) (by simp)).1.cell 8
  go_wp2_with fail
  refine (HROW.out).mono ?_
  rintro o w5 ⟨rfl, hb⟩
  have S5 := Lib.hid (S4.out.below hb)
  clear hb HROW m0 m1 m2 m3 m4 m5 m6 m7 m8
  obtain ⟨g, cap, hv4, g1, g2, hcp, hmx, hc, hfz⟩ := S5.out.mem.place (a) hAT
  subst hv4
  unfold maxLen at hmx
  have c3 := S5.out.mem.cells.2.2.2.1
  have c4 := S5.out.mem.cells.2.2.2.2.1
  have cr := (S5.out.mem.row rr hr).1
  have k0 : w5.cell? ⟨w.heap.size, 0, none⟩ = some (.int .i64 e.x.pr) := (S5.out.blk (w.heap.size, e.cells) (by simp)).1.cell 0
  have k1 : w5.cell? ⟨w.heap.size, 1, none⟩ = some (.bool e.x.s6) := (S5.out.blk (w.heap.size, e.cells) (by simp)).1.cell 1
  have k2 : w5.cell? ⟨w.heap.size, 2, none⟩ = some (.int .u64 e.x.sh) := (S5.out.blk (w.heap.size, e.cells) (by simp)).1.cell 2
  have k3 : w5.cell? ⟨w.heap.size, 3, none⟩ = some (.int .u64 e.x.sl) := (S5.out.blk (w.heap.size, e.cells) (by simp)).1.cell 3
  have k4 : w5.cell? ⟨w.heap.size, 4, none⟩ = some (.bool e.x.d6) := (S5.out.blk (w.heap.size, e.cells) (by simp)).1.cell 4
  have k5 : w5.cell? ⟨w.heap.size, 5, none⟩ = some (.int .u64 e.x.dh) := (S5.out.blk (w.heap.size, e.cells) (by simp)).1.cell 5
  have k6 : w5.cell? ⟨w.heap.size, 6, none⟩ = some (.int .u64 e.x.dl) := (S5.out.blk (w.heap.size, e.cells) (by simp)).1.cell 6
  have k7 : w5.cell? ⟨w.heap.size, 7, none⟩ = some (.int .i64 e.x.sp) := (S5.out.blk (w.heap.size, e.cells) (by simp)).1.cell 7
  have k8 : w5.cell? ⟨w.heap.size, 8, none⟩ = some (.int .i64 e.x.dp) := (S5.out.blk (w.heap.size, e.cells) (by simp)).1.cell 8
  have k9 : w5.cell? ⟨w.heap.size, 9, none⟩ = some (.int .i64 e.host) := (S5.out.blk (w.heap.size, e.cells) (by simp)).1.cell 9
  have k10 : w5.cell? ⟨w.heap.size, 10, none⟩ = some (.int .i64 e.state) := (S5.out.blk (w.heap.size, e.cells) (by simp)).1.cell 10
  have k11 : w5.cell? ⟨w.heap.size, 11, none⟩ = some (.int .i64 e.till) := (S5.out.blk (w.heap.size, e.cells) (by simp)).1.cell 11
  have d0 : w5.cell? ⟨g, a * 15, none⟩ = some (.int .i64 (t1.ent a).x.pr) := hc 0 (by omega)
  have f0 := hfz (a * 15)
  have d1 : w5.cell? ⟨g, a * 15 + 1, none⟩ = some (.bool (t1.ent a).x.s6) := hc 1 (by omega)
  have f1 := hfz (a * 15 + 1)
  have d2 : w5.cell? ⟨g, a * 15 + 2, none⟩ = some (.int .u64 (t1.ent a).x.sh) := hc 2 (by omega)
  have f2 := hfz (a * 15 + 2)
  have d3 : w5.cell? ⟨g, a * 15 + 3, none⟩ = some (.int .u64 (t1.ent a).x.sl) := hc 3 (by omega)
  have f3 := hfz (a * 15 + 3)
  have d4 : w5.cell? ⟨g, a * 15 + 4, none⟩ = some (.bool (t1.ent a).x.d6) := hc 4 (by omega)
  have f4 := hfz (a * 15 + 4)
  have d5 : w5.cell? ⟨g, a * 15 + 5, none⟩ = some (.int .u64 (t1.ent a).x.dh) := hc 5 (by omega)
  have f5 := hfz (a * 15 + 5)
  have d6 : w5.cell? ⟨g, a * 15 + 6, none⟩ = some (.int .u64 (t1.ent a).x.dl) := hc 6 (by omega)
  have f6 := hfz (a * 15 + 6)
  have d7 : w5.cell? ⟨g, a * 15 + 7, none⟩ = some (.int .i64 (t1.ent a).x.sp) := hc 7 (by omega)
  have f7 := hfz (a * 15 + 7)
  have d8 : w5.cell? ⟨g, a * 15 + 8, none⟩ = some (.int .i64 (t1.ent a).x.dp) := hc 8 (by omega)
  have f8 := hfz (a * 15 + 8)
  have d9 : w5.cell? ⟨g, a * 15 + 9, none⟩ = some (.int .i64 (t1.ent a).host) := hc 9 (by omega)
  have f9 := hfz (a * 15 + 9)
  have d10 : w5.cell? ⟨g, a * 15 + 10, none⟩ = some (.int .i64 (t1.ent a).state) := hc 10 (by omega)
  have f10 := hfz (a * 15 + 10)
  have d11 : w5.cell? ⟨g, a * 15 + 11, none⟩ = some (.int .i64 (t1.ent a).till) := hc 11 (by omega)
  have f11 := hfz (a * 15 + 11)
  have d12 : w5.cell? ⟨g, a * 15 + 12, none⟩ = some (.int .i64 (t1.nw a)) := hc 12 (by omega)
  have f12 := hfz (a * 15 + 12)
  have d13 : w5.cell? ⟨g, a * 15 + 13, none⟩ = some (.int .i64 (t1.od a)) := hc 13 (by omega)
  have f13 := hfz (a * 15 + 13)
  have d14 : w5.cell? ⟨g, a * 15 + 14, none⟩ = some (.int .i64 (t1.bh a)) := hc 14 (by omega)
  have f14 := hfz (a * 15 + 14)
  have q0 : (0 : Int) ≤ (a : Nat) := by omega
  have q1 : ((a : Nat) : Int) < t1.np := by omega
  have r0 : (0 : Int) ≤ rr := by omega
  have r1 : (rr : Int) < n := by omega
  clear hc hfz
  go_wp2_with fail
  go_region
  have S6 := Lib.hid (show StG w ((((((((((((((((w5.setCell ⟨g, a * 15, none⟩ (.int .i64 e.x.pr)).setCell ⟨g, a * 15 + 1, none⟩ (.bool e.x.s6)).setCell ⟨g, a * 15 + 2, none⟩ (.int .u64 e.x.sh)).setCell ⟨g, a * 15 + 3, none⟩ (.int .u64 e.x.sl)).setCell ⟨g, a * 15 + 4, none⟩ (.bool e.x.d6)).setCell ⟨g, a * 15 + 5, none⟩ (.int .u64 e.x.dh)).setCell ⟨g, a * 15 + 6, none⟩ (.int .u64 e.x.dl)).setCell ⟨g, a * 15 + 7, none⟩ (.int .i64 e.x.sp)).setCell ⟨g, a * 15 + 8, none⟩ (.int .i64 e.x.dp)).setCell ⟨g, a * 15 + 9, none⟩ (.int .i64 e.host)).setCell ⟨g, a * 15 + 10, none⟩ (.int .i64 e.state)).setCell ⟨g, a * 15 + 11, none⟩ (.int .i64 e.till)).setCell ⟨g, a * 15 + 12, none⟩ (.int .i64 0)).setCell ⟨g, a * 15 + 13, none⟩ (.int .i64 0)).setCell ⟨g, a * 15 + 14, none⟩ (.int .i64 (t1.rows rr)))).drew ta r _ (.slice (some ⟨g, 0, none⟩) t1.np cap) n seed { t1 with ent := updF t1.ent a e, nw := updF t1.nw a 0, od := updF t1.od a 0, bh := updF t1.bh a (t1.rows rr) } [(b2, (t.ent a).cells), (w.heap.size + 1, zeroE.cells), (w.heap.size, e.cells)] from (S5.out.go (S5.out.mem.setAll (a) hAT e 0 0 (t1.rows rr)) (Frm.setCells (.inr (.inr (.inl rfl))) (cellsOf e 0 0 (t1.rows rr)).toList w5 (a * 15) (Frm.refl _ _ _ _))).drew)
  clear c3 c4 cr k0 k1 k2 k3 k4 k5 k6 k7 k8 k9 k10 k11 d0 f0 d1 f1 d2 f2 d3 f3 d4 f4 d5 f5 d6 f6 d7 f7 d8 f8 d9 f9 d10 f10 d11 f11 d12 f12 d13 f13 d14 f14
  generalize ((((((((((((((((w5.setCell ⟨g, a * 15, none⟩ (.int .i64 e.x.pr)).setCell ⟨g, a * 15 + 1, none⟩ (.bool e.x.s6)).setCell ⟨g, a * 15 + 2, none⟩ (.int .u64 e.x.sh)).setCell ⟨g, a * 15 + 3, none⟩ (.int .u64 e.x.sl)).setCell ⟨g, a * 15 + 4, none⟩ (.bool e.x.d6)).setCell ⟨g, a * 15 + 5, none⟩ (.int .u64 e.x.dh)).setCell ⟨g, a * 15 + 6, none⟩ (.int .u64 e.x.dl)).setCell ⟨g, a * 15 + 7, none⟩ (.int .i64 e.x.sp)).setCell ⟨g, a * 15 + 8, none⟩ (.int .i64 e.x.dp)).setCell ⟨g, a * 15 + 9, none⟩ (.int .i64 e.host)).setCell ⟨g, a * 15 + 10, none⟩ (.int .i64 e.state)).setCell ⟨g, a * 15 + 11, none⟩ (.int .i64 e.till)).setCell ⟨g, a * 15 + 12, none⟩ (.int .i64 0)).setCell ⟨g, a * 15 + 13, none⟩ (.int .i64 0)).setCell ⟨g, a * 15 + 14, none⟩ (.int .i64 (t1.rows rr)))).drew = w6 at *
  have c2 := S6.out.mem.cells.2.2.1
  have c4 := S6.out.mem.cells.2.2.2.2.1
  have cr := (S6.out.mem.row rr hr).1
  have cf := (S6.out.mem.row rr hr).2
  have cf2 := S6.out.mem.cells.2.2.2.2.2.2.2.2 2
  have hne := S6.out.mem.ne
  have S7 := Lib.hid (show StG w ((w6.setCell ⟨r, rr, none⟩ (.int .i64 (a : Nat))).setCell ⟨ta, 2, none⟩ (.int .i64 ((t1.size + 1 : Nat) : Int))) ta r _ (.slice (some ⟨g, 0, none⟩) t1.np cap) n seed { { { t1 with ent := updF t1.ent a e, nw := updF t1.nw a 0, od := updF t1.od a 0, bh := updF t1.bh a (t1.rows rr) } with rows := updF t1.rows rr (a : Nat) } with size := t1.size + 1 } [(b2, (t.ent a).cells), (w.heap.size + 1, zeroE.cells), (w.heap.size, e.cells)] from S6.out.go ((S6.out.mem.setRow rr hr (a : Nat)).setSize (t1.size + 1)) (((Frm.refl ta r (.slice (some ⟨g, 0, none⟩) t1.np cap) w6).setCell (p := ⟨r, rr, none⟩) (.inr (.inl rfl)) (.int .i64 (a : Nat))).setCell (p := ⟨ta, 2, none⟩) (.inl rfl) (.int .i64 ((t1.size + 1 : Nat) : Int))))
  go_wp2_with fail
  refine (flowJ.link_any (a) S7.out.mem hAT HNW.out).mono ?_
  rintro o w8 ⟨rfl, hm, hf⟩
  have S8 := Lib.hid (S7.out.go hm hf)
  have BG := Lib.hid (S8.out.blk (b2, (t.ent a).cells) (by simp)).1
  have BR := Lib.hid (S8.out.blk (w.heap.size + 1, zeroE.cells) (by simp)).1
  have S9 := Lib.hid (S8.out.set (b := w.heap.size + 1) (c := zeroE.cells) (by simp) ((t.ent a).cells) [(w.heap.size + 1, (t.ent a).cells)] (fun p hp => .inl (by simpa using hp)))
  clear hm hf
  go_wp2_with (first
    | (refine wpList_load_row rfl 28 _ rfl b2 rfl 28 ((t.ent a).cells) (0, 0) _ BG.out Try.underlying28 rfl size_e ?_)
    | (refine wpList_store_row rfl 28 _ _ rfl (w.heap.size + 1) ((t.ent a).cells) rfl rfl 28 zeroE.cells BR.out size_e rfl (one_e _) ?_))
  refine bodyPost_ret (results_entry rfl _ _ (w.heap.size + 1) ((t.ent a).cells) rfl (S9.out.blk _ (List.mem_singleton.mpr rfl)).1 rfl) rfl ?_
  refine ⟨x, rfl, ?_, HXX.out, S9.out.frm⟩
  rw [← HT0.out, ← ht0n]
  have e9 : placeT t0 e rr a t0.np (t0.bh a) = linkT { { { t1 with ent := updF t1.ent a e, nw := updF t1.nw a 0, od := updF t1.od a 0, bh := updF t1.bh a (t1.rows rr) } with rows := updF t1.rows rr (a : Nat) } with size := t1.size + 1 } a := by
    rw [HT1.out]
    rfl
  exact Eq.mpr (congrArg (fun s => MemF _ ta r _ n seed s) e9) S9.out.mem
end Go.Proofs.Ytboknpkcpeoebaa.flowW
