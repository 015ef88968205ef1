/- Layer 19: the law ValidSames. -/
import Derived.Test.YtamndmlaikgogaaVdS
import Derived.Test.YtamndmlaikgogaaVdN
import Derived.Test.YtamndmlaikgogaaVdR
import Derived.Deep.RegionHeld3
namespace Go.Proofs.Ytamndmlaikgogaa.vdT
open Go.ChangeShapes Go.WideShapes Go.ChangeAt Go.RowKit
open Go.Proofs.Ytamndmlaikgogaa.base Go.Proofs.Ytamndmlaikgogaa.dfA Go.Proofs.Ytamndmlaikgogaa.treB Go.Proofs.Ytamndmlaikgogaa.vdA Go.Proofs.Ytamndmlaikgogaa.vdH Go.Proofs.Ytamndmlaikgogaa.vdJ Go.Proofs.Ytamndmlaikgogaa.vdN Go.Proofs.Ytamndmlaikgogaa.vdP Go.Proofs.Ytamndmlaikgogaa.vdQ Go.Proofs.Ytamndmlaikgogaa.vdR Go.Proofs.Ytamndmlaikgogaa.vdS
set_option linter.unusedVariables false

theorem eqN_refl (x : Nd) : eqN x x = true := by unfold eqN; simp
theorem eqV_refl (x : Vp) : eqV x x = true := by unfold eqV; simp
theorem eqW_refl (x : Vw) : eqW x x = true := by unfold eqW; simp
theorem allB_refl {q : Nat → Bool} (h : ∀ j, q j = true) (n : Nat) : allB q n = true := by
  unfold allB; rw [List.all_eq_true]; exact fun j _ => h j
theorem sameQ_of {c d : Cf} (h : SameC c d) : sameQ d c = true := by
  unfold sameQ selfB eqLN eqLV eqLW
  rw [h.nds, h.vps, h.vws, h.fac, h.dom, h.a6, h.ah, h.al, h.b6, h.bh, h.bl]
  rw [allB_refl (fun j => eqN_refl _), allB_refl (fun j => eqV_refl _), allB_refl (fun j => eqW_refl _)]
  simp
theorem sameQ_refl (c : Cf) : sameQ c c = true := sameQ_of ⟨rfl, rfl, rfl, rfl, rfl, rfl, rfl, rfl, rfl, rfl, rfl⟩
set_option maxHeartbeats 8000000 in
set_option maxRecDepth 100000 in
theorem sames_law (a b : Cf) (w : World) (ha : CfRaw w a) (hb0 : CfRaw w b) : Calls Try.prog 4 #[.agg a.cells, .agg b.cells] w (RetB true w) := by
  show Calls _ _ #[.agg #[.slice a.nA a.nds.length a.nc, .slice a.vA a.vps.length a.vc, .slice a.wA a.vws.length a.wc, .int .i64 a.fac, .int .i64 a.dom, .bool a.a6, .int .u64 a.ah, .int .u64 a.al, .bool a.b6, .int .u64 a.bh, .int .u64 a.bl], .agg #[.slice b.nA b.nds.length b.nc, .slice b.vA b.vps.length b.vc, .slice b.wA b.vws.length b.wc, .int .i64 b.fac, .int .i64 b.dom, .bool b.a6, .int .u64 b.ah, .int .u64 b.al, .bool b.b6, .int .u64 b.bh, .int .u64 b.bl]] _ _
  obtain ⟨w1, hw1⟩ : ∃ w1, w1 = (w.alloc (.cells #[.slice a.nA a.nds.length a.nc, .slice a.vA a.vps.length a.vc, .slice a.wA a.vws.length a.wc, .int .i64 a.fac, .int .i64 a.dom, .bool a.a6, .int .u64 a.ah, .int .u64 a.al, .bool a.b6, .int .u64 a.bh, .int .u64 a.bl] 30)).alloc (.cells #[.slice b.nA b.nds.length b.nc, .slice b.vA b.vps.length b.vc, .slice b.wA b.vws.length b.wc, .int .i64 b.fac, .int .i64 b.dom, .bool b.a6, .int .u64 b.ah, .int .u64 b.al, .bool b.b6, .int .u64 b.bh, .int .u64 b.bl] 30) := ⟨_, rfl⟩
  have E1 := Lib.hid hw1
  have hsz : (w.alloc (.cells #[.slice a.nA a.nds.length a.nc, .slice a.vA a.vps.length a.vc, .slice a.wA a.vws.length a.wc, .int .i64 a.fac, .int .i64 a.dom, .bool a.a6, .int .u64 a.ah, .int .u64 a.al, .bool a.b6, .int .u64 a.bh, .int .u64 a.bl] 30)).heap.size = w.heap.size + 1 := by simp
  have K1 := Lib.hid (show Blk w1 w.heap.size 30 #[.slice a.nA a.nds.length a.nc, .slice a.vA a.vps.length a.vc, .slice a.wA a.vws.length a.wc, .int .i64 a.fac, .int .i64 a.dom, .bool a.a6, .int .u64 a.ah, .int .u64 a.al, .bool a.b6, .int .u64 a.bh, .int .u64 a.bl] from by rw [hw1]; exact (Blk.new w _ _).alloc _)
  have L1 := Lib.hid (show Blk w1 (w.heap.size + 1) 30 #[.slice b.nA b.nds.length b.nc, .slice b.vA b.vps.length b.vc, .slice b.wA b.vws.length b.wc, .int .i64 b.fac, .int .i64 b.dom, .bool b.a6, .int .u64 b.ah, .int .u64 b.al, .bool b.b6, .int .u64 b.bh, .int .u64 b.bl] from by rw [hw1, ← hsz]; exact Blk.new _ _ _)
  have B1 := Lib.hid (show Below w.heap.size w w1 from hw1 ▸ ((Below.refl _ _).alloc (Nat.le_refl _) _).alloc (by simp) _)
  have FA0 := Lib.hid (few_c a w ha)
  have FB0 := Lib.hid (few_c b w hb0)
  have IA0 := Lib.hid (few_in ha)
  have IB0 := Lib.hid (few_in hb0)
  obtain ⟨x, hx⟩ : ∃ x, x = fewC a := ⟨_, rfl⟩
  obtain ⟨y, hy⟩ : ∃ y, y = fewC b := ⟨_, rfl⟩
  rw [← hx] at FA0 IA0
  rw [← hy] at FB0 IB0
  have FA := Lib.hid (show ∀ W, Calls Try.prog 9 #[.agg #[.slice a.nA a.nds.length a.nc, .slice a.vA a.vps.length a.vc, .slice a.wA a.vws.length a.wc, .int .i64 a.fac, .int .i64 a.dom, .bool a.a6, .int .u64 a.ah, .int .u64 a.al, .bool a.b6, .int .u64 a.bh, .int .u64 a.bl]] W fun o w' => o = .returned (.agg #[.slice x.nA x.nds.length x.nc, .slice x.vA x.vps.length x.vc, .slice x.wA x.vws.length x.wc, .int .i64 x.fac, .int .i64 x.dom, .bool x.a6, .int .u64 x.ah, .int .u64 x.al, .bool x.b6, .int .u64 x.bh, .int .u64 x.bl]) ∧ Below W.heap.size W w' from FA0.out)
  have FB := Lib.hid (show ∀ W, Calls Try.prog 9 #[.agg #[.slice b.nA b.nds.length b.nc, .slice b.vA b.vps.length b.vc, .slice b.wA b.vws.length b.wc, .int .i64 b.fac, .int .i64 b.dom, .bool b.a6, .int .u64 b.ah, .int .u64 b.al, .bool b.b6, .int .u64 b.bh, .int .u64 b.bl]] W fun o w' => o = .returned (.agg #[.slice y.nA y.nds.length y.nc, .slice y.vA y.vps.length y.vc, .slice y.wA y.vws.length y.wc, .int .i64 y.fac, .int .i64 y.dom, .bool y.a6, .int .u64 y.ah, .int .u64 y.al, .bool y.b6, .int .u64 y.bh, .int .u64 y.bl]) ∧ Below W.heap.size W w' from FB0.out)
  have d0 : w1.cell? ⟨w.heap.size, 0, none⟩ = some (.slice a.nA a.nds.length a.nc) := K1.out.cell 0
  have d1 : w1.cell? ⟨w.heap.size, 1, none⟩ = some (.slice a.vA a.vps.length a.vc) := K1.out.cell 1
  have d2 : w1.cell? ⟨w.heap.size, 2, none⟩ = some (.slice a.wA a.vws.length a.wc) := K1.out.cell 2
  have d3 : w1.cell? ⟨w.heap.size, 3, none⟩ = some (.int .i64 a.fac) := K1.out.cell 3
  have d4 : w1.cell? ⟨w.heap.size, 4, none⟩ = some (.int .i64 a.dom) := K1.out.cell 4
  have d5 : w1.cell? ⟨w.heap.size, 5, none⟩ = some (.bool a.a6) := K1.out.cell 5
  have d6 : w1.cell? ⟨w.heap.size, 6, none⟩ = some (.int .u64 a.ah) := K1.out.cell 6
  have d7 : w1.cell? ⟨w.heap.size, 7, none⟩ = some (.int .u64 a.al) := K1.out.cell 7
  have d8 : w1.cell? ⟨w.heap.size, 8, none⟩ = some (.bool a.b6) := K1.out.cell 8
  have d9 : w1.cell? ⟨w.heap.size, 9, none⟩ = some (.int .u64 a.bh) := K1.out.cell 9
  have d10 : w1.cell? ⟨w.heap.size, 10, none⟩ = some (.int .u64 a.bl) := K1.out.cell 10
  clear hw1 hsz ha hb0 hx hy FA0 FB0
  go_enter Try.func4, Try.ntmps4
  go_upto_region 1 with fail
  rw [← E1.out]
  go_wp2_with fail
  refine (FA.out _).mono ?_
  rintro o w2 ⟨rfl, hb2⟩
  have B2 := Lib.hid (B1.out.trans (hb2.mono B1.out.size))
  have K2 := Lib.hid (show Blk w2 w.heap.size 30 #[.slice a.nA a.nds.length a.nc, .slice a.vA a.vps.length a.vc, .slice a.wA a.vws.length a.wc, .int .i64 a.fac, .int .i64 a.dom, .bool a.a6, .int .u64 a.ah, .int .u64 a.al, .bool a.b6, .int .u64 a.bh, .int .u64 a.bl] from K1.out.below hb2 K1.out.lt)
  have L2 := Lib.hid (show Blk w2 (w.heap.size + 1) 30 #[.slice b.nA b.nds.length b.nc, .slice b.vA b.vps.length b.vc, .slice b.wA b.vws.length b.wc, .int .i64 b.fac, .int .i64 b.dom, .bool b.a6, .int .u64 b.ah, .int .u64 b.al, .bool b.b6, .int .u64 b.bh, .int .u64 b.bl] from L1.out.below hb2 L1.out.lt)
  obtain ⟨w3, hw3⟩ : ∃ w3, w3 = w2.setRow w.heap.size #[.slice x.nA x.nds.length x.nc, .slice x.vA x.vps.length x.vc, .slice x.wA x.vws.length x.wc, .int .i64 x.fac, .int .i64 x.dom, .bool x.a6, .int .u64 x.ah, .int .u64 x.al, .bool x.b6, .int .u64 x.bh, .int .u64 x.bl] := ⟨_, rfl⟩
  have E3 := Lib.hid hw3
  have K3 := Lib.hid (show Blk w3 w.heap.size 30 #[.slice x.nA x.nds.length x.nc, .slice x.vA x.vps.length x.vc, .slice x.wA x.vws.length x.wc, .int .i64 x.fac, .int .i64 x.dom, .bool x.a6, .int .u64 x.ah, .int .u64 x.al, .bool x.b6, .int .u64 x.bh, .int .u64 x.bl] from hw3 ▸ setRow_heap _ w.heap.size _ #[.slice x.nA x.nds.length x.nc, .slice x.vA x.vps.length x.vc, .slice x.wA x.vws.length x.wc, .int .i64 x.fac, .int .i64 x.dom, .bool x.a6, .int .u64 x.ah, .int .u64 x.al, .bool x.b6, .int .u64 x.bh, .int .u64 x.bl] _ (0, 0) K2.out)
  have L3 := Lib.hid (show Blk w3 (w.heap.size + 1) 30 #[.slice b.nA b.nds.length b.nc, .slice b.vA b.vps.length b.vc, .slice b.wA b.vws.length b.wc, .int .i64 b.fac, .int .i64 b.dom, .bool b.a6, .int .u64 b.ah, .int .u64 b.al, .bool b.b6, .int .u64 b.bh, .int .u64 b.bl] from hw3 ▸ (setRow_other _ _ _ _ (by omega)).trans L2.out)
  have B3 := Lib.hid (show Below w.heap.size w w3 from hw3 ▸ below_row B2.out (Nat.le_refl _) _)
  have e0 : w3.cell? ⟨w.heap.size + 1, 0, none⟩ = some (.slice b.nA b.nds.length b.nc) := L3.out.cell 0
  have e1 : w3.cell? ⟨w.heap.size + 1, 1, none⟩ = some (.slice b.vA b.vps.length b.vc) := L3.out.cell 1
  have e2 : w3.cell? ⟨w.heap.size + 1, 2, none⟩ = some (.slice b.wA b.vws.length b.wc) := L3.out.cell 2
  have e3 : w3.cell? ⟨w.heap.size + 1, 3, none⟩ = some (.int .i64 b.fac) := L3.out.cell 3
  have e4 : w3.cell? ⟨w.heap.size + 1, 4, none⟩ = some (.int .i64 b.dom) := L3.out.cell 4
  have e5 : w3.cell? ⟨w.heap.size + 1, 5, none⟩ = some (.bool b.a6) := L3.out.cell 5
  have e6 : w3.cell? ⟨w.heap.size + 1, 6, none⟩ = some (.int .u64 b.ah) := L3.out.cell 6
  have e7 : w3.cell? ⟨w.heap.size + 1, 7, none⟩ = some (.int .u64 b.al) := L3.out.cell 7
  have e8 : w3.cell? ⟨w.heap.size + 1, 8, none⟩ = some (.bool b.b6) := L3.out.cell 8
  have e9 : w3.cell? ⟨w.heap.size + 1, 9, none⟩ = some (.int .u64 b.bh) := L3.out.cell 9
  have e10 : w3.cell? ⟨w.heap.size + 1, 10, none⟩ = some (.int .u64 b.bl) := L3.out.cell 10
  clear hw3 hb2 d0 d1 d2 d3 d4 d5 d6 d7 d8 d9 d10
  go_wp2_with (refine wpList_store_row rfl 30 _ _ rfl w.heap.size #[.slice x.nA x.nds.length x.nc, .slice x.vA x.vps.length x.vc, .slice x.wA x.vws.length x.wc, .int .i64 x.fac, .int .i64 x.dom, .bool x.a6, .int .u64 x.ah, .int .u64 x.al, .bool x.b6, .int .u64 x.bh, .int .u64 x.bl] rfl rfl 30 #[.slice a.nA a.nds.length a.nc, .slice a.vA a.vps.length a.vc, .slice a.wA a.vws.length a.wc, .int .i64 a.fac, .int .i64 a.dom, .bool a.a6, .int .u64 a.ah, .int .u64 a.al, .bool a.b6, .int .u64 a.bh, .int .u64 a.bl] K2.out size_c rfl (Go.Proofs.Ytamndmlaikgogaa.vdR.one_c _ _ _ _ _ _ _ _ _ _ _ _ _ _ _ _ _) ?_; rw [← E3.out])
  refine (FB.out _).mono ?_
  rintro o w4 ⟨rfl, hb4⟩
  have B4 := Lib.hid (B3.out.trans (hb4.mono B3.out.size))
  have K4 := Lib.hid (show Blk w4 w.heap.size 30 #[.slice x.nA x.nds.length x.nc, .slice x.vA x.vps.length x.vc, .slice x.wA x.vws.length x.wc, .int .i64 x.fac, .int .i64 x.dom, .bool x.a6, .int .u64 x.ah, .int .u64 x.al, .bool x.b6, .int .u64 x.bh, .int .u64 x.bl] from K3.out.below hb4 K3.out.lt)
  have L4 := Lib.hid (show Blk w4 (w.heap.size + 1) 30 #[.slice b.nA b.nds.length b.nc, .slice b.vA b.vps.length b.vc, .slice b.wA b.vws.length b.wc, .int .i64 b.fac, .int .i64 b.dom, .bool b.a6, .int .u64 b.ah, .int .u64 b.al, .bool b.b6, .int .u64 b.bh, .int .u64 b.bl] from L3.out.below hb4 L3.out.lt)
  obtain ⟨w5, hw5⟩ : ∃ w5, w5 = w4.setRow (w.heap.size + 1) #[.slice y.nA y.nds.length y.nc, .slice y.vA y.vps.length y.vc, .slice y.wA y.vws.length y.wc, .int .i64 y.fac, .int .i64 y.dom, .bool y.a6, .int .u64 y.ah, .int .u64 y.al, .bool y.b6, .int .u64 y.bh, .int .u64 y.bl] := ⟨_, rfl⟩
  have E5 := Lib.hid hw5
  have L5 := Lib.hid (show Blk w5 (w.heap.size + 1) 30 #[.slice y.nA y.nds.length y.nc, .slice y.vA y.vps.length y.vc, .slice y.wA y.vws.length y.wc, .int .i64 y.fac, .int .i64 y.dom, .bool y.a6, .int .u64 y.ah, .int .u64 y.al, .bool y.b6, .int .u64 y.bh, .int .u64 y.bl] from hw5 ▸ setRow_heap _ (w.heap.size + 1) _ #[.slice y.nA y.nds.length y.nc, .slice y.vA y.vps.length y.vc, .slice y.wA y.vws.length y.wc, .int .i64 y.fac, .int .i64 y.dom, .bool y.a6, .int .u64 y.ah, .int .u64 y.al, .bool y.b6, .int .u64 y.bh, .int .u64 y.bl] _ (0, 0) L4.out)
  have K5 := Lib.hid (show Blk w5 w.heap.size 30 #[.slice x.nA x.nds.length x.nc, .slice x.vA x.vps.length x.vc, .slice x.wA x.vws.length x.wc, .int .i64 x.fac, .int .i64 x.dom, .bool x.a6, .int .u64 x.ah, .int .u64 x.al, .bool x.b6, .int .u64 x.bh, .int .u64 x.bl] from hw5 ▸ (setRow_other _ _ _ _ (by omega)).trans K4.out)
  have B5 := Lib.hid (show Below w.heap.size w w5 from hw5 ▸ below_row B4.out (Nat.le_succ _) _)
  have HS := Lib.hid (show ∀ W, Below w5.heap.size w5 W → W.cell? ⟨w.heap.size, 0, none⟩ = some (.slice x.nA x.nds.length x.nc) ∧ W.cell? ⟨w.heap.size, 1, none⟩ = some (.slice x.vA x.vps.length x.vc) ∧ W.cell? ⟨w.heap.size, 2, none⟩ = some (.slice x.wA x.vws.length x.wc) ∧ W.cell? ⟨w.heap.size, 3, none⟩ = some (.int .i64 x.fac) ∧ W.cell? ⟨w.heap.size, 4, none⟩ = some (.int .i64 x.dom) ∧ W.cell? ⟨w.heap.size, 5, none⟩ = some (.bool x.a6) ∧ W.cell? ⟨w.heap.size, 6, none⟩ = some (.int .u64 x.ah) ∧ W.cell? ⟨w.heap.size, 7, none⟩ = some (.int .u64 x.al) ∧ W.cell? ⟨w.heap.size, 8, none⟩ = some (.bool x.b6) ∧ W.cell? ⟨w.heap.size, 9, none⟩ = some (.int .u64 x.bh) ∧ W.cell? ⟨w.heap.size, 10, none⟩ = some (.int .u64 x.bl) ∧ W.cell? ⟨w.heap.size + 1, 0, none⟩ = some (.slice y.nA y.nds.length y.nc) ∧ W.cell? ⟨w.heap.size + 1, 1, none⟩ = some (.slice y.vA y.vps.length y.vc) ∧ W.cell? ⟨w.heap.size + 1, 2, none⟩ = some (.slice y.wA y.vws.length y.wc) ∧ W.cell? ⟨w.heap.size + 1, 3, none⟩ = some (.int .i64 y.fac) ∧ W.cell? ⟨w.heap.size + 1, 4, none⟩ = some (.int .i64 y.dom) ∧ W.cell? ⟨w.heap.size + 1, 5, none⟩ = some (.bool y.a6) ∧ W.cell? ⟨w.heap.size + 1, 6, none⟩ = some (.int .u64 y.ah) ∧ W.cell? ⟨w.heap.size + 1, 7, none⟩ = some (.int .u64 y.al) ∧ W.cell? ⟨w.heap.size + 1, 8, none⟩ = some (.bool y.b6) ∧ W.cell? ⟨w.heap.size + 1, 9, none⟩ = some (.int .u64 y.bh) ∧ W.cell? ⟨w.heap.size + 1, 10, none⟩ = some (.int .u64 y.bl) from fun W hb => by
    have k := K5.out.below hb K5.out.lt
    have l := L5.out.below hb L5.out.lt
    exact ⟨k.cell 0, k.cell 1, k.cell 2, k.cell 3, k.cell 4, k.cell 5, k.cell 6, k.cell 7, k.cell 8, k.cell 9, k.cell 10, l.cell 0, l.cell 1, l.cell 2, l.cell 3, l.cell 4, l.cell 5, l.cell 6, l.cell 7, l.cell 8, l.cell 9, l.cell 10⟩)
  have CI := Lib.hid (show ∀ W, Below w5.heap.size w5 W → CfIn W x ∧ CfIn W y from fun W hb => ⟨IA0.out.below (B5.out.trans (hb.mono B5.out.size)), IB0.out.below (B5.out.trans (hb.mono B5.out.size))⟩)
  have H1 := Lib.hid (show ∀ W, Below w5.heap.size w5 W → Calls Try.prog 16 #[.agg #[.slice x.nA x.nds.length x.nc, .slice x.vA x.vps.length x.vc, .slice x.wA x.vws.length x.wc, .int .i64 x.fac, .int .i64 x.dom, .bool x.a6, .int .u64 x.ah, .int .u64 x.al, .bool x.b6, .int .u64 x.bh, .int .u64 x.bl], .agg #[.slice y.nA y.nds.length y.nc, .slice y.vA y.vps.length y.vc, .slice y.wA y.vws.length y.wc, .int .i64 y.fac, .int .i64 y.dom, .bool y.a6, .int .u64 y.ah, .int .u64 y.al, .bool y.b6, .int .u64 y.bh, .int .u64 y.bl]] W (RetB (sameQ x y) W) from fun W hb => same_q x y W (CI.out W hb).1 (CI.out W hb).2)
  have H2 := Lib.hid (show ∀ W, Below w5.heap.size w5 W → Calls Try.prog 13 #[.agg #[.slice x.nA x.nds.length x.nc, .slice x.vA x.vps.length x.vc, .slice x.wA x.vws.length x.wc, .int .i64 x.fac, .int .i64 x.dom, .bool x.a6, .int .u64 x.ah, .int .u64 x.al, .bool x.b6, .int .u64 x.bh, .int .u64 x.bl], .agg #[.slice y.nA y.nds.length y.nc, .slice y.vA y.vps.length y.vc, .slice y.wA y.vws.length y.wc, .int .i64 y.fac, .int .i64 y.dom, .bool y.a6, .int .u64 y.ah, .int .u64 y.al, .bool y.b6, .int .u64 y.bh, .int .u64 y.bl]] W (RetB (sameQ x y) W) from fun W hb => lsame_q x y W (CI.out W hb).1 (CI.out W hb).2)
  have H3 := Lib.hid (show ∀ W, Below w5.heap.size w5 W → Calls Try.prog 16 #[.agg #[.slice x.nA x.nds.length x.nc, .slice x.vA x.vps.length x.vc, .slice x.wA x.vws.length x.wc, .int .i64 x.fac, .int .i64 x.dom, .bool x.a6, .int .u64 x.ah, .int .u64 x.al, .bool x.b6, .int .u64 x.bh, .int .u64 x.bl], .agg #[.slice x.nA x.nds.length x.nc, .slice x.vA x.vps.length x.vc, .slice x.wA x.vws.length x.wc, .int .i64 x.fac, .int .i64 x.dom, .bool x.a6, .int .u64 x.ah, .int .u64 x.al, .bool x.b6, .int .u64 x.bh, .int .u64 x.bl]] W (RetB true W) from fun W hb => by
    have h := same_q x x W (CI.out W hb).1 (CI.out W hb).1
    rw [sameQ_refl] at h
    exact h)
  have H4 := Lib.hid awake_any
  obtain ⟨q, hq⟩ : ∃ q, q = sameQ x y := ⟨_, rfl⟩
  rw [← hq] at H1 H2
  have J0 := Lib.hid (show Below w5.heap.size w5 w5.drew from (Below.refl _ _).drew)
  have s0 : w5.drew.cell? ⟨w.heap.size, 0, none⟩ = some (.slice x.nA x.nds.length x.nc) ∧ w5.drew.cell? ⟨w.heap.size, 1, none⟩ = some (.slice x.vA x.vps.length x.vc) ∧ w5.drew.cell? ⟨w.heap.size, 2, none⟩ = some (.slice x.wA x.vws.length x.wc) ∧ w5.drew.cell? ⟨w.heap.size, 3, none⟩ = some (.int .i64 x.fac) ∧ w5.drew.cell? ⟨w.heap.size, 4, none⟩ = some (.int .i64 x.dom) ∧ w5.drew.cell? ⟨w.heap.size, 5, none⟩ = some (.bool x.a6) ∧ w5.drew.cell? ⟨w.heap.size, 6, none⟩ = some (.int .u64 x.ah) ∧ w5.drew.cell? ⟨w.heap.size, 7, none⟩ = some (.int .u64 x.al) ∧ w5.drew.cell? ⟨w.heap.size, 8, none⟩ = some (.bool x.b6) ∧ w5.drew.cell? ⟨w.heap.size, 9, none⟩ = some (.int .u64 x.bh) ∧ w5.drew.cell? ⟨w.heap.size, 10, none⟩ = some (.int .u64 x.bl) ∧ w5.drew.cell? ⟨w.heap.size + 1, 0, none⟩ = some (.slice y.nA y.nds.length y.nc) ∧ w5.drew.cell? ⟨w.heap.size + 1, 1, none⟩ = some (.slice y.vA y.vps.length y.vc) ∧ w5.drew.cell? ⟨w.heap.size + 1, 2, none⟩ = some (.slice y.wA y.vws.length y.wc) ∧ w5.drew.cell? ⟨w.heap.size + 1, 3, none⟩ = some (.int .i64 y.fac) ∧ w5.drew.cell? ⟨w.heap.size + 1, 4, none⟩ = some (.int .i64 y.dom) ∧ w5.drew.cell? ⟨w.heap.size + 1, 5, none⟩ = some (.bool y.a6) ∧ w5.drew.cell? ⟨w.heap.size + 1, 6, none⟩ = some (.int .u64 y.ah) ∧ w5.drew.cell? ⟨w.heap.size + 1, 7, none⟩ = some (.int .u64 y.al) ∧ w5.drew.cell? ⟨w.heap.size + 1, 8, none⟩ = some (.bool y.b6) ∧ w5.drew.cell? ⟨w.heap.size + 1, 9, none⟩ = some (.int .u64 y.bh) ∧ w5.drew.cell? ⟨w.heap.size + 1, 10, none⟩ = some (.int .u64 y.bl) := HS.out _ J0.out
  have tq : (q == q) = true := beq_self_eq_true q
  clear hw5 hb4 hq e0 e1 e2 e3 e4 e5 e6 e7 e8 e9 e10
  go_wp2_with (refine wpList_store_row rfl 30 _ _ rfl (w.heap.size + 1) #[.slice y.nA y.nds.length y.nc, .slice y.vA y.vps.length y.vc, .slice y.wA y.vws.length y.wc, .int .i64 y.fac, .int .i64 y.dom, .bool y.a6, .int .u64 y.ah, .int .u64 y.al, .bool y.b6, .int .u64 y.bh, .int .u64 y.bl] rfl rfl 30 #[.slice b.nA b.nds.length b.nc, .slice b.vA b.vps.length b.vc, .slice b.wA b.vws.length b.wc, .int .i64 b.fac, .int .i64 b.dom, .bool b.a6, .int .u64 b.ah, .int .u64 b.al, .bool b.b6, .int .u64 b.bh, .int .u64 b.bl] L4.out size_c rfl (Go.Proofs.Ytamndmlaikgogaa.vdR.one_c _ _ _ _ _ _ _ _ _ _ _ _ _ _ _ _ _) ?_; rw [← E5.out])
  go_region_held3 (fun V => V.cell? ⟨w.heap.size, 0, none⟩ = some (.slice x.nA x.nds.length x.nc) ∧ V.cell? ⟨w.heap.size, 1, none⟩ = some (.slice x.vA x.vps.length x.vc) ∧ V.cell? ⟨w.heap.size, 2, none⟩ = some (.slice x.wA x.vws.length x.wc) ∧ V.cell? ⟨w.heap.size, 3, none⟩ = some (.int .i64 x.fac) ∧ V.cell? ⟨w.heap.size, 4, none⟩ = some (.int .i64 x.dom) ∧ V.cell? ⟨w.heap.size, 5, none⟩ = some (.bool x.a6) ∧ V.cell? ⟨w.heap.size, 6, none⟩ = some (.int .u64 x.ah) ∧ V.cell? ⟨w.heap.size, 7, none⟩ = some (.int .u64 x.al) ∧ V.cell? ⟨w.heap.size, 8, none⟩ = some (.bool x.b6) ∧ V.cell? ⟨w.heap.size, 9, none⟩ = some (.int .u64 x.bh) ∧ V.cell? ⟨w.heap.size, 10, none⟩ = some (.int .u64 x.bl) ∧ V.cell? ⟨w.heap.size + 1, 0, none⟩ = some (.slice y.nA y.nds.length y.nc) ∧ V.cell? ⟨w.heap.size + 1, 1, none⟩ = some (.slice y.vA y.vps.length y.vc) ∧ V.cell? ⟨w.heap.size + 1, 2, none⟩ = some (.slice y.wA y.vws.length y.wc) ∧ V.cell? ⟨w.heap.size + 1, 3, none⟩ = some (.int .i64 y.fac) ∧ V.cell? ⟨w.heap.size + 1, 4, none⟩ = some (.int .i64 y.dom) ∧ V.cell? ⟨w.heap.size + 1, 5, none⟩ = some (.bool y.a6) ∧ V.cell? ⟨w.heap.size + 1, 6, none⟩ = some (.int .u64 y.ah) ∧ V.cell? ⟨w.heap.size + 1, 7, none⟩ = some (.int .u64 y.al) ∧ V.cell? ⟨w.heap.size + 1, 8, none⟩ = some (.bool y.b6) ∧ V.cell? ⟨w.heap.size + 1, 9, none⟩ = some (.int .u64 y.bh) ∧ V.cell? ⟨w.heap.size + 1, 10, none⟩ = some (.int .u64 y.bl)) (first | with_reducible assumption | with_reducible exact S1.out | with_reducible exact S2.out | with_reducible exact S3.out | with_reducible exact S4.out) (first
    | ((with_reducible refine (H1.out _ (by first | with_reducible exact J0.out)).mono ?_)
       rintro o v1 ⟨rfl, hb⟩
       have J1 := Lib.hid (show Below w5.heap.size w5 v1 from by first | with_reducible exact J0.out.trans (hb.mono J0.out.size))
       have S1 := Lib.hid (HS.out _ J1.out)
       clear hb)
    | ((with_reducible refine (H2.out _ (by first | with_reducible exact J1.out)).mono ?_)
       rintro o v2 ⟨rfl, hb⟩
       have J2 := Lib.hid (show Below w5.heap.size w5 v2 from by first | with_reducible exact J1.out.trans (hb.mono J1.out.size))
       have S2 := Lib.hid (HS.out _ J2.out)
       clear hb)
    | ((with_reducible refine (H3.out _ (by first | with_reducible exact J2.out)).mono ?_)
       rintro o v3 ⟨rfl, hb⟩
       have J3 := Lib.hid (show Below w5.heap.size w5 v3 from by first | with_reducible exact J2.out.trans (hb.mono J2.out.size))
       have S3 := Lib.hid (HS.out _ J3.out)
       clear hb)
    | ((with_reducible refine (H4.out _).mono ?_)
       rintro o v4 ⟨rfl, hb⟩
       have J4 := Lib.hid (show Below w5.heap.size w5 v4 from J3.out.trans (hb.mono J3.out.size))
       have S4 := Lib.hid (HS.out _ J4.out)
       clear hb))
  go_wp2_with fail
  go_ret
  exact ⟨rfl, B5.out.trans (J4.out.mono B5.out.size)⟩
end Go.Proofs.Ytamndmlaikgogaa.vdT
