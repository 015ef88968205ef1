/- Layer 19: the law ValidNews. -/
import Derived.Test.YtamndmlaikgogaaVdT
import Derived.Deep.RegionHeld3
namespace Go.Proofs.Ytamndmlaikgogaa.vdU
open Go.ChangeShapes Go.WideShapes Go.ChangeAt Go.RowKit
open Go.Proofs.Ytamndmlaikgogaa.base Go.Proofs.Ytamndmlaikgogaa.dfA Go.Proofs.Ytamndmlaikgogaa.treB Go.Proofs.Ytamndmlaikgogaa.vdA Go.Proofs.Ytamndmlaikgogaa.vdE Go.Proofs.Ytamndmlaikgogaa.vdH Go.Proofs.Ytamndmlaikgogaa.vdJ Go.Proofs.Ytamndmlaikgogaa.vdM Go.Proofs.Ytamndmlaikgogaa.vdN Go.Proofs.Ytamndmlaikgogaa.vdP Go.Proofs.Ytamndmlaikgogaa.vdQ Go.Proofs.Ytamndmlaikgogaa.vdR Go.Proofs.Ytamndmlaikgogaa.vdS Go.Proofs.Ytamndmlaikgogaa.vdT
set_option linter.unusedVariables false

theorem in_of {W V : World} {g T : Nat} {c d : Cf} (h : CfOk W g T d) (hs : SameC c d) (hx : CfIn V c) : CfIn W d :=
  ⟨h.rn, h.cn, h.cn2, by rw [hs.nds]; exact hx.n1, fun j hj => by
    have e : d.nds[j] = d.nds.getD j zNd := by rw [List.getD_eq_getElem?_getD, List.getElem?_eq_getElem hj]; rfl
    have hj2 : j < c.nds.length := by rw [← hs.nds]; exact hj
    have e2 : c.nds[j] = c.nds.getD j zNd := by rw [List.getD_eq_getElem?_getD, List.getElem?_eq_getElem hj2]; rfl
    rw [e, hs.nds, ← e2]
    exact hx.nm j hj2, h.rv, h.cv, h.cv2, by rw [hs.vps]; exact hx.v1, h.rw_, h.cw, h.cw2, by rw [hs.vws]; exact hx.w1, h.vu⟩
set_option maxHeartbeats 16000000 in
set_option maxRecDepth 100000 in
theorem news_law (a : Cf) (w : World) (ha : CfRaw w a) : Calls Try.prog 3 #[.agg a.cells] w (RetB true w) := by
  show Calls _ _ #[.agg #[.slice a.nA a.nds.length a.nc, .slice a.vA a.vps.length a.vc, .slice a.wA a.vws.length a.wc, .int .i64 a.fac, .int .i64 a.dom, .bool a.a6, .int .u64 a.ah, .int .u64 a.al, .bool a.b6, .int .u64 a.bh, .int .u64 a.bl]] _ _
  obtain ⟨w1, hw1⟩ : ∃ w1, w1 = w.alloc (.cells #[.slice a.nA a.nds.length a.nc, .slice a.vA a.vps.length a.vc, .slice a.wA a.vws.length a.wc, .int .i64 a.fac, .int .i64 a.dom, .bool a.a6, .int .u64 a.ah, .int .u64 a.al, .bool a.b6, .int .u64 a.bh, .int .u64 a.bl] 30) := ⟨_, rfl⟩
  have E1 := Lib.hid hw1
  have K1 := Lib.hid (show Blk w1 w.heap.size 30 #[.slice a.nA a.nds.length a.nc, .slice a.vA a.vps.length a.vc, .slice a.wA a.vws.length a.wc, .int .i64 a.fac, .int .i64 a.dom, .bool a.a6, .int .u64 a.ah, .int .u64 a.al, .bool a.b6, .int .u64 a.bh, .int .u64 a.bl] from hw1 ▸ Blk.new w _ _)
  have B1 := Lib.hid (show Below w.heap.size w w1 from hw1 ▸ (Below.refl _ _).alloc (Nat.le_refl _) _)
  have FA0 := Lib.hid (few_c a w ha)
  have IA0 := Lib.hid (few_in ha)
  obtain ⟨x, hx⟩ : ∃ x, x = fewC a := ⟨_, rfl⟩
  rw [← hx] at FA0 IA0
  have FA := Lib.hid (show ∀ W, Calls Try.prog 9 #[.agg #[.slice a.nA a.nds.length a.nc, .slice a.vA a.vps.length a.vc, .slice a.wA a.vws.length a.wc, .int .i64 a.fac, .int .i64 a.dom, .bool a.a6, .int .u64 a.ah, .int .u64 a.al, .bool a.b6, .int .u64 a.bh, .int .u64 a.bl]] W fun o w' => o = .returned (.agg #[.slice x.nA x.nds.length x.nc, .slice x.vA x.vps.length x.vc, .slice x.wA x.vws.length x.wc, .int .i64 x.fac, .int .i64 x.dom, .bool x.a6, .int .u64 x.ah, .int .u64 x.al, .bool x.b6, .int .u64 x.bh, .int .u64 x.bl]) ∧ Below W.heap.size W w' from FA0.out)
  have d0 : w1.cell? ⟨w.heap.size, 0, none⟩ = some (.slice a.nA a.nds.length a.nc) := K1.out.cell 0
  have d1 : w1.cell? ⟨w.heap.size, 1, none⟩ = some (.slice a.vA a.vps.length a.vc) := K1.out.cell 1
  have d2 : w1.cell? ⟨w.heap.size, 2, none⟩ = some (.slice a.wA a.vws.length a.wc) := K1.out.cell 2
  have d3 : w1.cell? ⟨w.heap.size, 3, none⟩ = some (.int .i64 a.fac) := K1.out.cell 3
  have d4 : w1.cell? ⟨w.heap.size, 4, none⟩ = some (.int .i64 a.dom) := K1.out.cell 4
  have d5 : w1.cell? ⟨w.heap.size, 5, none⟩ = some (.bool a.a6) := K1.out.cell 5
  have d6 : w1.cell? ⟨w.heap.size, 6, none⟩ = some (.int .u64 a.ah) := K1.out.cell 6
  have d7 : w1.cell? ⟨w.heap.size, 7, none⟩ = some (.int .u64 a.al) := K1.out.cell 7
  have d8 : w1.cell? ⟨w.heap.size, 8, none⟩ = some (.bool a.b6) := K1.out.cell 8
  have d9 : w1.cell? ⟨w.heap.size, 9, none⟩ = some (.int .u64 a.bh) := K1.out.cell 9
  have d10 : w1.cell? ⟨w.heap.size, 10, none⟩ = some (.int .u64 a.bl) := K1.out.cell 10
  clear hw1 ha hx FA0
  go_enter Try.func3, Try.ntmps3
  go_upto_region 1 with fail
  rw [← E1.out]
  go_wp2_with fail
  refine (FA.out _).mono ?_
  rintro o w2 ⟨rfl, hb2⟩
  have B2 := Lib.hid (B1.out.trans (hb2.mono B1.out.size))
  have K2 := Lib.hid (show Blk w2 w.heap.size 30 #[.slice a.nA a.nds.length a.nc, .slice a.vA a.vps.length a.vc, .slice a.wA a.vws.length a.wc, .int .i64 a.fac, .int .i64 a.dom, .bool a.a6, .int .u64 a.ah, .int .u64 a.al, .bool a.b6, .int .u64 a.bh, .int .u64 a.bl] from K1.out.below hb2 K1.out.lt)
  obtain ⟨w3, hw3⟩ : ∃ w3, w3 = w2.setRow w.heap.size #[.slice x.nA x.nds.length x.nc, .slice x.vA x.vps.length x.vc, .slice x.wA x.vws.length x.wc, .int .i64 x.fac, .int .i64 x.dom, .bool x.a6, .int .u64 x.ah, .int .u64 x.al, .bool x.b6, .int .u64 x.bh, .int .u64 x.bl] := ⟨_, rfl⟩
  have E3 := Lib.hid hw3
  have K3 := Lib.hid (show Blk w3 w.heap.size 30 #[.slice x.nA x.nds.length x.nc, .slice x.vA x.vps.length x.vc, .slice x.wA x.vws.length x.wc, .int .i64 x.fac, .int .i64 x.dom, .bool x.a6, .int .u64 x.ah, .int .u64 x.al, .bool x.b6, .int .u64 x.bh, .int .u64 x.bl] from hw3 ▸ setRow_heap _ w.heap.size _ #[.slice x.nA x.nds.length x.nc, .slice x.vA x.vps.length x.vc, .slice x.wA x.vws.length x.wc, .int .i64 x.fac, .int .i64 x.dom, .bool x.a6, .int .u64 x.ah, .int .u64 x.al, .bool x.b6, .int .u64 x.bh, .int .u64 x.bl] _ (0, 0) K2.out)
  have B3 := Lib.hid (show Below w.heap.size w w3 from hw3 ▸ below_row B2.out (Nat.le_refl _) _)
  have CI := Lib.hid (show ∀ W, Below w.heap.size w W → CfIn W x from fun W hb => IA0.out.below hb)
  have HN := Lib.hid (show Calls Try.prog 10 #[.agg #[.slice x.nA x.nds.length x.nc, .slice x.vA x.vps.length x.vc, .slice x.wA x.vws.length x.wc, .int .i64 x.fac, .int .i64 x.dom, .bool x.a6, .int .u64 x.ah, .int .u64 x.al, .bool x.b6, .int .u64 x.bh, .int .u64 x.bl]] w3 (fun o w' => NewC x w3 o w' ∧ Below w3.heap.size w3 w') from new_c x w3 (CI.out _ B3.out))
  have e0 : w3.cell? ⟨w.heap.size, 0, none⟩ = some (.slice x.nA x.nds.length x.nc) := K3.out.cell 0
  have e1 : w3.cell? ⟨w.heap.size, 1, none⟩ = some (.slice x.vA x.vps.length x.vc) := K3.out.cell 1
  have e2 : w3.cell? ⟨w.heap.size, 2, none⟩ = some (.slice x.wA x.vws.length x.wc) := K3.out.cell 2
  have e3 : w3.cell? ⟨w.heap.size, 3, none⟩ = some (.int .i64 x.fac) := K3.out.cell 3
  have e4 : w3.cell? ⟨w.heap.size, 4, none⟩ = some (.int .i64 x.dom) := K3.out.cell 4
  have e5 : w3.cell? ⟨w.heap.size, 5, none⟩ = some (.bool x.a6) := K3.out.cell 5
  have e6 : w3.cell? ⟨w.heap.size, 6, none⟩ = some (.int .u64 x.ah) := K3.out.cell 6
  have e7 : w3.cell? ⟨w.heap.size, 7, none⟩ = some (.int .u64 x.al) := K3.out.cell 7
  have e8 : w3.cell? ⟨w.heap.size, 8, none⟩ = some (.bool x.b6) := K3.out.cell 8
  have e9 : w3.cell? ⟨w.heap.size, 9, none⟩ = some (.int .u64 x.bh) := K3.out.cell 9
  have e10 : w3.cell? ⟨w.heap.size, 10, none⟩ = some (.int .u64 x.bl) := K3.out.cell 10
  clear hw3 hb2 d0 d1 d2 d3 d4 d5 d6 d7 d8 d9 d10
  go_wp2_with (refine wpList_store_row rfl 30 _ _ rfl w.heap.size #[.slice x.nA x.nds.length x.nc, .slice x.vA x.vps.length x.vc, .slice x.wA x.vws.length x.wc, .int .i64 x.fac, .int .i64 x.dom, .bool x.a6, .int .u64 x.ah, .int .u64 x.al, .bool x.b6, .int .u64 x.bh, .int .u64 x.bl] rfl rfl 30 #[.slice a.nA a.nds.length a.nc, .slice a.vA a.vps.length a.vc, .slice a.wA a.vws.length a.wc, .int .i64 a.fac, .int .i64 a.dom, .bool a.a6, .int .u64 a.ah, .int .u64 a.al, .bool a.b6, .int .u64 a.bh, .int .u64 a.bl] K2.out size_c rfl (Go.Proofs.Ytamndmlaikgogaa.vdR.one_c _ _ _ _ _ _ _ _ _ _ _ _ _ _ _ _ _) ?_; rw [← E3.out])
  refine HN.out.mono ?_
  rintro o w4 ⟨hnc, hb4⟩
  have B4 := Lib.hid (B3.out.trans (hb4.mono B3.out.size))
  have K4 := Lib.hid (show Blk w4 w.heap.size 30 #[.slice x.nA x.nds.length x.nc, .slice x.vA x.vps.length x.vc, .slice x.wA x.vws.length x.wc, .int .i64 x.fac, .int .i64 x.dom, .bool x.a6, .int .u64 x.ah, .int .u64 x.al, .bool x.b6, .int .u64 x.bh, .int .u64 x.bl] from K3.out.below hb4 K3.out.lt)
  have HWY := Lib.hid (show Calls Try.prog 11 #[.agg #[.slice x.nA x.nds.length x.nc, .slice x.vA x.vps.length x.vc, .slice x.wA x.vws.length x.wc, .int .i64 x.fac, .int .i64 x.dom, .bool x.a6, .int .u64 x.ah, .int .u64 x.al, .bool x.b6, .int .u64 x.bh, .int .u64 x.bl]] w4 (RetI (confE x) w4) from lwhy_any x w4 (CI.out _ B4.out))
  have d0 : w4.cell? ⟨w.heap.size, 0, none⟩ = some (.slice x.nA x.nds.length x.nc) := K4.out.cell 0
  have d1 : w4.cell? ⟨w.heap.size, 1, none⟩ = some (.slice x.vA x.vps.length x.vc) := K4.out.cell 1
  have d2 : w4.cell? ⟨w.heap.size, 2, none⟩ = some (.slice x.wA x.vws.length x.wc) := K4.out.cell 2
  have d3 : w4.cell? ⟨w.heap.size, 3, none⟩ = some (.int .i64 x.fac) := K4.out.cell 3
  have d4 : w4.cell? ⟨w.heap.size, 4, none⟩ = some (.int .i64 x.dom) := K4.out.cell 4
  have d5 : w4.cell? ⟨w.heap.size, 5, none⟩ = some (.bool x.a6) := K4.out.cell 5
  have d6 : w4.cell? ⟨w.heap.size, 6, none⟩ = some (.int .u64 x.ah) := K4.out.cell 6
  have d7 : w4.cell? ⟨w.heap.size, 7, none⟩ = some (.int .u64 x.al) := K4.out.cell 7
  have d8 : w4.cell? ⟨w.heap.size, 8, none⟩ = some (.bool x.b6) := K4.out.cell 8
  have d9 : w4.cell? ⟨w.heap.size, 9, none⟩ = some (.int .u64 x.bh) := K4.out.cell 9
  have d10 : w4.cell? ⟨w.heap.size, 10, none⟩ = some (.int .u64 x.bl) := K4.out.cell 10
  obtain ⟨z, hz⟩ : ∃ z, z = confE x := ⟨_, rfl⟩
  rw [← hz] at HWY
  clear hb4 e0 e1 e2 e3 e4 e5 e6 e7 e8 e9 e10
  rcases hnc with ⟨hne, rfl⟩ | ⟨h0, g, T, d, rfl, hok, hsm, hg1, hg2⟩
  · rw [← hz] at hne ⊢
    have t1 : (z != z) = false := by simp
    have t2 : (z != 0) = true := bne_iff_ne.mpr hne
    have HAW := Lib.hid awake_any
    clear hz hne
    go_wp2_with fail
    refine HWY.out.mono ?_
    rintro o w5 ⟨rfl, hb5⟩
    have B5 := Lib.hid (B4.out.trans (hb5.mono B4.out.size))
    clear hb5
    go_wp2_with fail
    refine (HAW.out _).mono ?_
    rintro o w6 ⟨rfl, hb6⟩
    have B6 := Lib.hid (B5.out.trans (hb6.mono B5.out.size))
    clear hb6
    go_wp2_with fail
    go_ret
    exact ⟨rfl, B6.out⟩
  · rw [h0] at hz
    subst hz
    have OK := Lib.hid hok
    have SM := Lib.hid hsm
    clear hok hsm h0 hg1 hg2
    go_wp2_with fail
    refine HWY.out.mono ?_
    rintro o w5 ⟨rfl, hb5⟩
    have B5 := Lib.hid (B4.out.trans (hb5.mono B4.out.size))
    have K5 := Lib.hid (show Blk w5 w.heap.size 30 #[.slice x.nA x.nds.length x.nc, .slice x.vA x.vps.length x.vc, .slice x.wA x.vws.length x.wc, .int .i64 x.fac, .int .i64 x.dom, .bool x.a6, .int .u64 x.ah, .int .u64 x.al, .bool x.b6, .int .u64 x.bh, .int .u64 x.bl] from K4.out.below hb5 K4.out.lt)
    have O5 := Lib.hid (OK.out.below hb5)
    have HS := Lib.hid (show ∀ W, Below w5.heap.size w5 W → W.cell? ⟨g, 0, none⟩ = some (.slice d.nA d.nds.length d.nc) ∧ W.cell? ⟨g, 1, none⟩ = some (.slice d.vA d.vps.length d.vc) ∧ W.cell? ⟨g, 2, none⟩ = some (.slice d.wA d.vws.length d.wc) ∧ W.cell? ⟨g, 3, none⟩ = some (.int .i64 d.fac) ∧ W.cell? ⟨g, 4, none⟩ = some (.int .i64 d.dom) ∧ W.cell? ⟨g, 5, none⟩ = some (.bool d.a6) ∧ W.cell? ⟨g, 6, none⟩ = some (.int .u64 d.ah) ∧ W.cell? ⟨g, 7, none⟩ = some (.int .u64 d.al) ∧ W.cell? ⟨g, 8, none⟩ = some (.bool d.b6) ∧ W.cell? ⟨g, 9, none⟩ = some (.int .u64 d.bh) ∧ W.cell? ⟨g, 10, none⟩ = some (.int .u64 d.bl) ∧ W.cell? ⟨g, 11, none⟩ = some (.pointer (some ⟨T, 0, none⟩)) ∧ W.cell? ⟨w.heap.size, 0, none⟩ = some (.slice x.nA x.nds.length x.nc) ∧ W.cell? ⟨w.heap.size, 1, none⟩ = some (.slice x.vA x.vps.length x.vc) ∧ W.cell? ⟨w.heap.size, 2, none⟩ = some (.slice x.wA x.vws.length x.wc) ∧ W.cell? ⟨w.heap.size, 3, none⟩ = some (.int .i64 x.fac) ∧ W.cell? ⟨w.heap.size, 4, none⟩ = some (.int .i64 x.dom) ∧ W.cell? ⟨w.heap.size, 5, none⟩ = some (.bool x.a6) ∧ W.cell? ⟨w.heap.size, 6, none⟩ = some (.int .u64 x.ah) ∧ W.cell? ⟨w.heap.size, 7, none⟩ = some (.int .u64 x.al) ∧ W.cell? ⟨w.heap.size, 8, none⟩ = some (.bool x.b6) ∧ W.cell? ⟨w.heap.size, 9, none⟩ = some (.int .u64 x.bh) ∧ W.cell? ⟨w.heap.size, 10, none⟩ = some (.int .u64 x.bl) from fun W hb => by
      have k := K5.out.below hb K5.out.lt
      have l := (O5.out.below hb).blk
      exact ⟨l.cell 0, l.cell 1, l.cell 2, l.cell 3, l.cell 4, l.cell 5, l.cell 6, l.cell 7, l.cell 8, l.cell 9, l.cell 10, l.cell 11, k.cell 0, k.cell 1, k.cell 2, k.cell 3, k.cell 4, k.cell 5, k.cell 6, k.cell 7, k.cell 8, k.cell 9, k.cell 10⟩)
    have HSA := Lib.hid (show ∀ W, Below w5.heap.size w5 W → Calls Try.prog 13 #[.agg #[.slice d.nA d.nds.length d.nc, .slice d.vA d.vps.length d.vc, .slice d.wA d.vws.length d.wc, .int .i64 d.fac, .int .i64 d.dom, .bool d.a6, .int .u64 d.ah, .int .u64 d.al, .bool d.b6, .int .u64 d.bh, .int .u64 d.bl], .agg #[.slice x.nA x.nds.length x.nc, .slice x.vA x.vps.length x.vc, .slice x.wA x.vws.length x.wc, .int .i64 x.fac, .int .i64 x.dom, .bool x.a6, .int .u64 x.ah, .int .u64 x.al, .bool x.b6, .int .u64 x.bh, .int .u64 x.bl]] W (RetB true W) from fun W hb => by
      have h := lsame_q d x W (in_of (O5.out.below hb) SM.out (CI.out W (B5.out.trans (hb.mono B5.out.size)))) (CI.out W (B5.out.trans (hb.mono B5.out.size)))
      rw [sameQ_of SM.out] at h
      exact h)
    have HLE := Lib.hid (show ∀ W, Below w5.heap.size w5 W → Calls Try.prog 14 #[.pointer (some ⟨T, 0, none⟩)] W fun o w' => o = .returned (.int .i64 x.nds.length) ∧ Below W.heap.size W w' from fun W hb => by
      have h := len_ok (O5.out.below hb).ok
      rw [SM.out.nds] at h
      exact h)
    have J0 := Lib.hid (show Below w5.heap.size w5 w5.drew from (Below.refl _ _).drew)
    have s0 : w5.drew.cell? ⟨g, 0, none⟩ = some (.slice d.nA d.nds.length d.nc) ∧ w5.drew.cell? ⟨g, 1, none⟩ = some (.slice d.vA d.vps.length d.vc) ∧ w5.drew.cell? ⟨g, 2, none⟩ = some (.slice d.wA d.vws.length d.wc) ∧ w5.drew.cell? ⟨g, 3, none⟩ = some (.int .i64 d.fac) ∧ w5.drew.cell? ⟨g, 4, none⟩ = some (.int .i64 d.dom) ∧ w5.drew.cell? ⟨g, 5, none⟩ = some (.bool d.a6) ∧ w5.drew.cell? ⟨g, 6, none⟩ = some (.int .u64 d.ah) ∧ w5.drew.cell? ⟨g, 7, none⟩ = some (.int .u64 d.al) ∧ w5.drew.cell? ⟨g, 8, none⟩ = some (.bool d.b6) ∧ w5.drew.cell? ⟨g, 9, none⟩ = some (.int .u64 d.bh) ∧ w5.drew.cell? ⟨g, 10, none⟩ = some (.int .u64 d.bl) ∧ w5.drew.cell? ⟨g, 11, none⟩ = some (.pointer (some ⟨T, 0, none⟩)) ∧ w5.drew.cell? ⟨w.heap.size, 0, none⟩ = some (.slice x.nA x.nds.length x.nc) ∧ w5.drew.cell? ⟨w.heap.size, 1, none⟩ = some (.slice x.vA x.vps.length x.vc) ∧ w5.drew.cell? ⟨w.heap.size, 2, none⟩ = some (.slice x.wA x.vws.length x.wc) ∧ w5.drew.cell? ⟨w.heap.size, 3, none⟩ = some (.int .i64 x.fac) ∧ w5.drew.cell? ⟨w.heap.size, 4, none⟩ = some (.int .i64 x.dom) ∧ w5.drew.cell? ⟨w.heap.size, 5, none⟩ = some (.bool x.a6) ∧ w5.drew.cell? ⟨w.heap.size, 6, none⟩ = some (.int .u64 x.ah) ∧ w5.drew.cell? ⟨w.heap.size, 7, none⟩ = some (.int .u64 x.al) ∧ w5.drew.cell? ⟨w.heap.size, 8, none⟩ = some (.bool x.b6) ∧ w5.drew.cell? ⟨w.heap.size, 9, none⟩ = some (.int .u64 x.bh) ∧ w5.drew.cell? ⟨w.heap.size, 10, none⟩ = some (.int .u64 x.bl) := HS.out _ J0.out
    have tl : ((x.nds.length : Int) != (x.nds.length : Int)) = false := by simp
    have tm : (x.nds.length != x.nds.length) = false := by simp
    clear hb5 d0 d1 d2 d3 d4 d5 d6 d7 d8 d9 d10
    go_wp2_with fail
    go_region_held3 (fun V => V.cell? ⟨g, 0, none⟩ = some (.slice d.nA d.nds.length d.nc) ∧ V.cell? ⟨g, 1, none⟩ = some (.slice d.vA d.vps.length d.vc) ∧ V.cell? ⟨g, 2, none⟩ = some (.slice d.wA d.vws.length d.wc) ∧ V.cell? ⟨g, 3, none⟩ = some (.int .i64 d.fac) ∧ V.cell? ⟨g, 4, none⟩ = some (.int .i64 d.dom) ∧ V.cell? ⟨g, 5, none⟩ = some (.bool d.a6) ∧ V.cell? ⟨g, 6, none⟩ = some (.int .u64 d.ah) ∧ V.cell? ⟨g, 7, none⟩ = some (.int .u64 d.al) ∧ V.cell? ⟨g, 8, none⟩ = some (.bool d.b6) ∧ V.cell? ⟨g, 9, none⟩ = some (.int .u64 d.bh) ∧ V.cell? ⟨g, 10, none⟩ = some (.int .u64 d.bl) ∧ V.cell? ⟨g, 11, none⟩ = some (.pointer (some ⟨T, 0, none⟩)) ∧ V.cell? ⟨w.heap.size, 0, none⟩ = some (.slice x.nA x.nds.length x.nc) ∧ V.cell? ⟨w.heap.size, 1, none⟩ = some (.slice x.vA x.vps.length x.vc) ∧ V.cell? ⟨w.heap.size, 2, none⟩ = some (.slice x.wA x.vws.length x.wc) ∧ V.cell? ⟨w.heap.size, 3, none⟩ = some (.int .i64 x.fac) ∧ V.cell? ⟨w.heap.size, 4, none⟩ = some (.int .i64 x.dom) ∧ V.cell? ⟨w.heap.size, 5, none⟩ = some (.bool x.a6) ∧ V.cell? ⟨w.heap.size, 6, none⟩ = some (.int .u64 x.ah) ∧ V.cell? ⟨w.heap.size, 7, none⟩ = some (.int .u64 x.al) ∧ V.cell? ⟨w.heap.size, 8, none⟩ = some (.bool x.b6) ∧ V.cell? ⟨w.heap.size, 9, none⟩ = some (.int .u64 x.bh) ∧ V.cell? ⟨w.heap.size, 10, none⟩ = some (.int .u64 x.bl)) (first | with_reducible assumption | with_reducible exact S1.out | with_reducible exact S2.out) (first
      | ((with_reducible refine (HSA.out _ J0.out).mono ?_)
         rintro o v1 ⟨rfl, hb⟩
         have J1 := Lib.hid (show Below w5.heap.size w5 v1 from J0.out.trans (hb.mono J0.out.size))
         have S1 := Lib.hid (HS.out _ J1.out)
         clear hb)
      | ((with_reducible refine (HLE.out _ J1.out).mono ?_)
         rintro o v2 ⟨rfl, hb⟩
         have J2 := Lib.hid (show Below w5.heap.size w5 v2 from J1.out.trans (hb.mono J1.out.size))
         have S2 := Lib.hid (HS.out _ J2.out)
         clear hb))
    obtain ⟨nA, hnA⟩ : ∃ y, y = x.nA := ⟨_, rfl⟩
    obtain ⟨nC, hnC⟩ : ∃ y, y = x.nc := ⟨_, rfl⟩
    obtain ⟨nn, hnn⟩ : ∃ y, y = x.nds.length := ⟨_, rfl⟩
    have B6 := Lib.hid (B5.out.trans (J2.out.mono B5.out.size))
    have RN := Lib.hid (show RdN v2 nA x.nds from hnA ▸ (CI.out _ B6.out).rn)
    have s1 : nn ≤ nC := by have := (CI.out _ B6.out).cn; omega
    have s2 : nC ≤ 9223372036854775807 := by have := (CI.out _ B6.out).cn2; omega
    have SN := Lib.hid hnn
    have HF := Lib.hid (show ∀ W, Below v2.heap.size v2 W → W.cell? ⟨w.heap.size, 0, none⟩ = some (.slice nA nn nC) ∧ W.cell? ⟨g, 11, none⟩ = some (.pointer (some ⟨T, 0, none⟩)) ∧ CfOk W g T d from fun W hb => by
      have hb2 := J2.out.trans (hb.mono J2.out.size)
      refine ⟨?_, (O5.out.below hb2).blk.cell 11, O5.out.below hb2⟩
      rw [hnA, hnC, hnn]
      exact (K5.out.below hb2 K5.out.lt).cell 0)
    have W0 := Lib.hid (Below.refl v2.heap.size v2)
    have c0 := (HF.out _ W0.out).1
    clear s0 tl tm hnA hnC hnn HS HSA HLE
    go_wp2_with fail
    go_loopw [5] (fun i wr => ∃ k : Nat, i = .int .i64 k ∧ k ≤ nn ∧ Below v2.heap.size v2 wr) (fun i _ => nn - (intOf i).toNat)
    case atStart => exact ⟨0, rfl, by omega, W0.out⟩
    case round =>
      obtain ⟨k, rfl, hk, hbel⟩ := hrel
      have KB := Lib.hid hbel
      clear hbel c0
      obtain ⟨r1, r2, r3⟩ := HF.out _ KB.out
      have R3 := Lib.hid r3
      clear r3
      by_cases hkn : k < nn
      · have t1 : decide ((k : Int) < nn) = true := decide_eq_true (by omega)
        have t3 : decide (k < nn) = true := decide_eq_true hkn
        obtain ⟨b, off, hA, hbl, hCl⟩ := (RN.out.below KB.out).at_ k (by have := SN.out; omega)
        subst hA
        have hge : x.nds[k]'(by have := SN.out; omega) = x.nds.getD k zNd := by rw [List.getD_eq_getElem?_getD, List.getElem?_eq_getElem (by have := SN.out; omega)]; rfl
        rw [hge] at hCl
        have HND0 := Lib.hid (show ∀ W, Below wr.heap.size wr W → Calls Try.prog 15 #[.pointer (some ⟨T, 0, none⟩), .int .i64 k] W fun o w' => o = .returned (.agg (x.nds.getD k zNd).cells) ∧ Below W.heap.size W w' from fun W hb => by
          obtain ⟨A2, c2, K2, kc2, ht2⟩ := (R3.out.below hb).ok.at_
          have h := node_any ht2 (k : Int)
          rw [ndAt_nat (by rw [SM.out.nds]; have := SN.out; omega), SM.out.nds] at h
          exact h)
        obtain ⟨e, he⟩ : ∃ e, e = x.nds.getD k zNd := ⟨_, rfl⟩
        rw [← he] at hCl HND0
        have HND := Lib.hid (show ∀ W, Below wr.heap.size wr W → Calls Try.prog 15 #[.pointer (some ⟨T, 0, none⟩), .int .i64 k] W fun o w' => o = .returned (.agg #[.string e.nm, .int .i64 e.kind, .int .i64 e.ab, .int .i64 e.wt, .bool e.v6, .int .u64 e.hi, .int .u64 e.lo]) ∧ Below W.heap.size W w' from HND0.out)
        have HNE := fun W => neN_run e e W
        have hq := eqN_refl e
        rw [hq] at HNE
        have HS2 := Lib.hid (show ∀ W, Below wr.heap.size wr W → W.cell? ⟨g, 11, none⟩ = some (.pointer (some ⟨T, 0, none⟩)) ∧ W.cell? ⟨w.heap.size, 0, none⟩ = some (.slice (some ⟨b, off, none⟩) nn nC) ∧ W.cell? ⟨b, off + k * 7, none⟩ = some (.string e.nm) ∧ W.cell? ⟨b, off + k * 7 + 1, none⟩ = some (.int .i64 e.kind) ∧ W.cell? ⟨b, off + k * 7 + 2, none⟩ = some (.int .i64 e.ab) ∧ W.cell? ⟨b, off + k * 7 + 3, none⟩ = some (.int .i64 e.wt) ∧ W.cell? ⟨b, off + k * 7 + 4, none⟩ = some (.bool e.v6) ∧ W.cell? ⟨b, off + k * 7 + 5, none⟩ = some (.int .u64 e.hi) ∧ W.cell? ⟨b, off + k * 7 + 6, none⟩ = some (.int .u64 e.lo) from fun W hb => by
          have hh := HF.out _ (KB.out.trans (hb.mono KB.out.size))
          refine ⟨hh.2.1, hh.1, ?_, ?_, ?_, ?_, ?_, ?_, ?_⟩
          · exact (hb.cell (p := ⟨b, off + k * 7, none⟩) hbl).trans (hCl 0 (by omega))
          · exact (hb.cell (p := ⟨b, off + k * 7 + 1, none⟩) hbl).trans (hCl 1 (by omega))
          · exact (hb.cell (p := ⟨b, off + k * 7 + 2, none⟩) hbl).trans (hCl 2 (by omega))
          · exact (hb.cell (p := ⟨b, off + k * 7 + 3, none⟩) hbl).trans (hCl 3 (by omega))
          · exact (hb.cell (p := ⟨b, off + k * 7 + 4, none⟩) hbl).trans (hCl 4 (by omega))
          · exact (hb.cell (p := ⟨b, off + k * 7 + 5, none⟩) hbl).trans (hCl 5 (by omega))
          · exact (hb.cell (p := ⟨b, off + k * 7 + 6, none⟩) hbl).trans (hCl 6 (by omega))
          )
        have j0 : (0 : Int) ≤ k := by omega
        have j1 : (k : Int) < nn := by omega
        have JJ := Lib.hid (show Below wr.heap.size wr wr.drew from (Below.refl _ _).drew)
        have s0 : wr.drew.cell? ⟨g, 11, none⟩ = some (.pointer (some ⟨T, 0, none⟩)) ∧ wr.drew.cell? ⟨w.heap.size, 0, none⟩ = some (.slice (some ⟨b, off, none⟩) nn nC) ∧ wr.drew.cell? ⟨b, off + k * 7, none⟩ = some (.string e.nm) ∧ wr.drew.cell? ⟨b, off + k * 7 + 1, none⟩ = some (.int .i64 e.kind) ∧ wr.drew.cell? ⟨b, off + k * 7 + 2, none⟩ = some (.int .i64 e.ab) ∧ wr.drew.cell? ⟨b, off + k * 7 + 3, none⟩ = some (.int .i64 e.wt) ∧ wr.drew.cell? ⟨b, off + k * 7 + 4, none⟩ = some (.bool e.v6) ∧ wr.drew.cell? ⟨b, off + k * 7 + 5, none⟩ = some (.int .u64 e.hi) ∧ wr.drew.cell? ⟨b, off + k * 7 + 6, none⟩ = some (.int .u64 e.lo) := HS2.out _ JJ.out
        clear hge he hCl HND0 hq
        go_wp2_with fail
        go_region_held3 (fun V => V.cell? ⟨g, 11, none⟩ = some (.pointer (some ⟨T, 0, none⟩)) ∧ V.cell? ⟨w.heap.size, 0, none⟩ = some (.slice (some ⟨b, off, none⟩) nn nC) ∧ V.cell? ⟨b, off + k * 7, none⟩ = some (.string e.nm) ∧ V.cell? ⟨b, off + k * 7 + 1, none⟩ = some (.int .i64 e.kind) ∧ V.cell? ⟨b, off + k * 7 + 2, none⟩ = some (.int .i64 e.ab) ∧ V.cell? ⟨b, off + k * 7 + 3, none⟩ = some (.int .i64 e.wt) ∧ V.cell? ⟨b, off + k * 7 + 4, none⟩ = some (.bool e.v6) ∧ V.cell? ⟨b, off + k * 7 + 5, none⟩ = some (.int .u64 e.hi) ∧ V.cell? ⟨b, off + k * 7 + 6, none⟩ = some (.int .u64 e.lo)) (first | with_reducible assumption | with_reducible exact S3.out) (first
          | ((with_reducible refine (HND.out _ JJ.out).mono ?_)
             rintro o v3 ⟨rfl, hb⟩
             have J3 := Lib.hid (show Below wr.heap.size wr v3 from JJ.out.trans (hb.mono JJ.out.size))
             have S3 := Lib.hid (HS2.out _ J3.out)
             clear hb))
        go_wp2_with fail
        go_roundw
        case rel => exact ⟨k + 1, by go_num, by omega, KB.out.trans (J3.out.mono KB.out.size)⟩
        case measure => simp [intOf]; omega
      · have t1 : decide ((k : Int) < nn) = false := decide_eq_false (by omega)
        have t3 : decide (k < nn) = false := decide_eq_false hkn
        obtain rfl : nn = k := by omega
        have HAW := Lib.hid awake_any
        have B7 := Lib.hid (B6.out.trans (KB.out.mono B6.out.size))
        go_wp2_with fail
        refine (HAW.out _).mono ?_
        rintro o w8 ⟨rfl, hb8⟩
        have B8 := Lib.hid (B7.out.trans (hb8.mono B7.out.size))
        clear hb8
        go_wp2_with fail
        go_ret
        exact ⟨rfl, B8.out⟩
end Go.Proofs.Ytamndmlaikgogaa.vdU
