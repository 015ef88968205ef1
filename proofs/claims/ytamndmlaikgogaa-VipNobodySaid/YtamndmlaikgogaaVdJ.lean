/- Layer 19: valid.New. -/
import Derived.Test.YtamndmlaikgogaaVdI
namespace Go.Proofs.Ytamndmlaikgogaa.vdJ
open Go.ChangeShapes Go.WideShapes Go.ChangeAt Go.RowKit
open Go.Proofs.Ytamndmlaikgogaa.base Go.Proofs.Ytamndmlaikgogaa.dfA Go.Proofs.Ytamndmlaikgogaa.treB Go.Proofs.Ytamndmlaikgogaa.treD Go.Proofs.Ytamndmlaikgogaa.treE Go.Proofs.Ytamndmlaikgogaa.treF Go.Proofs.Ytamndmlaikgogaa.treH Go.Proofs.Ytamndmlaikgogaa.treI Go.Proofs.Ytamndmlaikgogaa.treM Go.Proofs.Ytamndmlaikgogaa.vdD Go.Proofs.Ytamndmlaikgogaa.vdA Go.Proofs.Ytamndmlaikgogaa.vdE Go.Proofs.Ytamndmlaikgogaa.vdF Go.Proofs.Ytamndmlaikgogaa.vdG Go.Proofs.Ytamndmlaikgogaa.vdH Go.Proofs.Ytamndmlaikgogaa.vdI
set_option linter.unusedVariables false

/-- A configuration that comes in. -/
structure CfIn (w : World) (c : Cf) : Prop where
  rn : RdN w c.nA c.nds
  cn : c.nds.length ≤ c.nc
  cn2 : c.nc ≤ 9223372036854775807
  n1 : c.nds.length ≤ 60
  nm : ∀ j (hj : j < c.nds.length), (c.nds[j]).nm.size ≤ 9223372036854775807
  rv : RdV w c.vA c.vps
  cv : c.vps.length ≤ c.vc
  cv2 : c.vc ≤ 9223372036854775807
  v1 : c.vps.length ≤ 1000
  rw_ : RdW w c.wA c.vws
  cw : c.vws.length ≤ c.wc
  cw2 : c.wc ≤ 9223372036854775807
  w1 : c.vws.length ≤ 1000
  vu : ∀ j, j < c.vws.length → U64 (c.vws.getD j zVw).hi ∧ U64 (c.vws.getD j zVw).lo
theorem CfIn.below {w w' : World} {c : Cf} (h : CfIn w c) (hb : Below w.heap.size w w') : CfIn w' c :=
  ⟨h.rn.below hb, h.cn, h.cn2, h.n1, h.nm, rows_below h.rv hb, h.cv, h.cv2, h.v1, rows_below h.rw_ hb, h.cw, h.cw2, h.w1, h.vu⟩
/-- Two configurations that say the same. -/
structure SameC (c d : Cf) : Prop where
  nds : d.nds = c.nds
  vps : d.vps = c.vps
  vws : d.vws = c.vws
  fac : d.fac = c.fac
  dom : d.dom = c.dom
  a6 : d.a6 = c.a6
  ah : d.ah = c.ah
  al : d.al = c.al
  b6 : d.b6 = c.b6
  bh : d.bh = c.bh
  bl : d.bl = c.bl
theorem restZ_same {c d : Cf} (h : SameC c d) : restZ d = restZ c := by
  obtain ⟨a1, a2, a3, a4, a5, a6, a7, a8, a9, a10, a11, a12, a13, a14, a15, a16, a17⟩ := c
  obtain ⟨b1, b2, b3, b4, b5, b6, b7, b8, b9, b10, b11, b12, b13, b14, b15, b16, b17⟩ := d
  obtain ⟨h1, h2, h3, h4, h5, h6, h7, h8, h9, h10, h11⟩ := h
  simp only at h1 h2 h3 h4 h5 h6 h7 h8 h9 h10 h11
  subst h1 h2 h3 h4 h5 h6 h7 h8 h9 h10 h11
  rfl
def NewC (c : Cf) (w : World) (o : Ending) (w' : World) : Prop :=
  (confE c ≠ 0 ∧ o = .returned (.tuple #[.pointer none, .int .i64 (confE c)])) ∨
  (confE c = 0 ∧ ∃ g T d, o = .returned (.tuple #[.pointer (some ⟨g, 0, none⟩), .int .i64 0]) ∧ CfOk w' g T d ∧ SameC c d ∧ w.heap.size ≤ g ∧ g < w'.heap.size)
theorem rdN_set {w : World} {A : Option Addr} {l : List Nd} (h : RdN w A l) (g i : Nat) (u : Value) (hg : ∀ ad : Addr, A = some ad → ad.block ≠ g) : RdN (w.setCell ⟨g, i, none⟩ u) A l := by
  rcases h with h0 | ⟨b, off, h1, h2, h3⟩
  · exact .inl h0
  · have hne := hg _ h1
    refine .inr ⟨b, off, h1, by simpa using h2, fun j hj i2 hi => ?_⟩
    rw [← h3 j hj i2 hi]
    exact World.cell?_of_block (Below.heap_setCell w _ u b (by simpa using hne))
theorem plZ_eq (c : Cf) : plZ c.vps.length c.vws.length c.fac c.dom c.a6 c.ah c.al c.b6 c.bh c.bl = plainZ c := rfl
set_option maxHeartbeats 8000000 in
set_option maxRecDepth 100000 in
theorem new_c (c : Cf) (w : World) (h : CfIn w c) : Calls Try.prog 10 #[.agg c.cells] w fun o w' => NewC c w o w' ∧ Below w.heap.size w w' := by
  show Calls _ _ #[.agg #[.slice c.nA c.nds.length c.nc, .slice c.vA c.vps.length c.vc, .slice c.wA c.vws.length c.wc, .int .i64 c.fac, .int .i64 c.dom, .bool c.a6, .int .u64 c.ah, .int .u64 c.al, .bool c.b6, .int .u64 c.bh, .int .u64 c.bl]] _ _
  obtain ⟨w1, hw1⟩ : ∃ w1, w1 = w.alloc (.cells #[.slice c.nA c.nds.length c.nc, .slice c.vA c.vps.length c.vc, .slice c.wA c.vws.length c.wc, .int .i64 c.fac, .int .i64 c.dom, .bool c.a6, .int .u64 c.ah, .int .u64 c.al, .bool c.b6, .int .u64 c.bh, .int .u64 c.bl] 30) := ⟨_, rfl⟩
  have E1 := Lib.hid hw1
  have K1 := Lib.hid (show Blk w1 w.heap.size 30 #[.slice c.nA c.nds.length c.nc, .slice c.vA c.vps.length c.vc, .slice c.wA c.vws.length c.wc, .int .i64 c.fac, .int .i64 c.dom, .bool c.a6, .int .u64 c.ah, .int .u64 c.al, .bool c.b6, .int .u64 c.bh, .int .u64 c.bl] from hw1 ▸ Blk.new w _ _)
  have B1 := Lib.hid (show Below w.heap.size w w1 from hw1 ▸ (Below.refl w.heap.size w).alloc (Nat.le_refl _) _)
  have HC := Lib.hid h
  have HPL := Lib.hid (plain_any c.nA c.nds.length c.nc c.vA c.vps.length c.vc c.wA c.vws.length c.wc c.fac c.dom c.a6 c.ah c.al c.b6 c.bh c.bl w1)
  rw [plZ_eq] at HPL
  obtain ⟨y, hy⟩ : ∃ y, y = plainZ c := ⟨_, rfl⟩
  rw [← hy] at HPL
  have HY := Lib.hid hy
  have d0 : w1.cell? ⟨w.heap.size, 0, none⟩ = some (.slice c.nA c.nds.length c.nc) := K1.out.cell 0
  have d1 : w1.cell? ⟨w.heap.size, 1, none⟩ = some (.slice c.vA c.vps.length c.vc) := K1.out.cell 1
  have d2 : w1.cell? ⟨w.heap.size, 2, none⟩ = some (.slice c.wA c.vws.length c.wc) := K1.out.cell 2
  have d3 : w1.cell? ⟨w.heap.size, 3, none⟩ = some (.int .i64 c.fac) := K1.out.cell 3
  have d4 : w1.cell? ⟨w.heap.size, 4, none⟩ = some (.int .i64 c.dom) := K1.out.cell 4
  have d5 : w1.cell? ⟨w.heap.size, 5, none⟩ = some (.bool c.a6) := K1.out.cell 5
  have d6 : w1.cell? ⟨w.heap.size, 6, none⟩ = some (.int .u64 c.ah) := K1.out.cell 6
  have d7 : w1.cell? ⟨w.heap.size, 7, none⟩ = some (.int .u64 c.al) := K1.out.cell 7
  have d8 : w1.cell? ⟨w.heap.size, 8, none⟩ = some (.bool c.b6) := K1.out.cell 8
  have d9 : w1.cell? ⟨w.heap.size, 9, none⟩ = some (.int .u64 c.bh) := K1.out.cell 9
  have d10 : w1.cell? ⟨w.heap.size, 10, none⟩ = some (.int .u64 c.bl) := K1.out.cell 10
  clear hw1 h hy
  go_enter Try.func10, Try.ntmps10
  go_upto_region 1 with fail
  rw [← E1.out]
  go_wp2_with fail
  refine HPL.out.mono ?_
  rintro o w2 ⟨rfl, hb2⟩
  have B2 := Lib.hid (B1.out.trans (hb2.mono B1.out.size))
  have K2 := Lib.hid (show Blk w2 w.heap.size 30 #[.slice c.nA c.nds.length c.nc, .slice c.vA c.vps.length c.vc, .slice c.wA c.vws.length c.wc, .int .i64 c.fac, .int .i64 c.dom, .bool c.a6, .int .u64 c.ah, .int .u64 c.al, .bool c.b6, .int .u64 c.bh, .int .u64 c.bl] from K1.out.below hb2 K1.out.lt)
  clear hb2 d0 d1 d2 d3 d4 d5 d6 d7 d8 d9 d10
  by_cases hy0 : y = 0
  case neg =>
    have t1 : (y != 0) = true := bne_iff_ne.mpr hy0
    have HX := Lib.hid (show confE c = y from by unfold confE; rw [if_pos (by rw [← HY.out]; exact hy0), HY.out])
    have HN := Lib.hid (show y ≠ 0 from hy0)
    clear hy0
    go_wp2_with fail
    go_ret2
    exact ⟨.inl ⟨by rw [HX.out]; exact HN.out, by rw [HX.out]; rfl⟩, B2.out⟩
  case pos =>
    subst hy0
    have HE := Lib.hid (show confE c = if treeE c.nds ≠ 0 then treeE c.nds else restZ c from by unfold confE; rw [if_neg (by rw [← HY.out]; decide)])
    have HTN := Lib.hid (new_any c.nA c.nc c.nds w2 (HC.out.rn.below B2.out) (by have := HC.out.n1; omega) HC.out.cn HC.out.cn2 HC.out.nm)
    have d0 : w2.cell? ⟨w.heap.size, 0, none⟩ = some (.slice c.nA c.nds.length c.nc) := K2.out.cell 0
    have d1 : w2.cell? ⟨w.heap.size, 1, none⟩ = some (.slice c.vA c.vps.length c.vc) := K2.out.cell 1
    have d2 : w2.cell? ⟨w.heap.size, 2, none⟩ = some (.slice c.wA c.vws.length c.wc) := K2.out.cell 2
    have d3 : w2.cell? ⟨w.heap.size, 3, none⟩ = some (.int .i64 c.fac) := K2.out.cell 3
    have d4 : w2.cell? ⟨w.heap.size, 4, none⟩ = some (.int .i64 c.dom) := K2.out.cell 4
    have d5 : w2.cell? ⟨w.heap.size, 5, none⟩ = some (.bool c.a6) := K2.out.cell 5
    have d6 : w2.cell? ⟨w.heap.size, 6, none⟩ = some (.int .u64 c.ah) := K2.out.cell 6
    have d7 : w2.cell? ⟨w.heap.size, 7, none⟩ = some (.int .u64 c.al) := K2.out.cell 7
    have d8 : w2.cell? ⟨w.heap.size, 8, none⟩ = some (.bool c.b6) := K2.out.cell 8
    have d9 : w2.cell? ⟨w.heap.size, 9, none⟩ = some (.int .u64 c.bh) := K2.out.cell 9
    have d10 : w2.cell? ⟨w.heap.size, 10, none⟩ = some (.int .u64 c.bl) := K2.out.cell 10
    go_wp2_with fail
    refine HTN.out.mono ?_
    rintro o w3 ⟨hp, hb3⟩
    have B3 := Lib.hid (B2.out.trans (hb3.mono B2.out.size))
    have K3 := Lib.hid (show Blk w3 w.heap.size 30 #[.slice c.nA c.nds.length c.nc, .slice c.vA c.vps.length c.vc, .slice c.wA c.vws.length c.wc, .int .i64 c.fac, .int .i64 c.dom, .bool c.a6, .int .u64 c.ah, .int .u64 c.al, .bool c.b6, .int .u64 c.bh, .int .u64 c.bl] from K2.out.below hb3 K2.out.lt)
    clear hb3 d0 d1 d2 d3 d4 d5 d6 d7 d8 d9 d10
    rcases tree_post hp with ⟨i, hne, rfl⟩ | ⟨hz, hgood, nv, kv, ks, rfl, hgr⟩
    · obtain ⟨z, hz⟩ : ∃ z, z = treeE c.nds := ⟨_, rfl⟩
      rw [← hz] at hne HE ⊢
      have t1 : (z != 0) = true := bne_iff_ne.mpr hne
      have HX := Lib.hid (show confE c = z from by rw [HE.out, if_pos hne])
      have HN := Lib.hid hne
      clear hz hp hne
      go_wp2_with fail
      go_ret2
      exact ⟨.inl ⟨by rw [HX.out]; exact HN.out, by rw [HX.out]; rfl⟩, B3.out⟩
    · have HE2 := Lib.hid (show confE c = restZ c from by rw [HE.out, hz]; rfl)
      obtain ⟨T, hT⟩ : ∃ T, T = w2.heap.size := ⟨_, rfl⟩
      rw [← hT] at hgr ⊢
      have TK := Lib.hid (show TreeOk w3 T c.nds from ⟨⟨nv, kv, ks, hgr⟩, hgood, by have := HC.out.n1; omega⟩)
      have d0 : w3.cell? ⟨w.heap.size, 0, none⟩ = some (.slice c.nA c.nds.length c.nc) := K3.out.cell 0
      have d1 : w3.cell? ⟨w.heap.size, 1, none⟩ = some (.slice c.vA c.vps.length c.vc) := K3.out.cell 1
      have d2 : w3.cell? ⟨w.heap.size, 2, none⟩ = some (.slice c.wA c.vws.length c.wc) := K3.out.cell 2
      have d3 : w3.cell? ⟨w.heap.size, 3, none⟩ = some (.int .i64 c.fac) := K3.out.cell 3
      have d4 : w3.cell? ⟨w.heap.size, 4, none⟩ = some (.int .i64 c.dom) := K3.out.cell 4
      have d5 : w3.cell? ⟨w.heap.size, 5, none⟩ = some (.bool c.a6) := K3.out.cell 5
      have d6 : w3.cell? ⟨w.heap.size, 6, none⟩ = some (.int .u64 c.ah) := K3.out.cell 6
      have d7 : w3.cell? ⟨w.heap.size, 7, none⟩ = some (.int .u64 c.al) := K3.out.cell 7
      have d8 : w3.cell? ⟨w.heap.size, 8, none⟩ = some (.bool c.b6) := K3.out.cell 8
      have d9 : w3.cell? ⟨w.heap.size, 9, none⟩ = some (.int .u64 c.bh) := K3.out.cell 9
      have d10 : w3.cell? ⟨w.heap.size, 10, none⟩ = some (.int .u64 c.bl) := K3.out.cell 10
      clear hgr hgood hz hT hp
      obtain ⟨w4, hw4⟩ : ∃ w4, w4 = w3.alloc (.cells #[.slice c.nA c.nds.length c.nc, .slice c.vA c.vps.length c.vc, .slice c.wA c.vws.length c.wc, .int .i64 c.fac, .int .i64 c.dom, .bool c.a6, .int .u64 c.ah, .int .u64 c.al, .bool c.b6, .int .u64 c.bh, .int .u64 c.bl, .pointer (some ⟨T, 0, none⟩)] 41) := ⟨_, rfl⟩
      have E4 := Lib.hid hw4
      obtain ⟨g, hg⟩ : ∃ g, g = w3.heap.size := ⟨_, rfl⟩
      have EG := Lib.hid hg
      have K4 := Lib.hid (show Blk w4 g 41 #[.slice c.nA c.nds.length c.nc, .slice c.vA c.vps.length c.vc, .slice c.wA c.vws.length c.wc, .int .i64 c.fac, .int .i64 c.dom, .bool c.a6, .int .u64 c.ah, .int .u64 c.al, .bool c.b6, .int .u64 c.bh, .int .u64 c.bl, .pointer (some ⟨T, 0, none⟩)] from by rw [hw4, hg]; exact Blk.new w3 _ _)
      have B4 := Lib.hid (show Below w3.heap.size w3 w4 from hw4 ▸ (Below.refl _ _).alloc (Nat.le_refl _) _)
      have HND := Lib.hid (nodes_any (TK.out.below B4.out))
      clear hw4 hg
      go_upto_region 8 with fail
      rw [← E4.out, ← EG.out]
      have k0 := K4.out.cell 0
      go_wp2_with fail
      refine HND.out.mono ?_
      rintro o w5 ⟨A5, c5, rfl, q1, q2, q3, q4, q5⟩
      have K5 := Lib.hid (show Blk w5 g 41 #[.slice c.nA c.nds.length c.nc, .slice c.vA c.vps.length c.vc, .slice c.wA c.vws.length c.wc, .int .i64 c.fac, .int .i64 c.dom, .bool c.a6, .int .u64 c.ah, .int .u64 c.al, .bool c.b6, .int .u64 c.bh, .int .u64 c.bl, .pointer (some ⟨T, 0, none⟩)] from K4.out.below q4 K4.out.lt)
      have B5 := Lib.hid (show Below w3.heap.size w3 w5 from B4.out.trans (q4.mono B4.out.size))
      have n0 : w5.cell? ⟨g, 0, none⟩ = some (.slice c.nA c.nds.length c.nc) := K5.out.cell 0
      have g0 : w5.frozen? ⟨g, 0, none⟩ = false := K5.out.frozen 0
      have HG5 := Lib.hid (show g < w5.heap.size from K5.out.lt)
      have NG := Lib.hid (show ∀ ad : Addr, A5 = some ad → ad.block ≠ g from fun ad e => by
        have h1 := (q5 ad e).1
        have h2 := K4.out.lt
        omega)
      obtain ⟨w6, hw6⟩ : ∃ w6, w6 = w5.setCell ⟨g, 0, none⟩ (.slice A5 c.nds.length c5) := ⟨_, rfl⟩
      have E6 := Lib.hid hw6
      have K6 := Lib.hid (show Blk w6 g 41 #[.slice A5 c.nds.length c5, .slice c.vA c.vps.length c.vc, .slice c.wA c.vws.length c.wc, .int .i64 c.fac, .int .i64 c.dom, .bool c.a6, .int .u64 c.ah, .int .u64 c.al, .bool c.b6, .int .u64 c.bh, .int .u64 c.bl, .pointer (some ⟨T, 0, none⟩)] from hw6 ▸ K5.out.set_ 0 _)
      have R6 := Lib.hid (show RdN w6 A5 c.nds from hw6 ▸ rdN_set q3 g 0 _ NG.out)
      have B6 := Lib.hid (show Below w3.heap.size w3 w6 from hw6 ▸ B5.out.setCell (Nat.le_of_eq EG.out.symm) _)
      have HG6 := Lib.hid (show g < w6.heap.size from K6.out.lt)
      have D6 := Lib.hid (B3.out.trans (B6.out.mono B3.out.size))
      have Q1 := Lib.hid q1
      have Q2 := Lib.hid q2
      have HK := Lib.hid (show ∀ W, Below w6.heap.size w6 W → Blk W g 41 #[.slice A5 c.nds.length c5, .slice c.vA c.vps.length c.vc, .slice c.wA c.vws.length c.wc, .int .i64 c.fac, .int .i64 c.dom, .bool c.a6, .int .u64 c.ah, .int .u64 c.al, .bool c.b6, .int .u64 c.bh, .int .u64 c.bl, .pointer (some ⟨T, 0, none⟩)] from fun W hb => K6.out.below hb K6.out.lt)
      have HS := Lib.hid (show ∀ W, Below w6.heap.size w6 W → W.cell? ⟨w.heap.size, 1, none⟩ = some (.slice c.vA c.vps.length c.vc) ∧ W.cell? ⟨w.heap.size, 2, none⟩ = some (.slice c.wA c.vws.length c.wc) from fun W hb => by
        have h : Blk W w.heap.size 30 #[.slice c.nA c.nds.length c.nc, .slice c.vA c.vps.length c.vc, .slice c.wA c.vws.length c.wc, .int .i64 c.fac, .int .i64 c.dom, .bool c.a6, .int .u64 c.ah, .int .u64 c.al, .bool c.b6, .int .u64 c.bh, .int .u64 c.bl] := ((hb.block _ (Nat.lt_of_lt_of_le K3.out.lt B6.out.size)).trans (B6.out.block _ K3.out.lt)).trans K3.out
        exact ⟨h.cell 1, h.cell 2⟩)
      have HSS := Lib.hid (show ∀ (W : World) (i : Nat) (u : Value), W.cell? ⟨w.heap.size, 1, none⟩ = some (.slice c.vA c.vps.length c.vc) ∧ W.cell? ⟨w.heap.size, 2, none⟩ = some (.slice c.wA c.vws.length c.wc) → (W.setCell ⟨g, i, none⟩ u).cell? ⟨w.heap.size, 1, none⟩ = some (.slice c.vA c.vps.length c.vc) ∧ (W.setCell ⟨g, i, none⟩ u).cell? ⟨w.heap.size, 2, none⟩ = some (.slice c.wA c.vws.length c.wc) from fun W i u h => by
        have hne : (⟨w.heap.size, 1, none⟩ : Addr).block ≠ (⟨g, i, none⟩ : Addr).block := by
          have h2 := K3.out.lt
          have h3 := EG.out
          show w.heap.size ≠ g
          omega
        have hb := Below.heap_setCell W ⟨g, i, none⟩ u w.heap.size hne
        exact ⟨(World.cell?_of_block hb).trans h.1, (World.cell?_of_block hb).trans h.2⟩)
      have HIN := Lib.hid (show ∀ W, Below w6.heap.size w6 W → CfIn W c from fun W hb => HC.out.below (D6.out.trans (hb.mono D6.out.size)))
      have HCV := Lib.hid (fun W hb => clone_v c.vA c.vc c.vps W (HIN.out W hb).rv HC.out.v1)
      have HCW := Lib.hid (fun W hb => clone_w c.wA c.wc c.vws W (HIN.out W hb).rw_ HC.out.w1)
      have J6 := Lib.hid (show Below w6.heap.size w6 w6.drew from (Below.refl _ _).drew)
      have s0 : w6.drew.cell? ⟨w.heap.size, 1, none⟩ = some (.slice c.vA c.vps.length c.vc) ∧ w6.drew.cell? ⟨w.heap.size, 2, none⟩ = some (.slice c.wA c.vws.length c.wc) := HS.out _ J6.out
      clear hw6 q1 q2 q3 q4 q5 k0
      go_upto_region 9 with fail
      rw [← E6.out]
      go_region_held3 (fun V => V.cell? ⟨w.heap.size, 1, none⟩ = some (.slice c.vA c.vps.length c.vc) ∧ V.cell? ⟨w.heap.size, 2, none⟩ = some (.slice c.wA c.vws.length c.wc)) (first | with_reducible assumption | with_reducible exact S7.out | with_reducible exact S8.out | with_reducible exact HSS.out _ _ _ S7.out | with_reducible exact HSS.out _ _ _ S8.out | with_reducible exact HSS.out _ _ _ (HSS.out _ _ _ S7.out) | with_reducible exact HSS.out _ _ _ (HSS.out _ _ _ S8.out)) (first
          | ((with_reducible refine (HCV.out _ (by first | with_reducible exact J6.out | with_reducible exact J8.out)).mono ?_)
             rintro o w7 ⟨A7, c7, rfl, a1, a2, a3, a4, a5⟩
             have J7 := Lib.hid (show Below w6.heap.size w6 w7 from by first | with_reducible exact J6.out.trans (a4.mono J6.out.size) | with_reducible exact J8.out.trans (a4.mono J8.out.size))
             have S7 := Lib.hid (HS.out _ J7.out)
             have L7 := Lib.hid a1
             have M7 := Lib.hid a2
             have R7 := Lib.hid a3
             have N7 := Lib.hid (show ∀ ad : Addr, A7 = some ad → ad.block ≠ g from fun ad e => by
               have h1 := (a5 ad e).1
               have h2 := HG6.out
               have h3 : w6.heap.size ≤ ad.block := by first | exact Nat.le_trans J6.out.size h1 | exact Nat.le_trans J8.out.size h1
               omega)
             try (have RX := Lib.hid (rows_below R8.out a4))
             have b1 := (HK.out _ J7.out).cell 1
             have b2 := (HK.out _ J7.out).cell 2
             have f1 := (HK.out _ J7.out).frozen 1
             have f2 := (HK.out _ J7.out).frozen 2
             clear a1 a2 a3 a4 a5)
          | ((with_reducible refine (HCW.out _ (by first | with_reducible exact J6.out | with_reducible exact J7.out)).mono ?_)
             rintro o w8 ⟨A8, c8, rfl, a1, a2, a3, a4, a5⟩
             have J8 := Lib.hid (show Below w6.heap.size w6 w8 from by first | with_reducible exact J6.out.trans (a4.mono J6.out.size) | with_reducible exact J7.out.trans (a4.mono J7.out.size))
             have S8 := Lib.hid (HS.out _ J8.out)
             have L8 := Lib.hid a1
             have M8 := Lib.hid a2
             have R8 := Lib.hid a3
             have N8 := Lib.hid (show ∀ ad : Addr, A8 = some ad → ad.block ≠ g from fun ad e => by
               have h1 := (a5 ad e).1
               have h2 := HG6.out
               have h3 : w6.heap.size ≤ ad.block := by first | exact Nat.le_trans J6.out.size h1 | exact Nat.le_trans J7.out.size h1
               omega)
             try (have RX := Lib.hid (rows_below R7.out a4))
             have b1 := (HK.out _ J8.out).cell 1
             have b2 := (HK.out _ J8.out).cell 2
             have f1 := (HK.out _ J8.out).frozen 1
             have f2 := (HK.out _ J8.out).frozen 2
             clear a1 a2 a3 a4 a5))
      obtain ⟨w9, hw9⟩ : ∃ w9, w9 = (w8.setCell ⟨g, 1, none⟩ (.slice A7 c.vps.length c7)).setCell ⟨g, 2, none⟩ (.slice A8 c.vws.length c8) := ⟨_, rfl⟩
      have B9 := Lib.hid (show Below w3.heap.size w3 w9 from hw9 ▸ ((B6.out.trans (J8.out.mono B6.out.size)).setCell (Nat.le_of_eq EG.out.symm) _).setCell (Nat.le_of_eq EG.out.symm) _)
      have K9 := Lib.hid (show Blk w9 g 41 #[.slice A5 c.nds.length c5, .slice A7 c.vps.length c7, .slice A8 c.vws.length c8, .int .i64 c.fac, .int .i64 c.dom, .bool c.a6, .int .u64 c.ah, .int .u64 c.al, .bool c.b6, .int .u64 c.bh, .int .u64 c.bl, .pointer (some ⟨T, 0, none⟩)] from hw9 ▸ ((HK.out _ J8.out).set_ 1 _).set_ 2 _)
      have CF := Lib.hid (show CfOk w9 g T { c with nA := A5, nc := c5, vA := A7, vc := c7, wA := A8, wc := c8 } from {
        blk := K9.out
        rn := hw9 ▸ rdN_set (rdN_set (R6.out.below J8.out) g 1 _ NG.out) g 2 _ NG.out
        cn := Q1.out
        cn2 := Q2.out
        rv := hw9 ▸ rows_set (rows_set RX.out g 1 _ N7.out) g 2 _ N7.out
        cv := L7.out
        cv2 := M7.out
        rw_ := hw9 ▸ rows_set (rows_set R8.out g 1 _ N8.out) g 2 _ N8.out
        cw := L8.out
        cw2 := M8.out
        ok := TK.out.below B9.out
        vu := HC.out.vu })
      have HWY := Lib.hid (show Calls Try.prog 31 #[.pointer (some ⟨g, 0, none⟩)] w9 (RetI (restZ c) w9) from by
        have h := why_rest CF.out
        rw [show restZ { c with nA := A5, nc := c5, vA := A7, vc := c7, wA := A8, wc := c8 } = restZ c from restZ_same ⟨rfl, rfl, rfl, rfl, rfl, rfl, rfl, rfl, rfl, rfl, rfl⟩] at h
        exact h)
      rw [← hw9]
      have D9 := Lib.hid (B3.out.trans (B9.out.mono B3.out.size))
      have GG := Lib.hid (show w.heap.size ≤ g from by have := EG.out; have := B3.out.size; omega)
      obtain ⟨z, hz⟩ : ∃ z, z = restZ c := ⟨_, rfl⟩
      rw [← hz] at HWY
      have HX := Lib.hid (show confE c = z from by rw [HE2.out, hz])
      clear hw9 hz s0 b1 b2 f1 f2
      go_wp2_with fail
      refine HWY.out.mono ?_
      rintro o w10 ⟨rfl, hb10⟩
      have B10 := Lib.hid (D9.out.trans (hb10.mono D9.out.size))
      have CF2 := Lib.hid (CF.out.below hb10)
      have G10 := Lib.hid (show g < w10.heap.size from CF2.out.blk.lt)
      clear hb10
      by_cases hz0 : z = 0
      · subst hz0
        go_wp2_with fail
        go_ret2
        exact ⟨.inr ⟨HX.out, g, T, _, rfl, CF2.out, ⟨rfl, rfl, rfl, rfl, rfl, rfl, rfl, rfl, rfl, rfl, rfl⟩, GG.out, G10.out⟩, B10.out⟩
      · have t1 : (z != 0) = true := bne_iff_ne.mpr hz0
        have HN := Lib.hid (show z ≠ 0 from hz0)
        clear hz0
        go_wp2_with fail
        go_ret2
        exact ⟨.inl ⟨by rw [HX.out]; exact HN.out, by rw [HX.out]; rfl⟩, B10.out⟩
end Go.Proofs.Ytamndmlaikgogaa.vdJ
