/- Layer 19: the law's reasons why a configuration may not be. -/
import Derived.Test.YtamndmlaikgogaaVdL
import Derived.Deep.DeepCutAuto
namespace Go.Proofs.Ytamndmlaikgogaa.vdM
open Go.ChangeShapes Go.WideShapes Go.ChangeAt Go.RowKit
open Go.Proofs.Ytamndmlaikgogaa.base Go.Proofs.Ytamndmlaikgogaa.dfA Go.Proofs.Ytamndmlaikgogaa.treB Go.Proofs.Ytamndmlaikgogaa.treD Go.Proofs.Ytamndmlaikgogaa.treE Go.Proofs.Ytamndmlaikgogaa.treF Go.Proofs.Ytamndmlaikgogaa.treI Go.Proofs.Ytamndmlaikgogaa.vdD Go.Proofs.Ytamndmlaikgogaa.vdA Go.Proofs.Ytamndmlaikgogaa.vdE Go.Proofs.Ytamndmlaikgogaa.vdF Go.Proofs.Ytamndmlaikgogaa.vdG Go.Proofs.Ytamndmlaikgogaa.vdH Go.Proofs.Ytamndmlaikgogaa.vdJ Go.Proofs.Ytamndmlaikgogaa.vdK Go.Proofs.Ytamndmlaikgogaa.vdL
set_option linter.unusedVariables false

theorem ne_zero (v6 : Bool) (hi lo : Int) (W : World) : (binOp .neq 27 (.agg #[.bool v6, .int .u64 hi, .int .u64 lo]) (.agg #[.bool false, .int .u64 0, .int .u64 0])).run Try.prog W = .ok (.bool (!(zA v6 hi lo))) W := by
  rw [addr_ne, show nzA v6 hi lo = !(zA v6 hi lo) from by unfold nzA zA; cases v6 <;> cases (hi == 0) <;> cases (lo == 0) <;> rfl]
/-- The three tests ahead of the tree. -/
def T1 (c : Cf) : Bool := decide (c.fac < 100) || decide (1000 < c.fac) || ((c.dom != 2) && (c.dom != 3))
def T2 (c : Cf) : Bool := c.a6 || !(rightB c.a6 c.ah c.al) || (!(zA c.b6 c.bh c.bl) && !c.b6)
def T3 (c : Cf) : Bool := decide ((64 : Int) < c.vps.length) || decide ((64 : Int) < c.vws.length)
theorem plain_T (c : Cf) : plainZ c = if T1 c = true then 5 else if T2 c = true then 18 else if T3 c = true then 6 else 0 := by
  unfold plainZ T1 T2 T3
  have e1 : (c.fac < 100 ∨ 1000 < c.fac ∨ (c.dom ≠ 2 ∧ c.dom ≠ 3)) ↔ (decide (c.fac < 100) || decide (1000 < c.fac) || ((c.dom != 2) && (c.dom != 3))) = true := by
    simp only [Bool.or_eq_true, Bool.and_eq_true, decide_eq_true_eq, bne_iff_ne, or_assoc]
  have e2 : (c.a6 = true ∨ rightB c.a6 c.ah c.al = false ∨ (c.b6 = false ∧ zA c.b6 c.bh c.bl = false)) ↔ (c.a6 || !(rightB c.a6 c.ah c.al) || (!(zA c.b6 c.bh c.bl) && !c.b6)) = true := by
    cases c.a6 <;> cases rightB _ c.ah c.al <;> cases zA c.b6 c.bh c.bl <;> cases c.b6 <;> simp
  have e3 : (64 < c.vps.length ∨ 64 < c.vws.length) ↔ (decide ((64 : Int) < c.vps.length) || decide ((64 : Int) < c.vws.length)) = true := by
    simp only [Bool.or_eq_true, decide_eq_true_eq]; omega
  simp only [e1, e2, e3]
theorem ofK_cnt {l : List Nd} {k : Nat} (hk : k < l.length) : (ofK l 1 (k + 1)).length = (ofK l 1 k).length + (if ((l.getD k zNd).kind == 1) = true then 1 else 0) := by
  have e : l.getD k zNd = l[k] := by rw [List.getD_eq_getElem?_getD, List.getElem?_eq_getElem hk]; rfl
  rw [ofK_next hk, List.length_append, e]
  split <;> rfl
set_option maxHeartbeats 16000000 in
set_option maxRecDepth 100000 in
theorem lwhy_any (c : Cf) (w : World) (h : CfIn w c) : Calls Try.prog 11 #[.agg c.cells] w (RetI (confE c) w) := by
  show Calls _ _ #[.agg #[.slice c.nA c.nds.length c.nc, .slice c.vA c.vps.length c.vc, .slice c.wA c.vws.length c.wc, .int .i64 c.fac, .int .i64 c.dom, .bool c.a6, .int .u64 c.ah, .int .u64 c.al, .bool c.b6, .int .u64 c.bh, .int .u64 c.bl]] _ _
  obtain ⟨Q, hQ⟩ : ∃ Q, Q = confE c := ⟨_, rfl⟩
  have HP := Lib.hid (show ∀ v : Int, Q = v → ∀ W, Below w.heap.size w W → RetI Q w (.returned (.int .i64 v)) W from fun v h W hb => ⟨by rw [h], hb⟩)
  have HQ := Lib.hid (show Q = if plainZ c ≠ 0 then plainZ c else if treeE c.nds ≠ 0 then treeE c.nds else restZ c from hQ)
  have HPZ := Lib.hid (plain_T c)
  rw [← hQ]
  obtain ⟨b1, hb1⟩ : ∃ b, b = T1 c := ⟨_, rfl⟩
  obtain ⟨b2, hb2⟩ : ∃ b, b = T2 c := ⟨_, rfl⟩
  obtain ⟨b3, hb3⟩ : ∃ b, b = T3 c := ⟨_, rfl⟩
  rw [← hb1, ← hb2, ← hb3] at HPZ
  have H1 := Lib.hid (show b1 = (decide (c.fac < 100) || decide (1000 < c.fac) || ((c.dom != 2) && (c.dom != 3))) from hb1)
  have H2 := Lib.hid (show b2 = (c.a6 || !(rightB c.a6 c.ah c.al) || (!(zA c.b6 c.bh c.bl) && !c.b6)) from hb2)
  have H3 := Lib.hid (show b3 = (decide ((64 : Int) < c.vps.length) || decide ((64 : Int) < c.vws.length)) from hb3)
  have HC := Lib.hid h
  obtain ⟨w1, hw1⟩ : ∃ w1, w1 = (w.alloc (.cells #[.slice c.nA c.nds.length c.nc, .slice c.vA c.vps.length c.vc, .slice c.wA c.vws.length c.wc, .int .i64 c.fac, .int .i64 c.dom, .bool c.a6, .int .u64 c.ah, .int .u64 c.al, .bool c.b6, .int .u64 c.bh, .int .u64 c.bl] 30)).alloc (.cells #[.bool false, .int .u64 0, .int .u64 0] 27) := ⟨_, rfl⟩
  have E1 := Lib.hid hw1
  have hsz : (w.alloc (.cells #[.slice c.nA c.nds.length c.nc, .slice c.vA c.vps.length c.vc, .slice c.wA c.vws.length c.wc, .int .i64 c.fac, .int .i64 c.dom, .bool c.a6, .int .u64 c.ah, .int .u64 c.al, .bool c.b6, .int .u64 c.bh, .int .u64 c.bl] 30)).heap.size = w.heap.size + 1 := by simp
  have K1 := Lib.hid (show Blk w1 w.heap.size 30 #[.slice c.nA c.nds.length c.nc, .slice c.vA c.vps.length c.vc, .slice c.wA c.vws.length c.wc, .int .i64 c.fac, .int .i64 c.dom, .bool c.a6, .int .u64 c.ah, .int .u64 c.al, .bool c.b6, .int .u64 c.bh, .int .u64 c.bl] from by rw [hw1]; exact (Blk.new w _ _).alloc _)
  have Z1 := Lib.hid (show Blk w1 (w.heap.size + 1) 27 #[.bool false, .int .u64 0, .int .u64 0] from by rw [hw1, ← hsz]; exact Blk.new _ _ _)
  have B1 := Lib.hid (show Below w.heap.size w w1 from hw1 ▸ ((Below.refl _ _).alloc (Nat.le_refl _) _).alloc (by simp) _)
  have d0 : w1.cell? ⟨w.heap.size, 0, none⟩ = some (.slice c.nA c.nds.length c.nc) := K1.out.cell 0
  have d1 : w1.cell? ⟨w.heap.size, 1, none⟩ = some (.slice c.vA c.vps.length c.vc) := K1.out.cell 1
  have d2 : w1.cell? ⟨w.heap.size, 2, none⟩ = some (.slice c.wA c.vws.length c.wc) := K1.out.cell 2
  have d3 : w1.cell? ⟨w.heap.size, 3, none⟩ = some (.int .i64 c.fac) := K1.out.cell 3
  have d4 : w1.cell? ⟨w.heap.size, 4, none⟩ = some (.int .i64 c.dom) := K1.out.cell 4
  have d5 : w1.cell? ⟨w.heap.size, 5, none⟩ = some (.bool c.a6) := K1.out.cell 5
  have d6 : w1.cell? ⟨w.heap.size, 6, none⟩ = some (.int .u64 c.ah) := K1.out.cell 6
  have d7 : w1.cell? ⟨w.heap.size, 7, none⟩ = some (.int .u64 c.al) := K1.out.cell 7
  have d8 : w1.cell? ⟨w.heap.size, 8, none⟩ = some (.bool c.b6) := K1.out.cell 8
  have d9 : w1.cell? ⟨w.heap.size, 9, none⟩ = some (.int .u64 c.bh) := K1.out.cell 9
  have d10 : w1.cell? ⟨w.heap.size, 10, none⟩ = some (.int .u64 c.bl) := K1.out.cell 10
  have z0 : w1.cell? ⟨w.heap.size + 1, 0, none⟩ = some (.bool false) := Z1.out.cell 0
  have z1 : w1.cell? ⟨w.heap.size + 1, 1, none⟩ = some (.int .u64 0) := Z1.out.cell 1
  have z2 : w1.cell? ⟨w.heap.size + 1, 2, none⟩ = some (.int .u64 0) := Z1.out.cell 2
  have HRB := Lib.hid (fun W => right_any c.a6 c.ah c.al W)
  have HNE := fun W => ne_zero c.b6 c.bh c.bl W
  obtain ⟨rb, hrb⟩ : ∃ b, b = rightB c.a6 c.ah c.al := ⟨_, rfl⟩
  obtain ⟨zb, hzb⟩ : ∃ b, b = zA c.b6 c.bh c.bl := ⟨_, rfl⟩
  rw [← hrb, ← hzb] at H2
  rw [← hrb] at HRB
  rw [← hzb] at HNE
  have HZB := Lib.hid hzb
  clear hw1 hsz h hQ hb1 hb2 hb3 hrb hzb
  go_enter Try.func11, Try.ntmps11
  go_upto_region 2 with fail
  rw [← E1.out]
  go_cut [29] (fun v wx => v = .bool b1 ∧ w1 = wx)
  case first =>
    obtain ⟨a1, h1⟩ : ∃ a : Bool, decide (c.fac < 100) = a := ⟨_, rfl⟩
    obtain ⟨a2, h2⟩ : ∃ a : Bool, decide (1000 < c.fac) = a := ⟨_, rfl⟩
    obtain ⟨a3, h3⟩ : ∃ a : Bool, (c.dom != 2) = a := ⟨_, rfl⟩
    obtain ⟨a4, h4⟩ : ∃ a : Bool, (c.dom != 3) = a := ⟨_, rfl⟩
    rw [h1, h2, h3, h4] at H1
    cases a1 <;> cases a2 <;> cases a3 <;> cases a4
    all_goals
      go_wp2_with fail
      go_meet
      exact ⟨by rw [H1.out]; rfl, rfl⟩
  case rest =>
    obtain ⟨rfl, rfl⟩ := hcut
    cases b1 with
    | true =>
      have HX := Lib.hid (show Q = 5 from by rw [HQ.out, HPZ.out]; rfl)
      go_wp2_with fail
      go_ret
      exact HP.out 5 HX.out _ B1.out
    | false =>
      go_upto_region 4 with fail
      go_cut [54] (fun v wx => v = .bool b2 ∧ Below w1.heap.size w1 wx)
      case first =>
        have W1 := Lib.hid (Below.refl w1.heap.size w1)
        obtain ⟨x6, h6⟩ : ∃ b : Bool, b = c.a6 := ⟨_, rfl⟩
        obtain ⟨y6, h7⟩ : ∃ b : Bool, b = c.b6 := ⟨_, rfl⟩
        rw [← h6] at H2 d5
        rw [← h7] at H2 d8
        rw [← h6] at HRB
        rw [← h7] at HNE
        have GK := Lib.hid K1.out
        rw [← h7] at GK
        clear h6 h7
        cases x6 with
        | true =>
          go_wp2_with fail
          go_meet
          exact ⟨by rw [H2.out]; rfl, W1.out⟩
        | false =>
          cases rb <;> cases zb <;> cases y6
          all_goals
            go_wp2_with fail
            refine (HRB.out _).mono ?_
            rintro o w2 ⟨rfl, hb2⟩
            have B2 := Lib.hid hb2
            have G2 := Lib.hid (GK.out.below hb2 GK.out.lt)
            have Z2 := Lib.hid (Z1.out.below hb2 Z1.out.lt)
            have g8 := G2.out.cell 8
            have g9 := G2.out.cell 9
            have g10 := G2.out.cell 10
            have y0 := Z2.out.cell 0
            have y1 := Z2.out.cell 1
            have y2 := Z2.out.cell 2
            clear hb2
            go_wp2_with fail
            go_meet
            exact ⟨by rw [H2.out]; rfl, B2.out⟩
      case rest =>
        obtain ⟨rfl, hbc⟩ := hcut
        obtain ⟨w2, hw2⟩ : ∃ w2, w2 = wc := ⟨_, rfl⟩
        subst hw2
        have B2 := Lib.hid (B1.out.trans (hbc.mono B1.out.size))
        have K2 := Lib.hid (show Blk w2 w.heap.size 30 #[.slice c.nA c.nds.length c.nc, .slice c.vA c.vps.length c.vc, .slice c.wA c.vws.length c.wc, .int .i64 c.fac, .int .i64 c.dom, .bool c.a6, .int .u64 c.ah, .int .u64 c.al, .bool c.b6, .int .u64 c.bh, .int .u64 c.bl] from K1.out.below hbc K1.out.lt)
        have Z2 := Lib.hid (show Blk w2 (w.heap.size + 1) 27 #[.bool false, .int .u64 0, .int .u64 0] from Z1.out.below hbc Z1.out.lt)
        clear d0 d1 d2 d3 d4 d5 d6 d7 d8 d9 d10 z0 z1 z2 hbc HNE
        have d0 : w2.cell? ⟨w.heap.size, 0, none⟩ = some (.slice c.nA c.nds.length c.nc) := K2.out.cell 0
        have d1 : w2.cell? ⟨w.heap.size, 1, none⟩ = some (.slice c.vA c.vps.length c.vc) := K2.out.cell 1
        have d2 : w2.cell? ⟨w.heap.size, 2, none⟩ = some (.slice c.wA c.vws.length c.wc) := K2.out.cell 2
        have d3 : w2.cell? ⟨w.heap.size, 3, none⟩ = some (.int .i64 c.fac) := K2.out.cell 3
        have d4 : w2.cell? ⟨w.heap.size, 4, none⟩ = some (.int .i64 c.dom) := K2.out.cell 4
        have d5 : w2.cell? ⟨w.heap.size, 5, none⟩ = some (.bool c.a6) := K2.out.cell 5
        have d6 : w2.cell? ⟨w.heap.size, 6, none⟩ = some (.int .u64 c.ah) := K2.out.cell 6
        have d7 : w2.cell? ⟨w.heap.size, 7, none⟩ = some (.int .u64 c.al) := K2.out.cell 7
        have d8 : w2.cell? ⟨w.heap.size, 8, none⟩ = some (.bool c.b6) := K2.out.cell 8
        have d9 : w2.cell? ⟨w.heap.size, 9, none⟩ = some (.int .u64 c.bh) := K2.out.cell 9
        have d10 : w2.cell? ⟨w.heap.size, 10, none⟩ = some (.int .u64 c.bl) := K2.out.cell 10
        cases b2 with
        | true =>
          have HX := Lib.hid (show Q = 18 from by rw [HQ.out, HPZ.out]; rfl)
          go_wp2_with fail
          go_ret
          exact HP.out 18 HX.out _ B2.out
        | false =>
          go_upto_region 6 with fail
          go_cut [64] (fun v wx => v = .bool b3 ∧ w2 = wx)
          case first =>
            obtain ⟨a1, h1⟩ : ∃ a : Bool, decide ((64 : Int) < c.vps.length) = a := ⟨_, rfl⟩
            obtain ⟨a2, h2⟩ : ∃ a : Bool, decide ((64 : Int) < c.vws.length) = a := ⟨_, rfl⟩
            rw [h1, h2] at H3
            cases a1 <;> cases a2
            all_goals
              go_wp2_with fail
              go_meet
              exact ⟨by rw [H3.out]; rfl, rfl⟩
          case rest =>
            obtain ⟨rfl, rfl⟩ := hcut
            cases b3 with
            | true =>
              have HX := Lib.hid (show Q = 6 from by rw [HQ.out, HPZ.out]; rfl)
              go_wp2_with fail
              go_ret
              exact HP.out 6 HX.out _ B2.out
            | false =>
              have HE := Lib.hid (show Q = if treeE c.nds ≠ 0 then treeE c.nds else restZ c from by rw [HQ.out, HPZ.out]; rfl)
              have HTN := Lib.hid (new_any c.nA c.nc c.nds w2 (HC.out.rn.below B2.out) (by have := HC.out.n1; omega) HC.out.cn HC.out.cn2 HC.out.nm)
              clear HQ HPZ H1 H2 H3
              go_wp2_with fail
              refine HTN.out.mono ?_
              rintro o w3 ⟨hp, hb3⟩
              have B3 := Lib.hid (B2.out.trans (hb3.mono B2.out.size))
              have K3 := Lib.hid (show Blk w3 w.heap.size 30 #[.slice c.nA c.nds.length c.nc, .slice c.vA c.vps.length c.vc, .slice c.wA c.vws.length c.wc, .int .i64 c.fac, .int .i64 c.dom, .bool c.a6, .int .u64 c.ah, .int .u64 c.al, .bool c.b6, .int .u64 c.bh, .int .u64 c.bl] from K2.out.below hb3 K2.out.lt)
              have Z3 := Lib.hid (show Blk w3 (w.heap.size + 1) 27 #[.bool false, .int .u64 0, .int .u64 0] from Z2.out.below hb3 Z2.out.lt)
              have HTE := Lib.hid (show ∃ (pv iv : Value), o = .returned (.tuple #[pv, iv, .int .i64 (treeE c.nds)]) from by
                rcases tree_post hp with ⟨i, _, h⟩ | ⟨hz, _, _, _, _, h, _⟩
                · exact ⟨_, _, h⟩
                · exact ⟨_, _, by rw [h, hz]⟩)
              obtain ⟨pv, iv, rfl⟩ := HTE.out
              obtain ⟨z, hz⟩ : ∃ z, z = treeE c.nds := ⟨_, rfl⟩
              rw [← hz] at HE ⊢
              clear hb3 hp hz HTE HTN d0 d1 d2 d3 d4 d5 d6 d7 d8 d9 d10
              by_cases hz0 : z = 0
              case neg =>
                have t1 : (z != 0) = true := bne_iff_ne.mpr hz0
                have HX := Lib.hid (show Q = z from by rw [HE.out, if_pos hz0])
                clear hz0
                go_wp2_with fail
                go_ret
                exact HP.out z HX.out _ B3.out
              case pos =>
                subst hz0
                have HE2 := Lib.hid (show Q = if lackE c c.nds.length = true then 7 else if vipsE c.vps ≠ 0 then vipsE c.vps else viewsE (levN c) c.vws from HE.out)
                obtain ⟨nA, hnA⟩ : ∃ x, x = c.nA := ⟨_, rfl⟩
                obtain ⟨nC, hnC⟩ : ∃ x, x = c.nc := ⟨_, rfl⟩
                obtain ⟨nn, hnn⟩ : ∃ x, x = c.nds.length := ⟨_, rfl⟩
                have SR := Lib.hid (show RdN w3 nA c.nds from hnA ▸ HC.out.rn.below B3.out)
                have s1 : nn ≤ nC := by have := HC.out.cn; omega
                have s2 : nC ≤ 9223372036854775807 := by have := HC.out.cn2; omega
                have s3 : nn ≤ 60 := by have := HC.out.n1; omega
                have SN := Lib.hid hnn
                have SF := Lib.hid (show ∀ W, Blk W w.heap.size 30 #[.slice c.nA c.nds.length c.nc, .slice c.vA c.vps.length c.vc, .slice c.wA c.vws.length c.wc, .int .i64 c.fac, .int .i64 c.dom, .bool c.a6, .int .u64 c.ah, .int .u64 c.al, .bool c.b6, .int .u64 c.bh, .int .u64 c.bl] → W.cell? ⟨w.heap.size, 0, none⟩ = some (.slice nA nn nC) from fun W h => by rw [hnA, hnC, hnn]; exact h.cell 0)
                have W3 := Lib.hid (Below.refl w3.heap.size w3)
                have L0 := Lib.hid (show (ofK c.nds 1 0).length = 0 from rfl)
                have HE1 := fun W => eq_zero c.a6 c.ah c.al W
                have HE4 := fun W => eq_zero c.b6 c.bh c.bl W
                obtain ⟨za, hza⟩ : ∃ b, b = zA c.a6 c.ah c.al := ⟨_, rfl⟩
                rw [← hza] at HE1
                rw [← HZB.out] at HE4
                have HLB := Lib.hid (show ∀ e, lackB c e = (e.kind == 4 && (if e.v6 = true then zb else za)) from fun e => by rw [HZB.out, hza]; rfl)
                clear HE hnA hnC hnn hza
                go_wp2_with fail
                go_loopw [7, 8] (fun lv i wr => ∃ k : Nat, i = .int .i64 k ∧ lv = .int .i64 ((ofK c.nds 1 k).length : Int) ∧ k ≤ nn ∧ lackE c k = false ∧ Below w3.heap.size w3 wr) (fun _ i _ => nn - (intOf i).toNat)
                case atStart => exact ⟨0, rfl, rfl, by omega, rfl, W3.out⟩
                case round =>
                  obtain ⟨k, rfl, rfl, hk, hnl, hbel⟩ := hrel
                  have KB := Lib.hid hbel
                  have KL := Lib.hid hnl
                  have G4 := Lib.hid (show Blk wr w.heap.size 30 #[.slice c.nA c.nds.length c.nc, .slice c.vA c.vps.length c.vc, .slice c.wA c.vws.length c.wc, .int .i64 c.fac, .int .i64 c.dom, .bool c.a6, .int .u64 c.ah, .int .u64 c.al, .bool c.b6, .int .u64 c.bh, .int .u64 c.bl] from K3.out.below hbel K3.out.lt)
                  have Z4 := Lib.hid (show Blk wr (w.heap.size + 1) 27 #[.bool false, .int .u64 0, .int .u64 0] from Z3.out.below hbel Z3.out.lt)
                  have d0 : wr.cell? ⟨w.heap.size, 0, none⟩ = some (.slice nA nn nC) := SF.out wr G4.out
                  have hlk : (ofK c.nds 1 k).length ≤ k := ofK_len _ _ _
                  clear hbel hnl
                  by_cases hkn : k < nn
                  · have t1 : decide ((k : Int) < nn) = true := decide_eq_true (by omega)
                    obtain ⟨b, off, hA, hbl, hCl⟩ := (SR.out.below KB.out).at_ k (by have := SN.out; omega)
                    subst hA
                    have hge : c.nds.getD k zNd = c.nds[k]'(by have := SN.out; omega) := by rw [List.getD_eq_getElem?_getD, List.getElem?_eq_getElem (by have := SN.out; omega)]; rfl
                    have HCN := Lib.hid (ofK_cnt (l := c.nds) (k := k) (by have := SN.out; omega))
                    have HLN := Lib.hid (show lackE c (k + 1) = (lackE c k || lackB c (c.nds.getD k zNd)) from lack_next)
                    have HLH := Lib.hid (show lackB c (c.nds.getD k zNd) = true → Q = 7 from fun h => by rw [HE2.out, if_pos (lack_here (k := k) (by have := SN.out; omega) h)])
                    rw [← hge] at hCl
                    obtain ⟨e, he⟩ : ∃ e, e = c.nds.getD k zNd := ⟨_, rfl⟩
                    rw [← he] at hCl HCN HLN HLH
                    have HLE := Lib.hid (HLB.out e)
                    clear hge he
                    have d00 : wr.cell? ⟨b, off + k * 7, none⟩ = some (.string e.nm) := hCl 0 (by omega)
                    have d11 : wr.cell? ⟨b, off + k * 7 + 1, none⟩ = some (.int .i64 e.kind) := hCl 1 (by omega)
                    have d22 : wr.cell? ⟨b, off + k * 7 + 2, none⟩ = some (.int .i64 e.ab) := hCl 2 (by omega)
                    have d33 : wr.cell? ⟨b, off + k * 7 + 3, none⟩ = some (.int .i64 e.wt) := hCl 3 (by omega)
                    have d44 : wr.cell? ⟨b, off + k * 7 + 4, none⟩ = some (.bool e.v6) := hCl 4 (by omega)
                    have d55 : wr.cell? ⟨b, off + k * 7 + 5, none⟩ = some (.int .u64 e.hi) := hCl 5 (by omega)
                    have d66 : wr.cell? ⟨b, off + k * 7 + 6, none⟩ = some (.int .u64 e.lo) := hCl 6 (by omega)
                    have j0 : (0 : Int) ≤ k := by omega
                    have j1 : (k : Int) < nn := by omega
                    obtain ⟨w5, hw5⟩ : ∃ w5, w5 = wr.alloc (.cells #[.string e.nm, .int .i64 e.kind, .int .i64 e.ab, .int .i64 e.wt, .bool e.v6, .int .u64 e.hi, .int .u64 e.lo] 44) := ⟨_, rfl⟩
                    have E5 := Lib.hid hw5
                    have K5 := Lib.hid (show Blk w5 wr.heap.size 44 #[.string e.nm, .int .i64 e.kind, .int .i64 e.ab, .int .i64 e.wt, .bool e.v6, .int .u64 e.hi, .int .u64 e.lo] from hw5 ▸ Blk.new wr _ _)
                    have BB := Lib.hid (show Below wr.heap.size wr w5 from hw5 ▸ (Below.refl _ _).alloc (Nat.le_refl _) _)
                    have G5 := Lib.hid (show Blk w5 w.heap.size 30 #[.slice c.nA c.nds.length c.nc, .slice c.vA c.vps.length c.vc, .slice c.wA c.vws.length c.wc, .int .i64 c.fac, .int .i64 c.dom, .bool c.a6, .int .u64 c.ah, .int .u64 c.al, .bool c.b6, .int .u64 c.bh, .int .u64 c.bl] from G4.out.below BB.out G4.out.lt)
                    have Z5 := Lib.hid (show Blk w5 (w.heap.size + 1) 27 #[.bool false, .int .u64 0, .int .u64 0] from Z4.out.below BB.out Z4.out.lt)
                    have KB5 := Lib.hid (KB.out.trans (BB.out.mono KB.out.size))
                    have x1 : w5.cell? ⟨wr.heap.size, 1, none⟩ = some (.int .i64 e.kind) := K5.out.cell 1
                    have x4 : w5.cell? ⟨wr.heap.size, 4, none⟩ = some (.bool e.v6) := K5.out.cell 4
                    have y5 : w5.cell? ⟨w.heap.size, 5, none⟩ = some (.bool c.a6) := G5.out.cell 5
                    have y6 : w5.cell? ⟨w.heap.size, 6, none⟩ = some (.int .u64 c.ah) := G5.out.cell 6
                    have y7 : w5.cell? ⟨w.heap.size, 7, none⟩ = some (.int .u64 c.al) := G5.out.cell 7
                    have y8 : w5.cell? ⟨w.heap.size, 8, none⟩ = some (.bool c.b6) := G5.out.cell 8
                    have y9 : w5.cell? ⟨w.heap.size, 9, none⟩ = some (.int .u64 c.bh) := G5.out.cell 9
                    have y10 : w5.cell? ⟨w.heap.size, 10, none⟩ = some (.int .u64 c.bl) := G5.out.cell 10
                    have z0 : w5.cell? ⟨w.heap.size + 1, 0, none⟩ = some (.bool false) := Z5.out.cell 0
                    have z1 : w5.cell? ⟨w.heap.size + 1, 1, none⟩ = some (.int .u64 0) := Z5.out.cell 1
                    have z2 : w5.cell? ⟨w.heap.size + 1, 2, none⟩ = some (.int .u64 0) := Z5.out.cell 2
                    obtain ⟨p1, h1⟩ : ∃ p : Bool, (e.kind == 1) = p := ⟨_, rfl⟩
                    obtain ⟨p4, h4⟩ : ∃ p : Bool, (e.kind == 4) = p := ⟨_, rfl⟩
                    obtain ⟨p6, h6⟩ : ∃ p : Bool, p = e.v6 := ⟨_, rfl⟩
                    rw [h1] at HCN
                    rw [h4, ← h6] at HLE
                    rw [← h6] at x4
                    clear hw5 hCl h6
                    go_upto_region 16 with fail
                    rw [← E5.out]
                    cases p4 with
                    | false =>
                      cases p1
                      all_goals go_wp2_with fail
                      all_goals first
                        | (go_roundw
                           case rel => exact ⟨k + 1, by go_num, by (rw [HCN.out]; go_num), by omega, by rw [HLN.out, KL.out, HLE.out]; rfl, KB5.out⟩
                           case measure => simp [intOf]; omega)
                        | (go_ret
                           exact HP.out 7 (HLH.out (by rw [HLE.out]; rfl)) _ (B3.out.trans (KB5.out.mono B3.out.size)))
                    | true =>
                      cases p6 with
                      | true =>
                        cases zb <;> cases p1
                        all_goals go_wp2_with fail
                        all_goals first
                          | (go_roundw
                             case rel => exact ⟨k + 1, by go_num, by (rw [HCN.out]; go_num), by omega, by rw [HLN.out, KL.out, HLE.out]; rfl, KB5.out⟩
                             case measure => simp [intOf]; omega)
                          | (go_ret
                             exact HP.out 7 (HLH.out (by rw [HLE.out]; rfl)) _ (B3.out.trans (KB5.out.mono B3.out.size)))
                      | false =>
                        cases za <;> cases p1
                        all_goals go_wp2_with fail
                        all_goals first
                          | (go_roundw
                             case rel => exact ⟨k + 1, by go_num, by (rw [HCN.out]; go_num), by omega, by rw [HLN.out, KL.out, HLE.out]; rfl, KB5.out⟩
                             case measure => simp [intOf]; omega)
                          | (go_ret
                             exact HP.out 7 (HLH.out (by rw [HLE.out]; rfl)) _ (B3.out.trans (KB5.out.mono B3.out.size)))
                  · have t1 : decide ((k : Int) < nn) = false := decide_eq_false (by omega)
                    obtain rfl : nn = k := by omega
                    have HE3 := Lib.hid (show Q = if vipsE c.vps ≠ 0 then vipsE c.vps else viewsE (levN c) c.vws from by rw [HE2.out, show lackE c c.nds.length = false from by have h := KL.out; rw [SN.out] at h; exact h]; rfl)
                    have HLV := Lib.hid (show levN c = ((ofK c.nds 1 nn).length : Int) from by rw [SN.out]; rfl)
                    have d1 : wr.cell? ⟨w.heap.size, 1, none⟩ = some (.slice c.vA c.vps.length c.vc) := G4.out.cell 1
                    obtain ⟨w6, hw6⟩ : ∃ w6, w6 = wr := ⟨_, rfl⟩
                    subst hw6
                    have B6 := Lib.hid (B3.out.trans (KB.out.mono B3.out.size))
                    have HVC := Lib.hid (lvips_any c.vA c.vc c.vps w6 (HC.out.below B6.out).rv HC.out.cv HC.out.cv2 HC.out.v1)
                    obtain ⟨lv, hlv⟩ : ∃ lv, lv = (ofK c.nds 1 nn).length := ⟨_, rfl⟩
                    rw [← hlv] at HLV ⊢
                    obtain ⟨y, hy⟩ : ∃ y, y = vipsE c.vps := ⟨_, rfl⟩
                    rw [← hy, HLV.out] at HE3
                    rw [← hy] at HVC
                    clear hlv hy hlk hk hkn
                    go_wp2_with fail
                    refine HVC.out.mono ?_
                    rintro o w7 ⟨rfl, hb7⟩
                    have B7 := Lib.hid (B6.out.trans (hb7.mono B6.out.size))
                    have G7 := Lib.hid (show Blk w7 w.heap.size 30 #[.slice c.nA c.nds.length c.nc, .slice c.vA c.vps.length c.vc, .slice c.wA c.vws.length c.wc, .int .i64 c.fac, .int .i64 c.dom, .bool c.a6, .int .u64 c.ah, .int .u64 c.al, .bool c.b6, .int .u64 c.bh, .int .u64 c.bl] from G4.out.below hb7 G4.out.lt)
                    have e2 : w7.cell? ⟨w.heap.size, 2, none⟩ = some (.slice c.wA c.vws.length c.wc) := G7.out.cell 2
                    clear hb7 d1 d0
                    by_cases hy0 : y = 0
                    · subst hy0
                      have HX := Lib.hid (show Q = viewsE (lv : Int) c.vws from HE3.out)
                      have HWC := Lib.hid (lviews_any c.wA c.wc c.vws lv w7 (HC.out.below B7.out).rw_ HC.out.cw HC.out.cw2 HC.out.w1 HC.out.vu)
                      rw [← HX.out] at HWC
                      go_wp2_with fail
                      refine HWC.out.mono ?_
                      rintro o w8 ⟨rfl, hb8⟩
                      have B8 := Lib.hid (B7.out.trans (hb8.mono B7.out.size))
                      clear hb8
                      go_wp2_with fail
                      go_ret
                      exact HP.out Q rfl _ B8.out
                    · have t3 : (y != 0) = true := bne_iff_ne.mpr hy0
                      have HX := Lib.hid (show Q = y from by rw [HE3.out, if_pos hy0])
                      clear hy0
                      go_wp2_with fail
                      go_ret
                      exact HP.out y HX.out _ B7.out
end Go.Proofs.Ytamndmlaikgogaa.vdM
