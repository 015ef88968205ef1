/- Layer 19: valid.Same, and the law's same. -/
import Derived.Test.YtamndmlaikgogaaVdP
import Derived.ChangeKeysEq
import Derived.Deep.DeepCutAuto
namespace Go.Proofs.Ytamndmlaikgogaa.vdQ
open Go.ChangeShapes Go.WideShapes Go.ChangeAt Go.RowKit
open Go.Proofs.Ytamndmlaikgogaa.base Go.Proofs.Ytamndmlaikgogaa.dfA Go.Proofs.Ytamndmlaikgogaa.treB Go.Proofs.Ytamndmlaikgogaa.vdA Go.Proofs.Ytamndmlaikgogaa.vdH Go.Proofs.Ytamndmlaikgogaa.vdJ Go.Proofs.Ytamndmlaikgogaa.vdP
set_option linter.unusedVariables false

def selfB (a b : Cf) : Bool := a.a6 == b.a6 && a.ah == b.ah && a.al == b.al && a.b6 == b.b6 && a.bh == b.bh && a.bl == b.bl
def eqLN (l m : List Nd) : Bool := l.length == m.length && allB (fun j => eqN (l.getD j zNd) (m.getD j zNd)) l.length
def eqLV (l m : List Vp) : Bool := l.length == m.length && allB (fun j => eqV (l.getD j zVp) (m.getD j zVp)) l.length
def eqLW (l m : List Vw) : Bool := l.length == m.length && allB (fun j => eqW (l.getD j zVw) (m.getD j zVw)) l.length
/-- Two configurations say the same. -/
def sameQ (a b : Cf) : Bool := a.fac == b.fac && a.dom == b.dom && selfB a b && eqLN a.nds b.nds && eqLV a.vps b.vps && eqLW a.vws b.vws
theorem addr_in (x : Bool) (y z : Int) (u : Bool) (v q : Int) (W : World) : (Op.equalIn 9999 27 (.agg #[.bool x, .int .u64 y, .int .u64 z]) (.agg #[.bool u, .int .u64 v, .int .u64 q])).run Try.prog W = .ok (x == u && y == v && z == q) W := by
  go_simp
  by_cases h1 : x = u
  case neg => simp [h1]
  by_cases h2 : y = v
  case neg => simp [h2]
  by_cases h3 : z = q
  case neg => simp [h3]
  simp [h1, h2, h3]
theorem part_0 (a : Cf) (W : World) : (part 27 #[.bool a.a6, .int .u64 a.ah, .int .u64 a.al, .bool a.b6, .int .u64 a.bh, .int .u64 a.bl] (0 * 3)).run Try.prog W = .ok (.agg #[.bool a.a6, .int .u64 a.ah, .int .u64 a.al]) W := by kernel_rfl
theorem part_1 (a : Cf) (W : World) : (part 27 #[.bool a.a6, .int .u64 a.ah, .int .u64 a.al, .bool a.b6, .int .u64 a.bh, .int .u64 a.bl] (1 * 3)).run Try.prog W = .ok (.agg #[.bool a.b6, .int .u64 a.bh, .int .u64 a.bl]) W := by kernel_rfl
theorem size_a2 : ∃ i, Try.prog.info? 27 = some i := by
  have h : (Try.prog.info? 27).isSome = true := by kernel_rfl
  exact Option.isSome_iff_exists.mp h
theorem self_in (a b : Cf) (W : World) : (Op.equalIn 10000 28 (.agg #[.bool a.a6, .int .u64 a.ah, .int .u64 a.al, .bool a.b6, .int .u64 a.bh, .int .u64 a.bl]) (.agg #[.bool b.a6, .int .u64 b.ah, .int .u64 b.al, .bool b.b6, .int .u64 b.bh, .int .u64 b.bl])).run Try.prog W = .ok (selfB a b) W := by
  obtain ⟨i, hi⟩ := size_a2
  have hc : Try.prog.cellsOf 27 = 3 := by kernel_rfl
  rw [show (10000 : Nat) = 9999 + 1 from rfl, run_equalIn_array W 9999 _ _ Try.underlying28 hi, hc, show List.range 2 = [0, 1] from rfl]
  have hs : selfB a b = ((a.a6 == b.a6 && a.ah == b.ah && a.al == b.al) && (a.b6 == b.b6 && a.bh == b.bh && a.bl == b.bl)) := by unfold selfB; simp only [Bool.and_assoc]
  rw [hs]
  obtain ⟨x1, h1⟩ : ∃ x, x = (a.a6 == b.a6 && a.ah == b.ah && a.al == b.al) := ⟨_, rfl⟩
  obtain ⟨x2, h2⟩ : ∃ x, x = (a.b6 == b.b6 && a.bh == b.bh && a.bl == b.bl) := ⟨_, rfl⟩
  have e1 := addr_in a.a6 a.ah a.al b.a6 b.ah b.al W
  have e2 := addr_in a.b6 a.bh a.bl b.b6 b.bh b.bl W
  rw [← h1] at e1 ⊢
  rw [← h2] at e2 ⊢
  simp only [Op.eqItems, Sem.run_bind, part_0, e1, Result.andThen_ok]
  cases x1
  · rfl
  · show ((Op.eqItems 9999 _ 3 _ _ [1]).run Try.prog W) = _
    simp only [Op.eqItems, Sem.run_bind, part_1, e2, Result.andThen_ok]
    cases x2 <;> rfl
theorem self_eq (a b : Cf) (W : World) : (binOp .eql 28 (.agg #[.bool a.a6, .int .u64 a.ah, .int .u64 a.al, .bool a.b6, .int .u64 a.bh, .int .u64 a.bl]) (.agg #[.bool b.a6, .int .u64 b.ah, .int .u64 b.al, .bool b.b6, .int .u64 b.bh, .int .u64 b.bl])).run Try.prog W = .ok (.bool (selfB a b)) W := by
  have h := self_in a b W
  go_simp
theorem self_ne (a b : Cf) (W : World) : (binOp .neq 28 (.agg #[.bool a.a6, .int .u64 a.ah, .int .u64 a.al, .bool a.b6, .int .u64 a.bh, .int .u64 a.bl]) (.agg #[.bool b.a6, .int .u64 b.ah, .int .u64 b.al, .bool b.b6, .int .u64 b.bh, .int .u64 b.bl])).run Try.prog W = .ok (.bool (!(selfB a b))) W := by
  have h := self_in a b W
  go_simp
set_option maxHeartbeats 8000000 in
set_option maxRecDepth 100000 in
theorem same_q (a b : Cf) (w : World) (ha : CfIn w a) (hb0 : CfIn w b) : Calls Try.prog 16 #[.agg a.cells, .agg b.cells] w (RetB (sameQ a b) w) := by
  show Calls _ _ #[.agg #[.slice a.nA a.nds.length a.nc, .slice a.vA a.vps.length a.vc, .slice a.wA a.vws.length a.wc, .int .i64 a.fac, .int .i64 a.dom, .bool a.a6, .int .u64 a.ah, .int .u64 a.al, .bool a.b6, .int .u64 a.bh, .int .u64 a.bl], .agg #[.slice b.nA b.nds.length b.nc, .slice b.vA b.vps.length b.vc, .slice b.wA b.vws.length b.wc, .int .i64 b.fac, .int .i64 b.dom, .bool b.a6, .int .u64 b.ah, .int .u64 b.al, .bool b.b6, .int .u64 b.bh, .int .u64 b.bl]] _ _
  obtain ⟨Q, hQ⟩ : ∃ Q, Q = sameQ a b := ⟨_, rfl⟩
  have HP := Lib.hid (show ∀ v : Bool, Q = v → ∀ W, Below w.heap.size w W → RetB Q w (.returned (.bool v)) W from fun v h W hb => ⟨by rw [h], hb⟩)
  have HQ := Lib.hid (show Q = (a.fac == b.fac && a.dom == b.dom && selfB a b && eqLN a.nds b.nds && eqLV a.vps b.vps && eqLW a.vws b.vws) from hQ)
  have HSE := fun W => self_eq a b W
  rw [← hQ]
  obtain ⟨p1, h1⟩ : ∃ p : Bool, (a.fac == b.fac) = p := ⟨_, rfl⟩
  obtain ⟨p2, h2⟩ : ∃ p : Bool, (a.dom == b.dom) = p := ⟨_, rfl⟩
  obtain ⟨p3, h3⟩ : ∃ p : Bool, p = selfB a b := ⟨_, rfl⟩
  obtain ⟨qN, hN⟩ : ∃ p : Bool, eqLN a.nds b.nds = p := ⟨_, rfl⟩
  obtain ⟨qV, hV⟩ : ∃ p : Bool, eqLV a.vps b.vps = p := ⟨_, rfl⟩
  obtain ⟨qW, hW⟩ : ∃ p : Bool, eqLW a.vws b.vws = p := ⟨_, rfl⟩
  rw [h1, h2, ← h3, hN, hV, hW] at HQ
  rw [← h3] at HSE
  have eN := Lib.hid hN
  have eV := Lib.hid hV
  have eW := Lib.hid hW
  clear h3 hN hV hW hQ
  obtain ⟨w1, hw1⟩ : ∃ w1, w1 = (w.alloc (.cells #[.slice a.nA a.nds.length a.nc, .slice a.vA a.vps.length a.vc, .slice a.wA a.vws.length a.wc, .int .i64 a.fac, .int .i64 a.dom, .bool a.a6, .int .u64 a.ah, .int .u64 a.al, .bool a.b6, .int .u64 a.bh, .int .u64 a.bl] 30)).alloc (.cells #[.slice b.nA b.nds.length b.nc, .slice b.vA b.vps.length b.vc, .slice b.wA b.vws.length b.wc, .int .i64 b.fac, .int .i64 b.dom, .bool b.a6, .int .u64 b.ah, .int .u64 b.al, .bool b.b6, .int .u64 b.bh, .int .u64 b.bl] 30) := ⟨_, rfl⟩
  have E1 := Lib.hid hw1
  have hsz : (w.alloc (.cells #[.slice a.nA a.nds.length a.nc, .slice a.vA a.vps.length a.vc, .slice a.wA a.vws.length a.wc, .int .i64 a.fac, .int .i64 a.dom, .bool a.a6, .int .u64 a.ah, .int .u64 a.al, .bool a.b6, .int .u64 a.bh, .int .u64 a.bl] 30)).heap.size = w.heap.size + 1 := by simp
  have K1 := Lib.hid (show Blk w1 w.heap.size 30 #[.slice a.nA a.nds.length a.nc, .slice a.vA a.vps.length a.vc, .slice a.wA a.vws.length a.wc, .int .i64 a.fac, .int .i64 a.dom, .bool a.a6, .int .u64 a.ah, .int .u64 a.al, .bool a.b6, .int .u64 a.bh, .int .u64 a.bl] from by rw [hw1]; exact (Blk.new w _ _).alloc _)
  have L1 := Lib.hid (show Blk w1 (w.heap.size + 1) 30 #[.slice b.nA b.nds.length b.nc, .slice b.vA b.vps.length b.vc, .slice b.wA b.vws.length b.wc, .int .i64 b.fac, .int .i64 b.dom, .bool b.a6, .int .u64 b.ah, .int .u64 b.al, .bool b.b6, .int .u64 b.bh, .int .u64 b.bl] from by rw [hw1, ← hsz]; exact Blk.new _ _ _)
  have B1 := Lib.hid (show Below w.heap.size w w1 from hw1 ▸ ((Below.refl _ _).alloc (Nat.le_refl _) _).alloc (by simp) _)
  have CA := Lib.hid (fun W (hb : Below w.heap.size w W) => ha.below hb)
  have CB := Lib.hid (fun W (hb : Below w.heap.size w W) => hb0.below hb)
  clear hw1 hsz ha hb0
  have cp0 : w1.cell? ⟨w.heap.size, 0, none⟩ = some (.slice a.nA a.nds.length a.nc) := K1.out.cell 0
  have cq0 : w1.cell? ⟨w.heap.size + 1, 0, none⟩ = some (.slice b.nA b.nds.length b.nc) := L1.out.cell 0
  have cp1 : w1.cell? ⟨w.heap.size, 1, none⟩ = some (.slice a.vA a.vps.length a.vc) := K1.out.cell 1
  have cq1 : w1.cell? ⟨w.heap.size + 1, 1, none⟩ = some (.slice b.vA b.vps.length b.vc) := L1.out.cell 1
  have cp2 : w1.cell? ⟨w.heap.size, 2, none⟩ = some (.slice a.wA a.vws.length a.wc) := K1.out.cell 2
  have cq2 : w1.cell? ⟨w.heap.size + 1, 2, none⟩ = some (.slice b.wA b.vws.length b.wc) := L1.out.cell 2
  have cp3 : w1.cell? ⟨w.heap.size, 3, none⟩ = some (.int .i64 a.fac) := K1.out.cell 3
  have cq3 : w1.cell? ⟨w.heap.size + 1, 3, none⟩ = some (.int .i64 b.fac) := L1.out.cell 3
  have cp4 : w1.cell? ⟨w.heap.size, 4, none⟩ = some (.int .i64 a.dom) := K1.out.cell 4
  have cq4 : w1.cell? ⟨w.heap.size + 1, 4, none⟩ = some (.int .i64 b.dom) := L1.out.cell 4
  have cp5 : w1.cell? ⟨w.heap.size, 5, none⟩ = some (.bool a.a6) := K1.out.cell 5
  have cq5 : w1.cell? ⟨w.heap.size + 1, 5, none⟩ = some (.bool b.a6) := L1.out.cell 5
  have cp6 : w1.cell? ⟨w.heap.size, 6, none⟩ = some (.int .u64 a.ah) := K1.out.cell 6
  have cq6 : w1.cell? ⟨w.heap.size + 1, 6, none⟩ = some (.int .u64 b.ah) := L1.out.cell 6
  have cp7 : w1.cell? ⟨w.heap.size, 7, none⟩ = some (.int .u64 a.al) := K1.out.cell 7
  have cq7 : w1.cell? ⟨w.heap.size + 1, 7, none⟩ = some (.int .u64 b.al) := L1.out.cell 7
  have cp8 : w1.cell? ⟨w.heap.size, 8, none⟩ = some (.bool a.b6) := K1.out.cell 8
  have cq8 : w1.cell? ⟨w.heap.size + 1, 8, none⟩ = some (.bool b.b6) := L1.out.cell 8
  have cp9 : w1.cell? ⟨w.heap.size, 9, none⟩ = some (.int .u64 a.bh) := K1.out.cell 9
  have cq9 : w1.cell? ⟨w.heap.size + 1, 9, none⟩ = some (.int .u64 b.bh) := L1.out.cell 9
  have cp10 : w1.cell? ⟨w.heap.size, 10, none⟩ = some (.int .u64 a.bl) := K1.out.cell 10
  have cq10 : w1.cell? ⟨w.heap.size + 1, 10, none⟩ = some (.int .u64 b.bl) := L1.out.cell 10
  go_enter Try.func16, Try.ntmps16
  go_upto_region 1 with fail
  rw [← E1.out]
  cases p1 with
  | false =>
    go_wp2_with fail
    go_ret
    exact HP.out false (by rw [HQ.out]; rfl) _ B1.out
  | true =>
    cases p2 with
    | false =>
      go_wp2_with fail
      go_ret
      exact HP.out false (by rw [HQ.out]; rfl) _ B1.out
    | true =>
      cases p3 with
      | false =>
        go_wp2_with fail
        go_ret
        exact HP.out false (by rw [HQ.out]; rfl) _ B1.out
      | true =>
        have HEN := Lib.hid (equal_N a.nA a.nc a.nds b.nA b.nc b.nds w1 (rdN_rows (CA.out _ B1.out).rn) (rdN_rows (CB.out _ B1.out).rn) (CA.out _ B1.out).cn (CA.out _ B1.out).cn2 (CB.out _ B1.out).cn (CB.out _ B1.out).cn2)
        have HEN := Lib.hid (show Calls _ _ _ _ (RetB (eqLN a.nds b.nds) w1) from HEN.out)
        rw [eN.out] at HEN
        go_wp2_with fail
        refine HEN.out.mono ?_
        rintro o w2 ⟨rfl, hb2⟩
        have B2 := Lib.hid (B1.out.trans (hb2.mono B1.out.size))
        have K2 := Lib.hid (show Blk w2 w.heap.size 30 #[.slice a.nA a.nds.length a.nc, .slice a.vA a.vps.length a.vc, .slice a.wA a.vws.length a.wc, .int .i64 a.fac, .int .i64 a.dom, .bool a.a6, .int .u64 a.ah, .int .u64 a.al, .bool a.b6, .int .u64 a.bh, .int .u64 a.bl] from K1.out.below hb2 K1.out.lt)
        have L2 := Lib.hid (show Blk w2 (w.heap.size + 1) 30 #[.slice b.nA b.nds.length b.nc, .slice b.vA b.vps.length b.vc, .slice b.wA b.vws.length b.wc, .int .i64 b.fac, .int .i64 b.dom, .bool b.a6, .int .u64 b.ah, .int .u64 b.al, .bool b.b6, .int .u64 b.bh, .int .u64 b.bl] from L1.out.below hb2 L1.out.lt)
        clear hb2
        cases qN with
        | false =>
          go_wp2_with fail
          go_ret
          exact HP.out false (by rw [HQ.out]; rfl) _ B2.out
        | true =>
          clear cp0 cq0 cp1 cq1 cp2 cq2 cp3 cq3 cp4 cq4 cp5 cq5 cp6 cq6 cp7 cq7 cp8 cq8 cp9 cq9 cp10 cq10
          have cp1 : w2.cell? ⟨w.heap.size, 1, none⟩ = some (.slice a.vA a.vps.length a.vc) := K2.out.cell 1
          have cq1 : w2.cell? ⟨w.heap.size + 1, 1, none⟩ = some (.slice b.vA b.vps.length b.vc) := L2.out.cell 1
          have HEV := Lib.hid (equal_V a.vA a.vc a.vps b.vA b.vc b.vps w2 (CA.out _ B2.out).rv (CB.out _ B2.out).rv (CA.out _ B2.out).cv (CA.out _ B2.out).cv2 (CB.out _ B2.out).cv (CB.out _ B2.out).cv2)
          have HEV := Lib.hid (show Calls _ _ _ _ (RetB (eqLV a.vps b.vps) w2) from HEV.out)
          rw [eV.out] at HEV
          go_wp2_with fail
          refine HEV.out.mono ?_
          rintro o w3 ⟨rfl, hb3⟩
          have B3 := Lib.hid (B2.out.trans (hb3.mono B2.out.size))
          have K3 := Lib.hid (show Blk w3 w.heap.size 30 #[.slice a.nA a.nds.length a.nc, .slice a.vA a.vps.length a.vc, .slice a.wA a.vws.length a.wc, .int .i64 a.fac, .int .i64 a.dom, .bool a.a6, .int .u64 a.ah, .int .u64 a.al, .bool a.b6, .int .u64 a.bh, .int .u64 a.bl] from K2.out.below hb3 K2.out.lt)
          have L3 := Lib.hid (show Blk w3 (w.heap.size + 1) 30 #[.slice b.nA b.nds.length b.nc, .slice b.vA b.vps.length b.vc, .slice b.wA b.vws.length b.wc, .int .i64 b.fac, .int .i64 b.dom, .bool b.a6, .int .u64 b.ah, .int .u64 b.al, .bool b.b6, .int .u64 b.bh, .int .u64 b.bl] from L2.out.below hb3 L2.out.lt)
          clear hb3
          cases qV with
          | false =>
            go_wp2_with fail
            go_ret
            exact HP.out false (by rw [HQ.out]; rfl) _ B3.out
          | true =>
            clear cp1 cq1
            have cp2 : w3.cell? ⟨w.heap.size, 2, none⟩ = some (.slice a.wA a.vws.length a.wc) := K3.out.cell 2
            have cq2 : w3.cell? ⟨w.heap.size + 1, 2, none⟩ = some (.slice b.wA b.vws.length b.wc) := L3.out.cell 2
            have HEW := Lib.hid (equal_W a.wA a.wc a.vws b.wA b.wc b.vws w3 (CA.out _ B3.out).rw_ (CB.out _ B3.out).rw_ (CA.out _ B3.out).cw (CA.out _ B3.out).cw2 (CB.out _ B3.out).cw (CB.out _ B3.out).cw2)
            have HEW := Lib.hid (show Calls _ _ _ _ (RetB (eqLW a.vws b.vws) w3) from HEW.out)
            rw [eW.out] at HEW
            go_wp2_with fail
            refine HEW.out.mono ?_
            rintro o w4 ⟨rfl, hb4⟩
            have B4 := Lib.hid (B3.out.trans (hb4.mono B3.out.size))
            have K4 := Lib.hid (show Blk w4 w.heap.size 30 #[.slice a.nA a.nds.length a.nc, .slice a.vA a.vps.length a.vc, .slice a.wA a.vws.length a.wc, .int .i64 a.fac, .int .i64 a.dom, .bool a.a6, .int .u64 a.ah, .int .u64 a.al, .bool a.b6, .int .u64 a.bh, .int .u64 a.bl] from K3.out.below hb4 K3.out.lt)
            have L4 := Lib.hid (show Blk w4 (w.heap.size + 1) 30 #[.slice b.nA b.nds.length b.nc, .slice b.vA b.vps.length b.vc, .slice b.wA b.vws.length b.wc, .int .i64 b.fac, .int .i64 b.dom, .bool b.a6, .int .u64 b.ah, .int .u64 b.al, .bool b.b6, .int .u64 b.bh, .int .u64 b.bl] from L3.out.below hb4 L3.out.lt)
            clear hb4
            cases qW with
            | false =>
              go_wp2_with fail
              go_ret
              exact HP.out false (by rw [HQ.out]; rfl) _ B4.out
            | true =>
              go_wp2_with fail
              go_ret
              exact HP.out true (by rw [HQ.out]; rfl) _ B4.out
end Go.Proofs.Ytamndmlaikgogaa.vdQ
