/- Layer 19: the law's same. -/
import Derived.Test.YtamndmlaikgogaaVdQ
import Derived.Deep.QuietTactic
import Derived.BigQuiet
namespace Go.Proofs.Ytamndmlaikgogaa.vdS
open Go.ChangeShapes Go.WideShapes Go.ChangeAt Go.RowKit
open Go.Proofs.Ytamndmlaikgogaa.base Go.Proofs.Ytamndmlaikgogaa.dfA Go.Proofs.Ytamndmlaikgogaa.treB Go.Proofs.Ytamndmlaikgogaa.vdA Go.Proofs.Ytamndmlaikgogaa.vdH Go.Proofs.Ytamndmlaikgogaa.vdJ Go.Proofs.Ytamndmlaikgogaa.vdP Go.Proofs.Ytamndmlaikgogaa.vdQ
set_option linter.unusedVariables false

set_option maxHeartbeats 8000000 in
set_option maxRecDepth 100000 in
theorem lsame_q (a b : Cf) (w : World) (ha : CfIn w a) (hb0 : CfIn w b) : Calls Try.prog 13 #[.agg a.cells, .agg b.cells] w (RetB (sameQ a b) w) := by
  show Calls _ _ #[.agg #[.slice a.nA a.nds.length a.nc, .slice a.vA a.vps.length a.vc, .slice a.wA a.vws.length a.wc, .int .i64 a.fac, .int .i64 a.dom, .bool a.a6, .int .u64 a.ah, .int .u64 a.al, .bool a.b6, .int .u64 a.bh, .int .u64 a.bl], .agg #[.slice b.nA b.nds.length b.nc, .slice b.vA b.vps.length b.vc, .slice b.wA b.vws.length b.wc, .int .i64 b.fac, .int .i64 b.dom, .bool b.a6, .int .u64 b.ah, .int .u64 b.al, .bool b.b6, .int .u64 b.bh, .int .u64 b.bl]] _ _
  obtain ⟨Q, hQ⟩ : ∃ Q, Q = sameQ a b := ⟨_, rfl⟩
  have HP := Lib.hid (show ∀ v : Bool, Q = v → ∀ W, Below w.heap.size w W → RetB Q w (.returned (.bool v)) W from fun v h W hb => ⟨by rw [h], hb⟩)
  have HQ := Lib.hid (show Q = (a.fac == b.fac && a.dom == b.dom && selfB a b && eqLN a.nds b.nds && eqLV a.vps b.vps && eqLW a.vws b.vws) from hQ)
  have HSE := fun W => self_ne a b W
  rw [← hQ]
  have g1 : (a.fac != b.fac) = !(a.fac == b.fac) := rfl
  have g2 : (a.dom != b.dom) = !(a.dom == b.dom) := rfl
  obtain ⟨p1, h1⟩ : ∃ p : Bool, (a.fac == b.fac) = p := ⟨_, rfl⟩
  obtain ⟨p2, h2⟩ : ∃ p : Bool, (a.dom == b.dom) = p := ⟨_, rfl⟩
  obtain ⟨p3, h3⟩ : ∃ p : Bool, p = selfB a b := ⟨_, rfl⟩
  rw [h1] at g1
  rw [h2] at g2
  rw [h1, h2, ← h3] at HQ
  rw [← h3] at HSE
  have HLN := Lib.hid (show a.nds.length ≠ b.nds.length → eqLN a.nds b.nds = false from fun h => by unfold eqLN; rw [beq_false_of_ne h]; rfl)
  have HLV := Lib.hid (show a.vps.length ≠ b.vps.length → eqLV a.vps b.vps = false from fun h => by unfold eqLV; rw [beq_false_of_ne h]; rfl)
  have HLW := Lib.hid (show a.vws.length ≠ b.vws.length → eqLW a.vws b.vws = false from fun h => by unfold eqLW; rw [beq_false_of_ne h]; rfl)
  have HDN : a.nds.length = b.nds.length ∨ a.nds.length ≠ b.nds.length := by omega
  have HDV : a.vps.length = b.vps.length ∨ a.vps.length ≠ b.vps.length := by omega
  have HDW : a.vws.length = b.vws.length ∨ a.vws.length ≠ b.vws.length := by omega
  clear h1 h2 h3 hQ
  obtain ⟨w1, hw1⟩ : ∃ w1, w1 = (w.alloc (.cells #[.slice a.nA a.nds.length a.nc, .slice a.vA a.vps.length a.vc, .slice a.wA a.vws.length a.wc, .int .i64 a.fac, .int .i64 a.dom, .bool a.a6, .int .u64 a.ah, .int .u64 a.al, .bool a.b6, .int .u64 a.bh, .int .u64 a.bl] 30)).alloc (.cells #[.slice b.nA b.nds.length b.nc, .slice b.vA b.vps.length b.vc, .slice b.wA b.vws.length b.wc, .int .i64 b.fac, .int .i64 b.dom, .bool b.a6, .int .u64 b.ah, .int .u64 b.al, .bool b.b6, .int .u64 b.bh, .int .u64 b.bl] 30) := ⟨_, rfl⟩
  have E1 := Lib.hid hw1
  have hsz : (w.alloc (.cells #[.slice a.nA a.nds.length a.nc, .slice a.vA a.vps.length a.vc, .slice a.wA a.vws.length a.wc, .int .i64 a.fac, .int .i64 a.dom, .bool a.a6, .int .u64 a.ah, .int .u64 a.al, .bool a.b6, .int .u64 a.bh, .int .u64 a.bl] 30)).heap.size = w.heap.size + 1 := by simp
  have K1 := Lib.hid (show Blk w1 w.heap.size 30 #[.slice a.nA a.nds.length a.nc, .slice a.vA a.vps.length a.vc, .slice a.wA a.vws.length a.wc, .int .i64 a.fac, .int .i64 a.dom, .bool a.a6, .int .u64 a.ah, .int .u64 a.al, .bool a.b6, .int .u64 a.bh, .int .u64 a.bl] from by rw [hw1]; exact (Blk.new w _ _).alloc _)
  have L1 := Lib.hid (show Blk w1 (w.heap.size + 1) 30 #[.slice b.nA b.nds.length b.nc, .slice b.vA b.vps.length b.vc, .slice b.wA b.vws.length b.wc, .int .i64 b.fac, .int .i64 b.dom, .bool b.a6, .int .u64 b.ah, .int .u64 b.al, .bool b.b6, .int .u64 b.bh, .int .u64 b.bl] from by rw [hw1, ← hsz]; exact Blk.new _ _ _)
  have B1 := Lib.hid (show Below w.heap.size w w1 from hw1 ▸ ((Below.refl _ _).alloc (Nat.le_refl _) _).alloc (by simp) _)
  have CA := Lib.hid (fun W (hb : Below w.heap.size w W) => ha.below hb)
  have CB := Lib.hid (fun W (hb : Below w.heap.size w W) => hb0.below hb)
  clear hw1 hsz ha hb0
  have cp0 : w1.cell? ⟨w.heap.size, 0, none⟩ = some (.slice a.nA a.nds.length a.nc) := K1.out.cell 0
  have cq0 : w1.cell? ⟨w.heap.size + 1, 0, none⟩ = some (.slice b.nA b.nds.length b.nc) := L1.out.cell 0
  have cp1 : w1.cell? ⟨w.heap.size, 1, none⟩ = some (.slice a.vA a.vps.length a.vc) := K1.out.cell 1
  have cq1 : w1.cell? ⟨w.heap.size + 1, 1, none⟩ = some (.slice b.vA b.vps.length b.vc) := L1.out.cell 1
  have cp2 : w1.cell? ⟨w.heap.size, 2, none⟩ = some (.slice a.wA a.vws.length a.wc) := K1.out.cell 2
  have cq2 : w1.cell? ⟨w.heap.size + 1, 2, none⟩ = some (.slice b.wA b.vws.length b.wc) := L1.out.cell 2
  have cp3 : w1.cell? ⟨w.heap.size, 3, none⟩ = some (.int .i64 a.fac) := K1.out.cell 3
  have cq3 : w1.cell? ⟨w.heap.size + 1, 3, none⟩ = some (.int .i64 b.fac) := L1.out.cell 3
  have cp4 : w1.cell? ⟨w.heap.size, 4, none⟩ = some (.int .i64 a.dom) := K1.out.cell 4
  have cq4 : w1.cell? ⟨w.heap.size + 1, 4, none⟩ = some (.int .i64 b.dom) := L1.out.cell 4
  have cp5 : w1.cell? ⟨w.heap.size, 5, none⟩ = some (.bool a.a6) := K1.out.cell 5
  have cq5 : w1.cell? ⟨w.heap.size + 1, 5, none⟩ = some (.bool b.a6) := L1.out.cell 5
  have cp6 : w1.cell? ⟨w.heap.size, 6, none⟩ = some (.int .u64 a.ah) := K1.out.cell 6
  have cq6 : w1.cell? ⟨w.heap.size + 1, 6, none⟩ = some (.int .u64 b.ah) := L1.out.cell 6
  have cp7 : w1.cell? ⟨w.heap.size, 7, none⟩ = some (.int .u64 a.al) := K1.out.cell 7
  have cq7 : w1.cell? ⟨w.heap.size + 1, 7, none⟩ = some (.int .u64 b.al) := L1.out.cell 7
  have cp8 : w1.cell? ⟨w.heap.size, 8, none⟩ = some (.bool a.b6) := K1.out.cell 8
  have cq8 : w1.cell? ⟨w.heap.size + 1, 8, none⟩ = some (.bool b.b6) := L1.out.cell 8
  have cp9 : w1.cell? ⟨w.heap.size, 9, none⟩ = some (.int .u64 a.bh) := K1.out.cell 9
  have cq9 : w1.cell? ⟨w.heap.size + 1, 9, none⟩ = some (.int .u64 b.bh) := L1.out.cell 9
  have cp10 : w1.cell? ⟨w.heap.size, 10, none⟩ = some (.int .u64 a.bl) := K1.out.cell 10
  have cq10 : w1.cell? ⟨w.heap.size + 1, 10, none⟩ = some (.int .u64 b.bl) := L1.out.cell 10
  cases p1 with
  | false =>
    have HX := Lib.hid (show Q = false from by rw [HQ.out]; rfl)
    go_enter Try.func13, Try.ntmps13
    go_upto_region 1 with fail
    rw [← E1.out]
    go_wp2_with fail
    go_ret
    exact HP.out false HX.out _ B1.out
  | true =>
    cases p2 with
    | false =>
      have HX := Lib.hid (show Q = false from by rw [HQ.out]; rfl)
      go_enter Try.func13, Try.ntmps13
      go_upto_region 1 with fail
      rw [← E1.out]
      go_wp2_with fail
      go_ret
      exact HP.out false HX.out _ B1.out
    | true =>
      cases p3 with
      | false =>
        have HX := Lib.hid (show Q = false from by rw [HQ.out]; rfl)
        go_enter Try.func13, Try.ntmps13
        go_upto_region 1 with fail
        rw [← E1.out]
        go_wp2_with fail
        go_ret
        exact HP.out false HX.out _ B1.out
      | true =>
        have HQ := Lib.hid (show Q = (eqLN a.nds b.nds && eqLV a.vps b.vps && eqLW a.vws b.vws) from HQ.out)
        rcases HDN with hd | hd
        case inr =>
          have HX := Lib.hid (show Q = false from by rw [HQ.out, HLN.out hd]; rfl)
          have m1 : ((a.nds.length : Int) != (b.nds.length : Int)) = true := bne_iff_ne.mpr (by omega)
          have m2 : (a.nds.length != b.nds.length) = true := bne_iff_ne.mpr hd
          clear hd
          go_enter Try.func13, Try.ntmps13
          go_upto_region 1 with fail
          rw [← E1.out]
          go_wp2_with fail
          go_ret
          exact HP.out false HX.out _ B1.out
        case inl =>
          have lenN := Lib.hid hd
          have mN1 : ((a.nds.length : Int) != (b.nds.length : Int)) = false := bne_eq_false_iff_eq.mpr (by omega)
          have mN2 : (a.nds.length != b.nds.length) = false := bne_eq_false_iff_eq.mpr hd
          clear hd
          rcases HDV with hd | hd
          case inr =>
            have HX := Lib.hid (show Q = false from by rw [HQ.out, HLV.out hd]; simp)
            have m1 : ((a.vps.length : Int) != (b.vps.length : Int)) = true := bne_iff_ne.mpr (by omega)
            have m2 : (a.vps.length != b.vps.length) = true := bne_iff_ne.mpr hd
            clear hd
            go_enter Try.func13, Try.ntmps13
            go_upto_region 1 with fail
            rw [← E1.out]
            go_wp2_with fail
            go_ret
            exact HP.out false HX.out _ B1.out
          case inl =>
            have lenV := Lib.hid hd
            have mV1 : ((a.vps.length : Int) != (b.vps.length : Int)) = false := bne_eq_false_iff_eq.mpr (by omega)
            have mV2 : (a.vps.length != b.vps.length) = false := bne_eq_false_iff_eq.mpr hd
            clear hd
            rcases HDW with hd | hd
            case inr =>
              have HX := Lib.hid (show Q = false from by rw [HQ.out, HLW.out hd]; simp)
              have m1 : ((a.vws.length : Int) != (b.vws.length : Int)) = true := bne_iff_ne.mpr (by omega)
              have m2 : (a.vws.length != b.vws.length) = true := bne_iff_ne.mpr hd
              clear hd
              go_enter Try.func13, Try.ntmps13
              go_upto_region 1 with fail
              rw [← E1.out]
              go_wp2_with fail
              go_ret
              exact HP.out false HX.out _ B1.out
            case inl =>
              have lenW := Lib.hid hd
              have mW1 : ((a.vws.length : Int) != (b.vws.length : Int)) = false := bne_eq_false_iff_eq.mpr (by omega)
              have mW2 : (a.vws.length != b.vws.length) = false := bne_eq_false_iff_eq.mpr hd
              clear hd
              go_enter Try.func13, Try.ntmps13
              go_upto_region 1 with fail
              rw [← E1.out]
              go_upto_region 3 with fail
              clear cp0 cq0 cp1 cq1 cp2 cq2 cp3 cq3 cp4 cq4 cp5 cq5 cp6 cq6 cp7 cq7 cp8 cq8 cp9 cq9 cp10 cq10 mN1 mN2 mV1 mV2 mW1 mW2
              obtain ⟨aA, haA⟩ : ∃ x, x = a.nA := ⟨_, rfl⟩
              obtain ⟨aC, haC⟩ : ∃ x, x = a.nc := ⟨_, rfl⟩
              obtain ⟨bA, hbA⟩ : ∃ x, x = b.nA := ⟨_, rfl⟩
              obtain ⟨bC, hbC⟩ : ∃ x, x = b.nc := ⟨_, rfl⟩
              obtain ⟨n, hn⟩ : ∃ x, x = a.nds.length := ⟨_, rfl⟩
              have RA := Lib.hid (show RowsOf w1 aA n 7 (fun j => (a.nds.getD j zNd).cells.toList) from by rw [haA, hn]; exact (rdN_rows (CA.out _ B1.out).rn))
              have RB := Lib.hid (show RowsOf w1 bA n 7 (fun j => (b.nds.getD j zNd).cells.toList) from by rw [hbA, hn, lenN.out]; exact (rdN_rows (CB.out _ B1.out).rn))
              have s1 : n ≤ aC := by have := (CA.out _ B1.out).cn; omega
              have s2 : aC ≤ 9223372036854775807 := by have := (CA.out _ B1.out).cn2; omega
              have s3 : n ≤ bC := by have := (CB.out _ B1.out).cn; have := lenN.out; omega
              have s4 : bC ≤ 9223372036854775807 := by have := (CB.out _ B1.out).cn2; omega
              have HF := Lib.hid (show ∀ W, Below w1.heap.size w1 W → W.cell? ⟨w.heap.size, 0, none⟩ = some (.slice aA n aC) ∧ W.cell? ⟨w.heap.size + 1, 0, none⟩ = some (.slice bA n bC) from fun W hb => by
                rw [haA, haC, hbA, hbC, hn]
                have h1 := (K1.out.below hb K1.out.lt).cell 0
                have h2 := (L1.out.below hb L1.out.lt).cell 0
                exact ⟨h1, by rw [lenN.out]; exact h2⟩)
              have HAL := Lib.hid (show eqLN a.nds b.nds = allB (fun j => eqN (a.nds.getD j zNd) (b.nds.getD j zNd)) n from by
                unfold eqLN
                rw [show (a.nds.length == b.nds.length) = true from by rw [lenN.out]; exact beq_self_eq_true _, Bool.true_and, hn])
              have W0 := Lib.hid (Below.refl w1.heap.size w1)
              clear haA haC hbA hbC hn
              have cp0 := (HF.out _ W0.out).1
              have cq0 := (HF.out _ W0.out).2
              go_wp2_with fail
              go_loopw [5] (fun i wr => ∃ k : Nat, i = .int .i64 k ∧ k ≤ n ∧ allB (fun j => eqN (a.nds.getD j zNd) (b.nds.getD j zNd)) k = true ∧ Below w1.heap.size w1 wr) (fun i _ => n - (intOf i).toNat)
              case atStart => exact ⟨0, rfl, by omega, rfl, W0.out⟩
              case round =>
                obtain ⟨k, rfl, hk, hal, hbel⟩ := hrel
                have KB := Lib.hid hbel
                have KA := Lib.hid hal
                clear hbel hal cp0 cq0
                have cp := (HF.out _ KB.out).1
                have cq := (HF.out _ KB.out).2
                by_cases hkn : k < n
                · have t1 : decide ((k : Int) < n) = true := decide_eq_true (by omega)
                  have t3 : decide (k < n) = true := decide_eq_true hkn
                  obtain ⟨b8, off, hA, _, hC⟩ := rows_at (rows_below RA.out KB.out) k hkn
                  obtain ⟨b9, off', hA', _, hC'⟩ := rows_at (rows_below RB.out KB.out) k hkn
                  subst hA hA'
                  obtain ⟨x, hx⟩ : ∃ x, x = a.nds.getD k zNd := ⟨_, rfl⟩
                  obtain ⟨y, hy⟩ : ∃ y, y = b.nds.getD k zNd := ⟨_, rfl⟩
                  have hCC := hC
                  have hCC' := hC'
                  simp only [← hx] at hCC
                  simp only [← hy] at hCC'
                  have HNE := fun W => neN_run x y W
                  obtain ⟨q, hq⟩ : ∃ q, q = eqN x y := ⟨_, rfl⟩
                  rw [← hq] at HNE
                  have HNX := Lib.hid (show allB (fun j => eqN (a.nds.getD j zNd) (b.nds.getD j zNd)) (k + 1) = q from by rw [allB_next, KA.out, Bool.true_and, hq, hx, hy])
                  have HBD := Lib.hid (show q = false → Q = false from fun h => by
                    rw [HQ.out, HAL.out, allB_bad hkn (show eqN (a.nds.getD k zNd) (b.nds.getD k zNd) = false from by rw [← h, hq, hx, hy])] <;> rfl)
                  have d0 : wr.cell? ⟨b8, off + k * 7, none⟩ = some (.string x.nm) := hCC 0 (by omega)
                  have d1 : wr.cell? ⟨b8, off + k * 7 + 1, none⟩ = some (.int .i64 x.kind) := hCC 1 (by omega)
                  have d2 : wr.cell? ⟨b8, off + k * 7 + 2, none⟩ = some (.int .i64 x.ab) := hCC 2 (by omega)
                  have d3 : wr.cell? ⟨b8, off + k * 7 + 3, none⟩ = some (.int .i64 x.wt) := hCC 3 (by omega)
                  have d4 : wr.cell? ⟨b8, off + k * 7 + 4, none⟩ = some (.bool x.v6) := hCC 4 (by omega)
                  have d5 : wr.cell? ⟨b8, off + k * 7 + 5, none⟩ = some (.int .u64 x.hi) := hCC 5 (by omega)
                  have d6 : wr.cell? ⟨b8, off + k * 7 + 6, none⟩ = some (.int .u64 x.lo) := hCC 6 (by omega)
                  have e0' : wr.cell? ⟨b9, off' + k * 7, none⟩ = some (.string y.nm) := hCC' 0 (by omega)
                  have e1' : wr.cell? ⟨b9, off' + k * 7 + 1, none⟩ = some (.int .i64 y.kind) := hCC' 1 (by omega)
                  have e2' : wr.cell? ⟨b9, off' + k * 7 + 2, none⟩ = some (.int .i64 y.ab) := hCC' 2 (by omega)
                  have e3' : wr.cell? ⟨b9, off' + k * 7 + 3, none⟩ = some (.int .i64 y.wt) := hCC' 3 (by omega)
                  have e4' : wr.cell? ⟨b9, off' + k * 7 + 4, none⟩ = some (.bool y.v6) := hCC' 4 (by omega)
                  have e5' : wr.cell? ⟨b9, off' + k * 7 + 5, none⟩ = some (.int .u64 y.hi) := hCC' 5 (by omega)
                  have e6' : wr.cell? ⟨b9, off' + k * 7 + 6, none⟩ = some (.int .u64 y.lo) := hCC' 6 (by omega)
                  have j0 : (0 : Int) ≤ k := by omega
                  have j1 : (k : Int) < n := by omega
                  clear hC hC' hCC hCC' hx hy hq
                  cases q
                  all_goals
                    go_wp2_with fail
                    go_quiet (fail)
                    go_wp2_with fail
                  all_goals first
                    | (go_roundw
                       case rel => exact ⟨k + 1, by go_num, by omega, HNX.out, below_drewN KB.out _⟩
                       case measure => simp [intOf]; omega)
                    | (go_ret
                       exact HP.out false (HBD.out (by first | rfl | trivial)) _ (B1.out.trans ((below_drewN KB.out _).mono B1.out.size)))
                · have t1 : decide ((k : Int) < n) = false := decide_eq_false (by omega)
                  have t3 : decide (k < n) = false := decide_eq_false hkn
                  obtain rfl : n = k := by omega
                  have HQ := Lib.hid (show Q = (eqLV a.vps b.vps && eqLW a.vws b.vws) from by rw [HQ.out, HAL.out, KA.out] <;> rfl)
                  have B2 := Lib.hid (B1.out.trans (KB.out.mono B1.out.size))
                  have K2 := Lib.hid (show Blk wr w.heap.size 30 #[.slice a.nA a.nds.length a.nc, .slice a.vA a.vps.length a.vc, .slice a.wA a.vws.length a.wc, .int .i64 a.fac, .int .i64 a.dom, .bool a.a6, .int .u64 a.ah, .int .u64 a.al, .bool a.b6, .int .u64 a.bh, .int .u64 a.bl] from K1.out.below KB.out K1.out.lt)
                  have L2 := Lib.hid (show Blk wr (w.heap.size + 1) 30 #[.slice b.nA b.nds.length b.nc, .slice b.vA b.vps.length b.vc, .slice b.wA b.vws.length b.wc, .int .i64 b.fac, .int .i64 b.dom, .bool b.a6, .int .u64 b.ah, .int .u64 b.al, .bool b.b6, .int .u64 b.bh, .int .u64 b.bl] from L1.out.below KB.out L1.out.lt)
                  obtain ⟨w2, hw2⟩ : ∃ x, x = wr := ⟨_, rfl⟩
                  subst hw2
                  clear KA hk hkn RA RB HF HAL W0 s1 s2 s3 s4
                  obtain ⟨aA, haA⟩ : ∃ x, x = a.vA := ⟨_, rfl⟩
                  obtain ⟨aC, haC⟩ : ∃ x, x = a.vc := ⟨_, rfl⟩
                  obtain ⟨bA, hbA⟩ : ∃ x, x = b.vA := ⟨_, rfl⟩
                  obtain ⟨bC, hbC⟩ : ∃ x, x = b.vc := ⟨_, rfl⟩
                  obtain ⟨n, hn⟩ : ∃ x, x = a.vps.length := ⟨_, rfl⟩
                  have RA := Lib.hid (show RowsOf w2 aA n 7 (fun j => (a.vps.getD j zVp).cells.toList) from by rw [haA, hn]; exact (CA.out _ B2.out).rv)
                  have RB := Lib.hid (show RowsOf w2 bA n 7 (fun j => (b.vps.getD j zVp).cells.toList) from by rw [hbA, hn, lenV.out]; exact (CB.out _ B2.out).rv)
                  have s1 : n ≤ aC := by have := (CA.out _ B2.out).cv; omega
                  have s2 : aC ≤ 9223372036854775807 := by have := (CA.out _ B2.out).cv2; omega
                  have s3 : n ≤ bC := by have := (CB.out _ B2.out).cv; have := lenV.out; omega
                  have s4 : bC ≤ 9223372036854775807 := by have := (CB.out _ B2.out).cv2; omega
                  have HF := Lib.hid (show ∀ W, Below w2.heap.size w2 W → W.cell? ⟨w.heap.size, 1, none⟩ = some (.slice aA n aC) ∧ W.cell? ⟨w.heap.size + 1, 1, none⟩ = some (.slice bA n bC) from fun W hb => by
                    rw [haA, haC, hbA, hbC, hn]
                    have h1 := (K2.out.below hb K2.out.lt).cell 1
                    have h2 := (L2.out.below hb L2.out.lt).cell 1
                    exact ⟨h1, by rw [lenV.out]; exact h2⟩)
                  have HAL := Lib.hid (show eqLV a.vps b.vps = allB (fun j => eqV (a.vps.getD j zVp) (b.vps.getD j zVp)) n from by
                    unfold eqLV
                    rw [show (a.vps.length == b.vps.length) = true from by rw [lenV.out]; exact beq_self_eq_true _, Bool.true_and, hn])
                  have W0 := Lib.hid (Below.refl w2.heap.size w2)
                  clear haA haC hbA hbC hn
                  have cp0 := (HF.out _ W0.out).1
                  have cq0 := (HF.out _ W0.out).2
                  go_wp2_with fail
                  go_loopw [6] (fun i wr => ∃ k : Nat, i = .int .i64 k ∧ k ≤ n ∧ allB (fun j => eqV (a.vps.getD j zVp) (b.vps.getD j zVp)) k = true ∧ Below w2.heap.size w2 wr) (fun i _ => n - (intOf i).toNat)
                  case atStart => exact ⟨0, rfl, by omega, rfl, W0.out⟩
                  case round =>
                    obtain ⟨k, rfl, hk, hal, hbel⟩ := hrel
                    have KB := Lib.hid hbel
                    have KA := Lib.hid hal
                    clear hbel hal cp0 cq0
                    have cp := (HF.out _ KB.out).1
                    have cq := (HF.out _ KB.out).2
                    by_cases hkn : k < n
                    · have t1 : decide ((k : Int) < n) = true := decide_eq_true (by omega)
                      have t3 : decide (k < n) = true := decide_eq_true hkn
                      obtain ⟨b8, off, hA, _, hC⟩ := rows_at (rows_below RA.out KB.out) k hkn
                      obtain ⟨b9, off', hA', _, hC'⟩ := rows_at (rows_below RB.out KB.out) k hkn
                      subst hA hA'
                      obtain ⟨x, hx⟩ : ∃ x, x = a.vps.getD k zVp := ⟨_, rfl⟩
                      obtain ⟨y, hy⟩ : ∃ y, y = b.vps.getD k zVp := ⟨_, rfl⟩
                      have hCC := hC
                      have hCC' := hC'
                      simp only [← hx] at hCC
                      simp only [← hy] at hCC'
                      have HNE := fun W => neV_run x y W
                      obtain ⟨q, hq⟩ : ∃ q, q = eqV x y := ⟨_, rfl⟩
                      rw [← hq] at HNE
                      have HNX := Lib.hid (show allB (fun j => eqV (a.vps.getD j zVp) (b.vps.getD j zVp)) (k + 1) = q from by rw [allB_next, KA.out, Bool.true_and, hq, hx, hy])
                      have HBD := Lib.hid (show q = false → Q = false from fun h => by
                        rw [HQ.out, HAL.out, allB_bad hkn (show eqV (a.vps.getD k zVp) (b.vps.getD k zVp) = false from by rw [← h, hq, hx, hy])] <;> rfl)
                      have d0 : wr.cell? ⟨b8, off + k * 7, none⟩ = some (.bool x.v6) := hCC 0 (by omega)
                      have d1 : wr.cell? ⟨b8, off + k * 7 + 1, none⟩ = some (.int .u64 x.hi) := hCC 1 (by omega)
                      have d2 : wr.cell? ⟨b8, off + k * 7 + 2, none⟩ = some (.int .u64 x.lo) := hCC 2 (by omega)
                      have d3 : wr.cell? ⟨b8, off + k * 7 + 3, none⟩ = some (.int .i64 x.pr) := hCC 3 (by omega)
                      have d4 : wr.cell? ⟨b8, off + k * 7 + 4, none⟩ = some (.int .i64 x.po) := hCC 4 (by omega)
                      have d5 : wr.cell? ⟨b8, off + k * 7 + 5, none⟩ = some (.int .i64 x.co) := hCC 5 (by omega)
                      have d6 : wr.cell? ⟨b8, off + k * 7 + 6, none⟩ = some (.bool x.nat) := hCC 6 (by omega)
                      have e0' : wr.cell? ⟨b9, off' + k * 7, none⟩ = some (.bool y.v6) := hCC' 0 (by omega)
                      have e1' : wr.cell? ⟨b9, off' + k * 7 + 1, none⟩ = some (.int .u64 y.hi) := hCC' 1 (by omega)
                      have e2' : wr.cell? ⟨b9, off' + k * 7 + 2, none⟩ = some (.int .u64 y.lo) := hCC' 2 (by omega)
                      have e3' : wr.cell? ⟨b9, off' + k * 7 + 3, none⟩ = some (.int .i64 y.pr) := hCC' 3 (by omega)
                      have e4' : wr.cell? ⟨b9, off' + k * 7 + 4, none⟩ = some (.int .i64 y.po) := hCC' 4 (by omega)
                      have e5' : wr.cell? ⟨b9, off' + k * 7 + 5, none⟩ = some (.int .i64 y.co) := hCC' 5 (by omega)
                      have e6' : wr.cell? ⟨b9, off' + k * 7 + 6, none⟩ = some (.bool y.nat) := hCC' 6 (by omega)
                      have j0 : (0 : Int) ≤ k := by omega
                      have j1 : (k : Int) < n := by omega
                      clear hC hC' hCC hCC' hx hy hq
                      cases q
                      all_goals
                        go_wp2_with fail
                        go_quiet (fail)
                        go_wp2_with fail
                      all_goals first
                        | (go_roundw
                           case rel => exact ⟨k + 1, by go_num, by omega, HNX.out, below_drewN KB.out _⟩
                           case measure => simp [intOf]; omega)
                        | (go_ret
                           exact HP.out false (HBD.out (by first | rfl | trivial)) _ (B2.out.trans ((below_drewN KB.out _).mono B2.out.size)))
                    · have t1 : decide ((k : Int) < n) = false := decide_eq_false (by omega)
                      have t3 : decide (k < n) = false := decide_eq_false hkn
                      obtain rfl : n = k := by omega
                      have HQ := Lib.hid (show Q = eqLW a.vws b.vws from by rw [HQ.out, HAL.out, KA.out] <;> rfl)
                      have B3 := Lib.hid (B2.out.trans (KB.out.mono B2.out.size))
                      have K3 := Lib.hid (show Blk wr w.heap.size 30 #[.slice a.nA a.nds.length a.nc, .slice a.vA a.vps.length a.vc, .slice a.wA a.vws.length a.wc, .int .i64 a.fac, .int .i64 a.dom, .bool a.a6, .int .u64 a.ah, .int .u64 a.al, .bool a.b6, .int .u64 a.bh, .int .u64 a.bl] from K2.out.below KB.out K2.out.lt)
                      have L3 := Lib.hid (show Blk wr (w.heap.size + 1) 30 #[.slice b.nA b.nds.length b.nc, .slice b.vA b.vps.length b.vc, .slice b.wA b.vws.length b.wc, .int .i64 b.fac, .int .i64 b.dom, .bool b.a6, .int .u64 b.ah, .int .u64 b.al, .bool b.b6, .int .u64 b.bh, .int .u64 b.bl] from L2.out.below KB.out L2.out.lt)
                      obtain ⟨w3, hw3⟩ : ∃ x, x = wr := ⟨_, rfl⟩
                      subst hw3
                      clear KA hk hkn RA RB HF HAL W0 s1 s2 s3 s4
                      obtain ⟨aA, haA⟩ : ∃ x, x = a.wA := ⟨_, rfl⟩
                      obtain ⟨aC, haC⟩ : ∃ x, x = a.wc := ⟨_, rfl⟩
                      obtain ⟨bA, hbA⟩ : ∃ x, x = b.wA := ⟨_, rfl⟩
                      obtain ⟨bC, hbC⟩ : ∃ x, x = b.wc := ⟨_, rfl⟩
                      obtain ⟨n, hn⟩ : ∃ x, x = a.vws.length := ⟨_, rfl⟩
                      have RA := Lib.hid (show RowsOf w3 aA n 5 (fun j => (a.vws.getD j zVw).cells.toList) from by rw [haA, hn]; exact (CA.out _ B3.out).rw_)
                      have RB := Lib.hid (show RowsOf w3 bA n 5 (fun j => (b.vws.getD j zVw).cells.toList) from by rw [hbA, hn, lenW.out]; exact (CB.out _ B3.out).rw_)
                      have s1 : n ≤ aC := by have := (CA.out _ B3.out).cw; omega
                      have s2 : aC ≤ 9223372036854775807 := by have := (CA.out _ B3.out).cw2; omega
                      have s3 : n ≤ bC := by have := (CB.out _ B3.out).cw; have := lenW.out; omega
                      have s4 : bC ≤ 9223372036854775807 := by have := (CB.out _ B3.out).cw2; omega
                      have HF := Lib.hid (show ∀ W, Below w3.heap.size w3 W → W.cell? ⟨w.heap.size, 2, none⟩ = some (.slice aA n aC) ∧ W.cell? ⟨w.heap.size + 1, 2, none⟩ = some (.slice bA n bC) from fun W hb => by
                        rw [haA, haC, hbA, hbC, hn]
                        have h1 := (K3.out.below hb K3.out.lt).cell 2
                        have h2 := (L3.out.below hb L3.out.lt).cell 2
                        exact ⟨h1, by rw [lenW.out]; exact h2⟩)
                      have HAL := Lib.hid (show eqLW a.vws b.vws = allB (fun j => eqW (a.vws.getD j zVw) (b.vws.getD j zVw)) n from by
                        unfold eqLW
                        rw [show (a.vws.length == b.vws.length) = true from by rw [lenW.out]; exact beq_self_eq_true _, Bool.true_and, hn])
                      have W0 := Lib.hid (Below.refl w3.heap.size w3)
                      clear haA haC hbA hbC hn
                      have cp0 := (HF.out _ W0.out).1
                      have cq0 := (HF.out _ W0.out).2
                      go_wp2_with fail
                      go_loopw [7] (fun i wr => ∃ k : Nat, i = .int .i64 k ∧ k ≤ n ∧ allB (fun j => eqW (a.vws.getD j zVw) (b.vws.getD j zVw)) k = true ∧ Below w3.heap.size w3 wr) (fun i _ => n - (intOf i).toNat)
                      case atStart => exact ⟨0, rfl, by omega, rfl, W0.out⟩
                      case round =>
                        obtain ⟨k, rfl, hk, hal, hbel⟩ := hrel
                        have KB := Lib.hid hbel
                        have KA := Lib.hid hal
                        clear hbel hal cp0 cq0
                        have cp := (HF.out _ KB.out).1
                        have cq := (HF.out _ KB.out).2
                        by_cases hkn : k < n
                        · have t1 : decide ((k : Int) < n) = true := decide_eq_true (by omega)
                          have t3 : decide (k < n) = true := decide_eq_true hkn
                          obtain ⟨b8, off, hA, _, hC⟩ := rows_at (rows_below RA.out KB.out) k hkn
                          obtain ⟨b9, off', hA', _, hC'⟩ := rows_at (rows_below RB.out KB.out) k hkn
                          subst hA hA'
                          obtain ⟨x, hx⟩ : ∃ x, x = a.vws.getD k zVw := ⟨_, rfl⟩
                          obtain ⟨y, hy⟩ : ∃ y, y = b.vws.getD k zVw := ⟨_, rfl⟩
                          have hCC := hC
                          have hCC' := hC'
                          simp only [← hx] at hCC
                          simp only [← hy] at hCC'
                          have HNE := fun W => neW_run x y W
                          obtain ⟨q, hq⟩ : ∃ q, q = eqW x y := ⟨_, rfl⟩
                          rw [← hq] at HNE
                          have HNX := Lib.hid (show allB (fun j => eqW (a.vws.getD j zVw) (b.vws.getD j zVw)) (k + 1) = q from by rw [allB_next, KA.out, Bool.true_and, hq, hx, hy])
                          have HBD := Lib.hid (show q = false → Q = false from fun h => by
                            rw [HQ.out, HAL.out, allB_bad hkn (show eqW (a.vws.getD k zVw) (b.vws.getD k zVw) = false from by rw [← h, hq, hx, hy])] <;> rfl)
                          have d0 : wr.cell? ⟨b8, off + k * 5, none⟩ = some (.bool x.v6) := hCC 0 (by omega)
                          have d1 : wr.cell? ⟨b8, off + k * 5 + 1, none⟩ = some (.int .u64 x.hi) := hCC 1 (by omega)
                          have d2 : wr.cell? ⟨b8, off + k * 5 + 2, none⟩ = some (.int .u64 x.lo) := hCC 2 (by omega)
                          have d3 : wr.cell? ⟨b8, off + k * 5 + 3, none⟩ = some (.int .i64 x.bits) := hCC 3 (by omega)
                          have d4 : wr.cell? ⟨b8, off + k * 5 + 4, none⟩ = some (.int .i64 x.lev) := hCC 4 (by omega)
                          have e0' : wr.cell? ⟨b9, off' + k * 5, none⟩ = some (.bool y.v6) := hCC' 0 (by omega)
                          have e1' : wr.cell? ⟨b9, off' + k * 5 + 1, none⟩ = some (.int .u64 y.hi) := hCC' 1 (by omega)
                          have e2' : wr.cell? ⟨b9, off' + k * 5 + 2, none⟩ = some (.int .u64 y.lo) := hCC' 2 (by omega)
                          have e3' : wr.cell? ⟨b9, off' + k * 5 + 3, none⟩ = some (.int .i64 y.bits) := hCC' 3 (by omega)
                          have e4' : wr.cell? ⟨b9, off' + k * 5 + 4, none⟩ = some (.int .i64 y.lev) := hCC' 4 (by omega)
                          have j0 : (0 : Int) ≤ k := by omega
                          have j1 : (k : Int) < n := by omega
                          clear hC hC' hCC hCC' hx hy hq
                          cases q
                          all_goals
                            go_wp2_with fail
                            go_quiet (fail)
                            go_wp2_with fail
                          all_goals first
                            | (go_roundw
                               case rel => exact ⟨k + 1, by go_num, by omega, HNX.out, below_drewN KB.out _⟩
                               case measure => simp [intOf]; omega)
                            | (go_ret
                               exact HP.out false (HBD.out (by first | rfl | trivial)) _ (B3.out.trans ((below_drewN KB.out _).mono B3.out.size)))
                        · have t1 : decide ((k : Int) < n) = false := decide_eq_false (by omega)
                          have t3 : decide (k < n) = false := decide_eq_false hkn
                          obtain rfl : n = k := by omega
                          have HQ := Lib.hid (show Q = true from by rw [HQ.out, HAL.out, KA.out] <;> rfl)
                          have B4 := Lib.hid (B3.out.trans (KB.out.mono B3.out.size))
                          have K4 := Lib.hid (show Blk wr w.heap.size 30 #[.slice a.nA a.nds.length a.nc, .slice a.vA a.vps.length a.vc, .slice a.wA a.vws.length a.wc, .int .i64 a.fac, .int .i64 a.dom, .bool a.a6, .int .u64 a.ah, .int .u64 a.al, .bool a.b6, .int .u64 a.bh, .int .u64 a.bl] from K3.out.below KB.out K3.out.lt)
                          have L4 := Lib.hid (show Blk wr (w.heap.size + 1) 30 #[.slice b.nA b.nds.length b.nc, .slice b.vA b.vps.length b.vc, .slice b.wA b.vws.length b.wc, .int .i64 b.fac, .int .i64 b.dom, .bool b.a6, .int .u64 b.ah, .int .u64 b.al, .bool b.b6, .int .u64 b.bh, .int .u64 b.bl] from L3.out.below KB.out L3.out.lt)
                          obtain ⟨w4, hw4⟩ : ∃ x, x = wr := ⟨_, rfl⟩
                          subst hw4
                          clear KA hk hkn RA RB HF HAL W0 s1 s2 s3 s4
                          go_wp2_with fail
                          go_ret
                          exact HP.out true HQ.out _ B4.out
end Go.Proofs.Ytamndmlaikgogaa.vdS
