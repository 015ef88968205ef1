/- Layer 19: the law's reasons why an address may not be balanced. -/
import Derived.Test.YtamndmlaikgogaaVdJ
import Derived.Deep.QuietTactic
import Derived.BigQuiet
namespace Go.Proofs.Ytamndmlaikgogaa.vdK
open Go.ChangeShapes Go.WideShapes Go.ChangeAt Go.RowKit
open Go.Proofs.Ytamndmlaikgogaa.base Go.Proofs.Ytamndmlaikgogaa.dfA Go.Proofs.Ytamndmlaikgogaa.treB Go.Proofs.Ytamndmlaikgogaa.treF Go.Proofs.Ytamndmlaikgogaa.vdD Go.Proofs.Ytamndmlaikgogaa.vdA Go.Proofs.Ytamndmlaikgogaa.vdE
set_option linter.unusedVariables false

set_option maxHeartbeats 16000000 in
set_option maxRecDepth 100000 in
theorem lvips_any (A : Option Addr) (c : Nat) (l : List Vp) (w : World) (hr : RdV w A l) (hc : l.length ≤ c) (hc2 : c ≤ 9223372036854775807) (hl : l.length ≤ 1000) :
    Calls Try.prog 33 #[.slice A l.length c] w (RetI (vipsE l) w) := by
  obtain ⟨Q, hQ⟩ : ∃ Q, Q = vipsE l := ⟨_, rfl⟩
  have HP := Lib.hid (show ∀ v : Int, Q = v → ∀ W, Below w.heap.size w W → RetI Q w (.returned (.int .i64 v)) W from fun v h W hb => ⟨by rw [h], hb⟩)
  have HST := Lib.hid (show ∀ k, k < l.length → fstE (vipW l) k = 0 → vipW l k ≠ 0 → Q = vipW l k from fun k hk h h2 => by rw [hQ]; exact fst_stop h h2 hk)
  have HEN := Lib.hid (show fstE (vipW l) l.length = 0 → Q = 0 from fun h => by rw [hQ]; exact h)
  rw [← hQ]
  have HRD := Lib.hid hr
  obtain ⟨n, hn⟩ : ∃ n, n = l.length := ⟨_, rfl⟩
  have HN := Lib.hid hn
  rw [← hn] at hc hl HST HEN ⊢
  have W0 := Lib.hid (Below.refl w.heap.size w)
  clear hQ hr hn
  go_enter Try.func33, Try.ntmps33
  go_wp2_with fail
  go_loopw [3] (fun i wr => ∃ k : Nat, i = .int .i64 k ∧ k ≤ n ∧ fstE (vipW l) k = 0 ∧ Below w.heap.size w wr) (fun i _ => n - (intOf i).toNat)
  case atStart => exact ⟨0, rfl, by omega, rfl, W0.out⟩
  case round =>
    obtain ⟨k, rfl, hk, hfs, hbel⟩ := hrel
    have KB := Lib.hid hbel
    have KF := Lib.hid hfs
    clear hbel hfs
    obtain ⟨wo, hwo⟩ : ∃ wo, wo = wr := ⟨_, rfl⟩
    subst hwo
    by_cases hkn : k < n
    case neg =>
      have t1 : decide ((k : Int) < n) = false := decide_eq_false (by omega)
      obtain rfl : n = k := by omega
      go_wp2_with fail
      go_ret
      exact HP.out 0 (HEN.out KF.out) _ KB.out
    case pos =>
      have t1 : decide ((k : Int) < n) = true := decide_eq_true (by omega)
      obtain ⟨b, off, hA, hbl, hC⟩ := rows_at (rows_below HRD.out KB.out) k (by have := HN.out; omega)
      subst hA
      obtain ⟨e, he⟩ : ∃ e, e = l.getD k zVp := ⟨_, rfl⟩
      have hCC := hC
      simp only [← he] at hCC
      have HW0 := Lib.hid (show vipW l k = vipQ l e k from by rw [he]; rfl)
      have HBAD := Lib.hid (show ∀ v : Int, vipZ e = v → v ≠ 0 → Q = v from fun v h h2 => by
        have h3 : vipW l k = v := by rw [HW0.out]; unfold vipQ; rw [if_pos (by rw [h]; exact h2), h]
        rw [HST.out k hkn KF.out (by rw [h3]; exact h2), h3])
      have HTW := Lib.hid (show vipZ e = 0 → ∀ j, j < k → twV (l.getD j zVp) e = true → Q = 8 from fun h j hj h2 => by
        have h3 : vipW l k = 8 := by rw [HW0.out]; unfold vipQ; rw [if_neg (by rw [h]; decide), if_pos (hasV_here hj h2)]
        rw [HST.out k hkn KF.out (by rw [h3]; decide), h3])
      have HOK := Lib.hid (show vipZ e = 0 → hasV l e k = false → fstE (vipW l) (k + 1) = 0 from fun h h2 => by
        rw [fst_next KF.out, HW0.out]; unfold vipQ; rw [if_neg (by rw [h]; decide), h2, if_neg (by decide)])
      obtain ⟨ez, hez⟩ : ∃ ez, ez = vipZ e := ⟨_, rfl⟩
      rw [← hez] at HBAD HTW HOK
      have HEZ := Lib.hid (show ez = if rightB e.v6 e.hi e.lo = false then 18 else if e.pr ≠ 6 ∧ e.pr ≠ 17 then 14 else if e.po < 0 ∨ 65535 < e.po ∨ e.co < 1 ∨ 8 < e.co ∨ (1 < e.co ∧ e.pr ≠ 17) then 5 else 0 from hez)
      have HHN := Lib.hid (fun k => hasV_next (l := l) (e := e) (k := k))
      have HH0 := Lib.hid (show hasV l e 0 = false from rfl)
      obtain ⟨hv, hhv⟩ : ∃ hv : Nat → Bool, hv = hasV l e := ⟨_, rfl⟩
      rw [← hhv] at HOK HHN HH0
      obtain ⟨tw, htw⟩ : ∃ tw : Vp → Bool, tw = fun x => twV x e := ⟨_, rfl⟩
      have HTWE := Lib.hid (show ∀ x : Vp, tw x = ((x.v6 == e.v6 && x.hi == e.hi && x.lo == e.lo) && x.pr == e.pr && x.po == e.po) from fun x => by rw [htw]; rfl)
      have HTW2 := Lib.hid (show ez = 0 → ∀ j, j < k → tw (l.getD j zVp) = true → Q = 8 from fun h j hj h2 => HTW.out h j hj (by rw [htw] at h2; exact h2))
      have HHN2 := Lib.hid (show ∀ k, hv (k + 1) = (hv k || tw (l.getD k zVp)) from fun k => by rw [HHN.out k, htw])
      clear hez hhv HTW HHN htw hC he HW0
      obtain ⟨v6, hi, lo, pr, po, co, nat⟩ := e
      simp only at HEZ HTWE
      have d0 : wo.cell? ⟨b, off + k * 7, none⟩ = some (.bool v6) := hCC 0 (by omega)
      have d1 : wo.cell? ⟨b, off + k * 7 + 1, none⟩ = some (.int .u64 hi) := hCC 1 (by omega)
      have d2 : wo.cell? ⟨b, off + k * 7 + 2, none⟩ = some (.int .u64 lo) := hCC 2 (by omega)
      have d3 : wo.cell? ⟨b, off + k * 7 + 3, none⟩ = some (.int .i64 pr) := hCC 3 (by omega)
      have d4 : wo.cell? ⟨b, off + k * 7 + 4, none⟩ = some (.int .i64 po) := hCC 4 (by omega)
      have d5 : wo.cell? ⟨b, off + k * 7 + 5, none⟩ = some (.int .i64 co) := hCC 5 (by omega)
      have d6 : wo.cell? ⟨b, off + k * 7 + 6, none⟩ = some (.bool nat) := hCC 6 (by omega)
      have j0 : (0 : Int) ≤ k := by omega
      have j1 : (k : Int) < n := by omega
      obtain ⟨w1, hw1⟩ : ∃ w1, w1 = wo.alloc (.cells #[.bool v6, .int .u64 hi, .int .u64 lo, .int .i64 pr, .int .i64 po, .int .i64 co, .bool nat] 48) := ⟨_, rfl⟩
      have E1 := Lib.hid hw1
      have Q0 := Lib.hid (show Blk w1 wo.heap.size 48 #[.bool v6, .int .u64 hi, .int .u64 lo, .int .i64 pr, .int .i64 po, .int .i64 co, .bool nat] from hw1 ▸ Blk.new wo _ _)
      have B0 := Lib.hid (show Below wo.heap.size wo w1 from hw1 ▸ (Below.refl _ _).alloc (Nat.le_refl _) _)
      have HR := Lib.hid (fun W => right_any v6 hi lo W)
      have y0 : w1.cell? ⟨wo.heap.size, 0, none⟩ = some (.bool v6) := Q0.out.cell 0
      have y1 : w1.cell? ⟨wo.heap.size, 1, none⟩ = some (.int .u64 hi) := Q0.out.cell 1
      have y2 : w1.cell? ⟨wo.heap.size, 2, none⟩ = some (.int .u64 lo) := Q0.out.cell 2
      have y3 : w1.cell? ⟨wo.heap.size, 3, none⟩ = some (.int .i64 pr) := Q0.out.cell 3
      have y4 : w1.cell? ⟨wo.heap.size, 4, none⟩ = some (.int .i64 po) := Q0.out.cell 4
      have y5 : w1.cell? ⟨wo.heap.size, 5, none⟩ = some (.int .i64 co) := Q0.out.cell 5
      have y6 : w1.cell? ⟨wo.heap.size, 6, none⟩ = some (.bool nat) := Q0.out.cell 6
      clear hw1 hCC
      cases hrb : rightB v6 hi lo with
      | false =>
        rw [hrb] at HR
        have HX := Lib.hid (HBAD.out 18 (by rw [HEZ.out, if_pos hrb]) (by decide))
        clear hrb
        go_upto_region 5 with fail
        rw [← E1.out]
        go_wp2_with fail
        refine (HR.out _).mono ?_
        rintro o w2 ⟨rfl, hb2⟩
        have K2 := Lib.hid (show Blk w2 wo.heap.size 48 #[.bool v6, .int .u64 hi, .int .u64 lo, .int .i64 pr, .int .i64 po, .int .i64 co, .bool nat] from Q0.out.below hb2 Q0.out.lt)
        have B2 := Lib.hid (B0.out.trans (hb2.mono B0.out.size))
        have k0 : w2.cell? ⟨wo.heap.size, 0, none⟩ = some (.bool v6) := K2.out.cell 0
        have k1 : w2.cell? ⟨wo.heap.size, 1, none⟩ = some (.int .u64 hi) := K2.out.cell 1
        have k2 : w2.cell? ⟨wo.heap.size, 2, none⟩ = some (.int .u64 lo) := K2.out.cell 2
        have k3 : w2.cell? ⟨wo.heap.size, 3, none⟩ = some (.int .i64 pr) := K2.out.cell 3
        have k4 : w2.cell? ⟨wo.heap.size, 4, none⟩ = some (.int .i64 po) := K2.out.cell 4
        have k5 : w2.cell? ⟨wo.heap.size, 5, none⟩ = some (.int .i64 co) := K2.out.cell 5
        have k6 : w2.cell? ⟨wo.heap.size, 6, none⟩ = some (.bool nat) := K2.out.cell 6
        clear hb2
        go_wp2_with fail
        go_ret
        exact HP.out 18 HX.out _ (KB.out.trans (B2.out.mono KB.out.size))
      | true =>
        rw [hrb] at HR
        have HEZ := Lib.hid (show ez = if pr ≠ 6 ∧ pr ≠ 17 then 14 else if po < 0 ∨ 65535 < po ∨ co < 1 ∨ 8 < co ∨ (1 < co ∧ pr ≠ 17) then 5 else 0 from by rw [HEZ.out, hrb, if_neg (by decide)])
        clear hrb
        by_cases hp : pr ≠ 6 ∧ pr ≠ 17
        · have HX := Lib.hid (HBAD.out 14 (by rw [HEZ.out, if_pos hp]) (by decide))
          have t2 : (pr != 6) = true := bne_iff_ne.mpr hp.1
          have t3 : (pr != 17) = true := bne_iff_ne.mpr hp.2
          clear hp
          go_upto_region 5 with fail
          rw [← E1.out]
          go_wp2_with fail
          refine (HR.out _).mono ?_
          rintro o w2 ⟨rfl, hb2⟩
          have K2 := Lib.hid (show Blk w2 wo.heap.size 48 #[.bool v6, .int .u64 hi, .int .u64 lo, .int .i64 pr, .int .i64 po, .int .i64 co, .bool nat] from Q0.out.below hb2 Q0.out.lt)
          have B2 := Lib.hid (B0.out.trans (hb2.mono B0.out.size))
          have k0 : w2.cell? ⟨wo.heap.size, 0, none⟩ = some (.bool v6) := K2.out.cell 0
          have k1 : w2.cell? ⟨wo.heap.size, 1, none⟩ = some (.int .u64 hi) := K2.out.cell 1
          have k2 : w2.cell? ⟨wo.heap.size, 2, none⟩ = some (.int .u64 lo) := K2.out.cell 2
          have k3 : w2.cell? ⟨wo.heap.size, 3, none⟩ = some (.int .i64 pr) := K2.out.cell 3
          have k4 : w2.cell? ⟨wo.heap.size, 4, none⟩ = some (.int .i64 po) := K2.out.cell 4
          have k5 : w2.cell? ⟨wo.heap.size, 5, none⟩ = some (.int .i64 co) := K2.out.cell 5
          have k6 : w2.cell? ⟨wo.heap.size, 6, none⟩ = some (.bool nat) := K2.out.cell 6
          clear hb2
          go_wp2_with fail
          go_ret
          exact HP.out 14 HX.out _ (KB.out.trans (B2.out.mono KB.out.size))
        have HEZ := Lib.hid (show ez = if po < 0 ∨ 65535 < po ∨ co < 1 ∨ 8 < co ∨ (1 < co ∧ pr ≠ 17) then 5 else 0 from by rw [HEZ.out, if_neg hp])
        have hpp : pr = 6 ∨ pr = 17 := by omega
        clear hp
        have HB5 := Lib.hid (show (po < 0 ∨ 65535 < po ∨ co < 1 ∨ 8 < co ∨ (1 < co ∧ pr ≠ 17)) → Q = 5 from fun h => HBAD.out 5 (by rw [HEZ.out, if_pos h]) (by decide))
        have HZ0 := Lib.hid (show ¬ (po < 0 ∨ 65535 < po ∨ co < 1 ∨ 8 < co ∨ (1 < co ∧ pr ≠ 17)) → ez = 0 from fun h => by rw [HEZ.out, if_neg h])
        have hcase : po < 0 ∨ (0 ≤ po ∧ 65535 < po) ∨ (0 ≤ po ∧ po ≤ 65535 ∧ co < 1) ∨ (0 ≤ po ∧ po ≤ 65535 ∧ 1 ≤ co ∧ 8 < co) ∨ (0 ≤ po ∧ po ≤ 65535 ∧ 1 ≤ co ∧ co ≤ 8 ∧ 1 < co) ∨ (0 ≤ po ∧ po ≤ 65535 ∧ 1 ≤ co ∧ co ≤ 8 ∧ co ≤ 1) := by omega
        rcases hpp with rfl | rfl
        · rcases hcase with hc | hc | hc | hc | hc | hc
          · have HX := Lib.hid (HB5.out (by omega))
            have t2 : decide (po < 0) = true := decide_eq_true (by omega)
            clear hc
            go_upto_region 5 with fail
            rw [← E1.out]
            go_wp2_with fail
            refine (HR.out _).mono ?_
            rintro o w2 ⟨rfl, hb2⟩
            have K2 := Lib.hid (show Blk w2 wo.heap.size 48 #[.bool v6, .int .u64 hi, .int .u64 lo, .int .i64 6, .int .i64 po, .int .i64 co, .bool nat] from Q0.out.below hb2 Q0.out.lt)
            have B2 := Lib.hid (B0.out.trans (hb2.mono B0.out.size))
            have k0 : w2.cell? ⟨wo.heap.size, 0, none⟩ = some (.bool v6) := K2.out.cell 0
            have k1 : w2.cell? ⟨wo.heap.size, 1, none⟩ = some (.int .u64 hi) := K2.out.cell 1
            have k2 : w2.cell? ⟨wo.heap.size, 2, none⟩ = some (.int .u64 lo) := K2.out.cell 2
            have k3 : w2.cell? ⟨wo.heap.size, 3, none⟩ = some (.int .i64 6) := K2.out.cell 3
            have k4 : w2.cell? ⟨wo.heap.size, 4, none⟩ = some (.int .i64 po) := K2.out.cell 4
            have k5 : w2.cell? ⟨wo.heap.size, 5, none⟩ = some (.int .i64 co) := K2.out.cell 5
            have k6 : w2.cell? ⟨wo.heap.size, 6, none⟩ = some (.bool nat) := K2.out.cell 6
            clear hb2
            go_wp2_with fail
            go_ret
            exact HP.out 5 HX.out _ (KB.out.trans (B2.out.mono KB.out.size))
          · have HX := Lib.hid (HB5.out (by omega))
            have t2 : decide (po < 0) = false := decide_eq_false (by omega)
            have t3 : decide (65535 < po) = true := decide_eq_true (by omega)
            clear hc
            go_upto_region 5 with fail
            rw [← E1.out]
            go_wp2_with fail
            refine (HR.out _).mono ?_
            rintro o w2 ⟨rfl, hb2⟩
            have K2 := Lib.hid (show Blk w2 wo.heap.size 48 #[.bool v6, .int .u64 hi, .int .u64 lo, .int .i64 6, .int .i64 po, .int .i64 co, .bool nat] from Q0.out.below hb2 Q0.out.lt)
            have B2 := Lib.hid (B0.out.trans (hb2.mono B0.out.size))
            have k0 : w2.cell? ⟨wo.heap.size, 0, none⟩ = some (.bool v6) := K2.out.cell 0
            have k1 : w2.cell? ⟨wo.heap.size, 1, none⟩ = some (.int .u64 hi) := K2.out.cell 1
            have k2 : w2.cell? ⟨wo.heap.size, 2, none⟩ = some (.int .u64 lo) := K2.out.cell 2
            have k3 : w2.cell? ⟨wo.heap.size, 3, none⟩ = some (.int .i64 6) := K2.out.cell 3
            have k4 : w2.cell? ⟨wo.heap.size, 4, none⟩ = some (.int .i64 po) := K2.out.cell 4
            have k5 : w2.cell? ⟨wo.heap.size, 5, none⟩ = some (.int .i64 co) := K2.out.cell 5
            have k6 : w2.cell? ⟨wo.heap.size, 6, none⟩ = some (.bool nat) := K2.out.cell 6
            clear hb2
            go_wp2_with fail
            go_ret
            exact HP.out 5 HX.out _ (KB.out.trans (B2.out.mono KB.out.size))
          · have HX := Lib.hid (HB5.out (by omega))
            have t2 : decide (po < 0) = false := decide_eq_false (by omega)
            have t3 : decide (65535 < po) = false := decide_eq_false (by omega)
            have t4 : decide (co < 1) = true := decide_eq_true (by omega)
            clear hc
            go_upto_region 5 with fail
            rw [← E1.out]
            go_wp2_with fail
            refine (HR.out _).mono ?_
            rintro o w2 ⟨rfl, hb2⟩
            have K2 := Lib.hid (show Blk w2 wo.heap.size 48 #[.bool v6, .int .u64 hi, .int .u64 lo, .int .i64 6, .int .i64 po, .int .i64 co, .bool nat] from Q0.out.below hb2 Q0.out.lt)
            have B2 := Lib.hid (B0.out.trans (hb2.mono B0.out.size))
            have k0 : w2.cell? ⟨wo.heap.size, 0, none⟩ = some (.bool v6) := K2.out.cell 0
            have k1 : w2.cell? ⟨wo.heap.size, 1, none⟩ = some (.int .u64 hi) := K2.out.cell 1
            have k2 : w2.cell? ⟨wo.heap.size, 2, none⟩ = some (.int .u64 lo) := K2.out.cell 2
            have k3 : w2.cell? ⟨wo.heap.size, 3, none⟩ = some (.int .i64 6) := K2.out.cell 3
            have k4 : w2.cell? ⟨wo.heap.size, 4, none⟩ = some (.int .i64 po) := K2.out.cell 4
            have k5 : w2.cell? ⟨wo.heap.size, 5, none⟩ = some (.int .i64 co) := K2.out.cell 5
            have k6 : w2.cell? ⟨wo.heap.size, 6, none⟩ = some (.bool nat) := K2.out.cell 6
            clear hb2
            go_wp2_with fail
            go_ret
            exact HP.out 5 HX.out _ (KB.out.trans (B2.out.mono KB.out.size))
          · have HX := Lib.hid (HB5.out (by omega))
            have t2 : decide (po < 0) = false := decide_eq_false (by omega)
            have t3 : decide (65535 < po) = false := decide_eq_false (by omega)
            have t4 : decide (co < 1) = false := decide_eq_false (by omega)
            have t5 : decide (8 < co) = true := decide_eq_true (by omega)
            clear hc
            go_upto_region 5 with fail
            rw [← E1.out]
            go_wp2_with fail
            refine (HR.out _).mono ?_
            rintro o w2 ⟨rfl, hb2⟩
            have K2 := Lib.hid (show Blk w2 wo.heap.size 48 #[.bool v6, .int .u64 hi, .int .u64 lo, .int .i64 6, .int .i64 po, .int .i64 co, .bool nat] from Q0.out.below hb2 Q0.out.lt)
            have B2 := Lib.hid (B0.out.trans (hb2.mono B0.out.size))
            have k0 : w2.cell? ⟨wo.heap.size, 0, none⟩ = some (.bool v6) := K2.out.cell 0
            have k1 : w2.cell? ⟨wo.heap.size, 1, none⟩ = some (.int .u64 hi) := K2.out.cell 1
            have k2 : w2.cell? ⟨wo.heap.size, 2, none⟩ = some (.int .u64 lo) := K2.out.cell 2
            have k3 : w2.cell? ⟨wo.heap.size, 3, none⟩ = some (.int .i64 6) := K2.out.cell 3
            have k4 : w2.cell? ⟨wo.heap.size, 4, none⟩ = some (.int .i64 po) := K2.out.cell 4
            have k5 : w2.cell? ⟨wo.heap.size, 5, none⟩ = some (.int .i64 co) := K2.out.cell 5
            have k6 : w2.cell? ⟨wo.heap.size, 6, none⟩ = some (.bool nat) := K2.out.cell 6
            clear hb2
            go_wp2_with fail
            go_ret
            exact HP.out 5 HX.out _ (KB.out.trans (B2.out.mono KB.out.size))
          · have HX := Lib.hid (HB5.out (by omega))
            have t2 : decide (po < 0) = false := decide_eq_false (by omega)
            have t3 : decide (65535 < po) = false := decide_eq_false (by omega)
            have t4 : decide (co < 1) = false := decide_eq_false (by omega)
            have t5 : decide (8 < co) = false := decide_eq_false (by omega)
            have t6 : decide (1 < co) = true := decide_eq_true (by omega)
            clear hc
            go_upto_region 5 with fail
            rw [← E1.out]
            go_wp2_with fail
            refine (HR.out _).mono ?_
            rintro o w2 ⟨rfl, hb2⟩
            have K2 := Lib.hid (show Blk w2 wo.heap.size 48 #[.bool v6, .int .u64 hi, .int .u64 lo, .int .i64 6, .int .i64 po, .int .i64 co, .bool nat] from Q0.out.below hb2 Q0.out.lt)
            have B2 := Lib.hid (B0.out.trans (hb2.mono B0.out.size))
            have k0 : w2.cell? ⟨wo.heap.size, 0, none⟩ = some (.bool v6) := K2.out.cell 0
            have k1 : w2.cell? ⟨wo.heap.size, 1, none⟩ = some (.int .u64 hi) := K2.out.cell 1
            have k2 : w2.cell? ⟨wo.heap.size, 2, none⟩ = some (.int .u64 lo) := K2.out.cell 2
            have k3 : w2.cell? ⟨wo.heap.size, 3, none⟩ = some (.int .i64 6) := K2.out.cell 3
            have k4 : w2.cell? ⟨wo.heap.size, 4, none⟩ = some (.int .i64 po) := K2.out.cell 4
            have k5 : w2.cell? ⟨wo.heap.size, 5, none⟩ = some (.int .i64 co) := K2.out.cell 5
            have k6 : w2.cell? ⟨wo.heap.size, 6, none⟩ = some (.bool nat) := K2.out.cell 6
            clear hb2
            go_wp2_with fail
            go_ret
            exact HP.out 5 HX.out _ (KB.out.trans (B2.out.mono KB.out.size))
          · have HE0 := Lib.hid (HZ0.out (by omega))
            have t2 : decide (po < 0) = false := decide_eq_false (by omega)
            have t3 : decide (65535 < po) = false := decide_eq_false (by omega)
            have t4 : decide (co < 1) = false := decide_eq_false (by omega)
            have t5 : decide (8 < co) = false := decide_eq_false (by omega)
            have t6 : decide (1 < co) = false := decide_eq_false (by omega)
            clear hc HZ0 HB5 HEZ HBAD
            go_upto_region 5 with fail
            rw [← E1.out]
            go_wp2_with fail
            refine (HR.out _).mono ?_
            rintro o w2 ⟨rfl, hb2⟩
            have K2 := Lib.hid (show Blk w2 wo.heap.size 48 #[.bool v6, .int .u64 hi, .int .u64 lo, .int .i64 6, .int .i64 po, .int .i64 co, .bool nat] from Q0.out.below hb2 Q0.out.lt)
            have B2 := Lib.hid (B0.out.trans (hb2.mono B0.out.size))
            have k0 : w2.cell? ⟨wo.heap.size, 0, none⟩ = some (.bool v6) := K2.out.cell 0
            have k1 : w2.cell? ⟨wo.heap.size, 1, none⟩ = some (.int .u64 hi) := K2.out.cell 1
            have k2 : w2.cell? ⟨wo.heap.size, 2, none⟩ = some (.int .u64 lo) := K2.out.cell 2
            have k3 : w2.cell? ⟨wo.heap.size, 3, none⟩ = some (.int .i64 6) := K2.out.cell 3
            have k4 : w2.cell? ⟨wo.heap.size, 4, none⟩ = some (.int .i64 po) := K2.out.cell 4
            have k5 : w2.cell? ⟨wo.heap.size, 5, none⟩ = some (.int .i64 co) := K2.out.cell 5
            have k6 : w2.cell? ⟨wo.heap.size, 6, none⟩ = some (.bool nat) := K2.out.cell 6
            clear hb2
            have W2 := Lib.hid (Below.refl w2.heap.size w2)
            go_wp2_with fail
            clear d0 d1 d2 d3 d4 d5 d6 y0 y1 y2 y3 y4 y5 y6 k0 k1 k2 k3 k4 k5 k6
            go_loopw [5] (fun i wr => ∃ j : Nat, i = .int .i64 j ∧ j ≤ k ∧ hv j = false ∧ Below w2.heap.size w2 wr) (fun i _ => k - (intOf i).toNat)
            case atStart => exact ⟨0, rfl, by omega, HH0.out, W2.out⟩
            case round =>
              obtain ⟨j, rfl, hj, hvj, hbel⟩ := hrel
              have JB := Lib.hid hbel
              have JH := Lib.hid hvj
              clear hbel hvj
              by_cases hjk : j < k
              · have t8 : decide ((j : Int) < k) = true := decide_eq_true (by omega)
                have t9 : decide (j < k) = true := decide_eq_true hjk
                obtain ⟨b9, o9, hA9, _, hC9⟩ := rows_at (rows_below HRD.out (KB.out.trans ((B2.out.trans (JB.out.mono B2.out.size)).mono KB.out.size))) j (by have := HN.out; omega)
                injection hA9 with hA9
                injection hA9 with e1 e2
                subst e1 e2
                have HNX := Lib.hid (show hv (j + 1) = (hv j || tw (l.getD j zVp)) from HHN2.out j)
                have HX8 := Lib.hid (show tw (l.getD j zVp) = true → Q = 8 from HTW2.out HE0.out j hjk)
                obtain ⟨x, hx⟩ : ∃ x, x = l.getD j zVp := ⟨_, rfl⟩
                rw [← hx] at HNX HX8
                have hCC := hC9
                simp only [← hx] at hCC
                have HTX := Lib.hid (HTWE.out x)
                obtain ⟨x6, xh, xl, xp, xo, xc, xn⟩ := x
                simp only at HTX
                have KV := Lib.hid (show Blk wr wo.heap.size 48 #[.bool v6, .int .u64 hi, .int .u64 lo, .int .i64 6, .int .i64 po, .int .i64 co, .bool nat] from K2.out.below JB.out K2.out.lt)
                have d0 : wr.cell? ⟨b, off + j * 7, none⟩ = some (.bool x6) := hCC 0 (by omega)
                have d1 : wr.cell? ⟨b, off + j * 7 + 1, none⟩ = some (.int .u64 xh) := hCC 1 (by omega)
                have d2 : wr.cell? ⟨b, off + j * 7 + 2, none⟩ = some (.int .u64 xl) := hCC 2 (by omega)
                have d3 : wr.cell? ⟨b, off + j * 7 + 3, none⟩ = some (.int .i64 xp) := hCC 3 (by omega)
                have d4 : wr.cell? ⟨b, off + j * 7 + 4, none⟩ = some (.int .i64 xo) := hCC 4 (by omega)
                have d5 : wr.cell? ⟨b, off + j * 7 + 5, none⟩ = some (.int .i64 xc) := hCC 5 (by omega)
                have d6 : wr.cell? ⟨b, off + j * 7 + 6, none⟩ = some (.bool xn) := hCC 6 (by omega)
                have q0 : wr.cell? ⟨wo.heap.size, 0, none⟩ = some (.bool v6) := KV.out.cell 0
                have q1 : wr.cell? ⟨wo.heap.size, 1, none⟩ = some (.int .u64 hi) := KV.out.cell 1
                have q2 : wr.cell? ⟨wo.heap.size, 2, none⟩ = some (.int .u64 lo) := KV.out.cell 2
                have q3 : wr.cell? ⟨wo.heap.size, 3, none⟩ = some (.int .i64 6) := KV.out.cell 3
                have q4 : wr.cell? ⟨wo.heap.size, 4, none⟩ = some (.int .i64 po) := KV.out.cell 4
                have q5 : wr.cell? ⟨wo.heap.size, 5, none⟩ = some (.int .i64 co) := KV.out.cell 5
                have q6 : wr.cell? ⟨wo.heap.size, 6, none⟩ = some (.bool nat) := KV.out.cell 6
                have i0 : (0 : Int) ≤ j := by omega
                have i1 : (j : Int) < n := by omega
                have HEQ := fun W => addr_eq x6 xh xl v6 hi lo W
                obtain ⟨b1, hb1⟩ : ∃ b1 : Bool, b1 = (x6 == v6 && xh == hi && xl == lo) := ⟨_, rfl⟩
                obtain ⟨b3, hb3⟩ : ∃ b3 : Bool, (xp == 6) = b3 := ⟨_, rfl⟩
                obtain ⟨b4, hb4⟩ : ∃ b4 : Bool, (xo == po) = b4 := ⟨_, rfl⟩
                have HTY := Lib.hid (show tw ⟨x6, xh, xl, xp, xo, xc, xn⟩ = (b1 && b3 && b4) from by rw [HTX.out, ← hb1, hb3, hb4])
                rw [HTY.out] at HNX HX8
                rw [← hb1] at HEQ
                clear hCC hC9 hx hb1 HTX HTY
                cases b1 <;> cases b3 <;> cases b4
                all_goals
                  go_wp2_with fail
                  go_quiet (fail)
                  go_wp2_with fail
                all_goals first
                  | (go_roundw
                     case rel => exact ⟨j + 1, by go_num, by omega, (by rw [HNX.out, JH.out]; rfl), below_drewN JB.out _⟩
                     case measure => simp [intOf]; omega)
                  | (go_ret
                     exact HP.out 8 (HX8.out (by first | rfl | trivial)) _ (KB.out.trans ((B2.out.trans ((below_drewN JB.out _).mono B2.out.size)).mono KB.out.size)))
              · have t8 : decide ((j : Int) < k) = false := decide_eq_false (by omega)
                have t9 : decide (j < k) = false := decide_eq_false hjk
                obtain rfl : k = j := by omega
                have HFN := Lib.hid (HOK.out HE0.out JH.out)
                go_wp2_with fail
                go_roundw
                case rel => exact ⟨k + 1, by go_num, by omega, HFN.out, KB.out.trans ((B2.out.trans (JB.out.mono B2.out.size)).mono KB.out.size)⟩
                case measure => simp [intOf]; omega
        · rcases hcase with hc | hc | hc | hc | hc | hc
          · have HX := Lib.hid (HB5.out (by omega))
            have t2 : decide (po < 0) = true := decide_eq_true (by omega)
            clear hc
            go_upto_region 5 with fail
            rw [← E1.out]
            go_wp2_with fail
            refine (HR.out _).mono ?_
            rintro o w2 ⟨rfl, hb2⟩
            have K2 := Lib.hid (show Blk w2 wo.heap.size 48 #[.bool v6, .int .u64 hi, .int .u64 lo, .int .i64 17, .int .i64 po, .int .i64 co, .bool nat] from Q0.out.below hb2 Q0.out.lt)
            have B2 := Lib.hid (B0.out.trans (hb2.mono B0.out.size))
            have k0 : w2.cell? ⟨wo.heap.size, 0, none⟩ = some (.bool v6) := K2.out.cell 0
            have k1 : w2.cell? ⟨wo.heap.size, 1, none⟩ = some (.int .u64 hi) := K2.out.cell 1
            have k2 : w2.cell? ⟨wo.heap.size, 2, none⟩ = some (.int .u64 lo) := K2.out.cell 2
            have k3 : w2.cell? ⟨wo.heap.size, 3, none⟩ = some (.int .i64 17) := K2.out.cell 3
            have k4 : w2.cell? ⟨wo.heap.size, 4, none⟩ = some (.int .i64 po) := K2.out.cell 4
            have k5 : w2.cell? ⟨wo.heap.size, 5, none⟩ = some (.int .i64 co) := K2.out.cell 5
            have k6 : w2.cell? ⟨wo.heap.size, 6, none⟩ = some (.bool nat) := K2.out.cell 6
            clear hb2
            go_wp2_with fail
            go_ret
            exact HP.out 5 HX.out _ (KB.out.trans (B2.out.mono KB.out.size))
          · have HX := Lib.hid (HB5.out (by omega))
            have t2 : decide (po < 0) = false := decide_eq_false (by omega)
            have t3 : decide (65535 < po) = true := decide_eq_true (by omega)
            clear hc
            go_upto_region 5 with fail
            rw [← E1.out]
            go_wp2_with fail
            refine (HR.out _).mono ?_
            rintro o w2 ⟨rfl, hb2⟩
            have K2 := Lib.hid (show Blk w2 wo.heap.size 48 #[.bool v6, .int .u64 hi, .int .u64 lo, .int .i64 17, .int .i64 po, .int .i64 co, .bool nat] from Q0.out.below hb2 Q0.out.lt)
            have B2 := Lib.hid (B0.out.trans (hb2.mono B0.out.size))
            have k0 : w2.cell? ⟨wo.heap.size, 0, none⟩ = some (.bool v6) := K2.out.cell 0
            have k1 : w2.cell? ⟨wo.heap.size, 1, none⟩ = some (.int .u64 hi) := K2.out.cell 1
            have k2 : w2.cell? ⟨wo.heap.size, 2, none⟩ = some (.int .u64 lo) := K2.out.cell 2
            have k3 : w2.cell? ⟨wo.heap.size, 3, none⟩ = some (.int .i64 17) := K2.out.cell 3
            have k4 : w2.cell? ⟨wo.heap.size, 4, none⟩ = some (.int .i64 po) := K2.out.cell 4
            have k5 : w2.cell? ⟨wo.heap.size, 5, none⟩ = some (.int .i64 co) := K2.out.cell 5
            have k6 : w2.cell? ⟨wo.heap.size, 6, none⟩ = some (.bool nat) := K2.out.cell 6
            clear hb2
            go_wp2_with fail
            go_ret
            exact HP.out 5 HX.out _ (KB.out.trans (B2.out.mono KB.out.size))
          · have HX := Lib.hid (HB5.out (by omega))
            have t2 : decide (po < 0) = false := decide_eq_false (by omega)
            have t3 : decide (65535 < po) = false := decide_eq_false (by omega)
            have t4 : decide (co < 1) = true := decide_eq_true (by omega)
            clear hc
            go_upto_region 5 with fail
            rw [← E1.out]
            go_wp2_with fail
            refine (HR.out _).mono ?_
            rintro o w2 ⟨rfl, hb2⟩
            have K2 := Lib.hid (show Blk w2 wo.heap.size 48 #[.bool v6, .int .u64 hi, .int .u64 lo, .int .i64 17, .int .i64 po, .int .i64 co, .bool nat] from Q0.out.below hb2 Q0.out.lt)
            have B2 := Lib.hid (B0.out.trans (hb2.mono B0.out.size))
            have k0 : w2.cell? ⟨wo.heap.size, 0, none⟩ = some (.bool v6) := K2.out.cell 0
            have k1 : w2.cell? ⟨wo.heap.size, 1, none⟩ = some (.int .u64 hi) := K2.out.cell 1
            have k2 : w2.cell? ⟨wo.heap.size, 2, none⟩ = some (.int .u64 lo) := K2.out.cell 2
            have k3 : w2.cell? ⟨wo.heap.size, 3, none⟩ = some (.int .i64 17) := K2.out.cell 3
            have k4 : w2.cell? ⟨wo.heap.size, 4, none⟩ = some (.int .i64 po) := K2.out.cell 4
            have k5 : w2.cell? ⟨wo.heap.size, 5, none⟩ = some (.int .i64 co) := K2.out.cell 5
            have k6 : w2.cell? ⟨wo.heap.size, 6, none⟩ = some (.bool nat) := K2.out.cell 6
            clear hb2
            go_wp2_with fail
            go_ret
            exact HP.out 5 HX.out _ (KB.out.trans (B2.out.mono KB.out.size))
          · have HX := Lib.hid (HB5.out (by omega))
            have t2 : decide (po < 0) = false := decide_eq_false (by omega)
            have t3 : decide (65535 < po) = false := decide_eq_false (by omega)
            have t4 : decide (co < 1) = false := decide_eq_false (by omega)
            have t5 : decide (8 < co) = true := decide_eq_true (by omega)
            clear hc
            go_upto_region 5 with fail
            rw [← E1.out]
            go_wp2_with fail
            refine (HR.out _).mono ?_
            rintro o w2 ⟨rfl, hb2⟩
            have K2 := Lib.hid (show Blk w2 wo.heap.size 48 #[.bool v6, .int .u64 hi, .int .u64 lo, .int .i64 17, .int .i64 po, .int .i64 co, .bool nat] from Q0.out.below hb2 Q0.out.lt)
            have B2 := Lib.hid (B0.out.trans (hb2.mono B0.out.size))
            have k0 : w2.cell? ⟨wo.heap.size, 0, none⟩ = some (.bool v6) := K2.out.cell 0
            have k1 : w2.cell? ⟨wo.heap.size, 1, none⟩ = some (.int .u64 hi) := K2.out.cell 1
            have k2 : w2.cell? ⟨wo.heap.size, 2, none⟩ = some (.int .u64 lo) := K2.out.cell 2
            have k3 : w2.cell? ⟨wo.heap.size, 3, none⟩ = some (.int .i64 17) := K2.out.cell 3
            have k4 : w2.cell? ⟨wo.heap.size, 4, none⟩ = some (.int .i64 po) := K2.out.cell 4
            have k5 : w2.cell? ⟨wo.heap.size, 5, none⟩ = some (.int .i64 co) := K2.out.cell 5
            have k6 : w2.cell? ⟨wo.heap.size, 6, none⟩ = some (.bool nat) := K2.out.cell 6
            clear hb2
            go_wp2_with fail
            go_ret
            exact HP.out 5 HX.out _ (KB.out.trans (B2.out.mono KB.out.size))
          · have HE0 := Lib.hid (HZ0.out (by omega))
            have t2 : decide (po < 0) = false := decide_eq_false (by omega)
            have t3 : decide (65535 < po) = false := decide_eq_false (by omega)
            have t4 : decide (co < 1) = false := decide_eq_false (by omega)
            have t5 : decide (8 < co) = false := decide_eq_false (by omega)
            have t6 : decide (1 < co) = true := decide_eq_true (by omega)
            clear hc HZ0 HB5 HEZ HBAD
            go_upto_region 5 with fail
            rw [← E1.out]
            go_wp2_with fail
            refine (HR.out _).mono ?_
            rintro o w2 ⟨rfl, hb2⟩
            have K2 := Lib.hid (show Blk w2 wo.heap.size 48 #[.bool v6, .int .u64 hi, .int .u64 lo, .int .i64 17, .int .i64 po, .int .i64 co, .bool nat] from Q0.out.below hb2 Q0.out.lt)
            have B2 := Lib.hid (B0.out.trans (hb2.mono B0.out.size))
            have k0 : w2.cell? ⟨wo.heap.size, 0, none⟩ = some (.bool v6) := K2.out.cell 0
            have k1 : w2.cell? ⟨wo.heap.size, 1, none⟩ = some (.int .u64 hi) := K2.out.cell 1
            have k2 : w2.cell? ⟨wo.heap.size, 2, none⟩ = some (.int .u64 lo) := K2.out.cell 2
            have k3 : w2.cell? ⟨wo.heap.size, 3, none⟩ = some (.int .i64 17) := K2.out.cell 3
            have k4 : w2.cell? ⟨wo.heap.size, 4, none⟩ = some (.int .i64 po) := K2.out.cell 4
            have k5 : w2.cell? ⟨wo.heap.size, 5, none⟩ = some (.int .i64 co) := K2.out.cell 5
            have k6 : w2.cell? ⟨wo.heap.size, 6, none⟩ = some (.bool nat) := K2.out.cell 6
            clear hb2
            have W2 := Lib.hid (Below.refl w2.heap.size w2)
            go_wp2_with fail
            clear d0 d1 d2 d3 d4 d5 d6 y0 y1 y2 y3 y4 y5 y6 k0 k1 k2 k3 k4 k5 k6
            go_loopw [5] (fun i wr => ∃ j : Nat, i = .int .i64 j ∧ j ≤ k ∧ hv j = false ∧ Below w2.heap.size w2 wr) (fun i _ => k - (intOf i).toNat)
            case atStart => exact ⟨0, rfl, by omega, HH0.out, W2.out⟩
            case round =>
              obtain ⟨j, rfl, hj, hvj, hbel⟩ := hrel
              have JB := Lib.hid hbel
              have JH := Lib.hid hvj
              clear hbel hvj
              by_cases hjk : j < k
              · have t8 : decide ((j : Int) < k) = true := decide_eq_true (by omega)
                have t9 : decide (j < k) = true := decide_eq_true hjk
                obtain ⟨b9, o9, hA9, _, hC9⟩ := rows_at (rows_below HRD.out (KB.out.trans ((B2.out.trans (JB.out.mono B2.out.size)).mono KB.out.size))) j (by have := HN.out; omega)
                injection hA9 with hA9
                injection hA9 with e1 e2
                subst e1 e2
                have HNX := Lib.hid (show hv (j + 1) = (hv j || tw (l.getD j zVp)) from HHN2.out j)
                have HX8 := Lib.hid (show tw (l.getD j zVp) = true → Q = 8 from HTW2.out HE0.out j hjk)
                obtain ⟨x, hx⟩ : ∃ x, x = l.getD j zVp := ⟨_, rfl⟩
                rw [← hx] at HNX HX8
                have hCC := hC9
                simp only [← hx] at hCC
                have HTX := Lib.hid (HTWE.out x)
                obtain ⟨x6, xh, xl, xp, xo, xc, xn⟩ := x
                simp only at HTX
                have KV := Lib.hid (show Blk wr wo.heap.size 48 #[.bool v6, .int .u64 hi, .int .u64 lo, .int .i64 17, .int .i64 po, .int .i64 co, .bool nat] from K2.out.below JB.out K2.out.lt)
                have d0 : wr.cell? ⟨b, off + j * 7, none⟩ = some (.bool x6) := hCC 0 (by omega)
                have d1 : wr.cell? ⟨b, off + j * 7 + 1, none⟩ = some (.int .u64 xh) := hCC 1 (by omega)
                have d2 : wr.cell? ⟨b, off + j * 7 + 2, none⟩ = some (.int .u64 xl) := hCC 2 (by omega)
                have d3 : wr.cell? ⟨b, off + j * 7 + 3, none⟩ = some (.int .i64 xp) := hCC 3 (by omega)
                have d4 : wr.cell? ⟨b, off + j * 7 + 4, none⟩ = some (.int .i64 xo) := hCC 4 (by omega)
                have d5 : wr.cell? ⟨b, off + j * 7 + 5, none⟩ = some (.int .i64 xc) := hCC 5 (by omega)
                have d6 : wr.cell? ⟨b, off + j * 7 + 6, none⟩ = some (.bool xn) := hCC 6 (by omega)
                have q0 : wr.cell? ⟨wo.heap.size, 0, none⟩ = some (.bool v6) := KV.out.cell 0
                have q1 : wr.cell? ⟨wo.heap.size, 1, none⟩ = some (.int .u64 hi) := KV.out.cell 1
                have q2 : wr.cell? ⟨wo.heap.size, 2, none⟩ = some (.int .u64 lo) := KV.out.cell 2
                have q3 : wr.cell? ⟨wo.heap.size, 3, none⟩ = some (.int .i64 17) := KV.out.cell 3
                have q4 : wr.cell? ⟨wo.heap.size, 4, none⟩ = some (.int .i64 po) := KV.out.cell 4
                have q5 : wr.cell? ⟨wo.heap.size, 5, none⟩ = some (.int .i64 co) := KV.out.cell 5
                have q6 : wr.cell? ⟨wo.heap.size, 6, none⟩ = some (.bool nat) := KV.out.cell 6
                have i0 : (0 : Int) ≤ j := by omega
                have i1 : (j : Int) < n := by omega
                have HEQ := fun W => addr_eq x6 xh xl v6 hi lo W
                obtain ⟨b1, hb1⟩ : ∃ b1 : Bool, b1 = (x6 == v6 && xh == hi && xl == lo) := ⟨_, rfl⟩
                obtain ⟨b3, hb3⟩ : ∃ b3 : Bool, (xp == 17) = b3 := ⟨_, rfl⟩
                obtain ⟨b4, hb4⟩ : ∃ b4 : Bool, (xo == po) = b4 := ⟨_, rfl⟩
                have HTY := Lib.hid (show tw ⟨x6, xh, xl, xp, xo, xc, xn⟩ = (b1 && b3 && b4) from by rw [HTX.out, ← hb1, hb3, hb4])
                rw [HTY.out] at HNX HX8
                rw [← hb1] at HEQ
                clear hCC hC9 hx hb1 HTX HTY
                cases b1 <;> cases b3 <;> cases b4
                all_goals
                  go_wp2_with fail
                  go_quiet (fail)
                  go_wp2_with fail
                all_goals first
                  | (go_roundw
                     case rel => exact ⟨j + 1, by go_num, by omega, (by rw [HNX.out, JH.out]; rfl), below_drewN JB.out _⟩
                     case measure => simp [intOf]; omega)
                  | (go_ret
                     exact HP.out 8 (HX8.out (by first | rfl | trivial)) _ (KB.out.trans ((B2.out.trans ((below_drewN JB.out _).mono B2.out.size)).mono KB.out.size)))
              · have t8 : decide ((j : Int) < k) = false := decide_eq_false (by omega)
                have t9 : decide (j < k) = false := decide_eq_false hjk
                obtain rfl : k = j := by omega
                have HFN := Lib.hid (HOK.out HE0.out JH.out)
                go_wp2_with fail
                go_roundw
                case rel => exact ⟨k + 1, by go_num, by omega, HFN.out, KB.out.trans ((B2.out.trans (JB.out.mono B2.out.size)).mono KB.out.size)⟩
                case measure => simp [intOf]; omega
          · have HE0 := Lib.hid (HZ0.out (by omega))
            have t2 : decide (po < 0) = false := decide_eq_false (by omega)
            have t3 : decide (65535 < po) = false := decide_eq_false (by omega)
            have t4 : decide (co < 1) = false := decide_eq_false (by omega)
            have t5 : decide (8 < co) = false := decide_eq_false (by omega)
            have t6 : decide (1 < co) = false := decide_eq_false (by omega)
            clear hc HZ0 HB5 HEZ HBAD
            go_upto_region 5 with fail
            rw [← E1.out]
            go_wp2_with fail
            refine (HR.out _).mono ?_
            rintro o w2 ⟨rfl, hb2⟩
            have K2 := Lib.hid (show Blk w2 wo.heap.size 48 #[.bool v6, .int .u64 hi, .int .u64 lo, .int .i64 17, .int .i64 po, .int .i64 co, .bool nat] from Q0.out.below hb2 Q0.out.lt)
            have B2 := Lib.hid (B0.out.trans (hb2.mono B0.out.size))
            have k0 : w2.cell? ⟨wo.heap.size, 0, none⟩ = some (.bool v6) := K2.out.cell 0
            have k1 : w2.cell? ⟨wo.heap.size, 1, none⟩ = some (.int .u64 hi) := K2.out.cell 1
            have k2 : w2.cell? ⟨wo.heap.size, 2, none⟩ = some (.int .u64 lo) := K2.out.cell 2
            have k3 : w2.cell? ⟨wo.heap.size, 3, none⟩ = some (.int .i64 17) := K2.out.cell 3
            have k4 : w2.cell? ⟨wo.heap.size, 4, none⟩ = some (.int .i64 po) := K2.out.cell 4
            have k5 : w2.cell? ⟨wo.heap.size, 5, none⟩ = some (.int .i64 co) := K2.out.cell 5
            have k6 : w2.cell? ⟨wo.heap.size, 6, none⟩ = some (.bool nat) := K2.out.cell 6
            clear hb2
            have W2 := Lib.hid (Below.refl w2.heap.size w2)
            go_wp2_with fail
            clear d0 d1 d2 d3 d4 d5 d6 y0 y1 y2 y3 y4 y5 y6 k0 k1 k2 k3 k4 k5 k6
            go_loopw [5] (fun i wr => ∃ j : Nat, i = .int .i64 j ∧ j ≤ k ∧ hv j = false ∧ Below w2.heap.size w2 wr) (fun i _ => k - (intOf i).toNat)
            case atStart => exact ⟨0, rfl, by omega, HH0.out, W2.out⟩
            case round =>
              obtain ⟨j, rfl, hj, hvj, hbel⟩ := hrel
              have JB := Lib.hid hbel
              have JH := Lib.hid hvj
              clear hbel hvj
              by_cases hjk : j < k
              · have t8 : decide ((j : Int) < k) = true := decide_eq_true (by omega)
                have t9 : decide (j < k) = true := decide_eq_true hjk
                obtain ⟨b9, o9, hA9, _, hC9⟩ := rows_at (rows_below HRD.out (KB.out.trans ((B2.out.trans (JB.out.mono B2.out.size)).mono KB.out.size))) j (by have := HN.out; omega)
                injection hA9 with hA9
                injection hA9 with e1 e2
                subst e1 e2
                have HNX := Lib.hid (show hv (j + 1) = (hv j || tw (l.getD j zVp)) from HHN2.out j)
                have HX8 := Lib.hid (show tw (l.getD j zVp) = true → Q = 8 from HTW2.out HE0.out j hjk)
                obtain ⟨x, hx⟩ : ∃ x, x = l.getD j zVp := ⟨_, rfl⟩
                rw [← hx] at HNX HX8
                have hCC := hC9
                simp only [← hx] at hCC
                have HTX := Lib.hid (HTWE.out x)
                obtain ⟨x6, xh, xl, xp, xo, xc, xn⟩ := x
                simp only at HTX
                have KV := Lib.hid (show Blk wr wo.heap.size 48 #[.bool v6, .int .u64 hi, .int .u64 lo, .int .i64 17, .int .i64 po, .int .i64 co, .bool nat] from K2.out.below JB.out K2.out.lt)
                have d0 : wr.cell? ⟨b, off + j * 7, none⟩ = some (.bool x6) := hCC 0 (by omega)
                have d1 : wr.cell? ⟨b, off + j * 7 + 1, none⟩ = some (.int .u64 xh) := hCC 1 (by omega)
                have d2 : wr.cell? ⟨b, off + j * 7 + 2, none⟩ = some (.int .u64 xl) := hCC 2 (by omega)
                have d3 : wr.cell? ⟨b, off + j * 7 + 3, none⟩ = some (.int .i64 xp) := hCC 3 (by omega)
                have d4 : wr.cell? ⟨b, off + j * 7 + 4, none⟩ = some (.int .i64 xo) := hCC 4 (by omega)
                have d5 : wr.cell? ⟨b, off + j * 7 + 5, none⟩ = some (.int .i64 xc) := hCC 5 (by omega)
                have d6 : wr.cell? ⟨b, off + j * 7 + 6, none⟩ = some (.bool xn) := hCC 6 (by omega)
                have q0 : wr.cell? ⟨wo.heap.size, 0, none⟩ = some (.bool v6) := KV.out.cell 0
                have q1 : wr.cell? ⟨wo.heap.size, 1, none⟩ = some (.int .u64 hi) := KV.out.cell 1
                have q2 : wr.cell? ⟨wo.heap.size, 2, none⟩ = some (.int .u64 lo) := KV.out.cell 2
                have q3 : wr.cell? ⟨wo.heap.size, 3, none⟩ = some (.int .i64 17) := KV.out.cell 3
                have q4 : wr.cell? ⟨wo.heap.size, 4, none⟩ = some (.int .i64 po) := KV.out.cell 4
                have q5 : wr.cell? ⟨wo.heap.size, 5, none⟩ = some (.int .i64 co) := KV.out.cell 5
                have q6 : wr.cell? ⟨wo.heap.size, 6, none⟩ = some (.bool nat) := KV.out.cell 6
                have i0 : (0 : Int) ≤ j := by omega
                have i1 : (j : Int) < n := by omega
                have HEQ := fun W => addr_eq x6 xh xl v6 hi lo W
                obtain ⟨b1, hb1⟩ : ∃ b1 : Bool, b1 = (x6 == v6 && xh == hi && xl == lo) := ⟨_, rfl⟩
                obtain ⟨b3, hb3⟩ : ∃ b3 : Bool, (xp == 17) = b3 := ⟨_, rfl⟩
                obtain ⟨b4, hb4⟩ : ∃ b4 : Bool, (xo == po) = b4 := ⟨_, rfl⟩
                have HTY := Lib.hid (show tw ⟨x6, xh, xl, xp, xo, xc, xn⟩ = (b1 && b3 && b4) from by rw [HTX.out, ← hb1, hb3, hb4])
                rw [HTY.out] at HNX HX8
                rw [← hb1] at HEQ
                clear hCC hC9 hx hb1 HTX HTY
                cases b1 <;> cases b3 <;> cases b4
                all_goals
                  go_wp2_with fail
                  go_quiet (fail)
                  go_wp2_with fail
                all_goals first
                  | (go_roundw
                     case rel => exact ⟨j + 1, by go_num, by omega, (by rw [HNX.out, JH.out]; rfl), below_drewN JB.out _⟩
                     case measure => simp [intOf]; omega)
                  | (go_ret
                     exact HP.out 8 (HX8.out (by first | rfl | trivial)) _ (KB.out.trans ((B2.out.trans ((below_drewN JB.out _).mono B2.out.size)).mono KB.out.size)))
              · have t8 : decide ((j : Int) < k) = false := decide_eq_false (by omega)
                have t9 : decide (j < k) = false := decide_eq_false hjk
                obtain rfl : k = j := by omega
                have HFN := Lib.hid (HOK.out HE0.out JH.out)
                go_wp2_with fail
                go_roundw
                case rel => exact ⟨k + 1, by go_num, by omega, HFN.out, KB.out.trans ((B2.out.trans (JB.out.mono B2.out.size)).mono KB.out.size)⟩
                case measure => simp [intOf]; omega
end Go.Proofs.Ytamndmlaikgogaa.vdK
