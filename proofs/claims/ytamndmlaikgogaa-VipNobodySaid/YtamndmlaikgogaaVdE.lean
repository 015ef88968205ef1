/- Layer 19: why an address may not be balanced, why a view may not be. -/
import Derived.Test.YtamndmlaikgogaaVdA
namespace Go.Proofs.Ytamndmlaikgogaa.vdE
open Go.ChangeShapes Go.WideShapes Go.ChangeAt Go.RowKit
open Go.Proofs.Ytamndmlaikgogaa.base Go.Proofs.Ytamndmlaikgogaa.dfA Go.Proofs.Ytamndmlaikgogaa.treB Go.Proofs.Ytamndmlaikgogaa.treF Go.Proofs.Ytamndmlaikgogaa.vdD Go.Proofs.Ytamndmlaikgogaa.vdA
set_option linter.unusedVariables false

def vipQ (l : List Vp) (e : Vp) (k : Nat) : Int := if vipZ e ≠ 0 then vipZ e else if hasV l e k = true then 8 else 0
def viewQ (lev : Int) (l : List Vw) (e : Vw) (k : Nat) : Int := if viewZ lev e ≠ 0 then viewZ lev e else if hasW l e k = true then 8 else 0
def RetI (v : Int) (w : World) (o : Ending) (w' : World) : Prop := o = .returned (.int .i64 v) ∧ Below w.heap.size w w'
set_option maxHeartbeats 8000000 in
set_option maxRecDepth 100000 in
theorem vip_any (e : Vp) (A : Option Addr) (c : Nat) (l : List Vp) (n : Nat) (w : World) (hr : RdV w A l) (hn : n ≤ l.length) (hc : n ≤ c) (hc2 : c ≤ 9223372036854775807) :
    Calls Try.prog 49 #[.agg e.cells, .slice A n c] w (RetI (vipQ l e n) w) := by
  obtain ⟨Q, hQ⟩ : ∃ Q, Q = vipQ l e n := ⟨_, rfl⟩
  have HP := Lib.hid (show ∀ v : Int, Q = v → ∀ W, Below w.heap.size w W → RetI Q w (.returned (.int .i64 v)) W from fun v h W hb => ⟨by rw [h], hb⟩)
  have HBAD := Lib.hid (show ∀ v : Int, vipZ e = v → v ≠ 0 → Q = v from fun v h h2 => by rw [hQ]; unfold vipQ; rw [if_pos (by rw [h]; exact h2), h])
  have HTW := Lib.hid (show ∀ v : Int, vipZ e = 0 → ∀ k, k < n → twV (l.getD k zVp) e = true → Q = 8 from fun v h k hk h2 => by rw [hQ]; unfold vipQ; rw [if_neg (by rw [h]; decide), if_pos (hasV_here hk h2)])
  have HOK := Lib.hid (show vipZ e = 0 → hasV l e n = false → Q = 0 from fun h h2 => by rw [hQ]; unfold vipQ; rw [if_neg (by rw [h]; decide), h2, if_neg (by decide)])
  rw [← hQ]
  have HZ := Lib.hid (show vipZ e = _ from rfl)
  unfold vipZ at HZ
  obtain ⟨ez, hez⟩ : ∃ ez, ez = vipZ e := ⟨_, rfl⟩
  rw [← hez] at HBAD HTW HOK
  have HEZ := Lib.hid (show ez = if rightB e.v6 e.hi e.lo = false then 18 else if e.pr ≠ 6 ∧ e.pr ≠ 17 then 14 else if e.po < 0 ∨ 65535 < e.po ∨ e.co < 1 ∨ 8 < e.co ∨ (1 < e.co ∧ e.pr ≠ 17) then 5 else 0 from hez)
  have HTE := Lib.hid (show ∀ x : Vp, twV x e = ((x.v6 == e.v6 && x.hi == e.hi && x.lo == e.lo) && x.pr == e.pr && x.po == e.po) from fun x => rfl)
  have HHN := Lib.hid (fun k => hasV_next (l := l) (e := e) (k := k))
  have HH0 := Lib.hid (show hasV l e 0 = false from rfl)
  obtain ⟨hv, hhv⟩ : ∃ hv : Nat → Bool, hv = hasV l e := ⟨_, rfl⟩
  rw [← hhv] at HOK HHN HH0
  obtain ⟨tw, htw⟩ : ∃ tw : Vp → Bool, tw = fun x => twV x e := ⟨_, rfl⟩
  have HTWE := Lib.hid (show ∀ x : Vp, tw x = ((x.v6 == e.v6 && x.hi == e.hi && x.lo == e.lo) && x.pr == e.pr && x.po == e.po) from fun x => by rw [htw]; rfl)
  have HTW2 := Lib.hid (show ez = 0 → ∀ k, k < n → tw (l.getD k zVp) = true → Q = 8 from fun h k hk h2 => HTW.out 0 h k hk (by rw [htw] at h2; exact h2))
  have HHN2 := Lib.hid (show ∀ k, hv (k + 1) = (hv k || tw (l.getD k zVp)) from fun k => by rw [HHN.out k, htw])
  clear HZ hez HTE hhv HTW HHN htw hQ
  obtain ⟨v6, hi, lo, pr, po, co, nat⟩ := e
  show Calls _ _ #[.agg #[.bool v6, .int .u64 hi, .int .u64 lo, .int .i64 pr, .int .i64 po, .int .i64 co, .bool nat], .slice A n c] _ _
  simp only at HEZ HTWE
  obtain ⟨w1, hw1⟩ : ∃ w1, w1 = w.alloc (.cells #[.bool v6, .int .u64 hi, .int .u64 lo, .int .i64 pr, .int .i64 po, .int .i64 co, .bool nat] 48) := ⟨_, rfl⟩
  have E1 := Lib.hid hw1
  have Q0 := Lib.hid (show Blk w1 w.heap.size 48 #[.bool v6, .int .u64 hi, .int .u64 lo, .int .i64 pr, .int .i64 po, .int .i64 co, .bool nat] from by rw [hw1]; exact Blk.new w _ _)
  have B0 := Lib.hid (show Below w.heap.size w w1 from hw1 ▸ (Below.refl w.heap.size w).alloc (Nat.le_refl _) _)
  have HRD := Lib.hid hr
  have HR := Lib.hid (fun W => right_any v6 hi lo W)
  have HN := Lib.hid hn
  have d0 : w1.cell? ⟨w.heap.size, 0, none⟩ = some (.bool v6) := Q0.out.cell 0
  have d1 : w1.cell? ⟨w.heap.size, 1, none⟩ = some (.int .u64 hi) := Q0.out.cell 1
  have d2 : w1.cell? ⟨w.heap.size, 2, none⟩ = some (.int .u64 lo) := Q0.out.cell 2
  have d3 : w1.cell? ⟨w.heap.size, 3, none⟩ = some (.int .i64 pr) := Q0.out.cell 3
  have d4 : w1.cell? ⟨w.heap.size, 4, none⟩ = some (.int .i64 po) := Q0.out.cell 4
  have d5 : w1.cell? ⟨w.heap.size, 5, none⟩ = some (.int .i64 co) := Q0.out.cell 5
  have d6 : w1.cell? ⟨w.heap.size, 6, none⟩ = some (.bool nat) := Q0.out.cell 6
  clear hw1 hr hn
  cases hrb : rightB v6 hi lo with
  | false =>
    rw [hrb] at HR
    have HX := Lib.hid (HBAD.out 18 (by rw [HEZ.out, if_pos hrb]) (by decide))
    clear hrb
    go_enter Try.func49, Try.ntmps49
    go_upto_region 1 with fail
    rw [← E1.out]
    go_wp2_with fail
    refine (HR.out _).mono ?_
    rintro o w2 ⟨rfl, hb2⟩
    have K2 := Lib.hid (show Blk w2 w.heap.size 48 #[.bool v6, .int .u64 hi, .int .u64 lo, .int .i64 pr, .int .i64 po, .int .i64 co, .bool nat] from (hb2.block _ Q0.out.lt).trans Q0.out)
    have B2 := Lib.hid (B0.out.trans (hb2.mono B0.out.size))
    have k0 : w2.cell? ⟨w.heap.size, 0, none⟩ = some (.bool v6) := K2.out.cell 0
    have k1 : w2.cell? ⟨w.heap.size, 1, none⟩ = some (.int .u64 hi) := K2.out.cell 1
    have k2 : w2.cell? ⟨w.heap.size, 2, none⟩ = some (.int .u64 lo) := K2.out.cell 2
    have k3 : w2.cell? ⟨w.heap.size, 3, none⟩ = some (.int .i64 pr) := K2.out.cell 3
    have k4 : w2.cell? ⟨w.heap.size, 4, none⟩ = some (.int .i64 po) := K2.out.cell 4
    have k5 : w2.cell? ⟨w.heap.size, 5, none⟩ = some (.int .i64 co) := K2.out.cell 5
    have k6 : w2.cell? ⟨w.heap.size, 6, none⟩ = some (.bool nat) := K2.out.cell 6
    clear hb2
    go_wp2_with fail
    go_ret
    exact HP.out 18 HX.out _ B2.out
  | true =>
    rw [hrb] at HR
    have HEZ := Lib.hid (show ez = if pr ≠ 6 ∧ pr ≠ 17 then 14 else if po < 0 ∨ 65535 < po ∨ co < 1 ∨ 8 < co ∨ (1 < co ∧ pr ≠ 17) then 5 else 0 from by rw [HEZ.out, hrb, if_neg (by decide)])
    clear hrb
    by_cases hp : pr ≠ 6 ∧ pr ≠ 17
    · have HX := Lib.hid (HBAD.out 14 (by rw [HEZ.out, if_pos hp]) (by decide))
      have t1 : (pr != 6) = true := bne_iff_ne.mpr hp.1
      have t2 : (pr != 17) = true := bne_iff_ne.mpr hp.2
      clear hp
      go_enter Try.func49, Try.ntmps49
      go_upto_region 1 with fail
      rw [← E1.out]
      go_wp2_with fail
      refine (HR.out _).mono ?_
      rintro o w2 ⟨rfl, hb2⟩
      have K2 := Lib.hid (show Blk w2 w.heap.size 48 #[.bool v6, .int .u64 hi, .int .u64 lo, .int .i64 pr, .int .i64 po, .int .i64 co, .bool nat] from (hb2.block _ Q0.out.lt).trans Q0.out)
      have B2 := Lib.hid (B0.out.trans (hb2.mono B0.out.size))
      have k0 : w2.cell? ⟨w.heap.size, 0, none⟩ = some (.bool v6) := K2.out.cell 0
      have k1 : w2.cell? ⟨w.heap.size, 1, none⟩ = some (.int .u64 hi) := K2.out.cell 1
      have k2 : w2.cell? ⟨w.heap.size, 2, none⟩ = some (.int .u64 lo) := K2.out.cell 2
      have k3 : w2.cell? ⟨w.heap.size, 3, none⟩ = some (.int .i64 pr) := K2.out.cell 3
      have k4 : w2.cell? ⟨w.heap.size, 4, none⟩ = some (.int .i64 po) := K2.out.cell 4
      have k5 : w2.cell? ⟨w.heap.size, 5, none⟩ = some (.int .i64 co) := K2.out.cell 5
      have k6 : w2.cell? ⟨w.heap.size, 6, none⟩ = some (.bool nat) := K2.out.cell 6
      clear hb2
      go_wp2_with fail
      go_ret
      exact HP.out 14 HX.out _ B2.out
    have HEZ := Lib.hid (show ez = if po < 0 ∨ 65535 < po ∨ co < 1 ∨ 8 < co ∨ (1 < co ∧ pr ≠ 17) then 5 else 0 from by rw [HEZ.out, if_neg hp])
    have hpp : pr = 6 ∨ pr = 17 := by omega
    clear hp
    have HB5 := Lib.hid (show (po < 0 ∨ 65535 < po ∨ co < 1 ∨ 8 < co ∨ (1 < co ∧ pr ≠ 17)) → Q = 5 from fun h => HBAD.out 5 (by rw [HEZ.out, if_pos h]) (by decide))
    have HZ0 := Lib.hid (show ¬ (po < 0 ∨ 65535 < po ∨ co < 1 ∨ 8 < co ∨ (1 < co ∧ pr ≠ 17)) → ez = 0 from fun h => by rw [HEZ.out, if_neg h])
    obtain ⟨p6, h6⟩ : ∃ p6 : Bool, (pr != 6) = p6 := ⟨_, rfl⟩
    obtain ⟨p7, h7⟩ : ∃ p7 : Bool, (pr != 17) = p7 := ⟨_, rfl⟩
    have h67 : (p6 = false ∧ p7 = true) ∨ (p6 = true ∧ p7 = false) := by
      rcases hpp with rfl | rfl
      · exact .inl ⟨h6.symm, h7.symm⟩
      · exact .inr ⟨h6.symm, h7.symm⟩
    have H7 := Lib.hid (show pr ≠ 17 ↔ p7 = true from by rw [← h7]; exact bne_iff_ne.symm)
    clear hpp
    by_cases c1 : po < 0
    · have HX := Lib.hid (HB5.out (by omega))
      have t1 : decide (po < 0) = true := decide_eq_true c1
      clear c1
      rcases h67 with ⟨rfl, rfl⟩ | ⟨rfl, rfl⟩
      · go_enter Try.func49, Try.ntmps49
        go_upto_region 1 with fail
        rw [← E1.out]
        go_wp2_with fail
        refine (HR.out _).mono ?_
        rintro o w2 ⟨rfl, hb2⟩
        have K2 := Lib.hid (show Blk w2 w.heap.size 48 #[.bool v6, .int .u64 hi, .int .u64 lo, .int .i64 pr, .int .i64 po, .int .i64 co, .bool nat] from (hb2.block _ Q0.out.lt).trans Q0.out)
        have B2 := Lib.hid (B0.out.trans (hb2.mono B0.out.size))
        have k0 : w2.cell? ⟨w.heap.size, 0, none⟩ = some (.bool v6) := K2.out.cell 0
        have k1 : w2.cell? ⟨w.heap.size, 1, none⟩ = some (.int .u64 hi) := K2.out.cell 1
        have k2 : w2.cell? ⟨w.heap.size, 2, none⟩ = some (.int .u64 lo) := K2.out.cell 2
        have k3 : w2.cell? ⟨w.heap.size, 3, none⟩ = some (.int .i64 pr) := K2.out.cell 3
        have k4 : w2.cell? ⟨w.heap.size, 4, none⟩ = some (.int .i64 po) := K2.out.cell 4
        have k5 : w2.cell? ⟨w.heap.size, 5, none⟩ = some (.int .i64 co) := K2.out.cell 5
        have k6 : w2.cell? ⟨w.heap.size, 6, none⟩ = some (.bool nat) := K2.out.cell 6
        clear hb2
        go_wp2_with fail
        go_ret
        exact HP.out 5 HX.out _ B2.out
      · go_enter Try.func49, Try.ntmps49
        go_upto_region 1 with fail
        rw [← E1.out]
        go_wp2_with fail
        refine (HR.out _).mono ?_
        rintro o w2 ⟨rfl, hb2⟩
        have K2 := Lib.hid (show Blk w2 w.heap.size 48 #[.bool v6, .int .u64 hi, .int .u64 lo, .int .i64 pr, .int .i64 po, .int .i64 co, .bool nat] from (hb2.block _ Q0.out.lt).trans Q0.out)
        have B2 := Lib.hid (B0.out.trans (hb2.mono B0.out.size))
        have k0 : w2.cell? ⟨w.heap.size, 0, none⟩ = some (.bool v6) := K2.out.cell 0
        have k1 : w2.cell? ⟨w.heap.size, 1, none⟩ = some (.int .u64 hi) := K2.out.cell 1
        have k2 : w2.cell? ⟨w.heap.size, 2, none⟩ = some (.int .u64 lo) := K2.out.cell 2
        have k3 : w2.cell? ⟨w.heap.size, 3, none⟩ = some (.int .i64 pr) := K2.out.cell 3
        have k4 : w2.cell? ⟨w.heap.size, 4, none⟩ = some (.int .i64 po) := K2.out.cell 4
        have k5 : w2.cell? ⟨w.heap.size, 5, none⟩ = some (.int .i64 co) := K2.out.cell 5
        have k6 : w2.cell? ⟨w.heap.size, 6, none⟩ = some (.bool nat) := K2.out.cell 6
        clear hb2
        go_wp2_with fail
        go_ret
        exact HP.out 5 HX.out _ B2.out
    have t1 : decide (po < 0) = false := decide_eq_false c1
    by_cases c2 : 65535 < po
    · have HX := Lib.hid (HB5.out (by omega))
      have t2 : decide (65535 < po) = true := decide_eq_true c2
      clear c1 c2
      rcases h67 with ⟨rfl, rfl⟩ | ⟨rfl, rfl⟩
      · go_enter Try.func49, Try.ntmps49
        go_upto_region 1 with fail
        rw [← E1.out]
        go_wp2_with fail
        refine (HR.out _).mono ?_
        rintro o w2 ⟨rfl, hb2⟩
        have K2 := Lib.hid (show Blk w2 w.heap.size 48 #[.bool v6, .int .u64 hi, .int .u64 lo, .int .i64 pr, .int .i64 po, .int .i64 co, .bool nat] from (hb2.block _ Q0.out.lt).trans Q0.out)
        have B2 := Lib.hid (B0.out.trans (hb2.mono B0.out.size))
        have k0 : w2.cell? ⟨w.heap.size, 0, none⟩ = some (.bool v6) := K2.out.cell 0
        have k1 : w2.cell? ⟨w.heap.size, 1, none⟩ = some (.int .u64 hi) := K2.out.cell 1
        have k2 : w2.cell? ⟨w.heap.size, 2, none⟩ = some (.int .u64 lo) := K2.out.cell 2
        have k3 : w2.cell? ⟨w.heap.size, 3, none⟩ = some (.int .i64 pr) := K2.out.cell 3
        have k4 : w2.cell? ⟨w.heap.size, 4, none⟩ = some (.int .i64 po) := K2.out.cell 4
        have k5 : w2.cell? ⟨w.heap.size, 5, none⟩ = some (.int .i64 co) := K2.out.cell 5
        have k6 : w2.cell? ⟨w.heap.size, 6, none⟩ = some (.bool nat) := K2.out.cell 6
        clear hb2
        go_wp2_with fail
        go_ret
        exact HP.out 5 HX.out _ B2.out
      · go_enter Try.func49, Try.ntmps49
        go_upto_region 1 with fail
        rw [← E1.out]
        go_wp2_with fail
        refine (HR.out _).mono ?_
        rintro o w2 ⟨rfl, hb2⟩
        have K2 := Lib.hid (show Blk w2 w.heap.size 48 #[.bool v6, .int .u64 hi, .int .u64 lo, .int .i64 pr, .int .i64 po, .int .i64 co, .bool nat] from (hb2.block _ Q0.out.lt).trans Q0.out)
        have B2 := Lib.hid (B0.out.trans (hb2.mono B0.out.size))
        have k0 : w2.cell? ⟨w.heap.size, 0, none⟩ = some (.bool v6) := K2.out.cell 0
        have k1 : w2.cell? ⟨w.heap.size, 1, none⟩ = some (.int .u64 hi) := K2.out.cell 1
        have k2 : w2.cell? ⟨w.heap.size, 2, none⟩ = some (.int .u64 lo) := K2.out.cell 2
        have k3 : w2.cell? ⟨w.heap.size, 3, none⟩ = some (.int .i64 pr) := K2.out.cell 3
        have k4 : w2.cell? ⟨w.heap.size, 4, none⟩ = some (.int .i64 po) := K2.out.cell 4
        have k5 : w2.cell? ⟨w.heap.size, 5, none⟩ = some (.int .i64 co) := K2.out.cell 5
        have k6 : w2.cell? ⟨w.heap.size, 6, none⟩ = some (.bool nat) := K2.out.cell 6
        clear hb2
        go_wp2_with fail
        go_ret
        exact HP.out 5 HX.out _ B2.out
    have t2 : decide (65535 < po) = false := decide_eq_false c2
    by_cases c3 : co < 1
    · have HX := Lib.hid (HB5.out (by omega))
      have t3 : decide (co < 1) = true := decide_eq_true c3
      clear c1 c2 c3
      rcases h67 with ⟨rfl, rfl⟩ | ⟨rfl, rfl⟩
      · go_enter Try.func49, Try.ntmps49
        go_upto_region 1 with fail
        rw [← E1.out]
        go_wp2_with fail
        refine (HR.out _).mono ?_
        rintro o w2 ⟨rfl, hb2⟩
        have K2 := Lib.hid (show Blk w2 w.heap.size 48 #[.bool v6, .int .u64 hi, .int .u64 lo, .int .i64 pr, .int .i64 po, .int .i64 co, .bool nat] from (hb2.block _ Q0.out.lt).trans Q0.out)
        have B2 := Lib.hid (B0.out.trans (hb2.mono B0.out.size))
        have k0 : w2.cell? ⟨w.heap.size, 0, none⟩ = some (.bool v6) := K2.out.cell 0
        have k1 : w2.cell? ⟨w.heap.size, 1, none⟩ = some (.int .u64 hi) := K2.out.cell 1
        have k2 : w2.cell? ⟨w.heap.size, 2, none⟩ = some (.int .u64 lo) := K2.out.cell 2
        have k3 : w2.cell? ⟨w.heap.size, 3, none⟩ = some (.int .i64 pr) := K2.out.cell 3
        have k4 : w2.cell? ⟨w.heap.size, 4, none⟩ = some (.int .i64 po) := K2.out.cell 4
        have k5 : w2.cell? ⟨w.heap.size, 5, none⟩ = some (.int .i64 co) := K2.out.cell 5
        have k6 : w2.cell? ⟨w.heap.size, 6, none⟩ = some (.bool nat) := K2.out.cell 6
        clear hb2
        go_wp2_with fail
        go_ret
        exact HP.out 5 HX.out _ B2.out
      · go_enter Try.func49, Try.ntmps49
        go_upto_region 1 with fail
        rw [← E1.out]
        go_wp2_with fail
        refine (HR.out _).mono ?_
        rintro o w2 ⟨rfl, hb2⟩
        have K2 := Lib.hid (show Blk w2 w.heap.size 48 #[.bool v6, .int .u64 hi, .int .u64 lo, .int .i64 pr, .int .i64 po, .int .i64 co, .bool nat] from (hb2.block _ Q0.out.lt).trans Q0.out)
        have B2 := Lib.hid (B0.out.trans (hb2.mono B0.out.size))
        have k0 : w2.cell? ⟨w.heap.size, 0, none⟩ = some (.bool v6) := K2.out.cell 0
        have k1 : w2.cell? ⟨w.heap.size, 1, none⟩ = some (.int .u64 hi) := K2.out.cell 1
        have k2 : w2.cell? ⟨w.heap.size, 2, none⟩ = some (.int .u64 lo) := K2.out.cell 2
        have k3 : w2.cell? ⟨w.heap.size, 3, none⟩ = some (.int .i64 pr) := K2.out.cell 3
        have k4 : w2.cell? ⟨w.heap.size, 4, none⟩ = some (.int .i64 po) := K2.out.cell 4
        have k5 : w2.cell? ⟨w.heap.size, 5, none⟩ = some (.int .i64 co) := K2.out.cell 5
        have k6 : w2.cell? ⟨w.heap.size, 6, none⟩ = some (.bool nat) := K2.out.cell 6
        clear hb2
        go_wp2_with fail
        go_ret
        exact HP.out 5 HX.out _ B2.out
    have t3 : decide (co < 1) = false := decide_eq_false c3
    by_cases c4 : 8 < co
    · have HX := Lib.hid (HB5.out (by omega))
      have t4 : decide (8 < co) = true := decide_eq_true c4
      clear c1 c2 c3 c4
      rcases h67 with ⟨rfl, rfl⟩ | ⟨rfl, rfl⟩
      · go_enter Try.func49, Try.ntmps49
        go_upto_region 1 with fail
        rw [← E1.out]
        go_wp2_with fail
        refine (HR.out _).mono ?_
        rintro o w2 ⟨rfl, hb2⟩
        have K2 := Lib.hid (show Blk w2 w.heap.size 48 #[.bool v6, .int .u64 hi, .int .u64 lo, .int .i64 pr, .int .i64 po, .int .i64 co, .bool nat] from (hb2.block _ Q0.out.lt).trans Q0.out)
        have B2 := Lib.hid (B0.out.trans (hb2.mono B0.out.size))
        have k0 : w2.cell? ⟨w.heap.size, 0, none⟩ = some (.bool v6) := K2.out.cell 0
        have k1 : w2.cell? ⟨w.heap.size, 1, none⟩ = some (.int .u64 hi) := K2.out.cell 1
        have k2 : w2.cell? ⟨w.heap.size, 2, none⟩ = some (.int .u64 lo) := K2.out.cell 2
        have k3 : w2.cell? ⟨w.heap.size, 3, none⟩ = some (.int .i64 pr) := K2.out.cell 3
        have k4 : w2.cell? ⟨w.heap.size, 4, none⟩ = some (.int .i64 po) := K2.out.cell 4
        have k5 : w2.cell? ⟨w.heap.size, 5, none⟩ = some (.int .i64 co) := K2.out.cell 5
        have k6 : w2.cell? ⟨w.heap.size, 6, none⟩ = some (.bool nat) := K2.out.cell 6
        clear hb2
        go_wp2_with fail
        go_ret
        exact HP.out 5 HX.out _ B2.out
      · go_enter Try.func49, Try.ntmps49
        go_upto_region 1 with fail
        rw [← E1.out]
        go_wp2_with fail
        refine (HR.out _).mono ?_
        rintro o w2 ⟨rfl, hb2⟩
        have K2 := Lib.hid (show Blk w2 w.heap.size 48 #[.bool v6, .int .u64 hi, .int .u64 lo, .int .i64 pr, .int .i64 po, .int .i64 co, .bool nat] from (hb2.block _ Q0.out.lt).trans Q0.out)
        have B2 := Lib.hid (B0.out.trans (hb2.mono B0.out.size))
        have k0 : w2.cell? ⟨w.heap.size, 0, none⟩ = some (.bool v6) := K2.out.cell 0
        have k1 : w2.cell? ⟨w.heap.size, 1, none⟩ = some (.int .u64 hi) := K2.out.cell 1
        have k2 : w2.cell? ⟨w.heap.size, 2, none⟩ = some (.int .u64 lo) := K2.out.cell 2
        have k3 : w2.cell? ⟨w.heap.size, 3, none⟩ = some (.int .i64 pr) := K2.out.cell 3
        have k4 : w2.cell? ⟨w.heap.size, 4, none⟩ = some (.int .i64 po) := K2.out.cell 4
        have k5 : w2.cell? ⟨w.heap.size, 5, none⟩ = some (.int .i64 co) := K2.out.cell 5
        have k6 : w2.cell? ⟨w.heap.size, 6, none⟩ = some (.bool nat) := K2.out.cell 6
        clear hb2
        go_wp2_with fail
        go_ret
        exact HP.out 5 HX.out _ B2.out
    have t4 : decide (8 < co) = false := decide_eq_false c4
    by_cases c5 : 1 < co ∧ p7 = true
    · have HX := Lib.hid (HB5.out (.inr (.inr (.inr (.inr ⟨c5.1, H7.out.mpr c5.2⟩)))))
      have t5 : decide (1 < co) = true := decide_eq_true c5.1
      obtain rfl := c5.2
      have e6 : p6 = false := by rcases h67 with h | h; exact h.1; cases h.2
      subst e6
      clear c1 c2 c3 c4 c5 h67
      go_enter Try.func49, Try.ntmps49
      go_upto_region 1 with fail
      rw [← E1.out]
      go_wp2_with fail
      refine (HR.out _).mono ?_
      rintro o w2 ⟨rfl, hb2⟩
      have K2 := Lib.hid (show Blk w2 w.heap.size 48 #[.bool v6, .int .u64 hi, .int .u64 lo, .int .i64 pr, .int .i64 po, .int .i64 co, .bool nat] from (hb2.block _ Q0.out.lt).trans Q0.out)
      have B2 := Lib.hid (B0.out.trans (hb2.mono B0.out.size))
      have k0 : w2.cell? ⟨w.heap.size, 0, none⟩ = some (.bool v6) := K2.out.cell 0
      have k1 : w2.cell? ⟨w.heap.size, 1, none⟩ = some (.int .u64 hi) := K2.out.cell 1
      have k2 : w2.cell? ⟨w.heap.size, 2, none⟩ = some (.int .u64 lo) := K2.out.cell 2
      have k3 : w2.cell? ⟨w.heap.size, 3, none⟩ = some (.int .i64 pr) := K2.out.cell 3
      have k4 : w2.cell? ⟨w.heap.size, 4, none⟩ = some (.int .i64 po) := K2.out.cell 4
      have k5 : w2.cell? ⟨w.heap.size, 5, none⟩ = some (.int .i64 co) := K2.out.cell 5
      have k6 : w2.cell? ⟨w.heap.size, 6, none⟩ = some (.bool nat) := K2.out.cell 6
      clear hb2
      go_wp2_with fail
      go_ret
      exact HP.out 5 HX.out _ B2.out
    have HE0 := Lib.hid (HZ0.out (fun h => by
      rcases h with h | h | h | h | h
      · omega
      · omega
      · omega
      · omega
      · exact c5 ⟨h.1, H7.out.mp h.2⟩))
    have c6 : (decide (1 < co) = true ∧ p7 = false ∧ p6 = true) ∨ (decide (1 < co) = false ∧ ((p6 = false ∧ p7 = true) ∨ (p6 = true ∧ p7 = false))) := by
      by_cases c7 : 1 < co
      · left
        rcases h67 with h | h
        · exact absurd ⟨c7, h.2⟩ c5
        · exact ⟨decide_eq_true c7, h.2, h.1⟩
      · exact .inr ⟨decide_eq_false c7, h67⟩
    clear c1 c2 c3 c4 c5 h67 HBAD HEZ HB5 HZ0 H7
    rcases c6 with ⟨t5, rfl, rfl⟩ | ⟨t5, ⟨rfl, rfl⟩ | ⟨rfl, rfl⟩⟩
    all_goals
      go_enter Try.func49, Try.ntmps49
      go_upto_region 1 with fail
      rw [← E1.out]
      go_wp2_with fail
      refine (HR.out _).mono ?_
      rintro o w2 ⟨rfl, hb2⟩
      have K2 := Lib.hid (show Blk w2 w.heap.size 48 #[.bool v6, .int .u64 hi, .int .u64 lo, .int .i64 pr, .int .i64 po, .int .i64 co, .bool nat] from (hb2.block _ Q0.out.lt).trans Q0.out)
      have B2 := Lib.hid (B0.out.trans (hb2.mono B0.out.size))
      have k0 : w2.cell? ⟨w.heap.size, 0, none⟩ = some (.bool v6) := K2.out.cell 0
      have k1 : w2.cell? ⟨w.heap.size, 1, none⟩ = some (.int .u64 hi) := K2.out.cell 1
      have k2 : w2.cell? ⟨w.heap.size, 2, none⟩ = some (.int .u64 lo) := K2.out.cell 2
      have k3 : w2.cell? ⟨w.heap.size, 3, none⟩ = some (.int .i64 pr) := K2.out.cell 3
      have k4 : w2.cell? ⟨w.heap.size, 4, none⟩ = some (.int .i64 po) := K2.out.cell 4
      have k5 : w2.cell? ⟨w.heap.size, 5, none⟩ = some (.int .i64 co) := K2.out.cell 5
      have k6 : w2.cell? ⟨w.heap.size, 6, none⟩ = some (.bool nat) := K2.out.cell 6
      clear hb2
      clear d0 d1 d2 d3 d4 d5 d6
      have W2 := Lib.hid (Below.refl w2.heap.size w2)
      go_wp2_with fail
      clear k0 k1 k2 k3 k4 k5 k6
      go_loopw [51] (fun i wr => ∃ k : Nat, i = .int .i64 k ∧ k ≤ n ∧ hv k = false ∧ Below w2.heap.size w2 wr) (fun i _ => n - (intOf i).toNat)
      case atStart => exact ⟨0, rfl, by omega, HH0.out, W2.out⟩
      case round =>
        obtain ⟨k, rfl, hk, hvk, hbel⟩ := hrel
        have KB := Lib.hid hbel
        have KH := Lib.hid hvk
        clear hbel hvk
        by_cases hkn : k < n
        · have t1 : decide ((k : Int) < n) = true := decide_eq_true (by omega)
          obtain ⟨b, off, hA, hbl, hC⟩ := rows_at (rows_below (rows_below HRD.out B2.out) KB.out) k (Nat.lt_of_lt_of_le hkn HN.out)
          subst hA
          have HNX := Lib.hid (show hv (k + 1) = (hv k || tw (l.getD k zVp)) from HHN2.out k)
          have HX8 := Lib.hid (show tw (l.getD k zVp) = true → Q = 8 from HTW2.out HE0.out k hkn)
          obtain ⟨x, hx⟩ : ∃ x, x = l.getD k zVp := ⟨_, rfl⟩
          rw [← hx] at HNX HX8
          have hCC := hC
          simp only [← hx] at hCC
          have HTX := Lib.hid (HTWE.out x)
          obtain ⟨x6, xh, xl, xp, xo, xc, xn⟩ := x
          simp only at HTX
          clear hC hx
          have d0 : wr.cell? ⟨b, off + k * 7, none⟩ = some (.bool x6) := hCC 0 (by omega)
          have d1 : wr.cell? ⟨b, off + k * 7 + 1, none⟩ = some (.int .u64 xh) := hCC 1 (by omega)
          have d2 : wr.cell? ⟨b, off + k * 7 + 2, none⟩ = some (.int .u64 xl) := hCC 2 (by omega)
          have d3 : wr.cell? ⟨b, off + k * 7 + 3, none⟩ = some (.int .i64 xp) := hCC 3 (by omega)
          have d4 : wr.cell? ⟨b, off + k * 7 + 4, none⟩ = some (.int .i64 xo) := hCC 4 (by omega)
          have d5 : wr.cell? ⟨b, off + k * 7 + 5, none⟩ = some (.int .i64 xc) := hCC 5 (by omega)
          have d6 : wr.cell? ⟨b, off + k * 7 + 6, none⟩ = some (.bool xn) := hCC 6 (by omega)
          have j0 : (0 : Int) ≤ k := by omega
          have j1 : (k : Int) < n := by omega
          have KV := Lib.hid (show Blk wr w.heap.size 48 #[.bool v6, .int .u64 hi, .int .u64 lo, .int .i64 pr, .int .i64 po, .int .i64 co, .bool nat] from (KB.out.block _ K2.out.lt).trans K2.out)
          have KBA := Lib.hid (show Below w2.heap.size w2 (wr.alloc (.cells #[.bool x6, .int .u64 xh, .int .u64 xl, .int .i64 xp, .int .i64 xo, .int .i64 xc, .bool xn] 48)) from KB.out.alloc KB.out.size _)
          have KX := Lib.hid (Blk.new wr 48 #[.bool x6, .int .u64 xh, .int .u64 xl, .int .i64 xp, .int .i64 xo, .int .i64 xc, .bool xn])
          have KVA := Lib.hid (KV.out.alloc (.cells #[.bool x6, .int .u64 xh, .int .u64 xl, .int .i64 xp, .int .i64 xo, .int .i64 xc, .bool xn] 48))
          have q0 : (wr.alloc (.cells #[.bool x6, .int .u64 xh, .int .u64 xl, .int .i64 xp, .int .i64 xo, .int .i64 xc, .bool xn] 48)).cell? ⟨w.heap.size, 0, none⟩ = some (.bool v6) := KVA.out.cell 0
          have q1 : (wr.alloc (.cells #[.bool x6, .int .u64 xh, .int .u64 xl, .int .i64 xp, .int .i64 xo, .int .i64 xc, .bool xn] 48)).cell? ⟨w.heap.size, 1, none⟩ = some (.int .u64 hi) := KVA.out.cell 1
          have q2 : (wr.alloc (.cells #[.bool x6, .int .u64 xh, .int .u64 xl, .int .i64 xp, .int .i64 xo, .int .i64 xc, .bool xn] 48)).cell? ⟨w.heap.size, 2, none⟩ = some (.int .u64 lo) := KVA.out.cell 2
          have q3 : (wr.alloc (.cells #[.bool x6, .int .u64 xh, .int .u64 xl, .int .i64 xp, .int .i64 xo, .int .i64 xc, .bool xn] 48)).cell? ⟨w.heap.size, 3, none⟩ = some (.int .i64 pr) := KVA.out.cell 3
          have q4 : (wr.alloc (.cells #[.bool x6, .int .u64 xh, .int .u64 xl, .int .i64 xp, .int .i64 xo, .int .i64 xc, .bool xn] 48)).cell? ⟨w.heap.size, 4, none⟩ = some (.int .i64 po) := KVA.out.cell 4
          have q5 : (wr.alloc (.cells #[.bool x6, .int .u64 xh, .int .u64 xl, .int .i64 xp, .int .i64 xo, .int .i64 xc, .bool xn] 48)).cell? ⟨w.heap.size, 5, none⟩ = some (.int .i64 co) := KVA.out.cell 5
          have q6 : (wr.alloc (.cells #[.bool x6, .int .u64 xh, .int .u64 xl, .int .i64 xp, .int .i64 xo, .int .i64 xc, .bool xn] 48)).cell? ⟨w.heap.size, 6, none⟩ = some (.bool nat) := KVA.out.cell 6
          have HEQ := fun W => addr_eq x6 xh xl v6 hi lo W
          obtain ⟨b1, hb1⟩ : ∃ b1 : Bool, b1 = (x6 == v6 && xh == hi && xl == lo) := ⟨_, rfl⟩
          obtain ⟨b3, hb3⟩ : ∃ b3 : Bool, (xp == pr) = b3 := ⟨_, rfl⟩
          obtain ⟨b4, hb4⟩ : ∃ b4 : Bool, (xo == po) = b4 := ⟨_, rfl⟩
          have HTY := Lib.hid (show tw ⟨x6, xh, xl, xp, xo, xc, xn⟩ = (b1 && b3 && b4) from by rw [HTX.out, ← hb1, hb3, hb4])
          rw [HTY.out] at HNX HX8
          rw [← hb1] at HEQ
          clear hCC hb1 HTX HTY
          cases b1 <;> cases b3 <;> cases b4
          all_goals go_wp2_with fail
          all_goals first
            | (go_roundw
               case rel => exact ⟨k + 1, by go_num, by omega, (by rw [HNX.out, KH.out]; rfl), KBA.out⟩
               case measure => simp [intOf]; omega)
            | (go_ret
               exact HP.out 8 (HX8.out rfl) _ (B2.out.trans (KBA.out.mono B2.out.size)))
        · have t1 : decide ((k : Int) < n) = false := decide_eq_false (by omega)
          obtain rfl : n = k := by omega
          go_wp2_with fail
          go_ret
          exact HP.out 0 (HOK.out HE0.out KH.out) _ (B2.out.trans (KB.out.mono B2.out.size))
end Go.Proofs.Ytamndmlaikgogaa.vdE
