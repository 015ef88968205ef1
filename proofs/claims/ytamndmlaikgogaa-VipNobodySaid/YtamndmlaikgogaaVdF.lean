/- Layer 19: why a view may not be. -/
import Derived.Test.YtamndmlaikgogaaVdE
namespace Go.Proofs.Ytamndmlaikgogaa.vdF
open Go.ChangeShapes Go.WideShapes Go.ChangeAt Go.RowKit
open Go.Proofs.Ytamndmlaikgogaa.base Go.Proofs.Ytamndmlaikgogaa.dfA Go.Proofs.Ytamndmlaikgogaa.treB Go.Proofs.Ytamndmlaikgogaa.treF Go.Proofs.Ytamndmlaikgogaa.vdD Go.Proofs.Ytamndmlaikgogaa.vdA Go.Proofs.Ytamndmlaikgogaa.vdE
set_option linter.unusedVariables false

theorem pfx_eq (a : Bool) (b c d : Int) (v6 : Bool) (hi lo bits : Int) (W : World) : (binOp .eql 50 (.agg #[.bool a, .int .u64 b, .int .u64 c, .int .i64 d]) (.agg #[.bool v6, .int .u64 hi, .int .u64 lo, .int .i64 bits])).run Try.prog W = .ok (.bool ((a == v6 && b == hi && c == lo) && d == bits)) W := by
  go_simp
  by_cases h1 : a = v6
  case neg => simp [h1]
  by_cases h2 : b = hi
  case neg => simp [h2]
  by_cases h3 : c = lo
  case neg => simp [h3]
  by_cases h4 : d = bits
  case neg => simp [h4]
  simp [h1, h2, h3, h4]
set_option maxHeartbeats 8000000 in
set_option maxRecDepth 100000 in
theorem view_any (e : Vw) (lv : Int) (A : Option Addr) (c : Nat) (l : List Vw) (n : Nat) (w : World) (hr : RdW w A l) (hn : n ≤ l.length) (hc : n ≤ c) (hc2 : c ≤ 9223372036854775807) (h5 : 0 ≤ e.hi) (h6 : e.hi < 18446744073709551616) (h7 : 0 ≤ e.lo) (h8 : e.lo < 18446744073709551616) :
    Calls Try.prog 50 #[.agg e.cells, .slice A n c, .int .i64 lv] w (RetI (viewQ lv l e n) w) := by
  obtain ⟨Q, hQ⟩ : ∃ Q, Q = viewQ lv l e n := ⟨_, rfl⟩
  have HP := Lib.hid (show ∀ v : Int, Q = v → ∀ W, Below w.heap.size w W → RetI Q w (.returned (.int .i64 v)) W from fun v h W hb => ⟨by rw [h], hb⟩)
  have HBAD := Lib.hid (show ∀ v : Int, viewZ lv e = v → v ≠ 0 → Q = v from fun v h h2 => by rw [hQ]; unfold viewQ; rw [if_pos (by rw [h]; exact h2), h])
  have HTW := Lib.hid (show viewZ lv e = 0 → ∀ k, k < n → twW (l.getD k zVw) e = true → Q = 8 from fun h k hk h2 => by rw [hQ]; unfold viewQ; rw [if_neg (by rw [h]; decide), if_pos (hasW_here hk h2)])
  have HOK := Lib.hid (show viewZ lv e = 0 → hasW l e n = false → Q = 0 from fun h h2 => by rw [hQ]; unfold viewQ; rw [if_neg (by rw [h]; decide), h2, if_neg (by decide)])
  rw [← hQ]
  obtain ⟨ez, hez⟩ : ∃ ez, ez = viewZ lv e := ⟨_, rfl⟩
  rw [← hez] at HBAD HTW HOK
  have HEZ := Lib.hid (show ez = if prB e.v6 e.hi e.lo e.bits = false then 18 else if e.lev < 0 ∨ lv ≤ e.lev then 5 else 0 from hez)
  have HHN := Lib.hid (fun k => hasW_next (l := l) (e := e) (k := k))
  have HH0 := Lib.hid (show hasW l e 0 = false from rfl)
  obtain ⟨hv, hhv⟩ : ∃ hv : Nat → Bool, hv = hasW l e := ⟨_, rfl⟩
  rw [← hhv] at HOK HHN HH0
  obtain ⟨tw, htw⟩ : ∃ tw : Vw → Bool, tw = fun x => twW x e := ⟨_, rfl⟩
  have HTWE := Lib.hid (show ∀ x : Vw, tw x = ((x.v6 == e.v6 && x.hi == e.hi && x.lo == e.lo) && x.bits == e.bits) from fun x => by rw [htw]; rfl)
  have HTW2 := Lib.hid (show ez = 0 → ∀ k, k < n → tw (l.getD k zVw) = true → Q = 8 from fun h k hk h2 => HTW.out h k hk (by rw [htw] at h2; exact h2))
  have HHN2 := Lib.hid (show ∀ k, hv (k + 1) = (hv k || tw (l.getD k zVw)) from fun k => by rw [HHN.out k, htw])
  clear hez hhv HTW HHN htw hQ
  obtain ⟨v6, hi, lo, bits, lev⟩ := e
  show Calls _ _ #[.agg #[.bool v6, .int .u64 hi, .int .u64 lo, .int .i64 bits, .int .i64 lev], .slice A n c, .int .i64 lv] _ _
  simp only at HEZ HTWE h5 h6 h7 h8
  obtain ⟨w1, hw1⟩ : ∃ w1, w1 = w.alloc (.cells #[.bool v6, .int .u64 hi, .int .u64 lo, .int .i64 bits, .int .i64 lev] 52) := ⟨_, rfl⟩
  have E1 := Lib.hid hw1
  have Q0 := Lib.hid (show Blk w1 w.heap.size 52 #[.bool v6, .int .u64 hi, .int .u64 lo, .int .i64 bits, .int .i64 lev] from by rw [hw1]; exact Blk.new w _ _)
  have B0 := Lib.hid (show Below w.heap.size w w1 from hw1 ▸ (Below.refl w.heap.size w).alloc (Nat.le_refl _) _)
  have HRD := Lib.hid hr
  have HR := Lib.hid (fun W => pright_any v6 hi lo bits W h5 h6 h7 h8)
  have HN := Lib.hid hn
  have d0 : w1.cell? ⟨w.heap.size, 0, none⟩ = some (.bool v6) := Q0.out.cell 0
  have d1 : w1.cell? ⟨w.heap.size, 1, none⟩ = some (.int .u64 hi) := Q0.out.cell 1
  have d2 : w1.cell? ⟨w.heap.size, 2, none⟩ = some (.int .u64 lo) := Q0.out.cell 2
  have d3 : w1.cell? ⟨w.heap.size, 3, none⟩ = some (.int .i64 bits) := Q0.out.cell 3
  have d4 : w1.cell? ⟨w.heap.size, 4, none⟩ = some (.int .i64 lev) := Q0.out.cell 4
  clear hw1 hr hn h5 h6 h7 h8
  cases hrb : prB v6 hi lo bits with
  | false =>
    rw [hrb] at HR
    have HX := Lib.hid (HBAD.out 18 (by rw [HEZ.out, if_pos hrb]) (by decide))
    clear hrb
    go_enter Try.func50, Try.ntmps50
    go_upto_region 1 with fail
    rw [← E1.out]
    go_wp2_with fail
    refine (HR.out _).mono ?_
    rintro o w2 ⟨rfl, hb2⟩
    have K2 := Lib.hid (show Blk w2 w.heap.size 52 #[.bool v6, .int .u64 hi, .int .u64 lo, .int .i64 bits, .int .i64 lev] from (hb2.block _ Q0.out.lt).trans Q0.out)
    have B2 := Lib.hid (B0.out.trans (hb2.mono B0.out.size))
    have k0 : w2.cell? ⟨w.heap.size, 0, none⟩ = some (.bool v6) := K2.out.cell 0
    have k1 : w2.cell? ⟨w.heap.size, 1, none⟩ = some (.int .u64 hi) := K2.out.cell 1
    have k2 : w2.cell? ⟨w.heap.size, 2, none⟩ = some (.int .u64 lo) := K2.out.cell 2
    have k3 : w2.cell? ⟨w.heap.size, 3, none⟩ = some (.int .i64 bits) := K2.out.cell 3
    have k4 : w2.cell? ⟨w.heap.size, 4, none⟩ = some (.int .i64 lev) := K2.out.cell 4
    clear hb2
    go_wp2_with fail
    go_ret
    exact HP.out 18 HX.out _ B2.out
  | true =>
    rw [hrb] at HR
    have HEZ := Lib.hid (show ez = if lev < 0 ∨ lv ≤ lev then 5 else 0 from by rw [HEZ.out, hrb, if_neg (by decide)])
    clear hrb
    have HB5 := Lib.hid (show (lev < 0 ∨ lv ≤ lev) → Q = 5 from fun h => HBAD.out 5 (by rw [HEZ.out, if_pos h]) (by decide))
    have HZ0 := Lib.hid (show ¬ (lev < 0 ∨ lv ≤ lev) → ez = 0 from fun h => by rw [HEZ.out, if_neg h])
    by_cases c1 : lev < 0
    · have HX := Lib.hid (HB5.out (by omega))
      have t1 : decide (lev < 0) = true := decide_eq_true c1
      clear c1
      go_enter Try.func50, Try.ntmps50
      go_upto_region 1 with fail
      rw [← E1.out]
      go_wp2_with fail
      refine (HR.out _).mono ?_
      rintro o w2 ⟨rfl, hb2⟩
      have K2 := Lib.hid (show Blk w2 w.heap.size 52 #[.bool v6, .int .u64 hi, .int .u64 lo, .int .i64 bits, .int .i64 lev] from (hb2.block _ Q0.out.lt).trans Q0.out)
      have B2 := Lib.hid (B0.out.trans (hb2.mono B0.out.size))
      have k0 : w2.cell? ⟨w.heap.size, 0, none⟩ = some (.bool v6) := K2.out.cell 0
      have k1 : w2.cell? ⟨w.heap.size, 1, none⟩ = some (.int .u64 hi) := K2.out.cell 1
      have k2 : w2.cell? ⟨w.heap.size, 2, none⟩ = some (.int .u64 lo) := K2.out.cell 2
      have k3 : w2.cell? ⟨w.heap.size, 3, none⟩ = some (.int .i64 bits) := K2.out.cell 3
      have k4 : w2.cell? ⟨w.heap.size, 4, none⟩ = some (.int .i64 lev) := K2.out.cell 4
      clear hb2
      go_wp2_with fail
      go_ret
      exact HP.out 5 HX.out _ B2.out
    have t1 : decide (lev < 0) = false := decide_eq_false c1
    by_cases c2 : lv ≤ lev
    · have HX := Lib.hid (HB5.out (by omega))
      have t2 : decide (lv ≤ lev) = true := decide_eq_true c2
      clear c1 c2
      go_enter Try.func50, Try.ntmps50
      go_upto_region 1 with fail
      rw [← E1.out]
      go_wp2_with fail
      refine (HR.out _).mono ?_
      rintro o w2 ⟨rfl, hb2⟩
      have K2 := Lib.hid (show Blk w2 w.heap.size 52 #[.bool v6, .int .u64 hi, .int .u64 lo, .int .i64 bits, .int .i64 lev] from (hb2.block _ Q0.out.lt).trans Q0.out)
      have B2 := Lib.hid (B0.out.trans (hb2.mono B0.out.size))
      have k0 : w2.cell? ⟨w.heap.size, 0, none⟩ = some (.bool v6) := K2.out.cell 0
      have k1 : w2.cell? ⟨w.heap.size, 1, none⟩ = some (.int .u64 hi) := K2.out.cell 1
      have k2 : w2.cell? ⟨w.heap.size, 2, none⟩ = some (.int .u64 lo) := K2.out.cell 2
      have k3 : w2.cell? ⟨w.heap.size, 3, none⟩ = some (.int .i64 bits) := K2.out.cell 3
      have k4 : w2.cell? ⟨w.heap.size, 4, none⟩ = some (.int .i64 lev) := K2.out.cell 4
      clear hb2
      go_wp2_with fail
      go_ret
      exact HP.out 5 HX.out _ B2.out
    have t2 : decide (lv ≤ lev) = false := decide_eq_false c2
    have HE0 := Lib.hid (HZ0.out (by omega))
    clear c1 c2 HBAD HEZ HB5 HZ0
    go_enter Try.func50, Try.ntmps50
    go_upto_region 1 with fail
    rw [← E1.out]
    go_wp2_with fail
    refine (HR.out _).mono ?_
    rintro o w2 ⟨rfl, hb2⟩
    have K2 := Lib.hid (show Blk w2 w.heap.size 52 #[.bool v6, .int .u64 hi, .int .u64 lo, .int .i64 bits, .int .i64 lev] from (hb2.block _ Q0.out.lt).trans Q0.out)
    have B2 := Lib.hid (B0.out.trans (hb2.mono B0.out.size))
    have k0 : w2.cell? ⟨w.heap.size, 0, none⟩ = some (.bool v6) := K2.out.cell 0
    have k1 : w2.cell? ⟨w.heap.size, 1, none⟩ = some (.int .u64 hi) := K2.out.cell 1
    have k2 : w2.cell? ⟨w.heap.size, 2, none⟩ = some (.int .u64 lo) := K2.out.cell 2
    have k3 : w2.cell? ⟨w.heap.size, 3, none⟩ = some (.int .i64 bits) := K2.out.cell 3
    have k4 : w2.cell? ⟨w.heap.size, 4, none⟩ = some (.int .i64 lev) := K2.out.cell 4
    clear hb2
    clear d0 d1 d2 d3 d4
    have W2 := Lib.hid (Below.refl w2.heap.size w2)
    go_wp2_with fail
    clear k0 k1 k2 k3 k4
    go_loopw [26] (fun i wr => ∃ k : Nat, i = .int .i64 k ∧ k ≤ n ∧ hv k = false ∧ Below w2.heap.size w2 wr) (fun i _ => n - (intOf i).toNat)
    case atStart => exact ⟨0, rfl, by omega, HH0.out, W2.out⟩
    case round =>
      obtain ⟨k, rfl, hk, hvk, hbel⟩ := hrel
      have KB := Lib.hid hbel
      have KH := Lib.hid hvk
      clear hbel hvk
      by_cases hkn : k < n
      · have t1 : decide ((k : Int) < n) = true := decide_eq_true (by omega)
        obtain ⟨b, off, hA, hbl, hC⟩ := rows_at (rows_below (rows_below HRD.out B2.out) KB.out) k (Nat.lt_of_lt_of_le hkn HN.out)
        subst hA
        have HNX := Lib.hid (show hv (k + 1) = (hv k || tw (l.getD k zVw)) from HHN2.out k)
        have HX8 := Lib.hid (show tw (l.getD k zVw) = true → Q = 8 from HTW2.out HE0.out k hkn)
        obtain ⟨x, hx⟩ : ∃ x, x = l.getD k zVw := ⟨_, rfl⟩
        rw [← hx] at HNX HX8
        have hCC := hC
        simp only [← hx] at hCC
        have HTX := Lib.hid (HTWE.out x)
        obtain ⟨x6, xh, xl, xb, xv⟩ := x
        simp only at HTX
        clear hC hx
        have d0 : wr.cell? ⟨b, off + k * 5, none⟩ = some (.bool x6) := hCC 0 (by omega)
        have d1 : wr.cell? ⟨b, off + k * 5 + 1, none⟩ = some (.int .u64 xh) := hCC 1 (by omega)
        have d2 : wr.cell? ⟨b, off + k * 5 + 2, none⟩ = some (.int .u64 xl) := hCC 2 (by omega)
        have d3 : wr.cell? ⟨b, off + k * 5 + 3, none⟩ = some (.int .i64 xb) := hCC 3 (by omega)
        have d4 : wr.cell? ⟨b, off + k * 5 + 4, none⟩ = some (.int .i64 xv) := hCC 4 (by omega)
        have j0 : (0 : Int) ≤ k := by omega
        have j1 : (k : Int) < n := by omega
        have KV := Lib.hid (show Blk wr w.heap.size 52 #[.bool v6, .int .u64 hi, .int .u64 lo, .int .i64 bits, .int .i64 lev] from (KB.out.block _ K2.out.lt).trans K2.out)
        have KBA := Lib.hid (show Below w2.heap.size w2 (wr.alloc (.cells #[.bool x6, .int .u64 xh, .int .u64 xl, .int .i64 xb, .int .i64 xv] 52)) from KB.out.alloc KB.out.size _)
        have KVA := Lib.hid (KV.out.alloc (.cells #[.bool x6, .int .u64 xh, .int .u64 xl, .int .i64 xb, .int .i64 xv] 52))
        have q0 : (wr.alloc (.cells #[.bool x6, .int .u64 xh, .int .u64 xl, .int .i64 xb, .int .i64 xv] 52)).cell? ⟨w.heap.size, 0, none⟩ = some (.bool v6) := KVA.out.cell 0
        have q1 : (wr.alloc (.cells #[.bool x6, .int .u64 xh, .int .u64 xl, .int .i64 xb, .int .i64 xv] 52)).cell? ⟨w.heap.size, 1, none⟩ = some (.int .u64 hi) := KVA.out.cell 1
        have q2 : (wr.alloc (.cells #[.bool x6, .int .u64 xh, .int .u64 xl, .int .i64 xb, .int .i64 xv] 52)).cell? ⟨w.heap.size, 2, none⟩ = some (.int .u64 lo) := KVA.out.cell 2
        have q3 : (wr.alloc (.cells #[.bool x6, .int .u64 xh, .int .u64 xl, .int .i64 xb, .int .i64 xv] 52)).cell? ⟨w.heap.size, 3, none⟩ = some (.int .i64 bits) := KVA.out.cell 3
        have q4 : (wr.alloc (.cells #[.bool x6, .int .u64 xh, .int .u64 xl, .int .i64 xb, .int .i64 xv] 52)).cell? ⟨w.heap.size, 4, none⟩ = some (.int .i64 lev) := KVA.out.cell 4
        have HEQ := fun W => pfx_eq x6 xh xl xb v6 hi lo bits W
        obtain ⟨b1, hb1⟩ : ∃ b1 : Bool, b1 = ((x6 == v6 && xh == hi && xl == lo) && xb == bits) := ⟨_, rfl⟩
        have HTY := Lib.hid (show tw ⟨x6, xh, xl, xb, xv⟩ = b1 from by rw [HTX.out, ← hb1])
        rw [HTY.out] at HNX HX8
        rw [← hb1] at HEQ
        clear hCC hb1 HTX HTY
        cases b1
        all_goals go_wp2_with fail
        all_goals first
          | (go_roundw
             case rel => exact ⟨k + 1, by go_num, by omega, (by rw [HNX.out, KH.out]; rfl), KBA.out⟩
             case measure => simp [intOf]; omega)
          | (go_ret
             exact HP.out 8 (HX8.out (by first | rfl | trivial)) _ (B2.out.trans (KBA.out.mono B2.out.size)))
      · have t1 : decide ((k : Int) < n) = false := decide_eq_false (by omega)
        obtain rfl : n = k := by omega
        go_wp2_with fail
        go_ret
        exact HP.out 0 (HOK.out HE0.out KH.out) _ (B2.out.trans (KB.out.mono B2.out.size))
end Go.Proofs.Ytamndmlaikgogaa.vdF
