/- Layer 19: the law's reasons why a view may not be. -/
import Derived.Test.YtamndmlaikgogaaVdK
import Derived.Deep.QuietTactic
import Derived.BigQuiet
namespace Go.Proofs.Ytamndmlaikgogaa.vdL
open Go.ChangeShapes Go.WideShapes Go.ChangeAt Go.RowKit
open Go.Proofs.Ytamndmlaikgogaa.base Go.Proofs.Ytamndmlaikgogaa.dfA Go.Proofs.Ytamndmlaikgogaa.treB Go.Proofs.Ytamndmlaikgogaa.treF Go.Proofs.Ytamndmlaikgogaa.vdD Go.Proofs.Ytamndmlaikgogaa.vdA Go.Proofs.Ytamndmlaikgogaa.vdE Go.Proofs.Ytamndmlaikgogaa.vdF Go.Proofs.Ytamndmlaikgogaa.vdH
set_option linter.unusedVariables false

set_option maxHeartbeats 16000000 in
set_option maxRecDepth 100000 in
theorem lviews_any (A : Option Addr) (c : Nat) (l : List Vw) (lv : Int) (w : World) (hr : RdW w A l) (hc : l.length ≤ c) (hc2 : c ≤ 9223372036854775807) (hl : l.length ≤ 1000) (hu : ∀ j, j < l.length → U64 (l.getD j zVw).hi ∧ U64 (l.getD j zVw).lo) :
    Calls Try.prog 34 #[.slice A l.length c, .int .i64 lv] w (RetI (viewsE lv l) w) := by
  obtain ⟨Q, hQ⟩ : ∃ Q, Q = viewsE lv l := ⟨_, rfl⟩
  have HP := Lib.hid (show ∀ v : Int, Q = v → ∀ W, Below w.heap.size w W → RetI Q w (.returned (.int .i64 v)) W from fun v h W hb => ⟨by rw [h], hb⟩)
  have HST := Lib.hid (show ∀ k, k < l.length → fstE (viewW lv l) k = 0 → viewW lv l k ≠ 0 → Q = viewW lv l k from fun k hk h h2 => by rw [hQ]; exact fst_stop h h2 hk)
  have HEN := Lib.hid (show fstE (viewW lv l) l.length = 0 → Q = 0 from fun h => by rw [hQ]; exact h)
  rw [← hQ]
  have HRD := Lib.hid hr
  have HU := Lib.hid hu
  obtain ⟨n, hn⟩ : ∃ n, n = l.length := ⟨_, rfl⟩
  have HN := Lib.hid hn
  rw [← hn] at hc hl HST HEN HU ⊢
  have W0 := Lib.hid (Below.refl w.heap.size w)
  clear hQ hr hn hu
  go_enter Try.func34, Try.ntmps34
  go_wp2_with fail
  go_loopw [5] (fun i wr => ∃ k : Nat, i = .int .i64 k ∧ k ≤ n ∧ fstE (viewW lv l) k = 0 ∧ Below w.heap.size w wr) (fun i _ => n - (intOf i).toNat)
  case atStart => exact ⟨0, rfl, by omega, rfl, W0.out⟩
  case round =>
    obtain ⟨k, rfl, hk, hfs, hbel⟩ := hrel
    have KB := Lib.hid hbel
    have KF := Lib.hid hfs
    clear hbel hfs
    obtain ⟨wo, hwo⟩ : ∃ wo, wo = wr := ⟨_, rfl⟩
    subst hwo
    by_cases hkn : k < n
    case neg =>
      have t1 : decide ((k : Int) < n) = false := decide_eq_false (by omega)
      obtain rfl : n = k := by omega
      go_wp2_with fail
      go_ret
      exact HP.out 0 (HEN.out KF.out) _ KB.out
    case pos =>
      have t1 : decide ((k : Int) < n) = true := decide_eq_true (by omega)
      obtain ⟨b, off, hA, hbl, hC⟩ := rows_at (rows_below HRD.out KB.out) k (by have := HN.out; omega)
      subst hA
      obtain ⟨⟨u1, u2⟩, u3, u4⟩ := HU.out k hkn
      obtain ⟨e, he⟩ : ∃ e, e = l.getD k zVw := ⟨_, rfl⟩
      rw [← he] at u1 u2 u3 u4
      have hCC := hC
      simp only [← he] at hCC
      have HW0 := Lib.hid (show viewW lv l k = viewQ lv l e k from by rw [he]; rfl)
      have HBAD := Lib.hid (show ∀ v : Int, viewZ lv e = v → v ≠ 0 → Q = v from fun v h h2 => by
        have h3 : viewW lv l k = v := by rw [HW0.out]; unfold viewQ; rw [if_pos (by rw [h]; exact h2), h]
        rw [HST.out k hkn KF.out (by rw [h3]; exact h2), h3])
      have HTW := Lib.hid (show viewZ lv e = 0 → ∀ j, j < k → twW (l.getD j zVw) e = true → Q = 8 from fun h j hj h2 => by
        have h3 : viewW lv l k = 8 := by rw [HW0.out]; unfold viewQ; rw [if_neg (by rw [h]; decide), if_pos (hasW_here hj h2)]
        rw [HST.out k hkn KF.out (by rw [h3]; decide), h3])
      have HOK := Lib.hid (show viewZ lv e = 0 → hasW l e k = false → fstE (viewW lv l) (k + 1) = 0 from fun h h2 => by
        rw [fst_next KF.out, HW0.out]; unfold viewQ; rw [if_neg (by rw [h]; decide), h2, if_neg (by decide)])
      obtain ⟨ez, hez⟩ : ∃ ez, ez = viewZ lv e := ⟨_, rfl⟩
      rw [← hez] at HBAD HTW HOK
      have HEZ := Lib.hid (show ez = if prB e.v6 e.hi e.lo e.bits = false then 18 else if e.lev < 0 ∨ lv ≤ e.lev then 5 else 0 from hez)
      have HHN := Lib.hid (fun k => hasW_next (l := l) (e := e) (k := k))
      have HH0 := Lib.hid (show hasW l e 0 = false from rfl)
      obtain ⟨hv, hhv⟩ : ∃ hv : Nat → Bool, hv = hasW l e := ⟨_, rfl⟩
      rw [← hhv] at HOK HHN HH0
      obtain ⟨tw, htw⟩ : ∃ tw : Vw → Bool, tw = fun x => twW x e := ⟨_, rfl⟩
      have HTWE := Lib.hid (show ∀ x : Vw, tw x = ((x.v6 == e.v6 && x.hi == e.hi && x.lo == e.lo) && x.bits == e.bits) from fun x => by rw [htw]; rfl)
      have HTW2 := Lib.hid (show ez = 0 → ∀ j, j < k → tw (l.getD j zVw) = true → Q = 8 from fun h j hj h2 => HTW.out h j hj (by rw [htw] at h2; exact h2))
      have HHN2 := Lib.hid (show ∀ k, hv (k + 1) = (hv k || tw (l.getD k zVw)) from fun k => by rw [HHN.out k, htw])
      clear hez hhv HTW HHN htw hC he HW0
      obtain ⟨v6, hi, lo, bits, lev⟩ := e
      simp only at HEZ HTWE u1 u2 u3 u4
      have d0 : wo.cell? ⟨b, off + k * 5, none⟩ = some (.bool v6) := hCC 0 (by omega)
      have d1 : wo.cell? ⟨b, off + k * 5 + 1, none⟩ = some (.int .u64 hi) := hCC 1 (by omega)
      have d2 : wo.cell? ⟨b, off + k * 5 + 2, none⟩ = some (.int .u64 lo) := hCC 2 (by omega)
      have d3 : wo.cell? ⟨b, off + k * 5 + 3, none⟩ = some (.int .i64 bits) := hCC 3 (by omega)
      have d4 : wo.cell? ⟨b, off + k * 5 + 4, none⟩ = some (.int .i64 lev) := hCC 4 (by omega)
      have HCC := Lib.hid hCC
      have j0 : (0 : Int) ≤ k := by omega
      have j1 : (k : Int) < n := by omega
      have HR := Lib.hid (fun W => pright_any v6 hi lo bits W u1 u2 u3 u4)
      clear hCC u1 u2 u3 u4
      cases hrb : prB v6 hi lo bits with
      | false =>
        rw [hrb] at HR
        have HX := Lib.hid (HBAD.out 18 (by rw [HEZ.out, if_pos hrb]) (by decide))
        clear hrb
        go_wp2_with fail
        refine (HR.out _).mono ?_
        rintro o w2 ⟨rfl, hb2⟩
        have B2 := Lib.hid hb2
        have HC2 := Lib.hid (show ∀ i, i < 5 → w2.cell? ⟨b, off + k * 5 + i, none⟩ = _ from fun i hi => (hb2.cell (p := ⟨b, off + k * 5 + i, none⟩) hbl).trans (HCC.out i hi))
        have k0 : w2.cell? ⟨b, off + k * 5, none⟩ = some (.bool v6) := HC2.out 0 (by omega)
        have k1 : w2.cell? ⟨b, off + k * 5 + 1, none⟩ = some (.int .u64 hi) := HC2.out 1 (by omega)
        have k2 : w2.cell? ⟨b, off + k * 5 + 2, none⟩ = some (.int .u64 lo) := HC2.out 2 (by omega)
        have k3 : w2.cell? ⟨b, off + k * 5 + 3, none⟩ = some (.int .i64 bits) := HC2.out 3 (by omega)
        have k4 : w2.cell? ⟨b, off + k * 5 + 4, none⟩ = some (.int .i64 lev) := HC2.out 4 (by omega)
        clear hb2
        go_wp2_with fail
        go_ret
        exact HP.out 18 HX.out _ (KB.out.trans (B2.out.mono KB.out.size))
      | true =>
        rw [hrb] at HR
        have HEZ := Lib.hid (show ez = if lev < 0 ∨ lv ≤ lev then 5 else 0 from by rw [HEZ.out, hrb, if_neg (by decide)])
        clear hrb
        by_cases c1 : lev < 0
        · have HX := Lib.hid (HBAD.out 5 (by rw [HEZ.out, if_pos (.inl c1)]) (by decide))
          have t2 : decide (lev < 0) = true := decide_eq_true c1
          clear c1
          go_wp2_with fail
          refine (HR.out _).mono ?_
          rintro o w2 ⟨rfl, hb2⟩
          have B2 := Lib.hid hb2
          have HC2 := Lib.hid (show ∀ i, i < 5 → w2.cell? ⟨b, off + k * 5 + i, none⟩ = _ from fun i hi => (hb2.cell (p := ⟨b, off + k * 5 + i, none⟩) hbl).trans (HCC.out i hi))
          have k0 : w2.cell? ⟨b, off + k * 5, none⟩ = some (.bool v6) := HC2.out 0 (by omega)
          have k1 : w2.cell? ⟨b, off + k * 5 + 1, none⟩ = some (.int .u64 hi) := HC2.out 1 (by omega)
          have k2 : w2.cell? ⟨b, off + k * 5 + 2, none⟩ = some (.int .u64 lo) := HC2.out 2 (by omega)
          have k3 : w2.cell? ⟨b, off + k * 5 + 3, none⟩ = some (.int .i64 bits) := HC2.out 3 (by omega)
          have k4 : w2.cell? ⟨b, off + k * 5 + 4, none⟩ = some (.int .i64 lev) := HC2.out 4 (by omega)
          clear hb2
          go_wp2_with fail
          go_ret
          exact HP.out 5 HX.out _ (KB.out.trans (B2.out.mono KB.out.size))
        have t2 : decide (lev < 0) = false := decide_eq_false c1
        by_cases c2 : lv ≤ lev
        · have HX := Lib.hid (HBAD.out 5 (by rw [HEZ.out, if_pos (.inr c2)]) (by decide))
          have t3 : decide (lv ≤ lev) = true := decide_eq_true c2
          clear c1 c2
          go_wp2_with fail
          refine (HR.out _).mono ?_
          rintro o w2 ⟨rfl, hb2⟩
          have B2 := Lib.hid hb2
          have HC2 := Lib.hid (show ∀ i, i < 5 → w2.cell? ⟨b, off + k * 5 + i, none⟩ = _ from fun i hi => (hb2.cell (p := ⟨b, off + k * 5 + i, none⟩) hbl).trans (HCC.out i hi))
          have k0 : w2.cell? ⟨b, off + k * 5, none⟩ = some (.bool v6) := HC2.out 0 (by omega)
          have k1 : w2.cell? ⟨b, off + k * 5 + 1, none⟩ = some (.int .u64 hi) := HC2.out 1 (by omega)
          have k2 : w2.cell? ⟨b, off + k * 5 + 2, none⟩ = some (.int .u64 lo) := HC2.out 2 (by omega)
          have k3 : w2.cell? ⟨b, off + k * 5 + 3, none⟩ = some (.int .i64 bits) := HC2.out 3 (by omega)
          have k4 : w2.cell? ⟨b, off + k * 5 + 4, none⟩ = some (.int .i64 lev) := HC2.out 4 (by omega)
          clear hb2
          go_wp2_with fail
          go_ret
          exact HP.out 5 HX.out _ (KB.out.trans (B2.out.mono KB.out.size))
        have t3 : decide (lv ≤ lev) = false := decide_eq_false c2
        have HE0 := Lib.hid (show ez = 0 from by rw [HEZ.out, if_neg (by omega)])
        clear c1 c2 HBAD HEZ
        go_wp2_with fail
        refine (HR.out _).mono ?_
        rintro o w2 ⟨rfl, hb2⟩
        have B2 := Lib.hid hb2
        have HC2 := Lib.hid (show ∀ i, i < 5 → w2.cell? ⟨b, off + k * 5 + i, none⟩ = _ from fun i hi => (hb2.cell (p := ⟨b, off + k * 5 + i, none⟩) hbl).trans (HCC.out i hi))
        have k0 : w2.cell? ⟨b, off + k * 5, none⟩ = some (.bool v6) := HC2.out 0 (by omega)
        have k1 : w2.cell? ⟨b, off + k * 5 + 1, none⟩ = some (.int .u64 hi) := HC2.out 1 (by omega)
        have k2 : w2.cell? ⟨b, off + k * 5 + 2, none⟩ = some (.int .u64 lo) := HC2.out 2 (by omega)
        have k3 : w2.cell? ⟨b, off + k * 5 + 3, none⟩ = some (.int .i64 bits) := HC2.out 3 (by omega)
        have k4 : w2.cell? ⟨b, off + k * 5 + 4, none⟩ = some (.int .i64 lev) := HC2.out 4 (by omega)
        clear hb2
        have W2 := Lib.hid (Below.refl w2.heap.size w2)
        go_wp2_with fail
        clear d0 d1 d2 d3 d4 k0 k1 k2 k3 k4
        go_loopw [6] (fun i wr => ∃ j : Nat, i = .int .i64 j ∧ j ≤ k ∧ hv j = false ∧ Below w2.heap.size w2 wr) (fun i _ => k - (intOf i).toNat)
        case atStart => exact ⟨0, rfl, by omega, HH0.out, W2.out⟩
        case round =>
          obtain ⟨j, rfl, hj, hvj, hbel⟩ := hrel
          have JB := Lib.hid hbel
          have JH := Lib.hid hvj
          by_cases hjk : j < k
          · have t8 : decide ((j : Int) < k) = true := decide_eq_true (by omega)
            have t9 : decide (j < k) = true := decide_eq_true hjk
            obtain ⟨b9, o9, hA9, _, hC9⟩ := rows_at (rows_below HRD.out (KB.out.trans ((B2.out.trans (JB.out.mono B2.out.size)).mono KB.out.size))) j (by have := HN.out; omega)
            injection hA9 with hA9
            injection hA9 with e1 e2
            subst e1 e2
            have HNX := Lib.hid (show hv (j + 1) = (hv j || tw (l.getD j zVw)) from HHN2.out j)
            have HX8 := Lib.hid (show tw (l.getD j zVw) = true → Q = 8 from HTW2.out HE0.out j hjk)
            obtain ⟨x, hx⟩ : ∃ x, x = l.getD j zVw := ⟨_, rfl⟩
            rw [← hx] at HNX HX8
            have hCC := hC9
            simp only [← hx] at hCC
            have HTX := Lib.hid (HTWE.out x)
            obtain ⟨x6, xh, xl, xb, xv⟩ := x
            simp only at HTX
            have HC3 := Lib.hid (show ∀ i, i < 5 → wr.cell? ⟨b, off + k * 5 + i, none⟩ = _ from fun i hi => (hbel.cell (p := ⟨b, off + k * 5 + i, none⟩) (Nat.lt_of_lt_of_le hbl B2.out.size)).trans (HC2.out i hi))
            have d0 : wr.cell? ⟨b, off + j * 5, none⟩ = some (.bool x6) := hCC 0 (by omega)
            have d1 : wr.cell? ⟨b, off + j * 5 + 1, none⟩ = some (.int .u64 xh) := hCC 1 (by omega)
            have d2 : wr.cell? ⟨b, off + j * 5 + 2, none⟩ = some (.int .u64 xl) := hCC 2 (by omega)
            have d3 : wr.cell? ⟨b, off + j * 5 + 3, none⟩ = some (.int .i64 xb) := hCC 3 (by omega)
            have d4 : wr.cell? ⟨b, off + j * 5 + 4, none⟩ = some (.int .i64 xv) := hCC 4 (by omega)
            have q0 : wr.cell? ⟨b, off + k * 5, none⟩ = some (.bool v6) := HC3.out 0 (by omega)
            have q1 : wr.cell? ⟨b, off + k * 5 + 1, none⟩ = some (.int .u64 hi) := HC3.out 1 (by omega)
            have q2 : wr.cell? ⟨b, off + k * 5 + 2, none⟩ = some (.int .u64 lo) := HC3.out 2 (by omega)
            have q3 : wr.cell? ⟨b, off + k * 5 + 3, none⟩ = some (.int .i64 bits) := HC3.out 3 (by omega)
            have q4 : wr.cell? ⟨b, off + k * 5 + 4, none⟩ = some (.int .i64 lev) := HC3.out 4 (by omega)
            have i0 : (0 : Int) ≤ j := by omega
            have i1 : (j : Int) < n := by omega
            have HEQ := fun W => pfx_eq x6 xh xl xb v6 hi lo bits W
            obtain ⟨b1, hb1⟩ : ∃ b1 : Bool, b1 = ((x6 == v6 && xh == hi && xl == lo) && xb == bits) := ⟨_, rfl⟩
            have HTY := Lib.hid (show tw ⟨x6, xh, xl, xb, xv⟩ = b1 from by rw [HTX.out, ← hb1])
            rw [HTY.out] at HNX HX8
            rw [← hb1] at HEQ
            clear hCC hC9 hx hb1 HTX HTY hbel hvj
            cases b1
            all_goals
              go_wp2_with fail
              go_quiet (fail)
              go_wp2_with fail
            all_goals first
              | (go_roundw
                 case rel => exact ⟨j + 1, by go_num, by omega, (by rw [HNX.out, JH.out]; rfl), below_drewN JB.out _⟩
                 case measure => simp [intOf]; omega)
              | (go_ret
                 exact HP.out 8 (HX8.out (by first | rfl | trivial)) _ (KB.out.trans ((B2.out.trans ((below_drewN JB.out _).mono B2.out.size)).mono KB.out.size)))
          · have t8 : decide ((j : Int) < k) = false := decide_eq_false (by omega)
            have t9 : decide (j < k) = false := decide_eq_false hjk
            obtain rfl : k = j := by omega
            have HFN := Lib.hid (HOK.out HE0.out JH.out)
            clear hbel hvj
            go_wp2_with fail
            go_roundw
            case rel => exact ⟨k + 1, by go_num, by omega, HFN.out, KB.out.trans ((B2.out.trans (JB.out.mono B2.out.size)).mono KB.out.size)⟩
            case measure => simp [intOf]; omega
end Go.Proofs.Ytamndmlaikgogaa.vdL
