/- 2 texts in one. -/
import Derived.Deep.DeepCutAuto
import Derived.Deep.RegionHeld3
import Derived.Test.YtodckfgfbcnkoaaTc19
/- Layer 14: what lies in any bytes. -/
namespace Go.Proofs.Ytodckfgfbcnkoaa.tunN4b
open Go.ChangeShapes Go.WideShapes Go.ChangeAt Go.RowKit
open Go.Proofs.Ytodckfgfbcnkoaa.base Go.Proofs.Ytodckfgfbcnkoaa.rdrA Go.Proofs.Ytodckfgfbcnkoaa.rdrG Go.Proofs.Ytodckfgfbcnkoaa.sumB Go.Proofs.Ytodckfgfbcnkoaa.sixW Go.Proofs.Ytodckfgfbcnkoaa.sixM Go.Proofs.Ytodckfgfbcnkoaa.pktA Go.Proofs.Ytodckfgfbcnkoaa.pktB Go.Proofs.Ytodckfgfbcnkoaa.pktC Go.Proofs.Ytodckfgfbcnkoaa.pktE Go.Proofs.Ytodckfgfbcnkoaa.sixE Go.Proofs.Ytodckfgfbcnkoaa.tunW Go.Proofs.Ytodckfgfbcnkoaa.tunB Go.Proofs.Ytodckfgfbcnkoaa.tunG Go.Proofs.Ytodckfgfbcnkoaa.tunN
set_option linter.unusedVariables false
set_option linter.unusedSimpArgs false

set_option maxHeartbeats 8000000 in
set_option maxRecDepth 100000 in
theorem law_4b (A : Option Addr) (n0 n c : Nat) (mf : Bool) (fr p f e0 : Int) (he0 : e0 = if f ≠ 0 then f else if 0 < fr ∨ mf = true then 21 else 0) (s6 : Bool) (sh sl : Int) (d6 : Bool) (dh dl : Int) (r : List Int) (oe : Int) (hoe : oe = if e0 = 0 then rightP r p else e0) (hne : oe ≠ 0) (w : World) (HB : Hid (n = 0 ∨ 0 < n ∧ ∃ b off x, A = some ⟨b, off, none⟩ ∧ b < w.heap.size ∧ w.cell? ⟨b, off, none⟩ = some (.int .u8 x) ∧ x / 16 ≠ 6 ∧ 0 ≤ x ∧ x ≤ 255))
    (HC : Hid (∀ W, Calls Try.prog 10 #[.slice A n0 c] W fun o w' => o = .returned (.slice A n c) ∧ W = w'))
    (HO : Hid (∀ V, Below w.heap.size w V → Calls Try.prog 17 #[.slice A n c] V fun o w' => Below V.heap.size V w' ∧ ∃ (A5 : Option Addr) (c5 : Nat), o = .returned (.tuple #[.slice A5 0 c5, .agg #[.bool false, .int .u64 0, .int .u64 0], .agg #[.bool false, .int .u64 0, .int .u64 0], .int .i64 oe]) ∧ Sl w' A5 0 c5 []))
    (HP : Hid (∀ V, Below w.heap.size w V → Calls Try.prog 21 #[.slice A n c] V fun o w' => Below V.heap.size V w' ∧ ∃ (tos id : Int) (df : Bool) (ttl : Int) (AO : Option Addr) (no co : Nat) (AR : Option Addr) (cr : Nat), o = .returned (.tuple #[.agg #[.int .i64 tos, .int .i64 id, .bool df, .bool mf, .int .i64 fr, .int .i64 ttl, .int .i64 p, .bool s6, .int .u64 sh, .int .u64 sl, .bool d6, .int .u64 dh, .int .u64 dl, .slice AO no co], .slice AR r.length cr, .int .i64 f]) ∧ Sl w' AR r.length cr r)) :
    Calls Try.prog 5 #[.slice A n0 c] w fun o w' => o = .returned (.bool true) ∧ Below w.heap.size w w' := by
  have HAW := Lib.hid awake_any
  have HE0 := Lib.hid he0
  obtain ⟨m, hm0⟩ : ∃ m, m = r.length := ⟨_, rfl⟩
  rw [← hm0] at HP
  have HM := Lib.hid hm0
  have HOE := Lib.hid hoe
  have HNE := Lib.hid hne
  have ADZ : ∀ W : World, (binOp .eql 32 (.agg #[.bool false, .int .u64 0, .int .u64 0]) (.agg #[.bool false, .int .u64 0, .int .u64 0])).run Try.prog W = .ok (.bool true) W := fun W => by go_simp
  clear hm0 he0 hoe hne
  go_enter Try.func5, Try.ntmps5
  go_wp2_with fail
  refine (HC.out _).mono ?_
  rintro o w' ⟨rfl, rfl⟩
  go_wp2_with fail
  refine (HO.out _ (Below.refl _ _)).mono ?_
  rintro o w2 ⟨hb2, A5, c5, rfl, hs5⟩
  obtain ⟨p1, hp1⟩ : ∃ p1, p1 = w2.heap.size := ⟨_, rfl⟩
  obtain ⟨p2, hp2⟩ : ∃ p2, p2 = w2.heap.size + 1 := ⟨_, rfl⟩
  obtain ⟨w3, hw3⟩ : ∃ w3, w3 = (w2.alloc (.cells #[.bool false, .int .u64 0, .int .u64 0] 32)).alloc (.cells #[.bool false, .int .u64 0, .int .u64 0] 32) := ⟨_, rfl⟩
  have E3 := Lib.hid hw3
  have EP1 := Lib.hid hp1
  have EP2 := Lib.hid hp2
  have B23 := Lib.hid (show Below w2.heap.size w2 w3 from by rw [hw3]; exact ((Below.refl _ _).alloc (Nat.le_refl _) _).alloc (by simp) _)
  have B3 := Lib.hid (hb2.trans (B23.out.mono hb2.size))
  have SX3 := Lib.hid (Sl.below hs5 B23.out)
  have KP1 := Lib.hid (show Blk w3 p1 32 #[.bool false, .int .u64 0, .int .u64 0] from by rw [hw3, hp1]; exact (Blk.new w2 _ _).below ((Below.refl _ _).alloc (Nat.le_refl _) _) (Blk.new w2 _ _).lt)
  have KP2 := Lib.hid (show Blk w3 p2 32 #[.bool false, .int .u64 0, .int .u64 0] from by
    have h9 := Blk.new (w2.alloc (.cells #[.bool false, .int .u64 0, .int .u64 0] 32)) 32 #[.bool false, .int .u64 0, .int .u64 0]
    rw [← hw3] at h9
    rw [hp2]
    simpa using h9)
  clear hb2 hs5 hp1 hp2 hw3
  go_upto_region 3 with fail
  rw [← E3.out, ← EP2.out, ← EP1.out]
  obtain ⟨q1, hq1⟩ : ∃ q1, q1 = w3.heap.size := ⟨_, rfl⟩
  obtain ⟨q2, hq2⟩ : ∃ q2, q2 = q1 + 1 := ⟨_, rfl⟩
  obtain ⟨w4, hw4⟩ : ∃ w4, w4 = (w3.alloc (.cells #[.bool false, .int .u64 0, .int .u64 0] 32)).alloc (.cells #[.bool false, .int .u64 0, .int .u64 0] 32) := ⟨_, rfl⟩
  have E4 := Lib.hid hw4
  have EQ1 := Lib.hid hq1
  have EQ2 := Lib.hid hq2
  have QQ := Lib.hid (show q1 < q2 from by omega)
  have B34 := Lib.hid (show Below w3.heap.size w3 w4 from by rw [hw4]; exact ((Below.refl _ _).alloc (Nat.le_refl _) _).alloc (by simp) _)
  have B4 := Lib.hid (B3.out.trans (B34.out.mono B3.out.size))
  have KQ14 := Lib.hid (show Blk w4 q1 32 #[.bool false, .int .u64 0, .int .u64 0] from by rw [hw4, hq1]; exact (Blk.new w3 _ _).below ((Below.refl _ _).alloc (Nat.le_refl _) _) (Blk.new w3 _ _).lt)
  have KQ24 := Lib.hid (show Blk w4 q2 32 #[.bool false, .int .u64 0, .int .u64 0] from by
    have h9 := Blk.new (w3.alloc (.cells #[.bool false, .int .u64 0, .int .u64 0] 32)) 32 #[.bool false, .int .u64 0, .int .u64 0]
    rw [← hw4] at h9
    rw [hq2, hq1]
    simpa using h9)
  clear hq1 hq2 hw4
  go_upto_region 7 with fail
  rw [← EQ1.out, ← EQ2.out, ← E4.out]
  go_cut [38] (fun v wx => v = .bool false ∧ wx = w4)
  case first =>
    rcases HB.out with h | ⟨h, b, off, x, rfl, hb, hy, hx, x0⟩
    · subst h
      go_wp2_with fail
      go_meet
      exact ⟨rfl, rfl⟩
    · have t6 : (x / 16 == 6) = false := by simpa using hx
      have j1 : (0 : Int) < n := by omega
      have jd : decide ((0 : Int) < n) = true := decide_eq_true j1
      have jdn : decide (0 < n) = true := decide_eq_true h
      have y0 : w4.cell? ⟨b, off, none⟩ = some (.int .u8 x) := (B4.out.cell (p := ⟨b, off, none⟩) hb).trans hy
      clear hx hb hy
      go_wp2_with fail
      go_meet
      exact ⟨rfl, rfl⟩
  case rest =>
  obtain ⟨rfl, hwc⟩ := hcut
  rw [hwc]
  clear hwc
  go_wp2_with fail
  refine (HP.out _ B4.out).mono ?_
  rintro o w5 ⟨hb5, tos, id, df, ttl, AO, no, co, AR, cr, rfl, hsl⟩
  obtain ⟨w6, hw6⟩ : ∃ w6, w6 = w5.alloc (.cells #[.int .i64 tos, .int .i64 id, .bool df, .bool mf, .int .i64 fr, .int .i64 ttl, .int .i64 p, .bool s6, .int .u64 sh, .int .u64 sl, .bool d6, .int .u64 dh, .int .u64 dl, .slice AO no co] 53) := ⟨_, rfl⟩
  obtain ⟨h, hh⟩ : ∃ h, h = w5.heap.size := ⟨_, rfl⟩
  have EH := Lib.hid hh
  have E6 := Lib.hid hw6
  have B56 := Lib.hid (show Below w5.heap.size w5 w6 from by rw [hw6]; exact (Below.refl _ _).alloc (Nat.le_refl _) _)
  have B46 := Lib.hid (hb5.trans (B56.out.mono hb5.size))
  have KH6 := Lib.hid (show Blk w6 h 53 #[.int .i64 tos, .int .i64 id, .bool df, .bool mf, .int .i64 fr, .int .i64 ttl, .int .i64 p, .bool s6, .int .u64 sh, .int .u64 sl, .bool d6, .int .u64 dh, .int .u64 dl, .slice AO no co] from by rw [hw6, hh]; exact Blk.new w5 _ _)
  have KQ16 := Lib.hid (KQ14.out.below B46.out KQ14.out.lt)
  have KQ26 := Lib.hid (KQ24.out.below B46.out KQ24.out.lt)
  have B36 := Lib.hid (B34.out.trans (B46.out.mono B34.out.size))
  have SL6 := Lib.hid (hsl.below B56.out)
  have QH := Lib.hid (show q2 < h from by have := KQ24.out.lt; have := hb5.size; omega)
  clear hw6 hb5 hh hsl
  go_upto_region 16 with fail
  rw [← E6.out, ← EH.out]
  go_upto_region 17 with fail
  go_cut [77] (fun v wx => v = .bool (f == 0 && (decide (0 < fr) || mf)) ∧ wx = w6)
  case first =>
    by_cases hf : f = 0
    · have tf : (f == 0) = true := by simpa using hf
      clear hf
      have k3 := KH6.out.cell 3
      have k4 := KH6.out.cell 4
      by_cases hg : 0 < fr
      · have tg : decide (0 < fr) = true := decide_eq_true hg
        clear hg
        go_wp2_with fail
        go_meet
        exact ⟨by rw [tf, tg]; rfl, rfl⟩
      · have tg : decide (0 < fr) = false := decide_eq_false hg
        clear hg
        go_wp2_with fail
        go_meet
        exact ⟨by rw [tf, tg]; rfl, rfl⟩
    · have tf : (f == 0) = false := by simpa using hf
      clear hf
      go_wp2_with fail
      go_meet
      exact ⟨by rw [tf]; rfl, rfl⟩
  case rest =>
  obtain ⟨rfl, hwc⟩ := hcut
  rw [hwc]
  clear hwc
  go_upto_if 77 with fail
  go_cut [9] (fun v wx => v = .int .i64 e0 ∧ wx = w6)
  case first =>
    have he0 := HE0.out
    cases hg : (f == 0 && (decide (0 < fr) || mf)) with
    | true =>
      have hg2 : f = 0 ∧ (0 < fr ∨ mf = true) := by simpa using hg
      rw [if_neg (by omega), if_pos hg2.2] at he0
      clear hg2
      go_wp2_with fail
      go_meet
      exact ⟨by rw [he0], rfl⟩
    | false =>
      have e9 : e0 = f := by
        rw [he0]
        by_cases hf : f = 0
        · have hg2 : ¬ (0 < fr ∨ mf = true) := by
            intro k
            rcases k with k | k
            · simp [hf, k] at hg
            · simp [hf, k] at hg
          rw [if_neg (by omega), if_neg hg2, hf]
        · rw [if_pos hf]
      clear he0
      go_wp2_with fail
      go_meet
      exact ⟨by rw [e9], rfl⟩
  case rest =>
  obtain ⟨rfl, hwc⟩ := hcut
  rw [hwc]
  clear hwc
  have k7 := KH6.out.cell 7
  have k8 := KH6.out.cell 8
  have k9 := KH6.out.cell 9
  have k10 := KH6.out.cell 10
  have k11 := KH6.out.cell 11
  have k12 := KH6.out.cell 12
  have k6 := KH6.out.cell 6
  have y0 := KQ16.out.cell 0
  have f0 := KQ16.out.frozen 0
  have x0 := KQ26.out.cell 0
  have g0 := KQ26.out.frozen 0
  have y1 := KQ16.out.cell 1
  have f1 := KQ16.out.frozen 1
  have x1 := KQ26.out.cell 1
  have g1 := KQ26.out.frozen 1
  have y2 := KQ16.out.cell 2
  have f2 := KQ16.out.frozen 2
  have x2 := KQ26.out.cell 2
  have g2 := KQ26.out.frozen 2
  have HSF := Lib.hid (show ∀ V, Blk V h 53 #[.int .i64 tos, .int .i64 id, .bool df, .bool mf, .int .i64 fr, .int .i64 ttl, .int .i64 p, .bool s6, .int .u64 sh, .int .u64 sl, .bool d6, .int .u64 dh, .int .u64 dl, .slice AO no co] → (V.cell? ⟨h, 7, none⟩ = some (.bool s6) ∧ V.cell? ⟨h, 8, none⟩ = some (.int .u64 sh) ∧ V.cell? ⟨h, 9, none⟩ = some (.int .u64 sl) ∧ V.cell? ⟨h, 10, none⟩ = some (.bool d6) ∧ V.cell? ⟨h, 11, none⟩ = some (.int .u64 dh) ∧ V.cell? ⟨h, 12, none⟩ = some (.int .u64 dl)) from fun V q => ⟨q.cell 7, q.cell 8, q.cell 9, q.cell 10, q.cell 11, q.cell 12⟩)
  have DR := Lib.hid (show ∀ (V : World) (g : Nat) (T : TypeId) (cs : Array Value), Blk V g T cs → Blk V.drew g T cs from fun V g T cs q => q.below (Below.refl _ _).drew q.lt)
  have n1 : h ≠ q1 := by have := QH.out; have := QQ.out; omega
  have n2 : h ≠ q2 := by have := QH.out; omega
  have n3 : q1 ≠ q2 := by have := QQ.out; omega
  have KHa := Lib.hid (afar w6 q1 h (.bool s6) (.int .u64 sh) (.int .u64 sl) _ _ n1 KH6.out)
  have KHab := Lib.hid (afar (((w6.setCell ⟨q1, 0, none⟩ (.bool s6)).setCell ⟨q1, 1, none⟩ (.int .u64 sh)).setCell ⟨q1, 2, none⟩ (.int .u64 sl)) q2 h (.bool d6) (.int .u64 dh) (.int .u64 dl) _ _ n2 KHa.out)
  have HS0 := Lib.hid (HSF.out w6.drew (DR.out _ _ _ _ KH6.out))
  have HSa := Lib.hid (HSF.out (((w6.setCell ⟨q1, 0, none⟩ (.bool s6)).setCell ⟨q1, 1, none⟩ (.int .u64 sh)).setCell ⟨q1, 2, none⟩ (.int .u64 sl)).drew (DR.out _ _ _ _ KHa.out))
  have HSab := Lib.hid (HSF.out ((((((w6.setCell ⟨q1, 0, none⟩ (.bool s6)).setCell ⟨q1, 1, none⟩ (.int .u64 sh)).setCell ⟨q1, 2, none⟩ (.int .u64 sl)).setCell ⟨q2, 0, none⟩ (.bool d6)).setCell ⟨q2, 1, none⟩ (.int .u64 dh)).setCell ⟨q2, 2, none⟩ (.int .u64 dl)).drew (DR.out _ _ _ _ KHab.out))
  have PBa := Lib.hid (afar w6 q1 q2 (.bool s6) (.int .u64 sh) (.int .u64 sl) _ _ (Ne.symm n3) KQ26.out)
  have PAa := Lib.hid (astore w6 q1 (.bool s6) (.int .u64 sh) (.int .u64 sl) _ _ _ KQ16.out)
  have PAab := Lib.hid (afar (((w6.setCell ⟨q1, 0, none⟩ (.bool s6)).setCell ⟨q1, 1, none⟩ (.int .u64 sh)).setCell ⟨q1, 2, none⟩ (.int .u64 sl)) q2 q1 (.bool d6) (.int .u64 dh) (.int .u64 dl) _ _ n3 PAa.out)
  have PBab := Lib.hid (astore (((w6.setCell ⟨q1, 0, none⟩ (.bool s6)).setCell ⟨q1, 1, none⟩ (.int .u64 sh)).setCell ⟨q1, 2, none⟩ (.int .u64 sl)) q2 (.bool d6) (.int .u64 dh) (.int .u64 dl) _ _ _ PBa.out)
  have OGab := Lib.hid ((aonly w6 q1 (.bool s6) (.int .u64 sh) (.int .u64 sl)).from B36.out (by have := EQ1.out; omega))
  have OAB := Lib.hid ((aonly (((w6.setCell ⟨q1, 0, none⟩ (.bool s6)).setCell ⟨q1, 1, none⟩ (.int .u64 sh)).setCell ⟨q1, 2, none⟩ (.int .u64 sl)) q2 (.bool d6) (.int .u64 dh) (.int .u64 dl)).from OGab.out (by have := EQ1.out; have := EQ2.out; omega))
  have xa0 := PBa.out.cell 0
  have ga0 := PBa.out.frozen 0
  have xa1 := PBa.out.cell 1
  have ga1 := PBa.out.frozen 1
  have xa2 := PBa.out.cell 2
  have ga2 := PBa.out.frozen 2
  clear n1 n2 n3
  obtain ⟨wd, hwd⟩ : ∃ wd, wd = ((((((w6.setCell ⟨q1, 0, none⟩ (.bool s6)).setCell ⟨q1, 1, none⟩ (.int .u64 sh)).setCell ⟨q1, 2, none⟩ (.int .u64 sl)).setCell ⟨q2, 0, none⟩ (.bool d6)).setCell ⟨q2, 1, none⟩ (.int .u64 dh)).setCell ⟨q2, 2, none⟩ (.int .u64 dl)).drew := ⟨_, rfl⟩
  have EWD := Lib.hid hwd
  clear hwd
  go_upto_region 21 with fail
  go_region_held3 (fun V => V.cell? ⟨h, 7, none⟩ = some (.bool s6) ∧ V.cell? ⟨h, 8, none⟩ = some (.int .u64 sh) ∧ V.cell? ⟨h, 9, none⟩ = some (.int .u64 sl) ∧ V.cell? ⟨h, 10, none⟩ = some (.bool d6) ∧ V.cell? ⟨h, 11, none⟩ = some (.int .u64 dh) ∧ V.cell? ⟨h, 12, none⟩ = some (.int .u64 dl)) (first | with_reducible assumption | with_reducible exact HS0.out | with_reducible exact HSa.out | with_reducible exact HSab.out) (first | fail)
  rw [← EWD.out]
  have KQ1d := Lib.hid (show Blk wd q1 32 #[.bool s6, .int .u64 sh, .int .u64 sl] from by rw [EWD.out]; exact DR.out _ _ _ _ PAab.out)
  have KQ2d := Lib.hid (show Blk wd q2 32 #[.bool d6, .int .u64 dh, .int .u64 dl] from by rw [EWD.out]; exact DR.out _ _ _ _ PBab.out)
  have B3d := Lib.hid (show Below w3.heap.size w3 wd from by rw [EWD.out]; exact OAB.out.drew)
  have SR := Lib.hid (show Sl wd AR m cr r from by rw [EWD.out]; exact (Sl_apart (Sl_apart SL6.out (aonly _ _ _ _ _) KQ16.out) (aonly _ _ _ _ _) PBa.out).below (Below.refl _ _).drew)
  clear EWD HSF DR KHa KHab HS0 HSa HSab PBa PAa PAab PBab OGab OAB k7 k8 k9 k10 k11 k12 k6 y0 f0 x0 g0 xa0 ga0 y1 f1 x1 g1 xa1 ga1 y2 f2 x2 g2 xa2 ga2
  have Bd := Lib.hid (B3.out.trans (B3d.out.mono B3.out.size))
  have KP1d := Lib.hid (KP1.out.below B3d.out KP1.out.lt)
  have KP2d := Lib.hid (KP2.out.below B3d.out KP2.out.lt)
  have SXd := Lib.hid (SX3.out.below B3d.out)
  have x0 := KP1d.out.cell 0
  have y0 := KP2d.out.cell 0
  have x1 := KP1d.out.cell 1
  have y1 := KP2d.out.cell 1
  have x2 := KP1d.out.cell 2
  have y2 := KP2d.out.cell 2
  have hoe := HOE.out
  have hne := HNE.out
  clear HOE HNE
  by_cases he : e0 = 0
  · rw [if_pos he] at hoe
    have te : (e0 == 0) = true := by simpa using he
    clear he
    by_cases hp : p ≠ 4 ∧ p ≠ 41
    · have t4 : (p != 4) = true := by simpa using hp.1
      have t41 : (p != 41) = true := by simpa using hp.2
      obtain rfl : oe = 14 := by rw [hoe]; unfold rightP; rw [if_pos hp]
      clear hoe hne hp
      clear HC HO HP HE0 HM KQ1d KQ2d KP1d KP2d KP1 KP2 SX3 SXd B3 B3d B4 B34 B36 B46 B56 E3 E4 E6 EH EP1 EP2 EQ1 EQ2 KQ14 KQ24
      as_aux_lemma =>
        go_wp2_with fail
        refine (HAW.out _).mono ?_
        rintro o w9 ⟨rfl, hb9⟩
        go_wp2_with fail
        go_ret
        exact ⟨rfl, Bd.out.trans (hb9.mono Bd.out.size)⟩
    · have hp2 : p = 4 ∨ p = 41 := by omega
      by_cases hm : m = 0
      · have e9 : numP r = (0, 2) := by unfold numP; rw [if_pos (by have := HM.out; omega)]
        obtain rfl : oe = 2 := by rw [hoe]; unfold rightP; rw [if_neg hp, e9]; rfl
        have cm : ((m : Int) == 0) = true := by simp [hm]
        have cmn : (m == 0) = true := by simp [hm]
        clear hoe hne hp hm
        go_upto_region 22 with fail
        go_cut [94] (fun v wx => v = .bool false ∧ wx = wd)
        case first =>
          rcases hp2 with h | h
          · have t4 : (p != 4) = false := by simp [h]
            go_wp2_with fail
            go_meet
            exact ⟨rfl, rfl⟩
          · have t4 : (p != 4) = true := by simp [h]
            have t41 : (p != 41) = false := by simp [h]
            go_wp2_with fail
            go_meet
            exact ⟨rfl, rfl⟩
        case rest =>
        obtain ⟨rfl, hwc⟩ := hcut
        rw [hwc]
        clear hwc
        clear HC HO HP HE0 HM KQ1d KQ2d KP1d KP2d KP1 KP2 SX3 SXd B3 B3d B4 B34 B36 B46 B56 E3 E4 E6 EH EP1 EP2 EQ1 EQ2 KQ14 KQ24
        as_aux_lemma =>
          go_wp2_with fail
          refine (HAW.out _).mono ?_
          rintro o w9 ⟨rfl, hb9⟩
          go_wp2_with fail
          go_ret
          exact ⟨rfl, Bd.out.trans (hb9.mono Bd.out.size)⟩
      · have hmm : 0 < m := by omega
        obtain ⟨br, ofr, rfl, hbr, hcr⟩ := lies_of SR.out.row (by have := SR.out.len; omega)
        have yr : wd.cell? ⟨br, ofr, none⟩ = some (.int .u8 (r.getD 0 0)) := hcr 0 (by have := SR.out.len; omega)
        have ub := SR.out.u8.get 0
        obtain ⟨y, hy⟩ : ∃ y, y = r.getD 0 0 := ⟨_, rfl⟩
        rw [← hy] at yr ub
        have HYR := Lib.hid hy
        have m1 : (0 : Int) < m := by omega
        have cm : ((m : Int) == 0) = false := by simp; omega
        have cmn : (m == 0) = false := by simp; omega
        clear hbr hcr hy
        have hrl : 0 < r.length := by have := HM.out; omega
        by_cases hy46 : y / 16 = 4 ∨ y / 16 = 6
        · obtain ⟨a4, ha4⟩ : ∃ a4, a4 = (y / 16 == 4) := ⟨_, rfl⟩
          obtain ⟨b4, hb4⟩ : ∃ b4, b4 = (p == 4) := ⟨_, rfl⟩
          have ta : (y / 16 == 4) = a4 := ha4.symm
          have tb : (p == 4) = b4 := hb4.symm
          have hq : oe = 14 ∧ a4 ≠ b4 := right_mis hoe hne hp2 hrl (by rw [← HYR.out]; exact hy46) (by rw [← HYR.out]; exact ha4) hb4
          obtain ⟨rfl, hab⟩ := hq
          have tc : (a4 != b4) = true := by simpa using hab
          have tc2 : (a4 == b4) = false := by simpa using hab
          clear hoe hne hp hrl ha4 hb4 hab
          go_upto_region 22 with fail
          go_cut [94] (fun v wx => v = .bool false ∧ wx = wd)
          case first =>
            rcases hp2 with h | h
            · have t4 : (p != 4) = false := by simp [h]
              go_wp2_with fail
              go_meet
              exact ⟨rfl, rfl⟩
            · have t4 : (p != 4) = true := by simp [h]
              have t41 : (p != 41) = false := by simp [h]
              go_wp2_with fail
              go_meet
              exact ⟨rfl, rfl⟩
          case rest =>
          obtain ⟨rfl, hwc⟩ := hcut
          rw [hwc]
          clear hwc
          go_upto_region 26 with fail
          go_cut [117] (fun v wx => v = .bool false ∧ wx = wd)
          case first =>
            rcases hy46 with h | h
            · have t4 : (y / 16 != 4) = false := by simp [h]
              go_wp2_with fail
              go_meet
              exact ⟨rfl, rfl⟩
            · have t4 : (y / 16 != 4) = true := by simp [h]
              have t6y : (y / 16 != 6) = false := by simp [h]
              go_wp2_with fail
              go_meet
              exact ⟨rfl, rfl⟩
          case rest =>
          obtain ⟨rfl, hwc⟩ := hcut
          rw [hwc]
          clear hwc
          clear HC HO HP HE0 HM KQ1d KQ2d KP1d KP2d KP1 KP2 SX3 SXd B3 B3d B4 B34 B36 B46 B56 E3 E4 E6 EH EP1 EP2 EQ1 EQ2 KQ14 KQ24
          as_aux_lemma =>
            go_wp2_with fail
            refine (HAW.out _).mono ?_
            rintro o w9 ⟨rfl, hb9⟩
            go_wp2_with fail
            go_ret
            exact ⟨rfl, Bd.out.trans (hb9.mono Bd.out.size)⟩
        · have h4 : y / 16 ≠ 4 := fun h => hy46 (.inl h)
          have h6 : y / 16 ≠ 6 := fun h => hy46 (.inr h)
          have e9 : numP r = (0, 10) := by
            unfold numP
            rw [if_neg (by omega), ← HYR.out, if_neg h4, if_neg h6]
          obtain rfl : oe = 10 := by rw [hoe]; unfold rightP; rw [if_neg hp, e9]; rfl
          have t4y : (y / 16 != 4) = true := by simpa using h4
          have t6y : (y / 16 != 6) = true := by simpa using h6
          clear hoe hne hp hrl h4 h6 hy46
          go_upto_region 22 with fail
          go_cut [94] (fun v wx => v = .bool false ∧ wx = wd)
          case first =>
            rcases hp2 with h | h
            · have t4 : (p != 4) = false := by simp [h]
              go_wp2_with fail
              go_meet
              exact ⟨rfl, rfl⟩
            · have t4 : (p != 4) = true := by simp [h]
              have t41 : (p != 41) = false := by simp [h]
              go_wp2_with fail
              go_meet
              exact ⟨rfl, rfl⟩
          case rest =>
          obtain ⟨rfl, hwc⟩ := hcut
          rw [hwc]
          clear hwc
          clear HC HO HP HE0 HM KQ1d KQ2d KP1d KP2d KP1 KP2 SX3 SXd B3 B3d B4 B34 B36 B46 B56 E3 E4 E6 EH EP1 EP2 EQ1 EQ2 KQ14 KQ24
          as_aux_lemma =>
            go_wp2_with fail
            refine (HAW.out _).mono ?_
            rintro o w9 ⟨rfl, hb9⟩
            go_wp2_with fail
            go_ret
            exact ⟨rfl, Bd.out.trans (hb9.mono Bd.out.size)⟩
  · rw [if_neg he] at hoe
    subst hoe
    have te : (oe == 0) = false := by simpa using he
    have te2 : (oe != 0) = true := by simpa using he
    have te3 : (oe == oe) = true := by simp
    clear he hne
    clear HC HO HP HE0 HM KQ1d KQ2d KP1d KP2d KP1 KP2 SX3 SXd B3 B3d B4 B34 B36 B46 B56 E3 E4 E6 EH EP1 EP2 EQ1 EQ2 KQ14 KQ24
    as_aux_lemma =>
      go_wp2_with fail
      refine (HAW.out _).mono ?_
      rintro o w9 ⟨rfl, hb9⟩
      go_wp2_with fail
      go_ret
      exact ⟨rfl, Bd.out.trans (hb9.mono Bd.out.size)⟩
end Go.Proofs.Ytodckfgfbcnkoaa.tunN4b
/- Layer 14: what lies in any bytes. -/
namespace Go.Proofs.Ytodckfgfbcnkoaa.tunN4g
open Go.ChangeShapes Go.WideShapes Go.ChangeAt Go.RowKit
open Go.Proofs.Ytodckfgfbcnkoaa.base Go.Proofs.Ytodckfgfbcnkoaa.rdrA Go.Proofs.Ytodckfgfbcnkoaa.rdrG Go.Proofs.Ytodckfgfbcnkoaa.sumB Go.Proofs.Ytodckfgfbcnkoaa.sixW Go.Proofs.Ytodckfgfbcnkoaa.sixM Go.Proofs.Ytodckfgfbcnkoaa.pktA Go.Proofs.Ytodckfgfbcnkoaa.pktB Go.Proofs.Ytodckfgfbcnkoaa.pktC Go.Proofs.Ytodckfgfbcnkoaa.pktE Go.Proofs.Ytodckfgfbcnkoaa.sixE Go.Proofs.Ytodckfgfbcnkoaa.tunW Go.Proofs.Ytodckfgfbcnkoaa.tunB Go.Proofs.Ytodckfgfbcnkoaa.tunG Go.Proofs.Ytodckfgfbcnkoaa.tunN
set_option linter.unusedVariables false
set_option linter.unusedSimpArgs false

set_option maxHeartbeats 8000000 in
set_option maxRecDepth 100000 in
theorem law_4g (A : Option Addr) (n0 n c : Nat) (mf : Bool) (fr p f e0 : Int) (he0 : e0 = if f ≠ 0 then f else if 0 < fr ∨ mf = true then 21 else 0) (s6 : Bool) (sh sl : Int) (d6 : Bool) (dh dl : Int) (r : List Int) (he00 : e0 = 0) (hrt : rightP r p = 0) (w : World) (HB : Hid (n = 0 ∨ 0 < n ∧ ∃ b off x, A = some ⟨b, off, none⟩ ∧ b < w.heap.size ∧ w.cell? ⟨b, off, none⟩ = some (.int .u8 x) ∧ x / 16 ≠ 6 ∧ 0 ≤ x ∧ x ≤ 255))
    (HC : Hid (∀ W, Calls Try.prog 10 #[.slice A n0 c] W fun o w' => o = .returned (.slice A n c) ∧ W = w'))
    (HO : Hid (∀ V, Below w.heap.size w V → Calls Try.prog 17 #[.slice A n c] V fun o w' => Below V.heap.size V w' ∧ ∃ (A5 : Option Addr) (c5 : Nat), o = .returned (.tuple #[.slice A5 r.length c5, .agg #[.bool s6, .int .u64 sh, .int .u64 sl], .agg #[.bool d6, .int .u64 dh, .int .u64 dl], .int .i64 0]) ∧ Sl w' A5 r.length c5 r))
    (HP : Hid (∀ V, Below w.heap.size w V → Calls Try.prog 21 #[.slice A n c] V fun o w' => Below V.heap.size V w' ∧ ∃ (tos id : Int) (df : Bool) (ttl : Int) (AO : Option Addr) (no co : Nat) (AR : Option Addr) (cr : Nat), o = .returned (.tuple #[.agg #[.int .i64 tos, .int .i64 id, .bool df, .bool mf, .int .i64 fr, .int .i64 ttl, .int .i64 p, .bool s6, .int .u64 sh, .int .u64 sl, .bool d6, .int .u64 dh, .int .u64 dl, .slice AO no co], .slice AR r.length cr, .int .i64 f]) ∧ Sl w' AR r.length cr r)) :
    Calls Try.prog 5 #[.slice A n0 c] w fun o w' => o = .returned (.bool true) ∧ Below w.heap.size w w' := by
  have HAW := Lib.hid awake_any
  have HE0 := Lib.hid he0
  obtain ⟨m, hm0⟩ : ∃ m, m = r.length := ⟨_, rfl⟩
  rw [← hm0] at HP HO
  have HM := Lib.hid hm0
  have HZ := Lib.hid he00
  have HRT := Lib.hid hrt
  clear hm0 he0 he00 hrt
  go_enter Try.func5, Try.ntmps5
  go_wp2_with fail
  refine (HC.out _).mono ?_
  rintro o w' ⟨rfl, rfl⟩
  go_wp2_with fail
  refine (HO.out _ (Below.refl _ _)).mono ?_
  rintro o w2 ⟨hb2, A5, c5, rfl, hs5⟩
  obtain ⟨p1, hp1⟩ : ∃ p1, p1 = w2.heap.size := ⟨_, rfl⟩
  obtain ⟨p2, hp2⟩ : ∃ p2, p2 = w2.heap.size + 1 := ⟨_, rfl⟩
  obtain ⟨w3, hw3⟩ : ∃ w3, w3 = (w2.alloc (.cells #[.bool s6, .int .u64 sh, .int .u64 sl] 32)).alloc (.cells #[.bool d6, .int .u64 dh, .int .u64 dl] 32) := ⟨_, rfl⟩
  have E3 := Lib.hid hw3
  have EP1 := Lib.hid hp1
  have EP2 := Lib.hid hp2
  have B23 := Lib.hid (show Below w2.heap.size w2 w3 from by rw [hw3]; exact ((Below.refl _ _).alloc (Nat.le_refl _) _).alloc (by simp) _)
  have B3 := Lib.hid (hb2.trans (B23.out.mono hb2.size))
  have SX3 := Lib.hid (Sl.below hs5 B23.out)
  have KP1 := Lib.hid (show Blk w3 p1 32 #[.bool s6, .int .u64 sh, .int .u64 sl] from by rw [hw3, hp1]; exact (Blk.new w2 _ _).below ((Below.refl _ _).alloc (Nat.le_refl _) _) (Blk.new w2 _ _).lt)
  have KP2 := Lib.hid (show Blk w3 p2 32 #[.bool d6, .int .u64 dh, .int .u64 dl] from by
    have h9 := Blk.new (w2.alloc (.cells #[.bool s6, .int .u64 sh, .int .u64 sl] 32)) 32 #[.bool d6, .int .u64 dh, .int .u64 dl]
    rw [← hw3] at h9
    rw [hp2]
    simpa using h9)
  clear hb2 hs5 hp1 hp2 hw3
  go_upto_region 3 with fail
  rw [← E3.out, ← EP2.out, ← EP1.out]
  obtain ⟨q1, hq1⟩ : ∃ q1, q1 = w3.heap.size := ⟨_, rfl⟩
  obtain ⟨q2, hq2⟩ : ∃ q2, q2 = q1 + 1 := ⟨_, rfl⟩
  obtain ⟨w4, hw4⟩ : ∃ w4, w4 = (w3.alloc (.cells #[.bool false, .int .u64 0, .int .u64 0] 32)).alloc (.cells #[.bool false, .int .u64 0, .int .u64 0] 32) := ⟨_, rfl⟩
  have E4 := Lib.hid hw4
  have EQ1 := Lib.hid hq1
  have EQ2 := Lib.hid hq2
  have QQ := Lib.hid (show q1 < q2 from by omega)
  have B34 := Lib.hid (show Below w3.heap.size w3 w4 from by rw [hw4]; exact ((Below.refl _ _).alloc (Nat.le_refl _) _).alloc (by simp) _)
  have B4 := Lib.hid (B3.out.trans (B34.out.mono B3.out.size))
  have KQ14 := Lib.hid (show Blk w4 q1 32 #[.bool false, .int .u64 0, .int .u64 0] from by rw [hw4, hq1]; exact (Blk.new w3 _ _).below ((Below.refl _ _).alloc (Nat.le_refl _) _) (Blk.new w3 _ _).lt)
  have KQ24 := Lib.hid (show Blk w4 q2 32 #[.bool false, .int .u64 0, .int .u64 0] from by
    have h9 := Blk.new (w3.alloc (.cells #[.bool false, .int .u64 0, .int .u64 0] 32)) 32 #[.bool false, .int .u64 0, .int .u64 0]
    rw [← hw4] at h9
    rw [hq2, hq1]
    simpa using h9)
  clear hq1 hq2 hw4
  go_upto_region 7 with fail
  rw [← EQ1.out, ← EQ2.out, ← E4.out]
  go_cut [38] (fun v wx => v = .bool false ∧ wx = w4)
  case first =>
    rcases HB.out with h | ⟨h, b, off, x, rfl, hb, hy, hx, x0⟩
    · subst h
      go_wp2_with fail
      go_meet
      exact ⟨rfl, rfl⟩
    · have t6 : (x / 16 == 6) = false := by simpa using hx
      have j1 : (0 : Int) < n := by omega
      have jd : decide ((0 : Int) < n) = true := decide_eq_true j1
      have jdn : decide (0 < n) = true := decide_eq_true h
      have y0 : w4.cell? ⟨b, off, none⟩ = some (.int .u8 x) := (B4.out.cell (p := ⟨b, off, none⟩) hb).trans hy
      clear hx hb hy
      go_wp2_with fail
      go_meet
      exact ⟨rfl, rfl⟩
  case rest =>
  obtain ⟨rfl, hwc⟩ := hcut
  rw [hwc]
  clear hwc
  go_wp2_with fail
  refine (HP.out _ B4.out).mono ?_
  rintro o w5 ⟨hb5, tos, id, df, ttl, AO, no, co, AR, cr, rfl, hsl⟩
  obtain ⟨w6, hw6⟩ : ∃ w6, w6 = w5.alloc (.cells #[.int .i64 tos, .int .i64 id, .bool df, .bool mf, .int .i64 fr, .int .i64 ttl, .int .i64 p, .bool s6, .int .u64 sh, .int .u64 sl, .bool d6, .int .u64 dh, .int .u64 dl, .slice AO no co] 53) := ⟨_, rfl⟩
  obtain ⟨h, hh⟩ : ∃ h, h = w5.heap.size := ⟨_, rfl⟩
  have EH := Lib.hid hh
  have E6 := Lib.hid hw6
  have B56 := Lib.hid (show Below w5.heap.size w5 w6 from by rw [hw6]; exact (Below.refl _ _).alloc (Nat.le_refl _) _)
  have B46 := Lib.hid (hb5.trans (B56.out.mono hb5.size))
  have KH6 := Lib.hid (show Blk w6 h 53 #[.int .i64 tos, .int .i64 id, .bool df, .bool mf, .int .i64 fr, .int .i64 ttl, .int .i64 p, .bool s6, .int .u64 sh, .int .u64 sl, .bool d6, .int .u64 dh, .int .u64 dl, .slice AO no co] from by rw [hw6, hh]; exact Blk.new w5 _ _)
  have KQ16 := Lib.hid (KQ14.out.below B46.out KQ14.out.lt)
  have KQ26 := Lib.hid (KQ24.out.below B46.out KQ24.out.lt)
  have B36 := Lib.hid (B34.out.trans (B46.out.mono B34.out.size))
  have SL6 := Lib.hid (hsl.below B56.out)
  have QH := Lib.hid (show q2 < h from by have := KQ24.out.lt; have := hb5.size; omega)
  clear hw6 hb5 hh hsl
  go_upto_region 16 with fail
  rw [← E6.out, ← EH.out]
  go_upto_region 17 with fail
  go_cut [77] (fun v wx => v = .bool (f == 0 && (decide (0 < fr) || mf)) ∧ wx = w6)
  case first =>
    by_cases hf : f = 0
    · have tf : (f == 0) = true := by simpa using hf
      clear hf
      have k3 := KH6.out.cell 3
      have k4 := KH6.out.cell 4
      by_cases hg : 0 < fr
      · have tg : decide (0 < fr) = true := decide_eq_true hg
        clear hg
        go_wp2_with fail
        go_meet
        exact ⟨by rw [tf, tg]; rfl, rfl⟩
      · have tg : decide (0 < fr) = false := decide_eq_false hg
        clear hg
        go_wp2_with fail
        go_meet
        exact ⟨by rw [tf, tg]; rfl, rfl⟩
    · have tf : (f == 0) = false := by simpa using hf
      clear hf
      go_wp2_with fail
      go_meet
      exact ⟨by rw [tf]; rfl, rfl⟩
  case rest =>
  obtain ⟨rfl, hwc⟩ := hcut
  rw [hwc]
  clear hwc
  go_upto_if 77 with fail
  go_cut [9] (fun v wx => v = .int .i64 e0 ∧ wx = w6)
  case first =>
    have he0 := HE0.out
    cases hg : (f == 0 && (decide (0 < fr) || mf)) with
    | true =>
      have hg2 : f = 0 ∧ (0 < fr ∨ mf = true) := by simpa using hg
      rw [if_neg (by omega), if_pos hg2.2] at he0
      clear hg2
      go_wp2_with fail
      go_meet
      exact ⟨by rw [he0], rfl⟩
    | false =>
      have e9 : e0 = f := by
        rw [he0]
        by_cases hf : f = 0
        · have hg2 : ¬ (0 < fr ∨ mf = true) := by
            intro k
            rcases k with k | k
            · simp [hf, k] at hg
            · simp [hf, k] at hg
          rw [if_neg (by omega), if_neg hg2, hf]
        · rw [if_pos hf]
      clear he0
      go_wp2_with fail
      go_meet
      exact ⟨by rw [e9], rfl⟩
  case rest =>
  obtain ⟨rfl, hwc⟩ := hcut
  rw [hwc]
  clear hwc
  have k7 := KH6.out.cell 7
  have k8 := KH6.out.cell 8
  have k9 := KH6.out.cell 9
  have k10 := KH6.out.cell 10
  have k11 := KH6.out.cell 11
  have k12 := KH6.out.cell 12
  have k6 := KH6.out.cell 6
  have y0 := KQ16.out.cell 0
  have f0 := KQ16.out.frozen 0
  have x0 := KQ26.out.cell 0
  have g0 := KQ26.out.frozen 0
  have y1 := KQ16.out.cell 1
  have f1 := KQ16.out.frozen 1
  have x1 := KQ26.out.cell 1
  have g1 := KQ26.out.frozen 1
  have y2 := KQ16.out.cell 2
  have f2 := KQ16.out.frozen 2
  have x2 := KQ26.out.cell 2
  have g2 := KQ26.out.frozen 2
  have HSF := Lib.hid (show ∀ V, Blk V h 53 #[.int .i64 tos, .int .i64 id, .bool df, .bool mf, .int .i64 fr, .int .i64 ttl, .int .i64 p, .bool s6, .int .u64 sh, .int .u64 sl, .bool d6, .int .u64 dh, .int .u64 dl, .slice AO no co] → (V.cell? ⟨h, 7, none⟩ = some (.bool s6) ∧ V.cell? ⟨h, 8, none⟩ = some (.int .u64 sh) ∧ V.cell? ⟨h, 9, none⟩ = some (.int .u64 sl) ∧ V.cell? ⟨h, 10, none⟩ = some (.bool d6) ∧ V.cell? ⟨h, 11, none⟩ = some (.int .u64 dh) ∧ V.cell? ⟨h, 12, none⟩ = some (.int .u64 dl)) from fun V q => ⟨q.cell 7, q.cell 8, q.cell 9, q.cell 10, q.cell 11, q.cell 12⟩)
  have DR := Lib.hid (show ∀ (V : World) (g : Nat) (T : TypeId) (cs : Array Value), Blk V g T cs → Blk V.drew g T cs from fun V g T cs q => q.below (Below.refl _ _).drew q.lt)
  have n1 : h ≠ q1 := by have := QH.out; have := QQ.out; omega
  have n2 : h ≠ q2 := by have := QH.out; omega
  have n3 : q1 ≠ q2 := by have := QQ.out; omega
  have KHa := Lib.hid (afar w6 q1 h (.bool s6) (.int .u64 sh) (.int .u64 sl) _ _ n1 KH6.out)
  have KHab := Lib.hid (afar (((w6.setCell ⟨q1, 0, none⟩ (.bool s6)).setCell ⟨q1, 1, none⟩ (.int .u64 sh)).setCell ⟨q1, 2, none⟩ (.int .u64 sl)) q2 h (.bool d6) (.int .u64 dh) (.int .u64 dl) _ _ n2 KHa.out)
  have HS0 := Lib.hid (HSF.out w6.drew (DR.out _ _ _ _ KH6.out))
  have HSa := Lib.hid (HSF.out (((w6.setCell ⟨q1, 0, none⟩ (.bool s6)).setCell ⟨q1, 1, none⟩ (.int .u64 sh)).setCell ⟨q1, 2, none⟩ (.int .u64 sl)).drew (DR.out _ _ _ _ KHa.out))
  have HSab := Lib.hid (HSF.out ((((((w6.setCell ⟨q1, 0, none⟩ (.bool s6)).setCell ⟨q1, 1, none⟩ (.int .u64 sh)).setCell ⟨q1, 2, none⟩ (.int .u64 sl)).setCell ⟨q2, 0, none⟩ (.bool d6)).setCell ⟨q2, 1, none⟩ (.int .u64 dh)).setCell ⟨q2, 2, none⟩ (.int .u64 dl)).drew (DR.out _ _ _ _ KHab.out))
  have PBa := Lib.hid (afar w6 q1 q2 (.bool s6) (.int .u64 sh) (.int .u64 sl) _ _ (Ne.symm n3) KQ26.out)
  have PAa := Lib.hid (astore w6 q1 (.bool s6) (.int .u64 sh) (.int .u64 sl) _ _ _ KQ16.out)
  have PAab := Lib.hid (afar (((w6.setCell ⟨q1, 0, none⟩ (.bool s6)).setCell ⟨q1, 1, none⟩ (.int .u64 sh)).setCell ⟨q1, 2, none⟩ (.int .u64 sl)) q2 q1 (.bool d6) (.int .u64 dh) (.int .u64 dl) _ _ n3 PAa.out)
  have PBab := Lib.hid (astore (((w6.setCell ⟨q1, 0, none⟩ (.bool s6)).setCell ⟨q1, 1, none⟩ (.int .u64 sh)).setCell ⟨q1, 2, none⟩ (.int .u64 sl)) q2 (.bool d6) (.int .u64 dh) (.int .u64 dl) _ _ _ PBa.out)
  have OGab := Lib.hid ((aonly w6 q1 (.bool s6) (.int .u64 sh) (.int .u64 sl)).from B36.out (by have := EQ1.out; omega))
  have OAB := Lib.hid ((aonly (((w6.setCell ⟨q1, 0, none⟩ (.bool s6)).setCell ⟨q1, 1, none⟩ (.int .u64 sh)).setCell ⟨q1, 2, none⟩ (.int .u64 sl)) q2 (.bool d6) (.int .u64 dh) (.int .u64 dl)).from OGab.out (by have := EQ1.out; have := EQ2.out; omega))
  have xa0 := PBa.out.cell 0
  have ga0 := PBa.out.frozen 0
  have xa1 := PBa.out.cell 1
  have ga1 := PBa.out.frozen 1
  have xa2 := PBa.out.cell 2
  have ga2 := PBa.out.frozen 2
  clear n1 n2 n3
  obtain ⟨wd, hwd⟩ : ∃ wd, wd = ((((((w6.setCell ⟨q1, 0, none⟩ (.bool s6)).setCell ⟨q1, 1, none⟩ (.int .u64 sh)).setCell ⟨q1, 2, none⟩ (.int .u64 sl)).setCell ⟨q2, 0, none⟩ (.bool d6)).setCell ⟨q2, 1, none⟩ (.int .u64 dh)).setCell ⟨q2, 2, none⟩ (.int .u64 dl)).drew := ⟨_, rfl⟩
  have EWD := Lib.hid hwd
  clear hwd
  go_upto_region 21 with fail
  go_region_held3 (fun V => V.cell? ⟨h, 7, none⟩ = some (.bool s6) ∧ V.cell? ⟨h, 8, none⟩ = some (.int .u64 sh) ∧ V.cell? ⟨h, 9, none⟩ = some (.int .u64 sl) ∧ V.cell? ⟨h, 10, none⟩ = some (.bool d6) ∧ V.cell? ⟨h, 11, none⟩ = some (.int .u64 dh) ∧ V.cell? ⟨h, 12, none⟩ = some (.int .u64 dl)) (first | with_reducible assumption | with_reducible exact HS0.out | with_reducible exact HSa.out | with_reducible exact HSab.out) (first | fail)
  rw [← EWD.out]
  have KQ1d := Lib.hid (show Blk wd q1 32 #[.bool s6, .int .u64 sh, .int .u64 sl] from by rw [EWD.out]; exact DR.out _ _ _ _ PAab.out)
  have KQ2d := Lib.hid (show Blk wd q2 32 #[.bool d6, .int .u64 dh, .int .u64 dl] from by rw [EWD.out]; exact DR.out _ _ _ _ PBab.out)
  have B3d := Lib.hid (show Below w3.heap.size w3 wd from by rw [EWD.out]; exact OAB.out.drew)
  have SR := Lib.hid (show Sl wd AR m cr r from by rw [EWD.out]; exact (Sl_apart (Sl_apart SL6.out (aonly _ _ _ _ _) KQ16.out) (aonly _ _ _ _ _) PBa.out).below (Below.refl _ _).drew)
  clear EWD HSF DR KHa KHab HS0 HSa HSab PBa PAa PAab PBab OGab OAB k7 k8 k9 k10 k11 k12 k6 y0 f0 x0 g0 xa0 ga0 y1 f1 x1 g1 xa1 ga1 y2 f2 x2 g2 xa2 ga2
  have Bd := Lib.hid (B3.out.trans (B3d.out.mono B3.out.size))
  have KP1d := Lib.hid (KP1.out.below B3d.out KP1.out.lt)
  have KP2d := Lib.hid (KP2.out.below B3d.out KP2.out.lt)
  have SXd := Lib.hid (SX3.out.below B3d.out)
  have x0 := KP1d.out.cell 0
  have y0 := KP2d.out.cell 0
  have x1 := KP1d.out.cell 1
  have y1 := KP2d.out.cell 1
  have x2 := KP1d.out.cell 2
  have y2 := KP2d.out.cell 2
  have u0 := KQ1d.out.cell 0
  have v0 := KQ2d.out.cell 0
  have u1 := KQ1d.out.cell 1
  have v1 := KQ2d.out.cell 1
  have u2 := KQ1d.out.cell 2
  have v2 := KQ2d.out.cell 2
  have he := HZ.out
  have te : (e0 == 0) = true := by simpa using he
  have te2 : (e0 != 0) = false := by simpa using he
  have hrt := HRT.out
  have hnr := right_is hrt
  obtain ⟨hp2, hm2, hy2⟩ := hnr
  have hmm : 0 < m := by have := HM.out; omega
  clear he hrt
  obtain ⟨br, ofr, rfl, hbr, hcr⟩ := lies_of SR.out.row (by have := SR.out.len; omega)
  have yr : wd.cell? ⟨br, ofr, none⟩ = some (.int .u8 (r.getD 0 0)) := hcr 0 (by have := SR.out.len; omega)
  have ub := SR.out.u8.get 0
  obtain ⟨y, hy⟩ : ∃ y, y = r.getD 0 0 := ⟨_, rfl⟩
  rw [← hy] at yr ub
  have HYR := Lib.hid hy
  have m1 : (0 : Int) < m := by omega
  have cm : ((m : Int) == 0) = false := by simp; omega
  have cmn : (m == 0) = false := by simp; omega
  clear hbr hcr hy
  have hy2 : (p = 4 ∧ y / 16 = 4) ∨ (p = 41 ∧ y / 16 = 6) := by rw [HYR.out]; exact hy2
  have hy46 : y / 16 = 4 ∨ y / 16 = 6 := by omega
  have HY2 := Lib.hid hy2
  clear hy2 hm2
  go_upto_region 22 with fail
  go_cut [94] (fun v wx => v = .bool false ∧ wx = wd)
  case first =>
    rcases hp2 with h | h
    · have t4 : (p != 4) = false := by simp [h]
      go_wp2_with fail
      go_meet
      exact ⟨rfl, rfl⟩
    · have t4 : (p != 4) = true := by simp [h]
      have t41 : (p != 41) = false := by simp [h]
      go_wp2_with fail
      go_meet
      exact ⟨rfl, rfl⟩
  case rest =>
  obtain ⟨rfl, hwc⟩ := hcut
  rw [hwc]
  clear hwc
  clear hp2
  go_upto_region 26 with fail
  go_cut [117] (fun v wx => v = .bool false ∧ wx = wd)
  case first =>
    rcases hy46 with h | h
    · have t4 : (y / 16 != 4) = false := by simp [h]
      go_wp2_with fail
      go_meet
      exact ⟨rfl, rfl⟩
    · have t4 : (y / 16 != 4) = true := by simp [h]
      have t6y : (y / 16 != 6) = false := by simp [h]
      go_wp2_with fail
      go_meet
      exact ⟨rfl, rfl⟩
  case rest =>
  obtain ⟨rfl, hwc⟩ := hcut
  rw [hwc]
  clear hwc
  clear hy46
  obtain ⟨a4, ha4⟩ : ∃ a4, a4 = (y / 16 == 4) := ⟨_, rfl⟩
  have ta : (y / 16 == 4) = a4 := ha4.symm
  have tb : (p == 4) = a4 := by
    rw [ha4]
    rcases HY2.out with ⟨h1, h2⟩ | ⟨h1, h2⟩
    · simp [h1, h2]
    · simp [h1, h2]
  have tc : (a4 != a4) = false := by simp
  have tc2 : (a4 == a4) = true := by simp
  obtain ⟨ST, hST⟩ : ∃ ST, ST = strOfNums r := ⟨_, rfl⟩
  have cv1 : (convert 22 9 (.slice A5 m c5)).run Try.prog wd = .ok (.string ST) wd := by rw [hST]; exact sixN.conv_row SXd.out.row SXd.out.len
  have cv2 : (convert 22 9 (.slice (some ⟨br, ofr, none⟩) m cr)).run Try.prog wd = .ok (.string ST) wd := by rw [hST]; exact sixN.conv_row SR.out.row SR.out.len
  have ADS : ∀ W : World, (binOp .eql 32 (.agg #[.bool s6, .int .u64 sh, .int .u64 sl]) (.agg #[.bool s6, .int .u64 sh, .int .u64 sl])).run Try.prog W = .ok (.bool true) W := fun W => by go_simp
  have ADD : ∀ W : World, (binOp .eql 32 (.agg #[.bool d6, .int .u64 dh, .int .u64 dl]) (.agg #[.bool d6, .int .u64 dh, .int .u64 dl])).run Try.prog W = .ok (.bool true) W := fun W => by go_simp
  clear hST ha4
  go_wp2_with fail
  refine (HAW.out _).mono ?_
  rintro o w9 ⟨rfl, hb9⟩
  go_wp2_with fail
  go_ret
  exact ⟨rfl, Bd.out.trans (hb9.mono Bd.out.size)⟩
end Go.Proofs.Ytodckfgfbcnkoaa.tunN4g
