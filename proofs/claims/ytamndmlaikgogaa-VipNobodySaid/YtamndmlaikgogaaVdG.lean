/- Layer 19: what needs no tree. -/
import Derived.Test.YtamndmlaikgogaaVdF
import Derived.Deep.RegionHeld3
import Derived.Deep.DeepCutAuto
namespace Go.Proofs.Ytamndmlaikgogaa.vdG
open Go.ChangeShapes Go.WideShapes Go.ChangeAt Go.RowKit
open Go.Proofs.Ytamndmlaikgogaa.base Go.Proofs.Ytamndmlaikgogaa.dfA Go.Proofs.Ytamndmlaikgogaa.treB Go.Proofs.Ytamndmlaikgogaa.treE Go.Proofs.Ytamndmlaikgogaa.treF Go.Proofs.Ytamndmlaikgogaa.vdD Go.Proofs.Ytamndmlaikgogaa.vdA Go.Proofs.Ytamndmlaikgogaa.vdE
set_option linter.unusedVariables false

/-- What needs no tree, in numbers. -/
def plZ (vn wn : Nat) (fac dom : Int) (a6 : Bool) (ah al : Int) (b6 : Bool) (bh bl : Int) : Int :=
  if fac < 100 ∨ 1000 < fac ∨ (dom ≠ 2 ∧ dom ≠ 3) then 5
  else if a6 = true ∨ rightB a6 ah al = false ∨ (b6 = false ∧ zA b6 bh bl = false) then 18
  else if 64 < vn ∨ 64 < wn then 6 else 0
set_option maxHeartbeats 8000000 in
set_option maxRecDepth 100000 in
theorem plain_any (nA : Option Addr) (nn nC : Nat) (vA : Option Addr) (vn vC : Nat) (wA : Option Addr) (wn wC : Nat) (fac dom : Int) (a6 : Bool) (ah al : Int) (b6 : Bool) (bh bl : Int) (w : World) :
    Calls Try.prog 26 #[.agg #[.slice nA nn nC, .slice vA vn vC, .slice wA wn wC, .int .i64 fac, .int .i64 dom, .bool a6, .int .u64 ah, .int .u64 al, .bool b6, .int .u64 bh, .int .u64 bl]] w (RetI (plZ vn wn fac dom a6 ah al b6 bh bl) w) := by
  obtain ⟨Q, hQ⟩ : ∃ Q, Q = plZ vn wn fac dom a6 ah al b6 bh bl := ⟨_, rfl⟩
  have HP := Lib.hid (show ∀ v : Int, Q = v → ∀ W, Below w.heap.size w W → RetI Q w (.returned (.int .i64 v)) W from fun v h W hb => ⟨by rw [h], hb⟩)
  have HQ := Lib.hid (show Q = if fac < 100 ∨ 1000 < fac ∨ (dom ≠ 2 ∧ dom ≠ 3) then 5 else if a6 = true ∨ rightB a6 ah al = false ∨ (b6 = false ∧ zA b6 bh bl = false) then 18 else if 64 < vn ∨ 64 < wn then 6 else 0 from hQ)
  rw [← hQ]
  obtain ⟨w1, hw1⟩ : ∃ w1, w1 = w.alloc (.cells #[.slice nA nn nC, .slice vA vn vC, .slice wA wn wC, .int .i64 fac, .int .i64 dom, .bool a6, .int .u64 ah, .int .u64 al, .bool b6, .int .u64 bh, .int .u64 bl] 30) := ⟨_, rfl⟩
  have E1 := Lib.hid hw1
  have Q0 := Lib.hid (show Blk w1 w.heap.size 30 #[.slice nA nn nC, .slice vA vn vC, .slice wA wn wC, .int .i64 fac, .int .i64 dom, .bool a6, .int .u64 ah, .int .u64 al, .bool b6, .int .u64 bh, .int .u64 bl] from by rw [hw1]; exact Blk.new w _ _)
  have B0 := Lib.hid (show Below w.heap.size w w1 from hw1 ▸ (Below.refl w.heap.size w).alloc (Nat.le_refl _) _)
  have HR := Lib.hid (fun W => right_any a6 ah al W)
  have HSZ := Lib.hid (show w.heap.size < w1.heap.size from Q0.out.lt)
  have d0 : w1.cell? ⟨w.heap.size, 0, none⟩ = some (.slice nA nn nC) := Q0.out.cell 0
  have d1 : w1.cell? ⟨w.heap.size, 1, none⟩ = some (.slice vA vn vC) := Q0.out.cell 1
  have d2 : w1.cell? ⟨w.heap.size, 2, none⟩ = some (.slice wA wn wC) := Q0.out.cell 2
  have d3 : w1.cell? ⟨w.heap.size, 3, none⟩ = some (.int .i64 fac) := Q0.out.cell 3
  have d4 : w1.cell? ⟨w.heap.size, 4, none⟩ = some (.int .i64 dom) := Q0.out.cell 4
  have d5 : w1.cell? ⟨w.heap.size, 5, none⟩ = some (.bool a6) := Q0.out.cell 5
  have d6 : w1.cell? ⟨w.heap.size, 6, none⟩ = some (.int .u64 ah) := Q0.out.cell 6
  have d7 : w1.cell? ⟨w.heap.size, 7, none⟩ = some (.int .u64 al) := Q0.out.cell 7
  have d8 : w1.cell? ⟨w.heap.size, 8, none⟩ = some (.bool b6) := Q0.out.cell 8
  have d9 : w1.cell? ⟨w.heap.size, 9, none⟩ = some (.int .u64 bh) := Q0.out.cell 9
  have d10 : w1.cell? ⟨w.heap.size, 10, none⟩ = some (.int .u64 bl) := Q0.out.cell 10
  clear hw1 hQ
  go_enter Try.func26, Try.ntmps26
  go_upto_region 1 with fail
  rw [← E1.out]
  go_cut [3, 4] (fun v3 v4 wx => ∃ p q : Nat, v3 = .pointer (some ⟨p, 0, none⟩) ∧ v4 = .pointer (some ⟨q, 0, none⟩) ∧ Hid (Blk wx p 27 #[.bool a6, .int .u64 ah, .int .u64 al] ∧ Blk wx q 27 #[.bool b6, .int .u64 bh, .int .u64 bl] ∧ Below w1.heap.size w1 wx))
  case first =>
    have s0 : w1.drew.cell? ⟨w.heap.size, 5, none⟩ = some (.bool a6) ∧ w1.drew.cell? ⟨w.heap.size, 6, none⟩ = some (.int .u64 ah) ∧ w1.drew.cell? ⟨w.heap.size, 7, none⟩ = some (.int .u64 al) ∧ w1.drew.cell? ⟨w.heap.size, 8, none⟩ = some (.bool b6) ∧ w1.drew.cell? ⟨w.heap.size, 9, none⟩ = some (.int .u64 bh) ∧ w1.drew.cell? ⟨w.heap.size, 10, none⟩ = some (.int .u64 bl) := ⟨d5, d6, d7, d8, d9, d10⟩
    have HS := Lib.hid (show ∀ W, Below w1.heap.size w1 W → W.cell? ⟨w.heap.size, 5, none⟩ = some (.bool a6) ∧ W.cell? ⟨w.heap.size, 6, none⟩ = some (.int .u64 ah) ∧ W.cell? ⟨w.heap.size, 7, none⟩ = some (.int .u64 al) ∧ W.cell? ⟨w.heap.size, 8, none⟩ = some (.bool b6) ∧ W.cell? ⟨w.heap.size, 9, none⟩ = some (.int .u64 bh) ∧ W.cell? ⟨w.heap.size, 10, none⟩ = some (.int .u64 bl) from fun W hb => by
      have h : Blk W w.heap.size 30 #[.slice nA nn nC, .slice vA vn vC, .slice wA wn wC, .int .i64 fac, .int .i64 dom, .bool a6, .int .u64 ah, .int .u64 al, .bool b6, .int .u64 bh, .int .u64 bl] := (hb.block _ Q0.out.lt).trans Q0.out
      exact ⟨h.cell 5, h.cell 6, h.cell 7, h.cell 8, h.cell 9, h.cell 10⟩)
    go_region_held3 (fun V => V.cell? ⟨w.heap.size, 5, none⟩ = some (.bool a6) ∧ V.cell? ⟨w.heap.size, 6, none⟩ = some (.int .u64 ah) ∧ V.cell? ⟨w.heap.size, 7, none⟩ = some (.int .u64 al) ∧ V.cell? ⟨w.heap.size, 8, none⟩ = some (.bool b6) ∧ V.cell? ⟨w.heap.size, 9, none⟩ = some (.int .u64 bh) ∧ V.cell? ⟨w.heap.size, 10, none⟩ = some (.int .u64 bl)) (first | assumption | exact HS.out _ (by repeat (first | exact Below.refl _ _ | refine bel_drew ?_ | refine bel_alloc ?_ _ | refine bel_set ?_ (by simp) _))) (first | fail)
    · go_wp2_with fail
      go_meet
      exact ⟨w1.heap.size, w1.heap.size + 1, rfl, rfl, Lib.hid ⟨((Blk.new w1 _ _).alloc _).drew, (by have h := Blk.new (w1.alloc (.cells #[.bool a6, .int .u64 ah, .int .u64 al] 27)) 27 #[.bool b6, .int .u64 bh, .int .u64 bl]; rw [show (w1.alloc (.cells #[.bool a6, .int .u64 ah, .int .u64 al] 27)).heap.size = w1.heap.size + 1 from by simp] at h; exact h.drew), (((Below.refl _ _).alloc (Nat.le_refl _) _).alloc (by simp) _).drew⟩⟩
    · go_wp2_with fail
      go_meet
      exact ⟨w1.heap.size + 1, w1.heap.size, rfl, rfl, Lib.hid ⟨(by have h := Blk.new (w1.alloc (.cells #[.bool b6, .int .u64 bh, .int .u64 bl] 27)) 27 #[.bool a6, .int .u64 ah, .int .u64 al]; rw [show (w1.alloc (.cells #[.bool b6, .int .u64 bh, .int .u64 bl] 27)).heap.size = w1.heap.size + 1 from by simp] at h; exact h.drew), ((Blk.new w1 _ _).alloc _).drew, (((Below.refl _ _).alloc (Nat.le_refl _) _).alloc (by simp) _).drew⟩⟩
  case rest =>
    obtain ⟨p, q, rfl, rfl, hh⟩ := hcut
    have KP := Lib.hid hh.out.1
    have KQ := Lib.hid hh.out.2.1
    have BC := Lib.hid hh.out.2.2
    have KC := Lib.hid (show Blk wc w.heap.size 30 #[.slice nA nn nC, .slice vA vn vC, .slice wA wn wC, .int .i64 fac, .int .i64 dom, .bool a6, .int .u64 ah, .int .u64 al, .bool b6, .int .u64 bh, .int .u64 bl] from (BC.out.block _ Q0.out.lt).trans Q0.out)
    have BW := Lib.hid (B0.out.trans (BC.out.mono B0.out.size))
    clear d0 d1 d2 d3 d4 d5 d6 d7 d8 d9 d10 hh
    have d0 : wc.cell? ⟨w.heap.size, 0, none⟩ = some (.slice nA nn nC) := KC.out.cell 0
    have d1 : wc.cell? ⟨w.heap.size, 1, none⟩ = some (.slice vA vn vC) := KC.out.cell 1
    have d2 : wc.cell? ⟨w.heap.size, 2, none⟩ = some (.slice wA wn wC) := KC.out.cell 2
    have d3 : wc.cell? ⟨w.heap.size, 3, none⟩ = some (.int .i64 fac) := KC.out.cell 3
    have d4 : wc.cell? ⟨w.heap.size, 4, none⟩ = some (.int .i64 dom) := KC.out.cell 4
    have d5 : wc.cell? ⟨w.heap.size, 5, none⟩ = some (.bool a6) := KC.out.cell 5
    have d6 : wc.cell? ⟨w.heap.size, 6, none⟩ = some (.int .u64 ah) := KC.out.cell 6
    have d7 : wc.cell? ⟨w.heap.size, 7, none⟩ = some (.int .u64 al) := KC.out.cell 7
    have d8 : wc.cell? ⟨w.heap.size, 8, none⟩ = some (.bool b6) := KC.out.cell 8
    have d9 : wc.cell? ⟨w.heap.size, 9, none⟩ = some (.int .u64 bh) := KC.out.cell 9
    have d10 : wc.cell? ⟨w.heap.size, 10, none⟩ = some (.int .u64 bl) := KC.out.cell 10
    have p0 : wc.cell? ⟨p, 0, none⟩ = some (.bool a6) := KP.out.cell 0
    have p1 : wc.cell? ⟨p, 1, none⟩ = some (.int .u64 ah) := KP.out.cell 1
    have p2 : wc.cell? ⟨p, 2, none⟩ = some (.int .u64 al) := KP.out.cell 2
    have q0 : wc.cell? ⟨q, 0, none⟩ = some (.bool b6) := KQ.out.cell 0
    have q1 : wc.cell? ⟨q, 1, none⟩ = some (.int .u64 bh) := KQ.out.cell 1
    have q2 : wc.cell? ⟨q, 2, none⟩ = some (.int .u64 bl) := KQ.out.cell 2
    have HNE := fun W => addr_ne b6 bh bl W
    have HZN := Lib.hid (show nzA b6 bh bl = !(zA b6 bh bl) from by unfold nzA zA; cases b6 <;> cases (bh == 0) <;> cases (bl == 0) <;> rfl)
    rw [HZN.out] at HNE
    obtain ⟨zb, hzb⟩ : ∃ zb, zb = zA b6 bh bl := ⟨_, rfl⟩
    rw [← hzb] at HNE HQ
    clear hzb HZN
    have HB5 := Lib.hid (show (fac < 100 ∨ 1000 < fac ∨ (dom ≠ 2 ∧ dom ≠ 3)) → Q = 5 from fun h => by rw [HQ.out, if_pos h])
    have HQ2 := Lib.hid (show ¬ (fac < 100 ∨ 1000 < fac ∨ (dom ≠ 2 ∧ dom ≠ 3)) → Q = if a6 = true ∨ rightB a6 ah al = false ∨ (b6 = false ∧ zb = false) then 18 else if 64 < vn ∨ 64 < wn then 6 else 0 from fun h => by rw [HQ.out, if_neg h])
    by_cases c1 : fac < 100
    · have HX := Lib.hid (HB5.out (by omega))
      have t1 : decide (fac < 100) = true := decide_eq_true c1
      clear c1
      go_wp2_with fail
      go_ret
      exact HP.out 5 HX.out _ BW.out
    have t1 : decide (fac < 100) = false := decide_eq_false c1
    by_cases c2 : 1000 < fac
    · have HX := Lib.hid (HB5.out (by omega))
      have t2 : decide (1000 < fac) = true := decide_eq_true c2
      clear c1 c2
      go_wp2_with fail
      go_ret
      exact HP.out 5 HX.out _ BW.out
    have t2 : decide (1000 < fac) = false := decide_eq_false c2
    obtain ⟨p2, h2⟩ : ∃ b : Bool, (dom != 2) = b := ⟨_, rfl⟩
    obtain ⟨p3, h3⟩ : ∃ b : Bool, (dom != 3) = b := ⟨_, rfl⟩
    have H2 := Lib.hid (show dom ≠ 2 ↔ p2 = true from by rw [← h2]; exact bne_iff_ne.symm)
    have H3 := Lib.hid (show dom ≠ 3 ↔ p3 = true from by rw [← h3]; exact bne_iff_ne.symm)
    by_cases c3 : p2 = true ∧ p3 = true
    · have HX := Lib.hid (HB5.out (.inr (.inr ⟨H2.out.mpr c3.1, H3.out.mpr c3.2⟩)))
      obtain ⟨rfl, rfl⟩ := c3
      clear c1 c2
      go_wp2_with fail
      go_ret
      exact HP.out 5 HX.out _ BW.out
    have HQ2 := Lib.hid (HQ2.out (fun h => by
      rcases h with h | h | h
      · omega
      · omega
      · exact c3 ⟨H2.out.mp h.1, H3.out.mp h.2⟩))
    have c4 : p2 = false ∨ (p2 = true ∧ p3 = false) := by
      cases p2
      · exact .inl rfl
      · cases p3
        · exact .inr ⟨rfl, rfl⟩
        · exact absurd ⟨rfl, rfl⟩ c3
    clear c1 c2 c3 HB5 H2 H3 HQ
    have HB6 := Lib.hid (show (a6 = true ∨ rightB a6 ah al = false ∨ (b6 = false ∧ zb = false)) → Q = 18 from fun h => by rw [HQ2.out, if_pos h])
    have HQ3 := Lib.hid (show ¬ (a6 = true ∨ rightB a6 ah al = false ∨ (b6 = false ∧ zb = false)) → Q = if 64 < vn ∨ 64 < wn then 6 else 0 from fun h => by rw [HQ2.out, if_neg h])
    obtain ⟨rb, hrb⟩ : ∃ rb, rb = rightB a6 ah al := ⟨_, rfl⟩
    rw [← hrb] at HR HB6 HQ3
    clear hrb HQ2
    have HFIN := Lib.hid (show 64 < vn ∨ 64 < wn ∨ (vn ≤ 64 ∧ wn ≤ 64) from by omega)
    rcases c4 with rfl | ⟨rfl, rfl⟩
    all_goals
      cases a6 with
      | true =>
        have HX := Lib.hid (HB6.out (.inl rfl))
        go_wp2_with fail
        go_ret
        exact HP.out 18 HX.out _ BW.out
      | false =>
        cases rb with
        | false =>
          have HX := Lib.hid (HB6.out (.inr (.inl rfl)))
          go_wp2_with fail
          refine (HR.out _).mono ?_
          rintro o w2 ⟨rfl, hb2⟩
          have B2 := Lib.hid (BW.out.trans (hb2.mono BW.out.size))
          have K2 := Lib.hid (KC.out.below hb2 KC.out.lt)
          have KQ2 := Lib.hid (KQ.out.below hb2 KQ.out.lt)
          have g1 := K2.out.cell 1
          have g2 := K2.out.cell 2
          have r0 := KQ2.out.cell 0
          have r1 := KQ2.out.cell 1
          have r2 := KQ2.out.cell 2
          clear hb2
          go_wp2_with fail
          go_ret
          exact HP.out 18 HX.out _ B2.out
        | true =>
          have cz : (b6 = false ∧ zb = false) ∨ (b6 = false ∧ zb = true) ∨ b6 = true := by cases b6 <;> cases zb <;> simp
          rcases cz with ⟨rfl, rfl⟩ | cz
          · have HX := Lib.hid (HB6.out (.inr (.inr ⟨rfl, rfl⟩)))
            go_wp2_with fail
            refine (HR.out _).mono ?_
            rintro o w2 ⟨rfl, hb2⟩
            have B2 := Lib.hid (BW.out.trans (hb2.mono BW.out.size))
            have K2 := Lib.hid (KC.out.below hb2 KC.out.lt)
            have KQ2 := Lib.hid (KQ.out.below hb2 KQ.out.lt)
            have g1 := K2.out.cell 1
            have g2 := K2.out.cell 2
            have r0 := KQ2.out.cell 0
            have r1 := KQ2.out.cell 1
            have r2 := KQ2.out.cell 2
            clear hb2
            go_wp2_with fail
            go_ret
            exact HP.out 18 HX.out _ B2.out
          · have HQ4 := Lib.hid (HQ3.out (fun h => by
              rcases h with h | h | h
              · cases h
              · cases h
              · rcases cz with cz | cz
                · rw [cz.2] at h; cases h.2
                · rw [cz] at h; cases h.1))
            rcases HFIN.out with f1 | f1 | ⟨f1, f2⟩
            · have HX := Lib.hid (show Q = 6 from by rw [HQ4.out, if_pos (.inl f1)])
              have t6 : decide ((64 : Int) < (vn : Int)) = true := decide_eq_true (by omega)
              clear f1
              rcases cz with ⟨rfl, rfl⟩ | rfl
              all_goals
                go_wp2_with fail
                refine (HR.out _).mono ?_
                rintro o w2 ⟨rfl, hb2⟩
                have B2 := Lib.hid (BW.out.trans (hb2.mono BW.out.size))
                have K2 := Lib.hid (KC.out.below hb2 KC.out.lt)
                have KQ2 := Lib.hid (KQ.out.below hb2 KQ.out.lt)
                have g1 := K2.out.cell 1
                have g2 := K2.out.cell 2
                have r0 := KQ2.out.cell 0
                have r1 := KQ2.out.cell 1
                have r2 := KQ2.out.cell 2
                clear hb2
                go_wp2_with fail
                go_ret
                exact HP.out 6 HX.out _ B2.out
            · have HX := Lib.hid (show Q = 6 from by rw [HQ4.out, if_pos (.inr f1)])
              have t7 : decide ((64 : Int) < (wn : Int)) = true := decide_eq_true (by omega)
              clear f1
              rcases cz with ⟨rfl, rfl⟩ | rfl
              all_goals
                by_cases f3 : 64 < vn
                · have t6 : decide ((64 : Int) < (vn : Int)) = true := decide_eq_true (by omega)
                  clear f3
                  go_wp2_with fail
                  refine (HR.out _).mono ?_
                  rintro o w2 ⟨rfl, hb2⟩
                  have B2 := Lib.hid (BW.out.trans (hb2.mono BW.out.size))
                  have K2 := Lib.hid (KC.out.below hb2 KC.out.lt)
                  have KQ2 := Lib.hid (KQ.out.below hb2 KQ.out.lt)
                  have g1 := K2.out.cell 1
                  have g2 := K2.out.cell 2
                  have r0 := KQ2.out.cell 0
                  have r1 := KQ2.out.cell 1
                  have r2 := KQ2.out.cell 2
                  clear hb2
                  go_wp2_with fail
                  go_ret
                  exact HP.out 6 HX.out _ B2.out
                · have t6 : decide ((64 : Int) < (vn : Int)) = false := decide_eq_false (by omega)
                  clear f3
                  go_wp2_with fail
                  refine (HR.out _).mono ?_
                  rintro o w2 ⟨rfl, hb2⟩
                  have B2 := Lib.hid (BW.out.trans (hb2.mono BW.out.size))
                  have K2 := Lib.hid (KC.out.below hb2 KC.out.lt)
                  have KQ2 := Lib.hid (KQ.out.below hb2 KQ.out.lt)
                  have g1 := K2.out.cell 1
                  have g2 := K2.out.cell 2
                  have r0 := KQ2.out.cell 0
                  have r1 := KQ2.out.cell 1
                  have r2 := KQ2.out.cell 2
                  clear hb2
                  go_wp2_with fail
                  go_ret
                  exact HP.out 6 HX.out _ B2.out
            · have HX := Lib.hid (show Q = 0 from by rw [HQ4.out, if_neg (by omega)])
              have t6 : decide ((64 : Int) < (vn : Int)) = false := decide_eq_false (by omega)
              have t7 : decide ((64 : Int) < (wn : Int)) = false := decide_eq_false (by omega)
              clear f1 f2
              rcases cz with ⟨rfl, rfl⟩ | rfl
              all_goals
                go_wp2_with fail
                refine (HR.out _).mono ?_
                rintro o w2 ⟨rfl, hb2⟩
                have B2 := Lib.hid (BW.out.trans (hb2.mono BW.out.size))
                have K2 := Lib.hid (KC.out.below hb2 KC.out.lt)
                have KQ2 := Lib.hid (KQ.out.below hb2 KQ.out.lt)
                have g1 := K2.out.cell 1
                have g2 := K2.out.cell 2
                have r0 := KQ2.out.cell 0
                have r1 := KQ2.out.cell 1
                have r2 := KQ2.out.cell 2
                clear hb2
                go_wp2_with fail
                go_ret
                exact HP.out 0 HX.out _ B2.out
end Go.Proofs.Ytamndmlaikgogaa.vdG
