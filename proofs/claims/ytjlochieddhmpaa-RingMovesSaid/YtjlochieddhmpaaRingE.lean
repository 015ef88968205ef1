/- Layer 39: items take places until none is free. -/
import Derived.Test.YtjlochieddhmpaaRingD
import Derived.WalkMore
namespace Go.Proofs.Ytjlochieddhmpaa.ringE
open Go.ChangeShapes Go.WideShapes Go.ChangeAt Go.RowKit
open Go.Proofs.Ytjlochieddhmpaa.base Go.Proofs.Ytjlochieddhmpaa.ringA Go.Proofs.Ytjlochieddhmpaa.ringB Go.Proofs.Ytjlochieddhmpaa.ringC Go.Proofs.Ytjlochieddhmpaa.ringD
set_option linter.unusedVariables false

theorem runs_stop {size : Nat} {sk : Nat → Nat} {ws : Nat → Int} {most : Int} {s : Rs} (j d : Nat) (h : (runs size sk ws most s j).free = 0) : runs size sk ws most s (j + d) = runs size sk ws most s j := by
  induction d with
  | zero => rfl
  | succ d ih =>
    show (if (runs size sk ws most s (j + d)).free = 0 then runs size sk ws most s (j + d) else stepI size sk ws most (runs size sk ws most s (j + d)) (j + d)) = _
    rw [ih, if_pos h]
theorem runs_next {size : Nat} {sk : Nat → Nat} {ws : Nat → Int} {most : Int} {s : Rs} (j : Nat) (h : 0 < (runs size sk ws most s j).free) : runs size sk ws most s (j + 1) = stepI size sk ws most (runs size sk ws most s j) j := by
  show (if (runs size sk ws most s j).free = 0 then runs size sk ws most s j else stepI size sk ws most (runs size sk ws most s j) j) = _
  rw [if_neg (by omega)]
theorem step_few {size : Nat} {sk : Nat → Nat} {ws : Nat → Int} {most : Int} {s : Rs} {i : Nat} (h : s.due i + ws i < most) : stepI size sk ws most s i = ⟨s.P, s.nx, upd s.due i (s.due i + ws i), s.free⟩ := by unfold stepI; rw [if_pos h]
theorem step_many {size : Nat} {sk : Nat → Nat} {ws : Nat → Int} {most : Int} {s : Rs} {i : Nat} (h : ¬ s.due i + ws i < most) : stepI size sk ws most s i = takeS size (sk i) ⟨s.P, s.nx, upd s.due i (s.due i + ws i - most), s.free⟩ i := by unfold stepI; rw [if_neg h]
/-- Items in memory: a number, and what it weighs. -/
def ItemsAt (w : World) (b off m : Nat) (ids ws : Nat → Int) : Prop := ∀ j, j < m → w.cell? ⟨b, off + j * 2, none⟩ = some (.int .u64 (ids j)) ∧ w.cell? ⟨b, off + j * 2 + 1, none⟩ = some (.int .i64 (ws j))
theorem ItemsAt.below {w w' : World} {b off m B : Nat} {ids ws : Nat → Int} (h : ItemsAt w b off m ids ws) (hb : Below B w w') (hB : b < B) : ItemsAt w' b off m ids ws := fun j hj =>
  ⟨(hb.cell (p := ⟨b, off + j * 2, none⟩) hB).trans (h j hj).1, (hb.cell (p := ⟨b, off + j * 2 + 1, none⟩) hB).trans (h j hj).2⟩
set_option maxRecDepth 100000 in
set_option maxHeartbeats 4000000 in
theorem fill_any (ra g tb B size m ib io c : Nat) (sk : Nat → Nat) (ids ws : Nat → Int) (most : Int) (s : Rs) (w : World) (h : MemR w ra g tb size m sk s) (hO : OkR size m most s) (hI : ItemsR size m sk ws most) (hfs : s.free = size) (hm : m ≤ 1000) (hs : size ≤ 65537) (hmost : most ≤ 65535) (hB : B ≤ ra ∧ B ≤ g ∧ B ≤ tb) (hit : ItemsAt w ib io m ids ws) (hib : ib < B) :
    Calls Try.prog 21 #[.pointer (some ⟨ra, 0, none⟩), .slice (some ⟨tb, 0, none⟩) m m, .slice (some ⟨ib, io, none⟩) m c, .int .i64 most] w fun e w' => e = .returned (.tuple #[]) ∧ MemR w' ra g tb size m sk (finR size m sk ws most s) ∧ Below B w w' := by
  have s2 := hI.pr.1
  have HM := Lib.hid h
  have HI := Lib.hid hI
  have HIT := Lib.hid (fun wx (hb : Below B w wx) => hit.below hb hib)
  have HOK := Lib.hid (fun k => rnd_ok hI hO k)
  have HFIN := Lib.hid (fun k => fin_of hI hO (by omega) k)
  have c0 : w.cell? ⟨ra, 0, none⟩ = some (.slice (some ⟨g, 0, none⟩) size size) := h.r.cell 0
  have HFS := Lib.hid hfs
  clear h hO hI hfs hit
  go_enter Try.func21, Try.ntmps21
  go_step3
  go_wp2_with fail
  go_step3
  go_wp2_with fail
  go_loopw [8, 9] (fun fr _ wr => ∃ (k f : Nat), fr = .int .i64 f ∧ Hid (f = (rnd size m sk ws most s k).free) ∧ 0 < f ∧ f ≤ size ∧ MemR wr ra g tb size m sk (rnd size m sk ws most s k) ∧ Below B w wr) (fun fr _ _ => (intOf fr).toNat)
  case atStart => exact ⟨0, size, rfl, HFS.out.symm, by omega, Nat.le_refl _, HM.out, Below.refl _ _⟩
  case round =>
    obtain ⟨k, f, rfl, hf, f0, f1, hMR, hbel⟩ := hrel
    have KM := Lib.hid hMR
    have KB := Lib.hid hbel
    have KO := Lib.hid (HOK.out k)
    have KD := Lib.hid (show ∀ j, j ≤ m → (runs size sk ws most (rnd size m sk ws most s k) j).free = 0 → finR size m sk ws most s = runs size sk ws most (rnd size m sk ws most s k) j from fun j hj h0 => by
      obtain ⟨d, hd⟩ := Nat.exists_eq_add_of_le hj
      have e : rnd size m sk ws most s (k + 1) = runs size sk ws most (rnd size m sk ws most s k) j := by
        have e2 := runs_stop (size := size) (sk := sk) (ws := ws) (most := most) (s := rnd size m sk ws most s k) j d h0
        rw [← hd] at e2
        exact e2
      rw [← HFIN.out (k + 1) (by rw [e]; exact h0), e])
    have KN := Lib.hid (show rnd size m sk ws most s (k + 1) = runs size sk ws most (rnd size m sk ws most s k) m from rfl)
    obtain ⟨S, hS⟩ : ∃ S, S = rnd size m sk ws most s k := ⟨_, rfl⟩
    rw [← hS] at KM KO KD KN hf
    have KF := Lib.hid hf.out
    clear hMR hbel hS hf
    go_wp2_with fail
    go_loopw [17, 8, 9] (fun i fr _ wr => ∃ (j q : Nat), j ≤ m ∧ i = .int .i64 j ∧ fr = .int .i64 q ∧ Hid (q = (runs size sk ws most S j).free) ∧ 0 < q ∧ q ≤ f ∧ MemR wr ra g tb size m sk (runs size sk ws most S j) ∧ Below B w wr) (fun i _ _ _ => m - (intOf i).toNat)
    case atStart => exact ⟨0, f, by omega, rfl, rfl, KF.out, f0, Nat.le_refl _, KM.out, KB.out⟩
    case round =>
      obtain ⟨j, q, hj, rfl, rfl, hq, q0, q1, hMR, hbel⟩ := hrel
      have LB := Lib.hid hbel
      have LM := Lib.hid hMR
      have LO := Lib.hid (runs_ok HI.out KO.out j hj)
      by_cases hlt : j < m
      · have p1 : decide ((j : Int) < (m : Int)) = true := decide_eq_true (by omega)
        have LN := Lib.hid (runs_next (size := size) (sk := sk) (ws := ws) (most := most) (s := S) j (by have := hq.out; omega))
        obtain ⟨s1, hs1⟩ : ∃ s1, s1 = runs size sk ws most S j := ⟨_, rfl⟩
        rw [← hs1] at LM LO LN hq
        have LQ := Lib.hid hq.out
        obtain ⟨_, _, _, c3, f3, _, _⟩ := LM.out.cells j hlt
        have f32 := f3 (j * 3 + 2)
        have cw := (HIT.out _ LB.out j hlt).2
        have hd := LO.out.dv j hlt
        have w0 := HI.out.w0 j hlt
        have w1 := HI.out.w1 j hlt
        clear hMR hbel hq hs1 f3
        generalize hdu : s1.due j = d at *
        generalize hwv : ws j = v at *
        have HDU := Lib.hid hdu
        have HWV := Lib.hid hwv
        clear hdu hwv
        have e1 : IntKind.i64.wrap (d + v) = d + v := IntWalk.i64_in _ (by omega)
        by_cases hdv : d + v < most
        · have q2 : decide (d + v < most) = true := decide_eq_true hdv
          have HX := Lib.hid (show MemR (wr.setCell ⟨tb, j * 3 + 2, none⟩ (.int .i64 (d + v))).drew ra g tb size m sk (runs size sk ws most S (j + 1)) ∧ Hid (q = (runs size sk ws most S (j + 1)).free) by
            rw [LN.out, step_few (by rw [HDU.out, HWV.out]; exact hdv), HDU.out, HWV.out]
            exact ⟨(LM.out.setDue j hlt (d + v)).drew, LQ.out⟩)
          have HBX := Lib.hid (show Below B w (wr.setCell ⟨tb, j * 3 + 2, none⟩ (.int .i64 (d + v))).drew from (LB.out.setCell (p := ⟨tb, j * 3 + 2, none⟩) hB.2.2 _).drew)
          go_wp2_with fail
          go_region
          go_wp2_with fail
          refine ⟨⟨j + 1, q, by omega, by go_num, rfl, HX.out.2, q0, q1, HX.out.1, HBX.out⟩, ?_⟩
          simp [intOf]
          omega
        · have q2 : decide (d + v < most) = false := decide_eq_false hdv
          have e2 : IntKind.i64.wrap (d + v - most) = d + v - most := IntWalk.i64_in _ (by omega)
          have HX := Lib.hid (show MemR ((wr.setCell ⟨tb, j * 3 + 2, none⟩ (.int .i64 (d + v))).setCell ⟨tb, j * 3 + 2, none⟩ (.int .i64 (d + v - most))).drew ra g tb size m sk ⟨s1.P, s1.nx, upd s1.due j (d + v - most), s1.free⟩ by
            have := ((LM.out.setDue j hlt (d + v)).setDue j hlt (d + v - most)).drew
            dsimp only at this
            rw [upd_upd] at this
            exact this)
          have HBX := Lib.hid (show Below B w ((wr.setCell ⟨tb, j * 3 + 2, none⟩ (.int .i64 (d + v))).setCell ⟨tb, j * 3 + 2, none⟩ (.int .i64 (d + v - most))).drew from ((LB.out.setCell (p := ⟨tb, j * 3 + 2, none⟩) hB.2.2 _).setCell (p := ⟨tb, j * 3 + 2, none⟩) hB.2.2 _).drew)
          have LS := Lib.hid (show runs size sk ws most S (j + 1) = takeS size (sk j) ⟨s1.P, s1.nx, upd s1.due j (d + v - most), s1.free⟩ j by
            rw [LN.out, step_many (by rw [HDU.out, HWV.out]; exact hdv), HDU.out, HWV.out])
          have HTK := Lib.hid (take_any ra g tb B size m j sk ⟨s1.P, s1.nx, upd s1.due j (d + v - most), s1.free⟩ _ HX.out hlt hm hs (by have := HI.out.s1 j hlt; omega) (free_of HI.out.pr (HI.out.s0 j hlt) (HI.out.s1 j hlt) _ (LO.out.nv j hlt) (by have h1 := LO.out.fv; have h2 := LQ.out; show 0 < cfree s1.P size; omega)) hB (fun q hq hP => by rcases LO.out.pv q hq with h | h; exact h; exact absurd hP (by show ¬ s1.P q < 0; omega)))
          rw [← LS.out] at HTK
          have LF := Lib.hid (show (runs size sk ws most S (j + 1)).free = q - 1 by rw [LS.out, LQ.out]; rfl)
          have e3 : IntKind.i64.wrap ((q : Int) - 1) = ((q - 1 : Nat) : Int) := by rw [show (q : Int) - 1 = ((q - 1 : Nat) : Int) by omega]; exact IntWalk.i64_in _ (by omega)
          have KDJ := Lib.hid (KD.out (j + 1) (by omega))
          by_cases hq1 : q = 1
          · subst hq1
            go_wp2_with fail
            go_region
            go_wp2_with fail
            refine HTK.out.mono ?_
            rintro e w3 ⟨rfl, h3, b3⟩
            rw [← KDJ.out (by rw [LF.out])] at h3
            have HM3 := Lib.hid h3
            have HB3 := Lib.hid (HBX.out.trans b3)
            clear h3 b3
            go_wp2_with fail
            first
              | rw [Exit.noGoto_normal]
              | simp only [Exit.noGoto]
            exact bodyPost_end (v := .tuple #[]) (by simp [results, Try.results21, go_sem]) rfl ⟨rfl, HM3.out, HB3.out⟩
          · have q3 : (((q - 1 : Nat) : Int) == 0) = false := by simp; omega
            have q4 : (q - 1 == 0) = false := by simp; omega
            go_wp2_with fail
            go_region
            go_wp2_with fail
            refine HTK.out.mono ?_
            rintro e w3 ⟨rfl, h3, b3⟩
            have HM3 := Lib.hid h3
            have HB3 := Lib.hid (HBX.out.trans b3)
            clear h3 b3
            go_wp2_with fail
            refine ⟨⟨j + 1, q - 1, by omega, by go_num, rfl, LF.out.symm, by omega, by omega, HM3.out, HB3.out⟩, ?_⟩
            simp [intOf]
            omega
      · obtain rfl : j = m := by omega
        have p1 : decide ((j : Int) < (j : Int)) = false := decide_eq_false (by omega)
        have hdec := Lib.hid (show q < f by
          obtain ⟨i, hi, hw⟩ := HI.out.top
          have h1 := (runs_free HI.out KO.out (by have := KF.out; omega) j (Nat.le_refl _)).2 i hi hw
          have h2 := hq.out
          have h3 := KF.out
          omega)
        have HX := Lib.hid (show ∃ (k f : Nat), Value.int .i64 (q : Int) = .int .i64 f ∧ Hid (f = (rnd size j sk ws most s k).free) ∧ 0 < f ∧ f ≤ size ∧ MemR wr ra g tb size j sk (rnd size j sk ws most s k) ∧ Below B w wr from
          ⟨k + 1, q, rfl, by rw [KN.out]; exact hq, q0, by omega, by rw [KN.out]; exact hMR, hbel⟩)
        clear hMR hbel hq
        go_wp2_with fail
        go_roundw
        case rel => exact HX.out
        case measure => have := hdec.out; simp [intOf]; omega
end Go.Proofs.Ytjlochieddhmpaa.ringE
