/- Layer 9: which headers may be. -/
import Derived.Test.YtndekicblbpkjaaSixG
namespace Go.Proofs.Ytndekicblbpkjaa.sixH
open Go.ChangeShapes Go.WideShapes Go.ChangeAt Go.RowKit
open Go.Proofs.Ytndekicblbpkjaa.base Go.Proofs.Ytndekicblbpkjaa.octA Go.Proofs.Ytndekicblbpkjaa.octB Go.Proofs.Ytndekicblbpkjaa.octC Go.Proofs.Ytndekicblbpkjaa.octF Go.Proofs.Ytndekicblbpkjaa.octK Go.Proofs.Ytndekicblbpkjaa.net Go.Proofs.Ytndekicblbpkjaa.rdrA Go.Proofs.Ytndekicblbpkjaa.rdrG Go.Proofs.Ytndekicblbpkjaa.sumA Go.Proofs.Ytndekicblbpkjaa.sumB Go.Proofs.Ytndekicblbpkjaa.udpA Go.Proofs.Ytndekicblbpkjaa.tcpC Go.Proofs.Ytndekicblbpkjaa.sixW Go.Proofs.Ytndekicblbpkjaa.sixM Go.Proofs.Ytndekicblbpkjaa.sixA Go.Proofs.Ytndekicblbpkjaa.sixB Go.Proofs.Ytndekicblbpkjaa.sixC Go.Proofs.Ytndekicblbpkjaa.sixD Go.Proofs.Ytndekicblbpkjaa.sixE Go.Proofs.Ytndekicblbpkjaa.sixF Go.Proofs.Ytndekicblbpkjaa.sixG
set_option linter.unusedVariables false

/-- A header that may be. -/
structure RightH (h : Hs) (l : List XP) : Prop where
  c0 : 0 ≤ h.cls
  c1 : h.cls ≤ 255
  h0 : 0 ≤ h.hop
  h1 : h.hop ≤ 255
  l0 : 0 ≤ h.lab
  l1 : h.lab ≤ 1048575
  s6 : h.s6 = true
  d6 : h.d6 = true
  p0 : 0 ≤ h.p
  p1 : h.p ≤ 255
  pn : isX h.p = false
  e : RightE l
def RightP (w : World) (h : Hs) (l : List XP) (o : Ending) (w' : World) : Prop := ∃ v, o = .returned (.bool v) ∧ (v = true ↔ RightH h l) ∧ Below w.heap.size w w'
theorem slice_toX (b off n c t : Nat) (ht : t ≤ c) (hc : 0 < c) :
    (∀ W : World, (Instr.slice 27 (.slice (some ⟨b, off, none⟩) n c) none (some (.int .i64 (t : Int))) none).run Try.prog W = .ok (.slice (some ⟨b, off, none⟩) t c) W) ∧
    (∀ W : World, (Instr.sliceAt 27 (.slice (some ⟨b, off, none⟩) n c) none (some (.int .i64 (t : Int))) none).run Try.prog W = .ok (.slice (some ⟨b, off, none⟩) t c) W) := by
  have hu : Try.prog.underlying 27 = some (.slice (Try.prog.elem 27)) := by kernel_rfl
  have hz : ∀ W : World, (sizeOf (Try.prog.elem 27)).run Try.prog W = .ok 2 W := fun _ => by kernel_rfl
  have key : ∀ W : World, (Instr.slice 27 (.slice (some ⟨b, off, none⟩) n c) none (some (.int .i64 (t : Int))) none).run Try.prog W = .ok (.slice (some ⟨b, off, none⟩) t c) W := by
    intro W
    rw [run_slice_h W 27 (some ⟨b, off, none⟩) n c hu .i64 (t : Int) (by omega) (by omega), hz]
    simp only [Result.andThen, sliced, Int.toNat_natCast, Option.map_some, Nat.sub_zero, Addr.add_lit, Nat.zero_mul, Nat.add_zero]
    split <;> rfl
  exact ⟨key, fun W => by rw [run_sliceAt_slice W 27 _ _ _ _ hu, key]⟩
theorem map_take (l : List Xt) (k : Nat) : (l.take k).map Xt.re = (l.map Xt.re).take k := by rw [List.map_take]
set_option maxHeartbeats 8000000 in
set_option maxRecDepth 100000 in
theorem right_any (h : Hs) (A : Option Addr) (n c : Nat) (l : List Xt) (w : World) (hl : l.length = n) (hr : RdX w A l) (hnc : n ≤ c) (hn : n ≤ 9223372036854775807) (hd : ∀ x ∈ l, x.d.length ≤ 9223372036854775807) :
    Calls Try.prog 19 #[.agg (h.cells (.slice A n c))] w (RightP w h (l.map Xt.re)) := by
  obtain ⟨cls, lab, hop, s6, sh, sl, d6, dh, dl, p⟩ := h
  obtain ⟨w1, hw1⟩ : ∃ w1, w1 = w.alloc (.cells #[.int .i64 cls, .int .i64 lab, .int .i64 hop, .bool s6, .int .u64 sh, .int .u64 sl, .bool d6, .int .u64 dh, .int .u64 dl, .slice A n c, .int .i64 p] 29) := ⟨_, rfl⟩
  have E1 := Lib.hid hw1
  have BA := Lib.hid (show Below w.heap.size w w1 from by rw [hw1]; exact (Below.refl _ _).alloc (Nat.le_refl _) _)
  have KB := Lib.hid (show Blk w1 w.heap.size 29 #[.int .i64 cls, .int .i64 lab, .int .i64 hop, .bool s6, .int .u64 sh, .int .u64 sl, .bool d6, .int .u64 dh, .int .u64 dl, .slice A n c, .int .i64 p] from by rw [hw1]; exact Blk.new w _ _)
  have HR1 := Lib.hid (hr.below BA.out)
  have HL := Lib.hid hl
  have HD := Lib.hid hd
  have IS := Lib.hid (fun V => is_any p V)
  have HNO := Lib.hid (show ∀ w', ¬ RightH ⟨cls, lab, hop, s6, sh, sl, d6, dh, dl, p⟩ (l.map Xt.re) → Below w.heap.size w w' → RightP w ⟨cls, lab, hop, s6, sh, sl, d6, dh, dl, p⟩ (l.map Xt.re) (.returned (.bool false)) w' from fun w' h1 h2 => ⟨false, rfl, ⟨fun h => (by cases h), fun h => absurd h h1⟩, h2⟩)
  have HYES := Lib.hid (show ∀ w', RightH ⟨cls, lab, hop, s6, sh, sl, d6, dh, dl, p⟩ (l.map Xt.re) → Below w.heap.size w w' → RightP w ⟨cls, lab, hop, s6, sh, sl, d6, dh, dl, p⟩ (l.map Xt.re) (.returned (.bool true)) w' from fun w' h1 h2 => ⟨true, rfl, ⟨fun _ => h1, fun _ => rfl⟩, h2⟩)
  obtain ⟨HH, hHH⟩ : ∃ HH, HH = RightH ⟨cls, lab, hop, s6, sh, sl, d6, dh, dl, p⟩ (l.map Xt.re) := ⟨_, rfl⟩
  have EHH := Lib.hid hHH
  rw [← hHH] at HNO HYES
  show Calls _ _ #[.agg #[.int .i64 cls, .int .i64 lab, .int .i64 hop, .bool s6, .int .u64 sh, .int .u64 sl, .bool d6, .int .u64 dh, .int .u64 dl, .slice A n c, .int .i64 p]] _ _
  have dd0 := KB.out.cell 0
  have dd1 := KB.out.cell 1
  have dd2 := KB.out.cell 2
  have dd3 := KB.out.cell 3
  have dd4 := KB.out.cell 4
  have dd5 := KB.out.cell 5
  have dd6 := KB.out.cell 6
  have dd7 := KB.out.cell 7
  have dd8 := KB.out.cell 8
  have dd9 := KB.out.cell 9
  have dd10 := KB.out.cell 10
  clear hw1 hl hr hd hHH
  by_cases xc0 : cls < 0
  · have HX := Lib.hid (show ¬ HH from by rw [EHH.out]; intro H; have e := H.c0; simp only at e; omega)
    have qc0_0 : decide (cls < 0) = true := decide_eq_true (by omega)
    have qc0_1 : decide (0 ≤ cls) = false := decide_eq_false (by omega)
    clear xc0
    go_enter Try.func19, Try.ntmps19
    go_upto_region 1 with fail
    rw [← E1.out]
    go_wp2_with fail
    go_ret
    exact HNO.out _ HX.out BA.out
  have qc0_0 : decide (cls < 0) = false := decide_eq_false (by omega)
  have qc0_1 : decide (0 ≤ cls) = true := decide_eq_true (by omega)
  by_cases xc1 : 255 < cls
  · have HX := Lib.hid (show ¬ HH from by rw [EHH.out]; intro H; have e := H.c1; simp only at e; omega)
    have qc1_0 : decide (255 < cls) = true := decide_eq_true (by omega)
    have qc1_1 : decide (cls ≤ 255) = false := decide_eq_false (by omega)
    clear xc1
    go_enter Try.func19, Try.ntmps19
    go_upto_region 1 with fail
    rw [← E1.out]
    go_wp2_with fail
    go_ret
    exact HNO.out _ HX.out BA.out
  have qc1_0 : decide (255 < cls) = false := decide_eq_false (by omega)
  have qc1_1 : decide (cls ≤ 255) = true := decide_eq_true (by omega)
  by_cases xh0 : hop < 0
  · have HX := Lib.hid (show ¬ HH from by rw [EHH.out]; intro H; have e := H.h0; simp only at e; omega)
    have qh0_0 : decide (hop < 0) = true := decide_eq_true (by omega)
    have qh0_1 : decide (0 ≤ hop) = false := decide_eq_false (by omega)
    clear xh0
    go_enter Try.func19, Try.ntmps19
    go_upto_region 1 with fail
    rw [← E1.out]
    go_wp2_with fail
    go_ret
    exact HNO.out _ HX.out BA.out
  have qh0_0 : decide (hop < 0) = false := decide_eq_false (by omega)
  have qh0_1 : decide (0 ≤ hop) = true := decide_eq_true (by omega)
  by_cases xh1 : 255 < hop
  · have HX := Lib.hid (show ¬ HH from by rw [EHH.out]; intro H; have e := H.h1; simp only at e; omega)
    have qh1_0 : decide (255 < hop) = true := decide_eq_true (by omega)
    have qh1_1 : decide (hop ≤ 255) = false := decide_eq_false (by omega)
    clear xh1
    go_enter Try.func19, Try.ntmps19
    go_upto_region 1 with fail
    rw [← E1.out]
    go_wp2_with fail
    go_ret
    exact HNO.out _ HX.out BA.out
  have qh1_0 : decide (255 < hop) = false := decide_eq_false (by omega)
  have qh1_1 : decide (hop ≤ 255) = true := decide_eq_true (by omega)
  by_cases xl0 : lab < 0
  · have HX := Lib.hid (show ¬ HH from by rw [EHH.out]; intro H; have e := H.l0; simp only at e; omega)
    have ql0_0 : decide (lab < 0) = true := decide_eq_true (by omega)
    have ql0_1 : decide (0 ≤ lab) = false := decide_eq_false (by omega)
    clear xl0
    go_enter Try.func19, Try.ntmps19
    go_upto_region 1 with fail
    rw [← E1.out]
    go_wp2_with fail
    go_ret
    exact HNO.out _ HX.out BA.out
  have ql0_0 : decide (lab < 0) = false := decide_eq_false (by omega)
  have ql0_1 : decide (0 ≤ lab) = true := decide_eq_true (by omega)
  by_cases xl1 : 1048575 < lab
  · have HX := Lib.hid (show ¬ HH from by rw [EHH.out]; intro H; have e := H.l1; simp only at e; omega)
    have ql1_0 : decide (1048576 ≤ lab) = true := decide_eq_true (by omega)
    have ql1_1 : decide (lab ≤ 1048575) = false := decide_eq_false (by omega)
    have ql1_2 : decide (1048575 < lab) = true := decide_eq_true (by omega)
    clear xl1
    go_enter Try.func19, Try.ntmps19
    go_upto_region 1 with fail
    rw [← E1.out]
    go_wp2_with fail
    go_ret
    exact HNO.out _ HX.out BA.out
  have ql1_0 : decide (1048576 ≤ lab) = false := decide_eq_false (by omega)
  have ql1_1 : decide (lab ≤ 1048575) = true := decide_eq_true (by omega)
  have ql1_2 : decide (1048575 < lab) = false := decide_eq_false (by omega)
  rcases (by cases s6 <;> simp : s6 = false ∨ s6 = true) with rfl | rfl
  · have HX := Lib.hid (show ¬ HH from by rw [EHH.out]; intro H; have e : false = true := H.s6; cases e)
    go_enter Try.func19, Try.ntmps19
    go_upto_region 1 with fail
    rw [← E1.out]
    go_wp2_with fail
    go_ret
    exact HNO.out _ HX.out BA.out
  rcases (by cases d6 <;> simp : d6 = false ∨ d6 = true) with rfl | rfl
  · have HX := Lib.hid (show ¬ HH from by rw [EHH.out]; intro H; have e : false = true := H.d6; cases e)
    go_enter Try.func19, Try.ntmps19
    go_upto_region 1 with fail
    rw [← E1.out]
    go_wp2_with fail
    go_ret
    exact HNO.out _ HX.out BA.out
  by_cases xp0 : p < 0
  · have HX := Lib.hid (show ¬ HH from by rw [EHH.out]; intro H; have e := H.p0; simp only at e; omega)
    have qp0_0 : decide (p < 0) = true := decide_eq_true (by omega)
    have qp0_1 : decide (0 ≤ p) = false := decide_eq_false (by omega)
    clear xp0
    go_enter Try.func19, Try.ntmps19
    go_upto_region 1 with fail
    rw [← E1.out]
    go_wp2_with fail
    go_ret
    exact HNO.out _ HX.out BA.out
  have qp0_0 : decide (p < 0) = false := decide_eq_false (by omega)
  have qp0_1 : decide (0 ≤ p) = true := decide_eq_true (by omega)
  by_cases xp1 : 255 < p
  · have HX := Lib.hid (show ¬ HH from by rw [EHH.out]; intro H; have e := H.p1; simp only at e; omega)
    have qp1_0 : decide (255 < p) = true := decide_eq_true (by omega)
    have qp1_1 : decide (p ≤ 255) = false := decide_eq_false (by omega)
    clear xp1
    go_enter Try.func19, Try.ntmps19
    go_upto_region 1 with fail
    rw [← E1.out]
    go_wp2_with fail
    go_ret
    exact HNO.out _ HX.out BA.out
  have qp1_0 : decide (255 < p) = false := decide_eq_false (by omega)
  have qp1_1 : decide (p ≤ 255) = true := decide_eq_true (by omega)
  cases hpn : isX p with
  | true =>
    rw [hpn] at IS
    have HX := Lib.hid (show ¬ HH from by rw [EHH.out]; intro H; have e : isX p = false := H.pn; rw [hpn] at e; cases e)
    clear hpn
    go_enter Try.func19, Try.ntmps19
    go_upto_region 1 with fail
    rw [← E1.out]
    go_wp2_with fail
    refine (IS.out _).mono ?_
    rintro o w' ⟨rfl, rfl⟩
    go_wp2_with fail
    go_ret
    exact HNO.out _ HX.out BA.out
  | false =>
  have HPN := Lib.hid hpn
  rw [hpn] at IS
  clear hpn
  by_cases h8 : 8 < n
  · have HX := Lib.hid (show ¬ HH from by rw [EHH.out]; intro H; have e := H.e.most; rw [List.length_map, HL.out] at e; omega)
    have q8 : decide (8 < (n : Int)) = true := decide_eq_true (by omega)
    have q9 : decide (8 < n) = true := decide_eq_true h8
    clear h8
    go_enter Try.func19, Try.ntmps19
    go_upto_region 1 with fail
    rw [← E1.out]
    go_wp2_with fail
    refine (IS.out _).mono ?_
    rintro o w' ⟨rfl, rfl⟩
    go_wp2_with fail
    go_ret
    exact HNO.out _ HX.out BA.out
  have q8 : decide (8 < (n : Int)) = false := decide_eq_false (by omega)
  have q9 : decide (8 < n) = false := decide_eq_false h8
  have hn8 : n ≤ 8 := by omega
  have HC := Lib.hid (show RightE (l.map Xt.re) → HH from fun h => by
    rw [EHH.out]
    exact ⟨by show 0 ≤ cls; omega, by show cls ≤ 255; omega, by show 0 ≤ hop; omega, by show hop ≤ 255; omega, by show 0 ≤ lab; omega, by show lab ≤ 1048575; omega, rfl, rfl, by show 0 ≤ p; omega, by show p ≤ 255; omega, HPN.out, h⟩)
  have HNE := Lib.hid (show ∀ j, j < n → ¬ (rightX ((l.map Xt.re)[j]?.getD (0, [])) j = true ∧ lies ((l.map Xt.re).take j) / 8 = 0) → ¬ HH from fun j hj h => by
    rw [EHH.out]
    intro H
    have hjl : j < (l.map Xt.re).length := by rw [List.length_map, HL.out]; exact hj
    refine h ⟨?_, H.e.whole j hjl⟩
    rw [List.getElem?_eq_getElem hjl]
    exact H.e.each j hjl)
  clear xc0 xc1 xh0 xh1 xl0 xl1 xp0 xp1 h8
  go_enter Try.func19, Try.ntmps19
  go_upto_region 1 with fail
  rw [← E1.out]
  go_wp2_with fail
  refine (IS.out _).mono ?_
  rintro o w' ⟨rfl, rfl⟩
  go_wp2_with fail
  go_loopw [3, 66] (fun _ i wr => ∃ j : Nat, j ≤ n ∧ i = .int .i64 j ∧ Hid (∀ k, k < j → rightX ((l.map Xt.re)[k]?.getD (0, [])) k = true ∧ lies ((l.map Xt.re).take k) / 8 = 0) ∧ Hid (Below w1.heap.size w1 wr)) (fun _ i _ => n - (intOf i).toNat)
  case atStart => exact ⟨0, by omega, rfl, Lib.hid (fun k hk => by omega), Lib.hid (Below.refl _ _)⟩
  case round =>
    obtain ⟨j, hj, rfl, HG, HBJ⟩ := hrel
    have k9 : wr.cell? ⟨w.heap.size, 9, none⟩ = some (.slice A n c) := (HBJ.out.cell (p := ⟨w.heap.size, 9, none⟩) KB.out.lt).trans dd9
    by_cases hlt : j < n
    · have hjl : j < l.length := HL.out.symm ▸ hlt
      obtain ⟨b, off, hA, hbl, hC⟩ := (HR1.out.below HBJ.out).at_ j hjl
      subst hA
      obtain ⟨x, hx⟩ : ∃ x, x = l[j] := ⟨_, rfl⟩
      have HXM := Lib.hid (show x ∈ l from hx ▸ List.getElem_mem hjl)
      have HEL := Lib.hid (HR1.out.els x HXM.out)
      rw [← hx] at hC
      obtain ⟨kd, hkd⟩ : ∃ kd, kd = x.kind := ⟨_, rfl⟩
      obtain ⟨xA, hxA⟩ : ∃ xA, xA = x.A := ⟨_, rfl⟩
      obtain ⟨xn, hxn⟩ : ∃ xn, xn = x.d.length := ⟨_, rfl⟩
      obtain ⟨xc, hxc⟩ : ∃ xc, xc = x.c := ⟨_, rfl⟩
      have HK := Lib.hid hkd
      have HXA := Lib.hid hxA
      have HXN := Lib.hid hxn
      have HXC := Lib.hid hxc
      have e0 : wr.cell? ⟨b, off + j * 2, none⟩ = some (.int .i64 kd) := by rw [hkd]; exact hC 0 (by omega)
      have e1 : wr.cell? ⟨b, off + j * 2 + 1, none⟩ = some (.slice xA xn xc) := by rw [hxA, hxn, hxc]; exact hC 1 (by omega)
      obtain ⟨rx, hrx⟩ : ∃ rx, rx = rightX x.re j := ⟨_, rfl⟩
      obtain ⟨fr, hfr⟩ : ∃ fr, fr = lies ((l.map Xt.re).take j) / 8 := ⟨_, rfl⟩
      obtain ⟨frm, hfrm⟩ : ∃ frm, frm = decide (lies ((l.map Xt.re).take j) % 2 = 1) := ⟨_, rfl⟩
      have HRX := Lib.hid hrx
      have HFR := Lib.hid hfr
      have HFM := Lib.hid hfrm
      have HXR := Lib.hid (show (l.map Xt.re)[j]?.getD (0, []) = x.re from by rw [List.getElem?_map, List.getElem?_eq_getElem hjl, ← hx]; rfl)
      have hfr0 : 0 ≤ fr := by
        rw [hfr]
        have := lies_in (l := (l.map Xt.re).take j) (fun y hy => by
          have hy := List.mem_of_mem_take hy
          rw [List.mem_map] at hy
          obtain ⟨z, hz, rfl⟩ := hy
          exact (HR1.out.els z hz).2.2.2.1)
        omega
      have RX := Lib.hid (show ∀ V, Below w1.heap.size w1 V → Calls Try.prog 49 #[.agg #[.int .i64 kd, .slice xA xn xc], .int .i64 (j : Int)] V fun o w' => o = .returned (.bool rx) ∧ Below V.heap.size V w' from fun V hV => by
        have := rext_any x j V ((HEL.out.1.below hV).more hV.size) HEL.out.2.2.2.1 (by omega) (HD.out x HXM.out)
        unfold Xt.cells at this
        rw [← HK.out, ← HXA.out, ← HXN.out, ← HXC.out, ← HRX.out] at this
        exact this)
      have FR := Lib.hid (show ∀ V, Below w1.heap.size w1 V → Calls Try.prog 25 #[.agg #[.int .i64 0, .int .i64 0, .int .i64 0, .bool false, .int .u64 0, .int .u64 0, .bool false, .int .u64 0, .int .u64 0, .slice (some ⟨b, off, none⟩) j c, .int .i64 0]] V fun o w' => o = .returned (.int .i64 fr) ∧ Below V.heap.size V w' from fun V hV => by
        have := frag_any zeroH (some ⟨b, off, none⟩) j c (l.take j) V (by rw [List.length_take, HL.out]; omega) ((HR1.out.below hV).take j) (by omega)
        rw [map_take, ← HFR.out] at this
        exact this)
      obtain ⟨r1, r2⟩ := slice_toX b off n c j (by omega) (by omega)
      have j0 : (0 : Int) ≤ j := by omega
      have j1 : (j : Int) < n := by omega
      have j2 : (j : Int) ≤ c := by omega
      have t1 : decide ((j : Int) < n) = true := decide_eq_true (by omega)
      have t1n : decide (j < n) = true := decide_eq_true hlt
      clear hx hC hkd hxA hxn hxc hrx hfr hfrm hjl hbl
      go_wp2_with fail
      refine (RX.out _ HBJ.out).mono ?_
      rintro o w2 ⟨rfl, hb2⟩
      have HB2 := Lib.hid (HBJ.out.trans (hb2.mono HBJ.out.size))
      clear hb2
      cases rx with
      | false =>
        have HX := Lib.hid (HNE.out j hlt (fun h => by rw [HXR.out, ← HRX.out, ← HFR.out] at h; cases h.1))
        go_wp2_with fail
        go_ret
        exact HNO.out _ HX.out (BA.out.trans (HB2.out.mono BA.out.size))
      | true =>
        have k9 : w2.cell? ⟨w.heap.size, 9, none⟩ = some (.slice (some ⟨b, off, none⟩) n c) := (HB2.out.cell (p := ⟨w.heap.size, 9, none⟩) KB.out.lt).trans dd9
        go_wp2_with fail
        refine (FR.out _ HB2.out).mono ?_
        rintro o w3 ⟨rfl, hb3⟩
        have HB3 := Lib.hid (HB2.out.trans (hb3.mono HB2.out.size))
        clear hb3
        by_cases h0 : fr = 0
        · have t0 : (fr != 0) = false := by simpa using h0
          have HGN := Lib.hid (show ∀ k, k < j + 1 → rightX ((l.map Xt.re)[k]?.getD (0, [])) k = true ∧ lies ((l.map Xt.re).take k) / 8 = 0 from fun k hk => by
            rcases Nat.lt_or_ge k j with h | h
            · exact HG.out k h
            · obtain rfl : k = j := by omega
              rw [HXR.out, ← HRX.out, ← HFR.out]
              exact ⟨rfl, h0⟩)
          clear h0
          go_wp2_with fail
          go_roundw
          case rel => exact ⟨j + 1, by omega, by go_num, HGN, HB3⟩
          case measure => simp [intOf]; omega
        · have t0 : (fr != 0) = true := by simpa using h0
          have HX := Lib.hid (HNE.out j hlt (fun h => by rw [HXR.out, ← HRX.out, ← HFR.out] at h; exact h0 h.2))
          clear h0
          go_wp2_with fail
          go_ret
          exact HNO.out _ HX.out (BA.out.trans (HB3.out.mono BA.out.size))
    · obtain rfl : n = j := by omega
      have t1 : decide ((n : Int) < n) = false := decide_eq_false (by omega)
      have t1n : decide (n < n) = false := decide_eq_false (by omega)
      have HX := Lib.hid (show HH from HC.out ⟨by rw [List.length_map, HL.out]; exact hn8, fun i hi => by
        have := (HG.out i (by rw [List.length_map, HL.out] at hi; exact hi)).1
        rwa [List.getElem?_eq_getElem hi] at this, fun i hi => (HG.out i (by rw [List.length_map, HL.out] at hi; exact hi)).2⟩)
      go_wp2_with fail
      go_ret
      exact HYES.out _ HX.out (BA.out.trans (HBJ.out.mono BA.out.size))
end Go.Proofs.Ytndekicblbpkjaa.sixH
