/- Layer 27: its law's step: a flow is taken out. -/
import Derived.Test.YtmlfpfmpoigfiaaFlowPe
namespace Go.Proofs.Ytmlfpfmpoigfiaa.flowPf
open Go.ChangeShapes Go.WideShapes Go.ChangeAt Go.RowKit
open Go.Proofs.Ytmlfpfmpoigfiaa.base Go.Proofs.Ytmlfpfmpoigfiaa.flowA Go.Proofs.Ytmlfpfmpoigfiaa.flowB Go.Proofs.Ytmlfpfmpoigfiaa.flowC Go.Proofs.Ytmlfpfmpoigfiaa.flowD Go.Proofs.Ytmlfpfmpoigfiaa.flowE Go.Proofs.Ytmlfpfmpoigfiaa.flowF Go.Proofs.Ytmlfpfmpoigfiaa.flowG Go.Proofs.Ytmlfpfmpoigfiaa.flowH Go.Proofs.Ytmlfpfmpoigfiaa.flowI Go.Proofs.Ytmlfpfmpoigfiaa.flowL Go.Proofs.Ytmlfpfmpoigfiaa.flowM Go.Proofs.Ytmlfpfmpoigfiaa.flowN Go.Proofs.Ytmlfpfmpoigfiaa.flowO Go.Proofs.Ytmlfpfmpoigfiaa.flowP Go.Proofs.Ytmlfpfmpoigfiaa.flowQ Go.Proofs.Ytmlfpfmpoigfiaa.flowR Go.Proofs.Ytmlfpfmpoigfiaa.flowS Go.Proofs.Ytmlfpfmpoigfiaa.flowT Go.Proofs.Ytmlfpfmpoigfiaa.flowU Go.Proofs.Ytmlfpfmpoigfiaa.flowV Go.Proofs.Ytmlfpfmpoigfiaa.flowW Go.Proofs.Ytmlfpfmpoigfiaa.flowX Go.Proofs.Ytmlfpfmpoigfiaa.flowY Go.Proofs.Ytmlfpfmpoigfiaa.flowGo Go.Proofs.Ytmlfpfmpoigfiaa.flowGp Go.Proofs.Ytmlfpfmpoigfiaa.flowPa Go.Proofs.Ytmlfpfmpoigfiaa.flowPb Go.Proofs.Ytmlfpfmpoigfiaa.flowPc Go.Proofs.Ytmlfpfmpoigfiaa.flowPd Go.Proofs.Ytmlfpfmpoigfiaa.flowZ Go.Proofs.Ytmlfpfmpoigfiaa.flowKa Go.Proofs.Ytmlfpfmpoigfiaa.flowPe
set_option linter.unusedVariables false

set_option maxRecDepth 100000 in
set_option maxHeartbeats 8000000 in
theorem step_rem {B : Nat} {w0 w : World} {ta r : Nat} {v lv : Value} {n : Nat} {seed : Int} {l : List Ent} (x : Ent) (A : Option Addr) (m cc : Nat) (hs : LawSt B w0 w ta r v n seed l lv) (hB : B ≤ w0.heap.size) (hn : 1 ≤ n) (hn2 : n ≤ 4096) :
    Calls Try.prog 20 #[.pointer (some ⟨ta, 0, none⟩), lv, .int .i64 n, .agg (opc 4 x A m cc)] w (StepPost B w0 ta r n seed) := by
  obtain ⟨w1, hw1⟩ : ∃ w1, w1 = w.alloc (.cells #[.int .i64 4, .int .i64 x.x.pr, .bool x.x.s6, .int .u64 x.x.sh, .int .u64 x.x.sl, .bool x.x.d6, .int .u64 x.x.dh, .int .u64 x.x.dl, .int .i64 x.x.sp, .int .i64 x.x.dp, .int .i64 x.host, .int .i64 x.state, .int .i64 x.till, .slice A m cc] 57) := ⟨_, rfl⟩
  have hb1 : Below w.heap.size w w1 := hw1 ▸ (Below.refl w.heap.size w).alloc (Nat.le_refl _) _
  have hs1 := hs.far hb1 hB
  have HS1 := Lib.hid hs1
  have HK1 := Lib.hid (show Blk w1 w.heap.size 57 #[.int .i64 4, .int .i64 x.x.pr, .bool x.x.s6, .int .u64 x.x.sh, .int .u64 x.x.sl, .bool x.x.d6, .int .u64 x.x.dh, .int .u64 x.x.dl, .int .i64 x.x.sp, .int .i64 x.x.dp, .int .i64 x.host, .int .i64 x.state, .int .i64 x.till, .slice A m cc] from hw1 ▸ Blk.new w _ _)
  have hl4 : l.length ≤ 4096 := Nat.le_trans hs.tab.tab.len hn2
  have HFI := Lib.hid (show Calls Try.prog 22 #[lv, .agg #[.int .i64 x.x.pr, .bool x.x.s6, .int .u64 x.x.sh, .int .u64 x.x.sl, .bool x.x.d6, .int .u64 x.x.dh, .int .u64 x.x.dl, .int .i64 x.x.sp, .int .i64 x.x.dp]] w1 _ from find_law x.x lv l w1 hs1.rd (by omega))
  have HU := Lib.hid hs.tab.tab.uniq
  have HLT := Lib.hid hs.lt
  have HB := Lib.hid hB
  have HW1 := Lib.hid (show w.heap.size < w1.heap.size from by rw [hw1]; simp)
  obtain ⟨LA, LC, hlv, hlc, hlc2, _⟩ := hs.rd
  unfold maxLen at hlc2
  subst hlv
  unfold opc
  clear hs hb1 hs1 hB
  go_enter Try.func20, Try.ntmps20
  go_wp2_with fail
  rw [← hw1]
  refine HFI.out.mono ?_
  rintro o w2 ⟨k, rfl, hb, hfd⟩
  have S2 := Lib.hid (HS1.out.far hb HB.out)
  have K2 := Lib.hid (show Blk w2 w.heap.size 57 #[.int .i64 4, .int .i64 x.x.pr, .bool x.x.s6, .int .u64 x.x.sh, .int .u64 x.x.sl, .bool x.x.d6, .int .u64 x.x.dh, .int .u64 x.x.dl, .int .i64 x.x.sp, .int .i64 x.x.dp, .int .i64 x.host, .int .i64 x.state, .int .i64 x.till, .slice A m cc] from (hb.block _ HK1.out.lt).trans HK1.out)
  have HW2 := Lib.hid (show w.heap.size < w2.heap.size from Nat.lt_of_lt_of_le HW1.out hb.size)
  clear hb hw1 HFI HS1 HK1
  have p0 := K2.out.cell 0
  have p1 : w2.cell? ⟨w.heap.size, 1, none⟩ = some (.int .i64 x.x.pr) := K2.out.cell 1
  have p2 : w2.cell? ⟨w.heap.size, 2, none⟩ = some (.bool x.x.s6) := K2.out.cell 2
  have p3 : w2.cell? ⟨w.heap.size, 3, none⟩ = some (.int .u64 x.x.sh) := K2.out.cell 3
  have p4 : w2.cell? ⟨w.heap.size, 4, none⟩ = some (.int .u64 x.x.sl) := K2.out.cell 4
  have p5 : w2.cell? ⟨w.heap.size, 5, none⟩ = some (.bool x.x.d6) := K2.out.cell 5
  have p6 : w2.cell? ⟨w.heap.size, 6, none⟩ = some (.int .u64 x.x.dh) := K2.out.cell 6
  have p7 : w2.cell? ⟨w.heap.size, 7, none⟩ = some (.int .u64 x.x.dl) := K2.out.cell 7
  have p8 : w2.cell? ⟨w.heap.size, 8, none⟩ = some (.int .i64 x.x.sp) := K2.out.cell 8
  have p9 : w2.cell? ⟨w.heap.size, 9, none⟩ = some (.int .i64 x.x.dp) := K2.out.cell 9
  have p10 : w2.cell? ⟨w.heap.size, 10, none⟩ = some (.int .i64 x.host) := K2.out.cell 10
  have p11 : w2.cell? ⟨w.heap.size, 11, none⟩ = some (.int .i64 x.state) := K2.out.cell 11
  have p12 : w2.cell? ⟨w.heap.size, 12, none⟩ = some (.int .i64 x.till) := K2.out.cell 12
  have p13 : w2.cell? ⟨w.heap.size, 13, none⟩ = some (.slice A m cc) := K2.out.cell 13
  rcases hfd with ⟨rfl, hno⟩ | ⟨A1, e, B1, hl, rfl, hex⟩
  · have HNO := Lib.hid hno
    clear hno
    have HWI := Lib.hid (show ∀ w', Frm ta r v w2 w' → RdE w' (.slice LA l.length LC) l → Calls Try.prog 41 #[.slice LA l.length LC, .int .i64 (-1)] w' fun o w'' => ∃ v', o = .returned v' ∧ Own w'' w2.heap.size v' (l) ∧ Below w'.heap.size w' w'' from fun w' hf hr => (without_law (-1) _ l w' hr (by omega)).mono fun o w'' ⟨v', a1, a2, a3⟩ => ⟨v', a1, by
      have e9 : woN l (-1) l.length = l := wo_none l
      rw [e9] at a2
      exact a2.more hf.size, a3⟩)
    have HRE := Lib.hid (show ∀ w', Own27 B w0 w' ta r v n seed l → Calls Try.prog 9 #[.pointer (some ⟨ta, 0, none⟩), .agg #[.int .i64 x.x.pr, .bool x.x.s6, .int .u64 x.x.sh, .int .u64 x.x.sl, .bool x.x.d6, .int .u64 x.x.dh, .int .u64 x.x.dl, .int .i64 x.x.sp, .int .i64 x.x.dp]] w' fun o w'' => Frm ta r v w' w'' ∧ o = .returned (.bool false) ∧ Own27 B w0 w'' ta r v n seed (l) from fun w' ht => (LawSt.remove ht HB.out x.x hn hn2).mono fun o w'' ⟨hf, h⟩ => by
      rcases h with ⟨h1, h2, h3⟩ | ⟨A2, e2, B2, hl2, hex2, h1, h2⟩
      · exact ⟨hf, h1, h2⟩
      · exact absurd hex2 (HNO.out e2 (by rw [hl2]; simp)))
    have hfr : ∀ W : World, Frm ta r v w2 W → (W.cell? ⟨w.heap.size, 1, none⟩ = some (.int .i64 x.x.pr) ∧ W.cell? ⟨w.heap.size, 2, none⟩ = some (.bool x.x.s6) ∧ W.cell? ⟨w.heap.size, 3, none⟩ = some (.int .u64 x.x.sh) ∧ W.cell? ⟨w.heap.size, 4, none⟩ = some (.int .u64 x.x.sl) ∧ W.cell? ⟨w.heap.size, 5, none⟩ = some (.bool x.x.d6) ∧ W.cell? ⟨w.heap.size, 6, none⟩ = some (.int .u64 x.x.dh) ∧ W.cell? ⟨w.heap.size, 7, none⟩ = some (.int .u64 x.x.dl) ∧ W.cell? ⟨w.heap.size, 8, none⟩ = some (.int .i64 x.x.sp) ∧ W.cell? ⟨w.heap.size, 9, none⟩ = some (.int .i64 x.x.dp)) := fun W hf => by
      have hb := hf.blk K2.out (by have := HLT.out.1; omega) (by have := HLT.out.2.1; omega) (fun e => by have := HLT.out.2.2 _ e.symm; omega)
      exact ⟨hb.cell 1, hb.cell 2, hb.cell 3, hb.cell 4, hb.cell 5, hb.cell 6, hb.cell 7, hb.cell 8, hb.cell 9⟩
    have HFR := Lib.hid hfr
    have F2 := Lib.hid (show Frm ta r v w2 w2.drew from (Frm.refl _ _ _ _).drew)
    have T2 := Lib.hid S2.out.tab.drew
    have R2 := Lib.hid (S2.out.rdf F2.out)
    have HAP := Lib.hid S2.out.ap
    have HLT2 := Lib.hid S2.out.lt
    have s0 := hfr _ F2.out
    clear hfr
    go_wp2_with fail
    go_region_held3 (fun w' => w'.cell? ⟨w.heap.size, 1, none⟩ = some (.int .i64 x.x.pr) ∧ w'.cell? ⟨w.heap.size, 2, none⟩ = some (.bool x.x.s6) ∧ w'.cell? ⟨w.heap.size, 3, none⟩ = some (.int .u64 x.x.sh) ∧ w'.cell? ⟨w.heap.size, 4, none⟩ = some (.int .u64 x.x.sl) ∧ w'.cell? ⟨w.heap.size, 5, none⟩ = some (.bool x.x.d6) ∧ w'.cell? ⟨w.heap.size, 6, none⟩ = some (.int .u64 x.x.dh) ∧ w'.cell? ⟨w.heap.size, 7, none⟩ = some (.int .u64 x.x.dl) ∧ w'.cell? ⟨w.heap.size, 8, none⟩ = some (.int .i64 x.x.sp) ∧ w'.cell? ⟨w.heap.size, 9, none⟩ = some (.int .i64 x.x.dp)) (assumption)
      (first
        | (go_at_call 41
           (with_reducible refine (HWI.out _ (by first | exact F5r.out | exact F2.out) (by first | exact R5r.out | exact R2.out)).mono ?_)
           rintro o w5 ⟨v5, rfl, ho, hb⟩
           have F5w := Lib.hid (Frm.then (ta := ta) (r := r) (v := v) (a := w2) (by first | exact F5r.out | exact F2.out) (Frm.of_below hb))
           have R5w := Lib.hid (RdE.below (l := l) (v := .slice LA l.length LC) (by first | exact R5r.out | exact R2.out) hb)
           have T5w := Lib.hid (show Own27 B w0 w5 ta r v n seed _ from by first | exact T5r.out.far hb HB.out | exact T2.out.far hb HB.out)
           have O5w := Lib.hid ho
           have s5 := HFR.out _ F5w.out
           clear ho hb)
        | (go_at_call 9
           (with_reducible refine (HRE.out _ (by first | exact T5w.out | exact T2.out)).mono ?_)
           rintro o w6 ⟨hf, rfl, ht⟩
           have F5r := Lib.hid (Frm.then (ta := ta) (r := r) (v := v) (a := w2) (by first | exact F5w.out | exact F2.out) hf)
           have R5r := Lib.hid (RdE.frm (l := l) (vg := .slice LA l.length LC) (by first | exact R5w.out | exact R2.out) hf HAP.out)
           have T5r := Lib.hid ht
           have O5r := Lib.hid (show ∀ (W : World) (v5 : Value) (l5 : List Ent), Frm ta r v W w6 → Own W w2.heap.size v5 l5 → Own w6 w2.heap.size v5 l5 from fun W v5 l5 hf ho => ho.far fun k hk => by
             have h1 := ho.lt k hk
             have h2 := HLT2.out
             exact hf.block k h1.2 (by omega) (by omega) (fun e => by have := h2.2.2 k e.symm; omega))
           have HF6 := Lib.hid hf
           have s6 := HFR.out _ F5r.out
           clear ht hf))
    all_goals
      go_wp2_with fail
      first
        | (refine bodyPost_ret (results_tmp2 rfl _ _ _) rfl ⟨v, _, _, rfl, T5r.out, RdE.of_own (O5r.out _ _ _ HF6.out O5w.out), apart_own HLT2.out O5w.out⟩)
        | (refine bodyPost_ret (results_tmp2 rfl _ _ _) rfl ⟨v, _, _, rfl, T5w.out, RdE.of_own O5w.out, apart_own HLT2.out O5w.out⟩)
  · have HL := Lib.hid hl
    have HEX := Lib.hid hex
    clear hl hex
    have HWI := Lib.hid (show ∀ w', Frm ta r v w2 w' → RdE w' (.slice LA l.length LC) l → Calls Try.prog 41 #[.slice LA l.length LC, .int .i64 ((A1.length : Nat) : Int)] w' fun o w'' => ∃ v', o = .returned v' ∧ Own w'' w2.heap.size v' (A1 ++ B1) ∧ Below w'.heap.size w' w'' from fun w' hf hr => (without_law ((A1.length : Nat) : Int) _ l w' hr (by omega)).mono fun o w'' ⟨v', a1, a2, a3⟩ => ⟨v', a1, by
      have e9 : woN l ((A1.length : Nat) : Int) l.length = A1 ++ B1 := by rw [HL.out]; exact wo_split A1 B1 e
      rw [e9] at a2
      exact a2.more hf.size, a3⟩)
    have HRE := Lib.hid (show ∀ w', Own27 B w0 w' ta r v n seed l → Calls Try.prog 9 #[.pointer (some ⟨ta, 0, none⟩), .agg #[.int .i64 x.x.pr, .bool x.x.s6, .int .u64 x.x.sh, .int .u64 x.x.sl, .bool x.x.d6, .int .u64 x.x.dh, .int .u64 x.x.dl, .int .i64 x.x.sp, .int .i64 x.x.dp]] w' fun o w'' => Frm ta r v w' w'' ∧ o = .returned (.bool true) ∧ Own27 B w0 w'' ta r v n seed (A1 ++ B1) from fun w' ht => (LawSt.remove ht HB.out x.x hn hn2).mono fun o w'' ⟨hf, h⟩ => by
      rcases h with ⟨h1, h2, h3⟩ | ⟨A2, e2, B2, hl2, hex2, h1, h2⟩
      · exact absurd HEX.out (h3 e (by rw [HL.out]; simp))
      · obtain ⟨rfl, rfl, rfl⟩ := split_uniq HU.out hl2 HL.out (hex2.trans HEX.out.symm)
        exact ⟨hf, h1, h2⟩)
    have hfr : ∀ W : World, Frm ta r v w2 W → (W.cell? ⟨w.heap.size, 1, none⟩ = some (.int .i64 x.x.pr) ∧ W.cell? ⟨w.heap.size, 2, none⟩ = some (.bool x.x.s6) ∧ W.cell? ⟨w.heap.size, 3, none⟩ = some (.int .u64 x.x.sh) ∧ W.cell? ⟨w.heap.size, 4, none⟩ = some (.int .u64 x.x.sl) ∧ W.cell? ⟨w.heap.size, 5, none⟩ = some (.bool x.x.d6) ∧ W.cell? ⟨w.heap.size, 6, none⟩ = some (.int .u64 x.x.dh) ∧ W.cell? ⟨w.heap.size, 7, none⟩ = some (.int .u64 x.x.dl) ∧ W.cell? ⟨w.heap.size, 8, none⟩ = some (.int .i64 x.x.sp) ∧ W.cell? ⟨w.heap.size, 9, none⟩ = some (.int .i64 x.x.dp)) := fun W hf => by
      have hb := hf.blk K2.out (by have := HLT.out.1; omega) (by have := HLT.out.2.1; omega) (fun e => by have := HLT.out.2.2 _ e.symm; omega)
      exact ⟨hb.cell 1, hb.cell 2, hb.cell 3, hb.cell 4, hb.cell 5, hb.cell 6, hb.cell 7, hb.cell 8, hb.cell 9⟩
    have HFR := Lib.hid hfr
    have F2 := Lib.hid (show Frm ta r v w2 w2.drew from (Frm.refl _ _ _ _).drew)
    have T2 := Lib.hid S2.out.tab.drew
    have R2 := Lib.hid (S2.out.rdf F2.out)
    have HAP := Lib.hid S2.out.ap
    have HLT2 := Lib.hid S2.out.lt
    have s0 := hfr _ F2.out
    have hk0 : decide ((0 : Int) ≤ ((A1.length : Nat) : Int)) = true := decide_eq_true (by omega)
    have hk1 : (0 : Int) ≤ ((A1.length : Nat) : Int) := by omega
    clear hfr
    go_wp2_with fail
    go_region_held3 (fun w' => w'.cell? ⟨w.heap.size, 1, none⟩ = some (.int .i64 x.x.pr) ∧ w'.cell? ⟨w.heap.size, 2, none⟩ = some (.bool x.x.s6) ∧ w'.cell? ⟨w.heap.size, 3, none⟩ = some (.int .u64 x.x.sh) ∧ w'.cell? ⟨w.heap.size, 4, none⟩ = some (.int .u64 x.x.sl) ∧ w'.cell? ⟨w.heap.size, 5, none⟩ = some (.bool x.x.d6) ∧ w'.cell? ⟨w.heap.size, 6, none⟩ = some (.int .u64 x.x.dh) ∧ w'.cell? ⟨w.heap.size, 7, none⟩ = some (.int .u64 x.x.dl) ∧ w'.cell? ⟨w.heap.size, 8, none⟩ = some (.int .i64 x.x.sp) ∧ w'.cell? ⟨w.heap.size, 9, none⟩ = some (.int .i64 x.x.dp)) (assumption)
      (first
        | (go_at_call 41
           (with_reducible refine (HWI.out _ (by first | exact F5r.out | exact F2.out) (by first | exact R5r.out | exact R2.out)).mono ?_)
           rintro o w5 ⟨v5, rfl, ho, hb⟩
           have F5w := Lib.hid (Frm.then (ta := ta) (r := r) (v := v) (a := w2) (by first | exact F5r.out | exact F2.out) (Frm.of_below hb))
           have R5w := Lib.hid (RdE.below (l := l) (v := .slice LA l.length LC) (by first | exact R5r.out | exact R2.out) hb)
           have T5w := Lib.hid (show Own27 B w0 w5 ta r v n seed _ from by first | exact T5r.out.far hb HB.out | exact T2.out.far hb HB.out)
           have O5w := Lib.hid ho
           have s5 := HFR.out _ F5w.out
           clear ho hb)
        | (go_at_call 9
           (with_reducible refine (HRE.out _ (by first | exact T5w.out | exact T2.out)).mono ?_)
           rintro o w6 ⟨hf, rfl, ht⟩
           have F5r := Lib.hid (Frm.then (ta := ta) (r := r) (v := v) (a := w2) (by first | exact F5w.out | exact F2.out) hf)
           have R5r := Lib.hid (RdE.frm (l := l) (vg := .slice LA l.length LC) (by first | exact R5w.out | exact R2.out) hf HAP.out)
           have T5r := Lib.hid ht
           have O5r := Lib.hid (show ∀ (W : World) (v5 : Value) (l5 : List Ent), Frm ta r v W w6 → Own W w2.heap.size v5 l5 → Own w6 w2.heap.size v5 l5 from fun W v5 l5 hf ho => ho.far fun k hk => by
             have h1 := ho.lt k hk
             have h2 := HLT2.out
             exact hf.block k h1.2 (by omega) (by omega) (fun e => by have := h2.2.2 k e.symm; omega))
           have HF6 := Lib.hid hf
           have s6 := HFR.out _ F5r.out
           clear ht hf))
    all_goals
      go_wp2_with fail
      first
        | (refine bodyPost_ret (results_tmp2 rfl _ _ _) rfl ⟨v, _, _, rfl, T5r.out, RdE.of_own (O5r.out _ _ _ HF6.out O5w.out), apart_own HLT2.out O5w.out⟩)
        | (refine bodyPost_ret (results_tmp2 rfl _ _ _) rfl ⟨v, _, _, rfl, T5w.out, RdE.of_own O5w.out, apart_own HLT2.out O5w.out⟩)
end Go.Proofs.Ytmlfpfmpoigfiaa.flowPf
