/- Layer 27: its law's step: a flow is put in. -/
import Derived.Test.YtmlfpfmpoigfiaaFlowPe
namespace Go.Proofs.Ytmlfpfmpoigfiaa.flowPg
open Go.ChangeShapes Go.WideShapes Go.ChangeAt Go.RowKit
open Go.Proofs.Ytmlfpfmpoigfiaa.base Go.Proofs.Ytmlfpfmpoigfiaa.flowA Go.Proofs.Ytmlfpfmpoigfiaa.flowB Go.Proofs.Ytmlfpfmpoigfiaa.flowC Go.Proofs.Ytmlfpfmpoigfiaa.flowD Go.Proofs.Ytmlfpfmpoigfiaa.flowE Go.Proofs.Ytmlfpfmpoigfiaa.flowF Go.Proofs.Ytmlfpfmpoigfiaa.flowG Go.Proofs.Ytmlfpfmpoigfiaa.flowH Go.Proofs.Ytmlfpfmpoigfiaa.flowI Go.Proofs.Ytmlfpfmpoigfiaa.flowL Go.Proofs.Ytmlfpfmpoigfiaa.flowM Go.Proofs.Ytmlfpfmpoigfiaa.flowN Go.Proofs.Ytmlfpfmpoigfiaa.flowO Go.Proofs.Ytmlfpfmpoigfiaa.flowP Go.Proofs.Ytmlfpfmpoigfiaa.flowQ Go.Proofs.Ytmlfpfmpoigfiaa.flowR Go.Proofs.Ytmlfpfmpoigfiaa.flowS Go.Proofs.Ytmlfpfmpoigfiaa.flowT Go.Proofs.Ytmlfpfmpoigfiaa.flowU Go.Proofs.Ytmlfpfmpoigfiaa.flowV Go.Proofs.Ytmlfpfmpoigfiaa.flowW Go.Proofs.Ytmlfpfmpoigfiaa.flowX Go.Proofs.Ytmlfpfmpoigfiaa.flowY Go.Proofs.Ytmlfpfmpoigfiaa.flowGo Go.Proofs.Ytmlfpfmpoigfiaa.flowGp Go.Proofs.Ytmlfpfmpoigfiaa.flowPa Go.Proofs.Ytmlfpfmpoigfiaa.flowPb Go.Proofs.Ytmlfpfmpoigfiaa.flowPc Go.Proofs.Ytmlfpfmpoigfiaa.flowPd Go.Proofs.Ytmlfpfmpoigfiaa.flowZ Go.Proofs.Ytmlfpfmpoigfiaa.flowKa Go.Proofs.Ytmlfpfmpoigfiaa.flowPe
set_option linter.unusedVariables false

theorem LawSt.put {B : Nat} {w0 w : World} {ta r : Nat} {v lv : Value} {n : Nat} {seed : Int} {l : List Ent} (h : LawSt B w0 w ta r v n seed l lv) (hB : B ≤ w0.heap.size) (e : Ent) (hn : 1 ≤ n) (hn2 : n ≤ 4096) :
    Calls Try.prog 7 #[.pointer (some ⟨ta, 0, none⟩), .agg e.cells] w fun o w' => ∃ v2, Frm ta r v w w' ∧ RdE w' lv l ∧ Apart ta r v2 lv ∧ ((∃ A e0 B0, l = A ++ e0 :: B0 ∧ e0.x = e.x ∧ o = .returned (.tuple #[.agg zeroE.cells, .bool false]) ∧ Own27 B w0 w' ta r v2 n seed (e :: (A ++ B0))) ∨ ((∀ e0, e0 ∈ l → e0.x ≠ e.x) ∧ l.length < n ∧ o = .returned (.tuple #[.agg zeroE.cells, .bool false]) ∧ Own27 B w0 w' ta r v2 n seed (e :: l)) ∨ ((∀ e0, e0 ∈ l → e0.x ≠ e.x) ∧ l.length = n ∧ ∃ A e0, l = A ++ [e0] ∧ o = .returned (.tuple #[.agg e0.cells, .bool true]) ∧ Own27 B w0 w' ta r v2 n seed (e :: A))) := by
  refine (put_tab e h.tab.tab hn hn2).mono ?_
  rintro o w' ⟨v2, hf, hv, hd⟩
  have hb := h.tab.frm hf hB
  have hv3 : ∀ g, v2.ownBlock = some g → B ≤ g := fun g e => by
    rcases hv g e with e2 | e2
    · exact h.tab.h3 g e2
    · exact Nat.le_trans (Nat.le_trans hB h.tab.bel.size) e2
  have hap : Apart ta r v2 lv := fun k hk => by
    have h1 := h.ap k hk
    refine ⟨h1.1, h1.2.1, fun e => ?_⟩
    rcases hv k e with e2 | e2
    · exact h1.2.2 e2
    · have := RdE.lt h.rd k hk; omega
  refine ⟨v2, hf, h.rdf hf, hap, ?_⟩
  rcases hd with ⟨A, e0, B0, hl, hx, ho, ht⟩ | ⟨hno, hlen, ho, ht⟩ | ⟨hno, hlen, A, e0, hl, ho, ht⟩
  · exact .inl ⟨A, e0, B0, hl, hx, ho, ⟨ht, hb, h.tab.h1, h.tab.h2, hv3⟩⟩
  · exact .inr (.inl ⟨hno, hlen, ho, ⟨ht, hb, h.tab.h1, h.tab.h2, hv3⟩⟩)
  · exact .inr (.inr ⟨hno, hlen, A, e0, hl, ho, ⟨ht, hb, h.tab.h1, h.tab.h2, hv3⟩⟩)
set_option maxRecDepth 100000 in
set_option maxHeartbeats 8000000 in
theorem step_put_lo {B : Nat} {w0 w : World} {ta r : Nat} {v lv : Value} {n : Nat} {seed : Int} {l : List Ent} (kd : Int) (x : Ent) (A : Option Addr) (m cc : Nat) (hs : LawSt B w0 w ta r v n seed l lv) (hB : B ≤ w0.heap.size) (hn : 1 ≤ n) (hn2 : n ≤ 4096) (hk : kd < 3) :
    Calls Try.prog 20 #[.pointer (some ⟨ta, 0, none⟩), lv, .int .i64 n, .agg (opc kd x A m cc)] w (StepPost B w0 ta r n seed) := by
  obtain ⟨w1, hw1⟩ : ∃ w1, w1 = w.alloc (.cells #[.int .i64 kd, .int .i64 x.x.pr, .bool x.x.s6, .int .u64 x.x.sh, .int .u64 x.x.sl, .bool x.x.d6, .int .u64 x.x.dh, .int .u64 x.x.dl, .int .i64 x.x.sp, .int .i64 x.x.dp, .int .i64 x.host, .int .i64 x.state, .int .i64 x.till, .slice A m cc] 57) := ⟨_, rfl⟩
  have hb1 : Below w.heap.size w w1 := hw1 ▸ (Below.refl w.heap.size w).alloc (Nat.le_refl _) _
  have hs1 := hs.far hb1 hB
  have HS1 := Lib.hid hs1
  have HK1 := Lib.hid (show Blk w1 w.heap.size 57 #[.int .i64 kd, .int .i64 x.x.pr, .bool x.x.s6, .int .u64 x.x.sh, .int .u64 x.x.sl, .bool x.x.d6, .int .u64 x.x.dh, .int .u64 x.x.dl, .int .i64 x.x.sp, .int .i64 x.x.dp, .int .i64 x.host, .int .i64 x.state, .int .i64 x.till, .slice A m cc] from hw1 ▸ Blk.new w _ _)
  have hl4 : l.length ≤ 4096 := Nat.le_trans hs.tab.tab.len hn2
  have HFI := Lib.hid (show Calls Try.prog 22 #[lv, .agg #[.int .i64 x.x.pr, .bool x.x.s6, .int .u64 x.x.sh, .int .u64 x.x.sl, .bool x.x.d6, .int .u64 x.x.dh, .int .u64 x.x.dl, .int .i64 x.x.sp, .int .i64 x.x.dp]] w1 _ from find_law x.x lv l w1 hs1.rd (by omega))
  have HU := Lib.hid hs.tab.tab.uniq
  have HLT := Lib.hid hs.lt
  have HB := Lib.hid hB
  have HW1 := Lib.hid (show w.heap.size < w1.heap.size from by rw [hw1]; simp)
  obtain ⟨LA, LC, hlv, hlc, hlc2, _⟩ := hs.rd
  unfold maxLen at hlc2
  subst hlv
  unfold opc
  clear hs hb1 hs1 hB
  go_enter Try.func20, Try.ntmps20
  go_wp2_with fail
  rw [← hw1]
  refine HFI.out.mono ?_
  rintro o w2 ⟨k, rfl, hb, hfd⟩
  have S2 := Lib.hid (HS1.out.far hb HB.out)
  have K2 := Lib.hid (show Blk w2 w.heap.size 57 #[.int .i64 kd, .int .i64 x.x.pr, .bool x.x.s6, .int .u64 x.x.sh, .int .u64 x.x.sl, .bool x.x.d6, .int .u64 x.x.dh, .int .u64 x.x.dl, .int .i64 x.x.sp, .int .i64 x.x.dp, .int .i64 x.host, .int .i64 x.state, .int .i64 x.till, .slice A m cc] from (hb.block _ HK1.out.lt).trans HK1.out)
  have HW2 := Lib.hid (show w.heap.size < w2.heap.size from Nat.lt_of_lt_of_le HW1.out hb.size)
  clear hb hw1 HFI HS1 HK1
  have p0 := K2.out.cell 0
  have p1 : w2.cell? ⟨w.heap.size, 1, none⟩ = some (.int .i64 x.x.pr) := K2.out.cell 1
  have p2 : w2.cell? ⟨w.heap.size, 2, none⟩ = some (.bool x.x.s6) := K2.out.cell 2
  have p3 : w2.cell? ⟨w.heap.size, 3, none⟩ = some (.int .u64 x.x.sh) := K2.out.cell 3
  have p4 : w2.cell? ⟨w.heap.size, 4, none⟩ = some (.int .u64 x.x.sl) := K2.out.cell 4
  have p5 : w2.cell? ⟨w.heap.size, 5, none⟩ = some (.bool x.x.d6) := K2.out.cell 5
  have p6 : w2.cell? ⟨w.heap.size, 6, none⟩ = some (.int .u64 x.x.dh) := K2.out.cell 6
  have p7 : w2.cell? ⟨w.heap.size, 7, none⟩ = some (.int .u64 x.x.dl) := K2.out.cell 7
  have p8 : w2.cell? ⟨w.heap.size, 8, none⟩ = some (.int .i64 x.x.sp) := K2.out.cell 8
  have p9 : w2.cell? ⟨w.heap.size, 9, none⟩ = some (.int .i64 x.x.dp) := K2.out.cell 9
  have p10 : w2.cell? ⟨w.heap.size, 10, none⟩ = some (.int .i64 x.host) := K2.out.cell 10
  have p11 : w2.cell? ⟨w.heap.size, 11, none⟩ = some (.int .i64 x.state) := K2.out.cell 11
  have p12 : w2.cell? ⟨w.heap.size, 12, none⟩ = some (.int .i64 x.till) := K2.out.cell 12
  have p13 : w2.cell? ⟨w.heap.size, 13, none⟩ = some (.slice A m cc) := K2.out.cell 13
  have HT := Lib.hid (show Calls Try.prog 7 #[.pointer (some ⟨ta, 0, none⟩), .agg #[.int .i64 x.x.pr, .bool x.x.s6, .int .u64 x.x.sh, .int .u64 x.x.sl, .bool x.x.d6, .int .u64 x.x.dh, .int .u64 x.x.dl, .int .i64 x.x.sp, .int .i64 x.x.dp, .int .i64 x.host, .int .i64 x.state, .int .i64 x.till]] w2 _ from LawSt.put S2.out HB.out x hn hn2)
  have k3 : (kd == 3) = false := by simp; omega
  have k4 : (kd == 4) = false := by simp; omega
  have t1 : decide (5 ≤ kd) = false := decide_eq_false (by omega)
  rcases hfd with ⟨rfl, hno⟩ | ⟨A1, e, B1, hl, rfl, hex⟩
  · have HNO := Lib.hid hno
    clear hno
    go_wp2_with fail
    refine HT.out.mono ?_
    rintro o w3 ⟨v2, hf, hrd, hap, ⟨A2, e2, B2, hl2, hex2, rfl, ht⟩ | ⟨hno, hlen, rfl, ht⟩ | ⟨hno, hlen, A2, e0, hl2, rfl, ht⟩⟩
    · exact absurd hex2 (HNO.out e2 (by rw [hl2]; simp))
    · have hlt3 : ta < w3.heap.size ∧ r < w3.heap.size ∧ ∀ g, v2.ownBlock = some g → g < w3.heap.size := tab_lt ht.tab
      have K3 := hf.blk K2.out (by have := HLT.out.1; omega) (by have := HLT.out.2.1; omega) (fun e => by have := HLT.out.2.2 _ e.symm; omega)
      obtain ⟨w4, hw4⟩ : ∃ w4, w4 = w3.alloc (.cells #[.int .i64 0, .bool false, .int .u64 0, .int .u64 0, .bool false, .int .u64 0, .int .u64 0, .int .i64 0, .int .i64 0, .int .i64 0, .int .i64 0, .int .i64 0] 33) := ⟨_, rfl⟩
      have hb4 : Below w3.heap.size w3 w4 := hw4 ▸ (Below.refl w3.heap.size w3).alloc (Nat.le_refl _) _
      have hs4 : w4.heap.size = w3.heap.size + 1 := by rw [hw4]; simp
      have G4 : Blk w4 w3.heap.size 33 #[.int .i64 0, .bool false, .int .u64 0, .int .u64 0, .bool false, .int .u64 0, .int .u64 0, .int .i64 0, .int .i64 0, .int .i64 0, .int .i64 0, .int .i64 0] := hw4 ▸ Blk.new w3 _ _
      have K4 : Blk w4 w.heap.size 57 #[.int .i64 kd, .int .i64 x.x.pr, .bool x.x.s6, .int .u64 x.x.sh, .int .u64 x.x.sl, .bool x.x.d6, .int .u64 x.x.dh, .int .u64 x.x.dl, .int .i64 x.x.sp, .int .i64 x.x.dp, .int .i64 x.host, .int .i64 x.state, .int .i64 x.till, .slice A m cc] := (hb4.block _ K3.lt).trans K3
      have T4 := Lib.hid (ht.far hb4 HB.out)
      have R4 := Lib.hid (hrd.below hb4)
      have HLT3 := Lib.hid hlt3
      have HAH := Lib.hid (show ∀ w' v' l', Below w4.heap.size w4 w' → RdE w' v' l' → l'.length ≤ 4096 → Calls Try.prog 40 #[.agg #[.int .i64 x.x.pr, .bool x.x.s6, .int .u64 x.x.sh, .int .u64 x.x.sl, .bool x.x.d6, .int .u64 x.x.dh, .int .u64 x.x.dl, .int .i64 x.x.sp, .int .i64 x.x.dp, .int .i64 x.host, .int .i64 x.state, .int .i64 x.till], v'] w' fun o w'' => ∃ v2, o = .returned v2 ∧ Own w'' w4.heap.size v2 (x :: l') ∧ Below w4.heap.size w4 w'' from fun w' v' l' hb hr hl' => (ahead_law x v' l' w' hr (by omega)).mono fun o w'' ⟨v2, a1, a2, a3⟩ => ⟨v2, a1, a2.more hb.size, hb.trans (a3.mono hb.size)⟩)
      have hfr : ∀ W : World, Below w4.heap.size w4 W → (W.cell? ⟨w.heap.size, 1, none⟩ = some (.int .i64 x.x.pr) ∧ W.cell? ⟨w.heap.size, 2, none⟩ = some (.bool x.x.s6) ∧ W.cell? ⟨w.heap.size, 3, none⟩ = some (.int .u64 x.x.sh) ∧ W.cell? ⟨w.heap.size, 4, none⟩ = some (.int .u64 x.x.sl) ∧ W.cell? ⟨w.heap.size, 5, none⟩ = some (.bool x.x.d6) ∧ W.cell? ⟨w.heap.size, 6, none⟩ = some (.int .u64 x.x.dh) ∧ W.cell? ⟨w.heap.size, 7, none⟩ = some (.int .u64 x.x.dl) ∧ W.cell? ⟨w.heap.size, 8, none⟩ = some (.int .i64 x.x.sp) ∧ W.cell? ⟨w.heap.size, 9, none⟩ = some (.int .i64 x.x.dp) ∧ W.cell? ⟨w.heap.size, 10, none⟩ = some (.int .i64 x.host) ∧ W.cell? ⟨w.heap.size, 11, none⟩ = some (.int .i64 x.state) ∧ W.cell? ⟨w.heap.size, 12, none⟩ = some (.int .i64 x.till) ∧ W.cell? ⟨w3.heap.size, 0, none⟩ = some (.int .i64 0) ∧ W.cell? ⟨w3.heap.size, 1, none⟩ = some (.bool false) ∧ W.cell? ⟨w3.heap.size, 2, none⟩ = some (.int .u64 0) ∧ W.cell? ⟨w3.heap.size, 3, none⟩ = some (.int .u64 0) ∧ W.cell? ⟨w3.heap.size, 4, none⟩ = some (.bool false) ∧ W.cell? ⟨w3.heap.size, 5, none⟩ = some (.int .u64 0) ∧ W.cell? ⟨w3.heap.size, 6, none⟩ = some (.int .u64 0) ∧ W.cell? ⟨w3.heap.size, 7, none⟩ = some (.int .i64 0) ∧ W.cell? ⟨w3.heap.size, 8, none⟩ = some (.int .i64 0) ∧ W.cell? ⟨w3.heap.size, 9, none⟩ = some (.int .i64 0) ∧ W.cell? ⟨w3.heap.size, 10, none⟩ = some (.int .i64 0) ∧ W.cell? ⟨w3.heap.size, 11, none⟩ = some (.int .i64 0)) := fun W hb => by
        have h1 : Blk W w.heap.size 57 #[.int .i64 kd, .int .i64 x.x.pr, .bool x.x.s6, .int .u64 x.x.sh, .int .u64 x.x.sl, .bool x.x.d6, .int .u64 x.x.dh, .int .u64 x.x.dl, .int .i64 x.x.sp, .int .i64 x.x.dp, .int .i64 x.host, .int .i64 x.state, .int .i64 x.till, .slice A m cc] := (hb.block _ K4.lt).trans K4
        have h2 : Blk W w3.heap.size 33 #[.int .i64 0, .bool false, .int .u64 0, .int .u64 0, .bool false, .int .u64 0, .int .u64 0, .int .i64 0, .int .i64 0, .int .i64 0, .int .i64 0, .int .i64 0] := (hb.block _ G4.lt).trans G4
        exact ⟨h1.cell 1, h1.cell 2, h1.cell 3, h1.cell 4, h1.cell 5, h1.cell 6, h1.cell 7, h1.cell 8, h1.cell 9, h1.cell 10, h1.cell 11, h1.cell 12, h2.cell 0, h2.cell 1, h2.cell 2, h2.cell 3, h2.cell 4, h2.cell 5, h2.cell 6, h2.cell 7, h2.cell 8, h2.cell 9, h2.cell 10, h2.cell 11⟩
      have B4 := Lib.hid ((Below.refl w4.heap.size w4).drew)
      have HFR := Lib.hid hfr
      have s0 := hfr _ B4.out
      have t5 : decide ((l.length : Int) < n) = true := decide_eq_true (by omega)
      have HLL := Lib.hid hl4
      have HS4 := Lib.hid hs4
      have R4d := Lib.hid (R4.out.below (Below.refl _ _).drew)
      clear hf hrd hap hno ht hlt3 K3 hb4 hs4 G4 K4 hfr
      unfold zeroE Ent.cells
      dsimp only
      go_wp2_with fail
      rw [← hw4]
      clear hw4
      go_wp2_with fail
      go_region_held3 (fun w' => w'.cell? ⟨w.heap.size, 1, none⟩ = some (.int .i64 x.x.pr) ∧ w'.cell? ⟨w.heap.size, 2, none⟩ = some (.bool x.x.s6) ∧ w'.cell? ⟨w.heap.size, 3, none⟩ = some (.int .u64 x.x.sh) ∧ w'.cell? ⟨w.heap.size, 4, none⟩ = some (.int .u64 x.x.sl) ∧ w'.cell? ⟨w.heap.size, 5, none⟩ = some (.bool x.x.d6) ∧ w'.cell? ⟨w.heap.size, 6, none⟩ = some (.int .u64 x.x.dh) ∧ w'.cell? ⟨w.heap.size, 7, none⟩ = some (.int .u64 x.x.dl) ∧ w'.cell? ⟨w.heap.size, 8, none⟩ = some (.int .i64 x.x.sp) ∧ w'.cell? ⟨w.heap.size, 9, none⟩ = some (.int .i64 x.x.dp) ∧ w'.cell? ⟨w.heap.size, 10, none⟩ = some (.int .i64 x.host) ∧ w'.cell? ⟨w.heap.size, 11, none⟩ = some (.int .i64 x.state) ∧ w'.cell? ⟨w.heap.size, 12, none⟩ = some (.int .i64 x.till) ∧ w'.cell? ⟨w3.heap.size, 0, none⟩ = some (.int .i64 0) ∧ w'.cell? ⟨w3.heap.size, 1, none⟩ = some (.bool false) ∧ w'.cell? ⟨w3.heap.size, 2, none⟩ = some (.int .u64 0) ∧ w'.cell? ⟨w3.heap.size, 3, none⟩ = some (.int .u64 0) ∧ w'.cell? ⟨w3.heap.size, 4, none⟩ = some (.bool false) ∧ w'.cell? ⟨w3.heap.size, 5, none⟩ = some (.int .u64 0) ∧ w'.cell? ⟨w3.heap.size, 6, none⟩ = some (.int .u64 0) ∧ w'.cell? ⟨w3.heap.size, 7, none⟩ = some (.int .i64 0) ∧ w'.cell? ⟨w3.heap.size, 8, none⟩ = some (.int .i64 0) ∧ w'.cell? ⟨w3.heap.size, 9, none⟩ = some (.int .i64 0) ∧ w'.cell? ⟨w3.heap.size, 10, none⟩ = some (.int .i64 0) ∧ w'.cell? ⟨w3.heap.size, 11, none⟩ = some (.int .i64 0)) (assumption)
        (first
            | (go_at_call 40
               (with_reducible refine (HAH.out _ _ _ B4.out R4d.out HLL.out).mono ?_)
               rintro o w6 ⟨v6, rfl, ho, hb⟩
               have s6 := HFR.out _ hb
               have O6 := Lib.hid ho
               have B6 := Lib.hid hb
               clear hb ho))
      all_goals
        go_wp2_with fail
        refine bodyPost_ret (results_tmp2 rfl _ _ _) rfl ⟨v2, _, _, rfl, T4.out.far B6.out HB.out, RdE.of_own O6.out, apart_own (show ta < w4.heap.size ∧ r < w4.heap.size ∧ ∀ g, v2.ownBlock = some g → g < w4.heap.size from ⟨by have := HLT3.out.1; have := HS4.out; omega, by have := HLT3.out.2.1; have := HS4.out; omega, fun g e => by have := HLT3.out.2.2 g e; have := HS4.out; omega⟩) O6.out⟩
    · have hA2 : A2.length < l.length := by rw [hl2]; simp
      have hA3 : l.length = A2.length + 1 := by rw [hl2]; simp
      have hle : l[A2.length] = e0 := by
        have : l[A2.length]? = some e0 := by rw [hl2]; simp
        rw [List.getElem?_eq_getElem hA2] at this
        injection this
      have hlt3 : ta < w3.heap.size ∧ r < w3.heap.size ∧ ∀ g, v2.ownBlock = some g → g < w3.heap.size := tab_lt ht.tab
      have K3 := hf.blk K2.out (by have := HLT.out.1; omega) (by have := HLT.out.2.1; omega) (fun e => by have := HLT.out.2.2 _ e.symm; omega)
      obtain ⟨w4, hw4⟩ : ∃ w4, w4 = w3.alloc (.cells #[.int .i64 e0.x.pr, .bool e0.x.s6, .int .u64 e0.x.sh, .int .u64 e0.x.sl, .bool e0.x.d6, .int .u64 e0.x.dh, .int .u64 e0.x.dl, .int .i64 e0.x.sp, .int .i64 e0.x.dp, .int .i64 e0.host, .int .i64 e0.state, .int .i64 e0.till] 33) := ⟨_, rfl⟩
      have hb4 : Below w3.heap.size w3 w4 := hw4 ▸ (Below.refl w3.heap.size w3).alloc (Nat.le_refl _) _
      have hs4 : w4.heap.size = w3.heap.size + 1 := by rw [hw4]; simp
      have G4 : Blk w4 w3.heap.size 33 #[.int .i64 e0.x.pr, .bool e0.x.s6, .int .u64 e0.x.sh, .int .u64 e0.x.sl, .bool e0.x.d6, .int .u64 e0.x.dh, .int .u64 e0.x.dl, .int .i64 e0.x.sp, .int .i64 e0.x.dp, .int .i64 e0.host, .int .i64 e0.state, .int .i64 e0.till] := hw4 ▸ Blk.new w3 _ _
      have K4 : Blk w4 w.heap.size 57 #[.int .i64 kd, .int .i64 x.x.pr, .bool x.x.s6, .int .u64 x.x.sh, .int .u64 x.x.sl, .bool x.x.d6, .int .u64 x.x.dh, .int .u64 x.x.dl, .int .i64 x.x.sp, .int .i64 x.x.dp, .int .i64 x.host, .int .i64 x.state, .int .i64 x.till, .slice A m cc] := (hb4.block _ K3.lt).trans K3
      have T4 := Lib.hid (ht.far hb4 HB.out)
      have R4 := Lib.hid (hrd.below hb4)
      have HLT3 := Lib.hid hlt3
      obtain ⟨b, c, hvb, _, _, hbl, hC⟩ := RdE.at_ R4.out A2.length hA2
      obtain ⟨rfl, rfl⟩ : LA = some ⟨b, 0, none⟩ ∧ LC = c := by injection hvb with a b c; exact ⟨a, c⟩
      clear hvb
      rw [hle] at hC
      have d0 : w4.cell? ⟨b, A2.length * 12, none⟩ = some (.int .i64 e0.x.pr) := hC 0 (by omega)
      have d1 : w4.cell? ⟨b, A2.length * 12 + 1, none⟩ = some (.bool e0.x.s6) := hC 1 (by omega)
      have d2 : w4.cell? ⟨b, A2.length * 12 + 2, none⟩ = some (.int .u64 e0.x.sh) := hC 2 (by omega)
      have d3 : w4.cell? ⟨b, A2.length * 12 + 3, none⟩ = some (.int .u64 e0.x.sl) := hC 3 (by omega)
      have d4 : w4.cell? ⟨b, A2.length * 12 + 4, none⟩ = some (.bool e0.x.d6) := hC 4 (by omega)
      have d5 : w4.cell? ⟨b, A2.length * 12 + 5, none⟩ = some (.int .u64 e0.x.dh) := hC 5 (by omega)
      have d6 : w4.cell? ⟨b, A2.length * 12 + 6, none⟩ = some (.int .u64 e0.x.dl) := hC 6 (by omega)
      have d7 : w4.cell? ⟨b, A2.length * 12 + 7, none⟩ = some (.int .i64 e0.x.sp) := hC 7 (by omega)
      have d8 : w4.cell? ⟨b, A2.length * 12 + 8, none⟩ = some (.int .i64 e0.x.dp) := hC 8 (by omega)
      have d9 : w4.cell? ⟨b, A2.length * 12 + 9, none⟩ = some (.int .i64 e0.host) := hC 9 (by omega)
      have d10 : w4.cell? ⟨b, A2.length * 12 + 10, none⟩ = some (.int .i64 e0.state) := hC 10 (by omega)
      have d11 : w4.cell? ⟨b, A2.length * 12 + 11, none⟩ = some (.int .i64 e0.till) := hC 11 (by omega)
      obtain ⟨w5, hw5⟩ : ∃ w5, w5 = w4.alloc (.cells #[.int .i64 e0.x.pr, .bool e0.x.s6, .int .u64 e0.x.sh, .int .u64 e0.x.sl, .bool e0.x.d6, .int .u64 e0.x.dh, .int .u64 e0.x.dl, .int .i64 e0.x.sp, .int .i64 e0.x.dp, .int .i64 e0.host, .int .i64 e0.state, .int .i64 e0.till] 33) := ⟨_, rfl⟩
      have hb5 : Below w4.heap.size w4 w5 := hw5 ▸ (Below.refl w4.heap.size w4).alloc (Nat.le_refl _) _
      have hs5 : w5.heap.size = w4.heap.size + 1 := by rw [hw5]; simp
      have L5 : Blk w5 (w3.heap.size + 1) 33 #[.int .i64 e0.x.pr, .bool e0.x.s6, .int .u64 e0.x.sh, .int .u64 e0.x.sl, .bool e0.x.d6, .int .u64 e0.x.dh, .int .u64 e0.x.dl, .int .i64 e0.x.sp, .int .i64 e0.x.dp, .int .i64 e0.host, .int .i64 e0.state, .int .i64 e0.till] := by
        have := Blk.new w4 33 #[.int .i64 e0.x.pr, .bool e0.x.s6, .int .u64 e0.x.sh, .int .u64 e0.x.sl, .bool e0.x.d6, .int .u64 e0.x.dh, .int .u64 e0.x.dl, .int .i64 e0.x.sp, .int .i64 e0.x.dp, .int .i64 e0.host, .int .i64 e0.state, .int .i64 e0.till]
        rw [hs4] at this
        rw [hw5]
        exact this
      have K5 : Blk w5 w.heap.size 57 #[.int .i64 kd, .int .i64 x.x.pr, .bool x.x.s6, .int .u64 x.x.sh, .int .u64 x.x.sl, .bool x.x.d6, .int .u64 x.x.dh, .int .u64 x.x.dl, .int .i64 x.x.sp, .int .i64 x.x.dp, .int .i64 x.host, .int .i64 x.state, .int .i64 x.till, .slice A m cc] := (hb5.block _ K4.lt).trans K4
      have G5 : Blk w5 w3.heap.size 33 #[.int .i64 e0.x.pr, .bool e0.x.s6, .int .u64 e0.x.sh, .int .u64 e0.x.sl, .bool e0.x.d6, .int .u64 e0.x.dh, .int .u64 e0.x.dl, .int .i64 e0.x.sp, .int .i64 e0.x.dp, .int .i64 e0.host, .int .i64 e0.state, .int .i64 e0.till] := (hb5.block _ G4.lt).trans G4
      have T5 := Lib.hid (T4.out.far hb5 HB.out)
      have R5 := Lib.hid (R4.out.below hb5)
      have hfr : ∀ W : World, Below w5.heap.size w5 W → (W.cell? ⟨w.heap.size, 1, none⟩ = some (.int .i64 x.x.pr) ∧ W.cell? ⟨w.heap.size, 2, none⟩ = some (.bool x.x.s6) ∧ W.cell? ⟨w.heap.size, 3, none⟩ = some (.int .u64 x.x.sh) ∧ W.cell? ⟨w.heap.size, 4, none⟩ = some (.int .u64 x.x.sl) ∧ W.cell? ⟨w.heap.size, 5, none⟩ = some (.bool x.x.d6) ∧ W.cell? ⟨w.heap.size, 6, none⟩ = some (.int .u64 x.x.dh) ∧ W.cell? ⟨w.heap.size, 7, none⟩ = some (.int .u64 x.x.dl) ∧ W.cell? ⟨w.heap.size, 8, none⟩ = some (.int .i64 x.x.sp) ∧ W.cell? ⟨w.heap.size, 9, none⟩ = some (.int .i64 x.x.dp) ∧ W.cell? ⟨w.heap.size, 10, none⟩ = some (.int .i64 x.host) ∧ W.cell? ⟨w.heap.size, 11, none⟩ = some (.int .i64 x.state) ∧ W.cell? ⟨w.heap.size, 12, none⟩ = some (.int .i64 x.till) ∧ W.cell? ⟨w3.heap.size, 0, none⟩ = some (.int .i64 e0.x.pr) ∧ W.cell? ⟨w3.heap.size, 1, none⟩ = some (.bool e0.x.s6) ∧ W.cell? ⟨w3.heap.size, 2, none⟩ = some (.int .u64 e0.x.sh) ∧ W.cell? ⟨w3.heap.size, 3, none⟩ = some (.int .u64 e0.x.sl) ∧ W.cell? ⟨w3.heap.size, 4, none⟩ = some (.bool e0.x.d6) ∧ W.cell? ⟨w3.heap.size, 5, none⟩ = some (.int .u64 e0.x.dh) ∧ W.cell? ⟨w3.heap.size, 6, none⟩ = some (.int .u64 e0.x.dl) ∧ W.cell? ⟨w3.heap.size, 7, none⟩ = some (.int .i64 e0.x.sp) ∧ W.cell? ⟨w3.heap.size, 8, none⟩ = some (.int .i64 e0.x.dp) ∧ W.cell? ⟨w3.heap.size, 9, none⟩ = some (.int .i64 e0.host) ∧ W.cell? ⟨w3.heap.size, 10, none⟩ = some (.int .i64 e0.state) ∧ W.cell? ⟨w3.heap.size, 11, none⟩ = some (.int .i64 e0.till) ∧ W.cell? ⟨w3.heap.size + 1, 0, none⟩ = some (.int .i64 e0.x.pr) ∧ W.cell? ⟨w3.heap.size + 1, 1, none⟩ = some (.bool e0.x.s6) ∧ W.cell? ⟨w3.heap.size + 1, 2, none⟩ = some (.int .u64 e0.x.sh) ∧ W.cell? ⟨w3.heap.size + 1, 3, none⟩ = some (.int .u64 e0.x.sl) ∧ W.cell? ⟨w3.heap.size + 1, 4, none⟩ = some (.bool e0.x.d6) ∧ W.cell? ⟨w3.heap.size + 1, 5, none⟩ = some (.int .u64 e0.x.dh) ∧ W.cell? ⟨w3.heap.size + 1, 6, none⟩ = some (.int .u64 e0.x.dl) ∧ W.cell? ⟨w3.heap.size + 1, 7, none⟩ = some (.int .i64 e0.x.sp) ∧ W.cell? ⟨w3.heap.size + 1, 8, none⟩ = some (.int .i64 e0.x.dp) ∧ W.cell? ⟨w3.heap.size + 1, 9, none⟩ = some (.int .i64 e0.host) ∧ W.cell? ⟨w3.heap.size + 1, 10, none⟩ = some (.int .i64 e0.state) ∧ W.cell? ⟨w3.heap.size + 1, 11, none⟩ = some (.int .i64 e0.till)) := fun W hb => by
        have h1 : Blk W w.heap.size 57 #[.int .i64 kd, .int .i64 x.x.pr, .bool x.x.s6, .int .u64 x.x.sh, .int .u64 x.x.sl, .bool x.x.d6, .int .u64 x.x.dh, .int .u64 x.x.dl, .int .i64 x.x.sp, .int .i64 x.x.dp, .int .i64 x.host, .int .i64 x.state, .int .i64 x.till, .slice A m cc] := (hb.block _ K5.lt).trans K5
        have h2 : Blk W w3.heap.size 33 #[.int .i64 e0.x.pr, .bool e0.x.s6, .int .u64 e0.x.sh, .int .u64 e0.x.sl, .bool e0.x.d6, .int .u64 e0.x.dh, .int .u64 e0.x.dl, .int .i64 e0.x.sp, .int .i64 e0.x.dp, .int .i64 e0.host, .int .i64 e0.state, .int .i64 e0.till] := (hb.block _ G5.lt).trans G5
        have h3 : Blk W (w3.heap.size + 1) 33 #[.int .i64 e0.x.pr, .bool e0.x.s6, .int .u64 e0.x.sh, .int .u64 e0.x.sl, .bool e0.x.d6, .int .u64 e0.x.dh, .int .u64 e0.x.dl, .int .i64 e0.x.sp, .int .i64 e0.x.dp, .int .i64 e0.host, .int .i64 e0.state, .int .i64 e0.till] := (hb.block _ L5.lt).trans L5
        exact ⟨h1.cell 1, h1.cell 2, h1.cell 3, h1.cell 4, h1.cell 5, h1.cell 6, h1.cell 7, h1.cell 8, h1.cell 9, h1.cell 10, h1.cell 11, h1.cell 12, h2.cell 0, h2.cell 1, h2.cell 2, h2.cell 3, h2.cell 4, h2.cell 5, h2.cell 6, h2.cell 7, h2.cell 8, h2.cell 9, h2.cell 10, h2.cell 11, h3.cell 0, h3.cell 1, h3.cell 2, h3.cell 3, h3.cell 4, h3.cell 5, h3.cell 6, h3.cell 7, h3.cell 8, h3.cell 9, h3.cell 10, h3.cell 11⟩
      have HAH := Lib.hid (show ∀ w' v' l', Below w5.heap.size w5 w' → RdE w' v' l' → l'.length ≤ 4096 → Calls Try.prog 40 #[.agg #[.int .i64 x.x.pr, .bool x.x.s6, .int .u64 x.x.sh, .int .u64 x.x.sl, .bool x.x.d6, .int .u64 x.x.dh, .int .u64 x.x.dl, .int .i64 x.x.sp, .int .i64 x.x.dp, .int .i64 x.host, .int .i64 x.state, .int .i64 x.till], v'] w' fun o w'' => ∃ v2, o = .returned v2 ∧ Own w'' w5.heap.size v2 (x :: l') ∧ Below w5.heap.size w5 w'' from fun w' v' l' hb hr hl' => (ahead_law x v' l' w' hr (by omega)).mono fun o w'' ⟨v2, a1, a2, a3⟩ => ⟨v2, a1, a2.more hb.size, hb.trans (a3.mono hb.size)⟩)
      have HWI := Lib.hid (show ∀ w', Below w5.heap.size w5 w' → Calls Try.prog 41 #[.slice (some ⟨b, 0, none⟩) l.length LC, .int .i64 (A2.length : Nat)] w' fun o w'' => ∃ v', o = .returned v' ∧ Own w'' w5.heap.size v' A2 ∧ Below w5.heap.size w5 w'' from fun w' hb => (without_law (A2.length : Nat) _ l w' (R5.out.below hb) (by omega)).mono fun o w'' ⟨v', a1, a2, a3⟩ => ⟨v', a1, by
        have e9 : woN l ((A2.length : Nat) : Int) l.length = A2 := by
          have := wo_split A2 [] e0
          rw [List.append_nil] at this
          rw [hl2]
          exact this
        rw [e9] at a2
        exact a2.more hb.size, hb.trans (a3.mono hb.size)⟩)
      have HLL := Lib.hid (show A2.length ≤ 4096 by omega)
      have B4 := Lib.hid ((Below.refl w5.heap.size w5).drew)
      have HFR := Lib.hid hfr
      have s0 := hfr _ B4.out
      have t5 : decide ((l.length : Int) < n) = false := decide_eq_false (by omega)
      have t6 : decide (l.length < n) = false := decide_eq_false (by omega)
      have t7 : ¬ l.length < n := by omega
      have HS4 := Lib.hid (show w5.heap.size = w3.heap.size + 2 by omega)
      have hwr : IntKind.i64.wrap ((l.length : Int) - 1) = ((A2.length : Nat) : Int) := by rw [IntWalk.i64_in _ (by omega)]; omega
      have hk1 : (0 : Int) ≤ (A2.length : Nat) := by omega
      have hk2 : ((A2.length : Nat) : Int) < l.length := by omega
      have HQ := fun W : World => ent_eq e0 e0 W
      rw [sameE_yes] at HQ
      have heq : ∀ W : World, (binOp .eql 33 (.agg #[.int .i64 e0.x.pr, .bool e0.x.s6, .int .u64 e0.x.sh, .int .u64 e0.x.sl, .bool e0.x.d6, .int .u64 e0.x.dh, .int .u64 e0.x.dl, .int .i64 e0.x.sp, .int .i64 e0.x.dp, .int .i64 e0.host, .int .i64 e0.state, .int .i64 e0.till]) (.agg #[.int .i64 e0.x.pr, .bool e0.x.s6, .int .u64 e0.x.sh, .int .u64 e0.x.sl, .bool e0.x.d6, .int .u64 e0.x.dh, .int .u64 e0.x.dl, .int .i64 e0.x.sp, .int .i64 e0.x.dp, .int .i64 e0.host, .int .i64 e0.state, .int .i64 e0.till])).run Try.prog W = .ok (.bool true) W := HQ
      have HLEN := Lib.hid hlen
      have HA3 := Lib.hid hA3
      clear hlen hA3 hA2 HQ hf hrd hap hno ht hlt3 K3 hb4 hs4 G4 K4 hfr hb5 hs5 L5 K5 G5 hC hle hl2
      unfold Ent.cells
      rw [hw4] at d0 d1 d2 d3 d4 d5 d6 d7 d8 d9 d10 d11
      go_wp2_with fail
      rw [← hw4, ← hw5]
      clear hw4 hw5 d0 d1 d2 d3 d4 d5 d6 d7 d8 d9 d10 d11
      go_wp2_with fail
      go_region_held3 (fun w' => w'.cell? ⟨w.heap.size, 1, none⟩ = some (.int .i64 x.x.pr) ∧ w'.cell? ⟨w.heap.size, 2, none⟩ = some (.bool x.x.s6) ∧ w'.cell? ⟨w.heap.size, 3, none⟩ = some (.int .u64 x.x.sh) ∧ w'.cell? ⟨w.heap.size, 4, none⟩ = some (.int .u64 x.x.sl) ∧ w'.cell? ⟨w.heap.size, 5, none⟩ = some (.bool x.x.d6) ∧ w'.cell? ⟨w.heap.size, 6, none⟩ = some (.int .u64 x.x.dh) ∧ w'.cell? ⟨w.heap.size, 7, none⟩ = some (.int .u64 x.x.dl) ∧ w'.cell? ⟨w.heap.size, 8, none⟩ = some (.int .i64 x.x.sp) ∧ w'.cell? ⟨w.heap.size, 9, none⟩ = some (.int .i64 x.x.dp) ∧ w'.cell? ⟨w.heap.size, 10, none⟩ = some (.int .i64 x.host) ∧ w'.cell? ⟨w.heap.size, 11, none⟩ = some (.int .i64 x.state) ∧ w'.cell? ⟨w.heap.size, 12, none⟩ = some (.int .i64 x.till) ∧ w'.cell? ⟨w3.heap.size, 0, none⟩ = some (.int .i64 e0.x.pr) ∧ w'.cell? ⟨w3.heap.size, 1, none⟩ = some (.bool e0.x.s6) ∧ w'.cell? ⟨w3.heap.size, 2, none⟩ = some (.int .u64 e0.x.sh) ∧ w'.cell? ⟨w3.heap.size, 3, none⟩ = some (.int .u64 e0.x.sl) ∧ w'.cell? ⟨w3.heap.size, 4, none⟩ = some (.bool e0.x.d6) ∧ w'.cell? ⟨w3.heap.size, 5, none⟩ = some (.int .u64 e0.x.dh) ∧ w'.cell? ⟨w3.heap.size, 6, none⟩ = some (.int .u64 e0.x.dl) ∧ w'.cell? ⟨w3.heap.size, 7, none⟩ = some (.int .i64 e0.x.sp) ∧ w'.cell? ⟨w3.heap.size, 8, none⟩ = some (.int .i64 e0.x.dp) ∧ w'.cell? ⟨w3.heap.size, 9, none⟩ = some (.int .i64 e0.host) ∧ w'.cell? ⟨w3.heap.size, 10, none⟩ = some (.int .i64 e0.state) ∧ w'.cell? ⟨w3.heap.size, 11, none⟩ = some (.int .i64 e0.till) ∧ w'.cell? ⟨w3.heap.size + 1, 0, none⟩ = some (.int .i64 e0.x.pr) ∧ w'.cell? ⟨w3.heap.size + 1, 1, none⟩ = some (.bool e0.x.s6) ∧ w'.cell? ⟨w3.heap.size + 1, 2, none⟩ = some (.int .u64 e0.x.sh) ∧ w'.cell? ⟨w3.heap.size + 1, 3, none⟩ = some (.int .u64 e0.x.sl) ∧ w'.cell? ⟨w3.heap.size + 1, 4, none⟩ = some (.bool e0.x.d6) ∧ w'.cell? ⟨w3.heap.size + 1, 5, none⟩ = some (.int .u64 e0.x.dh) ∧ w'.cell? ⟨w3.heap.size + 1, 6, none⟩ = some (.int .u64 e0.x.dl) ∧ w'.cell? ⟨w3.heap.size + 1, 7, none⟩ = some (.int .i64 e0.x.sp) ∧ w'.cell? ⟨w3.heap.size + 1, 8, none⟩ = some (.int .i64 e0.x.dp) ∧ w'.cell? ⟨w3.heap.size + 1, 9, none⟩ = some (.int .i64 e0.host) ∧ w'.cell? ⟨w3.heap.size + 1, 10, none⟩ = some (.int .i64 e0.state) ∧ w'.cell? ⟨w3.heap.size + 1, 11, none⟩ = some (.int .i64 e0.till)) (assumption)
        (first
            | (go_at_call 41
               (with_reducible refine (HWI.out _ B4.out).mono ?_)
               rintro o w7 ⟨v7, rfl, ho, hb⟩
               have s5 := HFR.out _ hb
               have O5 := Lib.hid ho
               have B5 := Lib.hid hb
               clear hb ho)
            | (go_at_call 40
               (with_reducible refine (HAH.out _ _ _ B5.out (RdE.of_own O5.out) HLL.out).mono ?_)
               rintro o w6 ⟨v6, rfl, ho, hb⟩
               have s6 := HFR.out _ hb
               have O6 := Lib.hid ho
               have B6 := Lib.hid hb
               clear hb ho))
      all_goals
        go_wp2_with fail
        refine bodyPost_ret (results_tmp2 rfl _ _ _) rfl ⟨v2, _, _, rfl, T5.out.far B6.out HB.out, RdE.of_own O6.out, apart_own (show ta < w5.heap.size ∧ r < w5.heap.size ∧ ∀ g, v2.ownBlock = some g → g < w5.heap.size from ⟨by have := HLT3.out.1; have := HS4.out; omega, by have := HLT3.out.2.1; have := HS4.out; omega, fun g e => by have := HLT3.out.2.2 g e; have := HS4.out; omega⟩) O6.out⟩
  · have HL := Lib.hid hl
    have HEX := Lib.hid hex
    clear hl hex
    have hk0 : decide ((0 : Int) ≤ ((A1.length : Nat) : Int)) = true := decide_eq_true (by omega)
    go_wp2_with fail
    refine HT.out.mono ?_
    rintro o w3 ⟨v2, hf, hrd, hap, ⟨A2, e2, B2, hl2, hex2, rfl, ht⟩ | ⟨hno, _⟩ | ⟨hno, _⟩⟩
    · obtain ⟨rfl, rfl, rfl⟩ := split_uniq HU.out hl2 HL.out (hex2.trans HEX.out.symm)
      have hlt3 : ta < w3.heap.size ∧ r < w3.heap.size ∧ ∀ g, v2.ownBlock = some g → g < w3.heap.size := tab_lt ht.tab
      have K3 := hf.blk K2.out (by have := HLT.out.1; omega) (by have := HLT.out.2.1; omega) (fun e => by have := HLT.out.2.2 _ e.symm; omega)
      obtain ⟨w4, hw4⟩ : ∃ w4, w4 = w3.alloc (.cells #[.int .i64 0, .bool false, .int .u64 0, .int .u64 0, .bool false, .int .u64 0, .int .u64 0, .int .i64 0, .int .i64 0, .int .i64 0, .int .i64 0, .int .i64 0] 33) := ⟨_, rfl⟩
      have hb4 : Below w3.heap.size w3 w4 := hw4 ▸ (Below.refl w3.heap.size w3).alloc (Nat.le_refl _) _
      have hs4 : w4.heap.size = w3.heap.size + 1 := by rw [hw4]; simp
      have G4 : Blk w4 w3.heap.size 33 #[.int .i64 0, .bool false, .int .u64 0, .int .u64 0, .bool false, .int .u64 0, .int .u64 0, .int .i64 0, .int .i64 0, .int .i64 0, .int .i64 0, .int .i64 0] := hw4 ▸ Blk.new w3 _ _
      have K4 : Blk w4 w.heap.size 57 #[.int .i64 kd, .int .i64 x.x.pr, .bool x.x.s6, .int .u64 x.x.sh, .int .u64 x.x.sl, .bool x.x.d6, .int .u64 x.x.dh, .int .u64 x.x.dl, .int .i64 x.x.sp, .int .i64 x.x.dp, .int .i64 x.host, .int .i64 x.state, .int .i64 x.till, .slice A m cc] := (hb4.block _ K3.lt).trans K3
      have T4 := Lib.hid (ht.far hb4 HB.out)
      have R4 := Lib.hid (hrd.below hb4)
      have HLT3 := Lib.hid hlt3
      have HAH := Lib.hid (show ∀ w' v' l', Below w4.heap.size w4 w' → RdE w' v' l' → l'.length ≤ 4096 → Calls Try.prog 40 #[.agg #[.int .i64 x.x.pr, .bool x.x.s6, .int .u64 x.x.sh, .int .u64 x.x.sl, .bool x.x.d6, .int .u64 x.x.dh, .int .u64 x.x.dl, .int .i64 x.x.sp, .int .i64 x.x.dp, .int .i64 x.host, .int .i64 x.state, .int .i64 x.till], v'] w' fun o w'' => ∃ v2, o = .returned v2 ∧ Own w'' w4.heap.size v2 (x :: l') ∧ Below w4.heap.size w4 w'' from fun w' v' l' hb hr hl' => (ahead_law x v' l' w' hr (by omega)).mono fun o w'' ⟨v2, a1, a2, a3⟩ => ⟨v2, a1, a2.more hb.size, hb.trans (a3.mono hb.size)⟩)
      have hfr : ∀ W : World, Below w4.heap.size w4 W → (W.cell? ⟨w.heap.size, 1, none⟩ = some (.int .i64 x.x.pr) ∧ W.cell? ⟨w.heap.size, 2, none⟩ = some (.bool x.x.s6) ∧ W.cell? ⟨w.heap.size, 3, none⟩ = some (.int .u64 x.x.sh) ∧ W.cell? ⟨w.heap.size, 4, none⟩ = some (.int .u64 x.x.sl) ∧ W.cell? ⟨w.heap.size, 5, none⟩ = some (.bool x.x.d6) ∧ W.cell? ⟨w.heap.size, 6, none⟩ = some (.int .u64 x.x.dh) ∧ W.cell? ⟨w.heap.size, 7, none⟩ = some (.int .u64 x.x.dl) ∧ W.cell? ⟨w.heap.size, 8, none⟩ = some (.int .i64 x.x.sp) ∧ W.cell? ⟨w.heap.size, 9, none⟩ = some (.int .i64 x.x.dp) ∧ W.cell? ⟨w.heap.size, 10, none⟩ = some (.int .i64 x.host) ∧ W.cell? ⟨w.heap.size, 11, none⟩ = some (.int .i64 x.state) ∧ W.cell? ⟨w.heap.size, 12, none⟩ = some (.int .i64 x.till) ∧ W.cell? ⟨w3.heap.size, 0, none⟩ = some (.int .i64 0) ∧ W.cell? ⟨w3.heap.size, 1, none⟩ = some (.bool false) ∧ W.cell? ⟨w3.heap.size, 2, none⟩ = some (.int .u64 0) ∧ W.cell? ⟨w3.heap.size, 3, none⟩ = some (.int .u64 0) ∧ W.cell? ⟨w3.heap.size, 4, none⟩ = some (.bool false) ∧ W.cell? ⟨w3.heap.size, 5, none⟩ = some (.int .u64 0) ∧ W.cell? ⟨w3.heap.size, 6, none⟩ = some (.int .u64 0) ∧ W.cell? ⟨w3.heap.size, 7, none⟩ = some (.int .i64 0) ∧ W.cell? ⟨w3.heap.size, 8, none⟩ = some (.int .i64 0) ∧ W.cell? ⟨w3.heap.size, 9, none⟩ = some (.int .i64 0) ∧ W.cell? ⟨w3.heap.size, 10, none⟩ = some (.int .i64 0) ∧ W.cell? ⟨w3.heap.size, 11, none⟩ = some (.int .i64 0)) := fun W hb => by
        have h1 : Blk W w.heap.size 57 #[.int .i64 kd, .int .i64 x.x.pr, .bool x.x.s6, .int .u64 x.x.sh, .int .u64 x.x.sl, .bool x.x.d6, .int .u64 x.x.dh, .int .u64 x.x.dl, .int .i64 x.x.sp, .int .i64 x.x.dp, .int .i64 x.host, .int .i64 x.state, .int .i64 x.till, .slice A m cc] := (hb.block _ K4.lt).trans K4
        have h2 : Blk W w3.heap.size 33 #[.int .i64 0, .bool false, .int .u64 0, .int .u64 0, .bool false, .int .u64 0, .int .u64 0, .int .i64 0, .int .i64 0, .int .i64 0, .int .i64 0, .int .i64 0] := (hb.block _ G4.lt).trans G4
        exact ⟨h1.cell 1, h1.cell 2, h1.cell 3, h1.cell 4, h1.cell 5, h1.cell 6, h1.cell 7, h1.cell 8, h1.cell 9, h1.cell 10, h1.cell 11, h1.cell 12, h2.cell 0, h2.cell 1, h2.cell 2, h2.cell 3, h2.cell 4, h2.cell 5, h2.cell 6, h2.cell 7, h2.cell 8, h2.cell 9, h2.cell 10, h2.cell 11⟩
      have B4 := Lib.hid ((Below.refl w4.heap.size w4).drew)
      have HFR := Lib.hid hfr
      have s0 := hfr _ B4.out
      have HWI := Lib.hid (show ∀ w', Below w4.heap.size w4 w' → Calls Try.prog 41 #[.slice LA l.length LC, .int .i64 (A2.length : Nat)] w' fun o w'' => ∃ v', o = .returned v' ∧ Own w'' w4.heap.size v' (A2 ++ B2) ∧ Below w4.heap.size w4 w'' from fun w' hb => (without_law (A2.length : Nat) _ l w' (R4.out.below hb) (by omega)).mono fun o w'' ⟨v', a1, a2, a3⟩ => ⟨v', a1, by
        have e9 : woN l ((A2.length : Nat) : Int) l.length = A2 ++ B2 := by rw [hl2]; exact wo_split A2 B2 e2
        rw [e9] at a2
        exact a2.more hb.size, hb.trans (a3.mono hb.size)⟩)
      have HLL := Lib.hid (show (A2 ++ B2).length ≤ 4096 from by
        have := congrArg List.length hl2
        simp at this ⊢
        omega)
      have HS4 := Lib.hid hs4
      clear hf hrd hap ht hlt3 K3 hb4 hs4 G4 K4 hfr hl2 hex2
      unfold zeroE Ent.cells
      dsimp only
      go_wp2_with fail
      rw [← hw4]
      clear hw4
      go_wp2_with fail
      go_region_held3 (fun w' => w'.cell? ⟨w.heap.size, 1, none⟩ = some (.int .i64 x.x.pr) ∧ w'.cell? ⟨w.heap.size, 2, none⟩ = some (.bool x.x.s6) ∧ w'.cell? ⟨w.heap.size, 3, none⟩ = some (.int .u64 x.x.sh) ∧ w'.cell? ⟨w.heap.size, 4, none⟩ = some (.int .u64 x.x.sl) ∧ w'.cell? ⟨w.heap.size, 5, none⟩ = some (.bool x.x.d6) ∧ w'.cell? ⟨w.heap.size, 6, none⟩ = some (.int .u64 x.x.dh) ∧ w'.cell? ⟨w.heap.size, 7, none⟩ = some (.int .u64 x.x.dl) ∧ w'.cell? ⟨w.heap.size, 8, none⟩ = some (.int .i64 x.x.sp) ∧ w'.cell? ⟨w.heap.size, 9, none⟩ = some (.int .i64 x.x.dp) ∧ w'.cell? ⟨w.heap.size, 10, none⟩ = some (.int .i64 x.host) ∧ w'.cell? ⟨w.heap.size, 11, none⟩ = some (.int .i64 x.state) ∧ w'.cell? ⟨w.heap.size, 12, none⟩ = some (.int .i64 x.till) ∧ w'.cell? ⟨w3.heap.size, 0, none⟩ = some (.int .i64 0) ∧ w'.cell? ⟨w3.heap.size, 1, none⟩ = some (.bool false) ∧ w'.cell? ⟨w3.heap.size, 2, none⟩ = some (.int .u64 0) ∧ w'.cell? ⟨w3.heap.size, 3, none⟩ = some (.int .u64 0) ∧ w'.cell? ⟨w3.heap.size, 4, none⟩ = some (.bool false) ∧ w'.cell? ⟨w3.heap.size, 5, none⟩ = some (.int .u64 0) ∧ w'.cell? ⟨w3.heap.size, 6, none⟩ = some (.int .u64 0) ∧ w'.cell? ⟨w3.heap.size, 7, none⟩ = some (.int .i64 0) ∧ w'.cell? ⟨w3.heap.size, 8, none⟩ = some (.int .i64 0) ∧ w'.cell? ⟨w3.heap.size, 9, none⟩ = some (.int .i64 0) ∧ w'.cell? ⟨w3.heap.size, 10, none⟩ = some (.int .i64 0) ∧ w'.cell? ⟨w3.heap.size, 11, none⟩ = some (.int .i64 0)) (assumption)
        (first
            | (go_at_call 41
               (with_reducible refine (HWI.out _ B4.out).mono ?_)
               rintro o w7 ⟨v7, rfl, ho, hb⟩
               have s5 := HFR.out _ hb
               have O5 := Lib.hid ho
               have B5 := Lib.hid hb
               clear hb ho)
            | (go_at_call 40
               (with_reducible refine (HAH.out _ _ _ B5.out (RdE.of_own O5.out) HLL.out).mono ?_)
               rintro o w6 ⟨v6, rfl, ho, hb⟩
               have s6 := HFR.out _ hb
               have O6 := Lib.hid ho
               have B6 := Lib.hid hb
               clear hb ho))
      all_goals
        go_wp2_with fail
        refine bodyPost_ret (results_tmp2 rfl _ _ _) rfl ⟨v2, _, _, rfl, T4.out.far B6.out HB.out, RdE.of_own O6.out, apart_own (show ta < w4.heap.size ∧ r < w4.heap.size ∧ ∀ g, v2.ownBlock = some g → g < w4.heap.size from ⟨by have := HLT3.out.1; have := HS4.out; omega, by have := HLT3.out.2.1; have := HS4.out; omega, fun g e => by have := HLT3.out.2.2 g e; have := HS4.out; omega⟩) O6.out⟩
    · exact absurd HEX.out (hno e (by rw [HL.out]; simp))
    · exact absurd HEX.out (hno e (by rw [HL.out]; simp))
set_option maxRecDepth 100000 in
set_option maxHeartbeats 8000000 in
theorem step_put_hi {B : Nat} {w0 w : World} {ta r : Nat} {v lv : Value} {n : Nat} {seed : Int} {l : List Ent} (kd : Int) (x : Ent) (A : Option Addr) (m cc : Nat) (hs : LawSt B w0 w ta r v n seed l lv) (hB : B ≤ w0.heap.size) (hn : 1 ≤ n) (hn2 : n ≤ 4096) (hk : 7 < kd) :
    Calls Try.prog 20 #[.pointer (some ⟨ta, 0, none⟩), lv, .int .i64 n, .agg (opc kd x A m cc)] w (StepPost B w0 ta r n seed) := by
  obtain ⟨w1, hw1⟩ : ∃ w1, w1 = w.alloc (.cells #[.int .i64 kd, .int .i64 x.x.pr, .bool x.x.s6, .int .u64 x.x.sh, .int .u64 x.x.sl, .bool x.x.d6, .int .u64 x.x.dh, .int .u64 x.x.dl, .int .i64 x.x.sp, .int .i64 x.x.dp, .int .i64 x.host, .int .i64 x.state, .int .i64 x.till, .slice A m cc] 57) := ⟨_, rfl⟩
  have hb1 : Below w.heap.size w w1 := hw1 ▸ (Below.refl w.heap.size w).alloc (Nat.le_refl _) _
  have hs1 := hs.far hb1 hB
  have HS1 := Lib.hid hs1
  have HK1 := Lib.hid (show Blk w1 w.heap.size 57 #[.int .i64 kd, .int .i64 x.x.pr, .bool x.x.s6, .int .u64 x.x.sh, .int .u64 x.x.sl, .bool x.x.d6, .int .u64 x.x.dh, .int .u64 x.x.dl, .int .i64 x.x.sp, .int .i64 x.x.dp, .int .i64 x.host, .int .i64 x.state, .int .i64 x.till, .slice A m cc] from hw1 ▸ Blk.new w _ _)
  have hl4 : l.length ≤ 4096 := Nat.le_trans hs.tab.tab.len hn2
  have HFI := Lib.hid (show Calls Try.prog 22 #[lv, .agg #[.int .i64 x.x.pr, .bool x.x.s6, .int .u64 x.x.sh, .int .u64 x.x.sl, .bool x.x.d6, .int .u64 x.x.dh, .int .u64 x.x.dl, .int .i64 x.x.sp, .int .i64 x.x.dp]] w1 _ from find_law x.x lv l w1 hs1.rd (by omega))
  have HU := Lib.hid hs.tab.tab.uniq
  have HLT := Lib.hid hs.lt
  have HB := Lib.hid hB
  have HW1 := Lib.hid (show w.heap.size < w1.heap.size from by rw [hw1]; simp)
  obtain ⟨LA, LC, hlv, hlc, hlc2, _⟩ := hs.rd
  unfold maxLen at hlc2
  subst hlv
  unfold opc
  clear hs hb1 hs1 hB
  go_enter Try.func20, Try.ntmps20
  go_wp2_with fail
  rw [← hw1]
  refine HFI.out.mono ?_
  rintro o w2 ⟨k, rfl, hb, hfd⟩
  have S2 := Lib.hid (HS1.out.far hb HB.out)
  have K2 := Lib.hid (show Blk w2 w.heap.size 57 #[.int .i64 kd, .int .i64 x.x.pr, .bool x.x.s6, .int .u64 x.x.sh, .int .u64 x.x.sl, .bool x.x.d6, .int .u64 x.x.dh, .int .u64 x.x.dl, .int .i64 x.x.sp, .int .i64 x.x.dp, .int .i64 x.host, .int .i64 x.state, .int .i64 x.till, .slice A m cc] from (hb.block _ HK1.out.lt).trans HK1.out)
  have HW2 := Lib.hid (show w.heap.size < w2.heap.size from Nat.lt_of_lt_of_le HW1.out hb.size)
  clear hb hw1 HFI HS1 HK1
  have p0 := K2.out.cell 0
  have p1 : w2.cell? ⟨w.heap.size, 1, none⟩ = some (.int .i64 x.x.pr) := K2.out.cell 1
  have p2 : w2.cell? ⟨w.heap.size, 2, none⟩ = some (.bool x.x.s6) := K2.out.cell 2
  have p3 : w2.cell? ⟨w.heap.size, 3, none⟩ = some (.int .u64 x.x.sh) := K2.out.cell 3
  have p4 : w2.cell? ⟨w.heap.size, 4, none⟩ = some (.int .u64 x.x.sl) := K2.out.cell 4
  have p5 : w2.cell? ⟨w.heap.size, 5, none⟩ = some (.bool x.x.d6) := K2.out.cell 5
  have p6 : w2.cell? ⟨w.heap.size, 6, none⟩ = some (.int .u64 x.x.dh) := K2.out.cell 6
  have p7 : w2.cell? ⟨w.heap.size, 7, none⟩ = some (.int .u64 x.x.dl) := K2.out.cell 7
  have p8 : w2.cell? ⟨w.heap.size, 8, none⟩ = some (.int .i64 x.x.sp) := K2.out.cell 8
  have p9 : w2.cell? ⟨w.heap.size, 9, none⟩ = some (.int .i64 x.x.dp) := K2.out.cell 9
  have p10 : w2.cell? ⟨w.heap.size, 10, none⟩ = some (.int .i64 x.host) := K2.out.cell 10
  have p11 : w2.cell? ⟨w.heap.size, 11, none⟩ = some (.int .i64 x.state) := K2.out.cell 11
  have p12 : w2.cell? ⟨w.heap.size, 12, none⟩ = some (.int .i64 x.till) := K2.out.cell 12
  have p13 : w2.cell? ⟨w.heap.size, 13, none⟩ = some (.slice A m cc) := K2.out.cell 13
  have HT := Lib.hid (show Calls Try.prog 7 #[.pointer (some ⟨ta, 0, none⟩), .agg #[.int .i64 x.x.pr, .bool x.x.s6, .int .u64 x.x.sh, .int .u64 x.x.sl, .bool x.x.d6, .int .u64 x.x.dh, .int .u64 x.x.dl, .int .i64 x.x.sp, .int .i64 x.x.dp, .int .i64 x.host, .int .i64 x.state, .int .i64 x.till]] w2 _ from LawSt.put S2.out HB.out x hn hn2)
  have k3 : (kd == 3) = false := by simp; omega
  have k4 : (kd == 4) = false := by simp; omega
  have t1 : decide (5 ≤ kd) = true := decide_eq_true (by omega)
  have t2 : decide (kd ≤ 7) = false := decide_eq_false (by omega)
  rcases hfd with ⟨rfl, hno⟩ | ⟨A1, e, B1, hl, rfl, hex⟩
  · have HNO := Lib.hid hno
    clear hno
    go_wp2_with fail
    refine HT.out.mono ?_
    rintro o w3 ⟨v2, hf, hrd, hap, ⟨A2, e2, B2, hl2, hex2, rfl, ht⟩ | ⟨hno, hlen, rfl, ht⟩ | ⟨hno, hlen, A2, e0, hl2, rfl, ht⟩⟩
    · exact absurd hex2 (HNO.out e2 (by rw [hl2]; simp))
    · have hlt3 : ta < w3.heap.size ∧ r < w3.heap.size ∧ ∀ g, v2.ownBlock = some g → g < w3.heap.size := tab_lt ht.tab
      have K3 := hf.blk K2.out (by have := HLT.out.1; omega) (by have := HLT.out.2.1; omega) (fun e => by have := HLT.out.2.2 _ e.symm; omega)
      obtain ⟨w4, hw4⟩ : ∃ w4, w4 = w3.alloc (.cells #[.int .i64 0, .bool false, .int .u64 0, .int .u64 0, .bool false, .int .u64 0, .int .u64 0, .int .i64 0, .int .i64 0, .int .i64 0, .int .i64 0, .int .i64 0] 33) := ⟨_, rfl⟩
      have hb4 : Below w3.heap.size w3 w4 := hw4 ▸ (Below.refl w3.heap.size w3).alloc (Nat.le_refl _) _
      have hs4 : w4.heap.size = w3.heap.size + 1 := by rw [hw4]; simp
      have G4 : Blk w4 w3.heap.size 33 #[.int .i64 0, .bool false, .int .u64 0, .int .u64 0, .bool false, .int .u64 0, .int .u64 0, .int .i64 0, .int .i64 0, .int .i64 0, .int .i64 0, .int .i64 0] := hw4 ▸ Blk.new w3 _ _
      have K4 : Blk w4 w.heap.size 57 #[.int .i64 kd, .int .i64 x.x.pr, .bool x.x.s6, .int .u64 x.x.sh, .int .u64 x.x.sl, .bool x.x.d6, .int .u64 x.x.dh, .int .u64 x.x.dl, .int .i64 x.x.sp, .int .i64 x.x.dp, .int .i64 x.host, .int .i64 x.state, .int .i64 x.till, .slice A m cc] := (hb4.block _ K3.lt).trans K3
      have T4 := Lib.hid (ht.far hb4 HB.out)
      have R4 := Lib.hid (hrd.below hb4)
      have HLT3 := Lib.hid hlt3
      have HAH := Lib.hid (show ∀ w' v' l', Below w4.heap.size w4 w' → RdE w' v' l' → l'.length ≤ 4096 → Calls Try.prog 40 #[.agg #[.int .i64 x.x.pr, .bool x.x.s6, .int .u64 x.x.sh, .int .u64 x.x.sl, .bool x.x.d6, .int .u64 x.x.dh, .int .u64 x.x.dl, .int .i64 x.x.sp, .int .i64 x.x.dp, .int .i64 x.host, .int .i64 x.state, .int .i64 x.till], v'] w' fun o w'' => ∃ v2, o = .returned v2 ∧ Own w'' w4.heap.size v2 (x :: l') ∧ Below w4.heap.size w4 w'' from fun w' v' l' hb hr hl' => (ahead_law x v' l' w' hr (by omega)).mono fun o w'' ⟨v2, a1, a2, a3⟩ => ⟨v2, a1, a2.more hb.size, hb.trans (a3.mono hb.size)⟩)
      have hfr : ∀ W : World, Below w4.heap.size w4 W → (W.cell? ⟨w.heap.size, 1, none⟩ = some (.int .i64 x.x.pr) ∧ W.cell? ⟨w.heap.size, 2, none⟩ = some (.bool x.x.s6) ∧ W.cell? ⟨w.heap.size, 3, none⟩ = some (.int .u64 x.x.sh) ∧ W.cell? ⟨w.heap.size, 4, none⟩ = some (.int .u64 x.x.sl) ∧ W.cell? ⟨w.heap.size, 5, none⟩ = some (.bool x.x.d6) ∧ W.cell? ⟨w.heap.size, 6, none⟩ = some (.int .u64 x.x.dh) ∧ W.cell? ⟨w.heap.size, 7, none⟩ = some (.int .u64 x.x.dl) ∧ W.cell? ⟨w.heap.size, 8, none⟩ = some (.int .i64 x.x.sp) ∧ W.cell? ⟨w.heap.size, 9, none⟩ = some (.int .i64 x.x.dp) ∧ W.cell? ⟨w.heap.size, 10, none⟩ = some (.int .i64 x.host) ∧ W.cell? ⟨w.heap.size, 11, none⟩ = some (.int .i64 x.state) ∧ W.cell? ⟨w.heap.size, 12, none⟩ = some (.int .i64 x.till) ∧ W.cell? ⟨w3.heap.size, 0, none⟩ = some (.int .i64 0) ∧ W.cell? ⟨w3.heap.size, 1, none⟩ = some (.bool false) ∧ W.cell? ⟨w3.heap.size, 2, none⟩ = some (.int .u64 0) ∧ W.cell? ⟨w3.heap.size, 3, none⟩ = some (.int .u64 0) ∧ W.cell? ⟨w3.heap.size, 4, none⟩ = some (.bool false) ∧ W.cell? ⟨w3.heap.size, 5, none⟩ = some (.int .u64 0) ∧ W.cell? ⟨w3.heap.size, 6, none⟩ = some (.int .u64 0) ∧ W.cell? ⟨w3.heap.size, 7, none⟩ = some (.int .i64 0) ∧ W.cell? ⟨w3.heap.size, 8, none⟩ = some (.int .i64 0) ∧ W.cell? ⟨w3.heap.size, 9, none⟩ = some (.int .i64 0) ∧ W.cell? ⟨w3.heap.size, 10, none⟩ = some (.int .i64 0) ∧ W.cell? ⟨w3.heap.size, 11, none⟩ = some (.int .i64 0)) := fun W hb => by
        have h1 : Blk W w.heap.size 57 #[.int .i64 kd, .int .i64 x.x.pr, .bool x.x.s6, .int .u64 x.x.sh, .int .u64 x.x.sl, .bool x.x.d6, .int .u64 x.x.dh, .int .u64 x.x.dl, .int .i64 x.x.sp, .int .i64 x.x.dp, .int .i64 x.host, .int .i64 x.state, .int .i64 x.till, .slice A m cc] := (hb.block _ K4.lt).trans K4
        have h2 : Blk W w3.heap.size 33 #[.int .i64 0, .bool false, .int .u64 0, .int .u64 0, .bool false, .int .u64 0, .int .u64 0, .int .i64 0, .int .i64 0, .int .i64 0, .int .i64 0, .int .i64 0] := (hb.block _ G4.lt).trans G4
        exact ⟨h1.cell 1, h1.cell 2, h1.cell 3, h1.cell 4, h1.cell 5, h1.cell 6, h1.cell 7, h1.cell 8, h1.cell 9, h1.cell 10, h1.cell 11, h1.cell 12, h2.cell 0, h2.cell 1, h2.cell 2, h2.cell 3, h2.cell 4, h2.cell 5, h2.cell 6, h2.cell 7, h2.cell 8, h2.cell 9, h2.cell 10, h2.cell 11⟩
      have B4 := Lib.hid ((Below.refl w4.heap.size w4).drew)
      have HFR := Lib.hid hfr
      have s0 := hfr _ B4.out
      have t5 : decide ((l.length : Int) < n) = true := decide_eq_true (by omega)
      have HLL := Lib.hid hl4
      have HS4 := Lib.hid hs4
      have R4d := Lib.hid (R4.out.below (Below.refl _ _).drew)
      clear hf hrd hap hno ht hlt3 K3 hb4 hs4 G4 K4 hfr
      unfold zeroE Ent.cells
      dsimp only
      go_wp2_with fail
      rw [← hw4]
      clear hw4
      go_wp2_with fail
      go_region_held3 (fun w' => w'.cell? ⟨w.heap.size, 1, none⟩ = some (.int .i64 x.x.pr) ∧ w'.cell? ⟨w.heap.size, 2, none⟩ = some (.bool x.x.s6) ∧ w'.cell? ⟨w.heap.size, 3, none⟩ = some (.int .u64 x.x.sh) ∧ w'.cell? ⟨w.heap.size, 4, none⟩ = some (.int .u64 x.x.sl) ∧ w'.cell? ⟨w.heap.size, 5, none⟩ = some (.bool x.x.d6) ∧ w'.cell? ⟨w.heap.size, 6, none⟩ = some (.int .u64 x.x.dh) ∧ w'.cell? ⟨w.heap.size, 7, none⟩ = some (.int .u64 x.x.dl) ∧ w'.cell? ⟨w.heap.size, 8, none⟩ = some (.int .i64 x.x.sp) ∧ w'.cell? ⟨w.heap.size, 9, none⟩ = some (.int .i64 x.x.dp) ∧ w'.cell? ⟨w.heap.size, 10, none⟩ = some (.int .i64 x.host) ∧ w'.cell? ⟨w.heap.size, 11, none⟩ = some (.int .i64 x.state) ∧ w'.cell? ⟨w.heap.size, 12, none⟩ = some (.int .i64 x.till) ∧ w'.cell? ⟨w3.heap.size, 0, none⟩ = some (.int .i64 0) ∧ w'.cell? ⟨w3.heap.size, 1, none⟩ = some (.bool false) ∧ w'.cell? ⟨w3.heap.size, 2, none⟩ = some (.int .u64 0) ∧ w'.cell? ⟨w3.heap.size, 3, none⟩ = some (.int .u64 0) ∧ w'.cell? ⟨w3.heap.size, 4, none⟩ = some (.bool false) ∧ w'.cell? ⟨w3.heap.size, 5, none⟩ = some (.int .u64 0) ∧ w'.cell? ⟨w3.heap.size, 6, none⟩ = some (.int .u64 0) ∧ w'.cell? ⟨w3.heap.size, 7, none⟩ = some (.int .i64 0) ∧ w'.cell? ⟨w3.heap.size, 8, none⟩ = some (.int .i64 0) ∧ w'.cell? ⟨w3.heap.size, 9, none⟩ = some (.int .i64 0) ∧ w'.cell? ⟨w3.heap.size, 10, none⟩ = some (.int .i64 0) ∧ w'.cell? ⟨w3.heap.size, 11, none⟩ = some (.int .i64 0)) (assumption)
        (first
            | (go_at_call 40
               (with_reducible refine (HAH.out _ _ _ B4.out R4d.out HLL.out).mono ?_)
               rintro o w6 ⟨v6, rfl, ho, hb⟩
               have s6 := HFR.out _ hb
               have O6 := Lib.hid ho
               have B6 := Lib.hid hb
               clear hb ho))
      all_goals
        go_wp2_with fail
        refine bodyPost_ret (results_tmp2 rfl _ _ _) rfl ⟨v2, _, _, rfl, T4.out.far B6.out HB.out, RdE.of_own O6.out, apart_own (show ta < w4.heap.size ∧ r < w4.heap.size ∧ ∀ g, v2.ownBlock = some g → g < w4.heap.size from ⟨by have := HLT3.out.1; have := HS4.out; omega, by have := HLT3.out.2.1; have := HS4.out; omega, fun g e => by have := HLT3.out.2.2 g e; have := HS4.out; omega⟩) O6.out⟩
    · have hA2 : A2.length < l.length := by rw [hl2]; simp
      have hA3 : l.length = A2.length + 1 := by rw [hl2]; simp
      have hle : l[A2.length] = e0 := by
        have : l[A2.length]? = some e0 := by rw [hl2]; simp
        rw [List.getElem?_eq_getElem hA2] at this
        injection this
      have hlt3 : ta < w3.heap.size ∧ r < w3.heap.size ∧ ∀ g, v2.ownBlock = some g → g < w3.heap.size := tab_lt ht.tab
      have K3 := hf.blk K2.out (by have := HLT.out.1; omega) (by have := HLT.out.2.1; omega) (fun e => by have := HLT.out.2.2 _ e.symm; omega)
      obtain ⟨w4, hw4⟩ : ∃ w4, w4 = w3.alloc (.cells #[.int .i64 e0.x.pr, .bool e0.x.s6, .int .u64 e0.x.sh, .int .u64 e0.x.sl, .bool e0.x.d6, .int .u64 e0.x.dh, .int .u64 e0.x.dl, .int .i64 e0.x.sp, .int .i64 e0.x.dp, .int .i64 e0.host, .int .i64 e0.state, .int .i64 e0.till] 33) := ⟨_, rfl⟩
      have hb4 : Below w3.heap.size w3 w4 := hw4 ▸ (Below.refl w3.heap.size w3).alloc (Nat.le_refl _) _
      have hs4 : w4.heap.size = w3.heap.size + 1 := by rw [hw4]; simp
      have G4 : Blk w4 w3.heap.size 33 #[.int .i64 e0.x.pr, .bool e0.x.s6, .int .u64 e0.x.sh, .int .u64 e0.x.sl, .bool e0.x.d6, .int .u64 e0.x.dh, .int .u64 e0.x.dl, .int .i64 e0.x.sp, .int .i64 e0.x.dp, .int .i64 e0.host, .int .i64 e0.state, .int .i64 e0.till] := hw4 ▸ Blk.new w3 _ _
      have K4 : Blk w4 w.heap.size 57 #[.int .i64 kd, .int .i64 x.x.pr, .bool x.x.s6, .int .u64 x.x.sh, .int .u64 x.x.sl, .bool x.x.d6, .int .u64 x.x.dh, .int .u64 x.x.dl, .int .i64 x.x.sp, .int .i64 x.x.dp, .int .i64 x.host, .int .i64 x.state, .int .i64 x.till, .slice A m cc] := (hb4.block _ K3.lt).trans K3
      have T4 := Lib.hid (ht.far hb4 HB.out)
      have R4 := Lib.hid (hrd.below hb4)
      have HLT3 := Lib.hid hlt3
      obtain ⟨b, c, hvb, _, _, hbl, hC⟩ := RdE.at_ R4.out A2.length hA2
      obtain ⟨rfl, rfl⟩ : LA = some ⟨b, 0, none⟩ ∧ LC = c := by injection hvb with a b c; exact ⟨a, c⟩
      clear hvb
      rw [hle] at hC
      have d0 : w4.cell? ⟨b, A2.length * 12, none⟩ = some (.int .i64 e0.x.pr) := hC 0 (by omega)
      have d1 : w4.cell? ⟨b, A2.length * 12 + 1, none⟩ = some (.bool e0.x.s6) := hC 1 (by omega)
      have d2 : w4.cell? ⟨b, A2.length * 12 + 2, none⟩ = some (.int .u64 e0.x.sh) := hC 2 (by omega)
      have d3 : w4.cell? ⟨b, A2.length * 12 + 3, none⟩ = some (.int .u64 e0.x.sl) := hC 3 (by omega)
      have d4 : w4.cell? ⟨b, A2.length * 12 + 4, none⟩ = some (.bool e0.x.d6) := hC 4 (by omega)
      have d5 : w4.cell? ⟨b, A2.length * 12 + 5, none⟩ = some (.int .u64 e0.x.dh) := hC 5 (by omega)
      have d6 : w4.cell? ⟨b, A2.length * 12 + 6, none⟩ = some (.int .u64 e0.x.dl) := hC 6 (by omega)
      have d7 : w4.cell? ⟨b, A2.length * 12 + 7, none⟩ = some (.int .i64 e0.x.sp) := hC 7 (by omega)
      have d8 : w4.cell? ⟨b, A2.length * 12 + 8, none⟩ = some (.int .i64 e0.x.dp) := hC 8 (by omega)
      have d9 : w4.cell? ⟨b, A2.length * 12 + 9, none⟩ = some (.int .i64 e0.host) := hC 9 (by omega)
      have d10 : w4.cell? ⟨b, A2.length * 12 + 10, none⟩ = some (.int .i64 e0.state) := hC 10 (by omega)
      have d11 : w4.cell? ⟨b, A2.length * 12 + 11, none⟩ = some (.int .i64 e0.till) := hC 11 (by omega)
      obtain ⟨w5, hw5⟩ : ∃ w5, w5 = w4.alloc (.cells #[.int .i64 e0.x.pr, .bool e0.x.s6, .int .u64 e0.x.sh, .int .u64 e0.x.sl, .bool e0.x.d6, .int .u64 e0.x.dh, .int .u64 e0.x.dl, .int .i64 e0.x.sp, .int .i64 e0.x.dp, .int .i64 e0.host, .int .i64 e0.state, .int .i64 e0.till] 33) := ⟨_, rfl⟩
      have hb5 : Below w4.heap.size w4 w5 := hw5 ▸ (Below.refl w4.heap.size w4).alloc (Nat.le_refl _) _
      have hs5 : w5.heap.size = w4.heap.size + 1 := by rw [hw5]; simp
      have L5 : Blk w5 (w3.heap.size + 1) 33 #[.int .i64 e0.x.pr, .bool e0.x.s6, .int .u64 e0.x.sh, .int .u64 e0.x.sl, .bool e0.x.d6, .int .u64 e0.x.dh, .int .u64 e0.x.dl, .int .i64 e0.x.sp, .int .i64 e0.x.dp, .int .i64 e0.host, .int .i64 e0.state, .int .i64 e0.till] := by
        have := Blk.new w4 33 #[.int .i64 e0.x.pr, .bool e0.x.s6, .int .u64 e0.x.sh, .int .u64 e0.x.sl, .bool e0.x.d6, .int .u64 e0.x.dh, .int .u64 e0.x.dl, .int .i64 e0.x.sp, .int .i64 e0.x.dp, .int .i64 e0.host, .int .i64 e0.state, .int .i64 e0.till]
        rw [hs4] at this
        rw [hw5]
        exact this
      have K5 : Blk w5 w.heap.size 57 #[.int .i64 kd, .int .i64 x.x.pr, .bool x.x.s6, .int .u64 x.x.sh, .int .u64 x.x.sl, .bool x.x.d6, .int .u64 x.x.dh, .int .u64 x.x.dl, .int .i64 x.x.sp, .int .i64 x.x.dp, .int .i64 x.host, .int .i64 x.state, .int .i64 x.till, .slice A m cc] := (hb5.block _ K4.lt).trans K4
      have G5 : Blk w5 w3.heap.size 33 #[.int .i64 e0.x.pr, .bool e0.x.s6, .int .u64 e0.x.sh, .int .u64 e0.x.sl, .bool e0.x.d6, .int .u64 e0.x.dh, .int .u64 e0.x.dl, .int .i64 e0.x.sp, .int .i64 e0.x.dp, .int .i64 e0.host, .int .i64 e0.state, .int .i64 e0.till] := (hb5.block _ G4.lt).trans G4
      have T5 := Lib.hid (T4.out.far hb5 HB.out)
      have R5 := Lib.hid (R4.out.below hb5)
      have hfr : ∀ W : World, Below w5.heap.size w5 W → (W.cell? ⟨w.heap.size, 1, none⟩ = some (.int .i64 x.x.pr) ∧ W.cell? ⟨w.heap.size, 2, none⟩ = some (.bool x.x.s6) ∧ W.cell? ⟨w.heap.size, 3, none⟩ = some (.int .u64 x.x.sh) ∧ W.cell? ⟨w.heap.size, 4, none⟩ = some (.int .u64 x.x.sl) ∧ W.cell? ⟨w.heap.size, 5, none⟩ = some (.bool x.x.d6) ∧ W.cell? ⟨w.heap.size, 6, none⟩ = some (.int .u64 x.x.dh) ∧ W.cell? ⟨w.heap.size, 7, none⟩ = some (.int .u64 x.x.dl) ∧ W.cell? ⟨w.heap.size, 8, none⟩ = some (.int .i64 x.x.sp) ∧ W.cell? ⟨w.heap.size, 9, none⟩ = some (.int .i64 x.x.dp) ∧ W.cell? ⟨w.heap.size, 10, none⟩ = some (.int .i64 x.host) ∧ W.cell? ⟨w.heap.size, 11, none⟩ = some (.int .i64 x.state) ∧ W.cell? ⟨w.heap.size, 12, none⟩ = some (.int .i64 x.till) ∧ W.cell? ⟨w3.heap.size, 0, none⟩ = some (.int .i64 e0.x.pr) ∧ W.cell? ⟨w3.heap.size, 1, none⟩ = some (.bool e0.x.s6) ∧ W.cell? ⟨w3.heap.size, 2, none⟩ = some (.int .u64 e0.x.sh) ∧ W.cell? ⟨w3.heap.size, 3, none⟩ = some (.int .u64 e0.x.sl) ∧ W.cell? ⟨w3.heap.size, 4, none⟩ = some (.bool e0.x.d6) ∧ W.cell? ⟨w3.heap.size, 5, none⟩ = some (.int .u64 e0.x.dh) ∧ W.cell? ⟨w3.heap.size, 6, none⟩ = some (.int .u64 e0.x.dl) ∧ W.cell? ⟨w3.heap.size, 7, none⟩ = some (.int .i64 e0.x.sp) ∧ W.cell? ⟨w3.heap.size, 8, none⟩ = some (.int .i64 e0.x.dp) ∧ W.cell? ⟨w3.heap.size, 9, none⟩ = some (.int .i64 e0.host) ∧ W.cell? ⟨w3.heap.size, 10, none⟩ = some (.int .i64 e0.state) ∧ W.cell? ⟨w3.heap.size, 11, none⟩ = some (.int .i64 e0.till) ∧ W.cell? ⟨w3.heap.size + 1, 0, none⟩ = some (.int .i64 e0.x.pr) ∧ W.cell? ⟨w3.heap.size + 1, 1, none⟩ = some (.bool e0.x.s6) ∧ W.cell? ⟨w3.heap.size + 1, 2, none⟩ = some (.int .u64 e0.x.sh) ∧ W.cell? ⟨w3.heap.size + 1, 3, none⟩ = some (.int .u64 e0.x.sl) ∧ W.cell? ⟨w3.heap.size + 1, 4, none⟩ = some (.bool e0.x.d6) ∧ W.cell? ⟨w3.heap.size + 1, 5, none⟩ = some (.int .u64 e0.x.dh) ∧ W.cell? ⟨w3.heap.size + 1, 6, none⟩ = some (.int .u64 e0.x.dl) ∧ W.cell? ⟨w3.heap.size + 1, 7, none⟩ = some (.int .i64 e0.x.sp) ∧ W.cell? ⟨w3.heap.size + 1, 8, none⟩ = some (.int .i64 e0.x.dp) ∧ W.cell? ⟨w3.heap.size + 1, 9, none⟩ = some (.int .i64 e0.host) ∧ W.cell? ⟨w3.heap.size + 1, 10, none⟩ = some (.int .i64 e0.state) ∧ W.cell? ⟨w3.heap.size + 1, 11, none⟩ = some (.int .i64 e0.till)) := fun W hb => by
        have h1 : Blk W w.heap.size 57 #[.int .i64 kd, .int .i64 x.x.pr, .bool x.x.s6, .int .u64 x.x.sh, .int .u64 x.x.sl, .bool x.x.d6, .int .u64 x.x.dh, .int .u64 x.x.dl, .int .i64 x.x.sp, .int .i64 x.x.dp, .int .i64 x.host, .int .i64 x.state, .int .i64 x.till, .slice A m cc] := (hb.block _ K5.lt).trans K5
        have h2 : Blk W w3.heap.size 33 #[.int .i64 e0.x.pr, .bool e0.x.s6, .int .u64 e0.x.sh, .int .u64 e0.x.sl, .bool e0.x.d6, .int .u64 e0.x.dh, .int .u64 e0.x.dl, .int .i64 e0.x.sp, .int .i64 e0.x.dp, .int .i64 e0.host, .int .i64 e0.state, .int .i64 e0.till] := (hb.block _ G5.lt).trans G5
        have h3 : Blk W (w3.heap.size + 1) 33 #[.int .i64 e0.x.pr, .bool e0.x.s6, .int .u64 e0.x.sh, .int .u64 e0.x.sl, .bool e0.x.d6, .int .u64 e0.x.dh, .int .u64 e0.x.dl, .int .i64 e0.x.sp, .int .i64 e0.x.dp, .int .i64 e0.host, .int .i64 e0.state, .int .i64 e0.till] := (hb.block _ L5.lt).trans L5
        exact ⟨h1.cell 1, h1.cell 2, h1.cell 3, h1.cell 4, h1.cell 5, h1.cell 6, h1.cell 7, h1.cell 8, h1.cell 9, h1.cell 10, h1.cell 11, h1.cell 12, h2.cell 0, h2.cell 1, h2.cell 2, h2.cell 3, h2.cell 4, h2.cell 5, h2.cell 6, h2.cell 7, h2.cell 8, h2.cell 9, h2.cell 10, h2.cell 11, h3.cell 0, h3.cell 1, h3.cell 2, h3.cell 3, h3.cell 4, h3.cell 5, h3.cell 6, h3.cell 7, h3.cell 8, h3.cell 9, h3.cell 10, h3.cell 11⟩
      have HAH := Lib.hid (show ∀ w' v' l', Below w5.heap.size w5 w' → RdE w' v' l' → l'.length ≤ 4096 → Calls Try.prog 40 #[.agg #[.int .i64 x.x.pr, .bool x.x.s6, .int .u64 x.x.sh, .int .u64 x.x.sl, .bool x.x.d6, .int .u64 x.x.dh, .int .u64 x.x.dl, .int .i64 x.x.sp, .int .i64 x.x.dp, .int .i64 x.host, .int .i64 x.state, .int .i64 x.till], v'] w' fun o w'' => ∃ v2, o = .returned v2 ∧ Own w'' w5.heap.size v2 (x :: l') ∧ Below w5.heap.size w5 w'' from fun w' v' l' hb hr hl' => (ahead_law x v' l' w' hr (by omega)).mono fun o w'' ⟨v2, a1, a2, a3⟩ => ⟨v2, a1, a2.more hb.size, hb.trans (a3.mono hb.size)⟩)
      have HWI := Lib.hid (show ∀ w', Below w5.heap.size w5 w' → Calls Try.prog 41 #[.slice (some ⟨b, 0, none⟩) l.length LC, .int .i64 (A2.length : Nat)] w' fun o w'' => ∃ v', o = .returned v' ∧ Own w'' w5.heap.size v' A2 ∧ Below w5.heap.size w5 w'' from fun w' hb => (without_law (A2.length : Nat) _ l w' (R5.out.below hb) (by omega)).mono fun o w'' ⟨v', a1, a2, a3⟩ => ⟨v', a1, by
        have e9 : woN l ((A2.length : Nat) : Int) l.length = A2 := by
          have := wo_split A2 [] e0
          rw [List.append_nil] at this
          rw [hl2]
          exact this
        rw [e9] at a2
        exact a2.more hb.size, hb.trans (a3.mono hb.size)⟩)
      have HLL := Lib.hid (show A2.length ≤ 4096 by omega)
      have B4 := Lib.hid ((Below.refl w5.heap.size w5).drew)
      have HFR := Lib.hid hfr
      have s0 := hfr _ B4.out
      have t5 : decide ((l.length : Int) < n) = false := decide_eq_false (by omega)
      have t6 : decide (l.length < n) = false := decide_eq_false (by omega)
      have t7 : ¬ l.length < n := by omega
      have HS4 := Lib.hid (show w5.heap.size = w3.heap.size + 2 by omega)
      have hwr : IntKind.i64.wrap ((l.length : Int) - 1) = ((A2.length : Nat) : Int) := by rw [IntWalk.i64_in _ (by omega)]; omega
      have hk1 : (0 : Int) ≤ (A2.length : Nat) := by omega
      have hk2 : ((A2.length : Nat) : Int) < l.length := by omega
      have HQ := fun W : World => ent_eq e0 e0 W
      rw [sameE_yes] at HQ
      have heq : ∀ W : World, (binOp .eql 33 (.agg #[.int .i64 e0.x.pr, .bool e0.x.s6, .int .u64 e0.x.sh, .int .u64 e0.x.sl, .bool e0.x.d6, .int .u64 e0.x.dh, .int .u64 e0.x.dl, .int .i64 e0.x.sp, .int .i64 e0.x.dp, .int .i64 e0.host, .int .i64 e0.state, .int .i64 e0.till]) (.agg #[.int .i64 e0.x.pr, .bool e0.x.s6, .int .u64 e0.x.sh, .int .u64 e0.x.sl, .bool e0.x.d6, .int .u64 e0.x.dh, .int .u64 e0.x.dl, .int .i64 e0.x.sp, .int .i64 e0.x.dp, .int .i64 e0.host, .int .i64 e0.state, .int .i64 e0.till])).run Try.prog W = .ok (.bool true) W := HQ
      have HLEN := Lib.hid hlen
      have HA3 := Lib.hid hA3
      clear hlen hA3 hA2 HQ hf hrd hap hno ht hlt3 K3 hb4 hs4 G4 K4 hfr hb5 hs5 L5 K5 G5 hC hle hl2
      unfold Ent.cells
      rw [hw4] at d0 d1 d2 d3 d4 d5 d6 d7 d8 d9 d10 d11
      go_wp2_with fail
      rw [← hw4, ← hw5]
      clear hw4 hw5 d0 d1 d2 d3 d4 d5 d6 d7 d8 d9 d10 d11
      go_wp2_with fail
      go_region_held3 (fun w' => w'.cell? ⟨w.heap.size, 1, none⟩ = some (.int .i64 x.x.pr) ∧ w'.cell? ⟨w.heap.size, 2, none⟩ = some (.bool x.x.s6) ∧ w'.cell? ⟨w.heap.size, 3, none⟩ = some (.int .u64 x.x.sh) ∧ w'.cell? ⟨w.heap.size, 4, none⟩ = some (.int .u64 x.x.sl) ∧ w'.cell? ⟨w.heap.size, 5, none⟩ = some (.bool x.x.d6) ∧ w'.cell? ⟨w.heap.size, 6, none⟩ = some (.int .u64 x.x.dh) ∧ w'.cell? ⟨w.heap.size, 7, none⟩ = some (.int .u64 x.x.dl) ∧ w'.cell? ⟨w.heap.size, 8, none⟩ = some (.int .i64 x.x.sp) ∧ w'.cell? ⟨w.heap.size, 9, none⟩ = some (.int .i64 x.x.dp) ∧ w'.cell? ⟨w.heap.size, 10, none⟩ = some (.int .i64 x.host) ∧ w'.cell? ⟨w.heap.size, 11, none⟩ = some (.int .i64 x.state) ∧ w'.cell? ⟨w.heap.size, 12, none⟩ = some (.int .i64 x.till) ∧ w'.cell? ⟨w3.heap.size, 0, none⟩ = some (.int .i64 e0.x.pr) ∧ w'.cell? ⟨w3.heap.size, 1, none⟩ = some (.bool e0.x.s6) ∧ w'.cell? ⟨w3.heap.size, 2, none⟩ = some (.int .u64 e0.x.sh) ∧ w'.cell? ⟨w3.heap.size, 3, none⟩ = some (.int .u64 e0.x.sl) ∧ w'.cell? ⟨w3.heap.size, 4, none⟩ = some (.bool e0.x.d6) ∧ w'.cell? ⟨w3.heap.size, 5, none⟩ = some (.int .u64 e0.x.dh) ∧ w'.cell? ⟨w3.heap.size, 6, none⟩ = some (.int .u64 e0.x.dl) ∧ w'.cell? ⟨w3.heap.size, 7, none⟩ = some (.int .i64 e0.x.sp) ∧ w'.cell? ⟨w3.heap.size, 8, none⟩ = some (.int .i64 e0.x.dp) ∧ w'.cell? ⟨w3.heap.size, 9, none⟩ = some (.int .i64 e0.host) ∧ w'.cell? ⟨w3.heap.size, 10, none⟩ = some (.int .i64 e0.state) ∧ w'.cell? ⟨w3.heap.size, 11, none⟩ = some (.int .i64 e0.till) ∧ w'.cell? ⟨w3.heap.size + 1, 0, none⟩ = some (.int .i64 e0.x.pr) ∧ w'.cell? ⟨w3.heap.size + 1, 1, none⟩ = some (.bool e0.x.s6) ∧ w'.cell? ⟨w3.heap.size + 1, 2, none⟩ = some (.int .u64 e0.x.sh) ∧ w'.cell? ⟨w3.heap.size + 1, 3, none⟩ = some (.int .u64 e0.x.sl) ∧ w'.cell? ⟨w3.heap.size + 1, 4, none⟩ = some (.bool e0.x.d6) ∧ w'.cell? ⟨w3.heap.size + 1, 5, none⟩ = some (.int .u64 e0.x.dh) ∧ w'.cell? ⟨w3.heap.size + 1, 6, none⟩ = some (.int .u64 e0.x.dl) ∧ w'.cell? ⟨w3.heap.size + 1, 7, none⟩ = some (.int .i64 e0.x.sp) ∧ w'.cell? ⟨w3.heap.size + 1, 8, none⟩ = some (.int .i64 e0.x.dp) ∧ w'.cell? ⟨w3.heap.size + 1, 9, none⟩ = some (.int .i64 e0.host) ∧ w'.cell? ⟨w3.heap.size + 1, 10, none⟩ = some (.int .i64 e0.state) ∧ w'.cell? ⟨w3.heap.size + 1, 11, none⟩ = some (.int .i64 e0.till)) (assumption)
        (first
            | (go_at_call 41
               (with_reducible refine (HWI.out _ B4.out).mono ?_)
               rintro o w7 ⟨v7, rfl, ho, hb⟩
               have s5 := HFR.out _ hb
               have O5 := Lib.hid ho
               have B5 := Lib.hid hb
               clear hb ho)
            | (go_at_call 40
               (with_reducible refine (HAH.out _ _ _ B5.out (RdE.of_own O5.out) HLL.out).mono ?_)
               rintro o w6 ⟨v6, rfl, ho, hb⟩
               have s6 := HFR.out _ hb
               have O6 := Lib.hid ho
               have B6 := Lib.hid hb
               clear hb ho))
      all_goals
        go_wp2_with fail
        refine bodyPost_ret (results_tmp2 rfl _ _ _) rfl ⟨v2, _, _, rfl, T5.out.far B6.out HB.out, RdE.of_own O6.out, apart_own (show ta < w5.heap.size ∧ r < w5.heap.size ∧ ∀ g, v2.ownBlock = some g → g < w5.heap.size from ⟨by have := HLT3.out.1; have := HS4.out; omega, by have := HLT3.out.2.1; have := HS4.out; omega, fun g e => by have := HLT3.out.2.2 g e; have := HS4.out; omega⟩) O6.out⟩
  · have HL := Lib.hid hl
    have HEX := Lib.hid hex
    clear hl hex
    have hk0 : decide ((0 : Int) ≤ ((A1.length : Nat) : Int)) = true := decide_eq_true (by omega)
    go_wp2_with fail
    refine HT.out.mono ?_
    rintro o w3 ⟨v2, hf, hrd, hap, ⟨A2, e2, B2, hl2, hex2, rfl, ht⟩ | ⟨hno, _⟩ | ⟨hno, _⟩⟩
    · obtain ⟨rfl, rfl, rfl⟩ := split_uniq HU.out hl2 HL.out (hex2.trans HEX.out.symm)
      have hlt3 : ta < w3.heap.size ∧ r < w3.heap.size ∧ ∀ g, v2.ownBlock = some g → g < w3.heap.size := tab_lt ht.tab
      have K3 := hf.blk K2.out (by have := HLT.out.1; omega) (by have := HLT.out.2.1; omega) (fun e => by have := HLT.out.2.2 _ e.symm; omega)
      obtain ⟨w4, hw4⟩ : ∃ w4, w4 = w3.alloc (.cells #[.int .i64 0, .bool false, .int .u64 0, .int .u64 0, .bool false, .int .u64 0, .int .u64 0, .int .i64 0, .int .i64 0, .int .i64 0, .int .i64 0, .int .i64 0] 33) := ⟨_, rfl⟩
      have hb4 : Below w3.heap.size w3 w4 := hw4 ▸ (Below.refl w3.heap.size w3).alloc (Nat.le_refl _) _
      have hs4 : w4.heap.size = w3.heap.size + 1 := by rw [hw4]; simp
      have G4 : Blk w4 w3.heap.size 33 #[.int .i64 0, .bool false, .int .u64 0, .int .u64 0, .bool false, .int .u64 0, .int .u64 0, .int .i64 0, .int .i64 0, .int .i64 0, .int .i64 0, .int .i64 0] := hw4 ▸ Blk.new w3 _ _
      have K4 : Blk w4 w.heap.size 57 #[.int .i64 kd, .int .i64 x.x.pr, .bool x.x.s6, .int .u64 x.x.sh, .int .u64 x.x.sl, .bool x.x.d6, .int .u64 x.x.dh, .int .u64 x.x.dl, .int .i64 x.x.sp, .int .i64 x.x.dp, .int .i64 x.host, .int .i64 x.state, .int .i64 x.till, .slice A m cc] := (hb4.block _ K3.lt).trans K3
      have T4 := Lib.hid (ht.far hb4 HB.out)
      have R4 := Lib.hid (hrd.below hb4)
      have HLT3 := Lib.hid hlt3
      have HAH := Lib.hid (show ∀ w' v' l', Below w4.heap.size w4 w' → RdE w' v' l' → l'.length ≤ 4096 → Calls Try.prog 40 #[.agg #[.int .i64 x.x.pr, .bool x.x.s6, .int .u64 x.x.sh, .int .u64 x.x.sl, .bool x.x.d6, .int .u64 x.x.dh, .int .u64 x.x.dl, .int .i64 x.x.sp, .int .i64 x.x.dp, .int .i64 x.host, .int .i64 x.state, .int .i64 x.till], v'] w' fun o w'' => ∃ v2, o = .returned v2 ∧ Own w'' w4.heap.size v2 (x :: l') ∧ Below w4.heap.size w4 w'' from fun w' v' l' hb hr hl' => (ahead_law x v' l' w' hr (by omega)).mono fun o w'' ⟨v2, a1, a2, a3⟩ => ⟨v2, a1, a2.more hb.size, hb.trans (a3.mono hb.size)⟩)
      have hfr : ∀ W : World, Below w4.heap.size w4 W → (W.cell? ⟨w.heap.size, 1, none⟩ = some (.int .i64 x.x.pr) ∧ W.cell? ⟨w.heap.size, 2, none⟩ = some (.bool x.x.s6) ∧ W.cell? ⟨w.heap.size, 3, none⟩ = some (.int .u64 x.x.sh) ∧ W.cell? ⟨w.heap.size, 4, none⟩ = some (.int .u64 x.x.sl) ∧ W.cell? ⟨w.heap.size, 5, none⟩ = some (.bool x.x.d6) ∧ W.cell? ⟨w.heap.size, 6, none⟩ = some (.int .u64 x.x.dh) ∧ W.cell? ⟨w.heap.size, 7, none⟩ = some (.int .u64 x.x.dl) ∧ W.cell? ⟨w.heap.size, 8, none⟩ = some (.int .i64 x.x.sp) ∧ W.cell? ⟨w.heap.size, 9, none⟩ = some (.int .i64 x.x.dp) ∧ W.cell? ⟨w.heap.size, 10, none⟩ = some (.int .i64 x.host) ∧ W.cell? ⟨w.heap.size, 11, none⟩ = some (.int .i64 x.state) ∧ W.cell? ⟨w.heap.size, 12, none⟩ = some (.int .i64 x.till) ∧ W.cell? ⟨w3.heap.size, 0, none⟩ = some (.int .i64 0) ∧ W.cell? ⟨w3.heap.size, 1, none⟩ = some (.bool false) ∧ W.cell? ⟨w3.heap.size, 2, none⟩ = some (.int .u64 0) ∧ W.cell? ⟨w3.heap.size, 3, none⟩ = some (.int .u64 0) ∧ W.cell? ⟨w3.heap.size, 4, none⟩ = some (.bool false) ∧ W.cell? ⟨w3.heap.size, 5, none⟩ = some (.int .u64 0) ∧ W.cell? ⟨w3.heap.size, 6, none⟩ = some (.int .u64 0) ∧ W.cell? ⟨w3.heap.size, 7, none⟩ = some (.int .i64 0) ∧ W.cell? ⟨w3.heap.size, 8, none⟩ = some (.int .i64 0) ∧ W.cell? ⟨w3.heap.size, 9, none⟩ = some (.int .i64 0) ∧ W.cell? ⟨w3.heap.size, 10, none⟩ = some (.int .i64 0) ∧ W.cell? ⟨w3.heap.size, 11, none⟩ = some (.int .i64 0)) := fun W hb => by
        have h1 : Blk W w.heap.size 57 #[.int .i64 kd, .int .i64 x.x.pr, .bool x.x.s6, .int .u64 x.x.sh, .int .u64 x.x.sl, .bool x.x.d6, .int .u64 x.x.dh, .int .u64 x.x.dl, .int .i64 x.x.sp, .int .i64 x.x.dp, .int .i64 x.host, .int .i64 x.state, .int .i64 x.till, .slice A m cc] := (hb.block _ K4.lt).trans K4
        have h2 : Blk W w3.heap.size 33 #[.int .i64 0, .bool false, .int .u64 0, .int .u64 0, .bool false, .int .u64 0, .int .u64 0, .int .i64 0, .int .i64 0, .int .i64 0, .int .i64 0, .int .i64 0] := (hb.block _ G4.lt).trans G4
        exact ⟨h1.cell 1, h1.cell 2, h1.cell 3, h1.cell 4, h1.cell 5, h1.cell 6, h1.cell 7, h1.cell 8, h1.cell 9, h1.cell 10, h1.cell 11, h1.cell 12, h2.cell 0, h2.cell 1, h2.cell 2, h2.cell 3, h2.cell 4, h2.cell 5, h2.cell 6, h2.cell 7, h2.cell 8, h2.cell 9, h2.cell 10, h2.cell 11⟩
      have B4 := Lib.hid ((Below.refl w4.heap.size w4).drew)
      have HFR := Lib.hid hfr
      have s0 := hfr _ B4.out
      have HWI := Lib.hid (show ∀ w', Below w4.heap.size w4 w' → Calls Try.prog 41 #[.slice LA l.length LC, .int .i64 (A2.length : Nat)] w' fun o w'' => ∃ v', o = .returned v' ∧ Own w'' w4.heap.size v' (A2 ++ B2) ∧ Below w4.heap.size w4 w'' from fun w' hb => (without_law (A2.length : Nat) _ l w' (R4.out.below hb) (by omega)).mono fun o w'' ⟨v', a1, a2, a3⟩ => ⟨v', a1, by
        have e9 : woN l ((A2.length : Nat) : Int) l.length = A2 ++ B2 := by rw [hl2]; exact wo_split A2 B2 e2
        rw [e9] at a2
        exact a2.more hb.size, hb.trans (a3.mono hb.size)⟩)
      have HLL := Lib.hid (show (A2 ++ B2).length ≤ 4096 from by
        have := congrArg List.length hl2
        simp at this ⊢
        omega)
      have HS4 := Lib.hid hs4
      clear hf hrd hap ht hlt3 K3 hb4 hs4 G4 K4 hfr hl2 hex2
      unfold zeroE Ent.cells
      dsimp only
      go_wp2_with fail
      rw [← hw4]
      clear hw4
      go_wp2_with fail
      go_region_held3 (fun w' => w'.cell? ⟨w.heap.size, 1, none⟩ = some (.int .i64 x.x.pr) ∧ w'.cell? ⟨w.heap.size, 2, none⟩ = some (.bool x.x.s6) ∧ w'.cell? ⟨w.heap.size, 3, none⟩ = some (.int .u64 x.x.sh) ∧ w'.cell? ⟨w.heap.size, 4, none⟩ = some (.int .u64 x.x.sl) ∧ w'.cell? ⟨w.heap.size, 5, none⟩ = some (.bool x.x.d6) ∧ w'.cell? ⟨w.heap.size, 6, none⟩ = some (.int .u64 x.x.dh) ∧ w'.cell? ⟨w.heap.size, 7, none⟩ = some (.int .u64 x.x.dl) ∧ w'.cell? ⟨w.heap.size, 8, none⟩ = some (.int .i64 x.x.sp) ∧ w'.cell? ⟨w.heap.size, 9, none⟩ = some (.int .i64 x.x.dp) ∧ w'.cell? ⟨w.heap.size, 10, none⟩ = some (.int .i64 x.host) ∧ w'.cell? ⟨w.heap.size, 11, none⟩ = some (.int .i64 x.state) ∧ w'.cell? ⟨w.heap.size, 12, none⟩ = some (.int .i64 x.till) ∧ w'.cell? ⟨w3.heap.size, 0, none⟩ = some (.int .i64 0) ∧ w'.cell? ⟨w3.heap.size, 1, none⟩ = some (.bool false) ∧ w'.cell? ⟨w3.heap.size, 2, none⟩ = some (.int .u64 0) ∧ w'.cell? ⟨w3.heap.size, 3, none⟩ = some (.int .u64 0) ∧ w'.cell? ⟨w3.heap.size, 4, none⟩ = some (.bool false) ∧ w'.cell? ⟨w3.heap.size, 5, none⟩ = some (.int .u64 0) ∧ w'.cell? ⟨w3.heap.size, 6, none⟩ = some (.int .u64 0) ∧ w'.cell? ⟨w3.heap.size, 7, none⟩ = some (.int .i64 0) ∧ w'.cell? ⟨w3.heap.size, 8, none⟩ = some (.int .i64 0) ∧ w'.cell? ⟨w3.heap.size, 9, none⟩ = some (.int .i64 0) ∧ w'.cell? ⟨w3.heap.size, 10, none⟩ = some (.int .i64 0) ∧ w'.cell? ⟨w3.heap.size, 11, none⟩ = some (.int .i64 0)) (assumption)
        (first
            | (go_at_call 41
               (with_reducible refine (HWI.out _ B4.out).mono ?_)
               rintro o w7 ⟨v7, rfl, ho, hb⟩
               have s5 := HFR.out _ hb
               have O5 := Lib.hid ho
               have B5 := Lib.hid hb
               clear hb ho)
            | (go_at_call 40
               (with_reducible refine (HAH.out _ _ _ B5.out (RdE.of_own O5.out) HLL.out).mono ?_)
               rintro o w6 ⟨v6, rfl, ho, hb⟩
               have s6 := HFR.out _ hb
               have O6 := Lib.hid ho
               have B6 := Lib.hid hb
               clear hb ho))
      all_goals
        go_wp2_with fail
        refine bodyPost_ret (results_tmp2 rfl _ _ _) rfl ⟨v2, _, _, rfl, T4.out.far B6.out HB.out, RdE.of_own O6.out, apart_own (show ta < w4.heap.size ∧ r < w4.heap.size ∧ ∀ g, v2.ownBlock = some g → g < w4.heap.size from ⟨by have := HLT3.out.1; have := HS4.out; omega, by have := HLT3.out.2.1; have := HS4.out; omega, fun g e => by have := HLT3.out.2.2 g e; have := HS4.out; omega⟩) O6.out⟩
    · exact absurd HEX.out (hno e (by rw [HL.out]; simp))
    · exact absurd HEX.out (hno e (by rw [HL.out]; simp))
end Go.Proofs.Ytmlfpfmpoigfiaa.flowPg
