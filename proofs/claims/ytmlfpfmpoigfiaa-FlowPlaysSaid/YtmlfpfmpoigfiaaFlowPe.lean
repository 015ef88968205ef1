/- Layer 27: its law's step. -/
import Derived.Test.YtmlfpfmpoigfiaaFlowPd
import Derived.Test.YtmlfpfmpoigfiaaFlowKa
import Derived.Deep.RegionHeld3
namespace Go.Proofs.Ytmlfpfmpoigfiaa.flowPe
open Go.ChangeShapes Go.WideShapes Go.ChangeAt Go.RowKit
open Go.Proofs.Ytmlfpfmpoigfiaa.base Go.Proofs.Ytmlfpfmpoigfiaa.flowA Go.Proofs.Ytmlfpfmpoigfiaa.flowB Go.Proofs.Ytmlfpfmpoigfiaa.flowC Go.Proofs.Ytmlfpfmpoigfiaa.flowD Go.Proofs.Ytmlfpfmpoigfiaa.flowE Go.Proofs.Ytmlfpfmpoigfiaa.flowF Go.Proofs.Ytmlfpfmpoigfiaa.flowG Go.Proofs.Ytmlfpfmpoigfiaa.flowH Go.Proofs.Ytmlfpfmpoigfiaa.flowI Go.Proofs.Ytmlfpfmpoigfiaa.flowL Go.Proofs.Ytmlfpfmpoigfiaa.flowM Go.Proofs.Ytmlfpfmpoigfiaa.flowN Go.Proofs.Ytmlfpfmpoigfiaa.flowO Go.Proofs.Ytmlfpfmpoigfiaa.flowP Go.Proofs.Ytmlfpfmpoigfiaa.flowQ Go.Proofs.Ytmlfpfmpoigfiaa.flowR Go.Proofs.Ytmlfpfmpoigfiaa.flowS Go.Proofs.Ytmlfpfmpoigfiaa.flowT Go.Proofs.Ytmlfpfmpoigfiaa.flowU Go.Proofs.Ytmlfpfmpoigfiaa.flowV Go.Proofs.Ytmlfpfmpoigfiaa.flowW Go.Proofs.Ytmlfpfmpoigfiaa.flowX Go.Proofs.Ytmlfpfmpoigfiaa.flowY Go.Proofs.Ytmlfpfmpoigfiaa.flowGo Go.Proofs.Ytmlfpfmpoigfiaa.flowGp Go.Proofs.Ytmlfpfmpoigfiaa.flowPa Go.Proofs.Ytmlfpfmpoigfiaa.flowPb Go.Proofs.Ytmlfpfmpoigfiaa.flowPc Go.Proofs.Ytmlfpfmpoigfiaa.flowPd Go.Proofs.Ytmlfpfmpoigfiaa.flowZ Go.Proofs.Ytmlfpfmpoigfiaa.flowKa
set_option linter.unusedVariables false

/-- What its law knows on its way: the table, and a slice that reads as its flows. -/
structure LawSt (B : Nat) (w0 w : World) (ta r : Nat) (v : Value) (n : Nat) (seed : Int) (l : List Ent) (lv : Value) : Prop where
  tab : Own27 B w0 w ta r v n seed l
  rd : RdE w lv l
  ap : Apart ta r v lv
theorem tab_lt {w : World} {ta r : Nat} {v : Value} {n : Nat} {seed : Int} {l : List Ent} (h : Tab w ta r v n seed l) : ta < w.heap.size ∧ r < w.heap.size ∧ ∀ g, v.ownBlock = some g → g < w.heap.size := by
  obtain ⟨t, L, F, C, hm, _⟩ := h
  exact lt_of_mem hm
section
variable {B : Nat} {w0 w w' : World} {ta r : Nat} {v lv : Value} {n : Nat} {seed : Int} {l : List Ent}
theorem LawSt.far (h : LawSt B w0 w ta r v n seed l lv) (hb : Below w.heap.size w w') (hB : B ≤ w0.heap.size) : LawSt B w0 w' ta r v n seed l lv := ⟨h.tab.far hb hB, h.rd.below hb, h.ap⟩
theorem LawSt.drew (h : LawSt B w0 w ta r v n seed l lv) : LawSt B w0 w.drew ta r v n seed l lv := ⟨h.tab.drew, h.rd.below (Below.refl _ _).drew, h.ap⟩
theorem LawSt.lt (h : LawSt B w0 w ta r v n seed l lv) : ta < w.heap.size ∧ r < w.heap.size ∧ ∀ g, v.ownBlock = some g → g < w.heap.size := tab_lt h.tab.tab
/-- A slice of one's own made later is apart from the table. -/
theorem apart_own {w1 : World} {v2 : Value} {l2 : List Ent} {b : Nat} (ht : ta < b ∧ r < b ∧ ∀ g, v.ownBlock = some g → g < b) (ho : Own w1 b v2 l2) : Apart ta r v v2 := fun k hk => by
  have h1 := (ho.lt k hk).1
  refine ⟨by omega, by omega, fun e => ?_⟩
  have := ht.2.2 k e
  omega
end
theorem _root_.Go.Proofs.Ytmlfpfmpoigfiaa.flowU.Own.more {w : World} {B B2 : Nat} {v : Value} {l : List Ent} (h : Own w B2 v l) (hB : B ≤ B2) : Own w B v l := by
  refine ⟨h.1, ?_⟩
  rcases h.2 with h0 | ⟨g, cap, cur, e1, e2, e3⟩
  · exact .inl h0
  · exact .inr ⟨g, cap, cur, e1, Nat.le_trans hB e2, e3⟩
theorem LawSt.rdf {B : Nat} {w0 w w' : World} {ta r : Nat} {v lv : Value} {n : Nat} {seed : Int} {l : List Ent} (h : LawSt B w0 w ta r v n seed l lv) (hf : Frm ta r v w w') : RdE w' lv l := RdE.frm h.rd hf h.ap
theorem LawSt.touch {B : Nat} {w0 w : World} {ta r : Nat} {v lv : Value} {n : Nat} {seed : Int} {l : List Ent} (h : LawSt B w0 w ta r v n seed l lv) (hB : B ≤ w0.heap.size) (x : Tup) (hn : 1 ≤ n) (hn2 : n ≤ 4096) :
    Calls Try.prog 8 #[.pointer (some ⟨ta, 0, none⟩), .agg x.cells] w fun o w' => Frm ta r v w w' ∧ RdE w' lv l ∧ ((o = .returned (.bool false) ∧ Own27 B w0 w' ta r v n seed l ∧ ∀ e, e ∈ l → e.x ≠ x) ∨ ∃ A e B0, l = A ++ e :: B0 ∧ e.x = x ∧ o = .returned (.bool true) ∧ Own27 B w0 w' ta r v n seed (e :: (A ++ B0))) := by
  refine (touch_tab x h.tab.tab hn hn2).mono ?_
  rintro o w' ⟨hf, ⟨ho, ht, hno⟩ | ⟨A, e, B0, hl, hx, ho, ht⟩⟩
  · exact ⟨hf, h.rdf hf, .inl ⟨ho, ⟨ht, h.tab.frm hf hB, h.tab.h1, h.tab.h2, h.tab.h3⟩, hno⟩⟩
  · exact ⟨hf, h.rdf hf, .inr ⟨A, e, B0, hl, hx, ho, ⟨ht, h.tab.frm hf hB, h.tab.h1, h.tab.h2, h.tab.h3⟩⟩⟩
theorem LawSt.remove {B : Nat} {w0 w : World} {ta r : Nat} {v : Value} {n : Nat} {seed : Int} {l : List Ent} (h : Own27 B w0 w ta r v n seed l) (hB : B ≤ w0.heap.size) (x : Tup) (hn : 1 ≤ n) (hn2 : n ≤ 4096) :
    Calls Try.prog 9 #[.pointer (some ⟨ta, 0, none⟩), .agg x.cells] w fun o w' => Frm ta r v w w' ∧ ((o = .returned (.bool false) ∧ Own27 B w0 w' ta r v n seed l ∧ ∀ e, e ∈ l → e.x ≠ x) ∨ ∃ A e B0, l = A ++ e :: B0 ∧ e.x = x ∧ o = .returned (.bool true) ∧ Own27 B w0 w' ta r v n seed (A ++ B0)) := by
  refine (remove_tab x h.tab hn hn2).mono ?_
  rintro o w' ⟨hf, ⟨ho, ht, hno⟩ | ⟨A, e, B0, hl, hx, ho, ht⟩⟩
  · exact ⟨hf, .inl ⟨ho, ⟨ht, h.frm hf hB, h.h1, h.h2, h.h3⟩, hno⟩⟩
  · exact ⟨hf, .inr ⟨A, e, B0, hl, hx, ho, ⟨ht, h.frm hf hB, h.h1, h.h2, h.h3⟩⟩⟩
theorem split_uniq {l A B A2 B2 : List Ent} {e e2 : Ent} (hu : (l.map Ent.x).Nodup) (h1 : l = A ++ e :: B) (h2 : l = A2 ++ e2 :: B2) (hx : e.x = e2.x) : A = A2 ∧ e = e2 ∧ B = B2 := by
  have he : e = e2 := uniq_eq hu (by rw [h1]; simp) (by rw [h2]; simp) hx
  subst he
  have hn : l.Nodup := by
    have := hu
    exact List.Pairwise.of_map Ent.x (fun a b hab e => hab (by rw [e])) this
  have key : ∀ (A A2 B B2 : List Ent), (A ++ e :: B).Nodup → A ++ e :: B = A2 ++ e :: B2 → A = A2 ∧ B = B2 := by
    intro A
    induction A with
    | nil =>
      intro A2 B B2 hn h
      cases A2 with
      | nil => simp at h; exact ⟨rfl, h⟩
      | cons a A2 =>
        simp at h
        obtain ⟨rfl, h⟩ := h
        rw [h] at hn
        simp at hn
    | cons a A ih =>
      intro A2 B B2 hn h
      cases A2 with
      | nil =>
        simp at h
        obtain ⟨rfl, h⟩ := h
        simp at hn
      | cons a2 A2 =>
        simp only [List.cons_append, List.cons.injEq] at h
        obtain ⟨rfl, h⟩ := h
        rw [List.cons_append, List.nodup_cons] at hn
        obtain ⟨p, q⟩ := ih A2 B B2 hn.2 h
        exact ⟨by rw [p], q⟩
  obtain ⟨p, q⟩ := key A A2 B B2 (h1 ▸ hn) (h1.symm.trans h2)
  exact ⟨p, rfl, q⟩
/-- What its law's step leaves. -/
def StepPost (B : Nat) (w0 : World) (ta r n : Nat) (seed : Int) (o : Ending) (w' : World) : Prop :=
  ∃ v' lv' l', o = .returned (.tuple #[lv', .bool true]) ∧ LawSt B w0 w' ta r v' n seed l' lv'
set_option maxRecDepth 100000 in
set_option maxHeartbeats 8000000 in
theorem step_touch {B : Nat} {w0 w : World} {ta r : Nat} {v lv : Value} {n : Nat} {seed : Int} {l : List Ent} (x : Ent) (A : Option Addr) (m cc : Nat) (hs : LawSt B w0 w ta r v n seed l lv) (hB : B ≤ w0.heap.size) (hn : 1 ≤ n) (hn2 : n ≤ 4096) :
    Calls Try.prog 20 #[.pointer (some ⟨ta, 0, none⟩), lv, .int .i64 n, .agg (opc 3 x A m cc)] w (StepPost B w0 ta r n seed) := by
  obtain ⟨w1, hw1⟩ : ∃ w1, w1 = w.alloc (.cells #[.int .i64 3, .int .i64 x.x.pr, .bool x.x.s6, .int .u64 x.x.sh, .int .u64 x.x.sl, .bool x.x.d6, .int .u64 x.x.dh, .int .u64 x.x.dl, .int .i64 x.x.sp, .int .i64 x.x.dp, .int .i64 x.host, .int .i64 x.state, .int .i64 x.till, .slice A m cc] 57) := ⟨_, rfl⟩
  have hb1 : Below w.heap.size w w1 := hw1 ▸ (Below.refl w.heap.size w).alloc (Nat.le_refl _) _
  have hs1 := hs.far hb1 hB
  have HS1 := Lib.hid hs1
  have HK1 := Lib.hid (show Blk w1 w.heap.size 57 #[.int .i64 3, .int .i64 x.x.pr, .bool x.x.s6, .int .u64 x.x.sh, .int .u64 x.x.sl, .bool x.x.d6, .int .u64 x.x.dh, .int .u64 x.x.dl, .int .i64 x.x.sp, .int .i64 x.x.dp, .int .i64 x.host, .int .i64 x.state, .int .i64 x.till, .slice A m cc] from hw1 ▸ Blk.new w _ _)
  have hl4 : l.length ≤ 4096 := Nat.le_trans hs.tab.tab.len hn2
  have HFI := Lib.hid (show Calls Try.prog 22 #[lv, .agg #[.int .i64 x.x.pr, .bool x.x.s6, .int .u64 x.x.sh, .int .u64 x.x.sl, .bool x.x.d6, .int .u64 x.x.dh, .int .u64 x.x.dl, .int .i64 x.x.sp, .int .i64 x.x.dp]] w1 _ from find_law x.x lv l w1 hs1.rd (by omega))
  have HU := Lib.hid hs.tab.tab.uniq
  have HLT := Lib.hid hs.lt
  have HB := Lib.hid hB
  have HW1 := Lib.hid (show w.heap.size < w1.heap.size from by rw [hw1]; simp)
  obtain ⟨LA, LC, hlv, hlc, hlc2, _⟩ := hs.rd
  unfold maxLen at hlc2
  subst hlv
  unfold opc
  clear hs hb1 hs1 hB
  go_enter Try.func20, Try.ntmps20
  go_wp2_with fail
  rw [← hw1]
  refine HFI.out.mono ?_
  rintro o w2 ⟨k, rfl, hb, hfd⟩
  have S2 := Lib.hid (HS1.out.far hb HB.out)
  have K2 := Lib.hid (show Blk w2 w.heap.size 57 #[.int .i64 3, .int .i64 x.x.pr, .bool x.x.s6, .int .u64 x.x.sh, .int .u64 x.x.sl, .bool x.x.d6, .int .u64 x.x.dh, .int .u64 x.x.dl, .int .i64 x.x.sp, .int .i64 x.x.dp, .int .i64 x.host, .int .i64 x.state, .int .i64 x.till, .slice A m cc] from (hb.block _ HK1.out.lt).trans HK1.out)
  have HW2 := Lib.hid (show w.heap.size < w2.heap.size from Nat.lt_of_lt_of_le HW1.out hb.size)
  clear hb hw1 HFI HS1 HK1
  have p0 := K2.out.cell 0
  have p1 : w2.cell? ⟨w.heap.size, 1, none⟩ = some (.int .i64 x.x.pr) := K2.out.cell 1
  have p2 : w2.cell? ⟨w.heap.size, 2, none⟩ = some (.bool x.x.s6) := K2.out.cell 2
  have p3 : w2.cell? ⟨w.heap.size, 3, none⟩ = some (.int .u64 x.x.sh) := K2.out.cell 3
  have p4 : w2.cell? ⟨w.heap.size, 4, none⟩ = some (.int .u64 x.x.sl) := K2.out.cell 4
  have p5 : w2.cell? ⟨w.heap.size, 5, none⟩ = some (.bool x.x.d6) := K2.out.cell 5
  have p6 : w2.cell? ⟨w.heap.size, 6, none⟩ = some (.int .u64 x.x.dh) := K2.out.cell 6
  have p7 : w2.cell? ⟨w.heap.size, 7, none⟩ = some (.int .u64 x.x.dl) := K2.out.cell 7
  have p8 : w2.cell? ⟨w.heap.size, 8, none⟩ = some (.int .i64 x.x.sp) := K2.out.cell 8
  have p9 : w2.cell? ⟨w.heap.size, 9, none⟩ = some (.int .i64 x.x.dp) := K2.out.cell 9
  have p10 : w2.cell? ⟨w.heap.size, 10, none⟩ = some (.int .i64 x.host) := K2.out.cell 10
  have p11 : w2.cell? ⟨w.heap.size, 11, none⟩ = some (.int .i64 x.state) := K2.out.cell 11
  have p12 : w2.cell? ⟨w.heap.size, 12, none⟩ = some (.int .i64 x.till) := K2.out.cell 12
  have p13 : w2.cell? ⟨w.heap.size, 13, none⟩ = some (.slice A m cc) := K2.out.cell 13
  have HT := Lib.hid (show Calls Try.prog 8 #[.pointer (some ⟨ta, 0, none⟩), .agg #[.int .i64 x.x.pr, .bool x.x.s6, .int .u64 x.x.sh, .int .u64 x.x.sl, .bool x.x.d6, .int .u64 x.x.dh, .int .u64 x.x.dl, .int .i64 x.x.sp, .int .i64 x.x.dp]] w2 _ from S2.out.touch HB.out x.x hn hn2)
  rcases hfd with ⟨rfl, hno⟩ | ⟨A1, e, B1, hl, rfl, hex⟩
  · have HNO := Lib.hid hno
    have HAP := Lib.hid S2.out.ap
    clear hno
    go_wp2_with fail
    refine HT.out.mono ?_
    rintro o w3 ⟨hf, hrd, ⟨rfl, ht, hno⟩ | ⟨A2, e2, B2, hl, hex, rfl, ht⟩⟩
    · have S3 := Lib.hid (show LawSt B w0 w3 ta r v n seed l (.slice LA l.length LC) from ⟨ht, hrd, HAP.out⟩)
      clear hf hrd ht hno
      go_wp2_with fail
      refine bodyPost_ret (results_tmp2 rfl _ _ _) rfl ⟨v, _, l, rfl, S3.out⟩
    · exact absurd hex (HNO.out e2 (by rw [hl]; simp))
  · have HL := Lib.hid hl
    have HEX := Lib.hid hex
    have hA1 : A1.length < l.length := by rw [hl]; simp
    have hle : l[A1.length] = e := by
      have : l[A1.length]? = some e := by rw [hl]; simp
      rw [List.getElem?_eq_getElem hA1] at this
      injection this
    clear hl hex
    go_wp2_with fail
    refine HT.out.mono ?_
    rintro o w3 ⟨hf, hrd, ⟨rfl, ht, hno⟩ | ⟨A2, e2, B2, hl2, hex2, rfl, ht⟩⟩
    · exact absurd HEX.out (hno e (by rw [HL.out]; simp))
    · obtain ⟨rfl, rfl, rfl⟩ := split_uniq HU.out hl2 HL.out (hex2.trans HEX.out.symm)
      have T3 := Lib.hid ht
      have R3 := Lib.hid hrd
      have hlt3 := Lib.hid (show ta < w3.heap.size ∧ r < w3.heap.size ∧ ∀ g, v.ownBlock = some g → g < w3.heap.size from tab_lt ht.tab)
      obtain ⟨b, c, hvb, _, _, hbl, hC⟩ := RdE.at_ hrd A2.length hA1
      obtain ⟨rfl, rfl⟩ : LA = some ⟨b, 0, none⟩ ∧ LC = c := by injection hvb with a b c; exact ⟨a, c⟩
      clear hvb
      rw [hle] at hC
      have d0 : w3.cell? ⟨b, A2.length * 12, none⟩ = some (.int .i64 e2.x.pr) := hC 0 (by omega)
      have d1 : w3.cell? ⟨b, A2.length * 12 + 1, none⟩ = some (.bool e2.x.s6) := hC 1 (by omega)
      have d2 : w3.cell? ⟨b, A2.length * 12 + 2, none⟩ = some (.int .u64 e2.x.sh) := hC 2 (by omega)
      have d3 : w3.cell? ⟨b, A2.length * 12 + 3, none⟩ = some (.int .u64 e2.x.sl) := hC 3 (by omega)
      have d4 : w3.cell? ⟨b, A2.length * 12 + 4, none⟩ = some (.bool e2.x.d6) := hC 4 (by omega)
      have d5 : w3.cell? ⟨b, A2.length * 12 + 5, none⟩ = some (.int .u64 e2.x.dh) := hC 5 (by omega)
      have d6 : w3.cell? ⟨b, A2.length * 12 + 6, none⟩ = some (.int .u64 e2.x.dl) := hC 6 (by omega)
      have d7 : w3.cell? ⟨b, A2.length * 12 + 7, none⟩ = some (.int .i64 e2.x.sp) := hC 7 (by omega)
      have d8 : w3.cell? ⟨b, A2.length * 12 + 8, none⟩ = some (.int .i64 e2.x.dp) := hC 8 (by omega)
      have d9 : w3.cell? ⟨b, A2.length * 12 + 9, none⟩ = some (.int .i64 e2.host) := hC 9 (by omega)
      have d10 : w3.cell? ⟨b, A2.length * 12 + 10, none⟩ = some (.int .i64 e2.state) := hC 10 (by omega)
      have d11 : w3.cell? ⟨b, A2.length * 12 + 11, none⟩ = some (.int .i64 e2.till) := hC 11 (by omega)
      have s0 : w3.drew.cell? ⟨b, A2.length * 12, none⟩ = some (.int .i64 e2.x.pr) ∧ w3.drew.cell? ⟨b, A2.length * 12 + 1, none⟩ = some (.bool e2.x.s6) ∧ w3.drew.cell? ⟨b, A2.length * 12 + 2, none⟩ = some (.int .u64 e2.x.sh) ∧ w3.drew.cell? ⟨b, A2.length * 12 + 3, none⟩ = some (.int .u64 e2.x.sl) ∧ w3.drew.cell? ⟨b, A2.length * 12 + 4, none⟩ = some (.bool e2.x.d6) ∧ w3.drew.cell? ⟨b, A2.length * 12 + 5, none⟩ = some (.int .u64 e2.x.dh) ∧ w3.drew.cell? ⟨b, A2.length * 12 + 6, none⟩ = some (.int .u64 e2.x.dl) ∧ w3.drew.cell? ⟨b, A2.length * 12 + 7, none⟩ = some (.int .i64 e2.x.sp) ∧ w3.drew.cell? ⟨b, A2.length * 12 + 8, none⟩ = some (.int .i64 e2.x.dp) ∧ w3.drew.cell? ⟨b, A2.length * 12 + 9, none⟩ = some (.int .i64 e2.host) ∧ w3.drew.cell? ⟨b, A2.length * 12 + 10, none⟩ = some (.int .i64 e2.state) ∧ w3.drew.cell? ⟨b, A2.length * 12 + 11, none⟩ = some (.int .i64 e2.till) := ⟨d0, d1, d2, d3, d4, d5, d6, d7, d8, d9, d10, d11⟩
      have HWI := Lib.hid (show ∀ w', Below w3.heap.size w3 w' → Calls Try.prog 41 #[.slice (some ⟨b, 0, none⟩) l.length LC, .int .i64 (A2.length : Nat)] w' fun o w'' => ∃ v', o = .returned v' ∧ Own w'' w3.heap.size v' (A2 ++ B2) ∧ Below w3.heap.size w3 w'' from fun w' hb => (without_law (A2.length : Nat) _ l w' (R3.out.below hb) (by omega)).mono fun o w'' ⟨v', a1, a2, a3⟩ => ⟨v', a1, by
        have e9 : woN l ((A2.length : Nat) : Int) l.length = A2 ++ B2 := by rw [hl2]; exact wo_split A2 B2 e2
        rw [e9] at a2
        exact a2.more hb.size, hb.trans (a3.mono hb.size)⟩)
      have HAH := Lib.hid (show ∀ w' v' l', Below w3.heap.size w3 w' → RdE w' v' l' → l'.length ≤ 4096 → Calls Try.prog 40 #[.agg #[.int .i64 e2.x.pr, .bool e2.x.s6, .int .u64 e2.x.sh, .int .u64 e2.x.sl, .bool e2.x.d6, .int .u64 e2.x.dh, .int .u64 e2.x.dl, .int .i64 e2.x.sp, .int .i64 e2.x.dp, .int .i64 e2.host, .int .i64 e2.state, .int .i64 e2.till], v'] w' fun o w'' => ∃ v2, o = .returned v2 ∧ Own w'' w3.heap.size v2 (e2 :: l') ∧ Below w3.heap.size w3 w'' from fun w' v' l' hb hr hl' => (ahead_law e2 v' l' w' hr (by omega)).mono fun o w'' ⟨v2, a1, a2, a3⟩ => ⟨v2, a1, a2.more hb.size, hb.trans (a3.mono hb.size)⟩)
      have HLAB := Lib.hid (show (A2 ++ B2).length ≤ 4096 from by
        have := congrArg List.length hl2
        simp at this ⊢
        omega)
      have hk0 : decide (((A2.length : Nat) : Int) < 0) = false := decide_eq_false (by omega)
      have hk1 : (0 : Int) ≤ (A2.length : Nat) := by omega
      have hk2 : ((A2.length : Nat) : Int) < l.length := by omega
      have B3 := Lib.hid ((Below.refl w3.heap.size w3).drew)
      have hfr : ∀ W : World, Below w3.heap.size w3 W → (W.cell? ⟨b, A2.length * 12, none⟩ = some (.int .i64 e2.x.pr) ∧ W.cell? ⟨b, A2.length * 12 + 1, none⟩ = some (.bool e2.x.s6) ∧ W.cell? ⟨b, A2.length * 12 + 2, none⟩ = some (.int .u64 e2.x.sh) ∧ W.cell? ⟨b, A2.length * 12 + 3, none⟩ = some (.int .u64 e2.x.sl) ∧ W.cell? ⟨b, A2.length * 12 + 4, none⟩ = some (.bool e2.x.d6) ∧ W.cell? ⟨b, A2.length * 12 + 5, none⟩ = some (.int .u64 e2.x.dh) ∧ W.cell? ⟨b, A2.length * 12 + 6, none⟩ = some (.int .u64 e2.x.dl) ∧ W.cell? ⟨b, A2.length * 12 + 7, none⟩ = some (.int .i64 e2.x.sp) ∧ W.cell? ⟨b, A2.length * 12 + 8, none⟩ = some (.int .i64 e2.x.dp) ∧ W.cell? ⟨b, A2.length * 12 + 9, none⟩ = some (.int .i64 e2.host) ∧ W.cell? ⟨b, A2.length * 12 + 10, none⟩ = some (.int .i64 e2.state) ∧ W.cell? ⟨b, A2.length * 12 + 11, none⟩ = some (.int .i64 e2.till)) := fun W hb => by
        have e9 : ∀ i, W.cell? ⟨b, i, none⟩ = w3.cell? ⟨b, i, none⟩ := fun i => by
          unfold World.cell?
          rw [hb.block b hbl]
        refine ⟨?_, ?_, ?_, ?_, ?_, ?_, ?_, ?_, ?_, ?_, ?_, ?_⟩ <;> rw [e9] <;> assumption
      have HFR := Lib.hid hfr
      clear hf hrd ht hl2 hex2 hC hle hfr d0 d1 d2 d3 d4 d5 d6 d7 d8 d9 d10 d11
      go_wp2_with fail
      go_region_held3 (fun w' => w'.cell? ⟨b, A2.length * 12, none⟩ = some (.int .i64 e2.x.pr) ∧ w'.cell? ⟨b, A2.length * 12 + 1, none⟩ = some (.bool e2.x.s6) ∧ w'.cell? ⟨b, A2.length * 12 + 2, none⟩ = some (.int .u64 e2.x.sh) ∧ w'.cell? ⟨b, A2.length * 12 + 3, none⟩ = some (.int .u64 e2.x.sl) ∧ w'.cell? ⟨b, A2.length * 12 + 4, none⟩ = some (.bool e2.x.d6) ∧ w'.cell? ⟨b, A2.length * 12 + 5, none⟩ = some (.int .u64 e2.x.dh) ∧ w'.cell? ⟨b, A2.length * 12 + 6, none⟩ = some (.int .u64 e2.x.dl) ∧ w'.cell? ⟨b, A2.length * 12 + 7, none⟩ = some (.int .i64 e2.x.sp) ∧ w'.cell? ⟨b, A2.length * 12 + 8, none⟩ = some (.int .i64 e2.x.dp) ∧ w'.cell? ⟨b, A2.length * 12 + 9, none⟩ = some (.int .i64 e2.host) ∧ w'.cell? ⟨b, A2.length * 12 + 10, none⟩ = some (.int .i64 e2.state) ∧ w'.cell? ⟨b, A2.length * 12 + 11, none⟩ = some (.int .i64 e2.till)) (assumption)
        (first
          | (go_at_call 41
             (with_reducible refine (HWI.out _ B3.out).mono ?_)
             rintro o w5 ⟨v5, rfl, ho, hb⟩
             have s5 := HFR.out _ hb
             have O5 := Lib.hid ho
             have B5 := Lib.hid hb
             clear hb ho)
          | (go_at_call 40
             (with_reducible refine (HAH.out _ _ _ B5.out (RdE.of_own O5.out) HLAB.out).mono ?_)
             rintro o w6 ⟨v6, rfl, ho, hb⟩
             have s6 := HFR.out _ hb
             have O6 := Lib.hid ho
             have B6 := Lib.hid hb
             clear hb ho))
      go_wp2_with fail
      refine bodyPost_ret (results_tmp2 rfl _ _ _) rfl ⟨v, _, _, rfl, T3.out.far B6.out HB.out, RdE.of_own O6.out, apart_own hlt3.out O6.out⟩
end Go.Proofs.Ytmlfpfmpoigfiaa.flowPe
