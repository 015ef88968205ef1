/- Layer 27: the law of FlowKeeps. -/
import Derived.Test.YtmlfpfmpoigfiaaFlowZ
import Derived.Test.YtmlfpfmpoigfiaaOpenRows
namespace Go.Proofs.Ytmlfpfmpoigfiaa.flowKa
open Go.ChangeShapes Go.WideShapes Go.ChangeAt Go.RowKit
open Go.Proofs.Ytmlfpfmpoigfiaa.base Go.Proofs.Ytmlfpfmpoigfiaa.flowA Go.Proofs.Ytmlfpfmpoigfiaa.flowB Go.Proofs.Ytmlfpfmpoigfiaa.flowC Go.Proofs.Ytmlfpfmpoigfiaa.flowD Go.Proofs.Ytmlfpfmpoigfiaa.flowE Go.Proofs.Ytmlfpfmpoigfiaa.flowF Go.Proofs.Ytmlfpfmpoigfiaa.flowG Go.Proofs.Ytmlfpfmpoigfiaa.flowH Go.Proofs.Ytmlfpfmpoigfiaa.flowI Go.Proofs.Ytmlfpfmpoigfiaa.flowL Go.Proofs.Ytmlfpfmpoigfiaa.flowM Go.Proofs.Ytmlfpfmpoigfiaa.flowN Go.Proofs.Ytmlfpfmpoigfiaa.flowO Go.Proofs.Ytmlfpfmpoigfiaa.flowP Go.Proofs.Ytmlfpfmpoigfiaa.flowQ Go.Proofs.Ytmlfpfmpoigfiaa.flowR Go.Proofs.Ytmlfpfmpoigfiaa.flowS Go.Proofs.Ytmlfpfmpoigfiaa.flowT Go.Proofs.Ytmlfpfmpoigfiaa.flowU Go.Proofs.Ytmlfpfmpoigfiaa.flowV Go.Proofs.Ytmlfpfmpoigfiaa.flowW Go.Proofs.Ytmlfpfmpoigfiaa.flowX Go.Proofs.Ytmlfpfmpoigfiaa.flowY Go.Proofs.Ytmlfpfmpoigfiaa.flowZ
set_option linter.unusedVariables false

theorem uniq_eq {l : List Ent} (h : (l.map Ent.x).Nodup) {a b : Ent} (ha : a ∈ l) (hb : b ∈ l) (e : a.x = b.x) : a = b := by
  induction l with
  | nil => cases ha
  | cons c l ih =>
    rw [List.map_cons, List.nodup_cons] at h
    rcases List.mem_cons.mp ha with rfl | ha' <;> rcases List.mem_cons.mp hb with rfl | hb'
    · rfl
    · exact absurd (List.mem_map.mpr ⟨b, hb', e.symm⟩) h.1
    · exact absurd (List.mem_map.mpr ⟨a, ha', e⟩) h.1
    · exact ih h.2 ha' hb'
theorem _root_.Go.Proofs.Ytmlfpfmpoigfiaa.flowZ.Own27.touch {B : Nat} {w0 w : World} {ta r : Nat} {v : Value} {n : Nat} {seed : Int} {l : List Ent} (h : Own27 B w0 w ta r v n seed l) (hB : B ≤ w0.heap.size) (x : Tup) (hn : 1 ≤ n) (hn2 : n ≤ 4096) :
    Calls Try.prog 8 #[.pointer (some ⟨ta, 0, none⟩), .agg x.cells] w fun o w' => ∃ ok l2, o = .returned (.bool ok) ∧ Own27 B w0 w' ta r v n seed l2 ∧ ((ok = false ∧ l2 = l ∧ ∀ e, e ∈ l → e.x ≠ x) ∨ ∃ A e B0, l = A ++ e :: B0 ∧ e.x = x ∧ ok = true ∧ l2 = e :: (A ++ B0)) := by
  refine (touch_tab x h.tab hn hn2).mono ?_
  rintro o w' ⟨hf, ⟨ho, ht, hno⟩ | ⟨A, e, B0, hl, hx, ho, ht⟩⟩
  · exact ⟨false, l, ho, ⟨ht, h.frm hf hB, h.h1, h.h2, h.h3⟩, .inl ⟨rfl, rfl, hno⟩⟩
  · exact ⟨true, _, ho, ⟨ht, h.frm hf hB, h.h1, h.h2, h.h3⟩, .inr ⟨A, e, B0, hl, hx, rfl, rfl⟩⟩
theorem _root_.Go.Proofs.Ytmlfpfmpoigfiaa.flowZ.Own27.drew {B : Nat} {w0 w : World} {ta r : Nat} {v : Value} {n : Nat} {seed : Int} {l : List Ent} (h : Own27 B w0 w ta r v n seed l) : Own27 B w0 w.drew ta r v n seed l := ⟨h.tab.drew, h.bel.drew, h.h1, h.h2, h.h3⟩
theorem _root_.Go.Proofs.Ytmlfpfmpoigfiaa.flowZ.Own27.far {B : Nat} {w0 w w' : World} {ta r : Nat} {v : Value} {n : Nat} {seed : Int} {l : List Ent} (h : Own27 B w0 w ta r v n seed l) (hb : Below w.heap.size w w') (hB : B ≤ w0.heap.size) : Own27 B w0 w' ta r v n seed l :=
  ⟨h.tab.far hb, h.bel.trans (hb.mono (Nat.le_trans hB h.bel.size)), h.h1, h.h2, h.h3⟩
/-- A flow that is put in beside the one that was used last leaves that one there. -/
theorem keep_put {l l2 : List Ent} {R : List Ent} {ex ey g : Ent} {ok : Bool} {n : Nat} (hl0 : l = ex :: R) (hne : ey.x ≠ ex.x) (hn : 2 ≤ n)
    (hd : (∃ A e0 B0, l = A ++ e0 :: B0 ∧ e0.x = ey.x ∧ g = zeroE ∧ ok = false ∧ l2 = ey :: (A ++ B0)) ∨ ((∀ e0, e0 ∈ l → e0.x ≠ ey.x) ∧ l.length < n ∧ g = zeroE ∧ ok = false ∧ l2 = ey :: l) ∨ ((∀ e0, e0 ∈ l → e0.x ≠ ey.x) ∧ l.length = n ∧ ∃ A, l = A ++ [g] ∧ ok = true ∧ l2 = ey :: A)) : ex ∈ l2 := by
  have hm : ex ∈ l := by rw [hl0]; simp
  rcases hd with ⟨A, e0, B0, hl, hx, _, _, h2⟩ | ⟨_, _, _, _, h2⟩ | ⟨_, hlen, A, hl, _, h2⟩
  · rw [h2]
    rw [hl] at hm
    simp only [List.mem_append, List.mem_cons] at hm ⊢
    rcases hm with hm | hm | hm
    · exact .inr (.inl hm)
    · exact absurd (by rw [hm, hx]) hne
    · exact .inr (.inr hm)
  · rw [h2]
    exact List.mem_cons_of_mem _ hm
  · rw [h2]
    cases A with
    | nil =>
      rw [hl] at hlen
      simp at hlen
      omega
    | cons a A =>
      rw [hl0] at hl
      simp only [List.cons_append, List.cons.injEq] at hl
      rw [hl.1]
      simp
theorem keep_touch {l l2 : List Ent} {ex : Ent} {x : Tup} {ok : Bool} (hu : (l.map Ent.x).Nodup) (hm : ex ∈ l) (hx : ex.x = x)
    (hd : (ok = false ∧ l2 = l ∧ ∀ e, e ∈ l → e.x ≠ x) ∨ ∃ A e B0, l = A ++ e :: B0 ∧ e.x = x ∧ ok = true ∧ l2 = e :: (A ++ B0)) : ok = true ∧ ∃ R, l2 = ex :: R := by
  rcases hd with ⟨_, _, hno⟩ | ⟨A, e, B0, hl, he, ho, h2⟩
  · exact absurd hx (hno ex hm)
  · have : e = ex := uniq_eq hu (by rw [hl]; simp) hm (he.trans hx.symm)
    subst this
    exact ⟨ho, _, h2⟩
theorem keeps_small (most seed : Int) (x : Tup) (A : Option Addr) (m c : Nat) (w : World) (h : most < 2 ∨ 60 < most) :
    Calls Try.prog 4 #[.int .i64 most, .int .u64 seed, .agg x.cells, .slice A m c] w fun e w' => e = .returned (.bool true) ∧ Below w.heap.size w w' := by
  have HW := Lib.hid ((Below.refl w.heap.size w).alloc (Nat.le_refl _) (.cells #[.int .i64 x.pr, .bool x.s6, .int .u64 x.sh, .int .u64 x.sl, .bool x.d6, .int .u64 x.dh, .int .u64 x.dl, .int .i64 x.sp, .int .i64 x.dp] 26))
  have HAW := Lib.hid (awake_any (w.alloc (.cells #[.int .i64 x.pr, .bool x.s6, .int .u64 x.sh, .int .u64 x.sl, .bool x.d6, .int .u64 x.dh, .int .u64 x.dl, .int .i64 x.sp, .int .i64 x.dp] 26)))
  have HAD := Lib.hid (awake_any (w.alloc (.cells #[.int .i64 x.pr, .bool x.s6, .int .u64 x.sh, .int .u64 x.sl, .bool x.d6, .int .u64 x.dh, .int .u64 x.dl, .int .i64 x.sp, .int .i64 x.dp] 26)).drew)
  unfold Tup.cells
  by_cases h1 : most < 2
  · have q1 : decide (most < 2) = true := decide_eq_true h1
    clear h
    go_enter Try.func4, Try.ntmps4
    go_wp2_with fail
    refine HAW.out.mono ?_
    rintro e w2 ⟨rfl, hb⟩
    have HB := Lib.hid (HW.out.trans (hb.mono HW.out.size))
    clear hb
    go_wp2_with fail
    go_ret
    first | exact ⟨rfl, HB.out⟩ | exact ⟨rfl, HB.out.drew⟩
  · have q1 : decide (most < 2) = false := decide_eq_false h1
    have q2 : decide (60 < most) = true := decide_eq_true (by omega)
    clear h
    go_enter Try.func4, Try.ntmps4
    go_wp2_with fail
    refine HAW.out.mono ?_
    rintro e w2 ⟨rfl, hb⟩
    have HB := Lib.hid (HW.out.trans (hb.mono HW.out.size))
    clear hb
    go_wp2_with fail
    go_ret
    first | exact ⟨rfl, HB.out⟩ | exact ⟨rfl, HB.out.drew⟩
set_option maxHeartbeats 16000000 in
theorem keeps_good (n : Nat) (seed : Int) (x : Tup) (A : Option Addr) (m c : Nat) (f : Nat → Tup) (w : World) (hn : 2 ≤ n) (hn2 : n ≤ 60) (hmc : m ≤ c) (hc : c ≤ 9223372036854775807) (hrows : RowsOf w A m 9 (fun j => (f j).cells.toList)) :
    Calls Try.prog 4 #[.int .i64 n, .int .u64 seed, .agg x.cells, .slice A m c] w fun e w' => e = .returned (.bool true) ∧ Below w.heap.size w w' := by
  obtain ⟨w1, hw1⟩ : ∃ w1, w1 = w.alloc (.cells #[.int .i64 x.pr, .bool x.s6, .int .u64 x.sh, .int .u64 x.sl, .bool x.d6, .int .u64 x.dh, .int .u64 x.dl, .int .i64 x.sp, .int .i64 x.dp] 26) := ⟨_, rfl⟩
  have hw : Below w.heap.size w w1 := hw1 ▸ (Below.refl w.heap.size w).alloc (Nat.le_refl _) _
  have bx : Blk w1 w.heap.size 26 #[.int .i64 x.pr, .bool x.s6, .int .u64 x.sh, .int .u64 x.sl, .bool x.d6, .int .u64 x.dh, .int .u64 x.dl, .int .i64 x.sp, .int .i64 x.dp] := hw1 ▸ Blk.new w _ _
  have hs1 : w1.heap.size = w.heap.size + 1 := by rw [hw1]; simp
  have HWW := Lib.hid hw
  have HX := Lib.hid (show ∀ w', Below (w.heap.size + 1) w1 w' → Blk w' w.heap.size 26 #[.int .i64 x.pr, .bool x.s6, .int .u64 x.sh, .int .u64 x.sl, .bool x.d6, .int .u64 x.dh, .int .u64 x.dl, .int .i64 x.sp, .int .i64 x.dp] from fun w' hb => (hb.block _ (by omega)).trans bx)
  have HROW := Lib.hid (show ∀ w', Below (w.heap.size + 1) w1 w' → RowsOf w' A m 9 (fun j => (f j).cells.toList) from fun w' hb => by
    rcases hrows with h0 | ⟨b, off, h1, h2, h3⟩
    · exact .inl h0
    · refine .inr ⟨b, off, h1, by have := hb.size; omega, fun j hj i hi => ?_⟩
      rw [← h3 j hj i hi]
      have e1 : w'.heap[b]? = w.heap[b]? := (hb.block b (by omega)).trans (hw.block b h2)
      unfold World.cell?
      rw [e1])
  have HN := Lib.hid (new_good n seed w1 (by omega) (by omega))
  have HS := Lib.hid (show w.heap.size + 1 ≤ w1.heap.size by omega)
  have HEND := Lib.hid (show ∀ w', Below (w.heap.size + 1) w1 w' → Below w.heap.size w w' from fun w' hb => hw.trans (hb.mono (by omega)))
  have q1 : decide ((n : Int) < 2) = false := decide_eq_false (by omega)
  have q2 : decide ((60 : Int) < n) = false := decide_eq_false (by omega)
  have hne60 : n ≤ 4096 := by omega
  have hn1 : 1 ≤ n := by omega
  unfold Tup.cells
  clear hw bx hrows
  go_enter Try.func4, Try.ntmps4
  go_wp2_with fail
  rw [← hw1]
  refine HN.out.mono ?_
  rintro o w2 ⟨ta, r, rfl, ht, h1, h2, hb⟩
  have S2 := Lib.hid (show Own27 (w.heap.size + 1) w1 w2 ta r (.slice none 0 0) n seed [] from ⟨ht, hs1 ▸ hb, by omega, by omega, fun g e => by cases e⟩)
  clear ht h1 h2 hb HN hw1 hs1
  have b2_0 : w2.cell? ⟨w.heap.size, 0, none⟩ = some (.int .i64 x.pr) := (HX.out _ S2.out.bel).cell 0
  have b2_1 : w2.cell? ⟨w.heap.size, 1, none⟩ = some (.bool x.s6) := (HX.out _ S2.out.bel).cell 1
  have b2_2 : w2.cell? ⟨w.heap.size, 2, none⟩ = some (.int .u64 x.sh) := (HX.out _ S2.out.bel).cell 2
  have b2_3 : w2.cell? ⟨w.heap.size, 3, none⟩ = some (.int .u64 x.sl) := (HX.out _ S2.out.bel).cell 3
  have b2_4 : w2.cell? ⟨w.heap.size, 4, none⟩ = some (.bool x.d6) := (HX.out _ S2.out.bel).cell 4
  have b2_5 : w2.cell? ⟨w.heap.size, 5, none⟩ = some (.int .u64 x.dh) := (HX.out _ S2.out.bel).cell 5
  have b2_6 : w2.cell? ⟨w.heap.size, 6, none⟩ = some (.int .u64 x.dl) := (HX.out _ S2.out.bel).cell 6
  have b2_7 : w2.cell? ⟨w.heap.size, 7, none⟩ = some (.int .i64 x.sp) := (HX.out _ S2.out.bel).cell 7
  have b2_8 : w2.cell? ⟨w.heap.size, 8, none⟩ = some (.int .i64 x.dp) := (HX.out _ S2.out.bel).cell 8
  go_wp2_with fail
  refine (S2.out.put HS.out ⟨x, 7, 0, 0⟩ hn1 hne60).mono ?_
  rintro o w3 ⟨v3, g3, ok3, l3, rfl, hs, hd⟩
  have hl3 : ∃ R, l3 = ⟨x, 7, 0, 0⟩ :: R := by
    rcases hd with ⟨A', e0, B0, hl, _⟩ | ⟨_, _, _, _, hl⟩ | ⟨_, hlen, _⟩
    · simp at hl
    · exact ⟨[], hl⟩
    · simp at hlen; omega
  obtain ⟨R3, rfl⟩ := hl3
  have S3 := Lib.hid hs
  clear hs hd S2 b2_0 b2_1 b2_2 b2_3 b2_4 b2_5 b2_6 b2_7 b2_8
  go_wp2_with fail
  go_loopw [11] (fun i wr => ∃ (j : Nat) (v : Value) (R : List Ent), i = .int .i64 j ∧ j ≤ m ∧ j ≤ 100 ∧ Own27 (w.heap.size + 1) w1 wr ta r v n seed (⟨x, 7, 0, 0⟩ :: R)) (fun i _ => 100 - (intOf i).toNat)
  case atStart => exact ⟨0, v3, R3, rfl, by omega, by omega, S3.out⟩
  case round =>
    obtain ⟨j, v, R, rfl, hj, hj2, hs⟩ := hrel
    have SR := Lib.hid hs
    clear hs
    by_cases hjm : j < m ∧ j < 100
    · obtain ⟨hj3, hj4⟩ := hjm
      have t1 : decide ((j : Int) < m) = true := decide_eq_true (by omega)
      have t2 : decide ((j : Int) < 100) = true := decide_eq_true (by omega)
      rcases HROW.out wr SR.out.bel with h0 | ⟨b, off, hA, hbl, hcell⟩
      · omega
      subst hA
      have d_0 : wr.cell? ⟨b, off + j * 9, none⟩ = some (.int .i64 (f j).pr) := hcell j hj3 0 (by omega)
      have d_1 : wr.cell? ⟨b, off + j * 9 + 1, none⟩ = some (.bool (f j).s6) := hcell j hj3 1 (by omega)
      have d_2 : wr.cell? ⟨b, off + j * 9 + 2, none⟩ = some (.int .u64 (f j).sh) := hcell j hj3 2 (by omega)
      have d_3 : wr.cell? ⟨b, off + j * 9 + 3, none⟩ = some (.int .u64 (f j).sl) := hcell j hj3 3 (by omega)
      have d_4 : wr.cell? ⟨b, off + j * 9 + 4, none⟩ = some (.bool (f j).d6) := hcell j hj3 4 (by omega)
      have d_5 : wr.cell? ⟨b, off + j * 9 + 5, none⟩ = some (.int .u64 (f j).dh) := hcell j hj3 5 (by omega)
      have d_6 : wr.cell? ⟨b, off + j * 9 + 6, none⟩ = some (.int .u64 (f j).dl) := hcell j hj3 6 (by omega)
      have d_7 : wr.cell? ⟨b, off + j * 9 + 7, none⟩ = some (.int .i64 (f j).sp) := hcell j hj3 7 (by omega)
      have d_8 : wr.cell? ⟨b, off + j * 9 + 8, none⟩ = some (.int .i64 (f j).dp) := hcell j hj3 8 (by omega)
      have br_0 : wr.cell? ⟨w.heap.size, 0, none⟩ = some (.int .i64 x.pr) := (HX.out _ SR.out.bel).cell 0
      have br_1 : wr.cell? ⟨w.heap.size, 1, none⟩ = some (.bool x.s6) := (HX.out _ SR.out.bel).cell 1
      have br_2 : wr.cell? ⟨w.heap.size, 2, none⟩ = some (.int .u64 x.sh) := (HX.out _ SR.out.bel).cell 2
      have br_3 : wr.cell? ⟨w.heap.size, 3, none⟩ = some (.int .u64 x.sl) := (HX.out _ SR.out.bel).cell 3
      have br_4 : wr.cell? ⟨w.heap.size, 4, none⟩ = some (.bool x.d6) := (HX.out _ SR.out.bel).cell 4
      have br_5 : wr.cell? ⟨w.heap.size, 5, none⟩ = some (.int .u64 x.dh) := (HX.out _ SR.out.bel).cell 5
      have br_6 : wr.cell? ⟨w.heap.size, 6, none⟩ = some (.int .u64 x.dl) := (HX.out _ SR.out.bel).cell 6
      have br_7 : wr.cell? ⟨w.heap.size, 7, none⟩ = some (.int .i64 x.sp) := (HX.out _ SR.out.bel).cell 7
      have br_8 : wr.cell? ⟨w.heap.size, 8, none⟩ = some (.int .i64 x.dp) := (HX.out _ SR.out.bel).cell 8
      have j0 : (0 : Int) ≤ j := by omega
      have j1 : (j : Int) < m := by omega
      have HCELL := Lib.hid hcell
      have HBL := Lib.hid hbl
      clear hcell hbl
      by_cases he : f j = x
      · have heq : ∀ W : World, (binOp .eql 26 (.agg #[.int .i64 (f j).pr, .bool (f j).s6, .int .u64 (f j).sh, .int .u64 (f j).sl, .bool (f j).d6, .int .u64 (f j).dh, .int .u64 (f j).dl, .int .i64 (f j).sp, .int .i64 (f j).dp]) (.agg #[.int .i64 x.pr, .bool x.s6, .int .u64 x.sh, .int .u64 x.sl, .bool x.d6, .int .u64 x.dh, .int .u64 x.dl, .int .i64 x.sp, .int .i64 x.dp])).run Try.prog W = .ok (.bool true) W := fun W => by
          have := tup_eq (f j) x W
          rw [show sameT (f j) x = true from (sameT_iff _ _).mpr he] at this
          exact this
        clear he
        go_wp2_with fail
        go_region
        all_goals
          go_wp2_with fail
          go_roundw
          case rel => exact ⟨j + 1, v, R, by go_num, by omega, by omega, SR.out.drew⟩
          case measure => simp [intOf]; omega
      · have heq : ∀ W : World, (binOp .eql 26 (.agg #[.int .i64 (f j).pr, .bool (f j).s6, .int .u64 (f j).sh, .int .u64 (f j).sl, .bool (f j).d6, .int .u64 (f j).dh, .int .u64 (f j).dl, .int .i64 (f j).sp, .int .i64 (f j).dp]) (.agg #[.int .i64 x.pr, .bool x.s6, .int .u64 x.sh, .int .u64 x.sl, .bool x.d6, .int .u64 x.dh, .int .u64 x.dl, .int .i64 x.sp, .int .i64 x.dp])).run Try.prog W = .ok (.bool false) W := fun W => by
          have := tup_eq (f j) x W
          rw [sameT_no he] at this
          exact this
        have HE := Lib.hid he
        clear he
        have SD := Lib.hid SR.out.drew
        go_wp2_with fail
        go_region
        all_goals
          go_wp2_with fail
          refine (SD.out.put HS.out ⟨f j, 0, 0, 0⟩ hn1 hne60).mono ?_
          rintro o w5 ⟨v5, g5, ok5, l5, rfl, hs, hd⟩
          have hin := Lib.hid (keep_put (ex := ⟨x, 7, 0, 0⟩) rfl HE.out hn hd)
          have S5 := Lib.hid hs
          clear hs hd
          have b5_0 : w5.cell? ⟨w.heap.size, 0, none⟩ = some (.int .i64 x.pr) := (HX.out _ S5.out.bel).cell 0
          have b5_1 : w5.cell? ⟨w.heap.size, 1, none⟩ = some (.bool x.s6) := (HX.out _ S5.out.bel).cell 1
          have b5_2 : w5.cell? ⟨w.heap.size, 2, none⟩ = some (.int .u64 x.sh) := (HX.out _ S5.out.bel).cell 2
          have b5_3 : w5.cell? ⟨w.heap.size, 3, none⟩ = some (.int .u64 x.sl) := (HX.out _ S5.out.bel).cell 3
          have b5_4 : w5.cell? ⟨w.heap.size, 4, none⟩ = some (.bool x.d6) := (HX.out _ S5.out.bel).cell 4
          have b5_5 : w5.cell? ⟨w.heap.size, 5, none⟩ = some (.int .u64 x.dh) := (HX.out _ S5.out.bel).cell 5
          have b5_6 : w5.cell? ⟨w.heap.size, 6, none⟩ = some (.int .u64 x.dl) := (HX.out _ S5.out.bel).cell 6
          have b5_7 : w5.cell? ⟨w.heap.size, 7, none⟩ = some (.int .i64 x.sp) := (HX.out _ S5.out.bel).cell 7
          have b5_8 : w5.cell? ⟨w.heap.size, 8, none⟩ = some (.int .i64 x.dp) := (HX.out _ S5.out.bel).cell 8
          go_wp2_with fail
          refine (S5.out.touch HS.out x hn1 hne60).mono ?_
          rintro o w6 ⟨ok6, l6, rfl, hs, hd⟩
          obtain ⟨rfl, R6, rfl⟩ := keep_touch S5.out.tab.uniq hin.out rfl hd
          have S6 := Lib.hid hs
          clear hs hd b5_0 b5_1 b5_2 b5_3 b5_4 b5_5 b5_6 b5_7 b5_8
          go_wp2_with fail
          go_roundw
          case rel => exact ⟨j + 1, v5, R6, by go_num, by omega, by omega, S6.out⟩
          case measure => simp [intOf]; omega
    · have HT := Lib.hid (show (decide ((j : Int) < m) && decide ((j : Int) < 100)) = false by
        by_cases h1 : j < m
        · rw [decide_eq_false (show ¬ (j : Int) < 100 by omega)]; simp
        · rw [decide_eq_false (show ¬ (j : Int) < m by omega)]; simp)
      have HGET := Lib.hid (get_tab x SR.out.tab hn1 hne60)
      have br_0 : wr.cell? ⟨w.heap.size, 0, none⟩ = some (.int .i64 x.pr) := (HX.out _ SR.out.bel).cell 0
      have br_1 : wr.cell? ⟨w.heap.size, 1, none⟩ = some (.bool x.s6) := (HX.out _ SR.out.bel).cell 1
      have br_2 : wr.cell? ⟨w.heap.size, 2, none⟩ = some (.int .u64 x.sh) := (HX.out _ SR.out.bel).cell 2
      have br_3 : wr.cell? ⟨w.heap.size, 3, none⟩ = some (.int .u64 x.sl) := (HX.out _ SR.out.bel).cell 3
      have br_4 : wr.cell? ⟨w.heap.size, 4, none⟩ = some (.bool x.d6) := (HX.out _ SR.out.bel).cell 4
      have br_5 : wr.cell? ⟨w.heap.size, 5, none⟩ = some (.int .u64 x.dh) := (HX.out _ SR.out.bel).cell 5
      have br_6 : wr.cell? ⟨w.heap.size, 6, none⟩ = some (.int .u64 x.dl) := (HX.out _ SR.out.bel).cell 6
      have br_7 : wr.cell? ⟨w.heap.size, 7, none⟩ = some (.int .i64 x.sp) := (HX.out _ SR.out.bel).cell 7
      have br_8 : wr.cell? ⟨w.heap.size, 8, none⟩ = some (.int .i64 x.dp) := (HX.out _ SR.out.bel).cell 8
      by_cases h1 : j < m
      · have t1 : decide ((j : Int) < m) = true := decide_eq_true (by omega)
        have t2 : decide ((j : Int) < 100) = false := decide_eq_false (by omega)
        go_wp2_with fail
        refine HGET.out.mono ?_
        rintro o w6 ⟨hb, ⟨ho, hno⟩ | ⟨e, hel, hex, ho⟩⟩
        · exact absurd rfl (hno ⟨x, 7, 0, 0⟩ (by simp))
        · obtain rfl : e = ⟨x, 7, 0, 0⟩ := uniq_eq SR.out.tab.uniq hel (by simp) hex
          subst ho
          have HB6 := Lib.hid (SR.out.bel.trans (hb.mono (Nat.le_trans HS.out SR.out.bel.size)))
          have HB7 := Lib.hid (HB6.out.alloc (Nat.le_trans HS.out HB6.out.size) (.cells #[.int .i64 x.pr, .bool x.s6, .int .u64 x.sh, .int .u64 x.sl, .bool x.d6, .int .u64 x.dh, .int .u64 x.dl, .int .i64 x.sp, .int .i64 x.dp, .int .i64 7, .int .i64 0, .int .i64 0] 33))
          have HAW := Lib.hid (awake_any (w6.alloc (.cells #[.int .i64 x.pr, .bool x.s6, .int .u64 x.sh, .int .u64 x.sl, .bool x.d6, .int .u64 x.dh, .int .u64 x.dl, .int .i64 x.sp, .int .i64 x.dp, .int .i64 7, .int .i64 0, .int .i64 0] 33)))
          clear hb hel hex HGET
          unfold Ent.cells
          dsimp only
          go_wp2_with fail
          refine HAW.out.mono ?_
          rintro o w8 ⟨rfl, hb⟩
          have HZ := Lib.hid (HEND.out _ (HB7.out.trans (hb.mono (Nat.le_trans HS.out HB7.out.size))))
          clear hb
          go_wp2_with fail
          go_ret
          first | exact ⟨rfl, HZ.out⟩ | exact ⟨rfl, HZ.out.drew⟩
      · have t1 : decide ((j : Int) < m) = false := decide_eq_false (by omega)
        go_wp2_with fail
        refine HGET.out.mono ?_
        rintro o w6 ⟨hb, ⟨ho, hno⟩ | ⟨e, hel, hex, ho⟩⟩
        · exact absurd rfl (hno ⟨x, 7, 0, 0⟩ (by simp))
        · obtain rfl : e = ⟨x, 7, 0, 0⟩ := uniq_eq SR.out.tab.uniq hel (by simp) hex
          subst ho
          have HB6 := Lib.hid (SR.out.bel.trans (hb.mono (Nat.le_trans HS.out SR.out.bel.size)))
          have HB7 := Lib.hid (HB6.out.alloc (Nat.le_trans HS.out HB6.out.size) (.cells #[.int .i64 x.pr, .bool x.s6, .int .u64 x.sh, .int .u64 x.sl, .bool x.d6, .int .u64 x.dh, .int .u64 x.dl, .int .i64 x.sp, .int .i64 x.dp, .int .i64 7, .int .i64 0, .int .i64 0] 33))
          have HAW := Lib.hid (awake_any (w6.alloc (.cells #[.int .i64 x.pr, .bool x.s6, .int .u64 x.sh, .int .u64 x.sl, .bool x.d6, .int .u64 x.dh, .int .u64 x.dl, .int .i64 x.sp, .int .i64 x.dp, .int .i64 7, .int .i64 0, .int .i64 0] 33)))
          clear hb hel hex HGET
          unfold Ent.cells
          dsimp only
          go_wp2_with fail
          refine HAW.out.mono ?_
          rintro o w8 ⟨rfl, hb⟩
          have HZ := Lib.hid (HEND.out _ (HB7.out.trans (hb.mono (Nat.le_trans HS.out HB7.out.size))))
          clear hb
          go_wp2_with fail
          go_ret
          first | exact ⟨rfl, HZ.out⟩ | exact ⟨rfl, HZ.out.drew⟩
end Go.Proofs.Ytmlfpfmpoigfiaa.flowKa
