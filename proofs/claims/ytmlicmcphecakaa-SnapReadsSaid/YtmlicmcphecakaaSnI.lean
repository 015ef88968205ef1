/- Layer 44: the law's same, and the example. -/
import Derived.Test.YtmlicmcphecakaaSnH
import Derived.Deep.DeepCutAuto
import Derived.BigRegion
namespace Go.Proofs.Ytmlicmcphecakaa.snI
open Go.ChangeShapes Go.WideShapes Go.ChangeAt Go.RowKit
open Go.Proofs.Ytmlicmcphecakaa.base Go.Proofs.Ytmlicmcphecakaa.octA Go.Proofs.Ytmlicmcphecakaa.octB Go.Proofs.Ytmlicmcphecakaa.octK Go.Proofs.Ytmlicmcphecakaa.net Go.Proofs.Ytmlicmcphecakaa.rdrA Go.Proofs.Ytmlicmcphecakaa.snA Go.Proofs.Ytmlicmcphecakaa.snB Go.Proofs.Ytmlicmcphecakaa.snC Go.Proofs.Ytmlicmcphecakaa.snD Go.Proofs.Ytmlicmcphecakaa.snE Go.Proofs.Ytmlicmcphecakaa.snF Go.Proofs.Ytmlicmcphecakaa.snG Go.Proofs.Ytmlicmcphecakaa.snH Go.Proofs.Ytmlicmcphecakaa.snK
set_option linter.unusedVariables false

theorem conv_zero (w : World) (A : Option Addr) (c : Nat) : (convert 25 9 (.slice A 0 c)).run Try.prog w = .ok (.string (strOfNums [])) w := by
  rw [run_convert_bytes_string w 25 9 5 _ 0 c Try.underlying25 Try.underlying5 Try.underlying9]
  cases A <;> simp [Conv.bytesToString, loadCells]
  all_goals rfl
theorem conv_row {w : World} {B : Nat} {A : Option Addr} {n c : Nat} {l : List Int} (h : Row w B A (l.map (.int .u8))) (hl : l.length = n) :
    (convert 25 9 (.slice A n c)).run Try.prog w = .ok (.string (strOfNums l)) w := by
  cases A with
  | none =>
    have h0 := Go.Proofs.Ytmlicmcphecakaa.snC.row_none h
    have hl0 : l = [] := h0
    subst hl0
    exact run_convert_bytes_nil w 25 5 Try.underlying25 Try.underlying5 n c 9 Try.underlying9
  | some ad =>
    rcases Nat.eq_zero_or_pos l.length with h0 | h0
    · have hl0 : l = [] := List.eq_nil_of_length_eq_zero h0
      subst hl0
      obtain rfl : n = 0 := by simpa using hl.symm
      exact conv_zero w _ c
    · obtain ⟨b, off, hA, _, hc⟩ := h.at_ (by intro e; rw [List.map_eq_nil_iff] at e; subst e; simp at h0)
      injection hA with hA
      subst hA
      refine run_convert_bytes_arg w 25 5 Try.underlying25 Try.underlying5 b off n c l hl (fun i hi => ?_) 9 Try.underlying9
      exact hc i _ (by rw [List.getElem?_map, List.getElem?_eq_getElem (by omega), List.getD_eq_getElem?_getD, List.getElem?_eq_getElem (by omega)]; rfl)
theorem rd_of_ops {w : World} {A : Option Addr} {l : List Ob} (h : OpsB w A l) : RdO w A l := by
  refine ⟨?_, fun o ho => ⟨(h.els o ho).row, (h.els o ho).cap, (h.els o ho).cap2, (h.els o ho).nm, (h.els o ho).u8⟩⟩
  rcases h.row with h0 | ⟨b, cur, h1, h2, h3⟩
  · exact .inl h0
  · refine .inr ⟨b, 0, h1, h2.lt, fun j hj i hi => ?_⟩
    rw [Nat.zero_add, h2.cell]
    exact h3 j hj i hi
/-- What an op says. -/
def Ob.re (o : Ob) : Int × List Int × ByteArray × Int × Int × Bool := (o.kind, o.bs, o.nm, o.host, o.n, o.up)
set_option maxHeartbeats 8000000 in
set_option maxRecDepth 100000 in
theorem same_true (B1 B2 : Option Addr) (n c1 c2 : Nat) (l1 l2 : List Ob) (w : World) (r1 : RdO w B1 l1) (r2 : RdO w B2 l2) (hl1 : l1.length = n) (hre : l1.map Ob.re = l2.map Ob.re) (hn : n ≤ 100000) :
    Calls Try.prog 12 #[.slice B1 n c1, .slice B2 n c2] w fun o w' => o = .returned (.bool true) ∧ Below w.heap.size w w' := by
  have hl2 : l2.length = n := by rw [← hl1, ← List.length_map (f := Ob.re), ← hre, List.length_map]
  have HAT := Lib.hid (show ∀ j (a1 : j < l1.length) (a2 : j < l2.length), Ob.re l1[j] = Ob.re l2[j] from fun j a1 a2 => by
    have := congrArg (fun x => x[j]?) hre
    simp only [List.getElem?_map, List.getElem?_eq_getElem a1, List.getElem?_eq_getElem a2, Option.map_some] at this
    injection this)
  have HR1 := Lib.hid r1
  have HR2 := Lib.hid r2
  have HL1 := Lib.hid hl1
  have HL2 := Lib.hid hl2
  clear r1 r2 hl1 hl2 hre
  go_enter Try.func12, Try.ntmps12
  go_wp2_with fail
  go_loopw [5] (fun i wr => ∃ (j : Nat), j ≤ n ∧ i = .int .i64 j ∧ Hid (Below w.heap.size w wr)) (fun i _ => n - (intOf i).toNat)
  case atStart => exact ⟨0, by omega, rfl, Lib.hid (Below.refl _ _)⟩
  case round =>
    obtain ⟨j, hj, rfl, HB⟩ := hrel
    by_cases hlt : j < n
    · have hjl1 : j < l1.length := HL1.out.symm ▸ hlt
      have hjl2 : j < l2.length := HL2.out.symm ▸ hlt
      obtain ⟨b1, off1, hA, hbl, hC⟩ := (HR1.out.below HB.out).at_ j hjl1
      obtain ⟨b2, off2, hA2, hbl2, hC2⟩ := (HR2.out.below HB.out).at_ j hjl2
      subst hA hA2
      obtain ⟨e1, he1⟩ : ∃ e1, e1 = l1[j] := ⟨_, rfl⟩
      obtain ⟨e2, he2⟩ : ∃ e2, e2 = l2[j] := ⟨_, rfl⟩
      have hee := HAT.out j hjl1 hjl2
      have H1 := (HR1.out.els l1[j] (List.getElem_mem hjl1)).1
      have H2 := (HR2.out.els l2[j] (List.getElem_mem hjl2)).1
      rw [← he1] at hC hee H1
      rw [← he2] at hC2 hee H2
      clear he1 he2 hjl1 hjl2
      obtain ⟨kd, A1, d1, bs, nm, ho, nn, up⟩ := e1
      obtain ⟨kd2, A2, d2, bs2, nm2, ho2, nn2, up2⟩ := e2
      unfold Ob.re at hee
      simp only [Prod.mk.injEq] at hee
      obtain ⟨x1, x2, x3, x4, x5, x6⟩ := hee
      subst x1 x2 x3 x4 x5 x6
      have HG1 := Lib.hid H1
      have HP1 := Lib.hid H2
      have s0 : wr.cell? ⟨b1, off1 + j * 6, none⟩ = some (.int .i64 kd) ∧ wr.cell? ⟨b1, off1 + j * 6 + 1, none⟩ = some (.slice A1 bs.length d1) ∧ wr.cell? ⟨b1, off1 + j * 6 + 2, none⟩ = some (.string nm) ∧ wr.cell? ⟨b1, off1 + j * 6 + 3, none⟩ = some (.int .i64 ho) ∧ wr.cell? ⟨b1, off1 + j * 6 + 4, none⟩ = some (.int .i64 nn) ∧ wr.cell? ⟨b1, off1 + j * 6 + 5, none⟩ = some (.bool up) ∧ wr.cell? ⟨b2, off2 + j * 6, none⟩ = some (.int .i64 kd) ∧ wr.cell? ⟨b2, off2 + j * 6 + 1, none⟩ = some (.slice A2 bs.length d2) ∧ wr.cell? ⟨b2, off2 + j * 6 + 2, none⟩ = some (.string nm) ∧ wr.cell? ⟨b2, off2 + j * 6 + 3, none⟩ = some (.int .i64 ho) ∧ wr.cell? ⟨b2, off2 + j * 6 + 4, none⟩ = some (.int .i64 nn) ∧ wr.cell? ⟨b2, off2 + j * 6 + 5, none⟩ = some (.bool up) := ⟨hC 0 (by omega), hC 1 (by omega), hC 2 (by omega), hC 3 (by omega), hC 4 (by omega), hC 5 (by omega), hC2 0 (by omega), hC2 1 (by omega), hC2 2 (by omega), hC2 3 (by omega), hC2 4 (by omega), hC2 5 (by omega)⟩
      have j0 : (0 : Int) ≤ j := by omega
      have j1 : (j : Int) < n := by omega
      have wk : IntKind.i64.wrap ((j : Int) + 1) = (j : Int) + 1 := IntWalk.i64_in _ (by omega)
      clear hC hC2 hbl hbl2 H1 H2
      have HFR := Lib.hid (show ∀ W, Below wr.heap.size wr W → (W.cell? ⟨b1, off1 + j * 6, none⟩ = some (.int .i64 kd) ∧ W.cell? ⟨b1, off1 + j * 6 + 1, none⟩ = some (.slice A1 bs.length d1) ∧ W.cell? ⟨b1, off1 + j * 6 + 2, none⟩ = some (.string nm) ∧ W.cell? ⟨b1, off1 + j * 6 + 3, none⟩ = some (.int .i64 ho) ∧ W.cell? ⟨b1, off1 + j * 6 + 4, none⟩ = some (.int .i64 nn) ∧ W.cell? ⟨b1, off1 + j * 6 + 5, none⟩ = some (.bool up) ∧ W.cell? ⟨b2, off2 + j * 6, none⟩ = some (.int .i64 kd) ∧ W.cell? ⟨b2, off2 + j * 6 + 1, none⟩ = some (.slice A2 bs.length d2) ∧ W.cell? ⟨b2, off2 + j * 6 + 2, none⟩ = some (.string nm) ∧ W.cell? ⟨b2, off2 + j * 6 + 3, none⟩ = some (.int .i64 ho) ∧ W.cell? ⟨b2, off2 + j * 6 + 4, none⟩ = some (.int .i64 nn) ∧ W.cell? ⟨b2, off2 + j * 6 + 5, none⟩ = some (.bool up)) from fun W hW => by
        obtain ⟨q1, q2, q3, q4, q5, q6, q7, q8, q9, q10, q11, q12⟩ := s0
        have k : ∀ (p : Addr) (v : Value), wr.cell? p = some v → W.cell? p = some v := fun p v h => (hW.cell (World.block_lt_of_cell? wr p h)).trans h
        exact ⟨k _ _ q1, k _ _ q2, k _ _ q3, k _ _ q4, k _ _ q5, k _ _ q6, k _ _ q7, k _ _ q8, k _ _ q9, k _ _ q10, k _ _ q11, k _ _ q12⟩)
      clear s0
      have s0 := HFR.out wr.drew (Below.refl _ _).drew
      have s1 := HFR.out (wr.alloc (.cells #[.int .i64 0, .slice none 0 0, .string ⟨#[]⟩, .int .i64 0, .int .i64 0, .bool false] 27)).drew ((Below.refl _ _).alloc (Nat.le_refl _) _).drew
      have s2 := HFR.out ((wr.alloc (.cells #[.int .i64 0, .slice none 0 0, .string ⟨#[]⟩, .int .i64 0, .int .i64 0, .bool false] 27)).alloc (.cells #[.int .i64 0, .slice none 0 0, .string ⟨#[]⟩, .int .i64 0, .int .i64 0, .bool false] 27)).drew (((Below.refl _ _).alloc (Nat.le_refl _) _).alloc (by simp) _).drew
      go_upto_region 7 with fail
      go_cut [6, 7] (fun v6 v7 wx => ∃ a6 a7, v6 = .pointer (some ⟨a6, 0, none⟩) ∧ v7 = .pointer (some ⟨a7, 0, none⟩) ∧ Hid (Blk wx a6 27 #[.int .i64 kd, .slice A1 bs.length d1, .string nm, .int .i64 ho, .int .i64 nn, .bool up]) ∧ Hid (Blk wx a7 27 #[.int .i64 kd, .slice A2 bs.length d2, .string nm, .int .i64 ho, .int .i64 nn, .bool up]) ∧ Hid (Below wr.heap.size wr wx))
      case first =>
        go_wp2_with fail
        go_region_held3 (fun w' => w'.cell? ⟨b1, off1 + j * 6, none⟩ = some (.int .i64 kd) ∧ w'.cell? ⟨b1, off1 + j * 6 + 1, none⟩ = some (.slice A1 bs.length d1) ∧ w'.cell? ⟨b1, off1 + j * 6 + 2, none⟩ = some (.string nm) ∧ w'.cell? ⟨b1, off1 + j * 6 + 3, none⟩ = some (.int .i64 ho) ∧ w'.cell? ⟨b1, off1 + j * 6 + 4, none⟩ = some (.int .i64 nn) ∧ w'.cell? ⟨b1, off1 + j * 6 + 5, none⟩ = some (.bool up) ∧ w'.cell? ⟨b2, off2 + j * 6, none⟩ = some (.int .i64 kd) ∧ w'.cell? ⟨b2, off2 + j * 6 + 1, none⟩ = some (.slice A2 bs.length d2) ∧ w'.cell? ⟨b2, off2 + j * 6 + 2, none⟩ = some (.string nm) ∧ w'.cell? ⟨b2, off2 + j * 6 + 3, none⟩ = some (.int .i64 ho) ∧ w'.cell? ⟨b2, off2 + j * 6 + 4, none⟩ = some (.int .i64 nn) ∧ w'.cell? ⟨b2, off2 + j * 6 + 5, none⟩ = some (.bool up)) (first | with_reducible assumption | exact HFR.out _ (by (repeat (first | with_reducible exact Below.refl _ _ | apply below_drewN | apply bel_drew | apply bel_alloc | refine bel_set ?_ (by simp) _)))) (first | fail)
        all_goals
          have hz1 : (wr.alloc (.cells #[.int .i64 kd, .slice A1 bs.length d1, .string nm, .int .i64 ho, .int .i64 nn, .bool up] 27)).heap.size = wr.heap.size + 1 := by simp
          have hz2 : (wr.alloc (.cells #[.int .i64 kd, .slice A2 bs.length d2, .string nm, .int .i64 ho, .int .i64 nn, .bool up] 27)).heap.size = wr.heap.size + 1 := by simp
          have L1 := Blk.new (wr.alloc (.cells #[.int .i64 kd, .slice A1 bs.length d1, .string nm, .int .i64 ho, .int .i64 nn, .bool up] 27)) 27 #[.int .i64 kd, .slice A2 bs.length d2, .string nm, .int .i64 ho, .int .i64 nn, .bool up]
          have L2 := Blk.new (wr.alloc (.cells #[.int .i64 kd, .slice A2 bs.length d2, .string nm, .int .i64 ho, .int .i64 nn, .bool up] 27)) 27 #[.int .i64 kd, .slice A1 bs.length d1, .string nm, .int .i64 ho, .int .i64 nn, .bool up]
          rw [hz1] at L1
          rw [hz2] at L2
          clear s0 s1 s2 hz1 hz2
          go_wp2_with fail
          go_meet
          first
            | exact ⟨wr.heap.size, wr.heap.size + 1, rfl, rfl, Lib.hid ((Blk.new wr _ _).alloc _), Lib.hid L1, Lib.hid (((Below.refl _ _).alloc (Nat.le_refl _) _).alloc (by simp) _).drew⟩
            | exact ⟨wr.heap.size + 1, wr.heap.size, rfl, rfl, Lib.hid L2, Lib.hid ((Blk.new wr _ _).alloc _), Lib.hid (((Below.refl _ _).alloc (Nat.le_refl _) _).alloc (by simp) _).drew⟩
      case rest =>
        obtain ⟨a6, a7, rfl, rfl, K6, K7, BC⟩ := hcut
        have x0 := K6.out.cell 0
        have x1 := K6.out.cell 1
        have x2 := K6.out.cell 2
        have x3 := K6.out.cell 3
        have x4 := K6.out.cell 4
        have x5 := K6.out.cell 5
        have y0 := K7.out.cell 0
        have y1 := K7.out.cell 1
        have y2 := K7.out.cell 2
        have y3 := K7.out.cell 3
        have y4 := K7.out.cell 4
        have y5 := K7.out.cell 5
        have HBW := Lib.hid (HB.out.trans (BC.out.mono HB.out.size))
        have v1 := conv_row (c := d1) (HG1.out.below HBW.out) rfl
        have v2 := conv_row (c := d2) (HP1.out.below HBW.out) rfl
        clear s0 s1 s2
        go_wp2_with fail
        go_roundw
        case rel => exact ⟨j + 1, by omega, by go_num, HBW⟩
        case measure => simp [intOf]; omega
    · obtain rfl : n = j := by omega
      go_wp2_with fail
      go_ret
      exact ⟨rfl, HB.out⟩
set_option maxHeartbeats 4000000 in
set_option maxRecDepth 100000 in
theorem awake_any (w : World) : Calls Try.prog 9 #[] w fun o w' => o = .returned (.bool true) ∧ Below w.heap.size w w' := by
  have HY := Lib.hid (bytes_any none 0 0 [] w ⟨.inl rfl, fun o ho => by cases ho⟩ rfl (by decide) (by decide) (by decide))
  have HX := Lib.hid (show allO [] = [68, 83, 84, 49, 0, 0, 0, 0] from by decide)
  unfold BytesPost at HY
  rw [HX.out] at HY
  go_enter Try.func9, Try.ntmps9
  go_wp2_with fail
  refine HY.out.mono ?_
  rintro o w1 ⟨hb, ⟨_, v, rfl, ho⟩ | ⟨⟨x, hx, _⟩, _⟩⟩
  · obtain ⟨g, cap, rfl, h1, h2, hc, _, hcell, _⟩ := own_form ho (by decide)
    have HB := Lib.hid hb
    have HR := Lib.hid (show Row w1 w1.heap.size (some ⟨g, 0, none⟩) (([68, 83, 84, 49, 0, 0, 0, 0] : List Int).map (.int .u8)) from .inr ⟨g, 0, rfl, h2, fun i u hu => by
      rw [Nat.zero_add, hcell i (by have := (List.getElem?_eq_some_iff.1 hu).1; simpa using this)]
      exact hu⟩)
    have v1 := conv_row (n := 8) (c := cap) HR.out rfl
    have v2 : strOfNums [68, 83, 84, 49, 0, 0, 0, 0] = ⟨#[68, 83, 84, 49, 0, 0, 0, 0]⟩ := by decide
    rw [v2] at v1
    clear hcell ho hb v2 h1 h2
    go_wp2_with fail
    go_ret
    exact ⟨rfl, HB.out⟩
  · cases hx
end Go.Proofs.Ytmlicmcphecakaa.snI
