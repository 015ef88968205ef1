/- Layer 27: whose time is over, of hosts, all: they go. -/
import Derived.Test.YtmlfpfmpoigfiaaFlowGo
import Derived.Test.YtmlfpfmpoigfiaaShelf
namespace Go.Proofs.Ytmlfpfmpoigfiaa.flowGp
open Go.ChangeShapes Go.WideShapes Go.ChangeAt Go.RowKit
open Go.Proofs.Ytmlfpfmpoigfiaa.base Go.Proofs.Ytmlfpfmpoigfiaa.flowA Go.Proofs.Ytmlfpfmpoigfiaa.flowB Go.Proofs.Ytmlfpfmpoigfiaa.flowC Go.Proofs.Ytmlfpfmpoigfiaa.flowD Go.Proofs.Ytmlfpfmpoigfiaa.flowE Go.Proofs.Ytmlfpfmpoigfiaa.flowF Go.Proofs.Ytmlfpfmpoigfiaa.flowG Go.Proofs.Ytmlfpfmpoigfiaa.flowH Go.Proofs.Ytmlfpfmpoigfiaa.flowI Go.Proofs.Ytmlfpfmpoigfiaa.flowL Go.Proofs.Ytmlfpfmpoigfiaa.flowM Go.Proofs.Ytmlfpfmpoigfiaa.flowN Go.Proofs.Ytmlfpfmpoigfiaa.flowO Go.Proofs.Ytmlfpfmpoigfiaa.flowP Go.Proofs.Ytmlfpfmpoigfiaa.flowQ Go.Proofs.Ytmlfpfmpoigfiaa.flowR Go.Proofs.Ytmlfpfmpoigfiaa.flowS Go.Proofs.Ytmlfpfmpoigfiaa.flowT Go.Proofs.Ytmlfpfmpoigfiaa.flowU Go.Proofs.Ytmlfpfmpoigfiaa.flowV Go.Proofs.Ytmlfpfmpoigfiaa.flowW Go.Proofs.Ytmlfpfmpoigfiaa.flowX Go.Proofs.Ytmlfpfmpoigfiaa.flowY Go.Proofs.Ytmlfpfmpoigfiaa.flowGo
set_option linter.unusedVariables false

theorem late1_any (e : Ent) (x : Int) (c : Nat) (w : World) (hc : w.cell? ⟨c, 0, none⟩ = some (.int .i64 x)) : Calls Try.prog 31 #[.agg e.cells, .pointer (some ⟨c, 0, none⟩)] w fun o w' => o = .returned (.bool (decide (e.till ≤ x))) ∧ Below w.heap.size w w' := by
  have HW := Lib.hid ((Below.refl w.heap.size w).alloc (Nat.le_refl _) (.cells #[.int .i64 e.x.pr, .bool e.x.s6, .int .u64 e.x.sh, .int .u64 e.x.sl, .bool e.x.d6, .int .u64 e.x.dh, .int .u64 e.x.dl, .int .i64 e.x.sp, .int .i64 e.x.dp, .int .i64 e.host, .int .i64 e.state, .int .i64 e.till] 33))
  have hc2 : (w.alloc (.cells #[.int .i64 e.x.pr, .bool e.x.s6, .int .u64 e.x.sh, .int .u64 e.x.sl, .bool e.x.d6, .int .u64 e.x.dh, .int .u64 e.x.dl, .int .i64 e.x.sp, .int .i64 e.x.dp, .int .i64 e.host, .int .i64 e.state, .int .i64 e.till] 33)).cell? ⟨c, 0, none⟩ = some (.int .i64 x) := (HW.out.cell (p := ⟨c, 0, none⟩) (World.block_lt_of_cell? w _ hc)).trans hc
  unfold Ent.cells
  clear hc
  go_enter Try.func31, Try.ntmps31
  go_wp2_with fail
  go_ret
  first | exact ⟨rfl, HW.out⟩ | exact ⟨rfl, HW.out.drew⟩
theorem clear1_any (e : Ent) (w : World) : Calls Try.prog 34 #[.agg e.cells] w fun o w' => o = .returned (.bool true) ∧ Below w.heap.size w w' := by
  have HW := Lib.hid ((Below.refl w.heap.size w).alloc (Nat.le_refl _) (.cells #[.int .i64 e.x.pr, .bool e.x.s6, .int .u64 e.x.sh, .int .u64 e.x.sl, .bool e.x.d6, .int .u64 e.x.dh, .int .u64 e.x.dl, .int .i64 e.x.sp, .int .i64 e.x.dp, .int .i64 e.host, .int .i64 e.state, .int .i64 e.till] 33))
  unfold Ent.cells
  go_enter Try.func34, Try.ntmps34
  go_wp2_with fail
  go_ret
  first | exact ⟨rfl, HW.out⟩ | exact ⟨rfl, HW.out.drew⟩
theorem of1_any (e : Ent) (A : Option Addr) (m cc : Nat) (hs : List Int) (c B : Nat) (w : World) (hm : hs.length = m) (hm2 : m ≤ 1000) (hr : Row w B A (hs.map (.int .i64))) (hB : B ≤ w.heap.size) (hc : w.cell? ⟨c, 0, none⟩ = some (.slice A m cc)) : Calls Try.prog 32 #[.agg e.cells, .pointer (some ⟨c, 0, none⟩)] w fun o w' => o = .returned (.bool (hs.contains e.host)) ∧ Below w.heap.size w w' := by
  have HW := Lib.hid ((Below.refl w.heap.size w).alloc (Nat.le_refl _) (.cells #[.int .i64 e.x.pr, .bool e.x.s6, .int .u64 e.x.sh, .int .u64 e.x.sl, .bool e.x.d6, .int .u64 e.x.dh, .int .u64 e.x.dl, .int .i64 e.x.sp, .int .i64 e.x.dp, .int .i64 e.host, .int .i64 e.state, .int .i64 e.till] 33))
  have hc2 : (w.alloc (.cells #[.int .i64 e.x.pr, .bool e.x.s6, .int .u64 e.x.sh, .int .u64 e.x.sl, .bool e.x.d6, .int .u64 e.x.dh, .int .u64 e.x.dl, .int .i64 e.x.sp, .int .i64 e.x.dp, .int .i64 e.host, .int .i64 e.state, .int .i64 e.till] 33)).cell? ⟨c, 0, none⟩ = some (.slice A m cc) := (HW.out.cell (p := ⟨c, 0, none⟩) (World.block_lt_of_cell? w _ hc)).trans hc
  have HC := Lib.hid (show ∀ w', Below w.heap.size w w' → Calls Try.prog 33 #[.slice A m cc, .int .i64 e.host] w' fun o w2 => o = .returned (.bool (hs.contains e.host)) ∧ w2 = w' from fun w' hb => by
    cases hs with
    | nil =>
      have : m = 0 := by simpa using hm.symm
      subst this
      exact Try.slices_Contains_int_empty A cc e.host w'
    | cons z zs =>
      rcases hr with h0 | ⟨b, off, hA, hbl, hcell⟩
      · cases h0
      · subst hA
        have := Try.slices_Contains_int b off m cc (z :: zs) e.host w' (by omega) (by omega) (fun j hj => by
          have h1 := hcell j (.int .i64 ((z :: zs).getD j 0)) (by
            rw [List.getElem?_map, List.getElem?_eq_getElem hj]
            simp [List.getD_eq_getElem?_getD, List.getElem?_eq_getElem hj])
          unfold World.cell? at h1 ⊢
          rw [hb.block b (by omega)]
          exact h1)
        rw [List.take_of_length_le (by omega)] at this
        exact this)
  obtain ⟨q, hq⟩ : ∃ q, q = hs.contains e.host := ⟨_, rfl⟩
  rw [← hq] at HC ⊢
  clear hq
  unfold Ent.cells
  clear hc hr
  go_enter Try.func32, Try.ntmps32
  go_wp2_with fail
  refine (HC.out _ (by first | exact HW.out | exact HW.out.drew)).mono ?_
  rintro o w2 ⟨rfl, rfl⟩
  go_wp2_with fail
  go_ret
  first | exact ⟨rfl, HW.out⟩ | exact ⟨rfl, HW.out.drew⟩
/-- What stays, what has gone. -/
theorem tab_of_StL {w w' : World} {ta r : Nat} {v : Value} {n : Nat} {seed : Int} {t : Tb Ent} {L P : List Nat} {gg : Ent → Bool} {v' : Value} (S : StL w w' ta r v n seed t L P [] gg v') :
    Own w' w.heap.size v' ((L.map t.ent).filter gg) ∧ Tab w' ta r v n seed ((L.map t.ent).filter (fun e => !gg e)) ∧ Frm ta r v w w' := by
  have hP : P = L := by have := S.all; rw [List.append_nil] at this; exact this.symm
  subst hP
  obtain ⟨t', F', C', h1, h2, h3⟩ := S.tab
  rw [List.append_nil] at h2 h3
  refine ⟨S.own, ⟨t', _, F', C', h1, h2, ?_⟩, S.frm⟩
  rw [List.filter_map]
  exact (List.map_congr_left (fun q hq => (h3 q hq).symm))
section
variable {w : World} {ta r : Nat} {v : Value} {n : Nat} {seed : Int} {l : List Ent}
/-- What a call by which flows go leaves. -/
def GoPost (w : World) (ta r : Nat) (v : Value) (n : Nat) (seed : Int) (l : List Ent) (gg : Ent → Bool) (o : Ending) (w' : World) : Prop :=
  ∃ v', o = .returned v' ∧ Own w' w.heap.size v' (l.filter gg) ∧ Tab w' ta r v n seed (l.filter (fun e => !gg e)) ∧ Frm ta r v w w'
theorem late_tab (x : Int) (h : Tab w ta r v n seed l) (hn : 1 ≤ n) (hn2 : n ≤ 4096) : Calls Try.prog 13 #[.pointer (some ⟨ta, 0, none⟩), .int .i64 x] w (GoPost w ta r v n seed l (fun e => decide (e.till ≤ x))) := by
  obtain ⟨t, L, F, C, hm, hg, hl⟩ := h
  subst hl
  obtain ⟨m1, m2, m3⟩ := lt_of_mem hm
  have HG := Lib.hid (goes_late w.heap.size (fun e => decide (e.till ≤ x)) (hm.alloc (.cells #[.int .i64 x] 2)) hg hn hn2 (fun e w' hf => late1_any e x w.heap.size w' ((hf.blk (Blk.new w 2 #[.int .i64 x]) (by omega) (by omega) (fun e => by have := m3 _ e.symm; omega)).cell 0)))
  have hmf : ∀ (fn : Fn) (first cap : Array Value) (w : World), (Instr.makeFunc fn first cap).run Try.prog w = .ok (.func fn first cap) w := fun _ _ _ _ => rfl
  have HA := Lib.hid ((Frm.refl ta r v w).alloc (.cells #[.int .i64 x] 2))
  have HS := Lib.hid (show w.heap.size ≤ (w.alloc (.cells #[.int .i64 x] 2)).heap.size by simp)
  clear hm hg m1 m2 m3
  go_enter Try.func13, Try.ntmps13
  go_wp2_with fail
  refine HG.out.mono ?_
  rintro o w2 ⟨v', rfl, P, S⟩
  obtain ⟨h1, h2, h3⟩ := tab_of_StL S
  have H1 := Lib.hid h1
  have H2 := Lib.hid h2
  have H3 := Lib.hid (HA.out.then h3)
  clear h1 h2 h3 S
  go_wp2_with fail
  go_ret
  refine ⟨_, rfl, ⟨H1.out.1, ?_⟩, H2.out, H3.out⟩
  rcases H1.out.2 with h0 | ⟨g, cap, cur, e1, e2, e3⟩
  · exact .inl h0
  · exact .inr ⟨g, cap, cur, e1, Nat.le_trans HS.out e2, e3⟩
theorem of_tab (A : Option Addr) (m cc : Nat) (hs : List Int) (B : Nat) (hmm : hs.length = m) (hm2 : m ≤ 1000) (hr : Row w B A (hs.map (.int .i64))) (hB : B ≤ w.heap.size) (b1 : B ≤ ta) (b2 : B ≤ r) (b3 : ∀ g, v.ownBlock = some g → B ≤ g) (h : Tab w ta r v n seed l) (hn : 1 ≤ n) (hn2 : n ≤ 4096) : Calls Try.prog 14 #[.pointer (some ⟨ta, 0, none⟩), .slice A m cc] w (GoPost w ta r v n seed l (fun e => hs.contains e.host)) := by
  obtain ⟨t, L, F, C, hm, hg, hl⟩ := h
  subst hl
  obtain ⟨m1, m2, m3⟩ := lt_of_mem hm
  have HG := Lib.hid (goes_of w.heap.size (fun e => hs.contains e.host) (hm.alloc (.cells #[.slice A m cc] 29)) hg hn hn2 (fun e w' hf => of1_any e A m cc hs w.heap.size B w' hmm hm2 (by
    rcases hr with h0 | ⟨b, off, k1, k2, k3⟩
    · exact .inl h0
    · refine .inr ⟨b, off, k1, k2, fun i u hu => ?_⟩
      have h1 := k3 i u hu
      unfold World.cell? at h1 ⊢
      rw [hf.block b (by simp; omega) (by omega) (by omega) (fun e => by have := b3 b e.symm; omega), Below.heap_alloc w _ b (by omega)]
      exact h1) (by have := hf.size; simp at this; omega) ((hf.blk (Blk.new w 29 #[.slice A m cc]) (by omega) (by omega) (fun e => by have := m3 _ e.symm; omega)).cell 0)))
  have hmf : ∀ (fn : Fn) (first cap : Array Value) (w : World), (Instr.makeFunc fn first cap).run Try.prog w = .ok (.func fn first cap) w := fun _ _ _ _ => rfl
  have HA := Lib.hid ((Frm.refl ta r v w).alloc (.cells #[.slice A m cc] 29))
  have HS := Lib.hid (show w.heap.size ≤ (w.alloc (.cells #[.slice A m cc] 29)).heap.size by simp)
  clear hm hg m1 m2 m3 hr hmm b1 b2 b3
  go_enter Try.func14, Try.ntmps14
  go_wp2_with fail
  refine HG.out.mono ?_
  rintro o w2 ⟨v', rfl, P, S⟩
  obtain ⟨h1, h2, h3⟩ := tab_of_StL S
  have H1 := Lib.hid h1
  have H2 := Lib.hid h2
  have H3 := Lib.hid (HA.out.then h3)
  clear h1 h2 h3 S
  go_wp2_with fail
  go_ret
  refine ⟨_, rfl, ⟨H1.out.1, ?_⟩, H2.out, H3.out⟩
  rcases H1.out.2 with h0 | ⟨g, cap, cur, e1, e2, e3⟩
  · exact .inl h0
  · exact .inr ⟨g, cap, cur, e1, Nat.le_trans HS.out e2, e3⟩
theorem clear_tab (h : Tab w ta r v n seed l) (hn : 1 ≤ n) (hn2 : n ≤ 4096) : Calls Try.prog 15 #[.pointer (some ⟨ta, 0, none⟩)] w (GoPost w ta r v n seed l (fun _ => true)) := by
  obtain ⟨t, L, F, C, hm, hg, hl⟩ := h
  subst hl
  have HG := Lib.hid (goes_clear (fun _ => true) hm hg hn hn2 (fun e w' hf => clear1_any e w'))
  clear hm hg
  go_enter Try.func15, Try.ntmps15
  go_wp2_with fail
  refine HG.out.mono ?_
  rintro o w2 ⟨v', rfl, P, S⟩
  obtain ⟨h1, h2, h3⟩ := tab_of_StL S
  have H1 := Lib.hid h1
  have H2 := Lib.hid h2
  have H3 := Lib.hid h3
  clear h1 h2 h3 S
  go_wp2_with fail
  go_ret
  exact ⟨_, rfl, H1.out, H2.out, H3.out⟩
end
end Go.Proofs.Ytmlfpfmpoigfiaa.flowGp
