/- Layer 27: a flow is put in. -/
import Derived.Test.YtboknpkcpeoebaaFlowU
namespace Go.Proofs.Ytboknpkcpeoebaa.flowV
open Go.ChangeShapes Go.WideShapes Go.ChangeAt Go.RowKit
open Go.Proofs.Ytboknpkcpeoebaa.base Go.Proofs.Ytboknpkcpeoebaa.flowA Go.Proofs.Ytboknpkcpeoebaa.flowB Go.Proofs.Ytboknpkcpeoebaa.flowC Go.Proofs.Ytboknpkcpeoebaa.flowD Go.Proofs.Ytboknpkcpeoebaa.flowE Go.Proofs.Ytboknpkcpeoebaa.flowF Go.Proofs.Ytboknpkcpeoebaa.flowG Go.Proofs.Ytboknpkcpeoebaa.flowH Go.Proofs.Ytboknpkcpeoebaa.flowI Go.Proofs.Ytboknpkcpeoebaa.flowL Go.Proofs.Ytboknpkcpeoebaa.flowM Go.Proofs.Ytboknpkcpeoebaa.flowN Go.Proofs.Ytboknpkcpeoebaa.flowO Go.Proofs.Ytboknpkcpeoebaa.flowP Go.Proofs.Ytboknpkcpeoebaa.flowQ Go.Proofs.Ytboknpkcpeoebaa.flowR Go.Proofs.Ytboknpkcpeoebaa.flowS Go.Proofs.Ytboknpkcpeoebaa.flowT Go.Proofs.Ytboknpkcpeoebaa.flowU
set_option linter.unusedVariables false

/-- On the way through a call: the table, entries of the call's own, what is as it was. -/
structure StG (w w' : World) (ta r : Nat) (v0 v : Value) (n : Nat) (seed : Int) (t : Tb Ent) (bs : List (Nat × Array Value)) : Prop where
  mem : MemF w' ta r v n seed t
  frm : Frm ta r v0 w w'
  own : ∀ g, v.ownBlock = some g → v0.ownBlock = some g ∨ w.heap.size ≤ g
  blk : ∀ p, p ∈ bs → Blk w' p.1 28 p.2 ∧ w.heap.size ≤ p.1 ∧ v.ownBlock ≠ some p.1
  l1 : ta < w.heap.size
  l2 : r < w.heap.size
section
variable {w w' w2 : World} {ta r : Nat} {v0 v v2 : Value} {n : Nat} {seed : Int} {t t2 : Tb Ent} {bs : List (Nat × Array Value)}
theorem StG.start (h : MemF w ta r v n seed t) : StG w w ta r v v n seed t [] :=
  ⟨h, Frm.refl _ _ _ _, fun g e => .inl e, fun p hp => (by cases hp), (lt_of_mem h).1, (lt_of_mem h).2.1⟩
theorem StG.goV (S : StG w w' ta r v0 v n seed t bs) (M : MemF w2 ta r v2 n seed t2) (F : Frm ta r v w' w2) (hv : ∀ g, v2.ownBlock = some g → v.ownBlock = some g ∨ w'.heap.size ≤ g) : StG w w2 ta r v0 v2 n seed t2 bs := by
  have h1 := S.l1
  have h2 := S.l2
  refine ⟨M, ?_, fun g e => ?_, fun p hp => ?_, h1, h2⟩
  · refine S.frm.trans F fun g e => S.own g e
  · rcases hv g e with h | h
    · exact S.own g h
    · exact .inr (Nat.le_trans S.frm.size h)
  · obtain ⟨a, b, c⟩ := S.blk p hp
    refine ⟨F.blk a (by omega) (by omega) (Ne.symm c), b, fun e => ?_⟩
    rcases hv _ e with h | h
    · exact c h
    · have := a.lt; omega
theorem StG.go (S : StG w w' ta r v0 v n seed t bs) (M : MemF w2 ta r v n seed t2) (F : Frm ta r v w' w2) : StG w w2 ta r v0 v n seed t2 bs := S.goV M F fun g e => .inl e
theorem StG.below (S : StG w w' ta r v0 v n seed t bs) (hb : Below w'.heap.size w' w2) : StG w w2 ta r v0 v n seed t bs := S.go (S.mem.below hb) (Frm.of_below hb)
theorem StG.drew (S : StG w w' ta r v0 v n seed t bs) : StG w w'.drew ta r v0 v n seed t bs := S.below (Below.refl _ _).drew
theorem StG.add (S : StG w w' ta r v0 v n seed t bs) (c : Array Value) : StG w (w'.alloc (.cells c 28)) ta r v0 v n seed t ((w'.heap.size, c) :: bs) := by
  have S2 := S.below ((Below.refl w'.heap.size w').alloc (Nat.le_refl _) (.cells c 28))
  refine ⟨S2.mem, S2.frm, S2.own, fun p hp => ?_, S2.l1, S2.l2⟩
  rcases List.mem_cons.mp hp with e | e
  · subst e
    refine ⟨Blk.new _ _ _, S.frm.size, fun e => ?_⟩
    have := (lt_of_mem S.mem).2.2 _ e
    exact Nat.lt_irrefl _ this
  · exact S2.blk p e
theorem StG.set (S : StG w w' ta r v0 v n seed t bs) {b : Nat} {c : Array Value} (hb : (b, c) ∈ bs) (c' : Array Value) (bs' : List (Nat × Array Value)) (h : ∀ p, p ∈ bs' → p = (b, c') ∨ (p ∈ bs ∧ p.1 ≠ b)) : StG w (w'.setRow b c') ta r v0 v n seed t bs' := by
  obtain ⟨a1, a2, a3⟩ := S.blk _ hb
  have h1 := S.l1
  have h2 := S.l2
  refine ⟨S.mem.sameB fun k hk => setRow_other _ _ _ _ ?_, frm_setRow S.frm b a2 c', S.own, fun p hp => ?_, h1, h2⟩
  · rcases hk with e | e | e
    · intro e2; simp only at a2; omega
    · intro e2; simp only at a2; omega
    · intro e2
      rw [e2] at e
      exact a3 e
  · rcases h p hp with e | ⟨e, hne⟩
    · subst e
      exact ⟨setRow_heap _ _ _ _ _ (0, 0) a1, a2, a3⟩
    · obtain ⟨b1, b2, b3⟩ := S.blk p e
      exact ⟨(setRow_other _ _ _ _ hne).trans b1, b2, b3⟩
end
theorem upd_twice {α : Type} (f : Nat → α) (k : Nat) (x y : α) : updF (updF f k x) k y = updF f k y := by
  funext q
  unfold updF
  by_cases h : q = k
  · rw [if_pos h, if_pos h]
  · rw [if_neg h, if_neg h, if_neg h]
set_option maxHeartbeats 8000000 in
theorem put_old {w : World} {ta r : Nat} {v : Value} {n : Nat} {seed : Int} {t : Tb Ent} {L F : List Nat} {C : Nat → List Nat} (e : Ent) (h : MemF w ta r v n seed t) (g0 : GoodF n seed t L F C) (hn : 1 ≤ n) (hn2 : n ≤ 4096) (hold : ∃ p, p ∈ L ∧ (t.ent p).x = e.x) :
    Calls Try.prog 23 #[.pointer (some ⟨ta, 0, none⟩), .agg e.cells] w fun o w' => ∃ A a B, L = A ++ a :: B ∧ (t.ent a).x = e.x ∧ o = .returned (.tuple #[.agg zeroE.cells, .bool false]) ∧ MemF w' ta r v n seed { linkT (unlinkT t a) a with ent := updF t.ent a e } ∧ Frm ta r v w w' := by
  have S0 := Lib.hid (((StG.start h).add e.cells).add zeroE.cells)
  rw [show (w.alloc (.cells e.cells 28)).heap.size = w.heap.size + 1 by simp] at S0
  have HG := Lib.hid g0
  have HOLD := Lib.hid hold
  obtain ⟨w1, hw1⟩ : ∃ w1, w1 = (w.alloc (.cells e.cells 28)).alloc (.cells zeroE.cells 28) := ⟨_, rfl⟩
  rw [← hw1] at S0
  have HT := Lib.hid (show Calls Try.prog 45 #[.pointer (some ⟨ta, 0, none⟩), .agg #[.int .i64 e.x.pr, .bool e.x.s6, .int .u64 e.x.sh, .int .u64 e.x.sl, .bool e.x.d6, .int .u64 e.x.dh, .int .u64 e.x.dl, .int .i64 e.x.sp, .int .i64 e.x.dp]] w1 _ from touch_mem e.x S0.out.mem g0 hn hn2)
  have c0 : ((w.alloc (.cells #[.int .i64 e.x.pr, .bool e.x.s6, .int .u64 e.x.sh, .int .u64 e.x.sl, .bool e.x.d6, .int .u64 e.x.dh, .int .u64 e.x.dl, .int .i64 e.x.sp, .int .i64 e.x.dp, .int .i64 e.host, .int .i64 e.state, .int .i64 e.till] 28)).alloc (.cells #[.int .i64 0, .bool false, .int .u64 0, .int .u64 0, .bool false, .int .u64 0, .int .u64 0, .int .i64 0, .int .i64 0, .int .i64 0, .int .i64 0, .int .i64 0] 28)).cell? ⟨ta, 0, none⟩ = some (.int .i64 n) := by
    have := S0.out.mem.cells.1
    rw [hw1] at this
    exact this
  have n0 : ((n : Int) == 0) = false := by simp; omega
  unfold Ent.cells
  clear h g0 hold
  go_enter Try.func23, Try.ntmps23
  go_wp2_with fail
  rw [show ((w.alloc (.cells #[.int .i64 e.x.pr, .bool e.x.s6, .int .u64 e.x.sh, .int .u64 e.x.sl, .bool e.x.d6, .int .u64 e.x.dh, .int .u64 e.x.dl, .int .i64 e.x.sp, .int .i64 e.x.dp, .int .i64 e.host, .int .i64 e.state, .int .i64 e.till] 28)).alloc (.cells #[.int .i64 0, .bool false, .int .u64 0, .int .u64 0, .bool false, .int .u64 0, .int .u64 0, .int .i64 0, .int .i64 0, .int .i64 0, .int .i64 0, .int .i64 0] 28)) = w1 from hw1.symm]
  refine (HT.out).mono ?_
  rintro o w2 ⟨hf, ⟨rfl, hm, hno⟩ | ⟨A, a, B, hL, hax, rfl, hm⟩⟩
  · obtain ⟨p, hp, hpx⟩ := HOLD.out
    exact absurd hpx (hno p hp)
  · have ha : a < t.np := HG.out.lt a (.inl (by rw [hL]; simp))
    have HX := Lib.hid (show L = A ++ a :: B ∧ (t.ent a).x = e.x from ⟨hL, hax⟩)
    obtain ⟨t2, ht2⟩ : ∃ t2, t2 = linkT (unlinkT t a) a := ⟨_, rfl⟩
    have hnp : t2.np = t.np := by rw [ht2]; exact (linkT_keep (unlinkT t a) a).2.1
    have hen : t2.ent = t.ent := by rw [ht2]; exact (linkT_keep (unlinkT t a) a).2.2.1
    have hnw : t2.newest = (a : Int) := by
      rw [ht2]
      unfold linkT
      split <;> rfl
    rw [← ht2] at hm
    have S2 := Lib.hid (S0.out.go hm hf)
    have HT2 := Lib.hid ht2
    have HEN := Lib.hid hen
    have ha2 : a < t2.np := by omega
    clear hf hm hw1 c0 hL hax ht2 hen hnp
    obtain ⟨g, cap, hv, g1, g2, hcp, hm, hc, hfz⟩ := S2.out.mem.place a ha2
    subst hv
    unfold maxLen at hm
    have c3 := S2.out.mem.cells.2.2.2.1
    have c6 := S2.out.mem.cells.2.2.2.2.2.2.1
    rw [hnw] at c6
    have d0 : w2.cell? ⟨g, a * 15, none⟩ = some (.int .i64 (t2.ent a).x.pr) := hc 0 (by omega)
    have k0 : w2.cell? ⟨w.heap.size, 0, none⟩ = some (.int .i64 e.x.pr) := (S2.out.blk (w.heap.size, e.cells) (by simp)).1.cell 0
    have d1 : w2.cell? ⟨g, a * 15 + 1, none⟩ = some (.bool (t2.ent a).x.s6) := hc 1 (by omega)
    have k1 : w2.cell? ⟨w.heap.size, 1, none⟩ = some (.bool e.x.s6) := (S2.out.blk (w.heap.size, e.cells) (by simp)).1.cell 1
    have d2 : w2.cell? ⟨g, a * 15 + 2, none⟩ = some (.int .u64 (t2.ent a).x.sh) := hc 2 (by omega)
    have k2 : w2.cell? ⟨w.heap.size, 2, none⟩ = some (.int .u64 e.x.sh) := (S2.out.blk (w.heap.size, e.cells) (by simp)).1.cell 2
    have d3 : w2.cell? ⟨g, a * 15 + 3, none⟩ = some (.int .u64 (t2.ent a).x.sl) := hc 3 (by omega)
    have k3 : w2.cell? ⟨w.heap.size, 3, none⟩ = some (.int .u64 e.x.sl) := (S2.out.blk (w.heap.size, e.cells) (by simp)).1.cell 3
    have d4 : w2.cell? ⟨g, a * 15 + 4, none⟩ = some (.bool (t2.ent a).x.d6) := hc 4 (by omega)
    have k4 : w2.cell? ⟨w.heap.size, 4, none⟩ = some (.bool e.x.d6) := (S2.out.blk (w.heap.size, e.cells) (by simp)).1.cell 4
    have d5 : w2.cell? ⟨g, a * 15 + 5, none⟩ = some (.int .u64 (t2.ent a).x.dh) := hc 5 (by omega)
    have k5 : w2.cell? ⟨w.heap.size, 5, none⟩ = some (.int .u64 e.x.dh) := (S2.out.blk (w.heap.size, e.cells) (by simp)).1.cell 5
    have d6 : w2.cell? ⟨g, a * 15 + 6, none⟩ = some (.int .u64 (t2.ent a).x.dl) := hc 6 (by omega)
    have k6 : w2.cell? ⟨w.heap.size, 6, none⟩ = some (.int .u64 e.x.dl) := (S2.out.blk (w.heap.size, e.cells) (by simp)).1.cell 6
    have d7 : w2.cell? ⟨g, a * 15 + 7, none⟩ = some (.int .i64 (t2.ent a).x.sp) := hc 7 (by omega)
    have k7 : w2.cell? ⟨w.heap.size, 7, none⟩ = some (.int .i64 e.x.sp) := (S2.out.blk (w.heap.size, e.cells) (by simp)).1.cell 7
    have d8 : w2.cell? ⟨g, a * 15 + 8, none⟩ = some (.int .i64 (t2.ent a).x.dp) := hc 8 (by omega)
    have k8 : w2.cell? ⟨w.heap.size, 8, none⟩ = some (.int .i64 e.x.dp) := (S2.out.blk (w.heap.size, e.cells) (by simp)).1.cell 8
    have d9 : w2.cell? ⟨g, a * 15 + 9, none⟩ = some (.int .i64 (t2.ent a).host) := hc 9 (by omega)
    have k9 : w2.cell? ⟨w.heap.size, 9, none⟩ = some (.int .i64 e.host) := (S2.out.blk (w.heap.size, e.cells) (by simp)).1.cell 9
    have d10 : w2.cell? ⟨g, a * 15 + 10, none⟩ = some (.int .i64 (t2.ent a).state) := hc 10 (by omega)
    have k10 : w2.cell? ⟨w.heap.size, 10, none⟩ = some (.int .i64 e.state) := (S2.out.blk (w.heap.size, e.cells) (by simp)).1.cell 10
    have d11 : w2.cell? ⟨g, a * 15 + 11, none⟩ = some (.int .i64 (t2.ent a).till) := hc 11 (by omega)
    have k11 : w2.cell? ⟨w.heap.size, 11, none⟩ = some (.int .i64 e.till) := (S2.out.blk (w.heap.size, e.cells) (by simp)).1.cell 11
    have q0 : (0 : Int) ≤ a := by omega
    have q1 : (a : Int) < t2.np := by omega
    have f0 := hfz (a * 15)
    have f1 := hfz (a * 15 + 1)
    have f2 := hfz (a * 15 + 2)
    have f3 := hfz (a * 15 + 3)
    have f4 := hfz (a * 15 + 4)
    have f5 := hfz (a * 15 + 5)
    have f6 := hfz (a * 15 + 6)
    have f7 := hfz (a * 15 + 7)
    have f8 := hfz (a * 15 + 8)
    have f9 := hfz (a * 15 + 9)
    have f10 := hfz (a * 15 + 10)
    have f11 := hfz (a * 15 + 11)
    clear hc hfz
    go_wp2_with fail
    go_region
    have S3 := Lib.hid (show StG w (((((((((((((w2.setCell ⟨g, a * 15, none⟩ (.int .i64 e.x.pr)).setCell ⟨g, a * 15 + 1, none⟩ (.bool e.x.s6)).setCell ⟨g, a * 15 + 2, none⟩ (.int .u64 e.x.sh)).setCell ⟨g, a * 15 + 3, none⟩ (.int .u64 e.x.sl)).setCell ⟨g, a * 15 + 4, none⟩ (.bool e.x.d6)).setCell ⟨g, a * 15 + 5, none⟩ (.int .u64 e.x.dh)).setCell ⟨g, a * 15 + 6, none⟩ (.int .u64 e.x.dl)).setCell ⟨g, a * 15 + 7, none⟩ (.int .i64 e.x.sp)).setCell ⟨g, a * 15 + 8, none⟩ (.int .i64 e.x.dp)).setCell ⟨g, a * 15 + 9, none⟩ (.int .i64 e.host)).setCell ⟨g, a * 15 + 10, none⟩ (.int .i64 e.state)).setCell ⟨g, a * 15 + 11, none⟩ (.int .i64 e.till))).drew ta r (.slice (some ⟨g, 0, none⟩) t2.np cap) (.slice (some ⟨g, 0, none⟩) t2.np cap) n seed { t2 with ent := updF t2.ent a e } [(w.heap.size + 1, zeroE.cells), (w.heap.size, e.cells)] from (S2.out.go (S2.out.mem.setEnt a ha2 e) (Frm.setCells (.inr (.inr (.inl rfl))) e.cells.toList w2 (a * 15) (Frm.refl _ _ _ _))).drew)
    clear S2
    generalize (((((((((((((w2.setCell ⟨g, a * 15, none⟩ (.int .i64 e.x.pr)).setCell ⟨g, a * 15 + 1, none⟩ (.bool e.x.s6)).setCell ⟨g, a * 15 + 2, none⟩ (.int .u64 e.x.sh)).setCell ⟨g, a * 15 + 3, none⟩ (.int .u64 e.x.sl)).setCell ⟨g, a * 15 + 4, none⟩ (.bool e.x.d6)).setCell ⟨g, a * 15 + 5, none⟩ (.int .u64 e.x.dh)).setCell ⟨g, a * 15 + 6, none⟩ (.int .u64 e.x.dl)).setCell ⟨g, a * 15 + 7, none⟩ (.int .i64 e.x.sp)).setCell ⟨g, a * 15 + 8, none⟩ (.int .i64 e.x.dp)).setCell ⟨g, a * 15 + 9, none⟩ (.int .i64 e.host)).setCell ⟨g, a * 15 + 10, none⟩ (.int .i64 e.state)).setCell ⟨g, a * 15 + 11, none⟩ (.int .i64 e.till))).drew = w3 at *
    have K3 := Lib.hid (S3.out.blk (w.heap.size + 1, zeroE.cells) (by simp)).1
    have S4 := Lib.hid (S3.out.set (b := w.heap.size + 1) (c := zeroE.cells) (by simp) zeroE.cells [(w.heap.size + 1, zeroE.cells)] (fun p hp => .inl (by simpa using hp)))
    go_wp2_with (refine wpList_store_row rfl 28 _ _ rfl (w.heap.size + 1) zeroE.cells rfl rfl 28 zeroE.cells K3.out size_e rfl (one_e _) ?_)
    refine bodyPost_ret (results_entry rfl _ _ (w.heap.size + 1) zeroE.cells rfl (S4.out.blk _ (List.mem_singleton.mpr rfl)).1 rfl) rfl ⟨A, a, ⟨B, HX.out.1⟩, HX.out.2, rfl, ?_, S4.out.frm⟩
    have e9 : ({ linkT (unlinkT t a) a with ent := updF t.ent a e } : Tb Ent) = { t2 with ent := updF t2.ent a e } := by
      rw [HEN.out]
      rw [HT2.out]
    exact Eq.mpr (congrArg (fun s => MemF _ ta r _ n seed s) e9) S4.out.mem
end Go.Proofs.Ytboknpkcpeoebaa.flowV
