/- Layer 27: flows go. -/
import Derived.Test.YtmlfpfmpoigfiaaFlowY
namespace Go.Proofs.Ytmlfpfmpoigfiaa.flowGo
open Go.ChangeShapes Go.WideShapes Go.ChangeAt Go.RowKit
open Go.Proofs.Ytmlfpfmpoigfiaa.base Go.Proofs.Ytmlfpfmpoigfiaa.flowA Go.Proofs.Ytmlfpfmpoigfiaa.flowB Go.Proofs.Ytmlfpfmpoigfiaa.flowC Go.Proofs.Ytmlfpfmpoigfiaa.flowD Go.Proofs.Ytmlfpfmpoigfiaa.flowE Go.Proofs.Ytmlfpfmpoigfiaa.flowF Go.Proofs.Ytmlfpfmpoigfiaa.flowG Go.Proofs.Ytmlfpfmpoigfiaa.flowH Go.Proofs.Ytmlfpfmpoigfiaa.flowI Go.Proofs.Ytmlfpfmpoigfiaa.flowL Go.Proofs.Ytmlfpfmpoigfiaa.flowM Go.Proofs.Ytmlfpfmpoigfiaa.flowN Go.Proofs.Ytmlfpfmpoigfiaa.flowO Go.Proofs.Ytmlfpfmpoigfiaa.flowP Go.Proofs.Ytmlfpfmpoigfiaa.flowQ Go.Proofs.Ytmlfpfmpoigfiaa.flowR Go.Proofs.Ytmlfpfmpoigfiaa.flowS Go.Proofs.Ytmlfpfmpoigfiaa.flowT Go.Proofs.Ytmlfpfmpoigfiaa.flowU Go.Proofs.Ytmlfpfmpoigfiaa.flowV Go.Proofs.Ytmlfpfmpoigfiaa.flowW Go.Proofs.Ytmlfpfmpoigfiaa.flowX Go.Proofs.Ytmlfpfmpoigfiaa.flowY
set_option linter.unusedVariables false

theorem frm_grown {ta r : Nat} {v : Value} {w w' w2 : World} {row : Option Nat} (h : Frm ta r v w w') (hg : w'.grownBy w2 row) (hr : ∀ k, row = some k → w.heap.size ≤ k) : Frm ta r v w w2 :=
  ⟨hg.os.trans h.os, hg.tape.trans h.tape, hg.output.trans h.output, Nat.le_trans h.size hg.size, fun k h1 h3 h4 h5 => (hg.block k (Nat.lt_of_lt_of_le h1 h.size) (fun e => by have := hr k e.symm; omega)).trans (h.block k h1 h3 h4 h5)⟩
/-- On the way: those that stay, those that are still to be asked, those that have gone. -/
structure StL (w wr : World) (ta r : Nat) (v : Value) (n : Nat) (seed : Int) (t : Tb Ent) (L P R : List Nat) (gg : Ent → Bool) (out : Value) : Prop where
  all : L = P ++ R
  tab : ∃ (t' : Tb Ent) (F' : List Nat) (C' : Nat → List Nat), MemF wr ta r v n seed t' ∧ GoodF n seed t' (P.filter (fun q => !gg (t.ent q)) ++ R) F' C' ∧ ∀ q, q ∈ P.filter (fun q => !gg (t.ent q)) ++ R → t'.ent q = t.ent q
  own : Own wr w.heap.size out ((P.map t.ent).filter gg)
  frm : Frm ta r v w wr
  l1 : ta < w.heap.size
  l2 : r < w.heap.size
  l3 : ∀ g, v.ownBlock = some g → g < w.heap.size
section
variable {w wr w2 : World} {ta r : Nat} {v : Value} {n : Nat} {seed : Int} {t : Tb Ent} {L P R : List Nat} {gg : Ent → Bool} {out : Value} {p : Nat}
theorem StL.far (S : StL w wr ta r v n seed t L P R gg out) (hb : Below wr.heap.size wr w2) : StL w w2 ta r v n seed t L P R gg out := by
  obtain ⟨t', F', C', h1, h2, h3⟩ := S.tab
  exact ⟨S.all, ⟨t', F', C', h1.below hb, h2, h3⟩, S.own.far fun k hk => hb.block k (S.own.lt k hk).2, S.frm.then (Frm.of_below hb), S.l1, S.l2, S.l3⟩
theorem StL.stay (S : StL w wr ta r v n seed t L P (p :: R) gg out) (hg : gg (t.ent p) = false) : StL w wr ta r v n seed t L (P ++ [p]) R gg out := by
  obtain ⟨t', F', C', h1, h2, h3⟩ := S.tab
  have e : (P ++ [p]).filter (fun q => !gg (t.ent q)) ++ R = P.filter (fun q => !gg (t.ent q)) ++ p :: R := by
    rw [List.filter_append]
    simp [hg]
  refine ⟨by rw [S.all]; simp, ⟨t', F', C', h1, ?_, ?_⟩, ?_, S.frm, S.l1, S.l2, S.l3⟩
  · rw [e]; exact h2
  · rw [e]; exact h3
  · have : ((P ++ [p]).map t.ent).filter gg = (P.map t.ent).filter gg := by
      rw [List.map_append, List.filter_append]
      simp [hg]
    rw [this]
    exact S.own
/-- The slice of those that have gone, behind a take. -/
theorem StL.own_take (S : StL w wr ta r v n seed t L P R gg out) (hf : Frm ta r v wr w2) : Own w2 w.heap.size out ((P.map t.ent).filter gg) :=
  S.own.far fun k hk => by
    have h1 := S.own.lt k hk
    have h2 := S.l1
    have h3 := S.l2
    exact hf.block k h1.2 (by omega) (by omega) (fun e => by have := S.l3 k e.symm; omega)
theorem StL.gone {t' : Tb Ent} {F' : List Nat} {C' : Nat → List Nat} {w3 w5 w6 : World} {y : Nat} {out2 : Value} (S : StL w w3 ta r v n seed t L P (p :: R) gg out) (hg : gg (t.ent p) = true)
    (hG : GoodF n seed t' (P.filter (fun q => !gg (t.ent q)) ++ p :: R) F' C') (hE : ∀ q, q ∈ P.filter (fun q => !gg (t.ent q)) ++ p :: R → t'.ent q = t.ent q)
    (hm : MemF w5 ta r v n seed (takeT t' zeroE (rowN n seed (t'.ent p).x) p y)) (hy : t'.rows (rowN n seed (t'.ent p).x) ≠ (p : Int) → ∃ U V, C' (rowN n seed (t'.ent p).x) = U ++ y :: p :: V)
    (hf : Frm ta r v w3 w5) (ho : Own w6 w.heap.size out2 ((P.map t.ent).filter gg ++ [t.ent p])) (hgr : w5.grownBy w6 out.ownBlock) : StL w w6 ta r v n seed t L (P ++ [p]) R gg out2 := by
  have hol := fun k hk => S.own.lt k hk
  have e : (P ++ [p]).filter (fun q => !gg (t.ent q)) = P.filter (fun q => !gg (t.ent q)) := by
    rw [List.filter_append]
    simp [hg]
  have hl1 := S.l1
  have hl2 := S.l2
  have hGd := good_take hG zeroE _ y rfl hy
  rw [← e] at hGd
  refine ⟨by rw [S.all]; simp, ⟨_, _, _, hm.sameB (fun k hk => ?_), hGd, ?_⟩, ?_, frm_grown (S.frm.then hf) hgr (fun k hk => (hol k hk).1), S.l1, S.l2, S.l3⟩
  · have hlt := lt_of_mem hm
    refine hgr.block k ?_ (fun e2 => ?_)
    · rcases hk with e2 | e2 | e2
      · omega
      · omega
      · exact hlt.2.2 k e2
    · have h9 := (hol k e2.symm).1
      rcases hk with e3 | e3 | e3
      · omega
      · omega
      · have := S.l3 k e3; omega
  · rw [e]
    intro q hq
    have hnd := hG.lru.nd
    have hqp : q ≠ p := by
      rintro rfl
      rw [List.nodup_append] at hnd
      rcases List.mem_append.mp hq with h | h
      · exact hnd.2.2 q h q (by simp) rfl
      · exact (List.nodup_cons.mp hnd.2.1).1 h
    show updF t'.ent p zeroE q = _
    rw [updF_far _ _ _ _ hqp]
    refine hE q ?_
    rcases List.mem_append.mp hq with h | h
    · exact List.mem_append.mpr (.inl h)
    · exact List.mem_append.mpr (.inr (by simp [h]))
  · have : ((P ++ [p]).map t.ent).filter gg = (P.map t.ent).filter gg ++ [t.ent p] := by
      rw [List.map_append, List.filter_append]
      simp [hg]
    rw [this]
    exact ho
end
set_option maxHeartbeats 4000000 in
theorem goes_late {w : World} {ta r : Nat} {v : Value} {n : Nat} {seed : Int} {t : Tb Ent} {L F : List Nat} {C : Nat → List Nat} (c : Nat) (gg : Ent → Bool) (h : MemF w ta r v n seed t) (g0 : GoodF n seed t L F C) (hn : 1 ≤ n) (hn2 : n ≤ 4096)
    (hW : ∀ (e : Ent) (w' : World), Frm ta r v w w' → Calls Try.prog 31 #[.agg e.cells, .pointer (some ⟨c, 0, none⟩)] w' fun o w2 => o = .returned (.bool (gg e)) ∧ Below w'.heap.size w' w2) :
    Calls Try.prog 30 #[.pointer (some ⟨ta, 0, none⟩), .func (.func 31) #[] #[.pointer (some ⟨c, 0, none⟩)]] w fun o w' => ∃ v', o = .returned v' ∧ ∃ P, StL w w' ta r v n seed t L P [] gg v' := by
  obtain ⟨i0, hi0, hz0, hz1, hz2⟩ := info_parts info_e
  have HI0 := Lib.hid hi0
  have HZ0 := Lib.hid hz0
  have HZ1 := Lib.hid hz1
  have HZ2 := Lib.hid hz2
  have HG := Lib.hid g0
  have HE := Lib.hid (flowI.empty_any h)
  have hlen : L.length ≤ 4096 := by
    have a := g0.perm.length_eq
    have b := g0.cap
    rw [List.length_append, List.length_range] at a
    omega
  obtain ⟨m1, m2, m3⟩ := lt_of_mem h
  have HWH := Lib.hid hW
  have S0 := Lib.hid (show StL w w ta r v n seed t L [] L gg (.slice none 0 0) from ⟨rfl, ⟨t, F, C, h, g0, fun _ _ => rfl⟩, Own.nil _ _, Frm.refl _ _ _ _, m1, m2, m3⟩)
  have HM := Lib.hid h
  clear h g0 hi0 hz0 hz1 hz2 hW m1 m2 m3
  go_enter Try.func30, Try.ntmps30
  go_wp2_with fail
  refine (HE.out).mono ?_
  rintro e w1 ⟨rfl, hb⟩
  have B1 := Lib.hid hb
  clear hb HE
  by_cases h0 : (t.size : Int) = 0
  · rw [decide_eq_true h0]
    have hL : L = [] := by
      have := HG.out.size
      cases L with
      | nil => rfl
      | cons a L => simp at this; omega
    subst hL
    go_wp2_with fail
    go_ret
    exact ⟨_, rfl, [], rfl, ⟨t, F, C, HM.out.below B1.out, HG.out, fun _ _ => rfl⟩, Own.nil _ _, Frm.of_below B1.out, S0.out.l1, S0.out.l2, S0.out.l3⟩
  · rw [decide_eq_false h0]
    have c6 := ((HM.out.below B1.out).alloc (.cells #[] 33)).cells.2.2.2.2.2.2.1
    have HNW := Lib.hid HG.out.lru.hd
    rw [HNW.out] at c6
    have S1 := Lib.hid (show StL w (w1.alloc (.cells #[] 33)) ta r v n seed t L [] L gg (.slice (some ⟨w1.heap.size, 0, none⟩) 0 0) from ⟨rfl, ⟨t, F, C, (HM.out.below B1.out).alloc _, HG.out, fun _ _ => rfl⟩, Own.empty w1 w.heap.size B1.out.size 33 rfl, (Frm.of_below B1.out).alloc _, S0.out.l1, S0.out.l2, S0.out.l3⟩)
    go_wp2_with fail
    go_loopg [5, 6] L.length (fun f out at' wr => ∃ P R : List Nat, R.length = f ∧ at' = .int .i64 (headZ R (-1)) ∧ StL w wr ta r v n seed t L P R gg out)
    case atStart => exact ⟨[], L, rfl, rfl, S1.out⟩
    case round =>
      obtain ⟨P, R, hlen2, rfl, hs⟩ := hrel
      have KL := Lib.hid hlen2
      have KS := Lib.hid hs
      clear hlen2 hs
      cases R with
      | nil =>
        rw [show headZ ([] : List Nat) (-1) = -1 from rfl]
        go_wp2_with fail
        go_ret
        exact ⟨_, rfl, P, KS.out.all, KS.out.tab, KS.out.own, KS.out.frm, KS.out.l1, KS.out.l2, KS.out.l3⟩
      | cons p R =>
        rw [show headZ (p :: R) (-1) = (p : Int) from rfl]
        obtain ⟨t', F', C', hM, hGd, hEn⟩ := KS.out.tab
        have hp : p < t'.np := hGd.lt p (.inl (by simp))
        have hep : t'.ent p = t.ent p := hEn p (by simp)
        have HENT := Lib.hid hep
        obtain ⟨g, cap, hv, g1, g2, hcp, hm, hc, hfz⟩ := hM.place p hp
        unfold maxLen at hm
        subst hv
        have c3 : wr.cell? ⟨ta, 3, none⟩ = some (.slice (some ⟨g, 0, none⟩) t'.np cap) := hM.cells.2.2.2.1
        have d0 : wr.cell? ⟨g, p * 15, none⟩ = some (.int .i64 (t.ent p).x.pr) := HENT.out ▸ hc 0 (by omega)
        have d1 : wr.cell? ⟨g, p * 15 + 1, none⟩ = some (.bool (t.ent p).x.s6) := HENT.out ▸ hc 1 (by omega)
        have d2 : wr.cell? ⟨g, p * 15 + 2, none⟩ = some (.int .u64 (t.ent p).x.sh) := HENT.out ▸ hc 2 (by omega)
        have d3 : wr.cell? ⟨g, p * 15 + 3, none⟩ = some (.int .u64 (t.ent p).x.sl) := HENT.out ▸ hc 3 (by omega)
        have d4 : wr.cell? ⟨g, p * 15 + 4, none⟩ = some (.bool (t.ent p).x.d6) := HENT.out ▸ hc 4 (by omega)
        have d5 : wr.cell? ⟨g, p * 15 + 5, none⟩ = some (.int .u64 (t.ent p).x.dh) := HENT.out ▸ hc 5 (by omega)
        have d6 : wr.cell? ⟨g, p * 15 + 6, none⟩ = some (.int .u64 (t.ent p).x.dl) := HENT.out ▸ hc 6 (by omega)
        have d7 : wr.cell? ⟨g, p * 15 + 7, none⟩ = some (.int .i64 (t.ent p).x.sp) := HENT.out ▸ hc 7 (by omega)
        have d8 : wr.cell? ⟨g, p * 15 + 8, none⟩ = some (.int .i64 (t.ent p).x.dp) := HENT.out ▸ hc 8 (by omega)
        have d9 : wr.cell? ⟨g, p * 15 + 9, none⟩ = some (.int .i64 (t.ent p).host) := HENT.out ▸ hc 9 (by omega)
        have d10 : wr.cell? ⟨g, p * 15 + 10, none⟩ = some (.int .i64 (t.ent p).state) := HENT.out ▸ hc 10 (by omega)
        have d11 : wr.cell? ⟨g, p * 15 + 11, none⟩ = some (.int .i64 (t.ent p).till) := HENT.out ▸ hc 11 (by omega)
        have d13 : wr.cell? ⟨g, p * 15 + 13, none⟩ = some (.int .i64 (t'.od p)) := hc 13 (by omega)
        have hod : t'.od p = headZ R (-1) := by
          have hs := hGd.lru.seg
          rw [seg_app] at hs
          exact hs.2.2.1
        rw [hod] at d13
        have q0 : ((p : Int) != -1) = true := by simp
        have q1 : (0 : Int) ≤ p := by omega
        have q2 : (p : Int) < t'.np := by omega
        have HMr := Lib.hid hM
        have HGr := Lib.hid hGd
        have HER := Lib.hid hEn
        clear hc hfz hod hM hGd hEn hep
        go_wp2_with fail
        refine (HWH.out (t.ent p) wr KS.out.frm).mono ?_
        rintro o w3 ⟨rfl, hb⟩
        have S3 := Lib.hid (KS.out.far hb)
        have M3 := Lib.hid (HMr.out.below hb)
        clear hb c3 d0 d1 d2 d3 d4 d5 d6 d7 d8 d9 d10 d11 d13
        cases hgg : gg (t.ent p)
        · have S4 := Lib.hid (S3.out.stay hgg)
          go_wp2_with fail
          go_roundg R.length
          case measure => have := KL.out; simp at this; omega
          case rel => exact ⟨P ++ [p], R, rfl, rfl, S4.out⟩
        · have HGG := Lib.hid hgg
          clear hgg
          go_wp2_with fail
          refine (take_any p M3.out HGr.out hn hn2).mono ?_
          rintro o w4 ⟨y, rfl, hm4, hy, hf⟩
          rw [HENT.out]
          have KO4 := Lib.hid ((S3.out.own_take hf).alloc (.cells #[.int .i64 (t.ent p).x.pr, .bool (t.ent p).x.s6, .int .u64 (t.ent p).x.sh, .int .u64 (t.ent p).x.sl, .bool (t.ent p).x.d6, .int .u64 (t.ent p).x.dh, .int .u64 (t.ent p).x.dl, .int .i64 (t.ent p).x.sp, .int .i64 (t.ent p).x.dp, .int .i64 (t.ent p).host, .int .i64 (t.ent p).state, .int .i64 (t.ent p).till] 33))
          have HM5 := Lib.hid (hm4.alloc (.cells #[.int .i64 (t.ent p).x.pr, .bool (t.ent p).x.s6, .int .u64 (t.ent p).x.sh, .int .u64 (t.ent p).x.sl, .bool (t.ent p).x.d6, .int .u64 (t.ent p).x.dh, .int .u64 (t.ent p).x.dl, .int .i64 (t.ent p).x.sp, .int .i64 (t.ent p).x.dp, .int .i64 (t.ent p).host, .int .i64 (t.ent p).state, .int .i64 (t.ent p).till] 33))
          have HF5 := Lib.hid (hf.alloc (.cells #[.int .i64 (t.ent p).x.pr, .bool (t.ent p).x.s6, .int .u64 (t.ent p).x.sh, .int .u64 (t.ent p).x.sl, .bool (t.ent p).x.d6, .int .u64 (t.ent p).x.dh, .int .u64 (t.ent p).x.dl, .int .i64 (t.ent p).x.sp, .int .i64 (t.ent p).x.dp, .int .i64 (t.ent p).host, .int .i64 (t.ent p).state, .int .i64 (t.ent p).till] 33))
          have HYY := Lib.hid hy
          have HNE := Lib.hid (show ∀ j u, (t.ent p).cells.toList[j]? = some u → (w4.alloc (.cells #[.int .i64 (t.ent p).x.pr, .bool (t.ent p).x.s6, .int .u64 (t.ent p).x.sh, .int .u64 (t.ent p).x.sl, .bool (t.ent p).x.d6, .int .u64 (t.ent p).x.dh, .int .u64 (t.ent p).x.dl, .int .i64 (t.ent p).x.sp, .int .i64 (t.ent p).x.dp, .int .i64 (t.ent p).host, .int .i64 (t.ent p).state, .int .i64 (t.ent p).till] 33)).cell? ((⟨w4.heap.size, 0, none⟩ : Addr).add j) = some u from fun j u hu => by
            rw [Addr.add_lit, Nat.zero_add, (Blk.new w4 _ _).cell j]
            have h2 : (t.ent p).cells[j]? = some u := by simpa using hu
            exact h2)
          have hcl : ((P.map t.ent).filter gg).length ≤ 4095 := by
            have h1 := List.length_filter_le gg (P.map t.ent)
            have h2 := congrArg List.length KS.out.all
            simp at h1 h2
            omega
          have P1 := Lib.hid (show ((P.map t.ent).filter gg).length + 1 ≤ maxLen by unfold maxLen; omega)
          have P2 := Lib.hid (show (((P.map t.ent).filter gg).length + 1) * 96 ≤ 140737488355328 by omega)
          have P3 := Lib.hid (show w.heap.size ≤ (w4.alloc (.cells #[.int .i64 (t.ent p).x.pr, .bool (t.ent p).x.s6, .int .u64 (t.ent p).x.sh, .int .u64 (t.ent p).x.sl, .bool (t.ent p).x.d6, .int .u64 (t.ent p).x.dh, .int .u64 (t.ent p).x.dl, .int .i64 (t.ent p).x.sp, .int .i64 (t.ent p).x.dp, .int .i64 (t.ent p).host, .int .i64 (t.ent p).state, .int .i64 (t.ent p).till] 33)).heap.size from Nat.le_trans (Nat.le_trans S3.out.frm.size hf.size) (by simp))
          clear hm4 hf hy hcl
          unfold Ent.cells
          go_wp2_with (at_builtin; refine wpList_append_own _ rfl (.tmp 35) (.tmp 39) _ rfl w.heap.size 33 i0 _ 12 96 Try.underlying39 HI0.out HZ0.out HZ1.out HZ2.out rfl (by omega) _ ((P.map t.ent).filter gg).length (flat ((P.map t.ent).filter gg)) rfl KO4.out ⟨w4.heap.size, 0, none⟩ 1 1 (t.ent p).cells.toList rfl rfl HNE.out (one_el _) P1.out P2.out P3.out ?_; intro v' w' ho hg _; have S6 := Lib.hid (S3.out.gone HGG.out HGr.out HER.out HM5.out HYY.out HF5.out (show Own w' w.heap.size v' ((P.map t.ent).filter gg ++ [t.ent p]) by (have := ho; rw [← flat_snoc] at this; simpa [Own] using this)) hg); clear ho hg)
          go_roundg R.length
          case measure => have := KL.out; simp at this; omega
          case rel => exact ⟨P ++ [p], R, rfl, rfl, S6.out⟩
set_option maxHeartbeats 4000000 in
theorem goes_of {w : World} {ta r : Nat} {v : Value} {n : Nat} {seed : Int} {t : Tb Ent} {L F : List Nat} {C : Nat → List Nat} (c : Nat) (gg : Ent → Bool) (h : MemF w ta r v n seed t) (g0 : GoodF n seed t L F C) (hn : 1 ≤ n) (hn2 : n ≤ 4096)
    (hW : ∀ (e : Ent) (w' : World), Frm ta r v w w' → Calls Try.prog 32 #[.agg e.cells, .pointer (some ⟨c, 0, none⟩)] w' fun o w2 => o = .returned (.bool (gg e)) ∧ Below w'.heap.size w' w2) :
    Calls Try.prog 30 #[.pointer (some ⟨ta, 0, none⟩), .func (.func 32) #[] #[.pointer (some ⟨c, 0, none⟩)]] w fun o w' => ∃ v', o = .returned v' ∧ ∃ P, StL w w' ta r v n seed t L P [] gg v' := by
  obtain ⟨i0, hi0, hz0, hz1, hz2⟩ := info_parts info_e
  have HI0 := Lib.hid hi0
  have HZ0 := Lib.hid hz0
  have HZ1 := Lib.hid hz1
  have HZ2 := Lib.hid hz2
  have HG := Lib.hid g0
  have HE := Lib.hid (flowI.empty_any h)
  have hlen : L.length ≤ 4096 := by
    have a := g0.perm.length_eq
    have b := g0.cap
    rw [List.length_append, List.length_range] at a
    omega
  obtain ⟨m1, m2, m3⟩ := lt_of_mem h
  have HWH := Lib.hid hW
  have S0 := Lib.hid (show StL w w ta r v n seed t L [] L gg (.slice none 0 0) from ⟨rfl, ⟨t, F, C, h, g0, fun _ _ => rfl⟩, Own.nil _ _, Frm.refl _ _ _ _, m1, m2, m3⟩)
  have HM := Lib.hid h
  clear h g0 hi0 hz0 hz1 hz2 hW m1 m2 m3
  go_enter Try.func30, Try.ntmps30
  go_wp2_with fail
  refine (HE.out).mono ?_
  rintro e w1 ⟨rfl, hb⟩
  have B1 := Lib.hid hb
  clear hb HE
  by_cases h0 : (t.size : Int) = 0
  · rw [decide_eq_true h0]
    have hL : L = [] := by
      have := HG.out.size
      cases L with
      | nil => rfl
      | cons a L => simp at this; omega
    subst hL
    go_wp2_with fail
    go_ret
    exact ⟨_, rfl, [], rfl, ⟨t, F, C, HM.out.below B1.out, HG.out, fun _ _ => rfl⟩, Own.nil _ _, Frm.of_below B1.out, S0.out.l1, S0.out.l2, S0.out.l3⟩
  · rw [decide_eq_false h0]
    have c6 := ((HM.out.below B1.out).alloc (.cells #[] 33)).cells.2.2.2.2.2.2.1
    have HNW := Lib.hid HG.out.lru.hd
    rw [HNW.out] at c6
    have S1 := Lib.hid (show StL w (w1.alloc (.cells #[] 33)) ta r v n seed t L [] L gg (.slice (some ⟨w1.heap.size, 0, none⟩) 0 0) from ⟨rfl, ⟨t, F, C, (HM.out.below B1.out).alloc _, HG.out, fun _ _ => rfl⟩, Own.empty w1 w.heap.size B1.out.size 33 rfl, (Frm.of_below B1.out).alloc _, S0.out.l1, S0.out.l2, S0.out.l3⟩)
    go_wp2_with fail
    go_loopg [5, 6] L.length (fun f out at' wr => ∃ P R : List Nat, R.length = f ∧ at' = .int .i64 (headZ R (-1)) ∧ StL w wr ta r v n seed t L P R gg out)
    case atStart => exact ⟨[], L, rfl, rfl, S1.out⟩
    case round =>
      obtain ⟨P, R, hlen2, rfl, hs⟩ := hrel
      have KL := Lib.hid hlen2
      have KS := Lib.hid hs
      clear hlen2 hs
      cases R with
      | nil =>
        rw [show headZ ([] : List Nat) (-1) = -1 from rfl]
        go_wp2_with fail
        go_ret
        exact ⟨_, rfl, P, KS.out.all, KS.out.tab, KS.out.own, KS.out.frm, KS.out.l1, KS.out.l2, KS.out.l3⟩
      | cons p R =>
        rw [show headZ (p :: R) (-1) = (p : Int) from rfl]
        obtain ⟨t', F', C', hM, hGd, hEn⟩ := KS.out.tab
        have hp : p < t'.np := hGd.lt p (.inl (by simp))
        have hep : t'.ent p = t.ent p := hEn p (by simp)
        have HENT := Lib.hid hep
        obtain ⟨g, cap, hv, g1, g2, hcp, hm, hc, hfz⟩ := hM.place p hp
        unfold maxLen at hm
        subst hv
        have c3 : wr.cell? ⟨ta, 3, none⟩ = some (.slice (some ⟨g, 0, none⟩) t'.np cap) := hM.cells.2.2.2.1
        have d0 : wr.cell? ⟨g, p * 15, none⟩ = some (.int .i64 (t.ent p).x.pr) := HENT.out ▸ hc 0 (by omega)
        have d1 : wr.cell? ⟨g, p * 15 + 1, none⟩ = some (.bool (t.ent p).x.s6) := HENT.out ▸ hc 1 (by omega)
        have d2 : wr.cell? ⟨g, p * 15 + 2, none⟩ = some (.int .u64 (t.ent p).x.sh) := HENT.out ▸ hc 2 (by omega)
        have d3 : wr.cell? ⟨g, p * 15 + 3, none⟩ = some (.int .u64 (t.ent p).x.sl) := HENT.out ▸ hc 3 (by omega)
        have d4 : wr.cell? ⟨g, p * 15 + 4, none⟩ = some (.bool (t.ent p).x.d6) := HENT.out ▸ hc 4 (by omega)
        have d5 : wr.cell? ⟨g, p * 15 + 5, none⟩ = some (.int .u64 (t.ent p).x.dh) := HENT.out ▸ hc 5 (by omega)
        have d6 : wr.cell? ⟨g, p * 15 + 6, none⟩ = some (.int .u64 (t.ent p).x.dl) := HENT.out ▸ hc 6 (by omega)
        have d7 : wr.cell? ⟨g, p * 15 + 7, none⟩ = some (.int .i64 (t.ent p).x.sp) := HENT.out ▸ hc 7 (by omega)
        have d8 : wr.cell? ⟨g, p * 15 + 8, none⟩ = some (.int .i64 (t.ent p).x.dp) := HENT.out ▸ hc 8 (by omega)
        have d9 : wr.cell? ⟨g, p * 15 + 9, none⟩ = some (.int .i64 (t.ent p).host) := HENT.out ▸ hc 9 (by omega)
        have d10 : wr.cell? ⟨g, p * 15 + 10, none⟩ = some (.int .i64 (t.ent p).state) := HENT.out ▸ hc 10 (by omega)
        have d11 : wr.cell? ⟨g, p * 15 + 11, none⟩ = some (.int .i64 (t.ent p).till) := HENT.out ▸ hc 11 (by omega)
        have d13 : wr.cell? ⟨g, p * 15 + 13, none⟩ = some (.int .i64 (t'.od p)) := hc 13 (by omega)
        have hod : t'.od p = headZ R (-1) := by
          have hs := hGd.lru.seg
          rw [seg_app] at hs
          exact hs.2.2.1
        rw [hod] at d13
        have q0 : ((p : Int) != -1) = true := by simp
        have q1 : (0 : Int) ≤ p := by omega
        have q2 : (p : Int) < t'.np := by omega
        have HMr := Lib.hid hM
        have HGr := Lib.hid hGd
        have HER := Lib.hid hEn
        clear hc hfz hod hM hGd hEn hep
        go_wp2_with fail
        refine (HWH.out (t.ent p) wr KS.out.frm).mono ?_
        rintro o w3 ⟨rfl, hb⟩
        have S3 := Lib.hid (KS.out.far hb)
        have M3 := Lib.hid (HMr.out.below hb)
        clear hb c3 d0 d1 d2 d3 d4 d5 d6 d7 d8 d9 d10 d11 d13
        cases hgg : gg (t.ent p)
        · have S4 := Lib.hid (S3.out.stay hgg)
          go_wp2_with fail
          go_roundg R.length
          case measure => have := KL.out; simp at this; omega
          case rel => exact ⟨P ++ [p], R, rfl, rfl, S4.out⟩
        · have HGG := Lib.hid hgg
          clear hgg
          go_wp2_with fail
          refine (take_any p M3.out HGr.out hn hn2).mono ?_
          rintro o w4 ⟨y, rfl, hm4, hy, hf⟩
          rw [HENT.out]
          have KO4 := Lib.hid ((S3.out.own_take hf).alloc (.cells #[.int .i64 (t.ent p).x.pr, .bool (t.ent p).x.s6, .int .u64 (t.ent p).x.sh, .int .u64 (t.ent p).x.sl, .bool (t.ent p).x.d6, .int .u64 (t.ent p).x.dh, .int .u64 (t.ent p).x.dl, .int .i64 (t.ent p).x.sp, .int .i64 (t.ent p).x.dp, .int .i64 (t.ent p).host, .int .i64 (t.ent p).state, .int .i64 (t.ent p).till] 33))
          have HM5 := Lib.hid (hm4.alloc (.cells #[.int .i64 (t.ent p).x.pr, .bool (t.ent p).x.s6, .int .u64 (t.ent p).x.sh, .int .u64 (t.ent p).x.sl, .bool (t.ent p).x.d6, .int .u64 (t.ent p).x.dh, .int .u64 (t.ent p).x.dl, .int .i64 (t.ent p).x.sp, .int .i64 (t.ent p).x.dp, .int .i64 (t.ent p).host, .int .i64 (t.ent p).state, .int .i64 (t.ent p).till] 33))
          have HF5 := Lib.hid (hf.alloc (.cells #[.int .i64 (t.ent p).x.pr, .bool (t.ent p).x.s6, .int .u64 (t.ent p).x.sh, .int .u64 (t.ent p).x.sl, .bool (t.ent p).x.d6, .int .u64 (t.ent p).x.dh, .int .u64 (t.ent p).x.dl, .int .i64 (t.ent p).x.sp, .int .i64 (t.ent p).x.dp, .int .i64 (t.ent p).host, .int .i64 (t.ent p).state, .int .i64 (t.ent p).till] 33))
          have HYY := Lib.hid hy
          have HNE := Lib.hid (show ∀ j u, (t.ent p).cells.toList[j]? = some u → (w4.alloc (.cells #[.int .i64 (t.ent p).x.pr, .bool (t.ent p).x.s6, .int .u64 (t.ent p).x.sh, .int .u64 (t.ent p).x.sl, .bool (t.ent p).x.d6, .int .u64 (t.ent p).x.dh, .int .u64 (t.ent p).x.dl, .int .i64 (t.ent p).x.sp, .int .i64 (t.ent p).x.dp, .int .i64 (t.ent p).host, .int .i64 (t.ent p).state, .int .i64 (t.ent p).till] 33)).cell? ((⟨w4.heap.size, 0, none⟩ : Addr).add j) = some u from fun j u hu => by
            rw [Addr.add_lit, Nat.zero_add, (Blk.new w4 _ _).cell j]
            have h2 : (t.ent p).cells[j]? = some u := by simpa using hu
            exact h2)
          have hcl : ((P.map t.ent).filter gg).length ≤ 4095 := by
            have h1 := List.length_filter_le gg (P.map t.ent)
            have h2 := congrArg List.length KS.out.all
            simp at h1 h2
            omega
          have P1 := Lib.hid (show ((P.map t.ent).filter gg).length + 1 ≤ maxLen by unfold maxLen; omega)
          have P2 := Lib.hid (show (((P.map t.ent).filter gg).length + 1) * 96 ≤ 140737488355328 by omega)
          have P3 := Lib.hid (show w.heap.size ≤ (w4.alloc (.cells #[.int .i64 (t.ent p).x.pr, .bool (t.ent p).x.s6, .int .u64 (t.ent p).x.sh, .int .u64 (t.ent p).x.sl, .bool (t.ent p).x.d6, .int .u64 (t.ent p).x.dh, .int .u64 (t.ent p).x.dl, .int .i64 (t.ent p).x.sp, .int .i64 (t.ent p).x.dp, .int .i64 (t.ent p).host, .int .i64 (t.ent p).state, .int .i64 (t.ent p).till] 33)).heap.size from Nat.le_trans (Nat.le_trans S3.out.frm.size hf.size) (by simp))
          clear hm4 hf hy hcl
          unfold Ent.cells
          go_wp2_with (at_builtin; refine wpList_append_own _ rfl (.tmp 35) (.tmp 39) _ rfl w.heap.size 33 i0 _ 12 96 Try.underlying39 HI0.out HZ0.out HZ1.out HZ2.out rfl (by omega) _ ((P.map t.ent).filter gg).length (flat ((P.map t.ent).filter gg)) rfl KO4.out ⟨w4.heap.size, 0, none⟩ 1 1 (t.ent p).cells.toList rfl rfl HNE.out (one_el _) P1.out P2.out P3.out ?_; intro v' w' ho hg _; have S6 := Lib.hid (S3.out.gone HGG.out HGr.out HER.out HM5.out HYY.out HF5.out (show Own w' w.heap.size v' ((P.map t.ent).filter gg ++ [t.ent p]) by (have := ho; rw [← flat_snoc] at this; simpa [Own] using this)) hg); clear ho hg)
          go_roundg R.length
          case measure => have := KL.out; simp at this; omega
          case rel => exact ⟨P ++ [p], R, rfl, rfl, S6.out⟩
set_option maxHeartbeats 4000000 in
theorem goes_clear {w : World} {ta r : Nat} {v : Value} {n : Nat} {seed : Int} {t : Tb Ent} {L F : List Nat} {C : Nat → List Nat} (gg : Ent → Bool) (h : MemF w ta r v n seed t) (g0 : GoodF n seed t L F C) (hn : 1 ≤ n) (hn2 : n ≤ 4096)
    (hW : ∀ (e : Ent) (w' : World), Frm ta r v w w' → Calls Try.prog 34 #[.agg e.cells] w' fun o w2 => o = .returned (.bool (gg e)) ∧ Below w'.heap.size w' w2) :
    Calls Try.prog 30 #[.pointer (some ⟨ta, 0, none⟩), .func (.func 34) #[] #[]] w fun o w' => ∃ v', o = .returned v' ∧ ∃ P, StL w w' ta r v n seed t L P [] gg v' := by
  obtain ⟨i0, hi0, hz0, hz1, hz2⟩ := info_parts info_e
  have HI0 := Lib.hid hi0
  have HZ0 := Lib.hid hz0
  have HZ1 := Lib.hid hz1
  have HZ2 := Lib.hid hz2
  have HG := Lib.hid g0
  have HE := Lib.hid (flowI.empty_any h)
  have hlen : L.length ≤ 4096 := by
    have a := g0.perm.length_eq
    have b := g0.cap
    rw [List.length_append, List.length_range] at a
    omega
  obtain ⟨m1, m2, m3⟩ := lt_of_mem h
  have HWH := Lib.hid hW
  have S0 := Lib.hid (show StL w w ta r v n seed t L [] L gg (.slice none 0 0) from ⟨rfl, ⟨t, F, C, h, g0, fun _ _ => rfl⟩, Own.nil _ _, Frm.refl _ _ _ _, m1, m2, m3⟩)
  have HM := Lib.hid h
  clear h g0 hi0 hz0 hz1 hz2 hW m1 m2 m3
  go_enter Try.func30, Try.ntmps30
  go_wp2_with fail
  refine (HE.out).mono ?_
  rintro e w1 ⟨rfl, hb⟩
  have B1 := Lib.hid hb
  clear hb HE
  by_cases h0 : (t.size : Int) = 0
  · rw [decide_eq_true h0]
    have hL : L = [] := by
      have := HG.out.size
      cases L with
      | nil => rfl
      | cons a L => simp at this; omega
    subst hL
    go_wp2_with fail
    go_ret
    exact ⟨_, rfl, [], rfl, ⟨t, F, C, HM.out.below B1.out, HG.out, fun _ _ => rfl⟩, Own.nil _ _, Frm.of_below B1.out, S0.out.l1, S0.out.l2, S0.out.l3⟩
  · rw [decide_eq_false h0]
    have c6 := ((HM.out.below B1.out).alloc (.cells #[] 33)).cells.2.2.2.2.2.2.1
    have HNW := Lib.hid HG.out.lru.hd
    rw [HNW.out] at c6
    have S1 := Lib.hid (show StL w (w1.alloc (.cells #[] 33)) ta r v n seed t L [] L gg (.slice (some ⟨w1.heap.size, 0, none⟩) 0 0) from ⟨rfl, ⟨t, F, C, (HM.out.below B1.out).alloc _, HG.out, fun _ _ => rfl⟩, Own.empty w1 w.heap.size B1.out.size 33 rfl, (Frm.of_below B1.out).alloc _, S0.out.l1, S0.out.l2, S0.out.l3⟩)
    go_wp2_with fail
    go_loopg [5, 6] L.length (fun f out at' wr => ∃ P R : List Nat, R.length = f ∧ at' = .int .i64 (headZ R (-1)) ∧ StL w wr ta r v n seed t L P R gg out)
    case atStart => exact ⟨[], L, rfl, rfl, S1.out⟩
    case round =>
      obtain ⟨P, R, hlen2, rfl, hs⟩ := hrel
      have KL := Lib.hid hlen2
      have KS := Lib.hid hs
      clear hlen2 hs
      cases R with
      | nil =>
        rw [show headZ ([] : List Nat) (-1) = -1 from rfl]
        go_wp2_with fail
        go_ret
        exact ⟨_, rfl, P, KS.out.all, KS.out.tab, KS.out.own, KS.out.frm, KS.out.l1, KS.out.l2, KS.out.l3⟩
      | cons p R =>
        rw [show headZ (p :: R) (-1) = (p : Int) from rfl]
        obtain ⟨t', F', C', hM, hGd, hEn⟩ := KS.out.tab
        have hp : p < t'.np := hGd.lt p (.inl (by simp))
        have hep : t'.ent p = t.ent p := hEn p (by simp)
        have HENT := Lib.hid hep
        obtain ⟨g, cap, hv, g1, g2, hcp, hm, hc, hfz⟩ := hM.place p hp
        unfold maxLen at hm
        subst hv
        have c3 : wr.cell? ⟨ta, 3, none⟩ = some (.slice (some ⟨g, 0, none⟩) t'.np cap) := hM.cells.2.2.2.1
        have d0 : wr.cell? ⟨g, p * 15, none⟩ = some (.int .i64 (t.ent p).x.pr) := HENT.out ▸ hc 0 (by omega)
        have d1 : wr.cell? ⟨g, p * 15 + 1, none⟩ = some (.bool (t.ent p).x.s6) := HENT.out ▸ hc 1 (by omega)
        have d2 : wr.cell? ⟨g, p * 15 + 2, none⟩ = some (.int .u64 (t.ent p).x.sh) := HENT.out ▸ hc 2 (by omega)
        have d3 : wr.cell? ⟨g, p * 15 + 3, none⟩ = some (.int .u64 (t.ent p).x.sl) := HENT.out ▸ hc 3 (by omega)
        have d4 : wr.cell? ⟨g, p * 15 + 4, none⟩ = some (.bool (t.ent p).x.d6) := HENT.out ▸ hc 4 (by omega)
        have d5 : wr.cell? ⟨g, p * 15 + 5, none⟩ = some (.int .u64 (t.ent p).x.dh) := HENT.out ▸ hc 5 (by omega)
        have d6 : wr.cell? ⟨g, p * 15 + 6, none⟩ = some (.int .u64 (t.ent p).x.dl) := HENT.out ▸ hc 6 (by omega)
        have d7 : wr.cell? ⟨g, p * 15 + 7, none⟩ = some (.int .i64 (t.ent p).x.sp) := HENT.out ▸ hc 7 (by omega)
        have d8 : wr.cell? ⟨g, p * 15 + 8, none⟩ = some (.int .i64 (t.ent p).x.dp) := HENT.out ▸ hc 8 (by omega)
        have d9 : wr.cell? ⟨g, p * 15 + 9, none⟩ = some (.int .i64 (t.ent p).host) := HENT.out ▸ hc 9 (by omega)
        have d10 : wr.cell? ⟨g, p * 15 + 10, none⟩ = some (.int .i64 (t.ent p).state) := HENT.out ▸ hc 10 (by omega)
        have d11 : wr.cell? ⟨g, p * 15 + 11, none⟩ = some (.int .i64 (t.ent p).till) := HENT.out ▸ hc 11 (by omega)
        have d13 : wr.cell? ⟨g, p * 15 + 13, none⟩ = some (.int .i64 (t'.od p)) := hc 13 (by omega)
        have hod : t'.od p = headZ R (-1) := by
          have hs := hGd.lru.seg
          rw [seg_app] at hs
          exact hs.2.2.1
        rw [hod] at d13
        have q0 : ((p : Int) != -1) = true := by simp
        have q1 : (0 : Int) ≤ p := by omega
        have q2 : (p : Int) < t'.np := by omega
        have HMr := Lib.hid hM
        have HGr := Lib.hid hGd
        have HER := Lib.hid hEn
        clear hc hfz hod hM hGd hEn hep
        go_wp2_with fail
        refine (HWH.out (t.ent p) wr KS.out.frm).mono ?_
        rintro o w3 ⟨rfl, hb⟩
        have S3 := Lib.hid (KS.out.far hb)
        have M3 := Lib.hid (HMr.out.below hb)
        clear hb c3 d0 d1 d2 d3 d4 d5 d6 d7 d8 d9 d10 d11 d13
        cases hgg : gg (t.ent p)
        · have S4 := Lib.hid (S3.out.stay hgg)
          go_wp2_with fail
          go_roundg R.length
          case measure => have := KL.out; simp at this; omega
          case rel => exact ⟨P ++ [p], R, rfl, rfl, S4.out⟩
        · have HGG := Lib.hid hgg
          clear hgg
          go_wp2_with fail
          refine (take_any p M3.out HGr.out hn hn2).mono ?_
          rintro o w4 ⟨y, rfl, hm4, hy, hf⟩
          rw [HENT.out]
          have KO4 := Lib.hid ((S3.out.own_take hf).alloc (.cells #[.int .i64 (t.ent p).x.pr, .bool (t.ent p).x.s6, .int .u64 (t.ent p).x.sh, .int .u64 (t.ent p).x.sl, .bool (t.ent p).x.d6, .int .u64 (t.ent p).x.dh, .int .u64 (t.ent p).x.dl, .int .i64 (t.ent p).x.sp, .int .i64 (t.ent p).x.dp, .int .i64 (t.ent p).host, .int .i64 (t.ent p).state, .int .i64 (t.ent p).till] 33))
          have HM5 := Lib.hid (hm4.alloc (.cells #[.int .i64 (t.ent p).x.pr, .bool (t.ent p).x.s6, .int .u64 (t.ent p).x.sh, .int .u64 (t.ent p).x.sl, .bool (t.ent p).x.d6, .int .u64 (t.ent p).x.dh, .int .u64 (t.ent p).x.dl, .int .i64 (t.ent p).x.sp, .int .i64 (t.ent p).x.dp, .int .i64 (t.ent p).host, .int .i64 (t.ent p).state, .int .i64 (t.ent p).till] 33))
          have HF5 := Lib.hid (hf.alloc (.cells #[.int .i64 (t.ent p).x.pr, .bool (t.ent p).x.s6, .int .u64 (t.ent p).x.sh, .int .u64 (t.ent p).x.sl, .bool (t.ent p).x.d6, .int .u64 (t.ent p).x.dh, .int .u64 (t.ent p).x.dl, .int .i64 (t.ent p).x.sp, .int .i64 (t.ent p).x.dp, .int .i64 (t.ent p).host, .int .i64 (t.ent p).state, .int .i64 (t.ent p).till] 33))
          have HYY := Lib.hid hy
          have HNE := Lib.hid (show ∀ j u, (t.ent p).cells.toList[j]? = some u → (w4.alloc (.cells #[.int .i64 (t.ent p).x.pr, .bool (t.ent p).x.s6, .int .u64 (t.ent p).x.sh, .int .u64 (t.ent p).x.sl, .bool (t.ent p).x.d6, .int .u64 (t.ent p).x.dh, .int .u64 (t.ent p).x.dl, .int .i64 (t.ent p).x.sp, .int .i64 (t.ent p).x.dp, .int .i64 (t.ent p).host, .int .i64 (t.ent p).state, .int .i64 (t.ent p).till] 33)).cell? ((⟨w4.heap.size, 0, none⟩ : Addr).add j) = some u from fun j u hu => by
            rw [Addr.add_lit, Nat.zero_add, (Blk.new w4 _ _).cell j]
            have h2 : (t.ent p).cells[j]? = some u := by simpa using hu
            exact h2)
          have hcl : ((P.map t.ent).filter gg).length ≤ 4095 := by
            have h1 := List.length_filter_le gg (P.map t.ent)
            have h2 := congrArg List.length KS.out.all
            simp at h1 h2
            omega
          have P1 := Lib.hid (show ((P.map t.ent).filter gg).length + 1 ≤ maxLen by unfold maxLen; omega)
          have P2 := Lib.hid (show (((P.map t.ent).filter gg).length + 1) * 96 ≤ 140737488355328 by omega)
          have P3 := Lib.hid (show w.heap.size ≤ (w4.alloc (.cells #[.int .i64 (t.ent p).x.pr, .bool (t.ent p).x.s6, .int .u64 (t.ent p).x.sh, .int .u64 (t.ent p).x.sl, .bool (t.ent p).x.d6, .int .u64 (t.ent p).x.dh, .int .u64 (t.ent p).x.dl, .int .i64 (t.ent p).x.sp, .int .i64 (t.ent p).x.dp, .int .i64 (t.ent p).host, .int .i64 (t.ent p).state, .int .i64 (t.ent p).till] 33)).heap.size from Nat.le_trans (Nat.le_trans S3.out.frm.size hf.size) (by simp))
          clear hm4 hf hy hcl
          unfold Ent.cells
          go_wp2_with (at_builtin; refine wpList_append_own _ rfl (.tmp 35) (.tmp 39) _ rfl w.heap.size 33 i0 _ 12 96 Try.underlying39 HI0.out HZ0.out HZ1.out HZ2.out rfl (by omega) _ ((P.map t.ent).filter gg).length (flat ((P.map t.ent).filter gg)) rfl KO4.out ⟨w4.heap.size, 0, none⟩ 1 1 (t.ent p).cells.toList rfl rfl HNE.out (one_el _) P1.out P2.out P3.out ?_; intro v' w' ho hg _; have S6 := Lib.hid (S3.out.gone HGG.out HGr.out HER.out HM5.out HYY.out HF5.out (show Own w' w.heap.size v' ((P.map t.ent).filter gg ++ [t.ent p]) by (have := ho; rw [← flat_snoc] at this; simpa [Own] using this)) hg); clear ho hg)
          go_roundg R.length
          case measure => have := KL.out; simp at this; omega
          case rel => exact ⟨P ++ [p], R, rfl, rfl, S6.out⟩
end Go.Proofs.Ytmlfpfmpoigfiaa.flowGo
