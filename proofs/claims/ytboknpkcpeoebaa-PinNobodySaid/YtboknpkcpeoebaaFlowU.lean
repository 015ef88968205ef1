/- Layer 27: all flows. -/
import Derived.Test.YtboknpkcpeoebaaFlowT
namespace Go.Proofs.Ytboknpkcpeoebaa.flowU
open Go.ChangeShapes Go.WideShapes Go.ChangeAt Go.RowKit
open Go.Proofs.Ytboknpkcpeoebaa.base Go.Proofs.Ytboknpkcpeoebaa.flowA Go.Proofs.Ytboknpkcpeoebaa.flowB Go.Proofs.Ytboknpkcpeoebaa.flowC Go.Proofs.Ytboknpkcpeoebaa.flowD Go.Proofs.Ytboknpkcpeoebaa.flowE Go.Proofs.Ytboknpkcpeoebaa.flowF Go.Proofs.Ytboknpkcpeoebaa.flowG Go.Proofs.Ytboknpkcpeoebaa.flowH Go.Proofs.Ytboknpkcpeoebaa.flowI Go.Proofs.Ytboknpkcpeoebaa.flowL Go.Proofs.Ytboknpkcpeoebaa.flowM Go.Proofs.Ytboknpkcpeoebaa.flowN Go.Proofs.Ytboknpkcpeoebaa.flowO Go.Proofs.Ytboknpkcpeoebaa.flowP Go.Proofs.Ytboknpkcpeoebaa.flowQ Go.Proofs.Ytboknpkcpeoebaa.flowR Go.Proofs.Ytboknpkcpeoebaa.flowS Go.Proofs.Ytboknpkcpeoebaa.flowT
set_option linter.unusedVariables false

/-- Entries, cell by cell. -/
def flat (l : List Ent) : List Value := l.flatMap fun e => e.cells.toList
theorem flat_len (l : List Ent) : (flat l).length = l.length * 12 := by
  induction l with
  | nil => rfl
  | cons e l ih =>
    show (e.cells.toList ++ flat l).length = _
    rw [List.length_append, ih]
    show 12 + l.length * 12 = (l.length + 1) * 12
    omega
theorem flat_snoc (l : List Ent) (e : Ent) : flat (l ++ [e]) = flat l ++ e.cells.toList := by
  unfold flat
  rw [List.flatMap_append]
  simp
theorem info_e : (Try.prog.info? 28).map (fun i => (i.zero, i.size, i.bytes)) = some (some (.agg zeroE.cells), 12, 96) := by kernel_rfl
theorem one_el (e : Ent) : ∀ u ∈ e.cells.toList, u.oneCell' = true := fun u hu => (Array.all_eq_true_iff_forall_mem.1 (one_e e)) u (by simpa using hu)
/-- A slice of entries of the call's own. -/
def Own (w : World) (B : Nat) (v : Value) (l : List Ent) : Prop := w.ownsRow B 28 12 v l.length (flat l)
theorem Own.nil (w : World) (B : Nat) : Own w B (.slice none 0 0) [] := World.ownsRow_nil w B _ 12
theorem Own.empty (w : World) (B : Nat) (hB : B ≤ w.heap.size) (T : TypeId) (hT : T = 28) : Own (w.alloc (.cells #[] T)) B (.slice (some ⟨w.heap.size, 0, none⟩) 0 0) [] := by
  subst hT
  exact World.ownsRow_made w #[] 0 hB (Nat.zero_le _) rfl
theorem Own.far {w w' : World} {B : Nat} {v : Value} {l : List Ent} (h : Own w B v l) (hb : ∀ k, v.ownBlock = some k → w'.heap[k]? = w.heap[k]?) : Own w' B v l := by
  refine ⟨h.1, ?_⟩
  rcases h.2 with h0 | ⟨g, cap, cur, e1, e2, e3, e4⟩
  · exact .inl h0
  · exact .inr ⟨g, cap, cur, e1, e2, (hb g (by rw [e1]; rfl)).trans e3, e4⟩
theorem Own.lt {w : World} {B : Nat} {v : Value} {l : List Ent} (h : Own w B v l) : ∀ k, v.ownBlock = some k → B ≤ k ∧ k < w.heap.size := World.ownsRow.lt h
theorem Own.alloc {w : World} {B : Nat} {v : Value} {l : List Ent} (h : Own w B v l) (o : Obj) : Own (w.alloc o) B v l := World.ownsRow.alloc h o
theorem Own.slice {w : World} {B : Nat} {v : Value} {l : List Ent} (h : Own w B v l) : ∃ A cap, v = .slice A l.length cap := by
  rcases h.2 with ⟨h0, h1⟩ | ⟨g, cap, cur, e1, _⟩
  · exact ⟨none, 0, by rw [h0, h1]⟩
  · exact ⟨_, cap, e1⟩
set_option maxHeartbeats 1000000 in
theorem all_mem {w : World} {ta r : Nat} {v : Value} {n : Nat} {seed : Int} {t : Tb Ent} {L F : List Nat} {C : Nat → List Nat} (h : MemF w ta r v n seed t) (g0 : GoodF n seed t L F C) (hn : 1 ≤ n) (hn2 : n ≤ 4096) :
    Calls Try.prog 32 #[.pointer (some ⟨ta, 0, none⟩)] w fun e w' => ∃ v', e = .returned v' ∧ Own w' w.heap.size v' (L.map t.ent) ∧ Below w.heap.size w w' := by
  obtain ⟨i0, hi0, hz0, hz1, hz2⟩ := info_parts info_e
  have HI0 := Lib.hid hi0
  have HZ0 := Lib.hid hz0
  have HZ1 := Lib.hid hz1
  have HZ2 := Lib.hid hz2
  have HG := Lib.hid g0
  have HM := Lib.hid h
  have HE := Lib.hid (flowI.empty_any h)
  have hlen : L.length ≤ 4096 := by
    have a := g0.perm.length_eq
    have b := g0.cap
    rw [List.length_append, List.length_range] at a
    omega
  clear h g0 hi0 hz0 hz1 hz2
  go_enter Try.func32, Try.ntmps32
  go_wp2_with fail
  refine (HE.out).mono ?_
  rintro e w1 ⟨rfl, hb⟩
  have B1 := Lib.hid hb
  clear hb HE
  by_cases h0 : (t.size : Int) = 0
  · rw [decide_eq_true h0]
    have hL : L = [] := by
      have := HG.out.size
      cases L with
      | nil => rfl
      | cons a L => simp at this; omega
    subst hL
    go_wp2_with fail
    go_ret
    exact ⟨_, rfl, Own.nil _ _, B1.out⟩
  · rw [decide_eq_false h0]
    have c6 := ((HM.out.below B1.out).alloc (.cells #[] 28)).cells.2.2.2.2.2.2.1
    have HNW := Lib.hid HG.out.lru.hd
    rw [HNW.out] at c6
    have OW := Lib.hid (Own.empty w1 w.heap.size B1.out.size 28 rfl)
    have B2 := Lib.hid (B1.out.alloc B1.out.size (.cells #[] 28))
    go_wp2_with fail
    go_loopg [3, 4] L.length (fun f out at' wr => ∃ A R : List Nat, L = A ++ R ∧ R.length = f ∧ at' = .int .i64 (headZ R (-1)) ∧ Own wr w.heap.size out (A.map t.ent) ∧ Below w.heap.size w wr)
    case atStart => exact ⟨[], L, rfl, rfl, rfl, OW.out, B2.out⟩
    case round =>
      obtain ⟨A, R, hAR, hlen2, rfl, how, hbel⟩ := hrel
      have KA := Lib.hid hAR
      have KL := Lib.hid hlen2
      have KO := Lib.hid how
      have KB := Lib.hid hbel
      clear hlen2 how hbel hAR
      cases R with
      | nil =>
        rw [show headZ ([] : List Nat) (-1) = -1 from rfl]
        have HLA := Lib.hid (show L = A by rw [KA.out, List.append_nil])
        go_wp2_with fail
        go_ret
        exact ⟨_, rfl, by rw [HLA.out]; exact KO.out, KB.out⟩
      | cons p R =>
        rw [show headZ (p :: R) (-1) = (p : Int) from rfl]
        have hp : p < t.np := HG.out.lt p (.inl (by rw [KA.out]; simp))
        have hMr := HM.out.below KB.out
        obtain ⟨g, cap, hv, g1, g2, hcp, hm, hc, hfz⟩ := hMr.place p hp
        unfold maxLen at hm
        subst hv
        have c3 : wr.cell? ⟨ta, 3, none⟩ = some (.slice (some ⟨g, 0, none⟩) t.np cap) := hMr.cells.2.2.2.1
        have d0 : wr.cell? ⟨g, p * 15, none⟩ = some (.int .i64 (t.ent p).x.pr) := hc 0 (by omega)
        have d1 : wr.cell? ⟨g, p * 15 + 1, none⟩ = some (.bool (t.ent p).x.s6) := hc 1 (by omega)
        have d2 : wr.cell? ⟨g, p * 15 + 2, none⟩ = some (.int .u64 (t.ent p).x.sh) := hc 2 (by omega)
        have d3 : wr.cell? ⟨g, p * 15 + 3, none⟩ = some (.int .u64 (t.ent p).x.sl) := hc 3 (by omega)
        have d4 : wr.cell? ⟨g, p * 15 + 4, none⟩ = some (.bool (t.ent p).x.d6) := hc 4 (by omega)
        have d5 : wr.cell? ⟨g, p * 15 + 5, none⟩ = some (.int .u64 (t.ent p).x.dh) := hc 5 (by omega)
        have d6 : wr.cell? ⟨g, p * 15 + 6, none⟩ = some (.int .u64 (t.ent p).x.dl) := hc 6 (by omega)
        have d7 : wr.cell? ⟨g, p * 15 + 7, none⟩ = some (.int .i64 (t.ent p).x.sp) := hc 7 (by omega)
        have d8 : wr.cell? ⟨g, p * 15 + 8, none⟩ = some (.int .i64 (t.ent p).x.dp) := hc 8 (by omega)
        have d9 : wr.cell? ⟨g, p * 15 + 9, none⟩ = some (.int .i64 (t.ent p).host) := hc 9 (by omega)
        have d10 : wr.cell? ⟨g, p * 15 + 10, none⟩ = some (.int .i64 (t.ent p).state) := hc 10 (by omega)
        have d11 : wr.cell? ⟨g, p * 15 + 11, none⟩ = some (.int .i64 (t.ent p).till) := hc 11 (by omega)
        have d13 : wr.cell? ⟨g, p * 15 + 13, none⟩ = some (.int .i64 (t.od p)) := hc 13 (by omega)
        have hod : t.od p = headZ R (-1) := by
          have hs := HG.out.lru.seg
          rw [KA.out, seg_app] at hs
          exact hs.2.2.1
        have HOD := Lib.hid hod
        have q0 : ((p : Int) != -1) = true := by simp
        have q1 : (0 : Int) ≤ p := by omega
        have q2 : (p : Int) < t.np := by omega
        have hlenA : (A.map t.ent).length + 1 ≤ 4096 := by
          have := congrArg List.length KA.out
          simp at this ⊢
          omega
        have KO2 := Lib.hid (KO.out.alloc (.cells #[.int .i64 (t.ent p).x.pr, .bool (t.ent p).x.s6, .int .u64 (t.ent p).x.sh, .int .u64 (t.ent p).x.sl, .bool (t.ent p).x.d6, .int .u64 (t.ent p).x.dh, .int .u64 (t.ent p).x.dl, .int .i64 (t.ent p).x.sp, .int .i64 (t.ent p).x.dp, .int .i64 (t.ent p).host, .int .i64 (t.ent p).state, .int .i64 (t.ent p).till] 28))
        have KB2 := Lib.hid (KB.out.alloc KB.out.size (.cells #[.int .i64 (t.ent p).x.pr, .bool (t.ent p).x.s6, .int .u64 (t.ent p).x.sh, .int .u64 (t.ent p).x.sl, .bool (t.ent p).x.d6, .int .u64 (t.ent p).x.dh, .int .u64 (t.ent p).x.dl, .int .i64 (t.ent p).x.sp, .int .i64 (t.ent p).x.dp, .int .i64 (t.ent p).host, .int .i64 (t.ent p).state, .int .i64 (t.ent p).till] 28))
        have KM2 := Lib.hid (hMr.alloc (.cells #[.int .i64 (t.ent p).x.pr, .bool (t.ent p).x.s6, .int .u64 (t.ent p).x.sh, .int .u64 (t.ent p).x.sl, .bool (t.ent p).x.d6, .int .u64 (t.ent p).x.dh, .int .u64 (t.ent p).x.dl, .int .i64 (t.ent p).x.sp, .int .i64 (t.ent p).x.dp, .int .i64 (t.ent p).host, .int .i64 (t.ent p).state, .int .i64 (t.ent p).till] 28))
        have HNE := Lib.hid (show ∀ j u, (t.ent p).cells.toList[j]? = some u → (wr.alloc (.cells #[.int .i64 (t.ent p).x.pr, .bool (t.ent p).x.s6, .int .u64 (t.ent p).x.sh, .int .u64 (t.ent p).x.sl, .bool (t.ent p).x.d6, .int .u64 (t.ent p).x.dh, .int .u64 (t.ent p).x.dl, .int .i64 (t.ent p).x.sp, .int .i64 (t.ent p).x.dp, .int .i64 (t.ent p).host, .int .i64 (t.ent p).state, .int .i64 (t.ent p).till] 28)).cell? ((⟨wr.heap.size, 0, none⟩ : Addr).add j) = some u from fun j u hu => by
          rw [Addr.add_lit, Nat.zero_add, (Blk.new wr _ _).cell j]
          have h2 : (t.ent p).cells[j]? = some u := by simpa using hu
          exact h2)
        have P1 := Lib.hid (show (A.map t.ent).length + 1 ≤ maxLen by unfold maxLen; omega)
        have P2 := Lib.hid (show ((A.map t.ent).length + 1) * 96 ≤ 140737488355328 by omega)
        have P3 := Lib.hid (show w.heap.size ≤ (wr.alloc (.cells #[.int .i64 (t.ent p).x.pr, .bool (t.ent p).x.s6, .int .u64 (t.ent p).x.sh, .int .u64 (t.ent p).x.sl, .bool (t.ent p).x.d6, .int .u64 (t.ent p).x.dh, .int .u64 (t.ent p).x.dl, .int .i64 (t.ent p).x.sp, .int .i64 (t.ent p).x.dp, .int .i64 (t.ent p).host, .int .i64 (t.ent p).state, .int .i64 (t.ent p).till] 28)).heap.size from KB2.out.size)
        have HP := Lib.hid hp
        clear hc hfz hod hMr hlenA d13
        go_wp2_with (at_builtin; refine wpList_append_own _ rfl (.tmp 22) (.tmp 31) _ rfl w.heap.size 28 i0 _ 12 96 Try.underlying55 HI0.out HZ0.out HZ1.out HZ2.out rfl (by omega) _ (A.map t.ent).length (flat (A.map t.ent)) rfl KO2.out ⟨wr.heap.size, 0, none⟩ 1 1 (t.ent p).cells.toList rfl rfl HNE.out (one_el _) P1.out P2.out P3.out ?_; intro v' w' ho hg _; have HO' := Lib.hid (show Own w' w.heap.size v' ((A ++ [p]).map t.ent) by (have := ho; rw [← flat_snoc] at this; simpa [Own] using this)); have HB' := Lib.hid (KB2.out.grown hg P3.out (fun k hk => (KO2.out.lt k hk).1)); have HMM := Lib.hid (HM.out.below HB'.out); have c3' := HMM.out.cells.2.2.2.1; have d13' := ((HMM.out.placeOf p HP.out).1 13 (by omega)).trans (show _ = some (Value.int .i64 (headZ R (-1))) from by rw [← HOD.out]; rfl); clear ho hg)
        go_roundg R.length
        case measure => have := KL.out; simp at this; omega
        case rel => exact ⟨A ++ [p], R, by rw [KA.out]; simp, rfl, rfl, HO'.out, HB'.out⟩
end Go.Proofs.Ytboknpkcpeoebaa.flowU
