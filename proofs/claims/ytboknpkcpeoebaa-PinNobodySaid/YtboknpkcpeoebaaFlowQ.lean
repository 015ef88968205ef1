/- Layer 27: a place that is free, as the program takes it. -/
import Derived.Test.YtboknpkcpeoebaaFlowP
namespace Go.Proofs.Ytboknpkcpeoebaa.flowQ
open Go.ChangeShapes Go.WideShapes Go.ChangeAt Go.RowKit
open Go.Proofs.Ytboknpkcpeoebaa.base Go.Proofs.Ytboknpkcpeoebaa.flowA Go.Proofs.Ytboknpkcpeoebaa.flowB Go.Proofs.Ytboknpkcpeoebaa.flowC Go.Proofs.Ytboknpkcpeoebaa.flowD Go.Proofs.Ytboknpkcpeoebaa.flowE Go.Proofs.Ytboknpkcpeoebaa.flowF Go.Proofs.Ytboknpkcpeoebaa.flowG Go.Proofs.Ytboknpkcpeoebaa.flowH Go.Proofs.Ytboknpkcpeoebaa.flowI Go.Proofs.Ytboknpkcpeoebaa.flowL Go.Proofs.Ytboknpkcpeoebaa.flowM Go.Proofs.Ytboknpkcpeoebaa.flowN Go.Proofs.Ytboknpkcpeoebaa.flowO Go.Proofs.Ytboknpkcpeoebaa.flowP
set_option linter.unusedVariables false

theorem room_free {w : World} {ta r : Nat} {v : Value} {n f : Nat} {seed : Int} {t : Tb Ent} (h : MemF w ta r v n seed t) (hf : t.free = (f : Int)) (hp : f < t.np) :
    Calls Try.prog 47 #[.pointer (some ⟨ta, 0, none⟩)] w fun e w' => e = .returned (.int .i64 f) ∧ MemF w' ta r v n seed { t with free := t.bh f } ∧ Frm ta r v w w' := by
  obtain ⟨g, cap, hv, g1, g2, hc, hm, hcl, hfz⟩ := h.place f hp
  subst hv
  unfold maxLen at hm
  obtain ⟨c0, c1, c2, c3, c4, c5, c6, c7, cf⟩ := h.cells
  rw [hf] at c5
  have f5 := cf 5
  have d14 : w.cell? ⟨g, f * 15 + 14, none⟩ = some (.int .i64 (t.bh f)) := hcl 14 (by omega)
  have HM := Lib.hid (h.setFree (t.bh f))
  have HB := Lib.hid ((Frm.refl ta r (.slice (some ⟨g, 0, none⟩) t.np cap) w).setCell (p := ⟨ta, 5, none⟩) (.inl rfl) (.int .i64 (t.bh f)))
  have q0 : ((f : Int) == -1) = false := by simp
  have q1 : (0 : Int) ≤ f := by omega
  have q2 : (f : Int) < t.np := by omega
  clear h hcl hfz cf c0 c1 c2 c4 c6 c7
  go_enter Try.func47, Try.ntmps47
  go_wp2_with fail
  go_ret
  exact ⟨rfl, HM.out, HB.out⟩
set_option maxHeartbeats 1000000 in
theorem room_new {w : World} {ta r : Nat} {v : Value} {n : Nat} {seed : Int} {t : Tb Ent} (h : MemF w ta r v n seed t) (hf : t.free = -1) (hp : t.np ≤ 4096) :
    Calls Try.prog 47 #[.pointer (some ⟨ta, 0, none⟩)] w fun e w' => e = .returned (.int .i64 t.np) ∧ ∃ v', MemF w' ta r v' n seed (moreT t) ∧ Frm ta r v w w' ∧ ∀ g, v'.ownBlock = some g → v.ownBlock = some g ∨ w.heap.size ≤ g := by
  obtain ⟨i0, hi0, hz0, hz1, hz2⟩ := info_parts info_p
  have HI0 := Lib.hid hi0
  have HZ0 := Lib.hid hz0
  have HZ1 := Lib.hid hz1
  have HZ2 := Lib.hid hz2
  obtain ⟨w1, hw1⟩ : ∃ w1, w1 = w.alloc (.cells (cellsOf zeroE 0 0 0) 98) := ⟨_, rfl⟩
  have h1 : MemF w1 ta r v n seed t := hw1 ▸ h.alloc _
  have hk1 : Blk w1 w.heap.size 98 (cellsOf zeroE 0 0 0) := hw1 ▸ Blk.new w _ _
  have hb1 : Frm ta r v w w1 := hw1 ▸ (Frm.refl ta r v w).alloc _
  obtain ⟨xs, ho, hx, hl⟩ := own_of h1 0 (fun _ _ => Nat.zero_le _)
  obtain ⟨c0, c1, c2, c3, c4, c5, c6, c7, cf⟩ := h.cells
  rw [hf] at c5
  have c3' := h1.cells.2.2.2.1
  have HO := Lib.hid ho
  have HX := Lib.hid hx
  have HL := Lib.hid hl
  have HM := Lib.hid h1
  have HB := Lib.hid hb1
  have HW1 := Lib.hid hw1
  have HNE := Lib.hid (show ∀ j u, (cellsOf zeroE 0 0 0).toList[j]? = some u → w1.cell? ((⟨w.heap.size, 0, none⟩ : Addr).add j) = some u from fun j u hu => by
    rw [Addr.add_lit, Nat.zero_add, hk1.cell j]
    simpa using hu)
  have ONE := Lib.hid (show ∀ u ∈ (cellsOf zeroE 0 0 0).toList, u.oneCell' = true from by
    intro u hu
    have := (Array.all_eq_true_iff_forall_mem.1 (one_p zeroE 0 0 0)) u (by simpa using hu)
    exact this)
  have P1 := Lib.hid (show t.np + 1 ≤ maxLen by unfold maxLen; omega)
  have P2 := Lib.hid (show (t.np + 1) * 120 ≤ 140737488355328 by omega)
  have P3 := Lib.hid (show 0 ≤ w1.heap.size from Nat.zero_le _)
  have HSZ := Lib.hid hb1.size
  subst hw1
  clear HW1
  clear h h1 hk1 hb1 ho hx hl hi0 hz0 hz1 hz2 cf c0 c1 c2 c4 c6 c7 c3'
  go_enter Try.func47, Try.ntmps47
  go_wp2_with (at_builtin; refine wpList_append_new _ rfl (.tmp 14) (.tmp 16) _ rfl 0 98 i0 _ 15 120 Try.underlying94 HI0.out HZ0.out HZ1.out HZ2.out rfl (by omega) v t.np xs rfl HO.out ⟨w.heap.size, 0, none⟩ 1 1 (cellsOf zeroE 0 0 0).toList rfl (Nat.le_refl 1) rfl HNE.out ONE.out P1.out P2.out P3.out ?_; intro v' w' ho hg hgg; obtain ⟨hm, _, ⟨k3, f3⟩, g', cap', hv', hc1, hc2⟩ := mem_more HM.out HX.out HL.out ho hg; subst hv'; have HMM := Lib.hid hm; have HGG := Lib.hid (show ∀ g, Value.ownBlock (.slice (some ⟨g', 0, none⟩) (t.np + 1) cap') = some g → v.ownBlock = some g ∨ w.heap.size ≤ g from fun g e => (hgg g e).imp id (Nat.le_trans HSZ.out)); have HBB := Lib.hid ((HB.out.grown hg).setCell (p := ⟨ta, 3, none⟩) (.inl rfl) (.slice (some ⟨g', 0, none⟩) (t.np + 1) cap')); clear ho hg hm hgg)
  go_ret
  exact ⟨by simp, _, HMM.out, HBB.out, HGG.out⟩
end Go.Proofs.Ytboknpkcpeoebaa.flowQ
