/- Layer 27: a place comes into the order. -/
import Derived.Test.YtboknpkcpeoebaaFlowI
namespace Go.Proofs.Ytboknpkcpeoebaa.flowJ
open Go.ChangeShapes Go.WideShapes Go.ChangeAt Go.RowKit
open Go.Proofs.Ytboknpkcpeoebaa.base Go.Proofs.Ytboknpkcpeoebaa.flowA Go.Proofs.Ytboknpkcpeoebaa.flowB Go.Proofs.Ytboknpkcpeoebaa.flowC Go.Proofs.Ytboknpkcpeoebaa.flowD Go.Proofs.Ytboknpkcpeoebaa.flowE Go.Proofs.Ytboknpkcpeoebaa.flowF Go.Proofs.Ytboknpkcpeoebaa.flowG Go.Proofs.Ytboknpkcpeoebaa.flowH Go.Proofs.Ytboknpkcpeoebaa.flowI
set_option linter.unusedVariables false

theorem _root_.Go.Proofs.Ytboknpkcpeoebaa.flowH.MemF.placeOf {w : World} {ta r n g m cap : Nat} {seed : Int} {t : Tb Ent} (h : MemF w ta r (.slice (some ⟨g, 0, none⟩) m cap) n seed t) (p : Nat) (hp : p < t.np) :
    (∀ j, j < 15 → w.cell? ⟨g, p * 15 + j, none⟩ = (cellsOf (t.ent p) (t.nw p) (t.od p) (t.bh p))[j]?) ∧ ∀ j, w.frozen? ⟨g, j, none⟩ = false := by
  obtain ⟨g2, cap2, hv, _, _, _, _, h1, h2⟩ := h.place p hp
  have e : g2 = g := by injection hv with a _ _; injection a with a; injection a with a; exact a.symm
  subst e
  exact ⟨h1, h2⟩
set_option maxHeartbeats 1000000 in
theorem link_any {w : World} {ta r : Nat} {v : Value} {n : Nat} {seed : Int} {t : Tb Ent} (a : Nat) (h : MemF w ta r v n seed t) (ha : a < t.np) (hq : t.newest = -1 ∨ ∃ q : Nat, t.newest = (q : Int) ∧ q < t.np) :
    Calls Try.prog 49 #[.pointer (some ⟨ta, 0, none⟩), .int .i64 a] w fun e w' => e = .returned (.tuple #[]) ∧ MemF w' ta r v n seed (linkT t a) ∧ Frm ta r v w w' := by
  obtain ⟨g, cap, hv, g1, g2, hc, hm, hcl, hfz⟩ := h.place a ha
  subst hv
  obtain ⟨c0, c1, c2, c3, c4, c5, c6, c7, cf⟩ := h.cells
  have f6 := cf 6
  have f7 := cf 7
  have p12 := hfz (a * 15 + 12)
  have p13 := hfz (a * 15 + 13)
  have d12 : w.cell? ⟨g, a * 15 + 12, none⟩ = some (.int .i64 (t.nw a)) := hcl 12 (by omega)
  have d13 : w.cell? ⟨g, a * 15 + 13, none⟩ = some (.int .i64 (t.od a)) := hcl 13 (by omega)
  have HM := Lib.hid h
  have HP := Lib.hid hfz
  clear h hfz hcl cf c0 c1 c2 c4 c5
  have M1 := Lib.hid ((HM.out.setNw g cap a ha rfl (-1)).setOd g cap a ha rfl t.newest)
  have B1 := Lib.hid (((Frm.refl ta r (.slice (some ⟨g, 0, none⟩) t.np cap) w).setCell (p := ⟨g, a * 15 + 12, none⟩) (.inr (.inr (.inl rfl))) (.int .i64 (-1))).setCell (p := ⟨g, a * 15 + 13, none⟩) (.inr (.inr (.inl rfl))) (.int .i64 t.newest))
  have HU := Lib.hid (show t.newest = -1 → linkT t a = { t with nw := updF t.nw a (-1), od := updF t.od a t.newest, oldest := a, newest := a } from fun e => if_pos e)
  have HV := Lib.hid (show ∀ q : Nat, t.newest = (q : Int) → linkT t a = { t with nw := updF (updF t.nw a (-1)) q a, od := updF t.od a t.newest, newest := a } from fun q e => by unfold linkT; rw [if_neg (by omega), e]; rfl)
  unfold maxLen at hm
  rcases hq with e | ⟨q, e, hq⟩
  · rw [HU.out e]
    rw [e] at c6 M1 B1 ⊢
    clear HU HV
    go_enter Try.func49, Try.ntmps49
    go_wp2_with fail
    go_region
    go_wp2_with fail
    exact bodyPost_end (v := .tuple #[]) (by simp [results, Try.results49, go_sem]) rfl ⟨rfl, ((M1.out.setOldest a).setNewest a).drew, ((B1.out.setCell (p := ⟨ta, 7, none⟩) (.inl rfl) _).setCell (p := ⟨ta, 6, none⟩) (.inl rfl) _).drew⟩
  · rw [HV.out q e]
    rw [e] at c6 M1 B1 ⊢
    clear HU HV
    have d3 := M1.out.placeOf q hq
    have d4 : ((w.setCell ⟨g, a * 15 + 12, none⟩ (.int .i64 (-1))).setCell ⟨g, a * 15 + 13, none⟩ (.int .i64 q)).cell? ⟨g, q * 15 + 12, none⟩ = some (.int .i64 (updF t.nw a (-1) q)) := d3.1 12 (by omega)
    have d5 := d3.2 (q * 15 + 12)
    clear d3
    have q0 : ((q : Int) == -1) = false := by simp
    go_enter Try.func49, Try.ntmps49
    go_wp2_with fail
    go_region
    go_wp2_with fail
    go_region
    go_wp2_with fail
    exact bodyPost_end (v := .tuple #[]) (by simp [results, Try.results49, go_sem]) rfl ⟨rfl, ((M1.out.setNw g cap q hq rfl a).setNewest a).drew.drew, ((B1.out.setCell (p := ⟨g, q * 15 + 12, none⟩) (.inr (.inr (.inl rfl))) _).setCell (p := ⟨ta, 6, none⟩) (.inl rfl) _).drew.drew⟩
end Go.Proofs.Ytboknpkcpeoebaa.flowJ
