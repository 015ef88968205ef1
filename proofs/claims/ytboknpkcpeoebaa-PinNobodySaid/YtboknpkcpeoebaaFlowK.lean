/- Layer 27: a place goes out of the order. -/
import Derived.Test.YtboknpkcpeoebaaFlowJ
namespace Go.Proofs.Ytboknpkcpeoebaa.flowK
open Go.ChangeShapes Go.WideShapes Go.ChangeAt Go.RowKit
open Go.Proofs.Ytboknpkcpeoebaa.base Go.Proofs.Ytboknpkcpeoebaa.flowA Go.Proofs.Ytboknpkcpeoebaa.flowB Go.Proofs.Ytboknpkcpeoebaa.flowC Go.Proofs.Ytboknpkcpeoebaa.flowD Go.Proofs.Ytboknpkcpeoebaa.flowE Go.Proofs.Ytboknpkcpeoebaa.flowF Go.Proofs.Ytboknpkcpeoebaa.flowG Go.Proofs.Ytboknpkcpeoebaa.flowH Go.Proofs.Ytboknpkcpeoebaa.flowI
set_option linter.unusedVariables false

set_option maxHeartbeats 1000000 in
theorem unlink_any {w : World} {ta r : Nat} {v : Value} {n : Nat} {seed : Int} {t : Tb Ent} (a : Nat) (h : MemF w ta r v n seed t) (ha : a < t.np) (hq : t.nw a = -1 ∨ ∃ q : Nat, t.nw a = (q : Int) ∧ q < t.np) (hp : t.od a = -1 ∨ ∃ p : Nat, t.od a = (p : Int) ∧ p < t.np) :
    Calls Try.prog 61 #[.pointer (some ⟨ta, 0, none⟩), .int .i64 a] w fun e w' => e = .returned (.tuple #[]) ∧ MemF w' ta r v n seed (unlinkT t a) ∧ Frm ta r v w w' := by
  obtain ⟨g, cap, hv, g1, g2, hc, hm, hcl, hfz⟩ := h.place a ha
  subst hv
  obtain ⟨c0, c1, c2, c3, c4, c5, c6, c7, cf⟩ := h.cells
  have f6 := cf 6
  have f7 := cf 7
  have d12 : w.cell? ⟨g, a * 15 + 12, none⟩ = some (.int .i64 (t.nw a)) := hcl 12 (by omega)
  have d13 : w.cell? ⟨g, a * 15 + 13, none⟩ = some (.int .i64 (t.od a)) := hcl 13 (by omega)
  have HM := Lib.hid h
  have HB := Lib.hid (Frm.refl ta r (.slice (some ⟨g, 0, none⟩) t.np cap) w)
  have HT := Lib.hid (show unlinkT t a = { t with nw := outNw t.nw (t.nw a) (t.od a), od := outOd t.od (t.nw a) (t.od a), newest := if t.nw a = -1 then t.od a else t.newest, oldest := if t.od a = -1 then t.nw a else t.oldest } from rfl)
  have HO := Lib.hid (show ∀ q : Nat, q < t.np → w.cell? ⟨g, q * 15 + 12, none⟩ = some (.int .i64 (t.nw q)) ∧ w.cell? ⟨g, q * 15 + 13, none⟩ = some (.int .i64 (t.od q)) ∧ w.frozen? ⟨g, q * 15 + 12, none⟩ = false ∧ w.frozen? ⟨g, q * 15 + 13, none⟩ = false from fun q hq => ⟨(h.placeOf q hq).1 12 (by omega), (h.placeOf q hq).1 13 (by omega), hfz _, hfz _⟩)
  clear h hfz hcl cf c0 c1 c2 c4 c5
  unfold maxLen at hm
  rw [HT.out]
  unfold outNw outOd
  rcases hq with e | ⟨q, e, hq⟩ <;> rcases hp with e2 | ⟨p, e2, hp⟩
  · rw [if_pos e, if_pos e2, if_pos e2, if_pos e, e, e2]
    rw [e] at d12
    rw [e2] at d13
    clear HO
    go_enter Try.func61, Try.ntmps61
    go_wp2_with fail
    go_region
    go_wp2_with fail
    exact bodyPost_end (v := .tuple #[]) (by simp [results, Try.results61, go_sem]) rfl ⟨rfl, ((HM.out.setNewest (-1)).setOldest (-1)).drew, ((HB.out.setCell (p := ⟨ta, 6, none⟩) (.inl rfl) _).setCell (p := ⟨ta, 7, none⟩) (.inl rfl) _).drew⟩
  · have m2 : ¬ t.od a = -1 := by omega
    rw [if_pos e, if_neg m2, if_neg m2, if_pos e, e, e2]
    rw [e] at d12
    rw [e2] at d13
    obtain ⟨p12, p13, pf12, pf13⟩ := HO.out p hp
    have n2 : ((p : Int) == -1) = false := by simp
    clear HO
    go_enter Try.func61, Try.ntmps61
    go_wp2_with fail
    go_region
    go_wp2_with fail
    exact bodyPost_end (v := .tuple #[]) (by simp [results, Try.results61, go_sem]) rfl ⟨rfl, ((HM.out.setNewest p).setNw g cap p hp rfl (-1)).drew, ((HB.out.setCell (p := ⟨ta, 6, none⟩) (.inl rfl) _).setCell (p := ⟨g, p * 15 + 12, none⟩) (.inr (.inr (.inl rfl))) _).drew⟩
  · have m1 : ¬ t.nw a = -1 := by omega
    rw [if_neg m1, if_pos e2, if_pos e2, if_neg m1, e, e2]
    rw [e] at d12
    rw [e2] at d13
    obtain ⟨q12, q13, qf12, qf13⟩ := HO.out q hq
    have n1 : ((q : Int) == -1) = false := by simp
    clear HO
    go_enter Try.func61, Try.ntmps61
    go_wp2_with fail
    go_region
    go_wp2_with fail
    exact bodyPost_end (v := .tuple #[]) (by simp [results, Try.results61, go_sem]) rfl ⟨rfl, ((HM.out.setOd g cap q hq rfl (-1)).setOldest q).drew, ((HB.out.setCell (p := ⟨g, q * 15 + 13, none⟩) (.inr (.inr (.inl rfl))) _).setCell (p := ⟨ta, 7, none⟩) (.inl rfl) _).drew⟩
  · have m1 : ¬ t.nw a = -1 := by omega
    have m2 : ¬ t.od a = -1 := by omega
    rw [if_neg m1, if_neg m2, if_neg m1, if_neg m2, e, e2]
    rw [e] at d12
    rw [e2] at d13
    obtain ⟨p12, p13, pf12, pf13⟩ := HO.out p hp
    have n2 : ((p : Int) == -1) = false := by simp
    obtain ⟨q12, q13, qf12, qf13⟩ := HO.out q hq
    have n1 : ((q : Int) == -1) = false := by simp
    have M1 := Lib.hid (HM.out.setOd g cap q hq rfl (p : Int))
    have d5 := (M1.out.placeOf p hp).1 12 (by omega)
    have d6 := (M1.out.placeOf p hp).2 (p * 15 + 12)
    have d7 : (w.setCell ⟨g, q * 15 + 13, none⟩ (.int .i64 p)).cell? ⟨g, p * 15 + 12, none⟩ = some (.int .i64 (t.nw p)) := d5
    clear d5
    clear HO
    go_enter Try.func61, Try.ntmps61
    go_wp2_with fail
    go_region
    go_wp2_with fail
    exact bodyPost_end (v := .tuple #[]) (by simp [results, Try.results61, go_sem]) rfl ⟨rfl, (M1.out.setNw g cap p hp rfl q).drew, ((HB.out.setCell (p := ⟨g, q * 15 + 13, none⟩) (.inr (.inr (.inl rfl))) _).setCell (p := ⟨g, p * 15 + 12, none⟩) (.inr (.inr (.inl rfl))) _).drew⟩
end Go.Proofs.Ytboknpkcpeoebaa.flowK
