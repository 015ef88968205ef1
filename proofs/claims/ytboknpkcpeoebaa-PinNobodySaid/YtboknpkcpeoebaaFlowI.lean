/- Layer 27: whether a table of flows is empty, how many there are, how many there may be. -/
import Derived.Test.YtboknpkcpeoebaaFlowH
namespace Go.Proofs.Ytboknpkcpeoebaa.flowI
open Go.ChangeShapes Go.WideShapes Go.ChangeAt Go.RowKit
open Go.Proofs.Ytboknpkcpeoebaa.base Go.Proofs.Ytboknpkcpeoebaa.flowA Go.Proofs.Ytboknpkcpeoebaa.flowB Go.Proofs.Ytboknpkcpeoebaa.flowC Go.Proofs.Ytboknpkcpeoebaa.flowD Go.Proofs.Ytboknpkcpeoebaa.flowE Go.Proofs.Ytboknpkcpeoebaa.flowF Go.Proofs.Ytboknpkcpeoebaa.flowG Go.Proofs.Ytboknpkcpeoebaa.flowH
set_option linter.unusedVariables false

/-- Nothing but a table's own blocks has changed. -/
structure Frm (ta r : Nat) (v : Value) (w w' : World) : Prop where
  os : w'.os = w.os
  tape : w'.tape = w.tape
  output : w'.output = w.output
  size : w.heap.size ≤ w'.heap.size
  block : ∀ k, k < w.heap.size → k ≠ ta → k ≠ r → some k ≠ v.ownBlock → w'.heap[k]? = w.heap[k]?
theorem Frm.refl (ta r : Nat) (v : Value) (w : World) : Frm ta r v w w := ⟨rfl, rfl, rfl, Nat.le_refl _, fun _ _ _ _ _ => rfl⟩
theorem Frm.trans {ta r : Nat} {v v2 : Value} {a b c : World} (h : Frm ta r v a b) (h2 : Frm ta r v2 b c) (hv : ∀ g, v2.ownBlock = some g → v.ownBlock = some g ∨ a.heap.size ≤ g) : Frm ta r v a c :=
  ⟨h2.os.trans h.os, h2.tape.trans h.tape, h2.output.trans h.output, Nat.le_trans h.size h2.size, fun k h1 h3 h4 h5 => (h2.block k (Nat.lt_of_lt_of_le h1 h.size) h3 h4 (fun e => by
    rcases hv k e.symm with e2 | e2
    · exact h5 e2.symm
    · omega)).trans (h.block k h1 h3 h4 h5)⟩
theorem Frm.then {ta r : Nat} {v : Value} {a b c : World} (h : Frm ta r v a b) (h2 : Frm ta r v b c) : Frm ta r v a c := h.trans h2 fun g e => .inl e
theorem Frm.of_below {ta r : Nat} {v : Value} {w w' : World} (h : Below w.heap.size w w') : Frm ta r v w w' := ⟨h.os, h.tape, h.output, h.size, fun k hk _ _ _ => h.block k hk⟩
theorem Frm.blk {ta r : Nat} {v : Value} {w w' : World} (h : Frm ta r v w w') {k : Nat} {T : TypeId} {cs : Array Value} (hb : Blk w k T cs) (h1 : k ≠ ta) (h2 : k ≠ r) (h3 : some k ≠ v.ownBlock) : Blk w' k T cs := (h.block k hb.lt h1 h2 h3).trans hb
theorem Frm.drew {ta r : Nat} {v : Value} {w w' : World} (h : Frm ta r v w w') : Frm ta r v w w'.drew := ⟨h.os, h.tape, h.output, h.size, h.block⟩
theorem Frm.alloc {ta r : Nat} {v : Value} {w w' : World} (h : Frm ta r v w w') (o : Obj) : Frm ta r v w (w'.alloc o) := h.then (Frm.of_below ((Below.refl w'.heap.size w').alloc (Nat.le_refl _) o))
theorem Frm.setCell {ta r : Nat} {v : Value} {w w' : World} (h : Frm ta r v w w') {p : Addr} (hp : p.block = ta ∨ p.block = r ∨ some p.block = v.ownBlock ∨ w.heap.size ≤ p.block) (x : Value) : Frm ta r v w (w'.setCell p x) := by
  have hs : (w'.setCell p x).heap.size = w'.heap.size := by simp
  refine ⟨h.os, h.tape, h.output, by rw [hs]; exact h.size, fun k h1 h3 h4 h5 => ?_⟩
  have hne : k ≠ p.block := by
    intro e
    rcases hp with a | a | a | a
    · exact h3 (e.trans a)
    · exact h4 (e.trans a)
    · exact h5 (e ▸ a)
    · omega
  have hb := ((Below.refl (k + 1) w').block k (by omega))
  refine Eq.trans ?_ (h.block k h1 h3 h4 h5)
  simp [World.setCell, Array.getElem?_modify, Ne.symm hne]
theorem Frm.below {ta r B : Nat} {v : Value} {w w' : World} (h : Frm ta r v w w') (h1 : B ≤ ta) (h2 : B ≤ r) (h3 : ∀ g, v.ownBlock = some g → B ≤ g) (hs : B ≤ w.heap.size) : Below B w w' :=
  ⟨h.os, h.tape, h.output, h.size, fun k hk => h.block k (Nat.lt_of_lt_of_le hk hs) (by omega) (by omega) (fun e => by have := h3 k e.symm; omega)⟩
theorem Frm.grown {ta r : Nat} {v : Value} {w w' w2 : World} (h : Frm ta r v w w') (hg : w'.grownBy w2 v.ownBlock) : Frm ta r v w w2 :=
  ⟨hg.os.trans h.os, hg.tape.trans h.tape, hg.output.trans h.output, Nat.le_trans h.size hg.size, fun k h1 h3 h4 h5 => (hg.block k (Nat.lt_of_lt_of_le h1 h.size) h5).trans (h.block k h1 h3 h4 h5)⟩
theorem Frm.setCells {ta r : Nat} {v : Value} {w : World} {g : Nat} (hp : g = ta ∨ g = r ∨ some g = v.ownBlock ∨ w.heap.size ≤ g) : ∀ (l : List Value) (w' : World) (o : Nat), Frm ta r v w w' → Frm ta r v w (w'.setCells g o l)
  | [], _, _, h => h
  | x :: l, w', o, h => Frm.setCells hp l _ _ (h.setCell (p := ⟨g, o, none⟩) hp x)
theorem empty_nil (w : World) : Calls Try.prog 56 #[.pointer none] w fun e w' => e = .returned (.bool true) ∧ Below w.heap.size w w' := by
  have HB := Lib.hid (Below.refl w.heap.size w)
  go_enter Try.func56, Try.ntmps56
  go_wp2_with fail
  go_ret
  first | exact ⟨rfl, HB.out⟩ | exact ⟨rfl, HB.out.drew⟩ | exact ⟨rfl, HB.out.drew.drew⟩
theorem empty_any {w : World} {ta r : Nat} {v : Value} {n : Nat} {seed : Int} {t : Tb Ent} (h : MemF w ta r v n seed t) : Calls Try.prog 56 #[.pointer (some ⟨ta, 0, none⟩)] w fun e w' => e = .returned (.bool (decide ((t.size : Int) = 0))) ∧ Below w.heap.size w w' := by
  have HB := Lib.hid (Below.refl w.heap.size w)
  obtain ⟨_, _, c2, _⟩ := h.cells
  clear h
  go_enter Try.func56, Try.ntmps56
  go_wp2_with fail
  go_ret
  first | exact ⟨rfl, HB.out⟩ | exact ⟨rfl, HB.out.drew⟩ | exact ⟨rfl, HB.out.drew.drew⟩
theorem len_nil (w : World) : Calls Try.prog 44 #[.pointer none] w fun e w' => e = .returned (.int .i64 0) ∧ Below w.heap.size w w' := by
  have HE := Lib.hid (empty_nil w)
  go_enter Try.func44, Try.ntmps44
  go_wp2_with fail
  refine (HE.out).mono ?_
  rintro e w9 ⟨rfl, hb⟩
  have HB := Lib.hid hb
  clear hb
  go_wp2_with fail
  go_ret
  first | exact ⟨rfl, HB.out⟩ | exact ⟨rfl, HB.out.drew⟩ | exact ⟨rfl, HB.out.drew.drew⟩
theorem len_any {w : World} {ta r : Nat} {v : Value} {n : Nat} {seed : Int} {t : Tb Ent} (h : MemF w ta r v n seed t) : Calls Try.prog 44 #[.pointer (some ⟨ta, 0, none⟩)] w fun e w' => e = .returned (.int .i64 t.size) ∧ Below w.heap.size w w' := by
  have HE := Lib.hid (empty_any h)
  have HM := Lib.hid h
  clear h
  go_enter Try.func44, Try.ntmps44
  go_wp2_with fail
  refine (HE.out).mono ?_
  rintro e w9 ⟨rfl, hb⟩
  have HB := Lib.hid hb
  obtain ⟨_, _, c2, _⟩ := (HM.out.below hb).cells
  clear hb
  by_cases h0 : (t.size : Int) = 0
  · rw [decide_eq_true h0]
    go_wp2_with fail
    go_ret
    rw [h0]
    first | exact ⟨rfl, HB.out⟩ | exact ⟨rfl, HB.out.drew⟩ | exact ⟨rfl, HB.out.drew.drew⟩
  · rw [decide_eq_false h0]
    go_wp2_with fail
    go_ret
    first | exact ⟨rfl, HB.out⟩ | exact ⟨rfl, HB.out.drew⟩ | exact ⟨rfl, HB.out.drew.drew⟩
end Go.Proofs.Ytboknpkcpeoebaa.flowI
