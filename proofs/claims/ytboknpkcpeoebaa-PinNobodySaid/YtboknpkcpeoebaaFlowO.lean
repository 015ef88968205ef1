/- Layer 27: a whole place, a whole entry, written at once. -/
import Derived.Test.YtboknpkcpeoebaaFlowN
import Derived.Deep.MidRow
namespace Go.Proofs.Ytboknpkcpeoebaa.flowO
open Go.ChangeShapes Go.WideShapes Go.ChangeAt Go.RowKit
open Go.Proofs.Ytboknpkcpeoebaa.base Go.Proofs.Ytboknpkcpeoebaa.flowA Go.Proofs.Ytboknpkcpeoebaa.flowB Go.Proofs.Ytboknpkcpeoebaa.flowC Go.Proofs.Ytboknpkcpeoebaa.flowD Go.Proofs.Ytboknpkcpeoebaa.flowE Go.Proofs.Ytboknpkcpeoebaa.flowF Go.Proofs.Ytboknpkcpeoebaa.flowG Go.Proofs.Ytboknpkcpeoebaa.flowH Go.Proofs.Ytboknpkcpeoebaa.flowL Go.Proofs.Ytboknpkcpeoebaa.flowM Go.Proofs.Ytboknpkcpeoebaa.flowN
set_option linter.unusedVariables false

/-- Values written side by side. -/
def setL : Array Value → Nat → List Value → Array Value
  | cs, _, [] => cs
  | cs, o, v :: l => setL (cs.setIfInBounds o v) (o + 1) l
theorem setL_size : ∀ (l : List Value) (cs : Array Value) (o : Nat), (setL cs o l).size = cs.size
  | [], _, _ => rfl
  | v :: l, cs, o => by rw [setL, setL_size l]; simp
theorem setL_out : ∀ (l : List Value) (cs : Array Value) (o i : Nat), (i < o ∨ o + l.length ≤ i) → (setL cs o l)[i]? = cs[i]?
  | [], _, _, _, _ => rfl
  | v :: l, cs, o, i, h => by
    rw [setL, setL_out l _ _ _ (by simp at h; omega), Array.getElem?_setIfInBounds, if_neg (by simp at h; omega)]
theorem setL_in : ∀ (l : List Value) (cs : Array Value) (o j : Nat), o + l.length ≤ cs.size → j < l.length → (setL cs o l)[o + j]? = l[j]?
  | [], _, _, _, _, h => by simp at h
  | v :: l, cs, o, 0, h, _ => by
    rw [setL, setL_out l _ _ _ (by omega), Nat.add_zero, Array.getElem?_setIfInBounds, if_pos rfl, if_pos (by simp at h; omega)]
    rfl
  | v :: l, cs, o, j + 1, h, hj => by
    rw [setL, show o + (j + 1) = o + 1 + j by omega, setL_in l _ _ _ (by simp at h ⊢; omega) (by simpa using hj)]
    rfl
theorem blk_setCells {g : Nat} {T : TypeId} : ∀ (l : List Value) (w : World) (cs : Array Value) (o : Nat), Blk w g T cs → Blk (w.setCells g o l) g T (setL cs o l)
  | [], _, _, _, h => h
  | v :: l, w, cs, o, h => blk_setCells l _ _ _ (h.set_ o v)
theorem blk_setCells_far {g k : Nat} {T : TypeId} (hk : k ≠ g) {cs : Array Value} : ∀ (l : List Value) (w : World) (o : Nat), Blk w k T cs → Blk (w.setCells g o l) k T cs
  | [], _, _, h => h
  | v :: l, w, o, h => blk_setCells_far hk l _ _ (h.far (p := ⟨g, o, none⟩) hk v)
theorem below_setCells {B g : Nat} {a : World} (hg : B ≤ g) : ∀ (l : List Value) (w : World) (o : Nat), Below B a w → Below B a (w.setCells g o l)
  | [], _, _, h => h
  | v :: l, w, o, h => below_setCells hg l _ _ (h.setCell (p := ⟨g, o, none⟩) hg v)
section
variable {t : Tb Ent} {cs : Array Value}
/-- A whole place is written. -/
theorem AtP.setAll (h : AtP t cs) (a : Nat) (e : Ent) (x y z : Int) (ha : a < t.np) :
    AtP { t with ent := updF t.ent a e, nw := updF t.nw a x, od := updF t.od a y, bh := updF t.bh a z } (setL cs (a * 15) (cellsOf e x y z).toList) := by
  have h1 := h.1
  refine ⟨by rw [setL_size]; exact h1, fun p hp j hj => ?_⟩
  have hp : p < t.np := hp
  show _ = (cellsOf (updF t.ent a e p) (updF t.nw a x p) (updF t.od a y p) (updF t.bh a z p))[j]?
  have hl : (cellsOf e x y z).toList.length = 15 := rfl
  by_cases ep : p = a
  · subst ep
    rw [updF_here, updF_here, updF_here, updF_here, setL_in _ _ _ _ (by rw [hl]; omega) (by rw [hl]; exact hj)]
    simp
  · rw [updF_far _ _ _ _ ep, updF_far _ _ _ _ ep, updF_far _ _ _ _ ep, updF_far _ _ _ _ ep, setL_out _ _ _ _ (by rw [hl]; omega)]
    exact h.2 p hp j hj
/-- A whole entry is written. -/
theorem AtP.setEnt (h : AtP t cs) (a : Nat) (e : Ent) (ha : a < t.np) : AtP { t with ent := updF t.ent a e } (setL cs (a * 15) e.cells.toList) := by
  have h1 := h.1
  refine ⟨by rw [setL_size]; exact h1, fun p hp j hj => ?_⟩
  have hp : p < t.np := hp
  show _ = (cellsOf (updF t.ent a e p) (t.nw p) (t.od p) (t.bh p))[j]?
  have hl : e.cells.toList.length = 12 := rfl
  by_cases ep : p = a
  · subst ep
    rw [updF_here]
    by_cases j2 : j < 12
    · rw [setL_in _ _ _ _ (by rw [hl]; omega) (by rw [hl]; exact j2)]
      match j, j2 with
      | 0, _ | 1, _ | 2, _ | 3, _ | 4, _ | 5, _ | 6, _ | 7, _ | 8, _ | 9, _ | 10, _ | 11, _ => rfl
    · rw [setL_out _ _ _ _ (by rw [hl]; omega), h.2 p hp j hj]
      match j, hj, j2 with
      | 12, _, _ | 13, _, _ | 14, _, _ => rfl
  · rw [updF_far _ _ _ _ ep, setL_out _ _ _ _ (by rw [hl]; omega)]
    exact h.2 p hp j hj
end
section
variable {w : World} {ta r : Nat} {n : Nat} {seed : Int} {t : Tb Ent} {g cap : Nat}
theorem MemF.setMany (h : MemF w ta r (.slice (some ⟨g, 0, none⟩) t.np cap) n seed t) (o : Nat) (l : List Value) (t' : Tb Ent) (e1 : t'.size = t.size) (e2 : t'.np = t.np) (e3 : t'.rows = t.rows) (e4 : t'.free = t.free) (e5 : t'.newest = t.newest) (e6 : t'.oldest = t.oldest)
    (hc : ∀ cs, AtP t cs → AtP t' (setL cs o l)) : MemF (w.setCells g o l) ta r (.slice (some ⟨g, 0, none⟩) t.np cap) n seed t' := by
  rcases h.pl with ⟨h0, _⟩ | ⟨g2, cap2, cs, h1, h2, h3, h4, h5, h6, h7, h8⟩
  · cases h0
  · injection h1 with a _ b
    injection a with a
    injection a with a
    subst a
    subst b
    refine ⟨?_, ?_, .inr ⟨g, cap, _, by rw [e2], by rw [e2]; exact h2, h3, blk_setCells l _ _ o h4, by rw [setL_size]; exact h5, hc cs h6, h7, h8⟩, h.ne⟩
    · rw [e1, e4, e5, e6]
      exact blk_setCells_far (Ne.symm h7) l _ o h.tab
    · obtain ⟨rs, r1, r2⟩ := h.rows
      exact ⟨rs, blk_setCells_far (Ne.symm h8) l _ o r1, e3 ▸ r2⟩
theorem _root_.Go.Proofs.Ytboknpkcpeoebaa.flowH.MemF.setAll (h : MemF w ta r (.slice (some ⟨g, 0, none⟩) t.np cap) n seed t) (a : Nat) (ha : a < t.np) (e : Ent) (x y z : Int) :
    MemF (w.setCells g (a * 15) (cellsOf e x y z).toList) ta r (.slice (some ⟨g, 0, none⟩) t.np cap) n seed { t with ent := updF t.ent a e, nw := updF t.nw a x, od := updF t.od a y, bh := updF t.bh a z } :=
  MemF.setMany h _ _ _ rfl rfl rfl rfl rfl rfl fun cs hc => AtP.setAll hc a e x y z ha
theorem _root_.Go.Proofs.Ytboknpkcpeoebaa.flowH.MemF.setEnt (h : MemF w ta r (.slice (some ⟨g, 0, none⟩) t.np cap) n seed t) (a : Nat) (ha : a < t.np) (e : Ent) :
    MemF (w.setCells g (a * 15) e.cells.toList) ta r (.slice (some ⟨g, 0, none⟩) t.np cap) n seed { t with ent := updF t.ent a e } :=
  MemF.setMany h _ _ _ rfl rfl rfl rfl rfl rfl fun cs hc => AtP.setEnt hc a e ha
theorem _root_.Go.Proofs.Ytboknpkcpeoebaa.flowH.MemF.setOther {v : Value} (h : MemF w ta r v n seed t) (k : Nat) (h1 : k ≠ ta) (h2 : k ≠ r) (h3 : v.ownBlock ≠ some k) (l : List Value) (o : Nat) : MemF (w.setCells k o l) ta r v n seed t := by
  refine ⟨blk_setCells_far (Ne.symm h1) l _ o h.tab, ?_, ?_, h.ne⟩
  · obtain ⟨rs, r1, r2⟩ := h.rows
    exact ⟨rs, blk_setCells_far (Ne.symm h2) l _ o r1, r2⟩
  · rcases h.pl with h0 | ⟨g2, cap2, cs, e1, e2, e3, e4, e5⟩
    · exact .inl h0
    · refine .inr ⟨g2, cap2, cs, e1, e2, e3, blk_setCells_far (fun e => h3 ?_) l _ o e4, e5⟩
      rw [e1, ← e]
      rfl
theorem _root_.Go.Proofs.Ytboknpkcpeoebaa.flowH.MemF.sameB {v : Value} (h : MemF w ta r v n seed t) {w' : World} (hb : ∀ k, (k = ta ∨ k = r ∨ v.ownBlock = some k) → w'.heap[k]? = w.heap[k]?) : MemF w' ta r v n seed t := by
  refine ⟨(hb _ (.inl rfl)).trans h.tab, ?_, ?_, h.ne⟩
  · obtain ⟨rs, r1, r2⟩ := h.rows
    exact ⟨rs, (hb _ (.inr (.inl rfl))).trans r1, r2⟩
  · rcases h.pl with h0 | ⟨g2, cap2, cs, e1, e2, e3, e4, e5⟩
    · exact .inl h0
    · exact .inr ⟨g2, cap2, cs, e1, e2, e3, (hb _ (.inr (.inr (by rw [e1]; rfl)))).trans e4, e5⟩
theorem frm_setRow {v : Value} {w w' : World} (h : flowI.Frm ta r v w w') (k : Nat) (hk : w.heap.size ≤ k) (cs : Array Value) : flowI.Frm ta r v w (w'.setRow k cs) := by
  refine ⟨h.os, h.tape, h.output, Nat.le_trans h.size ?_, fun j h1 h3 h4 h5 => (setRow_other w' k j cs (by omega)).trans (h.block j h1 h3 h4 h5)⟩
  unfold World.setRow
  simp
theorem there_of (h : MemF w ta r (.slice (some ⟨g, 0, none⟩) t.np cap) n seed t) (a k : Nat) (ha : a < t.np) (hk : k ≤ 15) : w.there g (a * 15) k := by
  intro j hj
  have hp := h.placeOf a ha
  rw [hp.1 j (by omega)]
  refine ⟨?_, hp.2 _⟩
  have : j < (cellsOf (t.ent a) (t.nw a) (t.od a) (t.bh a)).size := Nat.lt_of_lt_of_le hj hk
  simp [this]
theorem size_p : (Try.prog.info? 98).map (·.size) = some 15 := by kernel_rfl
theorem size_e : (Try.prog.info? 28).map (·.size) = some 12 := by kernel_rfl
theorem one_p (e : Ent) (x y z : Int) : (cellsOf e x y z).all (·.oneCell') = true := by simp [cellsOf, Value.oneCell']
theorem one_e (e : Ent) : e.cells.all (·.oneCell') = true := by simp [Ent.cells, Value.oneCell']
/-- The store of a whole place, of a whole entry, as the walk meets it. -/
theorem store_all (h : MemF w ta r (.slice (some ⟨g, 0, none⟩) t.np cap) n seed t) (a : Nat) (ha : a < t.np) (e : Ent) (x y z : Int) :
    (Instr.storeAt 98 (.pointer (some ⟨g, a * 15, none⟩)) (.agg (cellsOf e x y z))).run Try.prog w = .ok () (w.setCells g (a * 15) (cellsOf e x y z).toList) :=
  run_storeAt_mid w g (a * 15) _ _ (there_of h a 15 ha (by omega)) size_p (one_p e x y z)
theorem cells_allC (h : MemF w ta r (.slice (some ⟨g, 0, none⟩) t.np cap) n seed t) (a : Nat) (ha : a < t.np) (l : List Value) (hl : l.length ≤ 15) (h1 : ∀ u ∈ l, u.oneCell' = true) :
    (storeCells ⟨g, a * 15, none⟩ l 0).run Try.prog w = .ok () (w.setCells g (a * 15) l) :=
  run_storeCells_cells g (a * 15) l 0 w (fun j hj => (there_of h a l.length ha hl j hj).1) (fun j hj => (there_of h a l.length ha hl j hj).2) h1
theorem store_allC (h : MemF w ta r (.slice (some ⟨g, 0, none⟩) t.np cap) n seed t) (a : Nat) (ha : a < t.np) (e : Ent) (x y z : Int) :
    (storeCells ⟨g, a * 15, none⟩ (cellsOf e x y z).toList 0).run Try.prog w = .ok () (w.setCells g (a * 15) (cellsOf e x y z).toList) :=
  cells_allC h a ha _ (Nat.le_refl 15) (fun u hu => (Array.all_eq_true_iff_forall_mem.1 (one_p e x y z)) u (by simpa using hu))
theorem store_ent (h : MemF w ta r (.slice (some ⟨g, 0, none⟩) t.np cap) n seed t) (a : Nat) (ha : a < t.np) (e : Ent) :
    (Instr.storeAt 28 (.pointer (some ⟨g, a * 15, none⟩)) (.agg e.cells)).run Try.prog w = .ok () (w.setCells g (a * 15) e.cells.toList) :=
  run_storeAt_mid w g (a * 15) _ _ (there_of h a 12 ha (by omega)) size_e (one_e e)
end
end Go.Proofs.Ytboknpkcpeoebaa.flowO
