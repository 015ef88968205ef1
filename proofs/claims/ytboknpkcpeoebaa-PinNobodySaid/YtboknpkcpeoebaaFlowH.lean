/- Layer 27: a table of flows in memory: what is read, what is written. -/
import Derived.Test.YtboknpkcpeoebaaFlowG
namespace Go.Proofs.Ytboknpkcpeoebaa.flowH
open Go.ChangeShapes Go.WideShapes Go.ChangeAt Go.RowKit
open Go.Proofs.Ytboknpkcpeoebaa.base Go.Proofs.Ytboknpkcpeoebaa.flowA Go.Proofs.Ytboknpkcpeoebaa.flowB Go.Proofs.Ytboknpkcpeoebaa.flowC Go.Proofs.Ytboknpkcpeoebaa.flowD Go.Proofs.Ytboknpkcpeoebaa.flowE Go.Proofs.Ytboknpkcpeoebaa.flowF Go.Proofs.Ytboknpkcpeoebaa.flowG
set_option linter.unusedVariables false

/-- A table of flows, in memory: its eight cells, its rows, its places. -/
structure MemF (w : World) (ta r : Nat) (v : Value) (n : Nat) (seed : Int) (t : Tb Ent) : Prop where
  tab : Blk w ta 96 #[.int .i64 n, .int .u64 seed, .int .i64 t.size, v, .slice (some ⟨r, 0, none⟩) n n, .int .i64 t.free, .int .i64 t.newest, .int .i64 t.oldest]
  rows : ∃ cs, Blk w r 3 cs ∧ AtI n cs t.rows
  pl : (v = .slice none 0 0 ∧ t.np = 0) ∨ ∃ g cap cs, v = .slice (some ⟨g, 0, none⟩) t.np cap ∧ t.np ≤ cap ∧ cap ≤ maxLen ∧ Blk w g 98 cs ∧ cs.size = cap * 15 ∧ AtP t cs ∧ g ≠ ta ∧ g ≠ r
  ne : ta ≠ r
theorem MemF.drew {w : World} {ta r : Nat} {v : Value} {n : Nat} {seed : Int} {t : Tb Ent} (h : MemF w ta r v n seed t) : MemF w.drew ta r v n seed t := ⟨h.tab, h.rows, h.pl, h.ne⟩
section
variable {w : World} {ta r : Nat} {v : Value} {n : Nat} {seed : Int} {t : Tb Ent}
theorem MemF.drewN (h : MemF w ta r v n seed t) (k : Nat) : MemF (w.drewN k) ta r v n seed t := ⟨h.tab, h.rows, h.pl, h.ne⟩
/-- What others have written reaches no table. -/
theorem MemF.far (h : MemF w ta r v n seed t) {w' : World} (hb : ∀ g, g < w.heap.size → w'.heap[g]? = w.heap[g]?) : MemF w' ta r v n seed t := by
  refine ⟨(hb _ h.tab.lt).trans h.tab, ?_, ?_, h.ne⟩
  · obtain ⟨cs, h1, h2⟩ := h.rows
    exact ⟨cs, (hb _ h1.lt).trans h1, h2⟩
  · rcases h.pl with h0 | ⟨g, cap, cs, h1, h2, h3, h4, h5, h6, h7, h8⟩
    · exact .inl h0
    · exact .inr ⟨g, cap, cs, h1, h2, h3, (hb _ h4.lt).trans h4, h5, h6, h7, h8⟩
theorem MemF.below (h : MemF w ta r v n seed t) {w' : World} (hb : Below w.heap.size w w') : MemF w' ta r v n seed t := h.far fun g hg => hb.block g hg
theorem MemF.alloc (h : MemF w ta r v n seed t) (o : Obj) : MemF (w.alloc o) ta r v n seed t := h.far fun g hg => Below.heap_alloc w o g hg
/-- The table's eight cells. -/
theorem MemF.cells (h : MemF w ta r v n seed t) : w.cell? ⟨ta, 0, none⟩ = some (.int .i64 n) ∧ w.cell? ⟨ta, 1, none⟩ = some (.int .u64 seed) ∧ w.cell? ⟨ta, 2, none⟩ = some (.int .i64 t.size) ∧ w.cell? ⟨ta, 3, none⟩ = some v ∧ w.cell? ⟨ta, 4, none⟩ = some (.slice (some ⟨r, 0, none⟩) n n) ∧ w.cell? ⟨ta, 5, none⟩ = some (.int .i64 t.free) ∧ w.cell? ⟨ta, 6, none⟩ = some (.int .i64 t.newest) ∧ w.cell? ⟨ta, 7, none⟩ = some (.int .i64 t.oldest) ∧ ∀ j, w.frozen? ⟨ta, j, none⟩ = false :=
  ⟨h.tab.cell 0, h.tab.cell 1, h.tab.cell 2, h.tab.cell 3, h.tab.cell 4, h.tab.cell 5, h.tab.cell 6, h.tab.cell 7, fun j => h.tab.frozen j⟩
theorem MemF.row (h : MemF w ta r v n seed t) (i : Nat) (hi : i < n) : w.cell? ⟨r, i, none⟩ = some (.int .i64 (t.rows i)) ∧ w.frozen? ⟨r, i, none⟩ = false := by
  obtain ⟨cs, h1, h2⟩ := h.rows
  exact ⟨(h1.cell i).trans (h2.2 i hi), h1.frozen i⟩
/-- A place's fifteen cells. -/
theorem MemF.place (h : MemF w ta r v n seed t) (p : Nat) (hp : p < t.np) : ∃ g cap, v = .slice (some ⟨g, 0, none⟩) t.np cap ∧ g ≠ ta ∧ g ≠ r ∧ t.np ≤ cap ∧ cap ≤ maxLen ∧ (∀ j, j < 15 → w.cell? ⟨g, p * 15 + j, none⟩ = (cellsOf (t.ent p) (t.nw p) (t.od p) (t.bh p))[j]?) ∧ ∀ j, w.frozen? ⟨g, j, none⟩ = false := by
  rcases h.pl with h0 | ⟨g, cap, cs, h1, h2, h3, h4, h5, h6, h7, h8⟩
  · have := h0.2; omega
  · exact ⟨g, cap, h1, h7, h8, h2, h3, fun j hj => (h4.cell _).trans (h6.2 p hp j hj), fun j => h4.frozen j⟩
theorem AtP.same {t t' : Tb Ent} {cs : Array Value} (h : AtP t cs) (e1 : t'.np = t.np) (e2 : t'.ent = t.ent) (e3 : t'.nw = t.nw) (e4 : t'.od = t.od) (e5 : t'.bh = t.bh) : AtP t' cs := by
  unfold AtP
  rw [e1, e2, e3, e4, e5]
  exact h
/-- A store to the table itself. -/
theorem MemF.setTab (h : MemF w ta r v n seed t) (k : Nat) (u : Value) (t' : Tb Ent) (e1 : t'.np = t.np) (e2 : t'.ent = t.ent) (e3 : t'.nw = t.nw) (e4 : t'.od = t.od) (e5 : t'.bh = t.bh) (e6 : t'.rows = t.rows)
    (hc : (#[.int .i64 n, .int .u64 seed, .int .i64 t.size, v, .slice (some ⟨r, 0, none⟩) n n, .int .i64 t.free, .int .i64 t.newest, .int .i64 t.oldest] : Array Value).setIfInBounds k u = #[.int .i64 n, .int .u64 seed, .int .i64 t'.size, v, .slice (some ⟨r, 0, none⟩) n n, .int .i64 t'.free, .int .i64 t'.newest, .int .i64 t'.oldest]) :
    MemF (w.setCell ⟨ta, k, none⟩ u) ta r v n seed t' := by
  refine ⟨?_, ?_, ?_, h.ne⟩
  · have := h.tab.set_ k u
    rw [hc] at this
    exact this
  · obtain ⟨cs, h1, h2⟩ := h.rows
    exact ⟨cs, h1.far (p := ⟨ta, k, none⟩) (Ne.symm h.ne) _, e6 ▸ h2⟩
  · rw [e1]
    rcases h.pl with h0 | ⟨g, cap, cs, h1, h2, h3, h4, h5, h6, h7, h8⟩
    · exact .inl h0
    · exact .inr ⟨g, cap, cs, h1, h2, h3, h4.far (p := ⟨ta, k, none⟩) h7 _, h5, AtP.same h6 e1 e2 e3 e4 e5, h7, h8⟩
theorem MemF.setSize (h : MemF w ta r v n seed t) (x : Nat) : MemF (w.setCell ⟨ta, 2, none⟩ (.int .i64 x)) ta r v n seed { t with size := x } := h.setTab 2 _ _ rfl rfl rfl rfl rfl rfl rfl
theorem MemF.setFree (h : MemF w ta r v n seed t) (x : Int) : MemF (w.setCell ⟨ta, 5, none⟩ (.int .i64 x)) ta r v n seed { t with free := x } := h.setTab 5 _ _ rfl rfl rfl rfl rfl rfl rfl
theorem MemF.setNewest (h : MemF w ta r v n seed t) (x : Int) : MemF (w.setCell ⟨ta, 6, none⟩ (.int .i64 x)) ta r v n seed { t with newest := x } := h.setTab 6 _ _ rfl rfl rfl rfl rfl rfl rfl
theorem MemF.setOldest (h : MemF w ta r v n seed t) (x : Int) : MemF (w.setCell ⟨ta, 7, none⟩ (.int .i64 x)) ta r v n seed { t with oldest := x } := h.setTab 7 _ _ rfl rfl rfl rfl rfl rfl rfl
/-- A store to a row. -/
theorem MemF.setRow (h : MemF w ta r v n seed t) (i : Nat) (hi : i < n) (x : Int) : MemF (w.setCell ⟨r, i, none⟩ (.int .i64 x)) ta r v n seed { t with rows := updF t.rows i x } := by
  refine ⟨h.tab.far (p := ⟨r, i, none⟩) h.ne _, ?_, ?_, h.ne⟩
  · obtain ⟨cs, h1, h2⟩ := h.rows
    exact ⟨_, h1.set_ i _, h2.set i hi x⟩
  · rcases h.pl with h0 | ⟨g, cap, cs, h1, h2, h3, h4, h5, h6, h7, h8⟩
    · exact .inl h0
    · exact .inr ⟨g, cap, cs, h1, h2, h3, h4.far (p := ⟨r, i, none⟩) h8 _, h5, h6, h7, h8⟩
/-- A store to a place. -/
theorem MemF.setAt (h : MemF w ta r v n seed t) (g cap k : Nat) (u : Value) (t' : Tb Ent) (hv : v = .slice (some ⟨g, 0, none⟩) t.np cap) (e1 : t'.size = t.size) (e2 : t'.np = t.np) (e3 : t'.rows = t.rows) (e4 : t'.free = t.free) (e5 : t'.newest = t.newest) (e6 : t'.oldest = t.oldest)
    (hc : ∀ cs, AtP t cs → AtP t' (cs.setIfInBounds k u)) : MemF (w.setCell ⟨g, k, none⟩ u) ta r v n seed t' := by
  rcases h.pl with ⟨h0, _⟩ | ⟨g2, cap2, cs, h1, h2, h3, h4, h5, h6, h7, h8⟩
  · rw [hv] at h0; cases h0
  · have e : g2 = g := by rw [hv] at h1; injection h1 with a _ _; injection a with a; injection a with a; exact a.symm
    subst e
    refine ⟨?_, ?_, .inr ⟨g2, cap2, _, by rw [e2]; exact h1, by rw [e2]; exact h2, h3, h4.set_ k u, by simpa using h5, hc cs h6, h7, h8⟩, h.ne⟩
    · rw [e1, e4, e5, e6]
      exact h.tab.far (p := ⟨g2, k, none⟩) (Ne.symm h7) _
    · obtain ⟨rs, r1, r2⟩ := h.rows
      exact ⟨rs, r1.far (p := ⟨g2, k, none⟩) (Ne.symm h8) _, e3 ▸ r2⟩
theorem MemF.setNw (h : MemF w ta r v n seed t) (g cap a : Nat) (ha : a < t.np) (hv : v = .slice (some ⟨g, 0, none⟩) t.np cap) (x : Int) : MemF (w.setCell ⟨g, a * 15 + 12, none⟩ (.int .i64 x)) ta r v n seed { t with nw := updF t.nw a x } :=
  h.setAt g cap _ _ _ hv rfl rfl rfl rfl rfl rfl fun cs hc => hc.setNw a ha x
theorem MemF.setOd (h : MemF w ta r v n seed t) (g cap a : Nat) (ha : a < t.np) (hv : v = .slice (some ⟨g, 0, none⟩) t.np cap) (x : Int) : MemF (w.setCell ⟨g, a * 15 + 13, none⟩ (.int .i64 x)) ta r v n seed { t with od := updF t.od a x } :=
  h.setAt g cap _ _ _ hv rfl rfl rfl rfl rfl rfl fun cs hc => hc.setOd a ha x
theorem MemF.setBh (h : MemF w ta r v n seed t) (g cap a : Nat) (ha : a < t.np) (hv : v = .slice (some ⟨g, 0, none⟩) t.np cap) (x : Int) : MemF (w.setCell ⟨g, a * 15 + 14, none⟩ (.int .i64 x)) ta r v n seed { t with bh := updF t.bh a x } :=
  h.setAt g cap _ _ _ hv rfl rfl rfl rfl rfl rfl fun cs hc => hc.setBh a ha x
end
end Go.Proofs.Ytboknpkcpeoebaa.flowH
