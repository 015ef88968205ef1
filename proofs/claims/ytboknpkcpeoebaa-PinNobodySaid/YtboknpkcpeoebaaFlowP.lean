/- Layer 27: a place that is free. -/
import Derived.Test.YtboknpkcpeoebaaFlowO
import Derived.Laws.AppendOwn
import Derived.OwnWalk
import Derived.Deep.WholeRow
import Derived.ArgAppend
namespace Go.Proofs.Ytboknpkcpeoebaa.flowP
open Go.ChangeShapes Go.WideShapes Go.ChangeAt Go.RowKit
open Go.Proofs.Ytboknpkcpeoebaa.base Go.Proofs.Ytboknpkcpeoebaa.flowA Go.Proofs.Ytboknpkcpeoebaa.flowB Go.Proofs.Ytboknpkcpeoebaa.flowC Go.Proofs.Ytboknpkcpeoebaa.flowD Go.Proofs.Ytboknpkcpeoebaa.flowE Go.Proofs.Ytboknpkcpeoebaa.flowF Go.Proofs.Ytboknpkcpeoebaa.flowG Go.Proofs.Ytboknpkcpeoebaa.flowH Go.Proofs.Ytboknpkcpeoebaa.flowL Go.Proofs.Ytboknpkcpeoebaa.flowM Go.Proofs.Ytboknpkcpeoebaa.flowN Go.Proofs.Ytboknpkcpeoebaa.flowO
set_option linter.unusedVariables false

/-- Appending to a row that is one's own: it stays where it is, or is a new one. -/
theorem wpList_append_new {P : Program} (w : World) {ops : Array Oper} {rest : List Oper} {o : Oper} {a : Act} {Q : Exit → Act → World → Prop} (hgd : o.guard = none) (s x : Operand) (t : TypeId)
    (ho : o.op = .call { callee := .builtin .append, args := #[s, x], argTypes := #[t, t] })
    (base : Nat) (e : TypeId) (i : TypeInfo) (z : Value) (size bytes : Nat) (ht : P.underlying t = some (.slice e)) (hi : P.info? e = some i) (hz : i.zero = some z)
    (hsize : i.size = size) (hby : i.bytes = bytes) (hzs : z.cells.size = size) (hsz : 0 < size)
    (v : Value) (n : Nat) (xs : List Value) (hs : a.eval s = v) (hown : w.ownsRow base e size v n xs)
    (ad : Addr) (m c : Nat) (news : List Value) (hx : a.eval x = .slice (some ad) m c) (hm : 1 ≤ m) (hl : news.length = m * size) (hnews : ∀ j u, news[j]? = some u → w.cell? (ad.add j) = some u) (h1 : ∀ u ∈ news, u.oneCell' = true)
    (h63 : n + m ≤ maxLen) (hbytes : (n + m) * bytes ≤ 140737488355328) (hbase : base ≤ w.heap.size)
    (h : ∀ v' w', w'.ownsRow base e size v' (n + m) (xs ++ news) → w.grownBy w' v.ownBlock → (∀ g, v'.ownBlock = some g → v.ownBlock = some g ∨ w.heap.size ≤ g) → wpList P ops Q rest (a.put o.dst v') w') : wpList P ops Q (o :: rest) a w := by
  have hgr : ∀ (v' : Value) (w' : World), w'.ownsRow w.heap.size e size v' (n + m) (xs ++ news) → w.grownBy w' none → wpList P ops Q rest (a.put o.dst v') w' := fun v' w' ho hg => by
    refine h v' w' ⟨ho.1, ?_⟩ ⟨hg.os, hg.tape, hg.output, hg.size, fun k hk _ => hg.block k hk (by simp)⟩ fun g e => .inr (ho.lt g e).1
    rcases ho.2 with h0 | ⟨g, cap, cur, h1, h2, h3⟩
    · exact .inl h0
    · exact .inr ⟨g, cap, cur, h1, Nat.le_trans hbase h2, h3⟩
  rcases hown.2 with ⟨h0, h1n⟩ | ⟨g, cap, cur, hv, hbg, hgc, hnc, hcm, hcs, htk⟩
  · subst h0
    have hxs : xs = [] := List.eq_nil_of_length_eq_zero (by rw [hown.1, h1n]; simp)
    subst hxs
    subst h1n
    exact wpList_append_grows w hgd s x t ho e i z size bytes ht hi hz hsize hby hzs hsz none 0 0 [] hs (fun _ => ⟨rfl, rfl⟩) (by simp) (fun b hb => by cases hb) ad m c news hx hl hnews h1 (by omega) h63 hbytes hgr
  · subst hv
    by_cases hr : n + m ≤ cap
    · exact wpList_append_fits w hgd s x t ho base e i size ht hi hsize g n cap xs hs hown ad m c news hx hl hnews h1 hr fun w' h2 h3 => h _ w' h2 h3 fun g2 e2 => .inl e2
    · exact wpList_append_grows w hgd s x t ho e i z size bytes ht hi hz hsize hby hzs hsz (some ⟨g, 0, none⟩) n cap xs hs (fun hb => by cases hb) hown.1 (fun b hb => by injection hb with hb; subst hb; exact hown.cells rfl) ad m c news hx hl hnews h1 (by omega) h63 hbytes hgr
/-- No entry. -/
def zeroE : Ent := ⟨⟨0, false, 0, 0, false, 0, 0, 0, 0⟩, 0, 0, 0⟩
/-- A table with a place more, that is empty. -/
def moreT (t : Tb Ent) : Tb Ent := { t with np := t.np + 1, ent := updF t.ent t.np zeroE, nw := updF t.nw t.np 0, od := updF t.od t.np 0, bh := updF t.bh t.np 0 }
/-- What place of its own a slice of places has. -/
theorem own_of {w : World} {ta r : Nat} {v : Value} {n : Nat} {seed : Int} {t : Tb Ent} (h : MemF w ta r v n seed t) (B : Nat) (hG : ∀ g, v.ownBlock = some g → B ≤ g) :
    ∃ xs : List Value, w.ownsRow B 98 15 v t.np xs ∧ (∀ p, p < t.np → ∀ j, j < 15 → xs[p * 15 + j]? = (cellsOf (t.ent p) (t.nw p) (t.od p) (t.bh p))[j]?) ∧ xs.length = t.np * 15 := by
  rcases h.pl with ⟨h0, h1⟩ | ⟨g, cap, cs, h1, h2, h3, h4, h5, h6, h7, h8⟩
  · exact ⟨[], ⟨by rw [h1]; rfl, .inl ⟨h0, h1⟩⟩, fun p hp => by omega, by rw [h1]; rfl⟩
  · have hl : (cs.toList.take (t.np * 15)).length = t.np * 15 := by
      have := h6.1
      rw [List.length_take, Array.length_toList]
      omega
    refine ⟨cs.toList.take (t.np * 15), ⟨hl, .inr ⟨g, cap, cs, h1, hG g (by rw [h1]; rfl), h4, h2, h3, h5, rfl⟩⟩, fun p hp j hj => ?_, hl⟩
    rw [List.getElem?_take, if_pos (by omega), ← h6.2 p hp j hj]
    simp
/-- A place more, at the end. -/
theorem mem_more {w w' : World} {ta r : Nat} {v v' : Value} {n B : Nat} {seed : Int} {t : Tb Ent} {xs : List Value} (h : MemF w ta r v n seed t) (hx : ∀ p, p < t.np → ∀ j, j < 15 → xs[p * 15 + j]? = (cellsOf (t.ent p) (t.nw p) (t.od p) (t.bh p))[j]?) (hl : xs.length = t.np * 15)
    (ho : w'.ownsRow B 98 15 v' (t.np + 1) (xs ++ (cellsOf zeroE 0 0 0).toList)) (hg : w.grownBy w' v.ownBlock) : MemF (w'.setCell ⟨ta, 3, none⟩ v') ta r v' n seed (moreT t) ∧ (∀ g, v'.ownBlock = some g → B ≤ g) ∧ (w'.cell? ⟨ta, 3, none⟩ = some v ∧ w'.frozen? ⟨ta, 3, none⟩ = false) ∧ ∃ g cap, v' = .slice (some ⟨g, 0, none⟩) (t.np + 1) cap ∧ t.np + 1 ≤ cap ∧ cap ≤ maxLen := by
  have nta : some ta ≠ v.ownBlock ∧ some r ≠ v.ownBlock := by
    rcases h.pl with ⟨h0, _⟩ | ⟨g, cap, cs, h1, _, _, _, _, _, h7, h8⟩
    · rw [h0]; exact ⟨by simp [Value.ownBlock], by simp [Value.ownBlock]⟩
    · rw [h1]; exact ⟨by simp [Value.ownBlock]; omega, by simp [Value.ownBlock]; omega⟩
  have hta := h.tab.grown hg nta.1
  obtain ⟨rs, hr1, hr2⟩ := h.rows
  have hrr := hr1.grown hg nta.2
  rcases ho.2 with ⟨_, h0⟩ | ⟨g, cap, cur, h1, h2, h3, h4, h5, h6, h7⟩
  · omega
  have ng1 : g ≠ ta := by
    intro e
    subst e
    have := h3.symm.trans hta
    injection this with this
    injection this with _ this _
    exact absurd this (by decide)
  have ng2 : g ≠ r := by
    intro e
    subst e
    have := h3.symm.trans hrr
    injection this with this
    injection this with _ this _
    exact absurd this (by decide)
  have hcur : ∀ i, i < (t.np + 1) * 15 → cur[i]? = (xs ++ (cellsOf zeroE 0 0 0).toList)[i]? := fun i hi => by
    rw [← h7, List.getElem?_take, if_pos hi]
    simp
  refine ⟨⟨?_, ⟨rs, hrr.far (p := ⟨ta, 3, none⟩) (Ne.symm h.ne) _, hr2⟩, .inr ⟨g, cap, cur, h1, h4, h5, Blk.far (p := ⟨ta, 3, none⟩) h3 ng1 _, h6, ⟨by show (t.np + 1) * 15 ≤ cur.size; rw [h6]; exact Nat.mul_le_mul_right 15 h4, fun p hp j hj => ?_⟩, ng1, ng2⟩, h.ne⟩, fun g2 e2 => ?_, ⟨hta.cell 3, hta.frozen 3⟩, g, cap, h1, h4, h5⟩
  · exact hta.set_ 3 v'
  · have hp : p < t.np + 1 := hp
    show cur[p * 15 + j]? = (cellsOf (updF t.ent t.np zeroE p) (updF t.nw t.np 0 p) (updF t.od t.np 0 p) (updF t.bh t.np 0 p))[j]?
    rw [hcur _ (by omega)]
    by_cases e : p = t.np
    · subst e
      rw [List.getElem?_append_right (by omega), updF_here, updF_here, updF_here, updF_here, hl, Nat.add_sub_cancel_left]
      simp
    · rw [List.getElem?_append_left (by omega), hx p (by omega) j hj, updF_far _ _ _ _ e, updF_far _ _ _ _ e, updF_far _ _ _ _ e, updF_far _ _ _ _ e]
  · rw [h1] at e2
    injection e2 with e2
    rw [← e2]
    exact h2
theorem info_p : (Try.prog.info? 98).map (fun i => (i.zero, i.size, i.bytes)) = some (some (.agg (cellsOf zeroE 0 0 0)), 15, 120) := by kernel_rfl
theorem zero_p (w : World) : (zeroValue 98).run Try.prog w = .ok (.agg (cellsOf zeroE 0 0 0)) w := (zero_of_info (n := 15) (by kernel_rfl : (Try.prog.info? 98).map (fun i => (i.zero, i.size)) = some (some (.agg (cellsOf zeroE 0 0 0)), 15))).1 w
end Go.Proofs.Ytboknpkcpeoebaa.flowP
