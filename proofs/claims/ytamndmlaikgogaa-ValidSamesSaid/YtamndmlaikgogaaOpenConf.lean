/- A configuration that came in. -/
import Derived.Test.YtamndmlaikgogaaOpenNodes
import Derived.Test.YtamndmlaikgogaaVdR
import Derived.Test.YtamndmlaikgogaaOpen
namespace Go.Proofs.Ytamndmlaikgogaa.base
open Go.RowKit Go.WideShapes Go.ChangeShapes Go.Joins Go.Deep
open Go.Proofs.Ytamndmlaikgogaa.dfA Go.Proofs.Ytamndmlaikgogaa.vdA Go.Proofs.Ytamndmlaikgogaa.vdH Go.Proofs.Ytamndmlaikgogaa.vdR
set_option linter.unusedVariables false
section
variable {H : Type} {enc : TypeId × Value → H} {w : World} {base b0 : Nat} {held : Bool} {P : Program}
theorem open_rows_leaf {t e : TypeId} {a : Option Addr} {len cap n : Nat} {y : DataW H × List MemPlace} (q k : Nat) (ls : List Leaf) (ht : P.underlying t = some (.slice e)) (he : leafs P q e = some ls) (hc : P.cellsOf e = k) (hk : 0 < k)
    (hn : DataW.trod enc P w base (fun _ => true) held n t [.slice a len cap] = some y) :
    ∃ (f : Nat → List Value), len ≤ cap ∧ cap ≤ maxLen ∧ (a = none → cap = 0) ∧ (∀ j, j < len → Leaves enc P w base (fun _ => true) held ls (f j) ∧ (f j).length = k) ∧ RowsOf w a len k f := by
  rcases open_slice ht hn with ⟨hcs, _⟩ | ⟨ad, len', cap', m, k', D, PL, hcs, hb, hl, hm, hmm, _, hV⟩
  · simp only [List.cons.injEq, and_true] at hcs
    injection hcs with h1 h2 h3
    subst h1 h2 h3
    exact ⟨fun _ => [], Nat.le_refl _, by unfold maxLen; omega, fun _ => rfl, fun i hi => by omega, .inl rfl⟩
  · simp only [List.cons.injEq, and_true] at hcs
    injection hcs with h1 h2 h3
    subst h1 h2 h3
    have key : ∀ i, i < len → ∃ z : List Value, (Leaves enc P w base (fun _ => true) held ls z ∧ z.length = k) ∧ ∀ j, j < k → w.cell? ((ad.add (i * k)).add j) = z[j]? := by
      intro i hi
      obtain ⟨cs', h1, h2⟩ := hV i (by rw [hmm]; split <;> omega)
      have hL := leaves_of q _ _ _ _ _ he h2
      rw [hc] at h1
      obtain ⟨_, hlen, hcell⟩ := World.cells?_some h1
      refine ⟨_, ⟨hL, by simpa using hlen⟩, fun j hj => ?_⟩
      have := hcell j (by omega)
      simpa using this
    obtain ⟨Z, hZ⟩ := choose_lt key
    refine ⟨Z, hl, hm, (fun e => (by cases e)), fun i hi => (hZ i hi).1, ?_⟩
    rcases Nat.eq_zero_or_pos len with h0 | h0
    · exact .inl h0
    · have hc0 := (hZ 0 h0).2 0 hk
      have hs0 : (Z 0)[0]? = some ((Z 0)[0]'(by rw [(hZ 0 h0).1.2]; exact hk)) := List.getElem?_eq_getElem _
      rw [hs0] at hc0
      obtain ⟨blk, off, spot⟩ := ad
      have hs : spot = none := by simpa [Addr.add] using World.cell?_spot hc0
      subst hs
      refine .inr ⟨blk, off, rfl, ?_, fun j hj i hi => ?_⟩
      · have := World.block_lt_of_cell? w _ hc0
        simpa [Addr.add] using this
      · have := (hZ j hj).2 i hi
        rw [Addr.add_lit, Addr.add_lit] at this
        exact this
theorem getD_map {α : Type} (g : Nat → α) (n j : Nat) (z : α) (h : j < n) : ((List.range n).map g).getD j z = g j := by
  rw [List.getD_eq_getElem?_getD, List.getElem?_map, List.getElem?_range h]
  rfl
instance : Inhabited Vp := ⟨zVp⟩
instance : Inhabited Vw := ⟨zVw⟩
theorem node_leafsC : leafs Try.prog 4 44 = some nodeLeafs := by kernel_rfl
theorem vip_leafs : leafs Try.prog 4 48 = some [.bool, .int .u64, .int .u64, .int .i64, .int .i64, .int .i64, .bool] := by kernel_rfl
theorem view_leafs : leafs Try.prog 4 52 = some [.bool, .int .u64, .int .u64, .int .i64, .int .i64] := by kernel_rfl
theorem conf_leafs : leafs Try.prog 5 30 = some [.sl 22, .sl 23, .sl 24, .int .i64, .int .i64, .bool, .int .u64, .int .u64, .bool, .int .u64, .int .u64] := by kernel_rfl
theorem open_nds {a : Option Addr} {len cap n : Nat} {y : DataW H × List MemPlace} (hf : DataW.trod enc Try.prog w base (fun _ => true) held n 22 [.slice a len cap] = some y) :
    ∃ l : List Nd, l.length = len ∧ len ≤ cap ∧ cap ≤ 9223372036854775807 ∧ (∀ j (hj : j < l.length), (l[j]).nm.size ≤ 9223372036854775807) ∧ RdN w a l := by
  obtain ⟨f, h1, h2, _, h3, h4⟩ := open_rows_leaf 4 7 _ Try.underlying22 node_leafsC (by kernel_rfl) (by omega) hf
  unfold maxLen at h2
  have key : ∀ j, j < len → ∃ e : Nd, f j = e.cells.toList ∧ e.nm.size ≤ maxLen := fun j hj => by
    obtain ⟨x, z', e1, e3, e2⟩ := node_of2 (ls := []) (h3 j hj).1
    simp only [Leaves] at e2
    subst e2
    exact ⟨x, by rw [e1, List.append_nil], e3⟩
  obtain ⟨g, hg⟩ := choose_lt key
  refine ⟨(List.range len).map g, by simp, h1, by omega, fun j hj => ?_, ?_⟩
  · simp only [List.length_map, List.length_range] at hj
    have := (hg j hj).2
    unfold maxLen at this
    simpa using this
  · rcases h4 with h0 | ⟨b, off, k1, k2, k3⟩
    · left; rw [h0]; rfl
    · right
      refine ⟨b, off, k1, k2, fun j hj i hi => ?_⟩
      have hj2 : j < len := by simpa using hj
      rw [k3 j hj2 i hi, (hg j hj2).1]
      simp
theorem open_vps {a : Option Addr} {len cap n : Nat} {y : DataW H × List MemPlace} (hf : DataW.trod enc Try.prog w base (fun _ => true) held n 23 [.slice a len cap] = some y) :
    ∃ l : List Vp, l.length = len ∧ len ≤ cap ∧ cap ≤ 9223372036854775807 ∧ RdV w a l := by
  obtain ⟨f, h1, h2, _, h3, h4⟩ := open_rows_leaf 4 7 _ Try.underlying23 vip_leafs (by kernel_rfl) (by omega) hf
  unfold maxLen at h2
  have key : ∀ j, j < len → ∃ e : Vp, f j = e.cells.toList ∧ True := fun j hj => by
    obtain ⟨_, z0, e0, ⟨c0, rfl⟩, hL⟩ := (h3 j hj).1
    obtain ⟨_, z1, rfl, ⟨c1, rfl, _⟩, hL⟩ := hL
    obtain ⟨_, z2, rfl, ⟨c2, rfl, _⟩, hL⟩ := hL
    obtain ⟨_, z3, rfl, ⟨c3, rfl, _⟩, hL⟩ := hL
    obtain ⟨_, z4, rfl, ⟨c4, rfl, _⟩, hL⟩ := hL
    obtain ⟨_, z5, rfl, ⟨c5, rfl, _⟩, hL⟩ := hL
    obtain ⟨_, z6, rfl, ⟨c6, rfl⟩, hL⟩ := hL
    have hz : z6 = [] := hL
    subst hz
    exact ⟨⟨c0, c1, c2, c3, c4, c5, c6⟩, e0, trivial⟩
  obtain ⟨g, hg⟩ := choose_lt key
  refine ⟨(List.range len).map g, by simp, h1, by omega, ?_⟩
  unfold RdV
  rw [List.length_map, List.length_range]
  exact rows_take h4 len (Nat.le_refl _) fun j hj => by rw [(hg j hj).1, getD_map g len j zVp hj]
theorem open_vws {a : Option Addr} {len cap n : Nat} {y : DataW H × List MemPlace} (hf : DataW.trod enc Try.prog w base (fun _ => true) held n 24 [.slice a len cap] = some y) :
    ∃ l : List Vw, l.length = len ∧ len ≤ cap ∧ cap ≤ 9223372036854775807 ∧ RdW w a l ∧ ∀ j, j < l.length → U64 (l.getD j zVw).hi ∧ U64 (l.getD j zVw).lo := by
  obtain ⟨f, h1, h2, _, h3, h4⟩ := open_rows_leaf 4 5 _ Try.underlying24 view_leafs (by kernel_rfl) (by omega) hf
  unfold maxLen at h2
  have key : ∀ j, j < len → ∃ e : Vw, f j = e.cells.toList ∧ (U64 e.hi ∧ U64 e.lo) := fun j hj => by
    obtain ⟨_, z0, e0, ⟨c0, rfl⟩, hL⟩ := (h3 j hj).1
    obtain ⟨_, z1, rfl, ⟨c1, rfl, w1⟩, hL⟩ := hL
    obtain ⟨_, z2, rfl, ⟨c2, rfl, w2⟩, hL⟩ := hL
    obtain ⟨_, z3, rfl, ⟨c3, rfl, _⟩, hL⟩ := hL
    obtain ⟨_, z4, rfl, ⟨c4, rfl, _⟩, hL⟩ := hL
    have hz : z4 = [] := hL
    subst hz
    have q1 := bounds_u64 w1
    have q2 := bounds_u64 w2
    exact ⟨⟨c0, c1, c2, c3, c4⟩, e0, ⟨by show 0 ≤ c1; omega, by show c1 < _; omega⟩, ⟨by show 0 ≤ c2; omega, by show c2 < _; omega⟩⟩
  obtain ⟨g, hg⟩ := choose_lt key
  refine ⟨(List.range len).map g, by simp, h1, by omega, ?_, fun j hj => ?_⟩
  · unfold RdW
    rw [List.length_map, List.length_range]
    exact rows_take h4 len (Nat.le_refl _) fun j hj => by rw [(hg j hj).1, getD_map g len j zVw hj]
  · have hj2 : j < len := by simpa using hj
    rw [getD_map g len j zVw hj2]
    exact (hg j hj2).2
set_option maxRecDepth 100000 in
theorem open_conf {r : Reach} {v : Value} {d : DataW H} {p : List MemPlace} (hv : Value.okWide Try.prog w r b0 30 v) (h : DataW.Trod enc Try.prog w base (fun _ => true) held 30 v d p) :
    ∃ c : Cf, v = .agg c.cells ∧ CfRaw w c := by
  obtain ⟨cs, rfl, hl⟩ := open_leaves 5 _ Try.underlying30 conf_leafs hv h
  obtain ⟨c0, _, rfl, ⟨n0, z0, hz0⟩, hl⟩ := hl
  obtain ⟨c1, _, rfl, ⟨n1, z1, hz1⟩, hl⟩ := hl
  obtain ⟨c2, _, rfl, ⟨n2, z2, hz2⟩, hl⟩ := hl
  obtain ⟨c3, _, rfl, ⟨fac, e3, _⟩, hl⟩ := hl
  obtain ⟨c4, _, rfl, ⟨dom, e4, _⟩, hl⟩ := hl
  obtain ⟨c5, _, rfl, ⟨a6, e5⟩, hl⟩ := hl
  obtain ⟨c6, _, rfl, ⟨ah, e6, _⟩, hl⟩ := hl
  obtain ⟨c7, _, rfl, ⟨al, e7, _⟩, hl⟩ := hl
  obtain ⟨c8, _, rfl, ⟨b6, e8⟩, hl⟩ := hl
  obtain ⟨c9, _, rfl, ⟨bh, e9, _⟩, hl⟩ := hl
  obtain ⟨c10, _, rfl, ⟨bl, e10, _⟩, hl⟩ := hl
  obtain ⟨A0, l0, k0, hA0⟩ := slice_form Try.underlying22 hz0
  obtain ⟨A1, l1, k1, hA1⟩ := slice_form Try.underlying23 hz1
  obtain ⟨A2, l2, k2, hA2⟩ := slice_form Try.underlying24 hz2
  simp only [List.cons.injEq, and_true] at hA0 hA1 hA2
  simp only [Leaves] at hl
  subst e3 e4 e5 e6 e7 e8 e9 e10 hA0 hA1 hA2 hl
  obtain ⟨nds, q1, q2, q3, q4, q5⟩ := open_nds hz0
  obtain ⟨vps, r1, r2, r3, r4⟩ := open_vps hz1
  obtain ⟨vws, s1, s2, s3, s4, s5⟩ := open_vws hz2
  subst q1 r1 s1
  exact ⟨⟨A0, k0, nds, A1, k1, vps, A2, k2, vws, fac, dom, a6, ah, al, b6, bh, bl⟩, rfl, ⟨q5, q2, q3, q4, r4, r2, r3, s4, s2, s3, s5⟩⟩
end
end Go.Proofs.Ytamndmlaikgogaa.base
