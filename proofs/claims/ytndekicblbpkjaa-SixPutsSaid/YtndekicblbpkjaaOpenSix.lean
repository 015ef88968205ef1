/- A header of IPv6 that came in. -/
import Derived.Test.YtndekicblbpkjaaOpenRows
import Derived.Test.YtndekicblbpkjaaSixM
namespace Go.Proofs.Ytndekicblbpkjaa.base
open Go.RowKit Go.WideShapes Go.ChangeShapes Go.Joins Go.Deep
open Go.Proofs.Ytndekicblbpkjaa.sixW Go.Proofs.Ytndekicblbpkjaa.sixM
set_option linter.unusedVariables false
section
variable {H : Type} {enc : TypeId × Value → H} {w : World} {base b0 : Nat} {held : Bool} {P : Program}
theorem open_rows_leaf {t e : TypeId} {a : Option Addr} {len cap n : Nat} {y : DataW H × List MemPlace} (q k : Nat) (ls : List Leaf) (ht : P.underlying t = some (.slice e)) (he : leafs P q e = some ls) (hc : P.cellsOf e = k) (hk : 0 < k)
    (hn : DataW.trod enc P w base (fun _ => true) held n t [.slice a len cap] = some y) :
    ∃ (f : Nat → List Value), len ≤ cap ∧ cap ≤ maxLen ∧ (a = none → cap = 0) ∧ (∀ j, j < len → Leaves enc P w base (fun _ => true) held ls (f j) ∧ (f j).length = k) ∧ RowsOf w a len k f := by
  rcases open_slice ht hn with ⟨hcs, _⟩ | ⟨ad, len', cap', m, k', D, PL, hcs, hb, hl, hm, hmm, _, hV⟩
  · simp only [List.cons.injEq, and_true] at hcs
    injection hcs with h1 h2 h3
    subst h1 h2 h3
    exact ⟨fun _ => [], Nat.le_refl _, by unfold maxLen; omega, fun _ => rfl, fun i hi => by omega, .inl rfl⟩
  · simp only [List.cons.injEq, and_true] at hcs
    injection hcs with h1 h2 h3
    subst h1 h2 h3
    have key : ∀ i, i < len → ∃ z : List Value, (Leaves enc P w base (fun _ => true) held ls z ∧ z.length = k) ∧ ∀ j, j < k → w.cell? ((ad.add (i * k)).add j) = z[j]? := by
      intro i hi
      obtain ⟨cs', h1, h2⟩ := hV i (by rw [hmm]; split <;> omega)
      have hL := leaves_of q _ _ _ _ _ he h2
      rw [hc] at h1
      obtain ⟨_, hlen, hcell⟩ := World.cells?_some h1
      refine ⟨_, ⟨hL, by simpa using hlen⟩, fun j hj => ?_⟩
      have := hcell j (by omega)
      simpa using this
    obtain ⟨Z, hZ⟩ := choose_lt key
    refine ⟨Z, hl, hm, (fun e => (by cases e)), fun i hi => (hZ i hi).1, ?_⟩
    rcases Nat.eq_zero_or_pos len with h0 | h0
    · exact .inl h0
    · have hc0 := (hZ 0 h0).2 0 hk
      have hs0 : (Z 0)[0]? = some ((Z 0)[0]'(by rw [(hZ 0 h0).1.2]; exact hk)) := List.getElem?_eq_getElem _
      rw [hs0] at hc0
      obtain ⟨blk, off, spot⟩ := ad
      have hs : spot = none := by simpa [Addr.add] using World.cell?_spot hc0
      subst hs
      refine .inr ⟨blk, off, rfl, ?_, fun j hj i hi => ?_⟩
      · have := World.block_lt_of_cell? w _ hc0
        simpa [Addr.add] using this
      · have := (hZ j hj).2 i hi
        rw [Addr.add_lit, Addr.add_lit] at this
        exact this
theorem bytes_in {t e : TypeId} {z : Value} {n : Nat} {y : DataW H × List MemPlace} (ht : P.underlying t = some (.slice e)) (he : P.underlying e = some (.int .u8)) (hc : P.cellsOf e = 1)
    (hf : DataW.trod enc P w base (fun _ => true) held n t [z] = some y) : ∃ (A : Option Addr) (m cc : Nat) (bs : List Int), z = .slice A m cc ∧ bs.length = m ∧ m ≤ cc ∧ cc ≤ 9223372036854775807 ∧ (A = none → cc = 0) ∧ Row w w.heap.size A (bs.map (.int .u8)) ∧ (∀ x ∈ bs, 0 ≤ x ∧ x ≤ 255) := by
  rcases open_ints ht he hc hf with ⟨hcs, _⟩ | ⟨x, l, c, zs, hcs, _, hl, hm, hz, _, hcell, hwz⟩
  · simp at hcs
    subst hcs
    exact ⟨none, 0, 0, [], rfl, rfl, Nat.le_refl _, by omega, fun _ => rfl, .inl rfl, fun x hx => by simp at hx⟩
  · simp at hcs
    subst hcs
    unfold maxLen at hm
    have hzl : zs.length = c := by simpa using hz
    refine ⟨some x, l, c, zs.take l, rfl, by rw [List.length_take]; omega, hl, by omega, (fun h => (by cases h)), row_of_cells (fun i hi => hcell i (by omega)) l, fun v hv => ?_⟩
    have := hwz v (List.mem_of_mem_take hv)
    have h2 : IntKind.u8.min ≤ v ∧ v ≤ IntKind.u8.max := by simpa [Lit.wf] using this
    have e1 : IntKind.u8.min = 0 := by decide
    have e2 : IntKind.u8.max = 255 := by decide
    omega
instance : Inhabited Xt := ⟨⟨0, none, 0, []⟩⟩
theorem ext_leafs : leafs Try.prog 3 73 = some [.int .i64, .sl 22] := by kernel_rfl
theorem six_leafs : leafs Try.prog 4 29 = some [.int .i64, .int .i64, .int .i64, .bool, .int .u64, .int .u64, .bool, .int .u64, .int .u64, .sl 27, .int .i64] := by kernel_rfl
theorem open_exts {a : Option Addr} {len cap n : Nat} {y : DataW H × List MemPlace} (hf : DataW.trod enc Try.prog w base (fun _ => true) held n 27 [.slice a len cap] = some y) :
    ∃ l : List Xt, l.length = len ∧ len ≤ cap ∧ cap ≤ 9223372036854775807 ∧ (a = none → cap = 0) ∧ RdX w a l := by
  obtain ⟨f, h1, h2, h5, h3, h4⟩ := open_rows_leaf 3 2 _ Try.underlying27 ext_leafs (by kernel_rfl) (by omega) hf
  unfold maxLen at h2
  have key : ∀ j, j < len → ∃ e : Xt, f j = e.cells.toList ∧ (Row w w.heap.size e.A (e.d.map (.int .u8)) ∧ e.d.length ≤ e.c ∧ e.c ≤ 9223372036854775807 ∧ U8 e.d ∧ (e.A = none → e.c = 0)) := fun j hj => by
    obtain ⟨_, z0, e0, ⟨kd, rfl, _⟩, hL⟩ := (h3 j hj).1
    obtain ⟨_, z1, rfl, ⟨n', y, hy⟩, hL⟩ := hL
    have hz1 : z1 = [] := hL
    subst hz1
    obtain ⟨A', m', cc', bs, rfl, k1, k2, k3, k4, k5, k6⟩ := bytes_in Try.underlying22 Try.underlying5 (by kernel_rfl) hy
    subst k1
    exact ⟨⟨kd, A', cc', bs⟩, e0, k5, k2, k3, k6, k4⟩
  obtain ⟨g, hg⟩ := choose_lt key
  refine ⟨(List.range len).map g, by simp, h1, by omega, h5, ?_, ?_⟩
  · rcases h4 with h0 | ⟨b, off, k1, k2, k3⟩
    · left; rw [h0]; rfl
    · right
      refine ⟨b, off, k1, k2, fun j hj i hi => ?_⟩
      have hj2 : j < len := by simpa using hj
      rw [k3 j hj2 i hi, (hg j hj2).1]
      simp
  · intro e he
    rw [List.mem_map] at he
    obtain ⟨j, hj, rfl⟩ := he
    exact (hg j (by simpa using hj)).2
set_option maxRecDepth 100000 in
theorem open_six {r : Reach} {v : Value} {d : DataW H} {p : List MemPlace} (hv : Value.okWide Try.prog w r b0 29 v) (h : DataW.Trod enc Try.prog w base (fun _ => true) held 29 v d p) :
    ∃ (x : Hs) (A : Option Addr) (c : Nat) (l : List Xt), v = .agg (x.cells (.slice A l.length c)) ∧ l.length ≤ c ∧ c ≤ 9223372036854775807 ∧ (A = none → c = 0) ∧ RdX w A l ∧ (0 ≤ x.sh ∧ x.sh < 18446744073709551616) ∧ (0 ≤ x.sl ∧ x.sl < 18446744073709551616) ∧ (0 ≤ x.dh ∧ x.dh < 18446744073709551616) ∧ (0 ≤ x.dl ∧ x.dl < 18446744073709551616) := by
  obtain ⟨cs, rfl, hl⟩ := open_leaves 4 _ Try.underlying29 six_leafs hv h
  obtain ⟨c0, _, rfl, ⟨cls, e0, _⟩, hl⟩ := hl
  obtain ⟨c1, _, rfl, ⟨lab, e1, _⟩, hl⟩ := hl
  obtain ⟨c2, _, rfl, ⟨hop, e2, _⟩, hl⟩ := hl
  obtain ⟨c3, _, rfl, ⟨s6, e3⟩, hl⟩ := hl
  obtain ⟨c4, _, rfl, ⟨sh, e4, w4⟩, hl⟩ := hl
  obtain ⟨c5, _, rfl, ⟨sl, e5, w5⟩, hl⟩ := hl
  obtain ⟨c6, _, rfl, ⟨d6, e6⟩, hl⟩ := hl
  obtain ⟨c7, _, rfl, ⟨dh, e7, w7⟩, hl⟩ := hl
  obtain ⟨c8, _, rfl, ⟨dl, e8, w8⟩, hl⟩ := hl
  obtain ⟨c9, _, rfl, ⟨n, z, hz⟩, hl⟩ := hl
  obtain ⟨c10, _, rfl, ⟨pp, e10, _⟩, hl⟩ := hl
  obtain ⟨A, ln, c, hA⟩ := slice_form Try.underlying27 hz
  simp only [List.cons.injEq, and_true] at hA
  simp only [Leaves] at hl
  subst e0 e1 e2 e3 e4 e5 e6 e7 e8 e10 hA hl
  obtain ⟨l, k1, k2, k3, k4, k5⟩ := open_exts hz
  subst k1
  have q4 := bounds_u64 w4
  have q5 := bounds_u64 w5
  have q7 := bounds_u64 w7
  have q8 := bounds_u64 w8
  exact ⟨⟨cls, lab, hop, s6, sh, sl, d6, dh, dl, pp⟩, A, c, l, rfl, k2, k3, k4, k5, by simp only; omega, by simp only; omega, by simp only; omega, by simp only; omega⟩
end
end Go.Proofs.Ytndekicblbpkjaa.base
