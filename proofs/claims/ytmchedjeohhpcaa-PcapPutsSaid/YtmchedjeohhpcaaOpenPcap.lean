/- A file that came in. -/
import Derived.Test.YtmchedjeohhpcaaOpenRows
import Derived.Test.YtmchedjeohhpcaaPcapQ
namespace Go.Proofs.Ytmchedjeohhpcaa.base
open Go.RowKit Go.WideShapes Go.ChangeShapes Go.Joins Go.Deep
open Go.Proofs.Ytmchedjeohhpcaa.pcapA Go.Proofs.Ytmchedjeohhpcaa.pcapB Go.Proofs.Ytmchedjeohhpcaa.pcapC Go.Proofs.Ytmchedjeohhpcaa.pcapG Go.Proofs.Ytmchedjeohhpcaa.pcapJ Go.Proofs.Ytmchedjeohhpcaa.pcapQ
set_option linter.unusedVariables false
section
variable {H : Type} {enc : TypeId × Value → H} {w : World} {base b0 : Nat} {held : Bool} {P : Program}
theorem rows_of {t e : TypeId} {a : Option Addr} {len cap : Nat} {n : Nat} {y : DataW H × List MemPlace} (q k : Nat) (ls : List Leaf) (ht : P.underlying t = some (.slice e)) (he : leafs P q e = some ls) (hc : P.cellsOf e = k) (hk : 0 < k)
    (hn : DataW.trod enc P w base (fun _ => true) held n t [.slice a len cap] = some y) :
    ∃ (f : Nat → List Value), len ≤ cap ∧ cap ≤ maxLen ∧ (∀ j, j < len → Leaves enc P w base (fun _ => true) held ls (f j) ∧ (f j).length = k) ∧ RowsOf w a len k f := by
  rcases open_slice ht hn with ⟨hcs, _⟩ | ⟨ad, len', cap', m, k', D, PL, hcs, hb, hl, hm, hmm, _, hV⟩
  · simp only [List.cons.injEq, and_true] at hcs
    injection hcs with h1 h2 h3
    subst h1 h2 h3
    exact ⟨fun _ => [], Nat.le_refl _, by unfold maxLen; omega, fun i hi => by omega, .inl rfl⟩
  · simp only [List.cons.injEq, and_true] at hcs
    injection hcs with h1 h2 h3
    subst h1 h2 h3
    have key : ∀ i, i < len → ∃ z : List Value, (Leaves enc P w base (fun _ => true) held ls z ∧ z.length = k) ∧ ∀ j, j < k → w.cell? ((ad.add (i * k)).add j) = z[j]? := by
      intro i hi
      obtain ⟨cs', h1, h2⟩ := hV i (by rw [hmm]; split <;> omega)
      have hL := leaves_of q _ _ _ _ _ he h2
      rw [hc] at h1
      obtain ⟨_, hlen, hcell⟩ := World.cells?_some h1
      refine ⟨_, ⟨hL, by simpa using hlen⟩, fun j hj => ?_⟩
      have := hcell j (by omega)
      simpa using this
    obtain ⟨Z, hZ⟩ := choose_lt key
    refine ⟨Z, hl, hm, fun i hi => (hZ i hi).1, ?_⟩
    rcases Nat.eq_zero_or_pos len with h0 | h0
    · exact .inl h0
    · have hc0 := (hZ 0 h0).2 0 hk
      have hs0 : (Z 0)[0]? = some ((Z 0)[0]'(by rw [(hZ 0 h0).1.2]; exact hk)) := List.getElem?_eq_getElem _
      rw [hs0] at hc0
      obtain ⟨blk, off, spot⟩ := ad
      have hs : spot = none := by simpa [Addr.add] using World.cell?_spot hc0
      subst hs
      refine .inr ⟨blk, off, rfl, ?_, fun j hj i hi => ?_⟩
      · have := World.block_lt_of_cell? w _ hc0
        simpa [Addr.add] using this
      · have := (hZ j hj).2 i hi
        rw [Addr.add_lit, Addr.add_lit] at this
        exact this
theorem bytes_of {t e : TypeId} {z : Value} {n : Nat} {y : DataW H × List MemPlace} (ht : P.underlying t = some (.slice e)) (he : P.underlying e = some (.int .u8)) (hc : P.cellsOf e = 1)
    (hf : DataW.trod enc P w base (fun _ => true) held n t [z] = some y) : ∃ A m cc bs, z = .slice A m cc ∧ bs.length = m ∧ m ≤ cc ∧ cc ≤ 9223372036854775807 ∧ (A = none → cc = 0) ∧ Row w w.heap.size A (bs.map (.int .u8)) ∧ Byte bs := by
  rcases open_ints ht he hc hf with ⟨hcs, _⟩ | ⟨x, l, c, zs, hcs, _, hl, hm, hz, _, hcell, hwz⟩
  · simp at hcs
    subst hcs
    exact ⟨none, 0, 0, [], rfl, rfl, Nat.le_refl _, by omega, fun _ => rfl, .inl rfl, fun x hx => by simp at hx⟩
  · simp at hcs
    subst hcs
    unfold maxLen at hm
    have hzl : zs.length = c := by simpa using hz
    refine ⟨some x, l, c, zs.take l, rfl, by rw [List.length_take]; omega, hl, by omega, (fun h => (by cases h)), row_of_cells (fun i hi => hcell i (by omega)) l, fun v hv => ?_⟩
    have := hwz v (List.mem_of_mem_take hv)
    have h2 : IntKind.u8.min ≤ v ∧ v ≤ IntKind.u8.max := by simpa [Lit.wf] using this
    have e1 : IntKind.u8.min = 0 := by decide
    have e2 : IntKind.u8.max = 255 := by decide
    omega
instance : Inhabited Rc := ⟨⟨0, 0, 0, none, 0, 0, []⟩⟩
theorem wf_u32 {x : Int} (h : (Lit.int .u32 x).wf = true) : ∃ n : Nat, x = (n : Int) ∧ n < 4294967296 := by
  have h2 : IntKind.u32.min ≤ x ∧ x ≤ IntKind.u32.max := by simpa [Lit.wf] using h
  have e1 : IntKind.u32.min = 0 := by decide
  have e2 : IntKind.u32.max = 4294967295 := by decide
  exact ⟨x.toNat, by omega, by omega⟩
theorem rec_leafs : leafs Try.prog 3 38 = some [.int .u32, .int .u32, .int .u32, .sl 27] := by kernel_rfl
theorem file_leafs : leafs Try.prog 3 25 = some [.bool, .int .u32, .int .u32, .sl 23] := by kernel_rfl
theorem open_file {r : Reach} {v : Value} {d : DataW H} {p : List MemPlace} (hv : Value.okWide Try.prog w r b0 25 v) (h : DataW.Trod enc Try.prog w base (fun _ => true) held 25 v d p) :
    ∃ (big : Bool) (sn link : Nat) (A : Option Addr) (c : Nat) (l : List Rc), v = .agg #[.bool big, .int .u32 (sn : Int), .int .u32 (link : Int), .slice A l.length c] ∧ sn < 4294967296 ∧ link < 4294967296 ∧ l.length ≤ c ∧ c ≤ 9223372036854775807 ∧ RdR w A l ∧ ∀ e ∈ l, InR w e := by
  obtain ⟨cs, rfl, hl⟩ := open_leaves 3 _ Try.underlying25 file_leafs hv h
  obtain ⟨c0, _, rfl, ⟨big, e0⟩, hl⟩ := hl
  obtain ⟨c1, _, rfl, ⟨sn, e1, w1⟩, hl⟩ := hl
  obtain ⟨c2, _, rfl, ⟨link, e2, w2⟩, hl⟩ := hl
  obtain ⟨c3, _, rfl, ⟨n, z, hz⟩, hl⟩ := hl
  obtain ⟨A, len, c, hA⟩ := slice_form Try.underlying23 hz
  simp only [List.cons.injEq, and_true] at hA
  simp only [Leaves] at hl
  subst e0 e1 e2 hA hl
  obtain ⟨sn, rfl, hsn⟩ := wf_u32 w1
  obtain ⟨link, rfl, hlk⟩ := wf_u32 w2
  obtain ⟨f, h1, h2, h3, h4⟩ := rows_of 3 4 _ Try.underlying23 rec_leafs (by kernel_rfl) (by omega) hz
  unfold maxLen at h2
  have key : ∀ j, j < len → ∃ e : Rc, f j = e.cells.toList ∧ InR w e := fun j hj => by
    obtain ⟨_, z0, e0, ⟨sec, rfl, ws⟩, hL⟩ := (h3 j hj).1
    obtain ⟨_, z1, rfl, ⟨mic, rfl, wm⟩, hL⟩ := hL
    obtain ⟨_, z2, rfl, ⟨sz, rfl, wz⟩, hL⟩ := hL
    obtain ⟨_, z3, rfl, ⟨n', y, hy⟩, hL⟩ := hL
    have hz3 : z3 = [] := hL
    subst hz3
    obtain ⟨sec, rfl, hs⟩ := wf_u32 ws
    obtain ⟨mic, rfl, hm⟩ := wf_u32 wm
    obtain ⟨sz, rfl, hz⟩ := wf_u32 wz
    obtain ⟨A', m', cc', bs, rfl, k1, k2, k3, k4, k5, k6⟩ := bytes_of Try.underlying27 Try.underlying5 (by kernel_rfl) hy
    exact ⟨⟨sec, mic, sz, A', m', cc', bs⟩, e0, hs, hm, hz, k2, k3, k4, k5, k1, k6⟩
  obtain ⟨g, hg⟩ := choose_lt key
  refine ⟨big, sn, link, A, c, (List.range len).map g, by simp, hsn, hlk, by simpa using h1, by omega, ?_, ?_⟩
  · rcases h4 with h0 | ⟨b, off, k1, k2, k3⟩
    · left; rw [h0]; rfl
    · right
      refine ⟨b, off, k1, k2, fun j hj i hi => ?_⟩
      have hj2 : j < len := by simpa using hj
      rw [k3 j hj2 i hi, (hg j hj2).1]
      simp
  · intro e he
    rw [List.mem_map] at he
    obtain ⟨j, hj, rfl⟩ := he
    exact (hg j (by simpa using hj)).2
end
end Go.Proofs.Ytmchedjeohhpcaa.base
