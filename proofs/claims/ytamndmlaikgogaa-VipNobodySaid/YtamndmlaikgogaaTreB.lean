/- Layer 16: a tree that stands in memory: how many nodes, is there one, which one. -/
import Derived.Test.YtamndmlaikgogaaTreA
import Derived.Laws.Tables
import Derived.Laws.ResultCell
import Derived.Great.BuildSlice
namespace Go.Proofs.Ytamndmlaikgogaa.treB
open Go.ChangeShapes Go.WideShapes Go.ChangeAt Go.RowKit
open Go.Proofs.Ytamndmlaikgogaa.base Go.Proofs.Ytamndmlaikgogaa.dfA
set_option linter.unusedVariables false

/-- The address may be. -/
def rightB (v6 : Bool) (hi lo : Int) : Bool := v6 || (hi == 0 && decide (lo < 4294967296))
set_option maxHeartbeats 2000000 in
theorem right_any (v6 : Bool) (hi lo : Int) (w : World) : Calls Try.prog 32 #[.agg #[.bool v6, .int .u64 hi, .int .u64 lo]] w fun e w' => e = .returned (.bool (rightB v6 hi lo)) ∧ Below w.heap.size w w' := by
  have HW := Lib.hid ((Below.refl w.heap.size w).alloc (Nat.le_refl _) (.cells #[.bool v6, .int .u64 hi, .int .u64 lo] 27))
  unfold rightB
  go_enter Try.func32, Try.ntmps32
  cases v6 with
  | true =>
    go_wp2
    go_ret
    exact ⟨rfl, HW.out⟩
  | false =>
    by_cases h1 : hi = 0
    · subst h1
      rw [show ((0 : Int) == 0) = true from rfl, Bool.true_and, Bool.false_or]
      go_wp2
      go_ret
      exact ⟨rfl, HW.out⟩
    · rw [show (hi == 0) = false from beq_false_of_ne h1, Bool.false_and, Bool.false_or]
      go_wp2
      go_ret
      exact ⟨rfl, HW.out⟩
/-- A tree's own block: nodes l behind A, kids behind K. -/
structure TreeAt (w : World) (t : Nat) (l : List Nd) (A : Option Addr) (c : Nat) (K : Option Addr) (kn kc : Nat) : Prop where
  nodes : w.cell? ⟨t, 0, none⟩ = some (.slice A l.length c)
  kids : w.cell? ⟨t, 1, none⟩ = some (.slice K kn kc)
  rd : RdN w A l
  cap : l.length ≤ c
  cap2 : c ≤ 9223372036854775807
theorem TreeAt.below {w w' : World} {t : Nat} {l : List Nd} {A : Option Addr} {c : Nat} {K : Option Addr} {kn kc : Nat} (h : TreeAt w t l A c K kn kc) (hb : Below w.heap.size w w') : TreeAt w' t l A c K kn kc :=
  ⟨(hb.cell (p := ⟨t, 0, none⟩) (World.block_lt_of_cell? w _ h.nodes)).trans h.nodes, (hb.cell (p := ⟨t, 1, none⟩) (World.block_lt_of_cell? w _ h.kids)).trans h.kids, h.rd.below hb, h.cap, h.cap2⟩
set_option maxHeartbeats 2000000 in
theorem len_any {t : Nat} {l : List Nd} {A : Option Addr} {c : Nat} {K : Option Addr} {kn kc : Nat} {w : World} (h : TreeAt w t l A c K kn kc) : Calls Try.prog 14 #[.pointer (some ⟨t, 0, none⟩)] w fun e w' => e = .returned (.int .i64 l.length) ∧ Below w.heap.size w w' := by
  have d0 := h.nodes
  have hw := Lib.hid (Below.refl w.heap.size w)
  clear h
  go_enter Try.func14, Try.ntmps14
  go_wp2
  go_ret
  exact ⟨rfl, hw.out⟩
theorem len_none (w : World) : Calls Try.prog 14 #[.pointer none] w fun e w' => e = .returned (.int .i64 0) ∧ Below w.heap.size w w' := by
  have hw := Lib.hid (Below.refl w.heap.size w)
  go_enter Try.func14, Try.ntmps14
  go_wp2
  go_ret
  exact ⟨rfl, hw.out⟩
def isB (i : Int) (n : Nat) : Bool := decide (0 ≤ i) && decide (i < (n : Int))
set_option maxHeartbeats 2000000 in
theorem is_any {t : Nat} {l : List Nd} {A : Option Addr} {c : Nat} {K : Option Addr} {kn kc : Nat} {w : World} (h : TreeAt w t l A c K kn kc) (i : Int) : Calls Try.prog 36 #[.pointer (some ⟨t, 0, none⟩), .int .i64 i] w fun e w' => e = .returned (.bool (isB i l.length)) ∧ Below w.heap.size w w' := by
  have HL := Lib.hid (len_any h)
  have hw := Lib.hid (Below.refl w.heap.size w)
  unfold isB
  clear h
  go_enter Try.func36, Try.ntmps36
  by_cases h0 : 0 ≤ i
  · rw [show decide (0 ≤ i) = true from decide_eq_true h0, Bool.true_and]
    go_wp2_with fail
    refine HL.out.mono ?_
    rintro e w' ⟨rfl, hb⟩
    go_wp2_with fail
    go_ret
    exact ⟨rfl, hb⟩
  · rw [show decide (0 ≤ i) = false from decide_eq_false h0, Bool.false_and]
    go_wp2_with fail
    go_ret
    exact ⟨rfl, hw.out⟩
theorem is_none (i : Int) (w : World) : Calls Try.prog 36 #[.pointer none, .int .i64 i] w fun e w' => e = .returned (.bool false) ∧ Below w.heap.size w w' := by
  have HL := Lib.hid (len_none w)
  have hw := Lib.hid (Below.refl w.heap.size w)
  go_enter Try.func36, Try.ntmps36
  by_cases h0 : 0 ≤ i
  · go_wp2_with fail
    refine HL.out.mono ?_
    rintro e w' ⟨rfl, hb⟩
    have h1 : decide (i < 0) = false := decide_eq_false (by omega)
    go_wp2_with fail
    go_ret
    exact ⟨rfl, hb⟩
  · go_wp2_with fail
    go_ret
    exact ⟨rfl, hw.out⟩
/-- The zero node. -/
def zNd : Nd := ⟨ByteArray.empty, 0, 0, 0, false, 0, 0⟩
/-- A node; the zero one, if there is none. -/
def ndAt (l : List Nd) (i : Int) : Nd := if isB i l.length = true then l.getD i.toNat zNd else zNd
theorem ndAt_none {l : List Nd} {i : Int} (h : isB i l.length = false) : ndAt l i = zNd := by
  unfold ndAt; rw [h]; rfl
theorem size_n : (Try.prog.info? 44).map (·.size) = some 7 := by kernel_rfl
theorem one_n (e : Nd) : e.cells.all (·.oneCell') = true := by simp [Nd.cells, Value.oneCell']
theorem below_row {B g : Nat} {a w : World} (h : Below B a w) (hg : B ≤ g) (cs : Array Value) : Below B a (w.setRow g cs) :=
  ⟨h.os, h.tape, h.output, Nat.le_trans h.size (by unfold World.setRow; simp), fun k hk => (setRow_other _ _ _ _ (by omega)).trans (h.block k hk)⟩
theorem results_nd {fn : Func} {p : Tmp} (h : fn.results = #[.cell p 44]) (tmps : Array Value) (w : World) (g : Nat) (e : Nd) (hp : tmps.getD p undef = .pointer (some ⟨g, 0, none⟩)) (hg : Blk w g 44 e.cells) :
    (results fn tmps).run Try.prog w = .ok (.agg e.cells) w :=
  results_cell_row h tmps w g 44 e.cells (0, 0) _ hp hg Try.underlying44 rfl size_n
set_option maxHeartbeats 2000000 in
theorem node_none (i : Int) (w : World) : Calls Try.prog 15 #[.pointer none, .int .i64 i] w fun e w' => e = .returned (.agg zNd.cells) ∧ Below w.heap.size w w' := by
  obtain ⟨w1, hw1⟩ : ∃ w1, w1 = w.alloc (.cells #[.string ByteArray.empty, .int .i64 0, .int .i64 0, .int .i64 0, .bool false, .int .u64 0, .int .u64 0] 44) := ⟨_, rfl⟩
  have HI := Lib.hid (is_none i w1)
  have HW := Lib.hid (show Below w.heap.size w w1 from hw1 ▸ (Below.refl w.heap.size w).alloc (Nat.le_refl _) _)
  have HB1 := Lib.hid (show Blk w1 w.heap.size 44 zNd.cells from hw1 ▸ Blk.new w _ _)
  have HW1 := Lib.hid hw1
  clear hw1
  go_enter Try.func15, Try.ntmps15
  go_wp2_with fail
  rw [show w.alloc (.cells #[.string ⟨#[]⟩, .int .i64 0, .int .i64 0, .int .i64 0, .bool false, .int .u64 0, .int .u64 0] 44) = w1 from HW1.out.symm]
  refine HI.out.mono ?_
  rintro e w2 ⟨rfl, hb⟩
  have B2 := Lib.hid (HW.out.trans (hb.mono HW.out.size))
  have K2 := Lib.hid (show Blk w2 w.heap.size 44 zNd.cells from (hb.block _ HB1.out.lt).trans HB1.out)
  clear hb
  have HBL := Lib.hid (setRow_heap _ w.heap.size _ zNd.cells _ (0, 0) K2.out)
  have BZ := Lib.hid (below_row B2.out (Nat.le_refl w.heap.size) zNd.cells)
  go_wp2_with (refine wpList_store_row rfl 44 _ _ rfl w.heap.size zNd.cells rfl rfl 44 zNd.cells K2.out size_n rfl (one_n _) ?_)
  refine bodyPost_ret (results_nd rfl _ _ w.heap.size zNd rfl HBL.out) rfl ⟨rfl, BZ.out⟩
set_option maxHeartbeats 2000000 in
theorem node_any {t : Nat} {l : List Nd} {A : Option Addr} {c : Nat} {K : Option Addr} {kn kc : Nat} {w : World} (h : TreeAt w t l A c K kn kc) (i : Int) : Calls Try.prog 15 #[.pointer (some ⟨t, 0, none⟩), .int .i64 i] w fun e w' => e = .returned (.agg (ndAt l i).cells) ∧ Below w.heap.size w w' := by
  obtain ⟨w1, hw1⟩ : ∃ w1, w1 = w.alloc (.cells #[.string ByteArray.empty, .int .i64 0, .int .i64 0, .int .i64 0, .bool false, .int .u64 0, .int .u64 0] 44) := ⟨_, rfl⟩
  have HW := Lib.hid (show Below w.heap.size w w1 from hw1 ▸ (Below.refl w.heap.size w).alloc (Nat.le_refl _) _)
  have HB1 := Lib.hid (show Blk w1 w.heap.size 44 zNd.cells from hw1 ▸ Blk.new w _ _)
  have HT := Lib.hid (h.below HW.out)
  have HI := Lib.hid (is_any HT.out i)
  have HW1 := Lib.hid hw1
  clear hw1 h
  cases hq : isB i l.length with
  | false =>
    rw [ndAt_none hq]
    rw [hq] at HI
    clear hq
    go_enter Try.func15, Try.ntmps15
    go_wp2_with fail
    rw [show w.alloc (.cells #[.string ⟨#[]⟩, .int .i64 0, .int .i64 0, .int .i64 0, .bool false, .int .u64 0, .int .u64 0] 44) = w1 from HW1.out.symm]
    refine HI.out.mono ?_
    rintro e w2 ⟨rfl, hb⟩
    have B2 := Lib.hid (HW.out.trans (hb.mono HW.out.size))
    have K2 := Lib.hid (show Blk w2 w.heap.size 44 zNd.cells from (hb.block _ HB1.out.lt).trans HB1.out)
    clear hb
    have HBL := Lib.hid (setRow_heap _ w.heap.size _ zNd.cells _ (0, 0) K2.out)
    have BZ := Lib.hid (below_row B2.out (Nat.le_refl w.heap.size) zNd.cells)
    go_wp2_with (refine wpList_store_row rfl 44 _ _ rfl w.heap.size zNd.cells rfl rfl 44 zNd.cells K2.out size_n rfl (one_n _) ?_)
    refine bodyPost_ret (results_nd rfl _ _ w.heap.size zNd rfl HBL.out) rfl ⟨rfl, BZ.out⟩
  | true =>
    rw [hq] at HI
    obtain ⟨j, rfl, hj⟩ : ∃ j : Nat, i = (j : Int) ∧ j < l.length := by
      unfold isB at hq
      simp only [Bool.and_eq_true, decide_eq_true_eq] at hq
      exact ⟨i.toNat, by omega, by omega⟩
    have hnd : ndAt l (j : Int) = l[j] := by
      unfold ndAt
      rw [hq, if_pos rfl, Int.toNat_natCast, List.getD_eq_getElem?_getD, List.getElem?_eq_getElem hj]
      rfl
    obtain ⟨e, he⟩ : ∃ e, e = l[j] := ⟨_, rfl⟩
    rw [hnd, ← he]
    clear hq hnd
    go_enter Try.func15, Try.ntmps15
    go_wp2_with fail
    rw [show w.alloc (.cells #[.string ⟨#[]⟩, .int .i64 0, .int .i64 0, .int .i64 0, .bool false, .int .u64 0, .int .u64 0] 44) = w1 from HW1.out.symm]
    refine HI.out.mono ?_
    rintro e w2 ⟨rfl, hb⟩
    have B2 := Lib.hid (HW.out.trans (hb.mono HW.out.size))
    have K2 := Lib.hid (show Blk w2 w.heap.size 44 zNd.cells from (hb.block _ HB1.out.lt).trans HB1.out)
    have hT2 := HT.out.below hb
    have dn := hT2.nodes
    obtain ⟨b, off, hA, hbl, hC⟩ := hT2.rd.at_ j hj
    subst hA
    have hcap := hT2.cap
    have hcap2 := hT2.cap2
    rw [← he] at hC
    have d0 : w2.cell? ⟨b, off + j * 7, none⟩ = some (.string e.nm) := hC 0 (by omega)
    have d1 : w2.cell? ⟨b, off + j * 7 + 1, none⟩ = some (.int .i64 e.kind) := hC 1 (by omega)
    have d2 : w2.cell? ⟨b, off + j * 7 + 2, none⟩ = some (.int .i64 e.ab) := hC 2 (by omega)
    have d3 : w2.cell? ⟨b, off + j * 7 + 3, none⟩ = some (.int .i64 e.wt) := hC 3 (by omega)
    have d4 : w2.cell? ⟨b, off + j * 7 + 4, none⟩ = some (.bool e.v6) := hC 4 (by omega)
    have d5 : w2.cell? ⟨b, off + j * 7 + 5, none⟩ = some (.int .u64 e.hi) := hC 5 (by omega)
    have d6 : w2.cell? ⟨b, off + j * 7 + 6, none⟩ = some (.int .u64 e.lo) := hC 6 (by omega)
    have j0 : (0 : Int) ≤ j := by omega
    have j1 : (j : Int) < l.length := by omega
    have HBL := Lib.hid (setRow_heap _ w.heap.size _ e.cells _ (0, 0) K2.out)
    have BZ := Lib.hid (below_row B2.out (Nat.le_refl w.heap.size) e.cells)
    clear hb hT2 hC he
    go_wp2_with (refine wpList_store_row rfl 44 _ _ rfl w.heap.size e.cells rfl rfl 44 zNd.cells K2.out size_n rfl (one_n _) ?_)
    refine bodyPost_ret (results_nd rfl _ _ w.heap.size e rfl HBL.out) rfl ⟨rfl, BZ.out⟩
end Go.Proofs.Ytamndmlaikgogaa.treB
