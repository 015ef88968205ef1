/- 4 texts in one. -/
import Derived.Laws.Tables
import Derived.Laws.ResultCell
import Derived.Great.BuildSlice
import Derived.OwnWalk
import Derived.ArgAppend
import Derived.Laws.AppendOwn
import Derived.Test.YtoaboklckkcjcaaGreatPk01
import Derived.Test.YtoaboklckkcjcaaGreatPk04
/- Layer 16: a tree that stands in memory: how many nodes, is there one, which one. -/
namespace Go.Proofs.YtoaboklckkcjcaaGreat.treB
open Go.ChangeShapes Go.WideShapes Go.ChangeAt Go.RowKit
open Go.Proofs.YtoaboklckkcjcaaGreat.base Go.Proofs.YtoaboklckkcjcaaGreat.dfA
set_option linter.unusedVariables false

/-- The address may be. -/
def rightB (v6 : Bool) (hi lo : Int) : Bool := v6 || (hi == 0 && decide (lo < 4294967296))
set_option maxHeartbeats 2000000 in
theorem right_any (v6 : Bool) (hi lo : Int) (w : World) : Calls Tryz.prog 66 #[.agg #[.bool v6, .int .u64 hi, .int .u64 lo]] w fun e w' => e = .returned (.bool (rightB v6 hi lo)) ∧ Below w.heap.size w w' := by
  have HW := Lib.hid ((Below.refl w.heap.size w).alloc (Nat.le_refl _) (.cells #[.bool v6, .int .u64 hi, .int .u64 lo] 65))
  unfold rightB
  go_enter Tryz.func66, Tryz.ntmps66
  cases v6 with
  | true =>
    go_wp2
    go_ret
    exact ⟨rfl, HW.out⟩
  | false =>
    by_cases h1 : hi = 0
    · subst h1
      rw [show ((0 : Int) == 0) = true from rfl, Bool.true_and, Bool.false_or]
      go_wp2
      go_ret
      exact ⟨rfl, HW.out⟩
    · rw [show (hi == 0) = false from beq_false_of_ne h1, Bool.false_and, Bool.false_or]
      go_wp2
      go_ret
      exact ⟨rfl, HW.out⟩
/-- A tree's own block: nodes l behind A, kids behind K. -/
structure TreeAt (w : World) (t : Nat) (l : List Nd) (A : Option Addr) (c : Nat) (K : Option Addr) (kn kc : Nat) : Prop where
  nodes : w.cell? ⟨t, 0, none⟩ = some (.slice A l.length c)
  kids : w.cell? ⟨t, 1, none⟩ = some (.slice K kn kc)
  rd : RdN w A l
  cap : l.length ≤ c
  cap2 : c ≤ 9223372036854775807
theorem TreeAt.below {w w' : World} {t : Nat} {l : List Nd} {A : Option Addr} {c : Nat} {K : Option Addr} {kn kc : Nat} (h : TreeAt w t l A c K kn kc) (hb : Below w.heap.size w w') : TreeAt w' t l A c K kn kc :=
  ⟨(hb.cell (p := ⟨t, 0, none⟩) (World.block_lt_of_cell? w _ h.nodes)).trans h.nodes, (hb.cell (p := ⟨t, 1, none⟩) (World.block_lt_of_cell? w _ h.kids)).trans h.kids, h.rd.below hb, h.cap, h.cap2⟩
set_option maxHeartbeats 2000000 in
theorem len_any {t : Nat} {l : List Nd} {A : Option Addr} {c : Nat} {K : Option Addr} {kn kc : Nat} {w : World} (h : TreeAt w t l A c K kn kc) : Calls Tryz.prog 42 #[.pointer (some ⟨t, 0, none⟩)] w fun e w' => e = .returned (.int .i64 l.length) ∧ Below w.heap.size w w' := by
  have d0 := h.nodes
  have hw := Lib.hid (Below.refl w.heap.size w)
  clear h
  go_enter Tryz.func42, Tryz.ntmps42
  go_wp2
  go_ret
  exact ⟨rfl, hw.out⟩
theorem len_none (w : World) : Calls Tryz.prog 42 #[.pointer none] w fun e w' => e = .returned (.int .i64 0) ∧ Below w.heap.size w w' := by
  have hw := Lib.hid (Below.refl w.heap.size w)
  go_enter Tryz.func42, Tryz.ntmps42
  go_wp2
  go_ret
  exact ⟨rfl, hw.out⟩
def isB (i : Int) (n : Nat) : Bool := decide (0 ≤ i) && decide (i < (n : Int))
set_option maxHeartbeats 2000000 in
theorem is_any {t : Nat} {l : List Nd} {A : Option Addr} {c : Nat} {K : Option Addr} {kn kc : Nat} {w : World} (h : TreeAt w t l A c K kn kc) (i : Int) : Calls Tryz.prog 63 #[.pointer (some ⟨t, 0, none⟩), .int .i64 i] w fun e w' => e = .returned (.bool (isB i l.length)) ∧ Below w.heap.size w w' := by
  have HL := Lib.hid (len_any h)
  have hw := Lib.hid (Below.refl w.heap.size w)
  unfold isB
  clear h
  go_enter Tryz.func63, Tryz.ntmps63
  by_cases h0 : 0 ≤ i
  · rw [show decide (0 ≤ i) = true from decide_eq_true h0, Bool.true_and]
    go_wp2_with fail
    refine HL.out.mono ?_
    rintro e w' ⟨rfl, hb⟩
    go_wp2_with fail
    go_ret
    exact ⟨rfl, hb⟩
  · rw [show decide (0 ≤ i) = false from decide_eq_false h0, Bool.false_and]
    go_wp2_with fail
    go_ret
    exact ⟨rfl, hw.out⟩
theorem is_none (i : Int) (w : World) : Calls Tryz.prog 63 #[.pointer none, .int .i64 i] w fun e w' => e = .returned (.bool false) ∧ Below w.heap.size w w' := by
  have HL := Lib.hid (len_none w)
  have hw := Lib.hid (Below.refl w.heap.size w)
  go_enter Tryz.func63, Tryz.ntmps63
  by_cases h0 : 0 ≤ i
  · go_wp2_with fail
    refine HL.out.mono ?_
    rintro e w' ⟨rfl, hb⟩
    have h1 : decide (i < 0) = false := decide_eq_false (by omega)
    go_wp2_with fail
    go_ret
    exact ⟨rfl, hb⟩
  · go_wp2_with fail
    go_ret
    exact ⟨rfl, hw.out⟩
/-- The zero node. -/
def zNd : Nd := ⟨ByteArray.empty, 0, 0, 0, false, 0, 0⟩
/-- A node; the zero one, if there is none. -/
def ndAt (l : List Nd) (i : Int) : Nd := if isB i l.length = true then l.getD i.toNat zNd else zNd
theorem ndAt_none {l : List Nd} {i : Int} (h : isB i l.length = false) : ndAt l i = zNd := by
  unfold ndAt; rw [h]; rfl
theorem size_n : (Tryz.prog.info? 67).map (·.size) = some 7 := by kernel_rfl
theorem one_n (e : Nd) : e.cells.all (·.oneCell') = true := by simp [Nd.cells, Value.oneCell']
theorem below_row {B g : Nat} {a w : World} (h : Below B a w) (hg : B ≤ g) (cs : Array Value) : Below B a (w.setRow g cs) :=
  ⟨h.os, h.tape, h.output, Nat.le_trans h.size (by unfold World.setRow; simp), fun k hk => (setRow_other _ _ _ _ (by omega)).trans (h.block k hk)⟩
theorem results_nd {fn : Func} {p : Tmp} (h : fn.results = #[.cell p 67]) (tmps : Array Value) (w : World) (g : Nat) (e : Nd) (hp : tmps.getD p undef = .pointer (some ⟨g, 0, none⟩)) (hg : Blk w g 67 e.cells) :
    (results fn tmps).run Tryz.prog w = .ok (.agg e.cells) w :=
  results_cell_row h tmps w g 67 e.cells (0, 0) _ hp hg Tryz.underlying67 rfl size_n
set_option maxHeartbeats 2000000 in
theorem node_none (i : Int) (w : World) : Calls Tryz.prog 30 #[.pointer none, .int .i64 i] w fun e w' => e = .returned (.agg zNd.cells) ∧ Below w.heap.size w w' := by
  obtain ⟨w1, hw1⟩ : ∃ w1, w1 = w.alloc (.cells #[.string ByteArray.empty, .int .i64 0, .int .i64 0, .int .i64 0, .bool false, .int .u64 0, .int .u64 0] 67) := ⟨_, rfl⟩
  have HI := Lib.hid (is_none i w1)
  have HW := Lib.hid (show Below w.heap.size w w1 from hw1 ▸ (Below.refl w.heap.size w).alloc (Nat.le_refl _) _)
  have HB1 := Lib.hid (show Blk w1 w.heap.size 67 zNd.cells from hw1 ▸ Blk.new w _ _)
  have HW1 := Lib.hid hw1
  clear hw1
  go_enter Tryz.func30, Tryz.ntmps30
  go_wp2_with fail
  rw [show w.alloc (.cells #[.string ⟨#[]⟩, .int .i64 0, .int .i64 0, .int .i64 0, .bool false, .int .u64 0, .int .u64 0] 67) = w1 from HW1.out.symm]
  refine HI.out.mono ?_
  rintro e w2 ⟨rfl, hb⟩
  have B2 := Lib.hid (HW.out.trans (hb.mono HW.out.size))
  have K2 := Lib.hid (show Blk w2 w.heap.size 67 zNd.cells from (hb.block _ HB1.out.lt).trans HB1.out)
  clear hb
  have HBL := Lib.hid (setRow_heap _ w.heap.size _ zNd.cells _ (0, 0) K2.out)
  have BZ := Lib.hid (below_row B2.out (Nat.le_refl w.heap.size) zNd.cells)
  go_wp2_with (refine wpList_store_row rfl 67 _ _ rfl w.heap.size zNd.cells rfl rfl 67 zNd.cells K2.out size_n rfl (one_n _) ?_)
  refine bodyPost_ret (results_nd rfl _ _ w.heap.size zNd rfl HBL.out) rfl ⟨rfl, BZ.out⟩
set_option maxHeartbeats 2000000 in
theorem node_any {t : Nat} {l : List Nd} {A : Option Addr} {c : Nat} {K : Option Addr} {kn kc : Nat} {w : World} (h : TreeAt w t l A c K kn kc) (i : Int) : Calls Tryz.prog 30 #[.pointer (some ⟨t, 0, none⟩), .int .i64 i] w fun e w' => e = .returned (.agg (ndAt l i).cells) ∧ Below w.heap.size w w' := by
  obtain ⟨w1, hw1⟩ : ∃ w1, w1 = w.alloc (.cells #[.string ByteArray.empty, .int .i64 0, .int .i64 0, .int .i64 0, .bool false, .int .u64 0, .int .u64 0] 67) := ⟨_, rfl⟩
  have HW := Lib.hid (show Below w.heap.size w w1 from hw1 ▸ (Below.refl w.heap.size w).alloc (Nat.le_refl _) _)
  have HB1 := Lib.hid (show Blk w1 w.heap.size 67 zNd.cells from hw1 ▸ Blk.new w _ _)
  have HT := Lib.hid (h.below HW.out)
  have HI := Lib.hid (is_any HT.out i)
  have HW1 := Lib.hid hw1
  clear hw1 h
  cases hq : isB i l.length with
  | false =>
    rw [ndAt_none hq]
    rw [hq] at HI
    clear hq
    go_enter Tryz.func30, Tryz.ntmps30
    go_wp2_with fail
    rw [show w.alloc (.cells #[.string ⟨#[]⟩, .int .i64 0, .int .i64 0, .int .i64 0, .bool false, .int .u64 0, .int .u64 0] 67) = w1 from HW1.out.symm]
    refine HI.out.mono ?_
    rintro e w2 ⟨rfl, hb⟩
    have B2 := Lib.hid (HW.out.trans (hb.mono HW.out.size))
    have K2 := Lib.hid (show Blk w2 w.heap.size 67 zNd.cells from (hb.block _ HB1.out.lt).trans HB1.out)
    clear hb
    have HBL := Lib.hid (setRow_heap _ w.heap.size _ zNd.cells _ (0, 0) K2.out)
    have BZ := Lib.hid (below_row B2.out (Nat.le_refl w.heap.size) zNd.cells)
    go_wp2_with (refine wpList_store_row rfl 67 _ _ rfl w.heap.size zNd.cells rfl rfl 67 zNd.cells K2.out size_n rfl (one_n _) ?_)
    refine bodyPost_ret (results_nd rfl _ _ w.heap.size zNd rfl HBL.out) rfl ⟨rfl, BZ.out⟩
  | true =>
    rw [hq] at HI
    obtain ⟨j, rfl, hj⟩ : ∃ j : Nat, i = (j : Int) ∧ j < l.length := by
      unfold isB at hq
      simp only [Bool.and_eq_true, decide_eq_true_eq] at hq
      exact ⟨i.toNat, by omega, by omega⟩
    have hnd : ndAt l (j : Int) = l[j] := by
      unfold ndAt
      rw [hq, if_pos rfl, Int.toNat_natCast, List.getD_eq_getElem?_getD, List.getElem?_eq_getElem hj]
      rfl
    obtain ⟨e, he⟩ : ∃ e, e = l[j] := ⟨_, rfl⟩
    rw [hnd, ← he]
    clear hq hnd
    go_enter Tryz.func30, Tryz.ntmps30
    go_wp2_with fail
    rw [show w.alloc (.cells #[.string ⟨#[]⟩, .int .i64 0, .int .i64 0, .int .i64 0, .bool false, .int .u64 0, .int .u64 0] 67) = w1 from HW1.out.symm]
    refine HI.out.mono ?_
    rintro e w2 ⟨rfl, hb⟩
    have B2 := Lib.hid (HW.out.trans (hb.mono HW.out.size))
    have K2 := Lib.hid (show Blk w2 w.heap.size 67 zNd.cells from (hb.block _ HB1.out.lt).trans HB1.out)
    have hT2 := HT.out.below hb
    have dn := hT2.nodes
    obtain ⟨b, off, hA, hbl, hC⟩ := hT2.rd.at_ j hj
    subst hA
    have hcap := hT2.cap
    have hcap2 := hT2.cap2
    rw [← he] at hC
    have d0 : w2.cell? ⟨b, off + j * 7, none⟩ = some (.string e.nm) := hC 0 (by omega)
    have d1 : w2.cell? ⟨b, off + j * 7 + 1, none⟩ = some (.int .i64 e.kind) := hC 1 (by omega)
    have d2 : w2.cell? ⟨b, off + j * 7 + 2, none⟩ = some (.int .i64 e.ab) := hC 2 (by omega)
    have d3 : w2.cell? ⟨b, off + j * 7 + 3, none⟩ = some (.int .i64 e.wt) := hC 3 (by omega)
    have d4 : w2.cell? ⟨b, off + j * 7 + 4, none⟩ = some (.bool e.v6) := hC 4 (by omega)
    have d5 : w2.cell? ⟨b, off + j * 7 + 5, none⟩ = some (.int .u64 e.hi) := hC 5 (by omega)
    have d6 : w2.cell? ⟨b, off + j * 7 + 6, none⟩ = some (.int .u64 e.lo) := hC 6 (by omega)
    have j0 : (0 : Int) ≤ j := by omega
    have j1 : (j : Int) < l.length := by omega
    have HBL := Lib.hid (setRow_heap _ w.heap.size _ e.cells _ (0, 0) K2.out)
    have BZ := Lib.hid (below_row B2.out (Nat.le_refl w.heap.size) e.cells)
    clear hb hT2 hC he
    go_wp2_with (refine wpList_store_row rfl 67 _ _ rfl w.heap.size e.cells rfl rfl 67 zNd.cells K2.out size_n rfl (one_n _) ?_)
    refine bodyPost_ret (results_nd rfl _ _ w.heap.size e rfl HBL.out) rfl ⟨rfl, BZ.out⟩
end Go.Proofs.YtoaboklckkcjcaaGreat.treB
/- Layer 16: is there a node of a node's name, or of its address? -/
namespace Go.Proofs.YtoaboklckkcjcaaGreat.treC
open Go.ChangeShapes Go.WideShapes Go.ChangeAt Go.RowKit
open Go.Proofs.YtoaboklckkcjcaaGreat.base Go.Proofs.YtoaboklckkcjcaaGreat.dfA Go.Proofs.YtoaboklckkcjcaaGreat.treB
set_option linter.unusedVariables false

/-- May two nodes not stand together? -/
def twB (x n : Nd) : Bool := (x.nm.toList == n.nm.toList) || (x.kind == 4 && n.kind == 4 && (x.v6 == n.v6 && x.hi == n.hi && x.lo == n.lo))
def hasB (l : List Nd) (n : Nd) : Bool := l.any fun x => twB x n
set_option maxHeartbeats 4000000 in
theorem has1_any (x n : Nd) (c : Nat) (w : World) (hc : Blk w c 67 n.cells) : Calls Tryz.prog 106 #[.agg x.cells, .pointer (some ⟨c, 0, none⟩)] w fun o w' => o = .returned (.bool (twB x n)) ∧ Below w.heap.size w w' := by
  have HW := Lib.hid (show Below w.heap.size w (w.alloc (.cells #[.string x.nm, .int .i64 x.kind, .int .i64 x.ab, .int .i64 x.wt, .bool x.v6, .int .u64 x.hi, .int .u64 x.lo] 67)) from (Below.refl w.heap.size w).alloc (Nat.le_refl _) _)
  have hC : Blk (w.alloc (.cells #[.string x.nm, .int .i64 x.kind, .int .i64 x.ab, .int .i64 x.wt, .bool x.v6, .int .u64 x.hi, .int .u64 x.lo] 67)) c 67 n.cells := (HW.out.block c hc.lt).trans hc
  have c0 : (w.alloc (.cells #[.string x.nm, .int .i64 x.kind, .int .i64 x.ab, .int .i64 x.wt, .bool x.v6, .int .u64 x.hi, .int .u64 x.lo] 67)).cell? ⟨c, 0, none⟩ = some (.string n.nm) := hC.cell 0
  have c1 : (w.alloc (.cells #[.string x.nm, .int .i64 x.kind, .int .i64 x.ab, .int .i64 x.wt, .bool x.v6, .int .u64 x.hi, .int .u64 x.lo] 67)).cell? ⟨c, 1, none⟩ = some (.int .i64 n.kind) := hC.cell 1
  have c4 : (w.alloc (.cells #[.string x.nm, .int .i64 x.kind, .int .i64 x.ab, .int .i64 x.wt, .bool x.v6, .int .u64 x.hi, .int .u64 x.lo] 67)).cell? ⟨c, 4, none⟩ = some (.bool n.v6) := hC.cell 4
  have c5 : (w.alloc (.cells #[.string x.nm, .int .i64 x.kind, .int .i64 x.ab, .int .i64 x.wt, .bool x.v6, .int .u64 x.hi, .int .u64 x.lo] 67)).cell? ⟨c, 5, none⟩ = some (.int .u64 n.hi) := hC.cell 5
  have c6 : (w.alloc (.cells #[.string x.nm, .int .i64 x.kind, .int .i64 x.ab, .int .i64 x.wt, .bool x.v6, .int .u64 x.hi, .int .u64 x.lo] 67)).cell? ⟨c, 6, none⟩ = some (.int .u64 n.lo) := hC.cell 6
  unfold twB
  unfold Nd.cells
  clear hC hc
  go_enter Tryz.func106, Tryz.ntmps106
  cases hq : (x.nm.toList == n.nm.toList) with
  | true =>
    rw [Bool.true_or]
    go_wp2_with fail
    go_ret
    exact ⟨rfl, HW.out⟩
  | false =>
    rw [Bool.false_or]
    cases h1 : (x.kind == 4) with
    | true =>
      rw [Bool.true_and]
      cases h2 : (n.kind == 4) with
      | true =>
        rw [Bool.true_and]
        cases e1 : (x.v6 == n.v6) <;> cases e2 : (x.hi == n.hi) <;> cases e3 : (x.lo == n.lo)
        all_goals go_wp2_with fail
        all_goals go_ret
        all_goals exact ⟨rfl, HW.out⟩
      | false =>
        rw [Bool.false_and]
        go_wp2_with fail
        go_ret
        exact ⟨rfl, HW.out⟩
    | false =>
      rw [Bool.false_and, Bool.false_and]
      go_wp2_with fail
      go_ret
      exact ⟨rfl, HW.out⟩
/-- Nobody as far as has been looked. -/
def noTo (l : List Nd) (n : Nd) (j : Nat) : Prop := hasB (l.take j) n = false
theorem noTo_next {l : List Nd} {n : Nd} {j : Nat} (hj : j < l.length) (h : noTo l n j) (h2 : twB (l[j]) n = false) : noTo l n (j + 1) := by
  unfold noTo hasB at *
  rw [List.take_add_one, List.getElem?_eq_getElem hj, List.any_append, h]
  simp [h2]
theorem has_here {l : List Nd} {n : Nd} {j : Nat} (hj : j < l.length) (h2 : twB (l[j]) n = true) : hasB l n = true := by
  unfold hasB
  rw [List.any_eq_true]
  exact ⟨_, List.getElem_mem hj, h2⟩
theorem has_none {l : List Nd} {n : Nd} {j : Nat} (hj : l.length ≤ j) (h : noTo l n j) : hasB l n = false := by
  unfold noTo at h
  rw [List.take_of_length_le hj] at h
  exact h
set_option maxHeartbeats 4000000 in
theorem index2_any (A : Option Addr) (c : Nat) (l : List Nd) (n : Nd) (w : World) (p : Nat) (hp : Blk w p 67 n.cells) (hr : RdN w A l) (hl : l.length ≤ 2000) (hc1 : l.length ≤ c) (hc2 : c ≤ 9223372036854775807) :
    Calls Tryz.prog 103 #[.slice A l.length c, .func (.func 106) #[] #[.pointer (some ⟨p, 0, none⟩)]] w fun o w' => ∃ at' : Int, o = .returned (.int .i64 at') ∧ decide (0 ≤ at') = hasB l n ∧ Below w.heap.size w w' := by
  have HR := Lib.hid hr
  obtain ⟨m, hm⟩ : ∃ m, m = l.length := ⟨_, rfl⟩
  have HNL := Lib.hid hm
  rw [← hm] at hl hc1 ⊢
  have HP := Lib.hid (show ∀ w2, Below w.heap.size w w2 → Blk w2 p 67 n.cells from fun w2 hb => (hb.block p hp.lt).trans hp)
  clear hm hr hp
  go_enter Tryz.func103, Tryz.ntmps103
  go_wp2_with fail
  go_loopw [8] (fun i wr => ∃ j : Nat, i = .int .i64 j ∧ j ≤ m ∧ Hid (noTo l n j) ∧ Below w.heap.size w wr) (fun i _ => m - (intOf i).toNat)
  case atStart => exact ⟨0, rfl, by omega, Lib.hid (by unfold noTo hasB; rfl), by first | exact Below.refl _ _ | exact (Below.refl _ _).drew⟩
  case round =>
    obtain ⟨j, rfl, hj, HNO, hbel⟩ := hrel
    have KB := Lib.hid hbel
    clear hbel
    by_cases hjn : j < m
    · have t1 : decide ((j : Int) < m) = true := decide_eq_true (by omega)
      have hjl : j < l.length := HNL.out ▸ hjn
      obtain ⟨b, off, hA, hbl, hC⟩ := (HR.out.below KB.out).at_ j hjl
      subst hA
      obtain ⟨e, he⟩ : ∃ e, e = l[j] := ⟨_, rfl⟩
      rw [← he] at hC
      have d0 : wr.cell? ⟨b, off + j * 7, none⟩ = some (.string e.nm) := hC 0 (by omega)
      have d1 : wr.cell? ⟨b, off + j * 7 + 1, none⟩ = some (.int .i64 e.kind) := hC 1 (by omega)
      have d2 : wr.cell? ⟨b, off + j * 7 + 2, none⟩ = some (.int .i64 e.ab) := hC 2 (by omega)
      have d3 : wr.cell? ⟨b, off + j * 7 + 3, none⟩ = some (.int .i64 e.wt) := hC 3 (by omega)
      have d4 : wr.cell? ⟨b, off + j * 7 + 4, none⟩ = some (.bool e.v6) := hC 4 (by omega)
      have d5 : wr.cell? ⟨b, off + j * 7 + 5, none⟩ = some (.int .u64 e.hi) := hC 5 (by omega)
      have d6 : wr.cell? ⟨b, off + j * 7 + 6, none⟩ = some (.int .u64 e.lo) := hC 6 (by omega)
      have HE := Lib.hid he
      have j0 : (0 : Int) ≤ j := by omega
      have j1 : (j : Int) < m := by omega
      clear hC he
      cases hx : twB e n with
      | true =>
        have HF := Lib.hid (show decide (0 ≤ (j : Int)) = hasB l n by rw [has_here hjl (HE.out ▸ hx)]; exact decide_eq_true j0)
        have HC := Lib.hid (hx ▸ has1_any e n p wr (HP.out wr KB.out))
        unfold Nd.cells at HC
        clear hx
        go_wp2_with fail
        refine HC.out.mono ?_
        rintro o w3 ⟨rfl, hb⟩
        have B3 := Lib.hid (KB.out.trans (hb.mono KB.out.size))
        clear hb
        go_wp2_with fail
        go_ret
        exact ⟨_, rfl, HF.out, B3.out⟩
      | false =>
        have HX := Lib.hid (noTo_next hjl HNO.out (HE.out ▸ hx))
        have HC := Lib.hid (hx ▸ has1_any e n p wr (HP.out wr KB.out))
        unfold Nd.cells at HC
        clear hx
        go_wp2_with fail
        refine HC.out.mono ?_
        rintro o w3 ⟨rfl, hb⟩
        have B3 := Lib.hid (KB.out.trans (hb.mono KB.out.size))
        clear hb
        go_wp2_with fail
        go_roundw
        case rel => exact ⟨j + 1, by go_num, by omega, HX, B3.out⟩
        case measure => simp [intOf]; omega
    · have t1 : decide ((j : Int) < m) = false := decide_eq_false (by omega)
      obtain rfl : m = j := by omega
      have HF := Lib.hid (show decide (0 ≤ (-1 : Int)) = hasB l n by rw [has_none (by have := HNL.out; omega) HNO.out]; rfl)
      go_wp2_with fail
      go_ret
      exact ⟨_, rfl, HF.out, KB.out⟩
set_option maxHeartbeats 4000000 in
theorem contains_any (A : Option Addr) (c : Nat) (l : List Nd) (n : Nd) (w : World) (p : Nat) (hp : Blk w p 67 n.cells) (hr : RdN w A l) (hl : l.length ≤ 2000) (hc1 : l.length ≤ c) (hc2 : c ≤ 9223372036854775807) :
    Calls Tryz.prog 105 #[.slice A l.length c, .func (.func 106) #[] #[.pointer (some ⟨p, 0, none⟩)]] w fun o w' => o = .returned (.bool (hasB l n)) ∧ Below w.heap.size w w' := by
  have HI := Lib.hid (index2_any A c l n w p hp hr hl hc1 hc2)
  clear hp hr
  go_enter Tryz.func105, Tryz.ntmps105
  go_wp2_with fail
  refine HI.out.mono ?_
  rintro o w2 ⟨at', rfl, hf, hb⟩
  have HF := Lib.hid hf
  have HB := Lib.hid hb
  clear hf hb
  go_wp2_with fail
  go_ret
  exact ⟨by rw [← HF.out]; rfl, HB.out⟩
set_option maxHeartbeats 4000000 in
theorem has_any {t : Nat} {l : List Nd} {A : Option Addr} {c : Nat} {K : Option Addr} {kn kc : Nat} {w : World} (h : TreeAt w t l A c K kn kc) (n : Nd) (hl : l.length ≤ 2000) :
    Calls Tryz.prog 96 #[.pointer (some ⟨t, 0, none⟩), .agg n.cells] w fun o w' => o = .returned (.bool (hasB l n)) ∧ Below w.heap.size w w' := by
  have hmf : ∀ (fn : Fn) (first cap : Array Value) (w : World), (Instr.makeFunc fn first cap).run Tryz.prog w = .ok (.func fn first cap) w := fun _ _ _ _ => rfl
  have HW := Lib.hid ((Below.refl w.heap.size w).alloc (Nat.le_refl _) (.cells #[.string n.nm, .int .i64 n.kind, .int .i64 n.ab, .int .i64 n.wt, .bool n.v6, .int .u64 n.hi, .int .u64 n.lo] 67))
  have hT := h.below HW.out
  have d0 := hT.nodes
  have HI := Lib.hid (contains_any A c l n _ w.heap.size (Blk.new w 67 #[.string n.nm, .int .i64 n.kind, .int .i64 n.ab, .int .i64 n.wt, .bool n.v6, .int .u64 n.hi, .int .u64 n.lo]) hT.rd hl h.cap h.cap2)
  unfold Nd.cells
  clear h hT
  go_enter Tryz.func96, Tryz.ntmps96
  go_wp2_with fail
  refine HI.out.mono ?_
  rintro o w2 ⟨rfl, hb⟩
  have HB := Lib.hid (HW.out.trans (hb.mono HW.out.size))
  clear hb
  go_wp2_with fail
  go_ret
  exact ⟨rfl, HB.out⟩
end Go.Proofs.YtoaboklckkcjcaaGreat.treC
/- Layer 43: the node above, what is otherwise. -/
namespace Go.Proofs.YtoaboklckkcjcaaGreat.dfB
open Go.ChangeShapes Go.WideShapes Go.ChangeAt Go.RowKit
open Go.Proofs.YtoaboklckkcjcaaGreat.base Go.Proofs.YtoaboklckkcjcaaGreat.dfA
set_option linter.unusedVariables false

def aboveS (l : List Nd) (e : Nd) : ByteArray := if h : 0 ≤ e.ab ∧ e.ab.toNat < l.length then (l[e.ab.toNat]'h.2).nm else ⟨#[]⟩
set_option maxHeartbeats 1000000 in
theorem above_any (A : Option Addr) (c : Nat) (l : List Nd) (e : Nd) (w : World) (hr : RdN w A l) (hc1 : l.length ≤ c) (hc2 : c ≤ 9223372036854775807) :
    Calls Tryz.prog 94 #[.slice A l.length c, .agg e.cells] w fun o w' => o = .returned (.string (aboveS l e)) ∧ Below w.heap.size w w' := by
  have HW := Lib.hid ((Below.refl w.heap.size w).alloc (Nat.le_refl _) (.cells #[.string e.nm, .int .i64 e.kind, .int .i64 e.ab, .int .i64 e.wt, .bool e.v6, .int .u64 e.hi, .int .u64 e.lo] 67))
  have HR := Lib.hid (hr.below HW.out)
  unfold Nd.cells
  clear hr
  unfold aboveS
  by_cases h1 : e.ab < 0
  · have t1 : decide (e.ab < 0) = true := decide_eq_true h1
    rw [dif_neg (by omega)]
    clear h1
    go_enter Tryz.func94, Tryz.ntmps94
    go_wp2_with fail
    go_ret
    first | exact ⟨rfl, HW.out⟩ | exact ⟨rfl, HW.out.drew⟩
  · have t1 : decide (e.ab < 0) = false := decide_eq_false h1
    by_cases h2 : (l.length : Int) ≤ e.ab
    · have t2 : decide ((l.length : Int) ≤ e.ab) = true := decide_eq_true h2
      rw [dif_neg (by omega)]
      clear h1 h2
      go_enter Tryz.func94, Tryz.ntmps94
      go_wp2_with fail
      go_ret
      first | exact ⟨rfl, HW.out⟩ | exact ⟨rfl, HW.out.drew⟩
    · have t2 : decide ((l.length : Int) ≤ e.ab) = false := decide_eq_false h2
      have h3 : 0 ≤ e.ab ∧ e.ab.toNat < l.length := by omega
      rw [dif_pos h3]
      obtain ⟨j, hj⟩ : ∃ j, j = e.ab.toNat := ⟨_, rfl⟩
      have hjl : j < l.length := hj ▸ h3.2
      obtain ⟨b, off, hA, hbl, hC⟩ := HR.out.at_ j hjl
      subst hA
      have d0 := hC 0 (by omega)
      have hje : e.ab = (j : Int) := by omega
      have hge : l[e.ab.toNat] = l[j] := by congr 1; exact hj.symm
      rw [hge]
      have d0' : (w.alloc (.cells #[.string e.nm, .int .i64 e.kind, .int .i64 e.ab, .int .i64 e.wt, .bool e.v6, .int .u64 e.hi, .int .u64 e.lo] 67)).cell? ⟨b, off + j * 7, none⟩ = some (.string (l[j]).nm) := d0
      obtain ⟨s, hs⟩ : ∃ s, s = (l[j]).nm := ⟨_, rfl⟩
      rw [← hs] at d0' ⊢
      have j0 : (0 : Int) ≤ j := by omega
      have j1 : (j : Int) < l.length := by omega
      rw [hje] at t1 t2 d0' HW
      clear hC d0 hge h1 h2 h3 hs hj
      rw [hje]
      go_enter Tryz.func94, Tryz.ntmps94
      go_wp2_with fail
      go_ret
      first | exact ⟨rfl, HW.out⟩ | exact ⟨rfl, HW.out.drew⟩
/-- A change: a node's name, what it is. -/
structure Cg where
  nm : ByteArray
  what : Int
def Cg.cells (e : Cg) : Array Value := #[.string e.nm, .int .i64 e.what]
def flatC (l : List Cg) : List Value := l.flatMap fun e => e.cells.toList
theorem flatC_snoc (l : List Cg) (e : Cg) : flatC (l ++ [e]) = flatC l ++ e.cells.toList := by
  unfold flatC
  rw [List.flatMap_append]
  simp
theorem flatC_app (l k : List Cg) : flatC (l ++ k) = flatC l ++ flatC k := by
  unfold flatC
  rw [List.flatMap_append]
theorem flatC_len (l : List Cg) : (flatC l).length = l.length * 2 := by
  induction l with
  | nil => rfl
  | cons e l ih =>
    show (e.cells.toList ++ flatC l).length = _
    rw [List.length_append, ih]
    show 2 + l.length * 2 = (l.length + 1) * 2
    omega
theorem flatC_at : ∀ (l : List Cg) (q i : Nat) (e : Cg), l[q]? = some e → i < 2 → (flatC l)[q * 2 + i]? = e.cells[i]?
  | [], q, i, e, h, _ => by cases h
  | a :: l, 0, i, e, h, hi => by
    simp only [List.getElem?_cons_zero, Option.some.injEq] at h
    subst h
    show (a.cells.toList ++ flatC l)[0 * 2 + i]? = _
    have hl : a.cells.toList.length = 2 := rfl
    rw [List.getElem?_append_left (by omega)]
    simp
  | a :: l, q + 1, i, e, h, hi => by
    show (a.cells.toList ++ flatC l)[(q + 1) * 2 + i]? = _
    have hl : a.cells.toList.length = 2 := rfl
    rw [List.getElem?_append_right (by omega), hl, show (q + 1) * 2 + i - 2 = q * 2 + i by omega]
    exact flatC_at l q i e h hi
theorem one_c (l : List Cg) : ∀ u ∈ flatC l, u.oneCell' = true := fun u hu => by
  unfold flatC at hu
  obtain ⟨e, _, h⟩ := List.mem_flatMap.mp hu
  unfold Cg.cells at h
  simp at h
  rcases h with rfl | rfl <;> rfl
theorem one_c1 (e : Cg) : ∀ u ∈ e.cells.toList, u.oneCell' = true := fun u hu => by
  unfold Cg.cells at hu
  simp at hu
  rcases hu with rfl | rfl <;> rfl
theorem info_c : (Tryz.prog.info? 120).map (fun i => (i.zero, i.size, i.bytes)) = some (some (.agg #[.string ⟨#[]⟩, .int .i64 0]), 2, 24) := by kernel_rfl
/-- A slice of changes of the call's own. -/
def OwnC (w : World) (B : Nat) (v : Value) (l : List Cg) : Prop := w.ownsRow B 120 2 v l.length (flatC l)
theorem OwnC.nil (w : World) (B : Nat) : OwnC w B (.slice none 0 0) [] := World.ownsRow_nil w B _ 2
theorem OwnC.empty (w : World) (B : Nat) (hB : B ≤ w.heap.size) : OwnC (w.alloc (.cells #[] 120)) B (.slice (some ⟨w.heap.size, 0, none⟩) 0 0) [] := World.ownsRow_made w #[] 0 hB (Nat.zero_le _) rfl
theorem OwnC.far {w w' : World} {B : Nat} {v : Value} {l : List Cg} (h : OwnC w B v l) (hb : ∀ k, v.ownBlock = some k → w'.heap[k]? = w.heap[k]?) : OwnC w' B v l := by
  refine ⟨h.1, ?_⟩
  rcases h.2 with h0 | ⟨g, cap, cur, e1, e2, e3, e4⟩
  · exact .inl h0
  · exact .inr ⟨g, cap, cur, e1, e2, (hb g (by rw [e1]; rfl)).trans e3, e4⟩
theorem OwnC.lt {w : World} {B : Nat} {v : Value} {l : List Cg} (h : OwnC w B v l) : ∀ k, v.ownBlock = some k → B ≤ k ∧ k < w.heap.size := World.ownsRow.lt h
theorem OwnC.below {w w' : World} {B : Nat} {v : Value} {l : List Cg} (h : OwnC w B v l) (hb : Below w.heap.size w w') : OwnC w' B v l := h.far fun k hk => hb.block k (h.lt k hk).2
theorem OwnC.alloc {w : World} {B : Nat} {v : Value} {l : List Cg} (h : OwnC w B v l) (o : Obj) : OwnC (w.alloc o) B v l := World.ownsRow.alloc h o
theorem OwnC.more {w : World} {B B2 : Nat} {v : Value} {l : List Cg} (h : OwnC w B2 v l) (hB : B ≤ B2) : OwnC w B v l := by
  refine ⟨h.1, ?_⟩
  rcases h.2 with h0 | ⟨g, cap, cur, e1, e2, e3⟩
  · exact .inl h0
  · exact .inr ⟨g, cap, cur, e1, Nat.le_trans hB e2, e3⟩
theorem OwnC.slice {w : World} {B : Nat} {v : Value} {l : List Cg} (h : OwnC w B v l) : ∃ A cap, v = .slice A l.length cap ∧ l.length ≤ cap ∧ cap ≤ maxLen ∧ ((l = [] ∧ A = none ∧ cap = 0) ∨ ∃ g, A = some ⟨g, 0, none⟩ ∧ B ≤ g ∧ g < w.heap.size ∧ ∀ j u, (flatC l)[j]? = some u → w.cell? ⟨g, j, none⟩ = some u) := by
  rcases h.2 with ⟨h0, h1⟩ | ⟨g, cap, cur, e1, e2, e3, e4, e5, e6, e7⟩
  · have : l = [] := List.eq_nil_of_length_eq_zero h1
    subst this
    exact ⟨none, 0, h0, Nat.le_refl _, Nat.zero_le _, .inl ⟨rfl, rfl, rfl⟩⟩
  · refine ⟨_, cap, e1, e4, e5, .inr ⟨g, rfl, e2, (Array.getElem?_eq_some_iff.mp e3).1, fun j u hu => ?_⟩⟩
    rw [Blk.cell (show Blk w g 120 cur from e3)]
    have hj : j < l.length * 2 := by
      have := (List.getElem?_eq_some_iff.mp hu).1
      rw [flatC_len] at this
      exact this
    rw [← e7, List.getElem?_take, if_pos hj] at hu
    simpa using hu
/-- What is otherwise of a node. -/
def othC (a : Nd) (sa : ByteArray) (b : Nd) (sb : ByteArray) : List Cg :=
  (if a.kind ≠ b.kind ∨ sa ≠ sb then [⟨b.nm, 4⟩] else []) ++ (if a.v6 ≠ b.v6 ∨ a.hi ≠ b.hi ∨ a.lo ≠ b.lo then [⟨b.nm, 5⟩] else []) ++ (if a.wt ≠ b.wt then [⟨b.nm, 3⟩] else [])
end Go.Proofs.YtoaboklckkcjcaaGreat.dfB
/- Layer 16: the nodes of a kind; is there room? -/
namespace Go.Proofs.YtoaboklckkcjcaaGreat.treD
open Go.ChangeShapes Go.WideShapes Go.ChangeAt Go.RowKit
open Go.Proofs.YtoaboklckkcjcaaGreat.base Go.Proofs.YtoaboklckkcjcaaGreat.dfA Go.Proofs.YtoaboklckkcjcaaGreat.treB
set_option linter.unusedVariables false

theorem info_i : (Tryz.prog.info? 3).map (fun i => (i.zero, i.size, i.bytes)) = some (some (.int .i64 0), 1, 8) := by kernel_rfl
/-- The nodes of a kind among the first j. -/
def ofK (l : List Nd) (kind : Int) (j : Nat) : List Int := ((List.range j).filter fun (i : Nat) => (l.getD i zNd).kind == kind).map fun (i : Nat) => (i : Int)
theorem ofK_next {l : List Nd} {kind : Int} {j : Nat} (hj : j < l.length) : ofK l kind (j + 1) = ofK l kind j ++ (if (l[j].kind == kind) = true then [(j : Int)] else []) := by
  unfold ofK
  rw [List.range_succ, List.filter_append, List.map_append]
  congr 1
  have : l.getD j zNd = l[j] := by rw [List.getD_eq_getElem?_getD, List.getElem?_eq_getElem hj]; rfl
  simp only [List.filter_cons, List.filter_nil, this]
  cases (l[j].kind == kind) <;> rfl
theorem ofK_len (l : List Nd) (kind : Int) (j : Nat) : (ofK l kind j).length ≤ j := by
  unfold ofK
  rw [List.length_map]
  have := List.length_filter_le (fun (i : Nat) => (l.getD i zNd).kind == kind) (List.range j)
  rw [List.length_range] at this
  exact this
def OwnI (w : World) (B : Nat) (v : Value) (l : List Int) : Prop := w.ownsRow B 3 1 v l.length (l.map (Value.int .i64))
theorem OwnI.far {w w' : World} {B : Nat} {v : Value} {l : List Int} (h : OwnI w B v l) (hb : ∀ k, v.ownBlock = some k → w'.heap[k]? = w.heap[k]?) : OwnI w' B v l := by
  refine ⟨h.1, ?_⟩
  rcases h.2 with h0 | ⟨g, cap, cur, e1, e2, e3, e4⟩
  · exact .inl h0
  · exact .inr ⟨g, cap, cur, e1, e2, (hb g (by rw [e1]; rfl)).trans e3, e4⟩
theorem OwnI.lt {w : World} {B : Nat} {v : Value} {l : List Int} (h : OwnI w B v l) : ∀ k, v.ownBlock = some k → B ≤ k ∧ k < w.heap.size := World.ownsRow.lt h
theorem OwnI.below {w w' : World} {B : Nat} {v : Value} {l : List Int} (h : OwnI w B v l) (hb : Below w.heap.size w w') : OwnI w' B v l := h.far fun k hk => hb.block k (h.lt k hk).2
theorem OwnI.alloc {w : World} {B : Nat} {v : Value} {l : List Int} (h : OwnI w B v l) (o : Obj) : OwnI (w.alloc o) B v l := World.ownsRow.alloc h o
theorem OwnI.snoc {w : World} {B : Nat} {v : Value} {l : List Int} {x : Int} (h : w.ownsRow B 3 1 v (l.length + 1) (l.map (Value.int .i64) ++ [.int .i64 x])) : OwnI w B v (l ++ [x]) := by
  unfold OwnI
  rw [List.map_append, List.length_append]
  exact h
set_option maxRecDepth 100000 in
set_option maxHeartbeats 8000000 in
theorem ofKind_any {t : Nat} {l : List Nd} {A : Option Addr} {c : Nat} {K : Option Addr} {kn kc : Nat} {w : World} (h : TreeAt w t l A c K kn kc) (kind : Int) (hl : l.length ≤ 2000) :
    Calls Tryz.prog 87 #[.pointer (some ⟨t, 0, none⟩), .int .i64 kind] w fun o w' => ∃ v, o = .returned v ∧ OwnI w' w.heap.size v (ofK l kind l.length) ∧ Below w.heap.size w w' := by
  obtain ⟨i0, hi0, hz0, hz1, hz2⟩ := info_parts info_i
  have HI0 := Lib.hid hi0
  have HZ0 := Lib.hid hz0
  have HZ1 := Lib.hid hz1
  have HZ2 := Lib.hid hz2
  have BE := Lib.hid ((Below.refl w.heap.size w).alloc (Nat.le_refl _) (.cells #[] 3))
  have OE := Lib.hid (show OwnI (w.alloc (.cells #[] 3)) w.heap.size (.slice (some ⟨w.heap.size, 0, none⟩) 0 0) [] from World.ownsRow_made w #[] 0 (Nat.le_refl _) (Nat.zero_le _) rfl)
  have HT := Lib.hid h
  have HL := Lib.hid (len_any (h.below BE.out))
  have hcap := h.cap
  have hcap2 := h.cap2
  clear hi0 hz0 hz1 hz2 h
  go_enter Tryz.func87, Tryz.ntmps87
  go_wp2_with fail
  refine HL.out.mono ?_
  rintro o w1 ⟨rfl, hb⟩
  have B1 := Lib.hid (BE.out.trans (hb.mono BE.out.size))
  have O1 := Lib.hid (OE.out.below hb)
  clear hb
  go_wp2_with fail
  go_loopw [5, 10] (fun out i wr => ∃ j : Nat, i = .int .i64 j ∧ j ≤ l.length ∧ OwnI wr w.heap.size out (ofK l kind j) ∧ Below w.heap.size w wr) (fun _ i _ => l.length - (intOf i).toNat)
  case atStart => exact ⟨0, rfl, by omega, O1.out, B1.out⟩
  case round =>
    obtain ⟨j, rfl, hj, how, hbel⟩ := hrel
    have KO := Lib.hid how
    have KB := Lib.hid hbel
    clear how hbel
    by_cases hjn : j < l.length
    · have t1 : decide ((j : Int) < l.length) = true := decide_eq_true (by omega)
      have hT := HT.out.below KB.out
      have dn := hT.nodes
      obtain ⟨b, off, hA, hbl, hC⟩ := hT.rd.at_ j hjn
      subst hA
      have HNX := Lib.hid (ofK_next (kind := kind) hjn)
      have HLE := Lib.hid (ofK_len l kind j)
      obtain ⟨e, he⟩ : ∃ e, e = l[j] := ⟨_, rfl⟩
      rw [← he] at hC HNX
      have d1 : wr.cell? ⟨b, off + j * 7 + 1, none⟩ = some (.int .i64 e.kind) := hC 1 (by omega)
      have j0 : (0 : Int) ≤ j := by omega
      have j1 : (j : Int) < l.length := by omega
      clear hC he hT
      cases hm : (e.kind == kind) with
      | true =>
        rw [hm, if_pos rfl] at HNX
        have KO2 := Lib.hid (KO.out.alloc (.cells #[.int .i64 j] 3))
        have KB2 := Lib.hid (KB.out.alloc KB.out.size (.cells #[.int .i64 j] 3))
        have HNE := Lib.hid (show ∀ p u, [Value.int .i64 j][p]? = some u → (wr.alloc (.cells #[.int .i64 j] 3)).cell? ((⟨wr.heap.size, 0, none⟩ : Addr).add p) = some u from fun p u hu => by
          rw [Addr.add_lit, Nat.zero_add, (Blk.new wr 3 #[.int .i64 j]).cell p]
          have h2 : (#[Value.int .i64 j])[p]? = some u := by simpa using hu
          exact h2)
        have H1 := Lib.hid (show ∀ u ∈ [Value.int .i64 (j : Int)], u.oneCell' = true from fun u hu => by simp at hu; subst hu; rfl)
        have P1 := Lib.hid (show (ofK l kind j).length + 1 ≤ maxLen by unfold maxLen; have := HLE.out; omega)
        have P2 := Lib.hid (show ((ofK l kind j).length + 1) * 8 ≤ 140737488355328 by have := HLE.out; omega)
        have P3 := Lib.hid (show w.heap.size ≤ (wr.alloc (.cells #[.int .i64 j] 3)).heap.size from KB2.out.size)
        go_wp2_with (at_builtin; refine wpList_append_own _ rfl (.tmp 23) (.tmp 25) _ rfl w.heap.size 3 i0 _ 1 8 Tryz.underlying23 HI0.out HZ0.out HZ1.out HZ2.out rfl (by omega) _ (ofK l kind j).length ((ofK l kind j).map (Value.int .i64)) rfl KO2.out ⟨wr.heap.size, 0, none⟩ 1 1 [.int .i64 j] rfl rfl HNE.out H1.out P1.out P2.out P3.out ?_; intro v6 w6 ho hg _; have HO1 := Lib.hid (OwnI.snoc (l := ofK l kind j) ho); have HB1 := Lib.hid (KB2.out.grown hg P3.out (fun k hk => (KO2.out.lt k hk).1)); clear ho hg)
        go_roundw
        case rel => exact ⟨j + 1, by go_num, by omega, by rw [HNX.out]; exact HO1.out, HB1.out⟩
        case measure => simp [intOf]; omega
      | false =>
        rw [hm, if_neg (by decide), List.append_nil] at HNX
        go_wp2_with fail
        go_roundw
        case rel => exact ⟨j + 1, by go_num, by omega, by rw [HNX.out]; exact KO.out, KB.out⟩
        case measure => simp [intOf]; omega
    · have t1 : decide ((j : Int) < l.length) = false := decide_eq_false (by omega)
      obtain rfl : j = l.length := by omega
      go_wp2_with fail
      go_ret
      exact ⟨_, rfl, KO.out, KB.out⟩
theorem levels_any {t : Nat} {l : List Nd} {A : Option Addr} {c : Nat} {K : Option Addr} {kn kc : Nat} {w : World} (h : TreeAt w t l A c K kn kc) (hl : l.length ≤ 2000) :
    Calls Tryz.prog 55 #[.pointer (some ⟨t, 0, none⟩)] w fun o w' => ∃ v, o = .returned v ∧ OwnI w' w.heap.size v (ofK l 1 l.length) ∧ Below w.heap.size w w' := by
  have HO := Lib.hid (ofKind_any h 1 hl)
  clear h
  go_enter Tryz.func55, Tryz.ntmps55
  go_wp2_with fail
  refine HO.out.mono ?_
  rintro o w1 ⟨v, rfl, ho, hb⟩
  have H1 := Lib.hid ho
  have H2 := Lib.hid hb
  clear ho hb
  go_wp2_with fail
  go_ret
  exact ⟨v, rfl, H1.out, H2.out⟩
theorem hosts_any {t : Nat} {l : List Nd} {A : Option Addr} {c : Nat} {K : Option Addr} {kn kc : Nat} {w : World} (h : TreeAt w t l A c K kn kc) (hl : l.length ≤ 2000) :
    Calls Tryz.prog 80 #[.pointer (some ⟨t, 0, none⟩)] w fun o w' => ∃ v, o = .returned v ∧ OwnI w' w.heap.size v (ofK l 4 l.length) ∧ Below w.heap.size w w' := by
  have HO := Lib.hid (ofKind_any h 4 hl)
  clear h
  go_enter Tryz.func80, Tryz.ntmps80
  go_wp2_with fail
  refine HO.out.mono ?_
  rintro o w1 ⟨v, rfl, ho, hb⟩
  have H1 := Lib.hid ho
  have H2 := Lib.hid hb
  clear ho hb
  go_wp2_with fail
  go_ret
  exact ⟨v, rfl, H1.out, H2.out⟩
/-- Is there no room for a node of a kind more? -/
def fullB (l : List Nd) (kind : Int) : Bool := decide ((1024 : Int) ≤ l.length) || (if kind = 1 then decide ((4 : Int) ≤ (ofK l 1 l.length).length) else if kind = 4 then decide ((512 : Int) ≤ (ofK l 4 l.length).length) else false)
theorem full_any {t : Nat} {l : List Nd} {A : Option Addr} {c : Nat} {K : Option Addr} {kn kc : Nat} {w : World} (h : TreeAt w t l A c K kn kc) (kind : Int) (hl : l.length ≤ 2000) :
    Calls Tryz.prog 68 #[.pointer (some ⟨t, 0, none⟩), .int .i64 kind] w fun o w' => o = .returned (.bool (fullB l kind)) ∧ Below w.heap.size w w' := by
  have HL := Lib.hid (levels_any h hl)
  have HH := Lib.hid (hosts_any h hl)
  have HB := Lib.hid (Below.refl w.heap.size w)
  have d0 := h.nodes
  have hcap := h.cap
  have hcap2 := h.cap2
  clear h
  unfold fullB
  go_enter Tryz.func68, Tryz.ntmps68
  cases h1 : decide ((1024 : Int) ≤ l.length) with
  | true =>
    rw [Bool.true_or]
    go_wp2_with fail
    go_ret
    exact ⟨rfl, HB.out⟩
  | false =>
    rw [Bool.false_or]
    by_cases hk : kind = 1
    · subst hk
      rw [if_pos rfl]
      go_wp2_with fail
      refine HL.out.mono ?_
      rintro o w1 ⟨v, rfl, ho, hb⟩
      obtain ⟨A2, c2, rfl⟩ := own_slice ho
      have H2 := Lib.hid hb
      clear ho hb
      go_wp2_with fail
      go_ret
      exact ⟨rfl, H2.out⟩
    · rw [if_neg hk]
      have hk1 : (kind == 1) = false := beq_false_of_ne hk
      clear hk
      by_cases hk : kind = 4
      · subst hk
        rw [if_pos rfl]
        go_wp2_with fail
        refine HH.out.mono ?_
        rintro o w1 ⟨v, rfl, ho, hb⟩
        obtain ⟨A2, c2, rfl⟩ := own_slice ho
        have H2 := Lib.hid hb
        clear ho hb
        go_wp2_with fail
        go_ret
        exact ⟨rfl, H2.out⟩
      · rw [if_neg hk]
        have hk4 : (kind == 4) = false := beq_false_of_ne hk
        clear hk
        go_wp2_with fail
        go_ret
        exact ⟨rfl, HB.out⟩
end Go.Proofs.YtoaboklckkcjcaaGreat.treD
