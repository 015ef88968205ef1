/- Layer 31: sums, as rows of 29 numbers. -/
import Derived.Test.YtpgodmcpdgbhaaaCountA
import Derived.Deep.WholeRow
import Derived.Laws.CopyOwn
import Derived.Laws.Tables
namespace Go.Proofs.Ytpgodmcpdgbhaaa.countC
open Go.ChangeShapes Go.WideShapes Go.ChangeAt Go.RowKit
open Go.Proofs.Ytpgodmcpdgbhaaa.base Go.Proofs.Ytpgodmcpdgbhaaa.countA
set_option linter.unusedVariables false

def At (cs : Array Value) (f : Nat → Int) : Prop := cs.size = 29 ∧ ∀ i, i < 29 → cs[i]? = some (.int .i64 (f i))
theorem At.one {cs : Array Value} {f : Nat → Int} (h : At cs f) : cs.all (·.oneCell') = true := by
  rw [Array.all_eq_true]
  intro i hi
  have := h.2 i (by have := h.1; omega)
  rw [Array.getElem?_eq_getElem hi] at this
  rw [Option.some.inj this]
  rfl
theorem At.set {cs : Array Value} {f : Nat → Int} (h : At cs f) (k : Nat) (hk : k < 29) (x : Int) : At (cs.setIfInBounds k (.int .i64 x)) (fun i => if i = k then x else f i) := by
  refine ⟨by simp [h.1], fun i hi => ?_⟩
  rw [Array.getElem?_setIfInBounds]
  by_cases e : k = i
  · subst e
    rw [if_pos rfl, if_pos (by have := h.1; omega)]
    simp
  · rw [if_neg e, h.2 i hi]
    simp [Ne.symm e]
theorem load_blk {w : World} {g : Nat} {t : TypeId} {cs : Array Value} (h : Blk w g t cs) (n : Nat) (hn : cs.size = n) : (loadCellsFrom ⟨g, 0, none⟩ 0 n #[]).run Try.prog w = .ok cs w := by
  subst hn
  have := run_loadCells_list (P := Try.prog) w ⟨g, 0, none⟩ cs.toList (fun j v hv => by
    rw [Addr.add_lit, h.cell]
    simpa using hv)
  simpa [loadCells] using this
theorem At.wrap {cs : Array Value} {f : Nat → Int} (h : At cs f) (k : Nat) (hk : k < 29) : cs[k]? = some (.int .i64 (f k)) := h.2 k hk
/-- a as far as it is summed. -/
def Part (f g : Nat → Int) (j : Nat) (cs : Array Value) : Prop := At cs (fun i => if i < j + 3 then wrap64 (f i + g i) else f i)
theorem Part.start {a : Array Value} {f g : Nat → Int} (h : At a f) : Part f g 0 (((a.setIfInBounds 0 (.int .i64 (wrap64 (f 0 + g 0)))).setIfInBounds 1 (.int .i64 (wrap64 (f 1 + g 1)))).setIfInBounds 2 (.int .i64 (wrap64 (f 2 + g 2)))) := by
  refine ⟨(((h.set 0 (by omega) _).set 1 (by omega) _).set 2 (by omega) _).1, fun i hi => ?_⟩
  rw [(((h.set 0 (by omega) _).set 1 (by omega) _).set 2 (by omega) _).2 i hi]
  by_cases h2 : i = 2
  · subst h2; rfl
  · by_cases h1 : i = 1
    · subst h1; rfl
    · by_cases h0 : i = 0
      · subst h0; rfl
      · simp only [h2, h1, h0, if_false]
        rw [if_neg (by omega)]
theorem Part.next {f g : Nat → Int} {j : Nat} {cs : Array Value} (h : Part f g j cs) (hj : j < 26) : Part f g (j + 1) (cs.setIfInBounds (3 + j) (.int .i64 (wrap64 (f (3 + j) + g (3 + j))))) := by
  refine ⟨(h.set (3 + j) (by omega) _).1, fun i hi => ?_⟩
  rw [(h.set (3 + j) (by omega) _).2 i hi]
  by_cases e : i = 3 + j
  · subst e
    simp only [if_true]
    rw [if_pos (show 3 + j < j + 1 + 3 by omega)]
  · simp only [e, if_false]
    by_cases e2 : i < j + 3
    · rw [if_pos e2, if_pos (by omega)]
    · rw [if_neg e2, if_neg (by omega)]
theorem Part.here {f g : Nat → Int} {j : Nat} {cs : Array Value} (h : Part f g j cs) (hj : j < 26) : cs[3 + j]? = some (.int .i64 (f (3 + j))) := by
  have := h.2 (3 + j) (by omega)
  simpa [show ¬ 3 + j < j + 3 by omega] using this
theorem Part.all {f g : Nat → Int} {cs : Array Value} (h : Part f g 26 cs) : At cs (fun i => wrap64 (f i + g i)) := by
  refine ⟨h.1, fun i hi => ?_⟩
  have := h.2 i hi
  simpa [show i < 26 + 3 by omega] using this
theorem size_s : (Try.prog.info? 24).map (·.size) = some 29 := by kernel_rfl
theorem store_blk {w : World} {g : Nat} {t : TypeId} {cs c' : Array Value} (h : Blk w g t cs) (hi : (Try.prog.info? t).map (·.size) = some c'.size) (ho : cs.size = c'.size) (h1 : c'.all (·.oneCell') = true) : (storeCells ⟨g, 0, none⟩ c'.toList 0).run Try.prog w = .ok () (w.setRow g c') := by
  have := run_storeVar_row (P := Try.prog) w g t t cs c' h hi ho h1
  cases hq : Try.prog.info? t with
  | none => simp [hq] at hi
  | some i =>
    have hs : c'.size = i.size := by simp [hq] at hi; omega
    simpa [storeVar, sizeOf, typeInfo, hq, Value.cells, hs] using this
theorem blk_setRow {w : World} {g : Nat} {t : TypeId} {cs : Array Value} (h : Blk w g t cs) (c' : Array Value) : Blk (w.setRow g c') g t c' := setRow_heap w g cs c' t (0, 0) h
theorem blk_setRow_far {w : World} {g k : Nat} {t : TypeId} {cs : Array Value} (h : Blk w k t cs) (hk : k ≠ g) (c' : Array Value) : Blk (w.setRow g c') k t cs := (setRow_other w g k c' hk).trans h
set_option maxRecDepth 100000 in
set_option maxHeartbeats 4000000 in
theorem plus_any (a b : Array Value) (f g : Nat → Int) (w : World) (ha : At a f) (hb : At b g) :
    Calls Try.prog 7 #[.agg a, .agg b] w fun e w' => ∃ c, e = .returned (.agg c) ∧ At c (fun i => wrap64 (f i + g i)) ∧ Below w.heap.size w w' := by
  have HA := Lib.hid ha
  have HG := Lib.hid hb
  have HST := Lib.hid (Part.start (g := g) ha)
  have a0 := ha.2 0 (by omega)
  have a1 := ha.2 1 (by omega)
  have a2 := ha.2 2 (by omega)
  have b0 := hb.2 0 (by omega)
  have b1 := hb.2 1 (by omega)
  have b2 := hb.2 2 (by omega)
  have HS1 := Lib.hid (show (w.alloc (.cells (((a.setIfInBounds 0 (.int .i64 (wrap64 (f 0 + g 0)))).setIfInBounds 1 (.int .i64 (wrap64 (f 1 + g 1)))).setIfInBounds 2 (.int .i64 (wrap64 (f 2 + g 2)))) 24)).heap.size = w.heap.size + 1 by simp)
  have HS2 := Lib.hid (show ((w.alloc (.cells (((a.setIfInBounds 0 (.int .i64 (wrap64 (f 0 + g 0)))).setIfInBounds 1 (.int .i64 (wrap64 (f 1 + g 1)))).setIfInBounds 2 (.int .i64 (wrap64 (f 2 + g 2)))) 24)).alloc (.cells b 24)).heap.size = w.heap.size + 2 by simp)
  clear ha hb
  go_enter Try.func7, Try.ntmps7
  go_wp2_with fail
  go_loopw [24, 5] (fun i _ wr => ∃ (j : Nat) (cs : Array Value), j ≤ 26 ∧ i = .int .i64 j ∧ Part f g j cs ∧ Blk wr w.heap.size 24 cs ∧ Blk wr (w.heap.size + 1) 24 b ∧ (∃ zs, Blk wr (w.heap.size + 2) 24 zs ∧ zs.size = 29) ∧ Below w.heap.size w wr) (fun i _ _ => 26 - (intOf i).toNat)
  case atStart =>
    refine ⟨0, _, by omega, rfl, HST.out, ?_, ?_, ⟨Array.replicate 29 (.int .i64 0), ?_, ?_⟩, ?_⟩
    · exact ((Blk.new w _ _).alloc _).alloc _
    · have := ((Blk.new (w.alloc (.cells (((a.setIfInBounds 0 (.int .i64 (wrap64 (f 0 + g 0)))).setIfInBounds 1 (.int .i64 (wrap64 (f 1 + g 1)))).setIfInBounds 2 (.int .i64 (wrap64 (f 2 + g 2)))) 24)) 24 b).alloc (.cells (Array.replicate 29 (.int .i64 0)) 24))
      rw [HS1.out] at this
      exact this
    · have := Blk.new ((w.alloc (.cells (((a.setIfInBounds 0 (.int .i64 (wrap64 (f 0 + g 0)))).setIfInBounds 1 (.int .i64 (wrap64 (f 1 + g 1)))).setIfInBounds 2 (.int .i64 (wrap64 (f 2 + g 2)))) 24)).alloc (.cells b 24)) 24 (Array.replicate 29 (.int .i64 0))
      rw [HS2.out] at this
      exact this
    · simp
    · exact (((Below.refl w.heap.size w).alloc (Nat.le_refl _) _).alloc (by rw [HS1.out]; omega) _).alloc (by rw [HS2.out]; omega) _
  case round =>
    obtain ⟨j, cs, hj, rfl, hP, hA, hB, ⟨zs, hZ, hZ2⟩, hbel⟩ := hrel
    by_cases hj8 : j < 26
    · have p1 : decide ((j : Int) < 26) = true := decide_eq_true (by omega)
      have d1 := (hA.cell (3 + j)).trans (hP.here hj8)
      have d2 := (hB.cell (3 + j)).trans (HG.out.2 (3 + j) (by omega))
      have d3 := hA.frozen (3 + j)
      go_wp2_with fail
      go_region
      all_goals go_wp2_with fail
      refine ⟨⟨j + 1, _, by omega, rfl, hP.next hj8, (hA.set_ _ _).drew, (hB.far (by show w.heap.size + 1 ≠ w.heap.size; omega) _).drew, ⟨zs, (hZ.far (by show w.heap.size + 2 ≠ w.heap.size; omega) _).drew, hZ2⟩, (hbel.setCell (by show w.heap.size ≤ w.heap.size; omega) _).drew⟩, ?_⟩
      show 26 - ((j : Int) + 1).toNat < 26 - ((j : Int)).toNat
      omega
    · obtain rfl : j = 26 := by omega
      have HI := Lib.hid (show (Try.prog.info? 24).map (·.size) = some cs.size by rw [hP.1]; exact size_s)
      have HZS := Lib.hid (show zs.size = cs.size by rw [hP.1, hZ2])
      have HO := Lib.hid hP.one
      have HF := Lib.hid hP.all
      have HAA := Lib.hid hA
      have HZZ := Lib.hid hZ
      have HR := Lib.hid (blk_setRow hZ cs)
      have HBZ := Lib.hid (below_setRow hbel (show w.heap.size ≤ w.heap.size + 2 by omega) cs)
      clear hP hA hB hZ hZ2 hbel
      go_wp2_with (first
        | (refine wpList_load_row rfl 24 _ rfl w.heap.size rfl 24 cs (0, 0) _ HAA.out Try.underlying24 rfl HI.out ?_)
        | (refine wpList_store_row rfl 24 _ _ rfl (w.heap.size + 2) cs rfl rfl 24 zs HZZ.out HI.out HZS.out HO.out ?_))
      refine bodyPost_ret (v := .agg cs) (results_cell_row rfl _ _ (w.heap.size + 2) 24 cs (0, 0) _ rfl HR.out Try.underlying24 rfl HI.out) rfl ⟨cs, rfl, HF.out, HBZ.out⟩
end Go.Proofs.Ytpgodmcpdgbhaaa.countC
