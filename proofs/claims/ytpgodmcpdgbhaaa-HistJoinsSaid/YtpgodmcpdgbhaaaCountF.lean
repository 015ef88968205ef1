/- Layer 31: what a board says. -/
import Derived.Test.YtpgodmcpdgbhaaaCountE
import Derived.Deep.RegionHeld3
namespace Go.Proofs.Ytpgodmcpdgbhaaa.countF
open Go.ChangeShapes Go.WideShapes Go.ChangeAt Go.RowKit
open Go.Proofs.Ytpgodmcpdgbhaaa.base Go.Proofs.Ytpgodmcpdgbhaaa.countA Go.Proofs.Ytpgodmcpdgbhaaa.countC Go.Proofs.Ytpgodmcpdgbhaaa.countD Go.Proofs.Ytpgodmcpdgbhaaa.countE
set_option linter.unusedVariables false

/-- As far as it is read. -/
def PartS (f : Nat → Int) (j : Nat) (cs : Array Value) : Prop := At cs (fun i => if i < j + 3 then f i else 0)
theorem PartS.start {Z : Array Value} (h : At Z (fun _ => 0)) (f : Nat → Int) : PartS f 0 (((Z.setIfInBounds 0 (.int .i64 (f 0))).setIfInBounds 1 (.int .i64 (f 1))).setIfInBounds 2 (.int .i64 (f 2))) := by
  refine ⟨(((h.set 0 (by omega) _).set 1 (by omega) _).set 2 (by omega) _).1, fun i hi => ?_⟩
  rw [(((h.set 0 (by omega) _).set 1 (by omega) _).set 2 (by omega) _).2 i hi]
  by_cases h2 : i = 2
  · subst h2; rfl
  · by_cases h1 : i = 1
    · subst h1; rfl
    · by_cases h0 : i = 0
      · subst h0; rfl
      · simp only [h2, h1, h0, if_false]
        rw [if_neg (by omega)]
theorem z29_at : At Z29 (fun _ => 0) := by
  refine ⟨rfl, fun i hi => ?_⟩
  unfold Z29
  match i, hi with
  | 0, _ => rfl
  | 1, _ => rfl
  | 2, _ => rfl
  | 3, _ => rfl
  | 4, _ => rfl
  | 5, _ => rfl
  | 6, _ => rfl
  | 7, _ => rfl
  | 8, _ => rfl
  | 9, _ => rfl
  | 10, _ => rfl
  | 11, _ => rfl
  | 12, _ => rfl
  | 13, _ => rfl
  | 14, _ => rfl
  | 15, _ => rfl
  | 16, _ => rfl
  | 17, _ => rfl
  | 18, _ => rfl
  | 19, _ => rfl
  | 20, _ => rfl
  | 21, _ => rfl
  | 22, _ => rfl
  | 23, _ => rfl
  | 24, _ => rfl
  | 25, _ => rfl
  | 26, _ => rfl
  | 27, _ => rfl
  | 28, _ => rfl
  | i + 29, h => exact absurd h (by omega)
theorem PartS.next {f : Nat → Int} {j : Nat} {cs : Array Value} (h : PartS f j cs) (hj : j < 26) : PartS f (j + 1) (cs.setIfInBounds (3 + j) (.int .i64 (f (3 + j)))) := by
  refine ⟨(h.set (3 + j) (by omega) _).1, fun i hi => ?_⟩
  rw [(h.set (3 + j) (by omega) _).2 i hi]
  by_cases e : i = 3 + j
  · subst e
    simp only [if_true]
    rw [if_pos (show 3 + j < j + 1 + 3 by omega)]
  · simp only [e, if_false]
    by_cases e2 : i < j + 3
    · rw [if_pos e2, if_pos (by omega)]
    · rw [if_neg e2, if_neg (by omega)]
theorem PartS.here {f : Nat → Int} {j : Nat} {cs : Array Value} (h : PartS f j cs) (hj : j < 26) : cs[3 + j]? = some (.int .i64 0) := by
  have := h.2 (3 + j) (by omega)
  simpa [show ¬ 3 + j < j + 3 by omega] using this
theorem PartS.all {f : Nat → Int} {cs : Array Value} (h : PartS f 26 cs) : At cs f := by
  refine ⟨h.1, fun i hi => ?_⟩
  have := h.2 i hi
  simpa [show i < 26 + 3 by omega] using this
theorem step_store_row {P : Program} {ops : Array Oper} {o : Oper} {a : Act} {w : World} {K : Act → World → Prop} {Q : Exit → Act → World → Prop} {E : Prop} (hgd : o.guard = none) (ty : TypeId) (x y : Operand) (ho : o.op = .store ty x y)
    (g : Nat) (cells : Array Value) (hx : a.eval x = .pointer (some ⟨g, 0, none⟩)) (hy : a.eval y = .agg cells)
    (t : TypeId) (old : Array Value) (hg : w.heap[g]? = some (.cells old t (0, 0))) (hi : (P.info? ty).map (·.size) = some cells.size)
    (hold : old.size = cells.size) (h1 : cells.all (·.oneCell') = true)
    (h : K (a.put o.dst undef) (w.setRow g cells)) : if Region.wanted o (yielded ops a.tmps) = true then Oper.wp P o a w K Q else E := by
  have hw : Region.wanted o (yielded ops a.tmps) = true := by simp [Region.wanted, hgd]
  rw [if_pos hw]
  exact wp_store_row ty x y ho g cells hx hy t old hg hi hold h1 h
theorem zero29 : (Try.prog.info? 24).map (fun i => (i.zero, i.size)) = some (some (.agg Z29), 29) := by kernel_rfl
set_option maxRecDepth 100000 in
set_option maxHeartbeats 4000000 in
theorem sum_at (g : Nat) (cs : Array Value) (f : Nat → Int) (w : World) (hB : Blk w g 44 cs) (hA : At cs f) :
    Calls Try.prog 10 #[.pointer (some ⟨g, 0, none⟩)] w fun e w' => ∃ c, e = .returned (.agg c) ∧ At c f ∧ Below w.heap.size w w' := by
  have hg := hB.lt
  have HL := Lib.hid (fun (o : Nat) (ho : o < 29) (W : World) (hW : Below w.heap.size w W) => load_any g o (f o) W ((hB.below hW hg).cell o |>.trans (hA.2 o ho)))
  have HG := Lib.hid hg
  obtain ⟨Z, hZ0⟩ : ∃ Z : Array Value, Z = Z29 := ⟨_, rfl⟩
  have hz : ∀ w : World, (zeroValue 24).run Try.prog w = .ok (.agg Z) w := by rw [hZ0]; exact (zero_of_info zero29).1
  have F0 : Blk (((w.alloc (.cells Z 24)).alloc (.cells Z 24)).drew) (w.heap.size + 1) 24 Z := by
    have := Blk.new (w.alloc (.cells Z 24)) 24 Z
    rw [show (w.alloc (.cells Z 24)).heap.size = w.heap.size + 1 by simp] at this
    exact this.drew
  have G0 : Blk (((w.alloc (.cells Z 24)).alloc (.cells Z 24)).drew) w.heap.size 24 Z := ((Blk.new w 24 Z).alloc _).drew
  have B0 : Below w.heap.size w (((w.alloc (.cells Z 24)).alloc (.cells Z 24)).drew) := (((Below.refl _ _).alloc (Nat.le_refl _) _).alloc (by simp) _).drew
  have ZS : Z.size = 29 := by rw [hZ0]; rfl
  have LP : PartS f 0 (((Z.setIfInBounds 0 (.int .i64 (f 0))).setIfInBounds 1 (.int .i64 (f 1))).setIfInBounds 2 (.int .i64 (f 2))) := by rw [hZ0]; exact PartS.start z29_at f
  have hst : (storeCells ⟨w.heap.size + 1, 0, none⟩ (((Z.toList.set 0 (.int .i64 (f 0))).set 1 (.int .i64 (f 1))).set 2 (.int .i64 (f 2))) 0).run Try.prog (((w.alloc (.cells Z 24)).alloc (.cells Z 24)).drew) = .ok () ((((w.alloc (.cells Z 24)).alloc (.cells Z 24)).drew).setRow (w.heap.size + 1) (((Z.setIfInBounds 0 (.int .i64 (f 0))).setIfInBounds 1 (.int .i64 (f 1))).setIfInBounds 2 (.int .i64 (f 2)))) := by
    have := store_blk F0 (c' := (((Z.setIfInBounds 0 (.int .i64 (f 0))).setIfInBounds 1 (.int .i64 (f 1))).setIfInBounds 2 (.int .i64 (f 2)))) (by rw [LP.1]; exact size_s) (by rw [ZS, LP.1]) LP.one
    simpa only [Array.toList_setIfInBounds] using this
  have FIN := Lib.hid (show Blk ((((w.alloc (.cells Z 24)).alloc (.cells Z 24)).drew).setRow (w.heap.size + 1) (((Z.setIfInBounds 0 (.int .i64 (f 0))).setIfInBounds 1 (.int .i64 (f 1))).setIfInBounds 2 (.int .i64 (f 2)))) (w.heap.size + 1) 24 (((Z.setIfInBounds 0 (.int .i64 (f 0))).setIfInBounds 1 (.int .i64 (f 1))).setIfInBounds 2 (.int .i64 (f 2))) ∧ (∃ ys, Blk ((((w.alloc (.cells Z 24)).alloc (.cells Z 24)).drew).setRow (w.heap.size + 1) (((Z.setIfInBounds 0 (.int .i64 (f 0))).setIfInBounds 1 (.int .i64 (f 1))).setIfInBounds 2 (.int .i64 (f 2)))) w.heap.size 24 ys ∧ ys.size = 29) ∧ Below w.heap.size w ((((w.alloc (.cells Z 24)).alloc (.cells Z 24)).drew).setRow (w.heap.size + 1) (((Z.setIfInBounds 0 (.int .i64 (f 0))).setIfInBounds 1 (.int .i64 (f 1))).setIfInBounds 2 (.int .i64 (f 2)))) from
    ⟨blk_setRow F0 _, ⟨Z, blk_setRow_far G0 (by omega) _, ZS⟩, below_setRow B0 (by omega) _⟩)
  have HP := Lib.hid LP
  have sz : Z.size = 29 := ZS
  have sz2 : ¬ Z = #[] := by intro h; rw [h] at sz; cases sz
  clear hB hA F0 G0 B0 ZS LP hZ0
  go_enter Try.func10, Try.ntmps10
  go_upto_region 3 with fail
  go_cut [3] (fun s3 wx => s3 = .pointer (some ⟨w.heap.size + 1, 0, none⟩) ∧ ∃ zs, PartS f 0 zs ∧ Blk wx (w.heap.size + 1) 24 zs ∧ (∃ ys, Blk wx w.heap.size 24 ys ∧ ys.size = 29) ∧ Below w.heap.size w wx)
  case first =>
    go_region_with (first
      | (go_at_call 26; (with_reducible refine (HL.out 0 (by omega) _ (by repeat (first | with_reducible exact Below.refl _ _ | with_reducible apply Below.drew | with_reducible refine Below.alloc ?_ (by simp) _))).mono ?_); rintro e w' ⟨rfl, rfl⟩)
      | (go_at_call 26; (with_reducible refine (HL.out 1 (by omega) _ (by repeat (first | with_reducible exact Below.refl _ _ | with_reducible apply Below.drew | with_reducible refine Below.alloc ?_ (by simp) _))).mono ?_); rintro e w' ⟨rfl, rfl⟩)
      | (go_at_call 26; (with_reducible refine (HL.out 2 (by omega) _ (by repeat (first | with_reducible exact Below.refl _ _ | with_reducible apply Below.drew | with_reducible refine Below.alloc ?_ (by simp) _))).mono ?_); rintro e w' ⟨rfl, rfl⟩))
    all_goals (go_wp2_with fail; go_meet; exact ⟨rfl, _, HP.out, FIN.out⟩)
  case rest =>
    obtain ⟨rfl, zs0, hP0, hZ0, ⟨ys0, hY0, hY1⟩, hb0⟩ := hcut
    have GP := Lib.hid hP0
    have GZ := Lib.hid hZ0
    have GY := Lib.hid hY0
    have GY1 := Lib.hid hY1
    have GB := Lib.hid hb0
    clear hP0 hZ0 hY0 hY1 hb0 FIN
    go_wp2_with fail
    go_loopw [21, 4] (fun i _ wr => ∃ (j : Nat) (zs : Array Value), j ≤ 26 ∧ i = .int .i64 j ∧ PartS f j zs ∧ Blk wr (w.heap.size + 1) 24 zs ∧ (∃ ys, Blk wr w.heap.size 24 ys ∧ ys.size = 29) ∧ Below w.heap.size w wr) (fun i _ _ => 26 - (intOf i).toNat)
    case atStart => exact ⟨0, zs0, by omega, rfl, GP.out, GZ.out, ⟨ys0, GY.out, GY1.out⟩, GB.out⟩
    case round =>
      obtain ⟨j, zs, hj, rfl, hP, hZ, ⟨ys, hY, hY1⟩, hbel⟩ := hrel
      have KP := Lib.hid hP
      have KZ := Lib.hid hZ
      have KY := Lib.hid hY
      have KY1 := Lib.hid hY1
      have KB := Lib.hid hbel
      by_cases hj8 : j < 26
      · have p1 : decide ((j : Int) < 26) = true := decide_eq_true (by omega)
        have d1 := (hZ.cell (3 + j)).trans (hP.here hj8)
        have d3 := hZ.frozen (3 + j)
        clear hP hZ hY hY1 hbel
        go_wp2_with fail
        refine (HL.out (3 + j) (by omega) _ KB.out).mono ?_
        rintro e w' ⟨rfl, rfl⟩
        go_wp2_with fail
        refine ⟨⟨j + 1, _, by omega, rfl, KP.out.next hj8, KZ.out.set_ _ _, ⟨ys, KY.out.far (by show w.heap.size ≠ w.heap.size + 1; omega) _, KY1.out⟩, KB.out.setCell (by show w.heap.size ≤ w.heap.size + 1; omega) _⟩, ?_⟩
        show 26 - ((j : Int) + 1).toNat < 26 - ((j : Int)).toNat
        omega
      · obtain rfl : j = 26 := by omega
        have HI := Lib.hid (show (Try.prog.info? 24).map (·.size) = some zs.size by rw [hP.1]; exact size_s)
        have HZS := Lib.hid (show ys.size = zs.size by rw [hP.1, hY1])
        have HO := Lib.hid hP.one
        have HF := Lib.hid hP.all
        have HR := Lib.hid (blk_setRow hY zs)
        have HBZ := Lib.hid (below_setRow hbel (Nat.le_refl w.heap.size) zs)
        clear hP hZ hY hY1 hbel
        go_wp2_with (first
          | (refine wpList_load_row rfl 24 _ rfl (w.heap.size + 1) rfl 24 zs (0, 0) _ KZ.out Try.underlying24 rfl HI.out ?_)
          | (refine wpList_store_row rfl 24 _ _ rfl w.heap.size zs rfl rfl 24 ys KY.out HI.out HZS.out HO.out ?_))
        refine bodyPost_ret (v := .agg zs) (results_cell_row rfl _ _ w.heap.size 24 zs (0, 0) _ rfl HR.out Try.underlying24 rfl HI.out) rfl ⟨zs, rfl, HF.out, HBZ.out⟩
end Go.Proofs.Ytpgodmcpdgbhaaa.countF
