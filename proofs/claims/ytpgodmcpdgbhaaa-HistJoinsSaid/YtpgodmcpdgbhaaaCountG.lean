/- Layer 31: a board that is cleared. -/
import Derived.Test.YtpgodmcpdgbhaaaCountF
namespace Go.Proofs.Ytpgodmcpdgbhaaa.countG
open Go.ChangeShapes Go.WideShapes Go.ChangeAt Go.RowKit
open Go.Proofs.Ytpgodmcpdgbhaaa.base Go.Proofs.Ytpgodmcpdgbhaaa.countA Go.Proofs.Ytpgodmcpdgbhaaa.countC Go.Proofs.Ytpgodmcpdgbhaaa.countD Go.Proofs.Ytpgodmcpdgbhaaa.countE Go.Proofs.Ytpgodmcpdgbhaaa.countF
set_option linter.unusedVariables false

/-- Below block B nothing but block g has changed. -/
structure But (g B : Nat) (w w' : World) : Prop where
  os : w'.os = w.os
  tape : w'.tape = w.tape
  output : w'.output = w.output
  size : w.heap.size ≤ w'.heap.size
  block : ∀ k, k < B → k ≠ g → w'.heap[k]? = w.heap[k]?
theorem But.refl (g B : Nat) (w : World) : But g B w w := ⟨rfl, rfl, rfl, Nat.le_refl _, fun _ _ _ => rfl⟩
theorem But.below {g B : Nat} {a w w' : World} (h : But g B a w) (hb : Below B w w') : But g B a w' :=
  ⟨hb.os.trans h.os, hb.tape.trans h.tape, hb.output.trans h.output, Nat.le_trans h.size hb.size, fun k hk hn => (hb.block k hk).trans (h.block k hk hn)⟩
theorem But.only {g B : Nat} {a w w' : World} (h : But g B a w) (hb : OnlyB g w w') : But g B a w' :=
  ⟨hb.os.trans h.os, hb.tape.trans h.tape, hb.output.trans h.output, by rw [hb.size]; exact h.size, fun k hk hn => (hb.block k hn).trans (h.block k hk hn)⟩
theorem But.blk {g B : Nat} {w w' : World} (h : But g B w w') {k : Nat} {t : TypeId} {cs : Array Value} (hb : Blk w k t cs) (hk : k < B) (hn : k ≠ g) : Blk w' k t cs := (h.block k hk hn).trans hb
theorem But.low {g B C : Nat} {a w w' : World} (h : But g B w w') (hb : Below C a w) (hg : C ≤ g) (hC : C ≤ B) : Below C a w' :=
  hb.trans ⟨h.os, h.tape, h.output, h.size, fun k hk => h.block k (by omega) (by omega)⟩
/-- As far as it is cleared. -/
def Gone (f : Nat → Int) (j : Nat) (cs : Array Value) : Prop := At cs (fun i => if i < j then 0 else f i)
theorem Gone.start {cs : Array Value} {f : Nat → Int} (h : At cs f) : Gone f 0 cs := ⟨h.1, fun i hi => by rw [h.2 i hi]; rfl⟩
theorem Gone.next {f : Nat → Int} {j : Nat} {cs : Array Value} (h : Gone f j cs) (hj : j < 29) : Gone f (j + 1) (cs.setIfInBounds j (.int .i64 0)) := by
  refine ⟨(h.set j hj _).1, fun i hi => ?_⟩
  rw [(h.set j hj _).2 i hi]
  by_cases e : i = j
  · subst e
    simp only [if_true]
    rw [if_pos (by omega)]
  · simp only [e, if_false]
    by_cases e2 : i < j
    · rw [if_pos e2, if_pos (by omega)]
    · rw [if_neg e2, if_neg (by omega)]
theorem Gone.here {f : Nat → Int} {j : Nat} {cs : Array Value} (h : Gone f j cs) (hj : j < 29) : cs[j]? = some (.int .i64 (f j)) := by
  have := h.2 j hj
  simpa using this
theorem Gone.all {f : Nat → Int} {cs : Array Value} (h : Gone f 29 cs) : At cs (fun _ => 0) := by
  refine ⟨h.1, fun i hi => ?_⟩
  have := h.2 i hi
  simpa [hi] using this
def SwapPost (g j : Nat) (f : Nat → Int) (w : World) (e : Ending) (w' : World) : Prop := ∃ cs, e = .returned (.int .i64 (f j)) ∧ Blk w' g 44 cs ∧ Gone f (j + 1) cs ∧ OnlyB g w w'
theorem swap_at (g j : Nat) (cs : Array Value) (f : Nat → Int) (w : World) (hj : j < 29) (hB : Blk w g 44 cs) (hA : Gone f j cs) :
    Calls Try.prog 27 #[.pointer (some ⟨g, j, none⟩), .int .i64 0] w (SwapPost g j f w) :=
  (swap_any g j (f j) 0 w ((hB.cell j).trans (hA.here hj)) (hB.frozen j)).mono fun e w' ⟨he, hw⟩ => by
    subst hw
    exact ⟨_, he, hB.set_ j _, hA.next hj, (OnlyB.refl g w).set j _⟩
theorem store3 {W : World} {g : Nat} {Z : Array Value} (h : Blk W g 24 Z) (hz : Z.size = 29) (f : Nat → Int) (hp : PartS f 0 (((Z.setIfInBounds 0 (.int .i64 (f 0))).setIfInBounds 1 (.int .i64 (f 1))).setIfInBounds 2 (.int .i64 (f 2)))) :
    (storeCells ⟨g, 0, none⟩ (((Z.toList.set 0 (.int .i64 (f 0))).set 1 (.int .i64 (f 1))).set 2 (.int .i64 (f 2))) 0).run Try.prog W = .ok () (W.setRow g (((Z.setIfInBounds 0 (.int .i64 (f 0))).setIfInBounds 1 (.int .i64 (f 1))).setIfInBounds 2 (.int .i64 (f 2)))) := by
  have := store_blk h (c' := (((Z.setIfInBounds 0 (.int .i64 (f 0))).setIfInBounds 1 (.int .i64 (f 1))).setIfInBounds 2 (.int .i64 (f 2)))) (by rw [hp.1]; exact size_s) (by rw [hz, hp.1]) hp.one
  simpa only [Array.toList_setIfInBounds] using this
set_option maxRecDepth 100000 in
set_option maxHeartbeats 4000000 in
theorem clear_at (g : Nat) (cs0 : Array Value) (f : Nat → Int) (w : World) (hB : Blk w g 44 cs0) (hA : At cs0 f) :
    Calls Try.prog 11 #[.pointer (some ⟨g, 0, none⟩)] w fun e w' => ∃ c cs, e = .returned (.agg c) ∧ At c f ∧ Blk w' g 44 cs ∧ At cs (fun _ => 0) ∧ But g w.heap.size w w' := by
  have hg := hB.lt
  have HS := Lib.hid (fun (j : Nat) (hj : j < 29) (cs : Array Value) (W : World) (hB : Blk W g 44 cs) (hA : Gone f j cs) => swap_at g j cs f W hj hB hA)
  obtain ⟨Z, hZ0⟩ : ∃ Z : Array Value, Z = Z29 := ⟨_, rfl⟩
  have hz : ∀ w : World, (zeroValue 24).run Try.prog w = .ok (.agg Z) w := by rw [hZ0]; exact (zero_of_info zero29).1
  have ZS := Lib.hid (show Z.size = 29 by rw [hZ0]; rfl)
  have LP := Lib.hid (show PartS f 0 (((Z.setIfInBounds 0 (.int .i64 (f 0))).setIfInBounds 1 (.int .i64 (f 1))).setIfInBounds 2 (.int .i64 (f 2))) by rw [hZ0]; exact PartS.start z29_at f)
  have K0 := Lib.hid hB
  have A0 := Lib.hid (Gone.start hA)
  have Y0 := Lib.hid (Blk.new w 24 Z)
  have X0 := Lib.hid (show Blk ((w.alloc (.cells Z 24)).alloc (.cells Z 24)) (w.heap.size + 1) 24 Z by have := Blk.new (w.alloc (.cells Z 24)) 24 Z; rw [show (w.alloc (.cells Z 24)).heap.size = w.heap.size + 1 by simp] at this; exact this)
  have sz : Z.size = 29 := ZS.out
  have sz2 : ¬ Z = #[] := by intro h; rw [h] at sz; cases sz
  clear hB hA hZ0
  go_enter Try.func11, Try.ntmps11
  go_upto_region 3 with fail
  go_cut [3] (fun s3 wx => s3 = .pointer (some ⟨w.heap.size + 1, 0, none⟩) ∧ ∃ zs cs, PartS f 0 zs ∧ Blk wx (w.heap.size + 1) 24 zs ∧ (∃ ys, Blk wx w.heap.size 24 ys ∧ ys.size = 29) ∧ Blk wx g 44 cs ∧ Gone f 3 cs ∧ But g w.heap.size w wx)
  case first =>
    go_region_with (first
      | (go_at_call 27; (with_reducible refine (HS.out 0 (by omega) _ _ (by repeat (first | with_reducible exact K0.out | with_reducible refine Blk.drew ?_ | with_reducible refine Blk.alloc ?_ _)) A0.out).mono ?_); rintro e w3 ⟨cs1, rfl, hb, ha, ho⟩; have K1 := Lib.hid hb; have A1 := Lib.hid ha; have z1 := ho.size; simp at z1; have B1 := Lib.hid (((But.refl g w.heap.size w).below (by repeat (first | with_reducible exact Below.refl _ _ | with_reducible apply Below.drew | with_reducible refine Below.alloc ?_ (by simp) _))).only ho); have Y1 := Lib.hid (show Blk w3 w.heap.size 24 Z from ho.blk (by repeat (first | with_reducible exact Y0.out | with_reducible refine Blk.drew ?_ | with_reducible refine Blk.alloc ?_ _)) (by omega)); (first | (have X1 := Lib.hid (show Blk w3 (w.heap.size + 1) 24 Z from ho.blk X0.out.drew (by omega))) | (have X1 := Lib.hid (show Blk (w3.alloc (.cells Z 24)) (w.heap.size + 1) 24 Z by have := Blk.new w3 24 Z; rw [z1] at this; exact this))); clear hb ha ho)
      | (go_at_call 27; (with_reducible refine (HS.out 1 (by omega) _ _ (by repeat (first | with_reducible exact K1.out | with_reducible refine Blk.drew ?_ | with_reducible refine Blk.alloc ?_ _)) A1.out).mono ?_); rintro e w4 ⟨cs2, rfl, hb, ha, ho⟩; have K2 := Lib.hid hb; have A2 := Lib.hid ha; have z2 := ho.size; simp [z1] at z2; have B2 := Lib.hid ((B1.out.below (by repeat (first | with_reducible exact Below.refl _ _ | with_reducible apply Below.drew | with_reducible refine Below.alloc ?_ (by simp only [z1]; omega) _))).only ho); have Y2 := Lib.hid (show Blk w4 w.heap.size 24 Z from ho.blk (by repeat (first | with_reducible exact Y1.out | with_reducible refine Blk.drew ?_ | with_reducible refine Blk.alloc ?_ _)) (by omega)); (first | (have X2 := Lib.hid (show Blk w4 (w.heap.size + 1) 24 Z from ho.blk X1.out (by omega))) | (have X2 := Lib.hid (show Blk (w4.alloc (.cells Z 24)) (w.heap.size + 1) 24 Z by have := Blk.new w4 24 Z; rw [z2] at this; exact this))); clear hb ha ho)
      | (go_at_call 27; (with_reducible refine (HS.out 2 (by omega) _ _ (by repeat (first | with_reducible exact K2.out | with_reducible refine Blk.drew ?_ | with_reducible refine Blk.alloc ?_ _)) A2.out).mono ?_); rintro e w5 ⟨cs3, rfl, hb, ha, ho⟩; have K3 := Lib.hid hb; have A3 := Lib.hid ha; have z3 := ho.size; simp [z2] at z3; have B3 := Lib.hid ((B2.out.below (by repeat (first | with_reducible exact Below.refl _ _ | with_reducible apply Below.drew | with_reducible refine Below.alloc ?_ (by simp only [z2]; omega) _))).only ho); have Y3 := Lib.hid (show Blk w5 w.heap.size 24 Z from ho.blk (by repeat (first | with_reducible exact Y2.out | with_reducible refine Blk.drew ?_ | with_reducible refine Blk.alloc ?_ _)) (by omega)); (first | (have X3 := Lib.hid (show Blk w5 (w.heap.size + 1) 24 Z from ho.blk X2.out (by omega))) | (have X3 := Lib.hid (show Blk (w5.alloc (.cells Z 24)) (w.heap.size + 1) 24 Z by have := Blk.new w5 24 Z; rw [z3] at this; exact this))); have hst := store3 X3.out ZS.out f LP.out; clear hb ha ho))
    all_goals (go_wp2_with fail; go_meet; exact ⟨rfl, _, _, LP.out, blk_setRow X3.out _, ⟨Z, blk_setRow_far (by repeat (first | with_reducible exact Y3.out | with_reducible refine Blk.drew ?_ | with_reducible refine Blk.alloc ?_ _)) (by omega) _, ZS.out⟩, blk_setRow_far (by repeat (first | with_reducible exact K3.out | with_reducible refine Blk.drew ?_ | with_reducible refine Blk.alloc ?_ _)) (by omega) _, A3.out, B3.out.below (below_setRow (by repeat (first | with_reducible exact Below.refl _ _ | with_reducible apply Below.drew | with_reducible refine Below.alloc ?_ (by simp only [z3]; omega) _)) (by omega) _)⟩)
  case rest =>
    obtain ⟨rfl, zs0, cs1, hP0, hZ0, ⟨ys0, hY0, hY1⟩, hG0, hN0, hb0⟩ := hcut
    have GP := Lib.hid hP0
    have GZ := Lib.hid hZ0
    have GY := Lib.hid hY0
    have GY1 := Lib.hid hY1
    have GG := Lib.hid hG0
    have GN := Lib.hid hN0
    have GB := Lib.hid hb0
    clear hP0 hZ0 hY0 hY1 hG0 hN0 hb0 K0 A0 Y0 X0 sz sz2 hz ZS LP
    go_wp2_with fail
    go_loopw [21, 4] (fun i _ wr => ∃ (j : Nat) (zs cs : Array Value), j ≤ 26 ∧ i = .int .i64 j ∧ PartS f j zs ∧ Blk wr (w.heap.size + 1) 24 zs ∧ (∃ ys, Blk wr w.heap.size 24 ys ∧ ys.size = 29) ∧ Blk wr g 44 cs ∧ Gone f (3 + j) cs ∧ But g w.heap.size w wr) (fun i _ _ => 26 - (intOf i).toNat)
    case atStart => exact ⟨0, zs0, cs1, by omega, rfl, GP.out, GZ.out, ⟨ys0, GY.out, GY1.out⟩, GG.out, GN.out, GB.out⟩
    case round =>
      obtain ⟨j, zs, cs, hj, rfl, hP, hZ, ⟨ys, hY, hY1⟩, hG, hN, hbut⟩ := hrel
      have KP := Lib.hid hP
      have KZ := Lib.hid hZ
      have KY := Lib.hid hY
      have KY1 := Lib.hid hY1
      have KG := Lib.hid hG
      have KN := Lib.hid hN
      have KB := Lib.hid hbut
      by_cases hj8 : j < 26
      · have p1 : decide ((j : Int) < 26) = true := decide_eq_true (by omega)
        have PH := Lib.hid (hP.here hj8)
        clear hP hZ hY hY1 hG hN hbut
        go_wp2_with fail
        refine (HS.out (3 + j) (by omega) _ _ KG.out KN.out).mono ?_
        rintro e w3 ⟨cs', rfl, hb, ha, ho⟩
        have JG := Lib.hid hb
        have JN := Lib.hid ha
        have JO := Lib.hid ho
        have hz3 := ho.blk KZ.out (by omega)
        have JZ := Lib.hid hz3
        have d1 := (hz3.cell (3 + j)).trans PH.out
        have d3 := hz3.frozen (3 + j)
        clear hb ha ho hz3
        go_wp2_with fail
        refine ⟨⟨j + 1, _, cs', by omega, rfl, KP.out.next hj8, JZ.out.set_ _ _, ⟨ys, (JO.out.blk KY.out (by omega)).far (by show w.heap.size ≠ w.heap.size + 1; omega) _, KY1.out⟩, JG.out.far (by show g ≠ w.heap.size + 1; omega) _, JN.out, (KB.out.only JO.out).below ((Below.refl w.heap.size _).setCell (by show w.heap.size ≤ w.heap.size + 1; omega) _)⟩, ?_⟩
        show 26 - ((j : Int) + 1).toNat < 26 - ((j : Int)).toNat
        omega
      · obtain rfl : j = 26 := by omega
        have HI := Lib.hid (show (Try.prog.info? 24).map (·.size) = some zs.size by rw [hP.1]; exact size_s)
        have HZS := Lib.hid (show ys.size = zs.size by rw [hP.1, hY1])
        have HO := Lib.hid hP.one
        have HF := Lib.hid hP.all
        have HR := Lib.hid (blk_setRow hY zs)
        have HGG := Lib.hid (blk_setRow_far hG (show g ≠ w.heap.size by omega) zs)
        have HN := Lib.hid hN.all
        have HBZ := Lib.hid (hbut.below (below_setRow (Below.refl w.heap.size wr) (Nat.le_refl w.heap.size) zs))
        clear hP hZ hY hY1 hG hN hbut
        go_wp2_with (first
          | (refine wpList_load_row rfl 24 _ rfl (w.heap.size + 1) rfl 24 zs (0, 0) _ KZ.out Try.underlying24 rfl HI.out ?_)
          | (refine wpList_store_row rfl 24 _ _ rfl w.heap.size zs rfl rfl 24 ys KY.out HI.out HZS.out HO.out ?_))
        refine bodyPost_ret (v := .agg zs) (results_cell_row rfl _ _ w.heap.size 24 zs (0, 0) _ rfl HR.out Try.underlying24 rfl HI.out) rfl ⟨zs, cs, rfl, HF.out, HGG.out, HN.out, HBZ.out⟩
end Go.Proofs.Ytpgodmcpdgbhaaa.countG
