/- Layer 31: whatever is counted. -/
import Derived.Test.YtpgodmcpdgbhaaaCountH
import Derived.Test.YtpgodmcpdgbhaaaRateE
import Derived.Deep.RegionHeld3
import Derived.Deep.MidRow
namespace Go.Proofs.Ytpgodmcpdgbhaaa.countI
open Go.ChangeShapes Go.WideShapes Go.ChangeAt Go.RowKit
open Go.Proofs.Ytpgodmcpdgbhaaa.base Go.Proofs.Ytpgodmcpdgbhaaa.countA Go.Proofs.Ytpgodmcpdgbhaaa.countC Go.Proofs.Ytpgodmcpdgbhaaa.countD Go.Proofs.Ytpgodmcpdgbhaaa.countE Go.Proofs.Ytpgodmcpdgbhaaa.countF Go.Proofs.Ytpgodmcpdgbhaaa.countG Go.Proofs.Ytpgodmcpdgbhaaa.countH Go.Proofs.Ytpgodmcpdgbhaaa.rateE
set_option linter.unusedVariables false

/-- What holds at a round's head: the board and the sum say the same. -/
def Inv (w wr : World) : Prop := ∃ (f : Nat → Int) (cs cs' : Array Value), Blk wr w.heap.size 44 cs ∧ At cs f ∧ Blk wr (w.heap.size + 1) 24 cs' ∧ At cs' f ∧ In64 f ∧ Below w.heap.size w wr
theorem range_blk {W : World} {g : Nat} {t : TypeId} {cs : Array Value} (h : Blk W g t cs) : W.rangeAt g 0 cs.toList := fun j v hv => by
  rw [h.cell, Nat.zero_add]
  simpa using hv
theorem up_nil {f : Nat → Int} (h : In64 f) : up f 2 0 = f := by
  funext i
  unfold countE.up
  split
  · rename_i e
    subst e
    have b := bounds_i64 (h 2 (by omega))
    rw [Int.add_zero]
    exact IntWalk.wrap64_in _ (by omega)
  · rfl
set_option maxRecDepth 100000 in
set_option maxHeartbeats 8000000 in
theorem plays_any (A : Option Addr) (n c : Nat) (l : List (Int × Int)) (x : Int) (w : World) (hl : l.length = n) (hr : RowP w w.heap.size A l) (hc : n ≤ 9223372036854775807) :
    Calls Try.prog 4 #[.slice A n c, .int .i64 x] w fun e w' => e = .returned (.bool true) ∧ Below w.heap.size w w' := by
  have HR := Lib.hid hr
  have HN := Lib.hid hl
  have HSUM := Lib.hid (fun (cs : Array Value) (f : Nat → Int) (W : World) hB hA => sum_at w.heap.size cs f W hB hA)
  obtain ⟨Z, hZ0⟩ : ∃ Z : Array Value, Z = Z29 := ⟨_, rfl⟩
  have hz : ∀ w : World, (zeroValue 24).run Try.prog w = .ok (.agg Z) w := by rw [hZ0]; exact (zero_of_info zero29).1
  have hzb : ∀ w : World, (zeroValue 44).run Try.prog w = .ok (.agg Z) w := by rw [hZ0]; exact (zero_of_info zero29b).1
  have ZA := Lib.hid (show At Z (fun _ => 0) by rw [hZ0]; exact z29_at)
  have sz : Z.size = 29 := ZA.out.1
  have sz2 : ¬ Z = #[] := by intro h; rw [h] at sz; cases sz
  have G0 := Lib.hid ((Blk.new w 44 Z).alloc (.cells Z 24))
  have H0 := Lib.hid (show Blk ((w.alloc (.cells Z 44)).alloc (.cells Z 24)) (w.heap.size + 1) 24 Z by have := Blk.new (w.alloc (.cells Z 44)) 24 Z; rw [show (w.alloc (.cells Z 44)).heap.size = w.heap.size + 1 by simp] at this; exact this)
  have B0 := Lib.hid (show Below w.heap.size w ((w.alloc (.cells Z 44)).alloc (.cells Z 24)) from ((Below.refl _ _).alloc (Nat.le_refl _) _).alloc (by simp) _)
  clear hr hl hZ0 hc
  go_enter Try.func4, Try.ntmps4
  go_wp2_with fail
  go_loopw [7] (fun i wr => ∃ k : Nat, k ≤ 60 ∧ k ≤ n ∧ i = .int .i64 k ∧ Inv w wr) (fun i _ => 60 - (intOf i).toNat)
  case atStart => exact ⟨0, by omega, by omega, rfl, ⟨_, Z, Z, G0.out, ZA.out, H0.out, ZA.out, in64_zero, B0.out⟩⟩
  case round =>
    obtain ⟨k, hk, hkn, rfl, f, cs, cs', hG, hA, hH, hA', hI, hbel⟩ := hrel
    have HG := Lib.hid hG
    have HA := Lib.hid hA
    have HH := Lib.hid hH
    have HA' := Lib.hid hA'
    have HI := Lib.hid hI
    have HB := Lib.hid hbel
    by_cases hgo : k < n ∧ k < 60
    · obtain ⟨hlt, h60⟩ := hgo
      have hkl : k < l.length := by rw [HN.out]; exact hlt
      obtain ⟨b, off, rfl, hbl, hcc⟩ := HR.out.at_ (by omega)
      obtain ⟨c0, c1⟩ := hcc k hkl
      have c0 := (hbel.cell (p := ⟨b, off + k * 2, none⟩) hbl).trans c0
      have c1 := (hbel.cell (p := ⟨b, off + k * 2 + 1, none⟩) hbl).trans c1
      clear hcc hG hA hH hA' hI hbel hkl G0 H0 B0
      generalize l.getD k (0, 0) = o at *
      obtain ⟨K, N⟩ := o
      simp only at c0 c1
      by_cases hK0 : K = 0
      · subst hK0
        by_cases hN : 0 ≤ N ∧ N < 26
        · skip
          obtain ⟨m, rfl⟩ := Int.eq_ofNat_of_zero_le hN.1
          have hm : m < 26 := by omega
          clear hN
          go_wp2_with fail
          refine (in_yes w.heap.size m cs f _ hm HG.out HA.out).mono ?_
          rintro e w2 ⟨cs2, rfl, hb, ha, ho⟩
          have G2 := Lib.hid hb
          have A2 := Lib.hid ha
          have hh2 : Blk w2 (w.heap.size + 1) 24 cs' := ho.blk HH.out (by omega)
          have B2 := Lib.hid (ho.below HB.out (Nat.le_refl _))
          have v0 := (hh2.cell 0).trans (HA'.out.2 0 (by omega))
          have v1 := (hh2.cell (3 + m)).trans (HA'.out.2 (3 + m) (by omega))
          have z0 := hh2.frozen 0
          have z1 := hh2.frozen (3 + m)
          have H2 := Lib.hid hh2
          clear hb ha ho hh2
          go_wp2_with fail
          have G3 := Lib.hid (show Blk ((w2.setCell ⟨w.heap.size + 1, 0, none⟩ (.int .i64 (wrap64 (f 0 + 1)))).setCell ⟨w.heap.size + 1, 3 + m, none⟩ (.int .i64 (wrap64 (f (3 + m) + 1)))) w.heap.size 44 cs2 from (G2.out.far (by show w.heap.size ≠ w.heap.size + 1; omega) _).far (by show w.heap.size ≠ w.heap.size + 1; omega) _)
          have H3 := Lib.hid (show Blk ((w2.setCell ⟨w.heap.size + 1, 0, none⟩ (.int .i64 (wrap64 (f 0 + 1)))).setCell ⟨w.heap.size + 1, 3 + m, none⟩ (.int .i64 (wrap64 (f (3 + m) + 1)))) (w.heap.size + 1) 24 _ from (H2.out.set_ 0 _).set_ (3 + m) _)
          have B3 := Lib.hid (show Below w.heap.size w ((w2.setCell ⟨w.heap.size + 1, 0, none⟩ (.int .i64 (wrap64 (f 0 + 1)))).setCell ⟨w.heap.size + 1, 3 + m, none⟩ (.int .i64 (wrap64 (f (3 + m) + 1)))) from (B2.out.setCell (by show w.heap.size ≤ w.heap.size + 1; omega) _).setCell (by show w.heap.size ≤ w.heap.size + 1; omega) _)
          have a3 := at_up (at_up HA'.out 0 (by omega) 1) (3 + m) (by omega) 1
          rw [up_other f 0 (3 + m) 1 (by omega)] at a3
          have A3 := Lib.hid a3
          have I3 := Lib.hid ((HI.out.up 0 1).up (3 + m) 1)
          clear a3 v0 v1 z0 z1 G2 H2 B2
          generalize ((w2.setCell ⟨w.heap.size + 1, 0, none⟩ (.int .i64 (wrap64 (f 0 + 1)))).setCell ⟨w.heap.size + 1, 3 + m, none⟩ (.int .i64 (wrap64 (f (3 + m) + 1)))) = w3 at *
          obtain ⟨cs3, hcs3⟩ : ∃ cs3, cs3 = ((cs'.setIfInBounds 0 (.int .i64 (wrap64 (f 0 + 1)))).setIfInBounds (3 + m) (.int .i64 (wrap64 (f (3 + m) + 1)))) := ⟨_, rfl⟩
          rw [← hcs3] at H3 A3
          clear hcs3
          have RG0 := Lib.hid (range_blk H3.out.drew)
          have hne := neq_same A3.out I3.out
          have HU := Lib.hid Try.underlying24
          have HI_ := Lib.hid (show (Try.prog.info? 24).map (·.size) = some cs3.toList.length by rw [Array.length_toList, A3.out.1]; exact size_s)
          refine wp_region_held_drew (S := fun w' => w'.rangeAt (w.heap.size + 1) 0 cs3.toList) (by kernel_rfl) RG0.out (fun hHeld => ?_)
          refine wpAnyH_take (i := 0) (v := _) rfl (by kernel_rfl) (by kernel_rfl) (by kernel_rfl) (fun _ _ _ h => h) (Or.inl ⟨by rfl, fun w _ => rfl⟩) hHeld ?_
          simp only [Act.put, List.setIfInBounds_toArray]
          refine wpAnyH_take (i := 2) rfl (by kernel_rfl) (by kernel_rfl) (by kernel_rfl) (fun _ _ _ h => h) (yieldsIf_load_mid (by rfl) _ _ rfl (w.heap.size + 1) 0 rfl cs3.toList _ (fun _ h => h) HU.out rfl HI_.out) hHeld ?_
          simp only [Act.put, Array.toArray_toList]
          refine wpAnyH_ready (rs := [1]) (by kernel_rfl) (by simp) ?_
          refine AllReadyH.cons rfl (fun K hK => ?_) AllReadyH.nil
          go_simp
          go_at_call 10
          (with_reducible refine (HSUM.out _ _ _ G3.out.drew A2.out).mono ?_)
          rintro e w9 ⟨c9, rfl, hc9, hb9⟩
          have he9 := at_ext A3.out hc9
          subst he9
          have G9 := Lib.hid (G3.out.drew.below hb9 G3.out.drew.lt)
          have H9 := Lib.hid (H3.out.drew.below hb9 H3.out.drew.lt)
          have B9 := Lib.hid (B3.out.drew.trans (hb9.mono B3.out.drew.size))
          have RG9 := Lib.hid (range_blk H9.out)
          clear hb9 hc9
          refine hK.out _ _ ?_ (fun hHeld2 => ?_)
          · exact RG9.out
          clear hK K
          skip
          refine wpAnyH_take (i := 3) (v := .bool false) rfl (by kernel_rfl) (by kernel_rfl) (by kernel_rfl) (fun _ _ _ h => h) (Or.inl ⟨by rfl, ?_⟩) hHeld2 ?_
          · intro w hSw
            go_simp
          skip
          refine wpAnyH_done (by kernel_rfl) ?_ _
          clear hHeld hHeld2
          go_wp2_with fail
          go_roundw
          case rel => exact ⟨k + 1, by omega, by omega, by go_num, ⟨_, _, _, G9.out, A2.out, H9.out, A3.out, I3.out, B9.out⟩⟩
          case measure => simp [intOf]; omega
        · skip
          go_wp2_with fail
          refine (in_no w.heap.size N cs f _ hN HG.out HA.out).mono ?_
          rintro e w2 ⟨cs2, rfl, hb, ha, ho⟩
          have G2 := Lib.hid hb
          have A2 := Lib.hid ha
          have hh2 : Blk w2 (w.heap.size + 1) 24 cs' := ho.blk HH.out (by omega)
          have B2 := Lib.hid (ho.below HB.out (Nat.le_refl _))
          have v0 := (hh2.cell 0).trans (HA'.out.2 0 (by omega))
          have z0 := hh2.frozen 0
          have H2 := Lib.hid hh2
          clear hb ha ho hh2
          by_cases hN0 : 0 ≤ N
          · have r0 : decide (0 ≤ N) = true := decide_eq_true hN0
            have r1 : decide (N < 26) = false := decide_eq_false (by omega)
            clear hN hN0
            go_wp2_with fail
            have G3 := Lib.hid (show Blk (w2.setCell ⟨w.heap.size + 1, 0, none⟩ (.int .i64 (wrap64 (f 0 + 1)))) w.heap.size 44 cs2 from G2.out.far (by show w.heap.size ≠ w.heap.size + 1; omega) _)
            have H3 := Lib.hid (show Blk (w2.setCell ⟨w.heap.size + 1, 0, none⟩ (.int .i64 (wrap64 (f 0 + 1)))) (w.heap.size + 1) 24 _ from H2.out.set_ 0 _)
            have B3 := Lib.hid (show Below w.heap.size w (w2.setCell ⟨w.heap.size + 1, 0, none⟩ (.int .i64 (wrap64 (f 0 + 1)))) from B2.out.setCell (by show w.heap.size ≤ w.heap.size + 1; omega) _)
            have A3 := Lib.hid (at_up HA'.out 0 (by omega) 1)
            have I3 := Lib.hid (HI.out.up 0 1)
            clear v0 z0 G2 H2 B2
            generalize (w2.setCell ⟨w.heap.size + 1, 0, none⟩ (.int .i64 (wrap64 (f 0 + 1)))) = w3 at *
            obtain ⟨cs3, hcs3⟩ : ∃ cs3, cs3 = (cs'.setIfInBounds 0 (.int .i64 (wrap64 (f 0 + 1)))) := ⟨_, rfl⟩
            rw [← hcs3] at H3 A3
            clear hcs3
            have RG0 := Lib.hid (range_blk H3.out.drew)
            have hne := neq_same A3.out I3.out
            have HU := Lib.hid Try.underlying24
            have HI_ := Lib.hid (show (Try.prog.info? 24).map (·.size) = some cs3.toList.length by rw [Array.length_toList, A3.out.1]; exact size_s)
            refine wp_region_held_drew (S := fun w' => w'.rangeAt (w.heap.size + 1) 0 cs3.toList) (by kernel_rfl) RG0.out (fun hHeld => ?_)
            refine wpAnyH_take (i := 0) (v := _) rfl (by kernel_rfl) (by kernel_rfl) (by kernel_rfl) (fun _ _ _ h => h) (Or.inl ⟨by rfl, fun w _ => rfl⟩) hHeld ?_
            simp only [Act.put, List.setIfInBounds_toArray]
            refine wpAnyH_take (i := 2) rfl (by kernel_rfl) (by kernel_rfl) (by kernel_rfl) (fun _ _ _ h => h) (yieldsIf_load_mid (by rfl) _ _ rfl (w.heap.size + 1) 0 rfl cs3.toList _ (fun _ h => h) HU.out rfl HI_.out) hHeld ?_
            simp only [Act.put, Array.toArray_toList]
            refine wpAnyH_ready (rs := [1]) (by kernel_rfl) (by simp) ?_
            refine AllReadyH.cons rfl (fun K hK => ?_) AllReadyH.nil
            go_simp
            go_at_call 10
            (with_reducible refine (HSUM.out _ _ _ G3.out.drew A2.out).mono ?_)
            rintro e w9 ⟨c9, rfl, hc9, hb9⟩
            have he9 := at_ext A3.out hc9
            subst he9
            have G9 := Lib.hid (G3.out.drew.below hb9 G3.out.drew.lt)
            have H9 := Lib.hid (H3.out.drew.below hb9 H3.out.drew.lt)
            have B9 := Lib.hid (B3.out.drew.trans (hb9.mono B3.out.drew.size))
            have RG9 := Lib.hid (range_blk H9.out)
            clear hb9 hc9
            refine hK.out _ _ ?_ (fun hHeld2 => ?_)
            · exact RG9.out
            clear hK K
            skip
            refine wpAnyH_take (i := 3) (v := .bool false) rfl (by kernel_rfl) (by kernel_rfl) (by kernel_rfl) (fun _ _ _ h => h) (Or.inl ⟨by rfl, ?_⟩) hHeld2 ?_
            · intro w hSw
              go_simp
            skip
            refine wpAnyH_done (by kernel_rfl) ?_ _
            clear hHeld hHeld2
            go_wp2_with fail
            go_roundw
            case rel => exact ⟨k + 1, by omega, by omega, by go_num, ⟨_, _, _, G9.out, A2.out, H9.out, A3.out, I3.out, B9.out⟩⟩
            case measure => simp [intOf]; omega
          · have r0 : decide (0 ≤ N) = false := decide_eq_false hN0
            clear hN hN0
            go_wp2_with fail
            have G3 := Lib.hid (show Blk (w2.setCell ⟨w.heap.size + 1, 0, none⟩ (.int .i64 (wrap64 (f 0 + 1)))) w.heap.size 44 cs2 from G2.out.far (by show w.heap.size ≠ w.heap.size + 1; omega) _)
            have H3 := Lib.hid (show Blk (w2.setCell ⟨w.heap.size + 1, 0, none⟩ (.int .i64 (wrap64 (f 0 + 1)))) (w.heap.size + 1) 24 _ from H2.out.set_ 0 _)
            have B3 := Lib.hid (show Below w.heap.size w (w2.setCell ⟨w.heap.size + 1, 0, none⟩ (.int .i64 (wrap64 (f 0 + 1)))) from B2.out.setCell (by show w.heap.size ≤ w.heap.size + 1; omega) _)
            have A3 := Lib.hid (at_up HA'.out 0 (by omega) 1)
            have I3 := Lib.hid (HI.out.up 0 1)
            clear v0 z0 G2 H2 B2
            generalize (w2.setCell ⟨w.heap.size + 1, 0, none⟩ (.int .i64 (wrap64 (f 0 + 1)))) = w3 at *
            obtain ⟨cs3, hcs3⟩ : ∃ cs3, cs3 = (cs'.setIfInBounds 0 (.int .i64 (wrap64 (f 0 + 1)))) := ⟨_, rfl⟩
            rw [← hcs3] at H3 A3
            clear hcs3
            have RG0 := Lib.hid (range_blk H3.out.drew)
            have hne := neq_same A3.out I3.out
            have HU := Lib.hid Try.underlying24
            have HI_ := Lib.hid (show (Try.prog.info? 24).map (·.size) = some cs3.toList.length by rw [Array.length_toList, A3.out.1]; exact size_s)
            refine wp_region_held_drew (S := fun w' => w'.rangeAt (w.heap.size + 1) 0 cs3.toList) (by kernel_rfl) RG0.out (fun hHeld => ?_)
            refine wpAnyH_take (i := 0) (v := _) rfl (by kernel_rfl) (by kernel_rfl) (by kernel_rfl) (fun _ _ _ h => h) (Or.inl ⟨by rfl, fun w _ => rfl⟩) hHeld ?_
            simp only [Act.put, List.setIfInBounds_toArray]
            refine wpAnyH_take (i := 2) rfl (by kernel_rfl) (by kernel_rfl) (by kernel_rfl) (fun _ _ _ h => h) (yieldsIf_load_mid (by rfl) _ _ rfl (w.heap.size + 1) 0 rfl cs3.toList _ (fun _ h => h) HU.out rfl HI_.out) hHeld ?_
            simp only [Act.put, Array.toArray_toList]
            refine wpAnyH_ready (rs := [1]) (by kernel_rfl) (by simp) ?_
            refine AllReadyH.cons rfl (fun K hK => ?_) AllReadyH.nil
            go_simp
            go_at_call 10
            (with_reducible refine (HSUM.out _ _ _ G3.out.drew A2.out).mono ?_)
            rintro e w9 ⟨c9, rfl, hc9, hb9⟩
            have he9 := at_ext A3.out hc9
            subst he9
            have G9 := Lib.hid (G3.out.drew.below hb9 G3.out.drew.lt)
            have H9 := Lib.hid (H3.out.drew.below hb9 H3.out.drew.lt)
            have B9 := Lib.hid (B3.out.drew.trans (hb9.mono B3.out.drew.size))
            have RG9 := Lib.hid (range_blk H9.out)
            clear hb9 hc9
            refine hK.out _ _ ?_ (fun hHeld2 => ?_)
            · exact RG9.out
            clear hK K
            skip
            refine wpAnyH_take (i := 3) (v := .bool false) rfl (by kernel_rfl) (by kernel_rfl) (by kernel_rfl) (fun _ _ _ h => h) (Or.inl ⟨by rfl, ?_⟩) hHeld2 ?_
            · intro w hSw
              go_simp
            skip
            refine wpAnyH_done (by kernel_rfl) ?_ _
            clear hHeld hHeld2
            go_wp2_with fail
            go_roundw
            case rel => exact ⟨k + 1, by omega, by omega, by go_num, ⟨_, _, _, G9.out, A2.out, H9.out, A3.out, I3.out, B9.out⟩⟩
            case measure => simp [intOf]; omega
      by_cases hK1 : K = 1
      · subst hK1
        by_cases hN : 0 ≤ N ∧ N < 26
        · skip
          obtain ⟨m, rfl⟩ := Int.eq_ofNat_of_zero_le hN.1
          have hm : m < 26 := by omega
          clear hN
          go_wp2_with fail
          refine (in_yes w.heap.size m cs f _ hm HG.out HA.out).mono ?_
          rintro e w2 ⟨cs2, rfl, hb, ha, ho⟩
          have G2 := Lib.hid hb
          have A2 := Lib.hid ha
          have hh2 : Blk w2 (w.heap.size + 1) 24 cs' := ho.blk HH.out (by omega)
          have B2 := Lib.hid (ho.below HB.out (Nat.le_refl _))
          have v0 := (hh2.cell 0).trans (HA'.out.2 0 (by omega))
          have v1 := (hh2.cell (3 + m)).trans (HA'.out.2 (3 + m) (by omega))
          have z0 := hh2.frozen 0
          have z1 := hh2.frozen (3 + m)
          have H2 := Lib.hid hh2
          clear hb ha ho hh2
          go_wp2_with fail
          have G3 := Lib.hid (show Blk ((w2.setCell ⟨w.heap.size + 1, 0, none⟩ (.int .i64 (wrap64 (f 0 + 1)))).setCell ⟨w.heap.size + 1, 3 + m, none⟩ (.int .i64 (wrap64 (f (3 + m) + 1)))) w.heap.size 44 cs2 from (G2.out.far (by show w.heap.size ≠ w.heap.size + 1; omega) _).far (by show w.heap.size ≠ w.heap.size + 1; omega) _)
          have H3 := Lib.hid (show Blk ((w2.setCell ⟨w.heap.size + 1, 0, none⟩ (.int .i64 (wrap64 (f 0 + 1)))).setCell ⟨w.heap.size + 1, 3 + m, none⟩ (.int .i64 (wrap64 (f (3 + m) + 1)))) (w.heap.size + 1) 24 _ from (H2.out.set_ 0 _).set_ (3 + m) _)
          have B3 := Lib.hid (show Below w.heap.size w ((w2.setCell ⟨w.heap.size + 1, 0, none⟩ (.int .i64 (wrap64 (f 0 + 1)))).setCell ⟨w.heap.size + 1, 3 + m, none⟩ (.int .i64 (wrap64 (f (3 + m) + 1)))) from (B2.out.setCell (by show w.heap.size ≤ w.heap.size + 1; omega) _).setCell (by show w.heap.size ≤ w.heap.size + 1; omega) _)
          have a3 := at_up (at_up HA'.out 0 (by omega) 1) (3 + m) (by omega) 1
          rw [up_other f 0 (3 + m) 1 (by omega)] at a3
          have A3 := Lib.hid a3
          have I3 := Lib.hid ((HI.out.up 0 1).up (3 + m) 1)
          clear a3 v0 v1 z0 z1 G2 H2 B2
          generalize ((w2.setCell ⟨w.heap.size + 1, 0, none⟩ (.int .i64 (wrap64 (f 0 + 1)))).setCell ⟨w.heap.size + 1, 3 + m, none⟩ (.int .i64 (wrap64 (f (3 + m) + 1)))) = w3 at *
          obtain ⟨cs3, hcs3⟩ : ∃ cs3, cs3 = ((cs'.setIfInBounds 0 (.int .i64 (wrap64 (f 0 + 1)))).setIfInBounds (3 + m) (.int .i64 (wrap64 (f (3 + m) + 1)))) := ⟨_, rfl⟩
          rw [← hcs3] at H3 A3
          clear hcs3
          have RG0 := Lib.hid (range_blk H3.out.drew)
          have hne := neq_same A3.out I3.out
          have HU := Lib.hid Try.underlying24
          have HI_ := Lib.hid (show (Try.prog.info? 24).map (·.size) = some cs3.toList.length by rw [Array.length_toList, A3.out.1]; exact size_s)
          refine wp_region_held_drew (S := fun w' => w'.rangeAt (w.heap.size + 1) 0 cs3.toList) (by kernel_rfl) RG0.out (fun hHeld => ?_)
          refine wpAnyH_take (i := 0) (v := _) rfl (by kernel_rfl) (by kernel_rfl) (by kernel_rfl) (fun _ _ _ h => h) (Or.inl ⟨by rfl, fun w _ => rfl⟩) hHeld ?_
          simp only [Act.put, List.setIfInBounds_toArray]
          refine wpAnyH_take (i := 2) rfl (by kernel_rfl) (by kernel_rfl) (by kernel_rfl) (fun _ _ _ h => h) (yieldsIf_load_mid (by rfl) _ _ rfl (w.heap.size + 1) 0 rfl cs3.toList _ (fun _ h => h) HU.out rfl HI_.out) hHeld ?_
          simp only [Act.put, Array.toArray_toList]
          refine wpAnyH_ready (rs := [1]) (by kernel_rfl) (by simp) ?_
          refine AllReadyH.cons rfl (fun K hK => ?_) AllReadyH.nil
          go_simp
          go_at_call 10
          (with_reducible refine (HSUM.out _ _ _ G3.out.drew A2.out).mono ?_)
          rintro e w9 ⟨c9, rfl, hc9, hb9⟩
          have he9 := at_ext A3.out hc9
          subst he9
          have G9 := Lib.hid (G3.out.drew.below hb9 G3.out.drew.lt)
          have H9 := Lib.hid (H3.out.drew.below hb9 H3.out.drew.lt)
          have B9 := Lib.hid (B3.out.drew.trans (hb9.mono B3.out.drew.size))
          have RG9 := Lib.hid (range_blk H9.out)
          clear hb9 hc9
          refine hK.out _ _ ?_ (fun hHeld2 => ?_)
          · exact RG9.out
          clear hK K
          skip
          refine wpAnyH_take (i := 3) (v := .bool false) rfl (by kernel_rfl) (by kernel_rfl) (by kernel_rfl) (fun _ _ _ h => h) (Or.inl ⟨by rfl, ?_⟩) hHeld2 ?_
          · intro w hSw
            go_simp
          skip
          refine wpAnyH_done (by kernel_rfl) ?_ _
          clear hHeld hHeld2
          go_wp2_with fail
          go_roundw
          case rel => exact ⟨k + 1, by omega, by omega, by go_num, ⟨_, _, _, G9.out, A2.out, H9.out, A3.out, I3.out, B9.out⟩⟩
          case measure => simp [intOf]; omega
        · skip
          go_wp2_with fail
          refine (in_no w.heap.size N cs f _ hN HG.out HA.out).mono ?_
          rintro e w2 ⟨cs2, rfl, hb, ha, ho⟩
          have G2 := Lib.hid hb
          have A2 := Lib.hid ha
          have hh2 : Blk w2 (w.heap.size + 1) 24 cs' := ho.blk HH.out (by omega)
          have B2 := Lib.hid (ho.below HB.out (Nat.le_refl _))
          have v0 := (hh2.cell 0).trans (HA'.out.2 0 (by omega))
          have z0 := hh2.frozen 0
          have H2 := Lib.hid hh2
          clear hb ha ho hh2
          by_cases hN0 : 0 ≤ N
          · have r0 : decide (0 ≤ N) = true := decide_eq_true hN0
            have r1 : decide (N < 26) = false := decide_eq_false (by omega)
            clear hN hN0
            go_wp2_with fail
            have G3 := Lib.hid (show Blk (w2.setCell ⟨w.heap.size + 1, 0, none⟩ (.int .i64 (wrap64 (f 0 + 1)))) w.heap.size 44 cs2 from G2.out.far (by show w.heap.size ≠ w.heap.size + 1; omega) _)
            have H3 := Lib.hid (show Blk (w2.setCell ⟨w.heap.size + 1, 0, none⟩ (.int .i64 (wrap64 (f 0 + 1)))) (w.heap.size + 1) 24 _ from H2.out.set_ 0 _)
            have B3 := Lib.hid (show Below w.heap.size w (w2.setCell ⟨w.heap.size + 1, 0, none⟩ (.int .i64 (wrap64 (f 0 + 1)))) from B2.out.setCell (by show w.heap.size ≤ w.heap.size + 1; omega) _)
            have A3 := Lib.hid (at_up HA'.out 0 (by omega) 1)
            have I3 := Lib.hid (HI.out.up 0 1)
            clear v0 z0 G2 H2 B2
            generalize (w2.setCell ⟨w.heap.size + 1, 0, none⟩ (.int .i64 (wrap64 (f 0 + 1)))) = w3 at *
            obtain ⟨cs3, hcs3⟩ : ∃ cs3, cs3 = (cs'.setIfInBounds 0 (.int .i64 (wrap64 (f 0 + 1)))) := ⟨_, rfl⟩
            rw [← hcs3] at H3 A3
            clear hcs3
            have RG0 := Lib.hid (range_blk H3.out.drew)
            have hne := neq_same A3.out I3.out
            have HU := Lib.hid Try.underlying24
            have HI_ := Lib.hid (show (Try.prog.info? 24).map (·.size) = some cs3.toList.length by rw [Array.length_toList, A3.out.1]; exact size_s)
            refine wp_region_held_drew (S := fun w' => w'.rangeAt (w.heap.size + 1) 0 cs3.toList) (by kernel_rfl) RG0.out (fun hHeld => ?_)
            refine wpAnyH_take (i := 0) (v := _) rfl (by kernel_rfl) (by kernel_rfl) (by kernel_rfl) (fun _ _ _ h => h) (Or.inl ⟨by rfl, fun w _ => rfl⟩) hHeld ?_
            simp only [Act.put, List.setIfInBounds_toArray]
            refine wpAnyH_take (i := 2) rfl (by kernel_rfl) (by kernel_rfl) (by kernel_rfl) (fun _ _ _ h => h) (yieldsIf_load_mid (by rfl) _ _ rfl (w.heap.size + 1) 0 rfl cs3.toList _ (fun _ h => h) HU.out rfl HI_.out) hHeld ?_
            simp only [Act.put, Array.toArray_toList]
            refine wpAnyH_ready (rs := [1]) (by kernel_rfl) (by simp) ?_
            refine AllReadyH.cons rfl (fun K hK => ?_) AllReadyH.nil
            go_simp
            go_at_call 10
            (with_reducible refine (HSUM.out _ _ _ G3.out.drew A2.out).mono ?_)
            rintro e w9 ⟨c9, rfl, hc9, hb9⟩
            have he9 := at_ext A3.out hc9
            subst he9
            have G9 := Lib.hid (G3.out.drew.below hb9 G3.out.drew.lt)
            have H9 := Lib.hid (H3.out.drew.below hb9 H3.out.drew.lt)
            have B9 := Lib.hid (B3.out.drew.trans (hb9.mono B3.out.drew.size))
            have RG9 := Lib.hid (range_blk H9.out)
            clear hb9 hc9
            refine hK.out _ _ ?_ (fun hHeld2 => ?_)
            · exact RG9.out
            clear hK K
            skip
            refine wpAnyH_take (i := 3) (v := .bool false) rfl (by kernel_rfl) (by kernel_rfl) (by kernel_rfl) (fun _ _ _ h => h) (Or.inl ⟨by rfl, ?_⟩) hHeld2 ?_
            · intro w hSw
              go_simp
            skip
            refine wpAnyH_done (by kernel_rfl) ?_ _
            clear hHeld hHeld2
            go_wp2_with fail
            go_roundw
            case rel => exact ⟨k + 1, by omega, by omega, by go_num, ⟨_, _, _, G9.out, A2.out, H9.out, A3.out, I3.out, B9.out⟩⟩
            case measure => simp [intOf]; omega
          · have r0 : decide (0 ≤ N) = false := decide_eq_false hN0
            clear hN hN0
            go_wp2_with fail
            have G3 := Lib.hid (show Blk (w2.setCell ⟨w.heap.size + 1, 0, none⟩ (.int .i64 (wrap64 (f 0 + 1)))) w.heap.size 44 cs2 from G2.out.far (by show w.heap.size ≠ w.heap.size + 1; omega) _)
            have H3 := Lib.hid (show Blk (w2.setCell ⟨w.heap.size + 1, 0, none⟩ (.int .i64 (wrap64 (f 0 + 1)))) (w.heap.size + 1) 24 _ from H2.out.set_ 0 _)
            have B3 := Lib.hid (show Below w.heap.size w (w2.setCell ⟨w.heap.size + 1, 0, none⟩ (.int .i64 (wrap64 (f 0 + 1)))) from B2.out.setCell (by show w.heap.size ≤ w.heap.size + 1; omega) _)
            have A3 := Lib.hid (at_up HA'.out 0 (by omega) 1)
            have I3 := Lib.hid (HI.out.up 0 1)
            clear v0 z0 G2 H2 B2
            generalize (w2.setCell ⟨w.heap.size + 1, 0, none⟩ (.int .i64 (wrap64 (f 0 + 1)))) = w3 at *
            obtain ⟨cs3, hcs3⟩ : ∃ cs3, cs3 = (cs'.setIfInBounds 0 (.int .i64 (wrap64 (f 0 + 1)))) := ⟨_, rfl⟩
            rw [← hcs3] at H3 A3
            clear hcs3
            have RG0 := Lib.hid (range_blk H3.out.drew)
            have hne := neq_same A3.out I3.out
            have HU := Lib.hid Try.underlying24
            have HI_ := Lib.hid (show (Try.prog.info? 24).map (·.size) = some cs3.toList.length by rw [Array.length_toList, A3.out.1]; exact size_s)
            refine wp_region_held_drew (S := fun w' => w'.rangeAt (w.heap.size + 1) 0 cs3.toList) (by kernel_rfl) RG0.out (fun hHeld => ?_)
            refine wpAnyH_take (i := 0) (v := _) rfl (by kernel_rfl) (by kernel_rfl) (by kernel_rfl) (fun _ _ _ h => h) (Or.inl ⟨by rfl, fun w _ => rfl⟩) hHeld ?_
            simp only [Act.put, List.setIfInBounds_toArray]
            refine wpAnyH_take (i := 2) rfl (by kernel_rfl) (by kernel_rfl) (by kernel_rfl) (fun _ _ _ h => h) (yieldsIf_load_mid (by rfl) _ _ rfl (w.heap.size + 1) 0 rfl cs3.toList _ (fun _ h => h) HU.out rfl HI_.out) hHeld ?_
            simp only [Act.put, Array.toArray_toList]
            refine wpAnyH_ready (rs := [1]) (by kernel_rfl) (by simp) ?_
            refine AllReadyH.cons rfl (fun K hK => ?_) AllReadyH.nil
            go_simp
            go_at_call 10
            (with_reducible refine (HSUM.out _ _ _ G3.out.drew A2.out).mono ?_)
            rintro e w9 ⟨c9, rfl, hc9, hb9⟩
            have he9 := at_ext A3.out hc9
            subst he9
            have G9 := Lib.hid (G3.out.drew.below hb9 G3.out.drew.lt)
            have H9 := Lib.hid (H3.out.drew.below hb9 H3.out.drew.lt)
            have B9 := Lib.hid (B3.out.drew.trans (hb9.mono B3.out.drew.size))
            have RG9 := Lib.hid (range_blk H9.out)
            clear hb9 hc9
            refine hK.out _ _ ?_ (fun hHeld2 => ?_)
            · exact RG9.out
            clear hK K
            skip
            refine wpAnyH_take (i := 3) (v := .bool false) rfl (by kernel_rfl) (by kernel_rfl) (by kernel_rfl) (fun _ _ _ h => h) (Or.inl ⟨by rfl, ?_⟩) hHeld2 ?_
            · intro w hSw
              go_simp
            skip
            refine wpAnyH_done (by kernel_rfl) ?_ _
            clear hHeld hHeld2
            go_wp2_with fail
            go_roundw
            case rel => exact ⟨k + 1, by omega, by omega, by go_num, ⟨_, _, _, G9.out, A2.out, H9.out, A3.out, I3.out, B9.out⟩⟩
            case measure => simp [intOf]; omega
      have q0 : (K == 0) = false := by simpa using hK0
      have q1 : (K == 1) = false := by simpa using hK1
      clear hK0 hK1
      by_cases hK4 : K = 4
      · subst hK4
        clear q0 q1
        have HCL := Lib.hid (clear_at w.heap.size cs f wr.drew HG.out.drew HA.out)
        go_wp2_with fail
        have RG0 := Lib.hid (range_blk HH.out.drew)
        have hne := neq_same HA'.out HI.out
        have HU := Lib.hid Try.underlying24
        have HI_ := Lib.hid (show (Try.prog.info? 24).map (·.size) = some cs'.toList.length by rw [Array.length_toList, HA'.out.1]; exact size_s)
        refine wp_region_held_drew (S := fun w' => w'.rangeAt (w.heap.size + 1) 0 cs'.toList) (by kernel_rfl) RG0.out (fun hHeld => ?_)
        refine wpAnyH_take (i := 0) (v := _) rfl (by kernel_rfl) (by kernel_rfl) (by kernel_rfl) (fun _ _ _ h => h) (Or.inl ⟨by rfl, fun w _ => rfl⟩) hHeld ?_
        simp only [Act.put, List.setIfInBounds_toArray]
        refine wpAnyH_take (i := 2) rfl (by kernel_rfl) (by kernel_rfl) (by kernel_rfl) (fun _ _ _ h => h) (yieldsIf_load_mid (by rfl) _ _ rfl (w.heap.size + 1) 0 rfl cs'.toList _ (fun _ h => h) HU.out rfl HI_.out) hHeld ?_
        simp only [Act.put, Array.toArray_toList]
        refine wpAnyH_ready (rs := [1]) (by kernel_rfl) (by simp) ?_
        refine AllReadyH.cons rfl (fun K hK => ?_) AllReadyH.nil
        go_simp
        go_at_call 11
        (with_reducible refine HCL.out.mono ?_)
        rintro e w5 ⟨c5, cs5, rfl, hc5, hb5, ha5, hn5⟩
        have he5 := at_ext HA'.out hc5
        subst he5
        have G5 := Lib.hid hb5
        have A5 := Lib.hid ha5
        have hh5 : Blk w5 (w.heap.size + 1) 24 cs' := hn5.blk HH.out.drew HH.out.drew.lt (by omega)
        have H5 := Lib.hid hh5
        have B5 := Lib.hid (hn5.low HB.out.drew (Nat.le_refl _) HB.out.drew.size)
        have RG9 := Lib.hid (range_blk hh5)
        clear hb5 ha5 hc5 hn5 hh5
        refine hK.out _ _ ?_ (fun hHeld2 => ?_)
        · exact RG9.out
        clear hK K
        skip
        refine wpAnyH_take (i := 3) (v := .bool false) rfl (by kernel_rfl) (by kernel_rfl) (by kernel_rfl) (fun _ _ _ h => h) (Or.inl ⟨by rfl, ?_⟩) hHeld2 ?_
        · intro w hSw
          go_simp
        skip
        refine wpAnyH_done (by kernel_rfl) ?_ _
        clear hHeld hHeld2
        have SZ5 := Lib.hid (show (Try.prog.info? 24).map (·.size) = some Z.size by rw [ZA.out.1]; exact size_s)
        have SO5 := Lib.hid (show cs'.size = Z.size by rw [ZA.out.1, HA'.out.1])
        have ON5 := Lib.hid ZA.out.one
        go_wp2_with (refine wpList_store_row rfl 24 _ _ rfl (w.heap.size + 1) Z rfl rfl 24 cs' H5.out SZ5.out SO5.out ON5.out ?_)
        have G3 := Lib.hid (blk_setRow_far G5.out (show w.heap.size ≠ w.heap.size + 1 by omega) Z)
        have H3 := Lib.hid (blk_setRow H5.out Z)
        have B3 := Lib.hid (below_setRow B5.out (show w.heap.size ≤ w.heap.size + 1 by omega) Z)
        have I3 := Lib.hid in64_zero
        clear RG0 RG9 hne HU HI_ G5 H5 B5
        generalize w5.setRow (w.heap.size + 1) Z = w3 at *
        have RG0 := Lib.hid (range_blk H3.out.drew)
        have hne := neq_same ZA.out I3.out
        have HU := Lib.hid Try.underlying24
        have HI_ := Lib.hid (show (Try.prog.info? 24).map (·.size) = some Z.toList.length by rw [Array.length_toList, ZA.out.1]; exact size_s)
        refine wp_region_held_drew (S := fun w' => w'.rangeAt (w.heap.size + 1) 0 Z.toList) (by kernel_rfl) RG0.out (fun hHeld => ?_)
        refine wpAnyH_take (i := 0) (v := _) rfl (by kernel_rfl) (by kernel_rfl) (by kernel_rfl) (fun _ _ _ h => h) (Or.inl ⟨by rfl, fun w _ => rfl⟩) hHeld ?_
        simp only [Act.put, List.setIfInBounds_toArray]
        refine wpAnyH_take (i := 2) rfl (by kernel_rfl) (by kernel_rfl) (by kernel_rfl) (fun _ _ _ h => h) (yieldsIf_load_mid (by rfl) _ _ rfl (w.heap.size + 1) 0 rfl Z.toList _ (fun _ h => h) HU.out rfl HI_.out) hHeld ?_
        simp only [Act.put, Array.toArray_toList]
        refine wpAnyH_ready (rs := [1]) (by kernel_rfl) (by simp) ?_
        refine AllReadyH.cons rfl (fun K hK => ?_) AllReadyH.nil
        go_simp
        go_at_call 10
        (with_reducible refine (HSUM.out _ _ _ G3.out.drew A5.out).mono ?_)
        rintro e w9 ⟨c9, rfl, hc9, hb9⟩
        have he9 := at_ext ZA.out hc9
        subst he9
        have G9 := Lib.hid (G3.out.drew.below hb9 G3.out.drew.lt)
        have H9 := Lib.hid (H3.out.drew.below hb9 H3.out.drew.lt)
        have B9 := Lib.hid (B3.out.drew.trans (hb9.mono B3.out.drew.size))
        have RG9 := Lib.hid (range_blk H9.out)
        clear hb9 hc9
        refine hK.out _ _ ?_ (fun hHeld2 => ?_)
        · exact RG9.out
        clear hK K
        skip
        refine wpAnyH_take (i := 3) (v := .bool false) rfl (by kernel_rfl) (by kernel_rfl) (by kernel_rfl) (fun _ _ _ h => h) (Or.inl ⟨by rfl, ?_⟩) hHeld2 ?_
        · intro w hSw
          go_simp
        skip
        refine wpAnyH_done (by kernel_rfl) ?_ _
        clear hHeld hHeld2
        go_wp2_with fail
        go_roundw
        case rel => exact ⟨k + 1, by omega, by omega, by go_num, ⟨_, _, _, G9.out, A5.out, H9.out, ZA.out, I3.out, B9.out⟩⟩
        case measure => simp [intOf]; omega
      have q3 : (K == 4) = false := by simpa using hK4
      clear hK4
      by_cases hle : N ≤ 1099511627776
      · by_cases hp : 0 < N
        · skip
          have q4 : decide (N ≤ 1099511627776) = true := decide_eq_true hle
          have q5 : decide (1099511627776 < N) = false := decide_eq_false (by omega)
          clear hle
          have q6 : decide (0 < N) = true := decide_eq_true hp
          obtain ⟨q, hq⟩ : ∃ q, (N < 0 ∧ q = 0) ∨ (0 ≤ N ∧ q = N) := ⟨max N 0, by omega⟩
          have HOUT := Lib.hid (out_any w.heap.size N q cs f wr hq HG.out HA.out)
          have HQ := Lib.hid hq
          have HP := Lib.hid hp
          clear hq hp
          go_wp2_with fail
          refine HOUT.out.mono ?_
          rintro e w2 ⟨cs2, rfl, hb, ha, ho⟩
          have G2 := Lib.hid hb
          have hh2 : Blk w2 (w.heap.size + 1) 24 cs' := ho.blk HH.out (by omega)
          have B2 := Lib.hid (ho.below HB.out (Nat.le_refl _))
          have v0 := (hh2.cell 1).trans (HA'.out.2 1 (by omega))
          have z0 := hh2.frozen 1
          have hqN : q = N := by have := HQ.out; have := HP.out; omega
          rw [hqN] at ha
          clear hqN
          have A2 := Lib.hid ha
          have v1 := (hh2.cell 2).trans (HA'.out.2 2 (by omega))
          have z1 := hh2.frozen 2
          have H2 := Lib.hid hh2
          clear hb ha ho hh2
          go_wp2_with fail
          have G3 := Lib.hid (show Blk ((w2.setCell ⟨w.heap.size + 1, 1, none⟩ (.int .i64 (wrap64 (f 1 + 1)))).setCell ⟨w.heap.size + 1, 2, none⟩ (.int .i64 (wrap64 (f 2 + N)))) w.heap.size 44 cs2 from (G2.out.far (by show w.heap.size ≠ w.heap.size + 1; omega) _).far (by show w.heap.size ≠ w.heap.size + 1; omega) _)
          have H3 := Lib.hid (show Blk ((w2.setCell ⟨w.heap.size + 1, 1, none⟩ (.int .i64 (wrap64 (f 1 + 1)))).setCell ⟨w.heap.size + 1, 2, none⟩ (.int .i64 (wrap64 (f 2 + N)))) (w.heap.size + 1) 24 _ from (H2.out.set_ 1 _).set_ 2 _)
          have B3 := Lib.hid (show Below w.heap.size w ((w2.setCell ⟨w.heap.size + 1, 1, none⟩ (.int .i64 (wrap64 (f 1 + 1)))).setCell ⟨w.heap.size + 1, 2, none⟩ (.int .i64 (wrap64 (f 2 + N)))) from (B2.out.setCell (by show w.heap.size ≤ w.heap.size + 1; omega) _).setCell (by show w.heap.size ≤ w.heap.size + 1; omega) _)
          have a3 := at_up (at_up HA'.out 1 (by omega) 1) 2 (by omega) N
          rw [up_other f 1 2 1 (by omega)] at a3
          have A3 := Lib.hid a3
          have I3 := Lib.hid ((HI.out.up 1 1).up 2 N)
          clear a3 v0 v1 z0 z1 G2 H2 B2
          generalize ((w2.setCell ⟨w.heap.size + 1, 1, none⟩ (.int .i64 (wrap64 (f 1 + 1)))).setCell ⟨w.heap.size + 1, 2, none⟩ (.int .i64 (wrap64 (f 2 + N)))) = w3 at *
          obtain ⟨cs3, hcs3⟩ : ∃ cs3, cs3 = ((cs'.setIfInBounds 1 (.int .i64 (wrap64 (f 1 + 1)))).setIfInBounds 2 (.int .i64 (wrap64 (f 2 + N)))) := ⟨_, rfl⟩
          rw [← hcs3] at H3 A3
          clear hcs3
          have RG0 := Lib.hid (range_blk H3.out.drew)
          have hne := neq_same A3.out I3.out
          have HU := Lib.hid Try.underlying24
          have HI_ := Lib.hid (show (Try.prog.info? 24).map (·.size) = some cs3.toList.length by rw [Array.length_toList, A3.out.1]; exact size_s)
          refine wp_region_held_drew (S := fun w' => w'.rangeAt (w.heap.size + 1) 0 cs3.toList) (by kernel_rfl) RG0.out (fun hHeld => ?_)
          refine wpAnyH_take (i := 0) (v := _) rfl (by kernel_rfl) (by kernel_rfl) (by kernel_rfl) (fun _ _ _ h => h) (Or.inl ⟨by rfl, fun w _ => rfl⟩) hHeld ?_
          simp only [Act.put, List.setIfInBounds_toArray]
          refine wpAnyH_take (i := 2) rfl (by kernel_rfl) (by kernel_rfl) (by kernel_rfl) (fun _ _ _ h => h) (yieldsIf_load_mid (by rfl) _ _ rfl (w.heap.size + 1) 0 rfl cs3.toList _ (fun _ h => h) HU.out rfl HI_.out) hHeld ?_
          simp only [Act.put, Array.toArray_toList]
          refine wpAnyH_ready (rs := [1]) (by kernel_rfl) (by simp) ?_
          refine AllReadyH.cons rfl (fun K hK => ?_) AllReadyH.nil
          go_simp
          go_at_call 10
          (with_reducible refine (HSUM.out _ _ _ G3.out.drew A2.out).mono ?_)
          rintro e w9 ⟨c9, rfl, hc9, hb9⟩
          have he9 := at_ext A3.out hc9
          subst he9
          have G9 := Lib.hid (G3.out.drew.below hb9 G3.out.drew.lt)
          have H9 := Lib.hid (H3.out.drew.below hb9 H3.out.drew.lt)
          have B9 := Lib.hid (B3.out.drew.trans (hb9.mono B3.out.drew.size))
          have RG9 := Lib.hid (range_blk H9.out)
          clear hb9 hc9
          refine hK.out _ _ ?_ (fun hHeld2 => ?_)
          · exact RG9.out
          clear hK K
          skip
          refine wpAnyH_take (i := 3) (v := .bool false) rfl (by kernel_rfl) (by kernel_rfl) (by kernel_rfl) (fun _ _ _ h => h) (Or.inl ⟨by rfl, ?_⟩) hHeld2 ?_
          · intro w hSw
            go_simp
          skip
          refine wpAnyH_done (by kernel_rfl) ?_ _
          clear hHeld hHeld2
          go_wp2_with fail
          go_roundw
          case rel => exact ⟨k + 1, by omega, by omega, by go_num, ⟨_, _, _, G9.out, A2.out, H9.out, A3.out, I3.out, B9.out⟩⟩
          case measure => simp [intOf]; omega
        · skip
          have q4 : decide (N ≤ 1099511627776) = true := decide_eq_true hle
          have q5 : decide (1099511627776 < N) = false := decide_eq_false (by omega)
          clear hle
          have q6 : decide (0 < N) = false := decide_eq_false hp
          obtain ⟨q, hq⟩ : ∃ q, (N < 0 ∧ q = 0) ∨ (0 ≤ N ∧ q = N) := ⟨max N 0, by omega⟩
          have HOUT := Lib.hid (out_any w.heap.size N q cs f wr hq HG.out HA.out)
          have HQ := Lib.hid hq
          have HP := Lib.hid hp
          clear hq hp
          go_wp2_with fail
          refine HOUT.out.mono ?_
          rintro e w2 ⟨cs2, rfl, hb, ha, ho⟩
          have G2 := Lib.hid hb
          have hh2 : Blk w2 (w.heap.size + 1) 24 cs' := ho.blk HH.out (by omega)
          have B2 := Lib.hid (ho.below HB.out (Nat.le_refl _))
          have v0 := (hh2.cell 1).trans (HA'.out.2 1 (by omega))
          have z0 := hh2.frozen 1
          have hqN : q = 0 := by have := HQ.out; have := HP.out; omega
          subst hqN
          have I4 := Lib.hid (HI.out.up 1 1)
          have e0 : up (up f 1 1) 2 0 = up f 1 1 := up_nil I4.out
          rw [e0] at ha
          clear e0
          have A2 := Lib.hid ha
          have H2 := Lib.hid hh2
          clear hb ha ho hh2
          go_wp2_with fail
          have G3 := Lib.hid (show Blk (w2.setCell ⟨w.heap.size + 1, 1, none⟩ (.int .i64 (wrap64 (f 1 + 1)))) w.heap.size 44 cs2 from G2.out.far (by show w.heap.size ≠ w.heap.size + 1; omega) _)
          have H3 := Lib.hid (show Blk (w2.setCell ⟨w.heap.size + 1, 1, none⟩ (.int .i64 (wrap64 (f 1 + 1)))) (w.heap.size + 1) 24 _ from H2.out.set_ 1 _)
          have B3 := Lib.hid (show Below w.heap.size w (w2.setCell ⟨w.heap.size + 1, 1, none⟩ (.int .i64 (wrap64 (f 1 + 1)))) from B2.out.setCell (by show w.heap.size ≤ w.heap.size + 1; omega) _)
          have A3 := Lib.hid (at_up HA'.out 1 (by omega) 1)
          have I3 := Lib.hid I4.out
          clear v0 z0 G2 H2 B2
          generalize (w2.setCell ⟨w.heap.size + 1, 1, none⟩ (.int .i64 (wrap64 (f 1 + 1)))) = w3 at *
          obtain ⟨cs3, hcs3⟩ : ∃ cs3, cs3 = (cs'.setIfInBounds 1 (.int .i64 (wrap64 (f 1 + 1)))) := ⟨_, rfl⟩
          rw [← hcs3] at H3 A3
          clear hcs3
          have RG0 := Lib.hid (range_blk H3.out.drew)
          have hne := neq_same A3.out I3.out
          have HU := Lib.hid Try.underlying24
          have HI_ := Lib.hid (show (Try.prog.info? 24).map (·.size) = some cs3.toList.length by rw [Array.length_toList, A3.out.1]; exact size_s)
          refine wp_region_held_drew (S := fun w' => w'.rangeAt (w.heap.size + 1) 0 cs3.toList) (by kernel_rfl) RG0.out (fun hHeld => ?_)
          refine wpAnyH_take (i := 0) (v := _) rfl (by kernel_rfl) (by kernel_rfl) (by kernel_rfl) (fun _ _ _ h => h) (Or.inl ⟨by rfl, fun w _ => rfl⟩) hHeld ?_
          simp only [Act.put, List.setIfInBounds_toArray]
          refine wpAnyH_take (i := 2) rfl (by kernel_rfl) (by kernel_rfl) (by kernel_rfl) (fun _ _ _ h => h) (yieldsIf_load_mid (by rfl) _ _ rfl (w.heap.size + 1) 0 rfl cs3.toList _ (fun _ h => h) HU.out rfl HI_.out) hHeld ?_
          simp only [Act.put, Array.toArray_toList]
          refine wpAnyH_ready (rs := [1]) (by kernel_rfl) (by simp) ?_
          refine AllReadyH.cons rfl (fun K hK => ?_) AllReadyH.nil
          go_simp
          go_at_call 10
          (with_reducible refine (HSUM.out _ _ _ G3.out.drew A2.out).mono ?_)
          rintro e w9 ⟨c9, rfl, hc9, hb9⟩
          have he9 := at_ext A3.out hc9
          subst he9
          have G9 := Lib.hid (G3.out.drew.below hb9 G3.out.drew.lt)
          have H9 := Lib.hid (H3.out.drew.below hb9 H3.out.drew.lt)
          have B9 := Lib.hid (B3.out.drew.trans (hb9.mono B3.out.drew.size))
          have RG9 := Lib.hid (range_blk H9.out)
          clear hb9 hc9
          refine hK.out _ _ ?_ (fun hHeld2 => ?_)
          · exact RG9.out
          clear hK K
          skip
          refine wpAnyH_take (i := 3) (v := .bool false) rfl (by kernel_rfl) (by kernel_rfl) (by kernel_rfl) (fun _ _ _ h => h) (Or.inl ⟨by rfl, ?_⟩) hHeld2 ?_
          · intro w hSw
            go_simp
          skip
          refine wpAnyH_done (by kernel_rfl) ?_ _
          clear hHeld hHeld2
          go_wp2_with fail
          go_roundw
          case rel => exact ⟨k + 1, by omega, by omega, by go_num, ⟨_, _, _, G9.out, A2.out, H9.out, A3.out, I3.out, B9.out⟩⟩
          case measure => simp [intOf]; omega
      · have q5 : decide (1099511627776 < N) = true := decide_eq_true (by omega)
        clear hle
        go_wp2_with fail
        go_roundw
        case rel => exact ⟨k + 1, by omega, by omega, by go_num, ⟨f, cs, cs', HG.out, HA.out, HH.out, HA'.out, HI.out, HB.out⟩⟩
        case measure => simp [intOf]; omega
    · skip
      by_cases hlt : k < n
      · have h60 : ¬ k < 60 := fun h => hgo ⟨hlt, h⟩
        clear hgo
        by_cases hx : 0 ≤ x ∧ x < 26
        · skip
          obtain ⟨m, rfl⟩ := Int.eq_ofNat_of_zero_le hx.1
          have hm : m < 26 := by omega
          have v1 := (hH.cell (3 + m)).trans (hA'.2 (3 + m) (by omega))
          have U1 := Lib.hid ((hG.cell (3 + m)).trans (hA.2 (3 + m) (by omega)))
          clear hG hA hH hA' hI hbel G0 H0 B0 hx
          go_wp2_with (first
            | (go_at_call 12; (with_reducible refine (of_yes w.heap.size m _ _ hm U1.out).mono ?_); rintro e w' ⟨rfl, rfl⟩)
            | (go_at_call 16; (with_reducible refine (awake_any _).mono ?_); rintro e w5 ⟨rfl, hb5⟩; have HB5 := Lib.hid (bel_call HB.out hb5); clear hb5))
          go_ret
          exact ⟨rfl, HB5.out⟩
        by_cases hx0 : 0 ≤ x
        · skip
          have r0 : decide (0 ≤ x) = true := decide_eq_true hx0
          have r1 : decide (x < 26) = false := decide_eq_false (by omega)
          have HNO := Lib.hid (fun w0 => of_no w.heap.size x w0 hx)
          clear hG hA hH hA' hI hbel G0 H0 B0 hx hx0
          go_wp2_with (first
            | (go_at_call 12; (with_reducible refine (HNO.out _).mono ?_); rintro e w' ⟨rfl, rfl⟩)
            | (go_at_call 16; (with_reducible refine (awake_any _).mono ?_); rintro e w5 ⟨rfl, hb5⟩; have HB5 := Lib.hid (bel_call HB.out hb5); clear hb5))
          go_ret
          exact ⟨rfl, HB5.out⟩
        · skip
          have r0 : decide (0 ≤ x) = false := decide_eq_false hx0
          have HNO := Lib.hid (fun w0 => of_no w.heap.size x w0 hx)
          clear hG hA hH hA' hI hbel G0 H0 B0 hx hx0
          go_wp2_with (first
            | (go_at_call 12; (with_reducible refine (HNO.out _).mono ?_); rintro e w' ⟨rfl, rfl⟩)
            | (go_at_call 16; (with_reducible refine (awake_any _).mono ?_); rintro e w5 ⟨rfl, hb5⟩; have HB5 := Lib.hid (bel_call HB.out hb5); clear hb5))
          go_ret
          exact ⟨rfl, HB5.out⟩
      · clear hgo
        by_cases hx : 0 ≤ x ∧ x < 26
        · skip
          obtain ⟨m, rfl⟩ := Int.eq_ofNat_of_zero_le hx.1
          have hm : m < 26 := by omega
          have v1 := (hH.cell (3 + m)).trans (hA'.2 (3 + m) (by omega))
          have U1 := Lib.hid ((hG.cell (3 + m)).trans (hA.2 (3 + m) (by omega)))
          clear hG hA hH hA' hI hbel G0 H0 B0 hx
          go_wp2_with (first
            | (go_at_call 12; (with_reducible refine (of_yes w.heap.size m _ _ hm U1.out).mono ?_); rintro e w' ⟨rfl, rfl⟩)
            | (go_at_call 16; (with_reducible refine (awake_any _).mono ?_); rintro e w5 ⟨rfl, hb5⟩; have HB5 := Lib.hid (bel_call HB.out hb5); clear hb5))
          go_ret
          exact ⟨rfl, HB5.out⟩
        by_cases hx0 : 0 ≤ x
        · skip
          have r0 : decide (0 ≤ x) = true := decide_eq_true hx0
          have r1 : decide (x < 26) = false := decide_eq_false (by omega)
          have HNO := Lib.hid (fun w0 => of_no w.heap.size x w0 hx)
          clear hG hA hH hA' hI hbel G0 H0 B0 hx hx0
          go_wp2_with (first
            | (go_at_call 12; (with_reducible refine (HNO.out _).mono ?_); rintro e w' ⟨rfl, rfl⟩)
            | (go_at_call 16; (with_reducible refine (awake_any _).mono ?_); rintro e w5 ⟨rfl, hb5⟩; have HB5 := Lib.hid (bel_call HB.out hb5); clear hb5))
          go_ret
          exact ⟨rfl, HB5.out⟩
        · skip
          have r0 : decide (0 ≤ x) = false := decide_eq_false hx0
          have HNO := Lib.hid (fun w0 => of_no w.heap.size x w0 hx)
          clear hG hA hH hA' hI hbel G0 H0 B0 hx hx0
          go_wp2_with (first
            | (go_at_call 12; (with_reducible refine (HNO.out _).mono ?_); rintro e w' ⟨rfl, rfl⟩)
            | (go_at_call 16; (with_reducible refine (awake_any _).mono ?_); rintro e w5 ⟨rfl, hb5⟩; have HB5 := Lib.hid (bel_call HB.out hb5); clear hb5))
          go_ret
          exact ⟨rfl, HB5.out⟩
end Go.Proofs.Ytpgodmcpdgbhaaa.countI
