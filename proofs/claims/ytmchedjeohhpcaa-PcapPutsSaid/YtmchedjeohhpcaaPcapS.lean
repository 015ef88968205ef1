/- Layer 36: the law's same, and the example. -/
import Derived.Test.YtmchedjeohhpcaaPcapR
import Derived.Deep.DeepCutAuto
import Derived.BigRegion
namespace Go.Proofs.Ytmchedjeohhpcaa.pcapS
open Go.ChangeShapes Go.WideShapes Go.ChangeAt Go.RowKit
open Go.Proofs.Ytmchedjeohhpcaa.base Go.Proofs.Ytmchedjeohhpcaa.pcapA Go.Proofs.Ytmchedjeohhpcaa.pcapB Go.Proofs.Ytmchedjeohhpcaa.pcapC Go.Proofs.Ytmchedjeohhpcaa.pcapD Go.Proofs.Ytmchedjeohhpcaa.pcapE Go.Proofs.Ytmchedjeohhpcaa.pcapF Go.Proofs.Ytmchedjeohhpcaa.pcapG Go.Proofs.Ytmchedjeohhpcaa.pcapI Go.Proofs.Ytmchedjeohhpcaa.pcapJ Go.Proofs.Ytmchedjeohhpcaa.pcapK Go.Proofs.Ytmchedjeohhpcaa.pcapL Go.Proofs.Ytmchedjeohhpcaa.pcapM Go.Proofs.Ytmchedjeohhpcaa.pcapN Go.Proofs.Ytmchedjeohhpcaa.pcapQ Go.Proofs.Ytmchedjeohhpcaa.pcapR
set_option linter.unusedVariables false

set_option maxHeartbeats 4000000 in
set_option maxRecDepth 100000 in
theorem same_true (big : Bool) (sn link : Nat) (B1 B2 : Option Addr) (n c1 c2 : Nat) (l1 l2 : List Rc) (w : World) (r1 : RdR w B1 l1) (r2 : RdR w B2 l2) (h1 : ∀ e ∈ l1, Has w e) (h2 : ∀ e ∈ l2, Has w e) (hl1 : l1.length = n) (hre : l1.map Rc.re = l2.map Rc.re) (hn : n ≤ 100000) :
    Calls Try.prog 14 #[.agg #[.bool big, .int .u32 (sn : Int), .int .u32 (link : Int), .slice B1 n c1], .agg #[.bool big, .int .u32 (sn : Int), .int .u32 (link : Int), .slice B2 n c2]] w fun o w' => o = .returned (.bool true) ∧ Below w.heap.size w w' := by
  have hl2 : l2.length = n := by rw [← hl1, ← List.length_map (f := Rc.re), ← hre, List.length_map]
  have K1 := (Blk.new w 25 #[.bool big, .int .u32 (sn : Int), .int .u32 (link : Int), .slice B1 n c1]).alloc (.cells #[.bool big, .int .u32 (sn : Int), .int .u32 (link : Int), .slice B2 n c2] 25)
  have hz0 : (w.alloc (.cells #[.bool big, .int .u32 (sn : Int), .int .u32 (link : Int), .slice B1 n c1] 25)).heap.size = w.heap.size + 1 := by simp
  have K2 := Blk.new (w.alloc (.cells #[.bool big, .int .u32 (sn : Int), .int .u32 (link : Int), .slice B1 n c1] 25)) 25 #[.bool big, .int .u32 (sn : Int), .int .u32 (link : Int), .slice B2 n c2]
  rw [hz0] at K2
  have B0 : Below w.heap.size w ((w.alloc (.cells #[.bool big, .int .u32 (sn : Int), .int .u32 (link : Int), .slice B1 n c1] 25)).alloc (.cells #[.bool big, .int .u32 (sn : Int), .int .u32 (link : Int), .slice B2 n c2] 25)) := ((Below.refl _ _).alloc (Nat.le_refl _) _).alloc (by simp) _
  have HAT := Lib.hid (show ∀ j (a1 : j < l1.length) (a2 : j < l2.length), Rc.re l1[j] = Rc.re l2[j] from fun j a1 a2 => by
    have := congrArg (fun (x : List Re) => x[j]?) hre
    simp only [List.getElem?_map, List.getElem?_eq_getElem a1, List.getElem?_eq_getElem a2, Option.map_some] at this
    injection this)
  have HR1 := Lib.hid r1
  have HR2 := Lib.hid r2
  have HH1 := Lib.hid h1
  have HH2 := Lib.hid h2
  have HL1 := Lib.hid hl1
  have HL2 := Lib.hid hl2
  have HK1 := Lib.hid K1
  have HK2 := Lib.hid K2
  have HB0 := Lib.hid B0
  clear r1 r2 h1 h2 hl1 hl2 hre K1 K2 B0 hz0
  go_enter Try.func14, Try.ntmps14
  go_wp2_with fail
  go_loopw [5] (fun i wr => ∃ (j : Nat), j ≤ n ∧ i = .int .i64 j ∧ Hid (Below w.heap.size w wr) ∧ Hid (Blk wr w.heap.size 25 #[.bool big, .int .u32 (sn : Int), .int .u32 (link : Int), .slice B1 n c1]) ∧ Hid (Blk wr (w.heap.size + 1) 25 #[.bool big, .int .u32 (sn : Int), .int .u32 (link : Int), .slice B2 n c2])) (fun i _ => n - (intOf i).toNat)
  case atStart => exact ⟨0, by omega, rfl, HB0, HK1, HK2⟩
  case round =>
    obtain ⟨j, hj, rfl, HB, HKA, HKB⟩ := hrel
    by_cases hlt : j < n
    · have hjl1 : j < l1.length := HL1.out.symm ▸ hlt
      have hjl2 : j < l2.length := HL2.out.symm ▸ hlt
      obtain ⟨b1, off1, hA, hbl, hC⟩ := (HR1.out.below HB.out).at_ j hjl1
      obtain ⟨b2, off2, hA2, hbl2, hC2⟩ := (HR2.out.below HB.out).at_ j hjl2
      subst hA hA2
      obtain ⟨e1, he1⟩ : ∃ e1, e1 = l1[j] := ⟨_, rfl⟩
      obtain ⟨e2, he2⟩ : ∃ e2, e2 = l2[j] := ⟨_, rfl⟩
      have hee := HAT.out j hjl1 hjl2
      have H1 := HH1.out l1[j] (List.getElem_mem hjl1)
      have H2 := HH2.out l2[j] (List.getElem_mem hjl2)
      rw [← he1] at hC hee H1
      rw [← he2] at hC2 hee H2
      clear he1 he2 hjl1 hjl2
      obtain ⟨sec, mic, sz, A1, m, d1, bs⟩ := e1
      obtain ⟨sec2, mic2, sz2, A2, m2, d2, bs2⟩ := e2
      unfold Rc.re at hee
      injection hee with x1 x2 x3 x4
      dsimp only at x1 x2 x3 x4
      subst x1 x2 x3 x4
      obtain ⟨g1, g2, g3, g4⟩ := H1
      obtain ⟨p1, p2, p3, p4⟩ := H2
      dsimp only at g1 g2 g3 g4 p1 p2 p3 p4
      obtain rfl : m = m2 := g2.symm.trans p2
      have HG1 := Lib.hid g1
      have HP1 := Lib.hid p1
      have HG2 := Lib.hid g2
      have s0 : wr.cell? ⟨w.heap.size, 3, none⟩ = some (.slice (some ⟨b1, off1, none⟩) n c1) ∧ wr.cell? ⟨w.heap.size + 1, 3, none⟩ = some (.slice (some ⟨b2, off2, none⟩) n c2) ∧ wr.cell? ⟨b1, off1 + j * 4, none⟩ = some (.int .u32 (sec : Int)) ∧ wr.cell? ⟨b1, off1 + j * 4 + 1, none⟩ = some (.int .u32 (mic : Int)) ∧ wr.cell? ⟨b1, off1 + j * 4 + 2, none⟩ = some (.int .u32 (sz : Int)) ∧ wr.cell? ⟨b1, off1 + j * 4 + 3, none⟩ = some (.slice A1 m d1) ∧ wr.cell? ⟨b2, off2 + j * 4, none⟩ = some (.int .u32 (sec : Int)) ∧ wr.cell? ⟨b2, off2 + j * 4 + 1, none⟩ = some (.int .u32 (mic : Int)) ∧ wr.cell? ⟨b2, off2 + j * 4 + 2, none⟩ = some (.int .u32 (sz : Int)) ∧ wr.cell? ⟨b2, off2 + j * 4 + 3, none⟩ = some (.slice A2 m d2) := ⟨HKA.out.cell 3, HKB.out.cell 3, hC 0 (by omega), hC 1 (by omega), hC 2 (by omega), hC 3 (by omega), hC2 0 (by omega), hC2 1 (by omega), hC2 2 (by omega), hC2 3 (by omega)⟩
      have j0 : (0 : Int) ≤ j := by omega
      have j1 : (j : Int) < n := by omega
      have HBL := Lib.hid (And.intro hbl hbl2)
      clear hC hC2 g1 p1 g2 p2 g3 p3 hbl hbl2
      have HFR := Lib.hid (show ∀ W, Below wr.heap.size wr W → (W.cell? ⟨w.heap.size, 3, none⟩ = some (.slice (some ⟨b1, off1, none⟩) n c1) ∧ W.cell? ⟨w.heap.size + 1, 3, none⟩ = some (.slice (some ⟨b2, off2, none⟩) n c2) ∧ W.cell? ⟨b1, off1 + j * 4, none⟩ = some (.int .u32 (sec : Int)) ∧ W.cell? ⟨b1, off1 + j * 4 + 1, none⟩ = some (.int .u32 (mic : Int)) ∧ W.cell? ⟨b1, off1 + j * 4 + 2, none⟩ = some (.int .u32 (sz : Int)) ∧ W.cell? ⟨b1, off1 + j * 4 + 3, none⟩ = some (.slice A1 m d1) ∧ W.cell? ⟨b2, off2 + j * 4, none⟩ = some (.int .u32 (sec : Int)) ∧ W.cell? ⟨b2, off2 + j * 4 + 1, none⟩ = some (.int .u32 (mic : Int)) ∧ W.cell? ⟨b2, off2 + j * 4 + 2, none⟩ = some (.int .u32 (sz : Int)) ∧ W.cell? ⟨b2, off2 + j * 4 + 3, none⟩ = some (.slice A2 m d2)) from fun W hW => by
        obtain ⟨q1, q2, q3, q4, q5, q6, q7, q8, q9, q10⟩ := s0
        have k : ∀ (p : Addr) (v : Value), wr.cell? p = some v → W.cell? p = some v := fun p v h => (hW.cell (World.block_lt_of_cell? wr p h)).trans h
        exact ⟨k _ _ q1, k _ _ q2, k _ _ q3, k _ _ q4, k _ _ q5, k _ _ q6, k _ _ q7, k _ _ q8, k _ _ q9, k _ _ q10⟩)
      clear s0
      have f31 := HKA.out.cell 3
      have f32 := HKB.out.cell 3
      have s0 := HFR.out wr.drew (Below.refl _ _).drew
      have s1 := HFR.out (wr.alloc (.cells #[.int .u32 0, .int .u32 0, .int .u32 0, .slice none 0 0] 38)).drew ((Below.refl _ _).alloc (Nat.le_refl _) _).drew
      have s2 := HFR.out ((wr.alloc (.cells #[.int .u32 0, .int .u32 0, .int .u32 0, .slice none 0 0] 38)).alloc (.cells #[.int .u32 0, .int .u32 0, .int .u32 0, .slice none 0 0] 38)).drew (((Below.refl _ _).alloc (Nat.le_refl _) _).alloc (by simp) _).drew
      go_upto_region 7 with fail
      go_cut [6, 7] (fun v6 v7 wx => ∃ a6 a7, v6 = .pointer (some ⟨a6, 0, none⟩) ∧ v7 = .pointer (some ⟨a7, 0, none⟩) ∧ Hid (Blk wx a6 38 #[.int .u32 (sec : Int), .int .u32 (mic : Int), .int .u32 (sz : Int), .slice A1 m d1]) ∧ Hid (Blk wx a7 38 #[.int .u32 (sec : Int), .int .u32 (mic : Int), .int .u32 (sz : Int), .slice A2 m d2]) ∧ Hid (Below wr.heap.size wr wx))
      case first =>
        go_wp2_with fail
        go_region_held3 (fun w' => w'.cell? ⟨w.heap.size, 3, none⟩ = some (.slice (some ⟨b1, off1, none⟩) n c1) ∧ w'.cell? ⟨w.heap.size + 1, 3, none⟩ = some (.slice (some ⟨b2, off2, none⟩) n c2) ∧ w'.cell? ⟨b1, off1 + j * 4, none⟩ = some (.int .u32 (sec : Int)) ∧ w'.cell? ⟨b1, off1 + j * 4 + 1, none⟩ = some (.int .u32 (mic : Int)) ∧ w'.cell? ⟨b1, off1 + j * 4 + 2, none⟩ = some (.int .u32 (sz : Int)) ∧ w'.cell? ⟨b1, off1 + j * 4 + 3, none⟩ = some (.slice A1 m d1) ∧ w'.cell? ⟨b2, off2 + j * 4, none⟩ = some (.int .u32 (sec : Int)) ∧ w'.cell? ⟨b2, off2 + j * 4 + 1, none⟩ = some (.int .u32 (mic : Int)) ∧ w'.cell? ⟨b2, off2 + j * 4 + 2, none⟩ = some (.int .u32 (sz : Int)) ∧ w'.cell? ⟨b2, off2 + j * 4 + 3, none⟩ = some (.slice A2 m d2)) (first | with_reducible assumption | exact HFR.out _ (by (repeat (first | with_reducible exact Below.refl _ _ | apply below_drewN | apply bel_drew | apply bel_alloc | refine bel_set ?_ (by simp) _)))) (first | fail)
        all_goals
          have hz1 : (wr.alloc (.cells #[.int .u32 (sec : Int), .int .u32 (mic : Int), .int .u32 (sz : Int), .slice A1 m d1] 38)).heap.size = wr.heap.size + 1 := by simp
          have hz2 : (wr.alloc (.cells #[.int .u32 (sec : Int), .int .u32 (mic : Int), .int .u32 (sz : Int), .slice A2 m d2] 38)).heap.size = wr.heap.size + 1 := by simp
          have L1 := Blk.new (wr.alloc (.cells #[.int .u32 (sec : Int), .int .u32 (mic : Int), .int .u32 (sz : Int), .slice A1 m d1] 38)) 38 #[.int .u32 (sec : Int), .int .u32 (mic : Int), .int .u32 (sz : Int), .slice A2 m d2]
          have L2 := Blk.new (wr.alloc (.cells #[.int .u32 (sec : Int), .int .u32 (mic : Int), .int .u32 (sz : Int), .slice A2 m d2] 38)) 38 #[.int .u32 (sec : Int), .int .u32 (mic : Int), .int .u32 (sz : Int), .slice A1 m d1]
          rw [hz1] at L1
          rw [hz2] at L2
          clear s0 s1 s2 hz1 hz2
          go_wp2_with fail
          go_meet
          first
            | exact ⟨wr.heap.size, wr.heap.size + 1, rfl, rfl, Lib.hid ((Blk.new wr _ _).alloc _), Lib.hid L1, Lib.hid (((Below.refl _ _).alloc (Nat.le_refl _) _).alloc (by simp) _).drew⟩
            | exact ⟨wr.heap.size + 1, wr.heap.size, rfl, rfl, Lib.hid L2, Lib.hid ((Blk.new wr _ _).alloc _), Lib.hid (((Below.refl _ _).alloc (Nat.le_refl _) _).alloc (by simp) _).drew⟩
      case rest =>
        obtain ⟨a6, a7, rfl, rfl, K6, K7, BC⟩ := hcut
        have x0 := K6.out.cell 0
        have x1 := K6.out.cell 1
        have x2 := K6.out.cell 2
        have x3 := K6.out.cell 3
        have y0 := K7.out.cell 0
        have y1 := K7.out.cell 1
        have y2 := K7.out.cell 2
        have y3 := K7.out.cell 3
        have HBW := Lib.hid (HB.out.trans (BC.out.mono HB.out.size))
        have v1 := conv_row (c := d1) (HG1.out.below HBW.out) HG2.out
        have v2 := conv_row (c := d2) (HP1.out.below HBW.out) HG2.out
        have HKA2 := Lib.hid (HKA.out.below BC.out HKA.out.lt)
        have HKB2 := Lib.hid (HKB.out.below BC.out HKB.out.lt)
        clear s0 s1 s2 f31 f32
        go_wp2_with fail
        go_roundw
        case rel => exact ⟨j + 1, by omega, by go_num, HBW, HKA2, HKB2⟩
        case measure => simp [intOf]; omega
    · obtain rfl : n = j := by omega
      have f31 := HKA.out.cell 3
      go_wp2_with fail
      go_ret
      exact ⟨rfl, HB.out⟩
def awake_post (w : World) (o : Ending) (w' : World) : Prop := o = .returned (.bool true) ∧ Below w.heap.size w w'
set_option maxHeartbeats 4000000 in
set_option maxRecDepth 100000 in
theorem awake_any (w : World) : Calls Try.prog 10 #[] w fun o w' => o = .returned (.bool true) ∧ Below w.heap.size w w' := by
  have HY := Lib.hid (show Calls Try.prog 7 #[.agg #[.bool true, .int .u32 0, .int .u32 0, .slice none 0 0]] w (BytesPost w (headB true 0 0 ++ bodyB true [])) from bytes_yes true 0 0 none 0 [] w (by decide) (by decide) (.inl rfl) (by simp) (by simp) (by decide) (by decide) (by decide) (by decide))
  have HX := Lib.hid (show headB true 0 0 ++ bodyB true [] = [161, 178, 195, 212, 0, 2, 0, 4, 0, 0, 0, 0, 0, 0, 0, 0, 0, 0, 0, 0, 0, 0, 0, 0] from by decide)
  rw [HX.out] at HY
  go_enter Try.func10, Try.ntmps10
  go_wp2_with fail
  refine HY.out.mono ?_
  rintro o w1 ⟨v, rfl, ho, hb⟩
  obtain ⟨g, cap, rfl, _, _, hc, _, hcell, _⟩ := own_form ho (by decide)
  have c0 : w1.cell? ⟨g, 0, none⟩ = some (.int .u8 161) := hcell 0 (by decide)
  have HB := Lib.hid hb
  clear hcell ho hb
  go_wp2_with fail
  go_ret
  exact ⟨rfl, HB.out⟩
end Go.Proofs.Ytmchedjeohhpcaa.pcapS
