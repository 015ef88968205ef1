/- Layer 9: the law's same. -/
import Derived.Test.YtndekicblbpkjaaSixG
import Derived.Deep.RegionHeldLaw
namespace Go.Proofs.Ytndekicblbpkjaa.sixN
open Go.ChangeShapes Go.WideShapes Go.ChangeAt Go.RowKit
open Go.Proofs.Ytndekicblbpkjaa.base Go.Proofs.Ytndekicblbpkjaa.octA Go.Proofs.Ytndekicblbpkjaa.octB Go.Proofs.Ytndekicblbpkjaa.octC Go.Proofs.Ytndekicblbpkjaa.octF Go.Proofs.Ytndekicblbpkjaa.octK Go.Proofs.Ytndekicblbpkjaa.net Go.Proofs.Ytndekicblbpkjaa.rdrA Go.Proofs.Ytndekicblbpkjaa.rdrG Go.Proofs.Ytndekicblbpkjaa.sumA Go.Proofs.Ytndekicblbpkjaa.sumB Go.Proofs.Ytndekicblbpkjaa.udpA Go.Proofs.Ytndekicblbpkjaa.tcpC Go.Proofs.Ytndekicblbpkjaa.sixW Go.Proofs.Ytndekicblbpkjaa.sixM Go.Proofs.Ytndekicblbpkjaa.sixA Go.Proofs.Ytndekicblbpkjaa.sixB Go.Proofs.Ytndekicblbpkjaa.sixC Go.Proofs.Ytndekicblbpkjaa.sixD Go.Proofs.Ytndekicblbpkjaa.sixE Go.Proofs.Ytndekicblbpkjaa.sixF Go.Proofs.Ytndekicblbpkjaa.sixG
set_option linter.unusedVariables false

theorem conv_zero (w : World) (A : Option Addr) (c : Nat) : (convert 22 9 (.slice A 0 c)).run Try.prog w = .ok (.string (strOfNums [])) w := by
  rw [run_convert_bytes_string w 22 9 5 _ 0 c Try.underlying22 Try.underlying5 Try.underlying9]
  cases A <;> simp [Conv.bytesToString, loadCells]
  all_goals rfl
theorem row_noneL {w : World} {B : Nat} {l : List Int} (h : Row w B none (l.map (.int .u8))) : l = [] := by
  rcases h with h | ⟨_, _, h, _⟩
  · exact List.map_eq_nil_iff.mp h
  · cases h
set_option maxRecDepth 100000 in
theorem conv_row {w : World} {B : Nat} {A : Option Addr} {n c : Nat} {l : List Int} (h : Row w B A (l.map (.int .u8))) (hl : l.length = n) :
    (convert 22 9 (.slice A n c)).run Try.prog w = .ok (.string (strOfNums l)) w := by
  cases A with
  | none =>
    have hl0 : l = [] := row_noneL h
    subst hl0
    exact run_convert_bytes_nil w 22 5 Try.underlying22 Try.underlying5 n c 9 Try.underlying9
  | some ad =>
    rcases Nat.eq_zero_or_pos l.length with h0 | h0
    · have hl0 : l = [] := List.eq_nil_of_length_eq_zero h0
      subst hl0
      obtain rfl : n = 0 := by simpa using hl.symm
      exact conv_zero w _ c
    · obtain ⟨b, off, hA, _, hc⟩ := h.at_ (by intro e; rw [List.map_eq_nil_iff] at e; subst e; simp at h0)
      injection hA with hA
      subst hA
      refine run_convert_bytes_arg w 22 5 Try.underlying22 Try.underlying5 b off n c l hl (fun i hi => ?_) 9 Try.underlying9
      exact hc i _ (by rw [List.getElem?_map, List.getElem?_eq_getElem (by omega), List.getD_eq_getElem?_getD, List.getElem?_eq_getElem (by omega)]; rfl)
set_option maxHeartbeats 8000000 in
set_option maxRecDepth 100000 in
theorem same_true (h : Hs) (B1 B2 : Option Addr) (n c1 c2 : Nat) (l1 l2 : List Xt) (w : World) (r1 : RdX w B1 l1) (r2 : RdX w B2 l2) (hl1 : l1.length = n) (hre : l1.map Xt.re = l2.map Xt.re) (hn : n ≤ 100000) :
    Calls Try.prog 13 #[.agg (h.cells (.slice B1 n c1)), .agg (h.cells (.slice B2 n c2))] w fun o w' => o = .returned (.bool true) ∧ Below w.heap.size w w' := by
  obtain ⟨cls, lab, hop, s6, sh, sl, d6, dh, dl, p⟩ := h
  have hl2 : l2.length = n := by rw [← hl1, ← List.length_map (f := Xt.re), ← hre, List.length_map]
  have HAT := Lib.hid (show ∀ j (a1 : j < l1.length) (a2 : j < l2.length), Xt.re l1[j] = Xt.re l2[j] from fun j a1 a2 => by
    have := congrArg (fun (x : List XP) => x[j]?) hre
    simp only [List.getElem?_map, List.getElem?_eq_getElem a1, List.getElem?_eq_getElem a2, Option.map_some] at this
    injection this)
  obtain ⟨w1, hw1⟩ : ∃ w1, w1 = w.alloc (.cells #[.int .i64 cls, .int .i64 lab, .int .i64 hop, .bool s6, .int .u64 sh, .int .u64 sl, .bool d6, .int .u64 dh, .int .u64 dl, .slice B1 n c1, .int .i64 p] 29) := ⟨_, rfl⟩
  obtain ⟨w2, hw2⟩ : ∃ w2, w2 = w1.alloc (.cells #[.int .i64 cls, .int .i64 lab, .int .i64 hop, .bool s6, .int .u64 sh, .int .u64 sl, .bool d6, .int .u64 dh, .int .u64 dl, .slice B2 n c2, .int .i64 p] 29) := ⟨_, rfl⟩
  obtain ⟨g, hg⟩ : ∃ g, g = w.heap.size := ⟨_, rfl⟩
  have E1 := Lib.hid hw1
  have E2 := Lib.hid hw2
  have EG := Lib.hid hg
  have SZ1 : w1.heap.size = g + 1 := by rw [hw1, hg]; simp
  have ES := Lib.hid SZ1
  have HB1 : Below g w w1 := by rw [hw1, hg]; exact (Below.refl _ _).alloc (Nat.le_refl _) _
  have HB2 : Below (g + 1) w1 w2 := by rw [hw2, ← SZ1]; exact (Below.refl _ _).alloc (Nat.le_refl _) _
  have HK1 := Lib.hid (show Blk w2 g 29 #[.int .i64 cls, .int .i64 lab, .int .i64 hop, .bool s6, .int .u64 sh, .int .u64 sl, .bool d6, .int .u64 dh, .int .u64 dl, .slice B1 n c1, .int .i64 p] from by
    have h : Blk w1 g 29 #[.int .i64 cls, .int .i64 lab, .int .i64 hop, .bool s6, .int .u64 sh, .int .u64 sl, .bool d6, .int .u64 dh, .int .u64 dl, .slice B1 n c1, .int .i64 p] := by rw [hw1, hg]; exact Blk.new w _ _
    exact h.below HB2 (Nat.lt_succ_self g))
  have HK2 := Lib.hid (show Blk w2 (g + 1) 29 #[.int .i64 cls, .int .i64 lab, .int .i64 hop, .bool s6, .int .u64 sh, .int .u64 sl, .bool d6, .int .u64 dh, .int .u64 dl, .slice B2 n c2, .int .i64 p] from by rw [hw2, ← SZ1]; exact Blk.new w1 _ _)
  have HB0 := Lib.hid (HB1.trans (HB2.mono (Nat.le_succ g)))
  have SZ2 := Lib.hid (show w2.heap.size = g + 2 from by rw [hw2]; simp; omega)
  rw [← hg]
  have HR1 := Lib.hid r1
  have HR2 := Lib.hid r2
  have HL1 := Lib.hid hl1
  have HL2 := Lib.hid hl2
  have x0 := HK1.out.cell 0
  have x1 := HK1.out.cell 1
  have x2 := HK1.out.cell 2
  have x3 := HK1.out.cell 3
  have x4 := HK1.out.cell 4
  have x5 := HK1.out.cell 5
  have x6 := HK1.out.cell 6
  have x7 := HK1.out.cell 7
  have x8 := HK1.out.cell 8
  have x9 := HK1.out.cell 9
  have x10 := HK1.out.cell 10
  have y0 := HK2.out.cell 0
  have y1 := HK2.out.cell 1
  have y2 := HK2.out.cell 2
  have y3 := HK2.out.cell 3
  have y4 := HK2.out.cell 4
  have y5 := HK2.out.cell 5
  have y6 := HK2.out.cell 6
  have y7 := HK2.out.cell 7
  have y8 := HK2.out.cell 8
  have y9 := HK2.out.cell 9
  have y10 := HK2.out.cell 10
  clear hw1 hw2 hg SZ1 HB1 HB2 r1 r2 hl1 hl2 hre
  show Calls _ _ #[.agg #[.int .i64 cls, .int .i64 lab, .int .i64 hop, .bool s6, .int .u64 sh, .int .u64 sl, .bool d6, .int .u64 dh, .int .u64 dl, .slice B1 n c1, .int .i64 p], .agg #[.int .i64 cls, .int .i64 lab, .int .i64 hop, .bool s6, .int .u64 sh, .int .u64 sl, .bool d6, .int .u64 dh, .int .u64 dl, .slice B2 n c2, .int .i64 p]] _ _
  go_enter Try.func13, Try.ntmps13
  go_upto_region 1 with fail
  rw [← E1.out, ← E2.out, ← EG.out]
  go_wp2_with fail
  clear x0 x1 x2 x3 x4 x5 x6 x7 x8 x9 x10 y0 y1 y2 y3 y4 y5 y6 y7 y8 y9 y10
  go_loopw [5] (fun i wr => ∃ (j : Nat), j ≤ n ∧ i = .int .i64 j ∧ Hid (Below (g + 2) w2 wr)) (fun i _ => n - (intOf i).toNat)
  case atStart => exact ⟨0, by omega, rfl, Lib.hid (Below.refl _ _)⟩
  case round =>
    obtain ⟨j, hj, rfl, HB⟩ := hrel
    have HBW := Lib.hid (HB0.out.trans (HB.out.mono (by omega)))
    have x9 : wr.cell? ⟨g, 9, none⟩ = some (.slice B1 n c1) := (HK1.out.below HB.out (by omega)).cell 9
    have y9 : wr.cell? ⟨g + 1, 9, none⟩ = some (.slice B2 n c2) := (HK2.out.below HB.out (by omega)).cell 9
    by_cases hlt : j < n
    · have hjl1 : j < l1.length := HL1.out.symm ▸ hlt
      have hjl2 : j < l2.length := HL2.out.symm ▸ hlt
      have HBO : Below w.heap.size w wr := by have := EG.out; rw [← this]; exact HBW.out
      obtain ⟨b1, off1, hA, hbl, hC⟩ := (HR1.out.below HBO).at_ j hjl1
      obtain ⟨b2, off2, hA2, hbl2, hC2⟩ := (HR2.out.below HBO).at_ j hjl2
      subst hA hA2
      obtain ⟨e1, he1⟩ : ∃ e1, e1 = l1[j] := ⟨_, rfl⟩
      obtain ⟨e2, he2⟩ : ∃ e2, e2 = l2[j] := ⟨_, rfl⟩
      have hee := HAT.out j hjl1 hjl2
      have H1 := (HR1.out.els l1[j] (List.getElem_mem hjl1)).1
      have H2 := (HR2.out.els l2[j] (List.getElem_mem hjl2)).1
      rw [← he1] at hC hee H1
      rw [← he2] at hC2 hee H2
      clear he1 he2 hjl1 hjl2
      obtain ⟨kd, A1, d1, bs⟩ := e1
      obtain ⟨kd2, A2, d2, bs2⟩ := e2
      unfold Xt.re at hee
      simp only [Prod.mk.injEq] at hee
      obtain ⟨q1, q2⟩ := hee
      subst q1 q2
      obtain ⟨q, hq⟩ : ∃ q, q = bs.length := ⟨_, rfl⟩
      obtain ⟨TX, hTX⟩ : ∃ TX, TX = strOfNums bs := ⟨_, rfl⟩
      have HSV := Lib.hid (show ∀ W, Below wr.heap.size wr W → (W.cell? ⟨g, 9, none⟩ = some (.slice (some ⟨b1, off1, none⟩) n c1) ∧ W.cell? ⟨g + 1, 9, none⟩ = some (.slice (some ⟨b2, off2, none⟩) n c2) ∧ W.cell? ⟨b1, off1 + j * 2, none⟩ = some (.int .i64 kd) ∧ W.cell? ⟨b1, off1 + j * 2 + 1, none⟩ = some (.slice A1 q d1) ∧ W.cell? ⟨b2, off2 + j * 2, none⟩ = some (.int .i64 kd) ∧ W.cell? ⟨b2, off2 + j * 2 + 1, none⟩ = some (.slice A2 q d2) ∧ (convert 22 9 (.slice A1 q d1)).run Try.prog W = .ok (.string TX) W ∧ (convert 22 9 (.slice A2 q d2)).run Try.prog W = .ok (.string TX) W) from fun W hW => by
        have k : ∀ (p : Addr) (v : Value), wr.cell? p = some v → W.cell? p = some v := fun p v h => (hW.cell (World.block_lt_of_cell? wr p h)).trans h
        rw [hTX, hq]
        exact ⟨k _ _ x9, k _ _ y9, k _ _ (hC 0 (by omega)), k _ _ (hC 1 (by omega)), k _ _ (hC2 0 (by omega)), k _ _ (hC2 1 (by omega)), conv_row ((H1.below HBO).below (hW.mono HBO.size)) rfl, conv_row ((H2.below HBO).below (hW.mono HBO.size)) rfl⟩)
      have K0 := Lib.hid ((Below.refl wr.heap.size wr).drew)
      have j0 : (0 : Int) ≤ j := by omega
      have j1 : (j : Int) < n := by omega
      have wk : IntKind.i64.wrap ((j : Int) + 1) = (j : Int) + 1 := IntWalk.i64_in _ (by omega)
      have tk : (kd != kd) = false := by simp
      have t1 : decide ((j : Int) < n) = true := decide_eq_true j1
      have t1n : decide (j < n) = true := decide_eq_true hlt
      clear hC hC2 hbl hbl2 H1 H2 HBO hlt hq hTX
      go_upto_region 6 with fail
      go_region_held_law (fun w' => (w'.cell? ⟨g, 9, none⟩ = some (.slice (some ⟨b1, off1, none⟩) n c1) ∧ w'.cell? ⟨g + 1, 9, none⟩ = some (.slice (some ⟨b2, off2, none⟩) n c2) ∧ w'.cell? ⟨b1, off1 + j * 2, none⟩ = some (.int .i64 kd) ∧ w'.cell? ⟨b1, off1 + j * 2 + 1, none⟩ = some (.slice A1 q d1) ∧ w'.cell? ⟨b2, off2 + j * 2, none⟩ = some (.int .i64 kd) ∧ w'.cell? ⟨b2, off2 + j * 2 + 1, none⟩ = some (.slice A2 q d2) ∧ (convert 22 9 (.slice A1 q d1)).run Try.prog w' = .ok (.string TX) w' ∧ (convert 22 9 (.slice A2 q d2)).run Try.prog w' = .ok (.string TX) w')) (first | with_reducible exact HSV.out _ K0.out) (first | fail)
      go_wp2_with fail
      go_roundw
      case rel => exact ⟨j + 1, by omega, by go_num, Lib.hid (by (repeat (first | with_reducible exact HB.out | apply below_drewN | apply Below.drew)))⟩
      case measure => simp [intOf]; omega
    · obtain rfl : n = j := by omega
      have t1 : decide ((n : Int) < n) = false := decide_eq_false (by omega)
      have t1n : decide (n < n) = false := decide_eq_false (by omega)
      go_wp2_with fail
      go_ret
      exact ⟨rfl, HBW.out⟩
end Go.Proofs.Ytndekicblbpkjaa.sixN
