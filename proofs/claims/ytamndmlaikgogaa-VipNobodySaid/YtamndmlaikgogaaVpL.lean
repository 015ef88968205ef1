/- Layer 30: the law VipNobody. -/
import Derived.Test.YtamndmlaikgogaaVpK
namespace Go.Proofs.Ytamndmlaikgogaa.vpL
open Go.ChangeShapes Go.WideShapes Go.ChangeAt Go.RowKit
open Go.Proofs.Ytamndmlaikgogaa.base Go.Proofs.Ytamndmlaikgogaa.dfA Go.Proofs.Ytamndmlaikgogaa.treB Go.Proofs.Ytamndmlaikgogaa.vdA Go.Proofs.Ytamndmlaikgogaa.vpI Go.Proofs.Ytamndmlaikgogaa.vpK
set_option linter.unusedVariables false

set_option maxHeartbeats 8000000 in
set_option maxRecDepth 100000 in
theorem nobody_any (x : Tq) (w : World) : Calls Try.prog 8 #[.agg x.cells] w fun o w' => o = .returned (.bool true) ∧ Below w.heap.size w w' := by
  obtain ⟨pr, s6, sh, sl, d6, dh, dl, sp, dp⟩ := x
  unfold Tq.cells
  simp only
  obtain ⟨w1, hw1⟩ : ∃ w1, w1 = w.alloc (.cells #[.int .i64 pr, .bool s6, .int .u64 sh, .int .u64 sl, .bool d6, .int .u64 dh, .int .u64 dl, .int .i64 sp, .int .i64 dp] 55) := ⟨_, rfl⟩

  obtain ⟨w2, hw2⟩ : ∃ w2, w2 = w1.alloc (.cells #[.pointer none, .slice none 0 0, .map none, .map none] 70) := ⟨_, rfl⟩
  have E1 := Lib.hid hw1
  have E2 := Lib.hid hw2
  have Q1 := Lib.hid (show Blk w1 w.heap.size 55 #[.int .i64 pr, .bool s6, .int .u64 sh, .int .u64 sl, .bool d6, .int .u64 dh, .int .u64 dl, .int .i64 sp, .int .i64 dp] from hw1 ▸ Blk.new w _ _)
  have T2 := Lib.hid (show Blk w2 w1.heap.size 70 #[.pointer none, .slice none 0 0, .map none, .map none] from by rw [hw2]; exact Blk.new w1 _ _)
  have Q2 := Lib.hid (show Blk w2 w.heap.size 55 #[.int .i64 pr, .bool s6, .int .u64 sh, .int .u64 sl, .bool d6, .int .u64 dh, .int .u64 dl, .int .i64 sp, .int .i64 dp] from hw2 ▸ Q1.out.alloc _)
  have B2 := Lib.hid (show Below w.heap.size w w2 from hw2 ▸ hw1 ▸ ((Below.refl _ _).alloc (Nat.le_refl _) _).alloc (by simp) _)
  have HM1 := Lib.hid (show ∀ W, Calls Try.prog 20 #[.pointer none, .agg #[.int .i64 pr, .bool s6, .int .u64 sh, .int .u64 sl, .bool d6, .int .u64 dh, .int .u64 dl, .int .i64 sp, .int .i64 dp]] W (fun e w' => e = .returned (.tuple #[.agg #[.bool false, .int .u64 0, .int .u64 0, .int .i64 0, .int .i64 0, .int .i64 0, .bool false], .bool false]) ∧ Below W.heap.size W w') from fun W => match_un (p := .pointer none) ⟨pr, s6, sh, sl, d6, dh, dl, sp, dp⟩ W (unm_nil W))
  have HM2 := Lib.hid (show ∀ W, Blk W w1.heap.size 70 #[.pointer none, .slice none 0 0, .map none, .map none] → Calls Try.prog 20 #[.pointer (some ⟨w1.heap.size, 0, none⟩), .agg #[.int .i64 pr, .bool s6, .int .u64 sh, .int .u64 sl, .bool d6, .int .u64 dh, .int .u64 dl, .int .i64 sp, .int .i64 dp]] W (fun e w' => e = .returned (.tuple #[.agg #[.bool false, .int .u64 0, .int .u64 0, .int .i64 0, .int .i64 0, .int .i64 0, .bool false], .bool false]) ∧ Below W.heap.size W w') from fun W h => match_un ⟨pr, s6, sh, sl, d6, dh, dl, sp, dp⟩ W (unm_zero h))
  have HO1 := Lib.hid (fun W => ours_un (p := .pointer none) d6 dh dl W (unm_nil W))
  have HO2 := Lib.hid (fun W (h : Blk W w1.heap.size 70 #[.pointer none, .slice none 0 0, .map none, .map none]) => ours_un d6 dh dl W (unm_zero h))
  have HF1 := Lib.hid (fun W => from_un (p := .pointer none) s6 sh sl W (unm_nil W))
  have HF2 := Lib.hid (fun W (h : Blk W w1.heap.size 70 #[.pointer none, .slice none 0 0, .map none, .map none]) => from_un s6 sh sl W (unm_zero h))
  have HL1 := Lib.hid (fun W => list_un (p := .pointer none) W (unm_nil W))
  have HL2 := Lib.hid (fun W (h : Blk W w1.heap.size 70 #[.pointer none, .slice none 0 0, .map none, .map none]) => list_un W (unm_zero h))
  have HAW := Lib.hid awake_any
  have d0 := Q2.out.cell 0
  have dd : w2.cell? ⟨w.heap.size, 0, none⟩ = some (.int .i64 pr) ∧ w2.cell? ⟨w.heap.size, 1, none⟩ = some (.bool s6) ∧ w2.cell? ⟨w.heap.size, 2, none⟩ = some (.int .u64 sh) ∧ w2.cell? ⟨w.heap.size, 3, none⟩ = some (.int .u64 sl) ∧ w2.cell? ⟨w.heap.size, 4, none⟩ = some (.bool d6) ∧ w2.cell? ⟨w.heap.size, 5, none⟩ = some (.int .u64 dh) ∧ w2.cell? ⟨w.heap.size, 6, none⟩ = some (.int .u64 dl) ∧ w2.cell? ⟨w.heap.size, 7, none⟩ = some (.int .i64 sp) ∧ w2.cell? ⟨w.heap.size, 8, none⟩ = some (.int .i64 dp) :=
    ⟨Q2.out.cell 0, Q2.out.cell 1, Q2.out.cell 2, Q2.out.cell 3, Q2.out.cell 4, Q2.out.cell 5, Q2.out.cell 6, Q2.out.cell 7, Q2.out.cell 8⟩
  obtain ⟨x0, x1, x2, x3, x4, x5, x6, x7, x8⟩ := dd
  clear hw1 hw2 d0
  go_enter Try.func8, Try.ntmps8
  go_upto_region 1 with fail
  rw [← E1.out]
  go_upto_region 3 with fail
  rw [← E2.out]
  go_wp2_with fail
  refine (HM1.out w2).mono ?_
  rintro o w3 ⟨rfl, hb3⟩
  have Q3 := Lib.hid (show Blk w3 w.heap.size 55 #[.int .i64 pr, .bool s6, .int .u64 sh, .int .u64 sl, .bool d6, .int .u64 dh, .int .u64 dl, .int .i64 sp, .int .i64 dp] from Q2.out.below hb3 Q2.out.lt)
  have T3 := Lib.hid (show Blk w3 w1.heap.size 70 #[.pointer none, .slice none 0 0, .map none, .map none] from T2.out.below hb3 T2.out.lt)
  have B3 := Lib.hid (show Below w.heap.size w w3 from B2.out.trans (hb3.mono B2.out.size))
  obtain ⟨w4, hw4⟩ : ∃ w4, w4 = w3.alloc (.cells #[.bool false, .int .u64 0, .int .u64 0, .int .i64 0, .int .i64 0, .int .i64 0, .bool false] 48) := ⟨_, rfl⟩
  have E4 := Lib.hid hw4
  have hb4 : Below w3.heap.size w3 w4 := hw4 ▸ (Below.refl _ _).alloc (Nat.le_refl _) _
  have Q4 := Lib.hid (show Blk w4 w.heap.size 55 #[.int .i64 pr, .bool s6, .int .u64 sh, .int .u64 sl, .bool d6, .int .u64 dh, .int .u64 dl, .int .i64 sp, .int .i64 dp] from Q3.out.below hb4 Q3.out.lt)
  have T4 := Lib.hid (show Blk w4 w1.heap.size 70 #[.pointer none, .slice none 0 0, .map none, .map none] from T3.out.below hb4 T3.out.lt)
  have B4 := Lib.hid (show Below w.heap.size w w4 from B3.out.trans (hb4.mono B3.out.size))
  have y0 : w4.cell? ⟨w.heap.size, 0, none⟩ = some (.int .i64 pr) := Q4.out.cell 0
  have y1 : w4.cell? ⟨w.heap.size, 1, none⟩ = some (.bool s6) := Q4.out.cell 1
  have y2 : w4.cell? ⟨w.heap.size, 2, none⟩ = some (.int .u64 sh) := Q4.out.cell 2
  have y3 : w4.cell? ⟨w.heap.size, 3, none⟩ = some (.int .u64 sl) := Q4.out.cell 3
  have y4 : w4.cell? ⟨w.heap.size, 4, none⟩ = some (.bool d6) := Q4.out.cell 4
  have y5 : w4.cell? ⟨w.heap.size, 5, none⟩ = some (.int .u64 dh) := Q4.out.cell 5
  have y6 : w4.cell? ⟨w.heap.size, 6, none⟩ = some (.int .u64 dl) := Q4.out.cell 6
  have y7 : w4.cell? ⟨w.heap.size, 7, none⟩ = some (.int .i64 sp) := Q4.out.cell 7
  have y8 : w4.cell? ⟨w.heap.size, 8, none⟩ = some (.int .i64 dp) := Q4.out.cell 8
  clear hb3 hb4 hw4 x0 x1 x2 x3 x4 x5 x6 x7 x8
  go_upto_region 4 with fail
  rw [← E4.out]
  go_wp2_with fail
  refine (HM2.out w4 T4.out).mono ?_
  rintro o w5 ⟨rfl, hb5⟩
  have Q5 := Lib.hid (show Blk w5 w.heap.size 55 #[.int .i64 pr, .bool s6, .int .u64 sh, .int .u64 sl, .bool d6, .int .u64 dh, .int .u64 dl, .int .i64 sp, .int .i64 dp] from Q4.out.below hb5 Q4.out.lt)
  have T5 := Lib.hid (show Blk w5 w1.heap.size 70 #[.pointer none, .slice none 0 0, .map none, .map none] from T4.out.below hb5 T4.out.lt)
  have B5 := Lib.hid (show Below w.heap.size w w5 from B4.out.trans (hb5.mono B4.out.size))
  obtain ⟨w6, hw6⟩ : ∃ w6, w6 = w5.alloc (.cells #[.bool false, .int .u64 0, .int .u64 0, .int .i64 0, .int .i64 0, .int .i64 0, .bool false] 48) := ⟨_, rfl⟩
  have E6 := Lib.hid hw6
  have hb6 : Below w5.heap.size w5 w6 := hw6 ▸ (Below.refl _ _).alloc (Nat.le_refl _) _
  have Q6 := Lib.hid (show Blk w6 w.heap.size 55 #[.int .i64 pr, .bool s6, .int .u64 sh, .int .u64 sl, .bool d6, .int .u64 dh, .int .u64 dl, .int .i64 sp, .int .i64 dp] from Q5.out.below hb6 Q5.out.lt)
  have T6 := Lib.hid (show Blk w6 w1.heap.size 70 #[.pointer none, .slice none 0 0, .map none, .map none] from T5.out.below hb6 T5.out.lt)
  have B6 := Lib.hid (show Below w.heap.size w w6 from B5.out.trans (hb6.mono B5.out.size))
  obtain ⟨w7, hw7⟩ : ∃ w7, w7 = w6.drew := ⟨_, rfl⟩
  have E7 := Lib.hid hw7
  have hb7 : Below w6.heap.size w6 w7 := hw7 ▸ (Below.refl _ _).drew
  have Q7 := Lib.hid (show Blk w7 w.heap.size 55 #[.int .i64 pr, .bool s6, .int .u64 sh, .int .u64 sl, .bool d6, .int .u64 dh, .int .u64 dl, .int .i64 sp, .int .i64 dp] from Q6.out.below hb7 Q6.out.lt)
  have T7 := Lib.hid (show Blk w7 w1.heap.size 70 #[.pointer none, .slice none 0 0, .map none, .map none] from T6.out.below hb7 T6.out.lt)
  have B7 := Lib.hid (show Below w.heap.size w w7 from B6.out.trans (hb7.mono B6.out.size))
  have s7 : w7.cell? ⟨w.heap.size, 1, none⟩ = some (.bool s6) ∧ w7.cell? ⟨w.heap.size, 2, none⟩ = some (.int .u64 sh) ∧ w7.cell? ⟨w.heap.size, 3, none⟩ = some (.int .u64 sl) ∧ w7.cell? ⟨w.heap.size, 4, none⟩ = some (.bool d6) ∧ w7.cell? ⟨w.heap.size, 5, none⟩ = some (.int .u64 dh) ∧ w7.cell? ⟨w.heap.size, 6, none⟩ = some (.int .u64 dl) := ⟨Q7.out.cell 1, Q7.out.cell 2, Q7.out.cell 3, Q7.out.cell 4, Q7.out.cell 5, Q7.out.cell 6⟩
  clear hb5 hb6 hb7 hw6 hw7 y0 y1 y2 y3 y4 y5 y6 y7 y8
  go_wp2_with fail
  rw [← E6.out]
  refine wp_region_held_drew (S := fun V => V.cell? ⟨w.heap.size, 1, none⟩ = some (.bool s6) ∧ V.cell? ⟨w.heap.size, 2, none⟩ = some (.int .u64 sh) ∧ V.cell? ⟨w.heap.size, 3, none⟩ = some (.int .u64 sl) ∧ V.cell? ⟨w.heap.size, 4, none⟩ = some (.bool d6) ∧ V.cell? ⟨w.heap.size, 5, none⟩ = some (.int .u64 dh) ∧ V.cell? ⟨w.heap.size, 6, none⟩ = some (.int .u64 dl)) (by kernel_rfl) (by rw [← E7.out]; exact s7) (fun hHeld => ?_)
  rw [← E7.out]
  refine wpAnyH_take (i := 0) (v := ?va0) rfl (by kernel_rfl) (by kernel_rfl) (by kernel_rfl) (fun _ _ _ h => h) (Or.inl ⟨by rfl, ?hya0⟩) (by assumption) ?resta0
  case hya0 => (intro V hV; go_simp; try with_reducible rfl)
  try simp only [List.getElem_toArray, List.getElem_cons_zero, Act.put, List.setIfInBounds_toArray, List.set_cons_zero, List.set_cons_succ]
  refine wpAnyH_take (i := 1) (v := ?va1) rfl (by kernel_rfl) (by kernel_rfl) (by kernel_rfl) (fun _ _ _ h => h) (Or.inl ⟨by rfl, ?hya1⟩) (by assumption) ?resta1
  case hya1 => (intro V hV; go_simp; try with_reducible rfl)
  try simp only [List.getElem_toArray, List.getElem_cons_zero, List.getElem_cons_succ, Act.put, List.setIfInBounds_toArray, List.set_cons_zero, List.set_cons_succ]
  refine wpAnyH_take (i := 2) (v := ?va2) rfl (by kernel_rfl) (by kernel_rfl) (by kernel_rfl) (fun _ _ _ h => h) (Or.inl ⟨by rfl, ?hya2⟩) (by assumption) ?resta2
  case hya2 => (intro V hV; go_simp; try with_reducible rfl)
  try simp only [List.getElem_toArray, List.getElem_cons_zero, List.getElem_cons_succ, Act.put, List.setIfInBounds_toArray, List.set_cons_zero, List.set_cons_succ]
  refine wpAnyH_take (i := 3) (v := ?va3) rfl (by kernel_rfl) (by kernel_rfl) (by kernel_rfl) (fun _ _ _ h => h) (Or.inl ⟨by rfl, ?hya3⟩) (by assumption) ?resta3
  case hya3 => (intro V hV; go_simp; try with_reducible rfl)
  try simp only [List.getElem_toArray, List.getElem_cons_zero, List.getElem_cons_succ, Act.put, List.setIfInBounds_toArray, List.set_cons_zero, List.set_cons_succ]
  refine wpAnyH_take (i := 4) (v := ?va4) rfl (by kernel_rfl) (by kernel_rfl) (by kernel_rfl) (fun _ _ _ h => h) (Or.inl ⟨by rfl, ?hya4⟩) (by assumption) ?resta4
  case hya4 => (intro V hV; go_simp; try with_reducible rfl)
  try simp only [List.getElem_toArray, List.getElem_cons_zero, List.getElem_cons_succ, Act.put, List.setIfInBounds_toArray, List.set_cons_zero, List.set_cons_succ]
  refine wpAnyH_take (i := 5) (v := ?va5) rfl (by kernel_rfl) (by kernel_rfl) (by kernel_rfl) (fun _ _ _ h => h) (Or.inl ⟨by rfl, ?hya5⟩) (by assumption) ?resta5
  case hya5 => (intro V hV; go_simp; try with_reducible rfl)
  try simp only [List.getElem_toArray, List.getElem_cons_zero, List.getElem_cons_succ, Act.put, List.setIfInBounds_toArray, List.set_cons_zero, List.set_cons_succ]
  refine wpAnyH_take (i := 6) (v := ?va6) rfl (by kernel_rfl) (by kernel_rfl) (by kernel_rfl) (fun _ _ _ h => h) (Or.inl ⟨by rfl, ?hya6⟩) (by assumption) ?resta6
  case hya6 => (intro V hV; go_simp; try with_reducible rfl)
  try simp only [List.getElem_toArray, List.getElem_cons_zero, List.getElem_cons_succ, Act.put, List.setIfInBounds_toArray, List.set_cons_zero, List.set_cons_succ]
  refine wpAnyH_take (i := 7) (v := ?va7) rfl (by kernel_rfl) (by kernel_rfl) (by kernel_rfl) (fun _ _ _ h => h) (Or.inl ⟨by rfl, ?hya7⟩) (by assumption) ?resta7
  case hya7 => (intro V hV; go_simp; try with_reducible rfl)
  try simp only [List.getElem_toArray, List.getElem_cons_zero, List.getElem_cons_succ, Act.put, List.setIfInBounds_toArray, List.set_cons_zero, List.set_cons_succ]
  refine wpAnyH_take (i := 8) (v := ?va8) rfl (by kernel_rfl) (by kernel_rfl) (by kernel_rfl) (fun _ _ _ h => h) (Or.inl ⟨by rfl, ?hya8⟩) (by assumption) ?resta8
  case hya8 => (intro V hV; go_simp; try with_reducible rfl)
  try simp only [List.getElem_toArray, List.getElem_cons_zero, List.getElem_cons_succ, Act.put, List.setIfInBounds_toArray, List.set_cons_zero, List.set_cons_succ]
  refine wpAnyH_take (i := 9) (v := ?va9) rfl (by kernel_rfl) (by kernel_rfl) (by kernel_rfl) (fun _ _ _ h => h) (Or.inl ⟨by rfl, ?hya9⟩) (by assumption) ?resta9
  case hya9 => (intro V hV; go_simp; try with_reducible rfl)
  try simp only [List.getElem_toArray, List.getElem_cons_zero, List.getElem_cons_succ, Act.put, List.setIfInBounds_toArray, List.set_cons_zero, List.set_cons_succ]
  refine wpAnyH_ready (rs := [10]) (by kernel_rfl) (by simp) ?_
  refine AllReadyH.cons rfl (fun K hK => ?_) AllReadyH.nil
  go_simp
  refine (HO1.out w7).mono ?_
  rintro e w10 ⟨rfl, hb10⟩
  have Q10 := Lib.hid (show Blk w10 w.heap.size 55 #[.int .i64 pr, .bool s6, .int .u64 sh, .int .u64 sl, .bool d6, .int .u64 dh, .int .u64 dl, .int .i64 sp, .int .i64 dp] from Q7.out.below hb10 Q7.out.lt)
  have T10 := Lib.hid (show Blk w10 w1.heap.size 70 #[.pointer none, .slice none 0 0, .map none, .map none] from T7.out.below hb10 T7.out.lt)
  have B10 := Lib.hid (show Below w.heap.size w w10 from B7.out.trans (hb10.mono B7.out.size))
  have s10 : w10.cell? ⟨w.heap.size, 1, none⟩ = some (.bool s6) ∧ w10.cell? ⟨w.heap.size, 2, none⟩ = some (.int .u64 sh) ∧ w10.cell? ⟨w.heap.size, 3, none⟩ = some (.int .u64 sl) ∧ w10.cell? ⟨w.heap.size, 4, none⟩ = some (.bool d6) ∧ w10.cell? ⟨w.heap.size, 5, none⟩ = some (.int .u64 dh) ∧ w10.cell? ⟨w.heap.size, 6, none⟩ = some (.int .u64 dl) := ⟨Q10.out.cell 1, Q10.out.cell 2, Q10.out.cell 3, Q10.out.cell 4, Q10.out.cell 5, Q10.out.cell 6⟩
  clear hb10
  refine hK.out _ _ ?_ (fun hHeld => ?_)
  · exact s10
  clear hK K
  try simp only [List.getElem_toArray, List.getElem_cons_zero, List.getElem_cons_succ, Act.put, List.setIfInBounds_toArray, List.set_cons_zero, List.set_cons_succ]
  refine wpAnyH_take (i := 11) (v := ?va11) rfl (by kernel_rfl) (by kernel_rfl) (by kernel_rfl) (fun _ _ _ h => h) (Or.inl ⟨by rfl, ?hya11⟩) (by assumption) ?resta11
  case hya11 => (intro V hV; go_simp; try with_reducible rfl)
  try simp only [List.getElem_toArray, List.getElem_cons_zero, List.getElem_cons_succ, Act.put, List.setIfInBounds_toArray, List.set_cons_zero, List.set_cons_succ]
  refine wpAnyH_take (i := 12) (v := ?va12) rfl (by kernel_rfl) (by kernel_rfl) (by kernel_rfl) (fun _ _ _ h => h) (Or.inl ⟨by rfl, ?hya12⟩) (by assumption) ?resta12
  case hya12 => (intro V hV; go_simp; try with_reducible rfl)
  try simp only [List.getElem_toArray, List.getElem_cons_zero, List.getElem_cons_succ, Act.put, List.setIfInBounds_toArray, List.set_cons_zero, List.set_cons_succ]
  refine wpAnyH_take (i := 13) (v := ?va13) rfl (by kernel_rfl) (by kernel_rfl) (by kernel_rfl) (fun _ _ _ h => h) (Or.inl ⟨by rfl, ?hya13⟩) (by assumption) ?resta13
  case hya13 => (intro V hV; go_simp; try with_reducible rfl)
  try simp only [List.getElem_toArray, List.getElem_cons_zero, List.getElem_cons_succ, Act.put, List.setIfInBounds_toArray, List.set_cons_zero, List.set_cons_succ]
  refine wpAnyH_take (i := 14) (v := ?va14) rfl (by kernel_rfl) (by kernel_rfl) (by kernel_rfl) (fun _ _ _ h => h) (Or.inl ⟨by rfl, ?hya14⟩) (by assumption) ?resta14
  case hya14 => (intro V hV; go_simp; try with_reducible rfl)
  try simp only [List.getElem_toArray, List.getElem_cons_zero, List.getElem_cons_succ, Act.put, List.setIfInBounds_toArray, List.set_cons_zero, List.set_cons_succ]
  refine wpAnyH_take (i := 15) (v := ?va15) rfl (by kernel_rfl) (by kernel_rfl) (by kernel_rfl) (fun _ _ _ h => h) (Or.inl ⟨by rfl, ?hya15⟩) (by assumption) ?resta15
  case hya15 => (intro V hV; go_simp; try with_reducible rfl)
  try simp only [List.getElem_toArray, List.getElem_cons_zero, List.getElem_cons_succ, Act.put, List.setIfInBounds_toArray, List.set_cons_zero, List.set_cons_succ]
  refine wpAnyH_ready (rs := [16]) (by kernel_rfl) (by simp) ?_
  refine AllReadyH.cons rfl (fun K hK => ?_) AllReadyH.nil
  go_simp
  refine (HO2.out w10 T10.out).mono ?_
  rintro e w16 ⟨rfl, hb16⟩
  have Q16 := Lib.hid (show Blk w16 w.heap.size 55 #[.int .i64 pr, .bool s6, .int .u64 sh, .int .u64 sl, .bool d6, .int .u64 dh, .int .u64 dl, .int .i64 sp, .int .i64 dp] from Q10.out.below hb16 Q10.out.lt)
  have T16 := Lib.hid (show Blk w16 w1.heap.size 70 #[.pointer none, .slice none 0 0, .map none, .map none] from T10.out.below hb16 T10.out.lt)
  have B16 := Lib.hid (show Below w.heap.size w w16 from B10.out.trans (hb16.mono B10.out.size))
  have s16 : w16.cell? ⟨w.heap.size, 1, none⟩ = some (.bool s6) ∧ w16.cell? ⟨w.heap.size, 2, none⟩ = some (.int .u64 sh) ∧ w16.cell? ⟨w.heap.size, 3, none⟩ = some (.int .u64 sl) ∧ w16.cell? ⟨w.heap.size, 4, none⟩ = some (.bool d6) ∧ w16.cell? ⟨w.heap.size, 5, none⟩ = some (.int .u64 dh) ∧ w16.cell? ⟨w.heap.size, 6, none⟩ = some (.int .u64 dl) := ⟨Q16.out.cell 1, Q16.out.cell 2, Q16.out.cell 3, Q16.out.cell 4, Q16.out.cell 5, Q16.out.cell 6⟩
  clear hb16
  refine hK.out _ _ ?_ (fun hHeld => ?_)
  · exact s16
  clear hK K
  try simp only [List.getElem_toArray, List.getElem_cons_zero, List.getElem_cons_succ, Act.put, List.setIfInBounds_toArray, List.set_cons_zero, List.set_cons_succ]
  refine wpAnyH_take (i := 17) (v := ?va17) rfl (by kernel_rfl) (by kernel_rfl) (by kernel_rfl) (fun _ _ _ h => h) (Or.inl ⟨by rfl, ?hya17⟩) (by assumption) ?resta17
  case hya17 => (intro V hV; go_simp; try with_reducible rfl)
  try simp only [List.getElem_toArray, List.getElem_cons_zero, List.getElem_cons_succ, Act.put, List.setIfInBounds_toArray, List.set_cons_zero, List.set_cons_succ]
  refine wpAnyH_take (i := 18) (v := ?va18) rfl (by kernel_rfl) (by kernel_rfl) (by kernel_rfl) (fun _ _ _ h => h) (Or.inl ⟨by rfl, ?hya18⟩) (by assumption) ?resta18
  case hya18 => (intro V hV; go_simp; try with_reducible rfl)
  try simp only [List.getElem_toArray, List.getElem_cons_zero, List.getElem_cons_succ, Act.put, List.setIfInBounds_toArray, List.set_cons_zero, List.set_cons_succ]
  refine wpAnyH_take (i := 19) (v := ?va19) rfl (by kernel_rfl) (by kernel_rfl) (by kernel_rfl) (fun _ _ _ h => h) (Or.inl ⟨by rfl, ?hya19⟩) (by assumption) ?resta19
  case hya19 => (intro V hV; go_simp; try with_reducible rfl)
  try simp only [List.getElem_toArray, List.getElem_cons_zero, List.getElem_cons_succ, Act.put, List.setIfInBounds_toArray, List.set_cons_zero, List.set_cons_succ]
  refine wpAnyH_take (i := 20) (v := ?va20) rfl (by kernel_rfl) (by kernel_rfl) (by kernel_rfl) (fun _ _ _ h => h) (Or.inl ⟨by rfl, ?hya20⟩) (by assumption) ?resta20
  case hya20 => (intro V hV; go_simp; try with_reducible rfl)
  try simp only [List.getElem_toArray, List.getElem_cons_zero, List.getElem_cons_succ, Act.put, List.setIfInBounds_toArray, List.set_cons_zero, List.set_cons_succ]
  refine wpAnyH_take (i := 21) (v := ?va21) rfl (by kernel_rfl) (by kernel_rfl) (by kernel_rfl) (fun _ _ _ h => h) (Or.inl ⟨by rfl, ?hya21⟩) (by assumption) ?resta21
  case hya21 => (intro V hV; go_simp; try with_reducible rfl)
  try simp only [List.getElem_toArray, List.getElem_cons_zero, List.getElem_cons_succ, Act.put, List.setIfInBounds_toArray, List.set_cons_zero, List.set_cons_succ]
  refine wpAnyH_take (i := 22) (v := ?va22) rfl (by kernel_rfl) (by kernel_rfl) (by kernel_rfl) (fun _ _ _ h => h) (Or.inl ⟨by rfl, ?hya22⟩) (by assumption) ?resta22
  case hya22 => (intro V hV; go_simp; try with_reducible rfl)
  try simp only [List.getElem_toArray, List.getElem_cons_zero, List.getElem_cons_succ, Act.put, List.setIfInBounds_toArray, List.set_cons_zero, List.set_cons_succ]
  refine wpAnyH_take (i := 24) (v := ?va24) rfl (by kernel_rfl) (by kernel_rfl) (by kernel_rfl) (fun _ _ _ h => h) (Or.inl ⟨by rfl, ?hya24⟩) (by assumption) ?resta24
  case hya24 => (intro V hV; go_simp; try with_reducible rfl)
  try simp only [List.getElem_toArray, List.getElem_cons_zero, List.getElem_cons_succ, Act.put, List.setIfInBounds_toArray, List.set_cons_zero, List.set_cons_succ]
  refine wpAnyH_take (i := 25) (v := ?va25) rfl (by kernel_rfl) (by kernel_rfl) (by kernel_rfl) (fun _ _ _ h => h) (Or.inl ⟨by rfl, ?hya25⟩) (by assumption) ?resta25
  case hya25 => (intro V hV; go_simp; try with_reducible rfl)
  try simp only [List.getElem_toArray, List.getElem_cons_zero, List.getElem_cons_succ, Act.put, List.setIfInBounds_toArray, List.set_cons_zero, List.set_cons_succ]
  refine wpAnyH_ready (rs := [23]) (by kernel_rfl) (by simp) ?_
  refine AllReadyH.cons rfl (fun K hK => ?_) AllReadyH.nil
  go_simp
  refine (HF1.out w16).mono ?_
  rintro e w23 ⟨rfl, hb23⟩
  have Q23 := Lib.hid (show Blk w23 w.heap.size 55 #[.int .i64 pr, .bool s6, .int .u64 sh, .int .u64 sl, .bool d6, .int .u64 dh, .int .u64 dl, .int .i64 sp, .int .i64 dp] from Q16.out.below hb23 Q16.out.lt)
  have T23 := Lib.hid (show Blk w23 w1.heap.size 70 #[.pointer none, .slice none 0 0, .map none, .map none] from T16.out.below hb23 T16.out.lt)
  have B23 := Lib.hid (show Below w.heap.size w w23 from B16.out.trans (hb23.mono B16.out.size))
  have s23 : w23.cell? ⟨w.heap.size, 1, none⟩ = some (.bool s6) ∧ w23.cell? ⟨w.heap.size, 2, none⟩ = some (.int .u64 sh) ∧ w23.cell? ⟨w.heap.size, 3, none⟩ = some (.int .u64 sl) ∧ w23.cell? ⟨w.heap.size, 4, none⟩ = some (.bool d6) ∧ w23.cell? ⟨w.heap.size, 5, none⟩ = some (.int .u64 dh) ∧ w23.cell? ⟨w.heap.size, 6, none⟩ = some (.int .u64 dl) := ⟨Q23.out.cell 1, Q23.out.cell 2, Q23.out.cell 3, Q23.out.cell 4, Q23.out.cell 5, Q23.out.cell 6⟩
  clear hb23
  refine hK.out _ _ ?_ (fun hHeld => ?_)
  · exact s23
  clear hK K
  try simp only [List.getElem_toArray, List.getElem_cons_zero, List.getElem_cons_succ, Act.put, List.setIfInBounds_toArray, List.set_cons_zero, List.set_cons_succ]
  refine wpAnyH_ready (rs := [26]) (by kernel_rfl) (by simp) ?_
  refine AllReadyH.cons rfl (fun K hK => ?_) AllReadyH.nil
  go_simp
  refine (HF2.out w23 T23.out).mono ?_
  rintro e w26 ⟨rfl, hb26⟩
  have Q26 := Lib.hid (show Blk w26 w.heap.size 55 #[.int .i64 pr, .bool s6, .int .u64 sh, .int .u64 sl, .bool d6, .int .u64 dh, .int .u64 dl, .int .i64 sp, .int .i64 dp] from Q23.out.below hb26 Q23.out.lt)
  have T26 := Lib.hid (show Blk w26 w1.heap.size 70 #[.pointer none, .slice none 0 0, .map none, .map none] from T23.out.below hb26 T23.out.lt)
  have B26 := Lib.hid (show Below w.heap.size w w26 from B23.out.trans (hb26.mono B23.out.size))
  have s26 : w26.cell? ⟨w.heap.size, 1, none⟩ = some (.bool s6) ∧ w26.cell? ⟨w.heap.size, 2, none⟩ = some (.int .u64 sh) ∧ w26.cell? ⟨w.heap.size, 3, none⟩ = some (.int .u64 sl) ∧ w26.cell? ⟨w.heap.size, 4, none⟩ = some (.bool d6) ∧ w26.cell? ⟨w.heap.size, 5, none⟩ = some (.int .u64 dh) ∧ w26.cell? ⟨w.heap.size, 6, none⟩ = some (.int .u64 dl) := ⟨Q26.out.cell 1, Q26.out.cell 2, Q26.out.cell 3, Q26.out.cell 4, Q26.out.cell 5, Q26.out.cell 6⟩
  clear hb26
  refine hK.out _ _ ?_ (fun hHeld => ?_)
  · exact s26
  clear hK K
  try simp only [List.getElem_toArray, List.getElem_cons_zero, List.getElem_cons_succ, Act.put, List.setIfInBounds_toArray, List.set_cons_zero, List.set_cons_succ]
  refine wpAnyH_take (i := 27) (v := ?va27) rfl (by kernel_rfl) (by kernel_rfl) (by kernel_rfl) (fun _ _ _ h => h) (Or.inl ⟨by rfl, ?hya27⟩) (by assumption) ?resta27
  case hya27 => (intro V hV; go_simp; try with_reducible rfl)
  try simp only [List.getElem_toArray, List.getElem_cons_zero, List.getElem_cons_succ, Act.put, List.setIfInBounds_toArray, List.set_cons_zero, List.set_cons_succ]
  refine wpAnyH_take (i := 28) (v := ?va28) rfl (by kernel_rfl) (by kernel_rfl) (by kernel_rfl) (fun _ _ _ h => h) (Or.inl ⟨by rfl, ?hya28⟩) (by assumption) ?resta28
  case hya28 => (intro V hV; go_simp; try with_reducible rfl)
  try simp only [List.getElem_toArray, List.getElem_cons_zero, List.getElem_cons_succ, Act.put, List.setIfInBounds_toArray, List.set_cons_zero, List.set_cons_succ]
  refine wpAnyH_take (i := 29) (v := ?va29) rfl (by kernel_rfl) (by kernel_rfl) (by kernel_rfl) (fun _ _ _ h => h) (Or.inl ⟨by rfl, ?hya29⟩) (by assumption) ?resta29
  case hya29 => (intro V hV; go_simp; try with_reducible rfl)
  try simp only [List.getElem_toArray, List.getElem_cons_zero, List.getElem_cons_succ, Act.put, List.setIfInBounds_toArray, List.set_cons_zero, List.set_cons_succ]
  refine wpAnyH_take (i := 30) (v := ?va30) rfl (by kernel_rfl) (by kernel_rfl) (by kernel_rfl) (fun _ _ _ h => h) (Or.inl ⟨by rfl, ?hya30⟩) (by assumption) ?resta30
  case hya30 => (intro V hV; go_simp; try with_reducible rfl)
  try simp only [List.getElem_toArray, List.getElem_cons_zero, List.getElem_cons_succ, Act.put, List.setIfInBounds_toArray, List.set_cons_zero, List.set_cons_succ]
  refine wpAnyH_take (i := 31) (v := ?va31) rfl (by kernel_rfl) (by kernel_rfl) (by kernel_rfl) (fun _ _ _ h => h) (Or.inl ⟨by rfl, ?hya31⟩) (by assumption) ?resta31
  case hya31 => (intro V hV; go_simp; try with_reducible rfl)
  try simp only [List.getElem_toArray, List.getElem_cons_zero, List.getElem_cons_succ, Act.put, List.setIfInBounds_toArray, List.set_cons_zero, List.set_cons_succ]
  refine wpAnyH_ready (rs := [32]) (by kernel_rfl) (by simp) ?_
  refine AllReadyH.cons rfl (fun K hK => ?_) AllReadyH.nil
  go_simp
  refine (HL1.out w26).mono ?_
  rintro e w32 ⟨rfl, rfl⟩
  refine hK.out _ _ ?_ (fun hHeld => ?_)
  · exact s26
  clear hK K
  try simp only [List.getElem_toArray, List.getElem_cons_zero, List.getElem_cons_succ, Act.put, List.setIfInBounds_toArray, List.set_cons_zero, List.set_cons_succ]
  refine wpAnyH_take (i := 33) (v := ?va33) rfl (by kernel_rfl) (by kernel_rfl) (by kernel_rfl) (fun _ _ _ h => h) (Or.inl ⟨by rfl, ?hya33⟩) (by assumption) ?resta33
  case hya33 => (intro V hV; go_simp; try with_reducible rfl)
  try simp only [List.getElem_toArray, List.getElem_cons_zero, List.getElem_cons_succ, Act.put, List.setIfInBounds_toArray, List.set_cons_zero, List.set_cons_succ]
  refine wpAnyH_ready (rs := [34]) (by kernel_rfl) (by simp) ?_
  refine AllReadyH.cons rfl (fun K hK => ?_) AllReadyH.nil
  go_simp
  refine (HL2.out w26 T26.out).mono ?_
  rintro e w34 ⟨rfl, rfl⟩
  refine hK.out _ _ ?_ (fun hHeld => ?_)
  · exact s26
  clear hK K
  try simp only [List.getElem_toArray, List.getElem_cons_zero, List.getElem_cons_succ, Act.put, List.setIfInBounds_toArray, List.set_cons_zero, List.set_cons_succ]
  refine wpAnyH_take (i := 35) (v := ?va35) rfl (by kernel_rfl) (by kernel_rfl) (by kernel_rfl) (fun _ _ _ h => h) (Or.inl ⟨by rfl, ?hya35⟩) (by assumption) ?resta35
  case hya35 => (intro V hV; go_simp; try with_reducible rfl)
  try simp only [List.getElem_toArray, List.getElem_cons_zero, List.getElem_cons_succ, Act.put, List.setIfInBounds_toArray, List.set_cons_zero, List.set_cons_succ]
  refine wpAnyH_take (i := 36) (v := ?va36) rfl (by kernel_rfl) (by kernel_rfl) (by kernel_rfl) (fun _ _ _ h => h) (Or.inl ⟨by rfl, ?hya36⟩) (by assumption) ?resta36
  case hya36 => (intro V hV; go_simp; try with_reducible rfl)
  try simp only [List.getElem_toArray, List.getElem_cons_zero, List.getElem_cons_succ, Act.put, List.setIfInBounds_toArray, List.set_cons_zero, List.set_cons_succ]
  refine wpAnyH_take (i := 37) (v := ?va37) rfl (by kernel_rfl) (by kernel_rfl) (by kernel_rfl) (fun _ _ _ h => h) (Or.inl ⟨by rfl, ?hya37⟩) (by assumption) ?resta37
  case hya37 => (intro V hV; go_simp; try with_reducible rfl)
  try simp only [List.getElem_toArray, List.getElem_cons_zero, List.getElem_cons_succ, Act.put, List.setIfInBounds_toArray, List.set_cons_zero, List.set_cons_succ]
  refine wpAnyH_take (i := 38) (v := ?va38) rfl (by kernel_rfl) (by kernel_rfl) (by kernel_rfl) (fun _ _ _ h => h) (Or.inl ⟨by rfl, ?hya38⟩) (by assumption) ?resta38
  case hya38 => (intro V hV; go_simp; try with_reducible rfl)
  try simp only [List.getElem_toArray, List.getElem_cons_zero, List.getElem_cons_succ, Act.put, List.setIfInBounds_toArray, List.set_cons_zero, List.set_cons_succ]
  refine wpAnyH_take (i := 39) (v := ?va39) rfl (by kernel_rfl) (by kernel_rfl) (by kernel_rfl) (fun _ _ _ h => h) (Or.inl ⟨by rfl, ?hya39⟩) (by assumption) ?resta39
  case hya39 => (intro V hV; go_simp; try with_reducible rfl)
  try simp only [List.getElem_toArray, List.getElem_cons_zero, List.getElem_cons_succ, Act.put, List.setIfInBounds_toArray, List.set_cons_zero, List.set_cons_succ]
  refine wpAnyH_ready (rs := [40]) (by kernel_rfl) (by simp) ?_
  refine AllReadyH.cons rfl (fun K hK => ?_) AllReadyH.nil
  go_simp
  refine (HAW.out w26).mono ?_
  rintro e w40 ⟨rfl, hb40⟩
  have Q40 := Lib.hid (show Blk w40 w.heap.size 55 #[.int .i64 pr, .bool s6, .int .u64 sh, .int .u64 sl, .bool d6, .int .u64 dh, .int .u64 dl, .int .i64 sp, .int .i64 dp] from Q26.out.below hb40 Q26.out.lt)
  have T40 := Lib.hid (show Blk w40 w1.heap.size 70 #[.pointer none, .slice none 0 0, .map none, .map none] from T26.out.below hb40 T26.out.lt)
  have B40 := Lib.hid (show Below w.heap.size w w40 from B26.out.trans (hb40.mono B26.out.size))
  have s40 : w40.cell? ⟨w.heap.size, 1, none⟩ = some (.bool s6) ∧ w40.cell? ⟨w.heap.size, 2, none⟩ = some (.int .u64 sh) ∧ w40.cell? ⟨w.heap.size, 3, none⟩ = some (.int .u64 sl) ∧ w40.cell? ⟨w.heap.size, 4, none⟩ = some (.bool d6) ∧ w40.cell? ⟨w.heap.size, 5, none⟩ = some (.int .u64 dh) ∧ w40.cell? ⟨w.heap.size, 6, none⟩ = some (.int .u64 dl) := ⟨Q40.out.cell 1, Q40.out.cell 2, Q40.out.cell 3, Q40.out.cell 4, Q40.out.cell 5, Q40.out.cell 6⟩
  clear hb40
  refine hK.out _ _ ?_ (fun hHeld => ?_)
  · exact s40
  clear hK K
  try simp only [List.getElem_toArray, List.getElem_cons_zero, List.getElem_cons_succ, Act.put, List.setIfInBounds_toArray, List.set_cons_zero, List.set_cons_succ]
  refine wpAnyH_take (i := 41) (v := ?va41) rfl (by kernel_rfl) (by kernel_rfl) (by kernel_rfl) (fun _ _ _ h => h) (Or.inl ⟨by rfl, ?hya41⟩) (by assumption) ?resta41
  case hya41 => (intro V hV; go_simp; try with_reducible rfl)
  try simp only [List.getElem_toArray, List.getElem_cons_zero, List.getElem_cons_succ, Act.put, List.setIfInBounds_toArray, List.set_cons_zero, List.set_cons_succ]
  refine wpAnyH_take (i := 42) (v := ?va42) rfl (by kernel_rfl) (by kernel_rfl) (by kernel_rfl) (fun _ _ _ h => h) (Or.inl ⟨by rfl, ?hya42⟩) (by assumption) ?resta42
  case hya42 => (intro V hV; go_simp; try with_reducible rfl)
  try simp only [List.getElem_toArray, List.getElem_cons_zero, List.getElem_cons_succ, Act.put, List.setIfInBounds_toArray, List.set_cons_zero, List.set_cons_succ]
  refine wpAnyH_done (by kernel_rfl) ?_ _
  go_wp2_with fail
  go_ret
  exact ⟨rfl, B40.out⟩
end Go.Proofs.Ytamndmlaikgogaa.vpL
