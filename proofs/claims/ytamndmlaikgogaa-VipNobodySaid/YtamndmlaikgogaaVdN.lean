/- Layer 19: chapter 19's example. -/
import Derived.Test.YtamndmlaikgogaaVdM
namespace Go.Proofs.Ytamndmlaikgogaa.vdN
open Go.ChangeShapes Go.WideShapes Go.ChangeAt Go.RowKit
open Go.Proofs.Ytamndmlaikgogaa.base Go.Proofs.Ytamndmlaikgogaa.dfA Go.Proofs.Ytamndmlaikgogaa.treB Go.Proofs.Ytamndmlaikgogaa.treD Go.Proofs.Ytamndmlaikgogaa.treE Go.Proofs.Ytamndmlaikgogaa.treF Go.Proofs.Ytamndmlaikgogaa.treI Go.Proofs.Ytamndmlaikgogaa.treM Go.Proofs.Ytamndmlaikgogaa.vdD Go.Proofs.Ytamndmlaikgogaa.vdA Go.Proofs.Ytamndmlaikgogaa.vdE Go.Proofs.Ytamndmlaikgogaa.vdF Go.Proofs.Ytamndmlaikgogaa.vdG Go.Proofs.Ytamndmlaikgogaa.vdH Go.Proofs.Ytamndmlaikgogaa.vdJ
set_option linter.unusedVariables false

def ex0 : Nd := ⟨⟨#[108]⟩, 1, -1, 0, false, 0, 0⟩
def ex1 : Nd := ⟨⟨#[122]⟩, 2, 0, 0, false, 0, 0⟩
def ex2 : Nd := ⟨⟨#[114]⟩, 3, 1, 0, false, 0, 0⟩
def ex3 : Nd := ⟨⟨#[104]⟩, 4, 2, 1, false, 0, 0⟩
def exC (g : Nat) (al : Int) : Cf := ⟨some ⟨g, 0, none⟩, 4, [ex0, ex1, ex2, ex3], none, 0, [], none, 0, [], 140, 2, false, 0, al, false, 0, 0⟩
theorem ex_lack (g : Nat) : confE (exC g 0) = 7 := by kernel_rfl
theorem ex_good (g : Nat) : confE (exC g 9) = 0 := by kernel_rfl
theorem ex_in {W : World} {g : Nat} (al : Int) (h : Blk W g 44 #[.string ⟨#[108]⟩, .int .i64 1, .int .i64 (-1), .int .i64 0, .bool false, .int .u64 0, .int .u64 0, .string ⟨#[122]⟩, .int .i64 2, .int .i64 0, .int .i64 0, .bool false, .int .u64 0, .int .u64 0, .string ⟨#[114]⟩, .int .i64 3, .int .i64 1, .int .i64 0, .bool false, .int .u64 0, .int .u64 0, .string ⟨#[104]⟩, .int .i64 4, .int .i64 2, .int .i64 1, .bool false, .int .u64 0, .int .u64 0]) : CfIn W (exC g al) where
  rn := .inr ⟨g, 0, rfl, h.lt, fun j hj i hi => by
    have hj3 : j < 4 := hj
    rw [h.cell]
    have hc : (j = 0 ∨ j = 1 ∨ j = 2 ∨ j = 3) ∧ (i = 0 ∨ i = 1 ∨ i = 2 ∨ i = 3 ∨ i = 4 ∨ i = 5 ∨ i = 6) := by omega
    rcases hc with ⟨rfl | rfl | rfl | rfl, rfl | rfl | rfl | rfl | rfl | rfl | rfl⟩ <;> rfl⟩
  cn := (show 4 ≤ 4 by omega)
  cn2 := (show 4 ≤ 9223372036854775807 by omega)
  n1 := (show 4 ≤ 60 by omega)
  nm := fun j hj => by
    have hj3 : j < 4 := hj
    have hc : j = 0 ∨ j = 1 ∨ j = 2 ∨ j = 3 := by omega
    rcases hc with rfl | rfl | rfl | rfl <;> exact (show (1 : Nat) ≤ 9223372036854775807 by omega)
  rv := .inl rfl
  cv := Nat.le_refl _
  cv2 := (show 0 ≤ 9223372036854775807 by omega)
  v1 := (show 0 ≤ 1000 by omega)
  rw_ := .inl rfl
  cw := Nat.le_refl _
  cw2 := (show 0 ≤ 9223372036854775807 by omega)
  w1 := (show 0 ≤ 1000 by omega)
  vu := fun j hj => absurd hj (by show ¬ j < 0; omega)
theorem v4_9 (w : World) : Calls Try.prog 35 #[.int .u32 9] w fun e w' => e = .returned (.agg #[.bool false, .int .u64 0, .int .u64 9]) ∧ Below w.heap.size w w' := by
  obtain ⟨w1, hw1⟩ : ∃ w1, w1 = w.alloc (.cells #[.bool false, .int .u64 0, .int .u64 0] 27) := ⟨_, rfl⟩
  have E1 := Lib.hid hw1
  have HB := Lib.hid (show Blk w1 w.heap.size 27 #[.bool false, .int .u64 0, .int .u64 0] from hw1 ▸ Blk.new w _ _)
  have HW := Lib.hid (show Below w.heap.size w w1 from hw1 ▸ (Below.refl w.heap.size w).alloc (Nat.le_refl _) _)
  have HR := Lib.hid (setRow_heap _ w.heap.size _ #[.bool false, .int .u64 0, .int .u64 9] _ (0, 0) HB.out)
  have BZ := Lib.hid (below_row HW.out (Nat.le_refl w.heap.size) #[.bool false, .int .u64 0, .int .u64 9])
  clear hw1
  go_enter Try.func35, Try.ntmps35
  go_upto_region 1 with fail
  rw [← E1.out]
  go_wp2_with (refine wpList_store_row rfl 27 _ _ rfl w.heap.size #[.bool false, .int .u64 0, .int .u64 9] rfl rfl 27 #[.bool false, .int .u64 0, .int .u64 0] HB.out Go.Proofs.Ytamndmlaikgogaa.vdC.size_a rfl (Go.Proofs.Ytamndmlaikgogaa.vdC.one_a _ _ _) ?_)
  refine bodyPost_ret (Go.Proofs.Ytamndmlaikgogaa.vdC.results_ad rfl _ _ w.heap.size false 0 9 rfl HR.out) rfl ⟨rfl, BZ.out⟩
theorem len_ok {w : World} {T : Nat} {l : List Nd} (h : TreeOk w T l) : Calls Try.prog 14 #[.pointer (some ⟨T, 0, none⟩)] w fun e w' => e = .returned (.int .i64 l.length) ∧ Below w.heap.size w w' := by
  obtain ⟨A, c, K, kc, ht⟩ := h.at_
  exact len_any ht
set_option maxHeartbeats 8000000 in
set_option maxRecDepth 100000 in
theorem awake_any (w : World) : Calls Try.prog 12 #[] w fun o w' => o = .returned (.bool true) ∧ Below w.heap.size w w' := by
  obtain ⟨w1, hw1⟩ : ∃ w1, w1 = w.alloc (.cells #[.string ⟨#[108]⟩, .int .i64 1, .int .i64 (-1), .int .i64 0, .bool false, .int .u64 0, .int .u64 0, .string ⟨#[122]⟩, .int .i64 2, .int .i64 0, .int .i64 0, .bool false, .int .u64 0, .int .u64 0, .string ⟨#[114]⟩, .int .i64 3, .int .i64 1, .int .i64 0, .bool false, .int .u64 0, .int .u64 0, .string ⟨#[104]⟩, .int .i64 4, .int .i64 2, .int .i64 1, .bool false, .int .u64 0, .int .u64 0] 44) := ⟨_, rfl⟩
  have E1 := Lib.hid hw1
  have K1 := Lib.hid (show Blk w1 w.heap.size 44 #[.string ⟨#[108]⟩, .int .i64 1, .int .i64 (-1), .int .i64 0, .bool false, .int .u64 0, .int .u64 0, .string ⟨#[122]⟩, .int .i64 2, .int .i64 0, .int .i64 0, .bool false, .int .u64 0, .int .u64 0, .string ⟨#[114]⟩, .int .i64 3, .int .i64 1, .int .i64 0, .bool false, .int .u64 0, .int .u64 0, .string ⟨#[104]⟩, .int .i64 4, .int .i64 2, .int .i64 1, .bool false, .int .u64 0, .int .u64 0] from hw1 ▸ Blk.new w _ _)
  have B1 := Lib.hid (show Below w.heap.size w w1 from hw1 ▸ (Below.refl _ _).alloc (Nat.le_refl _) _)
  obtain ⟨w2, hw2⟩ : ∃ w2, w2 = w1.alloc (.cells #[.slice (some ⟨w.heap.size, 0, none⟩) 4 4, .slice none 0 0, .slice none 0 0, .int .i64 140, .int .i64 2, .bool false, .int .u64 0, .int .u64 0, .bool false, .int .u64 0, .int .u64 0] 30) := ⟨_, rfl⟩
  have E2 := Lib.hid hw2
  obtain ⟨g, hg⟩ : ∃ g, g = w1.heap.size := ⟨_, rfl⟩
  have EG := Lib.hid hg
  have K2 := Lib.hid (show Blk w2 g 30 #[.slice (some ⟨w.heap.size, 0, none⟩) 4 4, .slice none 0 0, .slice none 0 0, .int .i64 140, .int .i64 2, .bool false, .int .u64 0, .int .u64 0, .bool false, .int .u64 0, .int .u64 0] from by rw [hw2, hg]; exact Blk.new w1 _ _)
  have B2 := Lib.hid (show Below w1.heap.size w1 w2 from hw2 ▸ (Below.refl _ _).alloc (Nat.le_refl _) _)
  have N2 := Lib.hid (show Blk w2 w.heap.size 44 #[.string ⟨#[108]⟩, .int .i64 1, .int .i64 (-1), .int .i64 0, .bool false, .int .u64 0, .int .u64 0, .string ⟨#[122]⟩, .int .i64 2, .int .i64 0, .int .i64 0, .bool false, .int .u64 0, .int .u64 0, .string ⟨#[114]⟩, .int .i64 3, .int .i64 1, .int .i64 0, .bool false, .int .u64 0, .int .u64 0, .string ⟨#[104]⟩, .int .i64 4, .int .i64 2, .int .i64 1, .bool false, .int .u64 0, .int .u64 0] from K1.out.below B2.out K1.out.lt)
  have HC1 := Lib.hid (show Calls Try.prog 10 #[.agg #[.slice (some ⟨w.heap.size, 0, none⟩) 4 4, .slice none 0 0, .slice none 0 0, .int .i64 140, .int .i64 2, .bool false, .int .u64 0, .int .u64 0, .bool false, .int .u64 0, .int .u64 0]] w2 (fun o w' => NewC (exC w.heap.size 0) w2 o w' ∧ Below w2.heap.size w2 w') from new_c (exC w.heap.size 0) w2 (ex_in 0 N2.out))
  clear hw1 hw2 hg
  go_enter Try.func12, Try.ntmps12
  go_upto_region 2 with fail
  rw [← E1.out]
  go_upto_region 3 with fail
  rw [← E2.out, ← EG.out]
  have d0 : w2.cell? ⟨g, 0, none⟩ = some (.slice (some ⟨w.heap.size, 0, none⟩) 4 4) := K2.out.cell 0
  have d1 : w2.cell? ⟨g, 1, none⟩ = some (.slice none 0 0) := K2.out.cell 1
  have d2 : w2.cell? ⟨g, 2, none⟩ = some (.slice none 0 0) := K2.out.cell 2
  have d3 : w2.cell? ⟨g, 3, none⟩ = some (.int .i64 140) := K2.out.cell 3
  have d4 : w2.cell? ⟨g, 4, none⟩ = some (.int .i64 2) := K2.out.cell 4
  have d5 : w2.cell? ⟨g, 5, none⟩ = some (.bool false) := K2.out.cell 5
  have d6 : w2.cell? ⟨g, 6, none⟩ = some (.int .u64 0) := K2.out.cell 6
  have d7 : w2.cell? ⟨g, 7, none⟩ = some (.int .u64 0) := K2.out.cell 7
  have d8 : w2.cell? ⟨g, 8, none⟩ = some (.bool false) := K2.out.cell 8
  have d9 : w2.cell? ⟨g, 9, none⟩ = some (.int .u64 0) := K2.out.cell 9
  have d10 : w2.cell? ⟨g, 10, none⟩ = some (.int .u64 0) := K2.out.cell 10
  go_wp2_with fail
  refine HC1.out.mono ?_
  rintro o w3 ⟨hn, hb3⟩
  have hq := ex_lack w.heap.size
  rcases hn with ⟨_, rfl⟩ | ⟨h0, _⟩
  case inr => rw [hq] at h0; cases h0
  rw [hq]
  have B3 := Lib.hid (B1.out.trans ((B2.out.trans (hb3.mono B2.out.size)).mono B1.out.size))
  have K3 := Lib.hid (show Blk w3 g 30 #[.slice (some ⟨w.heap.size, 0, none⟩) 4 4, .slice none 0 0, .slice none 0 0, .int .i64 140, .int .i64 2, .bool false, .int .u64 0, .int .u64 0, .bool false, .int .u64 0, .int .u64 0] from K2.out.below hb3 K2.out.lt)
  have N3 := Lib.hid (show Blk w3 w.heap.size 44 #[.string ⟨#[108]⟩, .int .i64 1, .int .i64 (-1), .int .i64 0, .bool false, .int .u64 0, .int .u64 0, .string ⟨#[122]⟩, .int .i64 2, .int .i64 0, .int .i64 0, .bool false, .int .u64 0, .int .u64 0, .string ⟨#[114]⟩, .int .i64 3, .int .i64 1, .int .i64 0, .bool false, .int .u64 0, .int .u64 0, .string ⟨#[104]⟩, .int .i64 4, .int .i64 2, .int .i64 1, .bool false, .int .u64 0, .int .u64 0] from N2.out.below hb3 N2.out.lt)
  have HV := Lib.hid (v4_9 w3)
  clear hq hb3 d0 d1 d2 d3 d4 d5 d6 d7 d8 d9 d10
  go_wp2_with fail
  refine HV.out.mono ?_
  rintro o w4 ⟨rfl, hb4⟩
  have B4 := Lib.hid (B3.out.trans (hb4.mono B3.out.size))
  have K4 := Lib.hid (show Blk w4 g 30 #[.slice (some ⟨w.heap.size, 0, none⟩) 4 4, .slice none 0 0, .slice none 0 0, .int .i64 140, .int .i64 2, .bool false, .int .u64 0, .int .u64 0, .bool false, .int .u64 0, .int .u64 0] from K3.out.below hb4 K3.out.lt)
  have N4' := Lib.hid (show Blk w4 w.heap.size 44 #[.string ⟨#[108]⟩, .int .i64 1, .int .i64 (-1), .int .i64 0, .bool false, .int .u64 0, .int .u64 0, .string ⟨#[122]⟩, .int .i64 2, .int .i64 0, .int .i64 0, .bool false, .int .u64 0, .int .u64 0, .string ⟨#[114]⟩, .int .i64 3, .int .i64 1, .int .i64 0, .bool false, .int .u64 0, .int .u64 0, .string ⟨#[104]⟩, .int .i64 4, .int .i64 2, .int .i64 1, .bool false, .int .u64 0, .int .u64 0] from N3.out.below hb4 N3.out.lt)
  have a5 : w4.cell? ⟨g, 5, none⟩ = some (.bool false) := K4.out.cell 5
  have a6 : w4.cell? ⟨g, 6, none⟩ = some (.int .u64 0) := K4.out.cell 6
  have a7 : w4.cell? ⟨g, 7, none⟩ = some (.int .u64 0) := K4.out.cell 7
  have f5 : w4.frozen? ⟨g, 5, none⟩ = false := K4.out.frozen 5
  have f6 : w4.frozen? ⟨g, 6, none⟩ = false := K4.out.frozen 6
  have f7 : w4.frozen? ⟨g, 7, none⟩ = false := K4.out.frozen 7
  obtain ⟨w5, hw5⟩ : ∃ w5, w5 = ((w4.setCell ⟨g, 5, none⟩ (.bool false)).setCell ⟨g, 6, none⟩ (.int .u64 0)).setCell ⟨g, 7, none⟩ (.int .u64 9) := ⟨_, rfl⟩
  have E5 := Lib.hid hw5
  have K5 := Lib.hid (show Blk w5 g 30 #[.slice (some ⟨w.heap.size, 0, none⟩) 4 4, .slice none 0 0, .slice none 0 0, .int .i64 140, .int .i64 2, .bool false, .int .u64 0, .int .u64 9, .bool false, .int .u64 0, .int .u64 0] from hw5 ▸ ((K4.out.set_ 5 _).set_ 6 _).set_ 7 _)
  have hgw : w.heap.size ≤ g := by have := EG.out; have := B1.out.size; omega
  have hne : w.heap.size ≠ g := by have := EG.out; have := K1.out.lt; omega
  have N5 := Lib.hid (show Blk w5 w.heap.size 44 #[.string ⟨#[108]⟩, .int .i64 1, .int .i64 (-1), .int .i64 0, .bool false, .int .u64 0, .int .u64 0, .string ⟨#[122]⟩, .int .i64 2, .int .i64 0, .int .i64 0, .bool false, .int .u64 0, .int .u64 0, .string ⟨#[114]⟩, .int .i64 3, .int .i64 1, .int .i64 0, .bool false, .int .u64 0, .int .u64 0, .string ⟨#[104]⟩, .int .i64 4, .int .i64 2, .int .i64 1, .bool false, .int .u64 0, .int .u64 0] from hw5 ▸ ((N4'.out.far hne _).far hne _).far hne _)
  have B5 := Lib.hid (show Below w.heap.size w w5 from hw5 ▸ (((B4.out.setCell hgw _).setCell hgw _).setCell hgw _))
  have HC2 := Lib.hid (show Calls Try.prog 10 #[.agg #[.slice (some ⟨w.heap.size, 0, none⟩) 4 4, .slice none 0 0, .slice none 0 0, .int .i64 140, .int .i64 2, .bool false, .int .u64 0, .int .u64 9, .bool false, .int .u64 0, .int .u64 0]] w5 (fun o w' => NewC (exC w.heap.size 9) w5 o w' ∧ Below w5.heap.size w5 w') from new_c (exC w.heap.size 9) w5 (ex_in 9 N5.out))
  clear hw5 hb4 hgw hne
  go_upto_region 5 with fail
  rw [← E5.out]
  have d0 : w5.cell? ⟨g, 0, none⟩ = some (.slice (some ⟨w.heap.size, 0, none⟩) 4 4) := K5.out.cell 0
  have d1 : w5.cell? ⟨g, 1, none⟩ = some (.slice none 0 0) := K5.out.cell 1
  have d2 : w5.cell? ⟨g, 2, none⟩ = some (.slice none 0 0) := K5.out.cell 2
  have d3 : w5.cell? ⟨g, 3, none⟩ = some (.int .i64 140) := K5.out.cell 3
  have d4 : w5.cell? ⟨g, 4, none⟩ = some (.int .i64 2) := K5.out.cell 4
  have d5 : w5.cell? ⟨g, 5, none⟩ = some (.bool false) := K5.out.cell 5
  have d6 : w5.cell? ⟨g, 6, none⟩ = some (.int .u64 0) := K5.out.cell 6
  have d7 : w5.cell? ⟨g, 7, none⟩ = some (.int .u64 9) := K5.out.cell 7
  have d8 : w5.cell? ⟨g, 8, none⟩ = some (.bool false) := K5.out.cell 8
  have d9 : w5.cell? ⟨g, 9, none⟩ = some (.int .u64 0) := K5.out.cell 9
  have d10 : w5.cell? ⟨g, 10, none⟩ = some (.int .u64 0) := K5.out.cell 10
  go_wp2_with fail
  refine HC2.out.mono ?_
  rintro o w6 ⟨hn, hb6⟩
  have hq := ex_good w.heap.size
  rcases hn with ⟨h0, _⟩ | ⟨_, g2, T, d, rfl, hok, hsm, _, _⟩
  case inl => exact absurd hq h0
  have B6 := Lib.hid (B5.out.trans (hb6.mono B5.out.size))
  have hfac : d.fac = 140 := hsm.fac
  have x11 : w6.cell? ⟨g2, 11, none⟩ = some (.pointer (some ⟨T, 0, none⟩)) := hok.blk.cell 11
  have OK := Lib.hid hok
  have HFA := Lib.hid hfac
  have HL := Lib.hid (show Calls Try.prog 14 #[.pointer (some ⟨T, 0, none⟩)] w6 fun e w' => e = .returned (.int .i64 4) ∧ Below w6.heap.size w6 w' from by
    have h := len_ok hok.ok
    rw [hsm.nds] at h
    exact h)
  clear hq hb6 hok hsm hfac d0 d1 d2 d3 d4 d5 d6 d7 d8 d9 d10
  go_wp2_with fail
  refine HL.out.mono ?_
  rintro o w7 ⟨rfl, hb7⟩
  have B7 := Lib.hid (B6.out.trans (hb7.mono B6.out.size))
  have x3 : w7.cell? ⟨g2, 3, none⟩ = some (.int .i64 140) := by have h := (OK.out.below hb7).blk.cell 3; rw [h]; show some (Value.int .i64 d.fac) = _; rw [HFA.out]
  clear hb7
  go_wp2_with fail
  go_ret
  exact ⟨rfl, B7.out⟩
end Go.Proofs.Ytamndmlaikgogaa.vdN
