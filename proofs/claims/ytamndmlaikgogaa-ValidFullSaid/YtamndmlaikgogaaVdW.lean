/- Layer 19: the law ValidFull. -/
import Derived.Test.YtamndmlaikgogaaVdV
namespace Go.Proofs.Ytamndmlaikgogaa.vdW
open Go.ChangeShapes Go.WideShapes Go.ChangeAt Go.RowKit
open Go.Proofs.Ytamndmlaikgogaa.base Go.Proofs.Ytamndmlaikgogaa.dfA Go.Proofs.Ytamndmlaikgogaa.treB Go.Proofs.Ytamndmlaikgogaa.treD Go.Proofs.Ytamndmlaikgogaa.treG Go.Proofs.Ytamndmlaikgogaa.treH Go.Proofs.Ytamndmlaikgogaa.treI Go.Proofs.Ytamndmlaikgogaa.vdA Go.Proofs.Ytamndmlaikgogaa.vdB Go.Proofs.Ytamndmlaikgogaa.vdC Go.Proofs.Ytamndmlaikgogaa.vdD Go.Proofs.Ytamndmlaikgogaa.vdE Go.Proofs.Ytamndmlaikgogaa.vdH Go.Proofs.Ytamndmlaikgogaa.vdI Go.Proofs.Ytamndmlaikgogaa.vdJ Go.Proofs.Ytamndmlaikgogaa.vdN Go.Proofs.Ytamndmlaikgogaa.vdQ Go.Proofs.Ytamndmlaikgogaa.vdP Go.Proofs.Ytamndmlaikgogaa.vdT Go.Proofs.Ytamndmlaikgogaa.vdV
set_option linter.unusedVariables false

theorem rows_keep {w W : World} {A : Option Addr} {n k C : Nat} {f : Nat → List Value} (h : RowsOf w A n k f) (hk : ∀ g, g < w.heap.size → g ≠ C → W.heap[g]? = w.heap[g]?) (hs : w.heap.size ≤ W.heap.size) (hne : ∀ ad : Addr, A = some ad → ad.block ≠ C) : RowsOf W A n k f := by
  rcases h with h0 | ⟨b, off, h1, h2, h3⟩
  · exact .inl h0
  · exact .inr ⟨b, off, h1, by omega, fun j hj i hi => by rw [← h3 j hj i hi]; exact World.cell?_of_block (hk b h2 (hne _ h1))⟩
theorem ful_in {W : World} {g : Nat} {vA : Option Addr} {vc nv : Nat} {wA : Option Addr} {wc nw : Nat} (h1 : nv ≤ 70) (h2 : nw ≤ 70) (hb : Blk W g 44 #[.string ⟨#[108]⟩, .int .i64 1, .int .i64 (-1), .int .i64 0, .bool false, .int .u64 0, .int .u64 0]) (hv : RowsOf W vA nv 7 fV) (hvc : nv ≤ vc) (hvc2 : vc ≤ 9223372036854775807)
    (hw : RowsOf W wA nw 5 fW) (hwc : nw ≤ wc) (hwc2 : wc ≤ 9223372036854775807) : CfIn W (fulC g vA vc nv wA wc nw) where
  rn := .inr ⟨g, 0, rfl, hb.lt, fun j hj i hi => by
    have hj3 : j < 1 := hj
    obtain rfl : j = 0 := by omega
    rw [hb.cell]
    have hc : i = 0 ∨ i = 1 ∨ i = 2 ∨ i = 3 ∨ i = 4 ∨ i = 5 ∨ i = 6 := by omega
    rcases hc with rfl | rfl | rfl | rfl | rfl | rfl | rfl <;> rfl⟩
  cn := (show 1 ≤ 1 by omega)
  cn2 := (show 1 ≤ 9223372036854775807 by omega)
  n1 := (show 1 ≤ 60 by omega)
  nm := fun j hj => by
    have hj3 : j < 1 := hj
    obtain rfl : j = 0 := by omega
    exact (show (1 : Nat) ≤ 9223372036854775807 by omega)
  rv := by
    show RowsOf W vA (vsL nv).length 7 _
    rw [vs_len]
    exact rows_take hv nv (Nat.le_refl _) fun j hj => by show fV j = ((vsL nv).getD j zVp).cells.toList; rw [vs_at hj]; rfl
  cv := by show (vsL nv).length ≤ vc; rw [vs_len]; exact hvc
  cv2 := hvc2
  v1 := by show (vsL nv).length ≤ 1000; rw [vs_len]; omega
  rw_ := by
    show RowsOf W wA (wsL nw).length 5 _
    rw [ws_len]
    exact rows_take hw nw (Nat.le_refl _) fun j hj => by show fW j = ((wsL nw).getD j zVw).cells.toList; rw [ws_at hj]; rfl
  cw := by show (wsL nw).length ≤ wc; rw [ws_len]; exact hwc
  cw2 := hwc2
  w1 := by show (wsL nw).length ≤ 1000; rw [ws_len]; omega
  vu := fun j hj => by
    have hj2 : j < (wsL nw).length := hj
    rw [ws_len] at hj2
    show U64 ((wsL nw).getD j zVw).hi ∧ U64 ((wsL nw).getD j zVw).lo
    rw [ws_at hj2]
    exact ⟨⟨by show (0 : Int) ≤ 0; omega, by show (0 : Int) < _; omega⟩, ⟨by show (0 : Int) ≤ (j : Int); omega, by show (j : Int) < _; omega⟩⟩
set_option maxHeartbeats 16000000 in
set_option maxRecDepth 100000 in
theorem full_law (a b : Int) (w : World) : Calls Try.prog 5 #[.int .i64 a, .int .i64 b] w (RetB true w) := by
  have HAW := Lib.hid awake_any
  by_cases h1 : a < 60
  · have t1 : decide (a < 60) = true := decide_eq_true h1
    clear h1
    go_enter Try.func5, Try.ntmps5
    go_wp2_with fail
    refine (HAW.out _).mono ?_
    rintro o w8 ⟨rfl, hb8⟩
    have B8 := Lib.hid hb8
    clear hb8
    go_wp2_with fail
    go_ret
    exact ⟨rfl, B8.out⟩
  by_cases h2 : 70 < a
  · have t1 : decide (a < 60) = false := decide_eq_false h1
    have t2 : decide (70 < a) = true := decide_eq_true h2
    clear h1 h2
    go_enter Try.func5, Try.ntmps5
    go_wp2_with fail
    refine (HAW.out _).mono ?_
    rintro o w8 ⟨rfl, hb8⟩
    have B8 := Lib.hid hb8
    clear hb8
    go_wp2_with fail
    go_ret
    exact ⟨rfl, B8.out⟩
  by_cases h3 : b < 60
  · have t1 : decide (a < 60) = false := decide_eq_false h1
    have t2 : decide (70 < a) = false := decide_eq_false h2
    have t3 : decide (b < 60) = true := decide_eq_true h3
    clear h1 h2 h3
    go_enter Try.func5, Try.ntmps5
    go_wp2_with fail
    refine (HAW.out _).mono ?_
    rintro o w8 ⟨rfl, hb8⟩
    have B8 := Lib.hid hb8
    clear hb8
    go_wp2_with fail
    go_ret
    exact ⟨rfl, B8.out⟩
  by_cases h4 : 70 < b
  · have t1 : decide (a < 60) = false := decide_eq_false h1
    have t2 : decide (70 < a) = false := decide_eq_false h2
    have t3 : decide (b < 60) = false := decide_eq_false h3
    have t4 : decide (70 < b) = true := decide_eq_true h4
    clear h1 h2 h3 h4
    go_enter Try.func5, Try.ntmps5
    go_wp2_with fail
    refine (HAW.out _).mono ?_
    rintro o w8 ⟨rfl, hb8⟩
    have B8 := Lib.hid hb8
    clear hb8
    go_wp2_with fail
    go_ret
    exact ⟨rfl, B8.out⟩
  obtain ⟨nv, rfl⟩ := Int.eq_ofNat_of_zero_le (show 0 ≤ a by omega)
  obtain ⟨nw, rfl⟩ := Int.eq_ofNat_of_zero_le (show 0 ≤ b by omega)
  have t1 : decide ((nv : Int) < 60) = false := decide_eq_false h1
  have t2 : decide (70 < (nv : Int)) = false := decide_eq_false h2
  have t3 : decide ((nw : Int) < 60) = false := decide_eq_false h3
  have t4 : decide (70 < (nw : Int)) = false := decide_eq_false h4
  have n1 : nv ≤ 70 := by omega
  have n2 : nw ≤ 70 := by omega
  obtain ⟨w1, hw1⟩ : ∃ w1, w1 = w.alloc (.cells #[.string ⟨#[108]⟩, .int .i64 1, .int .i64 (-1), .int .i64 0, .bool false, .int .u64 0, .int .u64 0] 44) := ⟨_, rfl⟩
  have E1 := Lib.hid hw1
  have L1 := Lib.hid (show Blk w1 w.heap.size 44 #[.string ⟨#[108]⟩, .int .i64 1, .int .i64 (-1), .int .i64 0, .bool false, .int .u64 0, .int .u64 0] from hw1 ▸ Blk.new w _ _)
  have B1 := Lib.hid (show Below w.heap.size w w1 from hw1 ▸ (Below.refl _ _).alloc (Nat.le_refl _) _)
  obtain ⟨C, hC⟩ : ∃ C, C = w1.heap.size := ⟨_, rfl⟩
  have EC := Lib.hid hC
  have EC2 := Lib.hid (show w.heap.size + 1 = C from by rw [hC, hw1]; simp)
  obtain ⟨w2, hw2⟩ : ∃ w2, w2 = w1.alloc (.cells #[.slice (some ⟨w.heap.size, 0, none⟩) 1 1, .slice none 0 0, .slice none 0 0, .int .i64 100, .int .i64 3, .bool false, .int .u64 0, .int .u64 0, .bool false, .int .u64 0, .int .u64 0] 30) := ⟨_, rfl⟩
  have E2 := Lib.hid hw2
  have K2 := Lib.hid (show Blk w2 C 30 #[.slice (some ⟨w.heap.size, 0, none⟩) 1 1, .slice none 0 0, .slice none 0 0, .int .i64 100, .int .i64 3, .bool false, .int .u64 0, .int .u64 0, .bool false, .int .u64 0, .int .u64 0] from by rw [hw2, hC]; exact Blk.new w1 _ _)
  have B2 := Lib.hid (show Below w1.heap.size w1 w2 from hw2 ▸ (Below.refl _ _).alloc (Nat.le_refl _) _)
  have L2 := Lib.hid (show Blk w2 w.heap.size 44 #[.string ⟨#[108]⟩, .int .i64 1, .int .i64 (-1), .int .i64 0, .bool false, .int .u64 0, .int .u64 0] from L1.out.below B2.out L1.out.lt)
  have HCL := Lib.hid (show C < w2.heap.size from K2.out.lt)
  have HCW := Lib.hid (show w.heap.size ≤ C from by have := B1.out.size; omega)
  have HLC := Lib.hid (show w.heap.size ≠ C from by have := L1.out.lt; omega)
  have FL0 := Lib.hid (show Fil w w2 C w2.heap.size 48 7 fV w2 #[.slice (some ⟨w.heap.size, 0, none⟩) 1 1, .slice none 0 0, .slice none 0 0, .int .i64 100, .int .i64 3, .bool false, .int .u64 0, .int .u64 0, .bool false, .int .u64 0, .int .u64 0] (.slice none 0 0) 0 from ⟨⟨rfl, .inl ⟨rfl, rfl⟩⟩, K2.out, fun g _ _ => rfl, Nat.le_refl _, B1.out.trans (B2.out.mono B1.out.size)⟩)
  obtain ⟨VI, vi0, vi1, vi2, vi3⟩ := info_parts info_v
  have V0 := Lib.hid vi0
  have V1 := Lib.hid vi1
  have V2 := Lib.hid vi2
  have V3 := Lib.hid vi3
  obtain ⟨WI, wi0, wi1, wi2, wi3⟩ := info_parts info_w
  have W0 := Lib.hid wi0
  have W1 := Lib.hid wi1
  have W2 := Lib.hid wi2
  have W3 := Lib.hid wi3
  have N60 := Lib.hid (show 60 ≤ nv ∧ 60 ≤ nw from by omega)
  clear hw1 hw2 hC h1 h2 h3 h4 vi0 vi1 vi2 vi3 wi0 wi1 wi2 wi3
  go_enter Try.func5, Try.ntmps5
  go_upto_region 3 with fail
  go_upto_region 4 with fail
  rw [← E1.out, ← E2.out, EC2.out]
  go_wp2_with fail
  go_loopw [6] (fun i wr => ∃ (k : Nat) (v : Value), i = .int .i64 k ∧ k ≤ nv ∧ Fil w w2 C w2.heap.size 48 7 fV wr #[.slice (some ⟨w.heap.size, 0, none⟩) 1 1, v, .slice none 0 0, .int .i64 100, .int .i64 3, .bool false, .int .u64 0, .int .u64 0, .bool false, .int .u64 0, .int .u64 0] v k) (fun i _ => nv - (intOf i).toNat)
  case atStart => exact ⟨0, _, rfl, by omega, FL0.out⟩
  case round =>
    obtain ⟨k, v, rfl, hk, hfl⟩ := hrel
    have FK := Lib.hid hfl
    clear hfl
    have c1 : wr.cell? ⟨C, 1, none⟩ = some v := FK.out.blk.cell 1
    by_cases hkn : k < nv
    · have t1 : decide ((k : Int) < nv) = true := decide_eq_true (by omega)
      have t2 : decide (k < nv) = true := decide_eq_true hkn
      have BA := Lib.hid ((Below.refl wr.heap.size wr).alloc (Nat.le_refl _) (.cells #[.bool false, .int .u64 0, .int .u64 0, .int .i64 17, .int .i64 k, .int .i64 8, .bool false] 48))
      have OA := Lib.hid (show (wr.alloc (.cells #[.bool false, .int .u64 0, .int .u64 0, .int .i64 17, .int .i64 k, .int .i64 8, .bool false] 48)).ownsRow w2.heap.size 48 7 v k (flatR fV k) from World.ownsRow.alloc FK.out.own _)
      have HNW := Lib.hid (cells_new wr #[.bool false, .int .u64 0, .int .u64 0, .int .i64 17, .int .i64 k, .int .i64 8, .bool false] 48 (fV k) rfl)
      have P1 := Lib.hid (show k + 1 ≤ maxLen by unfold maxLen; omega)
      have P2 := Lib.hid (show (k + 1) * 56 ≤ 140737488355328 by omega)
      have P3 := Lib.hid (show w2.heap.size ≤ (wr.alloc (.cells #[.bool false, .int .u64 0, .int .u64 0, .int .i64 17, .int .i64 k, .int .i64 8, .bool false] 48)).heap.size from Nat.le_trans FK.out.size BA.out.size)
      have KA := Lib.hid (FK.out.blk.alloc (.cells #[.bool false, .int .u64 0, .int .u64 0, .int .i64 17, .int .i64 k, .int .i64 8, .bool false] 48))
      go_wp2_with (at_builtin; refine wpList_append_new _ rfl (.tmp 34) (.tmp 37) _ rfl w2.heap.size 48 VI _ 7 56 Try.underlying23 V0.out V1.out V2.out V3.out rfl (by omega) _ k (flatR fV k) rfl OA.out ⟨wr.heap.size, 0, none⟩ 1 1 (fV k) rfl (Nat.le_refl 1) rfl HNW.out (fV_one k) P1.out P2.out P3.out ?_; intro v6 w6 ho hg hgg; obtain ⟨g6, cap6, hv6, hg61, hg62⟩ := own_someK ho; subst hv6; have HO := Lib.hid ho; have HG := Lib.hid hg; have K6 := Lib.hid (show Blk w6 C 30 #[.slice (some ⟨w.heap.size, 0, none⟩) 1 1, v, .slice none 0 0, .int .i64 100, .int .i64 3, .bool false, .int .u64 0, .int .u64 0, .bool false, .int .u64 0, .int .u64 0] from KA.out.grown hg (fun e => by have h := (World.ownsRow.lt OA.out C e.symm).1; have := HCL.out; omega)); have y1 : w6.cell? ⟨C, 1, none⟩ = some v := K6.out.cell 1; have y2 : w6.frozen? ⟨C, 1, none⟩ = false := K6.out.frozen 1; clear ho hg hgg hg61 hg62)
      have FN := Lib.hid (FK.out.next (x := 1) (Nat.le_refl _) HCL.out HCW.out BA.out HO.out HG.out)
      go_roundw
      case rel => exact ⟨k + 1, _, by go_num, by omega, FN.out⟩
      case measure => simp [intOf]; omega
    · have t1 : decide ((k : Int) < nv) = false := decide_eq_false (by omega)
      have t2 : decide (k < nv) = false := decide_eq_false hkn
      obtain rfl : nv = k := by omega
      obtain ⟨w3, hw3⟩ : ∃ x, x = wr := ⟨_, rfl⟩
      subst hw3
      obtain ⟨vA, vC, hv, q1, q2, q3, q4⟩ := rows_own fV_len FK.out.own
      subst hv
      have RV := Lib.hid q3
      have NV := Lib.hid (show ∀ ad : Addr, vA = some ad → ad.block ≠ C from fun ad e => by have h := (q4 ad e).1; have := HCL.out; omega)
      have Q1 := Lib.hid q1
      have Q2 := Lib.hid q2
      have FV := Lib.hid FK.out
      have L3 := Lib.hid (show Blk w3 w.heap.size 44 #[.string ⟨#[108]⟩, .int .i64 1, .int .i64 (-1), .int .i64 0, .bool false, .int .u64 0, .int .u64 0] from (FV.out.old _ L2.out.lt HLC.out).trans L2.out)
      have HCL := Lib.hid (show C < w3.heap.size from FV.out.blk.lt)
      have FL0 := Lib.hid (show Fil w w3 C w3.heap.size 52 5 fW w3 #[.slice (some ⟨w.heap.size, 0, none⟩) 1 1, (.slice vA nv vC), .slice none 0 0, .int .i64 100, .int .i64 3, .bool false, .int .u64 0, .int .u64 0, .bool false, .int .u64 0, .int .u64 0] (.slice none 0 0) 0 from ⟨⟨rfl, .inl ⟨rfl, rfl⟩⟩, FV.out.blk, fun g _ _ => rfl, Nat.le_refl _, FV.out.bel⟩)
      clear FK c1 q1 q2 q3 q4 hk hkn
      go_wp2_with fail
      go_loopw [7] (fun i wr => ∃ (k : Nat) (v : Value), i = .int .i64 k ∧ k ≤ nw ∧ Fil w w3 C w3.heap.size 52 5 fW wr #[.slice (some ⟨w.heap.size, 0, none⟩) 1 1, (.slice vA nv vC), v, .int .i64 100, .int .i64 3, .bool false, .int .u64 0, .int .u64 0, .bool false, .int .u64 0, .int .u64 0] v k) (fun i _ => nw - (intOf i).toNat)
      case atStart => exact ⟨0, _, rfl, by omega, FL0.out⟩
      case round =>
        obtain ⟨k, v, rfl, hk, hfl⟩ := hrel
        have FK := Lib.hid hfl
        clear hfl
        have c1 : wr.cell? ⟨C, 2, none⟩ = some v := FK.out.blk.cell 2
        by_cases hkn : k < nw
        · have t1 : decide ((k : Int) < nw) = true := decide_eq_true (by omega)
          have t2 : decide (k < nw) = true := decide_eq_true hkn
          have BA := Lib.hid ((Below.refl wr.heap.size wr).alloc (Nat.le_refl _) (.cells #[.bool false, .int .u64 0, .int .u64 k, .int .i64 32, .int .i64 0] 52))
          have OA := Lib.hid (show (wr.alloc (.cells #[.bool false, .int .u64 0, .int .u64 k, .int .i64 32, .int .i64 0] 52)).ownsRow w3.heap.size 52 5 v k (flatR fW k) from World.ownsRow.alloc FK.out.own _)
          have HNW := Lib.hid (cells_new wr #[.bool false, .int .u64 0, .int .u64 k, .int .i64 32, .int .i64 0] 52 (fW k) rfl)
          have P1 := Lib.hid (show k + 1 ≤ maxLen by unfold maxLen; omega)
          have P2 := Lib.hid (show (k + 1) * 40 ≤ 140737488355328 by omega)
          have P3 := Lib.hid (show w3.heap.size ≤ (wr.alloc (.cells #[.bool false, .int .u64 0, .int .u64 k, .int .i64 32, .int .i64 0] 52)).heap.size from Nat.le_trans FK.out.size BA.out.size)
          have KA := Lib.hid (FK.out.blk.alloc (.cells #[.bool false, .int .u64 0, .int .u64 k, .int .i64 32, .int .i64 0] 52))
          have jw : IntKind.u64.wrap (k : Int) = (k : Int) := by show (k : Int) % 18446744073709551616 = k; omega
          go_wp2_with (at_builtin; refine wpList_append_new _ rfl (.tmp 46) (.tmp 52) _ rfl w3.heap.size 52 WI _ 5 40 Try.underlying24 W0.out W1.out W2.out W3.out rfl (by omega) _ k (flatR fW k) rfl OA.out ⟨wr.heap.size, 0, none⟩ 1 1 (fW k) rfl (Nat.le_refl 1) rfl HNW.out (fW_one k) P1.out P2.out P3.out ?_; intro v6 w6 ho hg hgg; obtain ⟨g6, cap6, hv6, hg61, hg62⟩ := own_someK ho; subst hv6; have HO := Lib.hid ho; have HG := Lib.hid hg; have K6 := Lib.hid (show Blk w6 C 30 #[.slice (some ⟨w.heap.size, 0, none⟩) 1 1, (.slice vA nv vC), v, .int .i64 100, .int .i64 3, .bool false, .int .u64 0, .int .u64 0, .bool false, .int .u64 0, .int .u64 0] from KA.out.grown hg (fun e => by have h := (World.ownsRow.lt OA.out C e.symm).1; have := HCL.out; omega)); have y1 : w6.cell? ⟨C, 2, none⟩ = some v := K6.out.cell 2; have y2 : w6.frozen? ⟨C, 2, none⟩ = false := K6.out.frozen 2; clear ho hg hgg hg61 hg62)
          have FN := Lib.hid (FK.out.next (x := 2) (Nat.le_refl _) HCL.out HCW.out BA.out HO.out HG.out)
          go_roundw
          case rel => exact ⟨k + 1, _, by go_num, by omega, FN.out⟩
          case measure => simp [intOf]; omega
        · have t1 : decide ((k : Int) < nw) = false := decide_eq_false (by omega)
          have t2 : decide (k < nw) = false := decide_eq_false hkn
          obtain rfl : nw = k := by omega
          obtain ⟨w4, hw4⟩ : ∃ x, x = wr := ⟨_, rfl⟩
          subst hw4
          obtain ⟨wA, wC, hv, q1, q2, q3, q4⟩ := rows_own fW_len FK.out.own
          subst hv
          have FW := Lib.hid FK.out
          have L4 := Lib.hid (show Blk w4 w.heap.size 44 #[.string ⟨#[108]⟩, .int .i64 1, .int .i64 (-1), .int .i64 0, .bool false, .int .u64 0, .int .u64 0] from (FW.out.old _ L3.out.lt HLC.out).trans L3.out)
          have RV4 := Lib.hid (rows_keep RV.out FW.out.old FW.out.size NV.out)
          have CI := Lib.hid (show CfIn w4 (fulC w.heap.size vA vC nv wA wC nw) from ful_in n1 n2 L4.out RV4.out Q1.out Q2.out q3 q1 q2)
          have HN := Lib.hid (show Calls Try.prog 10 #[.agg #[.slice (some ⟨w.heap.size, 0, none⟩) 1 1, (.slice vA nv vC), (.slice wA nw wC), .int .i64 100, .int .i64 3, .bool false, .int .u64 0, .int .u64 0, .bool false, .int .u64 0, .int .u64 0]] w4 (fun o w' => NewC (fulC w.heap.size vA vC nv wA wC nw) w4 o w' ∧ Below w4.heap.size w4 w') from by
            have h := new_c _ w4 CI.out
            unfold Cf.cells fulC at h
            simp only [vs_len, ws_len] at h
            exact h)
          have HE := Lib.hid (ful_conf w.heap.size vA vC nv wA wC nw n1 n2)
          have d0 : w4.cell? ⟨C, 0, none⟩ = some (.slice (some ⟨w.heap.size, 0, none⟩) 1 1) := FW.out.blk.cell 0
          have d1 : w4.cell? ⟨C, 1, none⟩ = some (.slice vA nv vC) := FW.out.blk.cell 1
          have d2 : w4.cell? ⟨C, 2, none⟩ = some (.slice wA nw wC) := FW.out.blk.cell 2
          have d3 : w4.cell? ⟨C, 3, none⟩ = some (.int .i64 100) := FW.out.blk.cell 3
          have d4 : w4.cell? ⟨C, 4, none⟩ = some (.int .i64 3) := FW.out.blk.cell 4
          have d5 : w4.cell? ⟨C, 5, none⟩ = some (.bool false) := FW.out.blk.cell 5
          have d6 : w4.cell? ⟨C, 6, none⟩ = some (.int .u64 0) := FW.out.blk.cell 6
          have d7 : w4.cell? ⟨C, 7, none⟩ = some (.int .u64 0) := FW.out.blk.cell 7
          have d8 : w4.cell? ⟨C, 8, none⟩ = some (.bool false) := FW.out.blk.cell 8
          have d9 : w4.cell? ⟨C, 9, none⟩ = some (.int .u64 0) := FW.out.blk.cell 9
          have d10 : w4.cell? ⟨C, 10, none⟩ = some (.int .u64 0) := FW.out.blk.cell 10
          clear FK c1 q1 q2 q3 q4 hk hkn
          go_wp2_with fail
          refine HN.out.mono ?_
          rintro o w5 ⟨hnc, hb5⟩
          have B5 := Lib.hid (FW.out.bel.trans (hb5.mono FW.out.bel.size))
          have HO := Lib.hid (show (64 < nv ∨ 64 < nw) ∧ o = .returned (.tuple #[.pointer none, .int .i64 6]) ∨ ¬ (64 < nv ∨ 64 < nw) ∧ ∃ g, o = .returned (.tuple #[.pointer (some g), .int .i64 0]) from by
            rcases hnc with ⟨hne, h⟩ | ⟨h0, g, T, d, h, _⟩
            · by_cases hh : 64 < nv ∨ 64 < nw
              · rw [HE.out, if_pos hh] at h
                exact .inl ⟨hh, h⟩
              · rw [HE.out, if_neg hh] at hne
                exact absurd rfl hne
            · by_cases hh : 64 < nv ∨ 64 < nw
              · rw [HE.out, if_pos hh] at h0
                cases h0
              · exact .inr ⟨hh, _, h⟩)
          clear hb5 hnc d0 d1 d2 d3 d4 d5 d6 d7 d8 d9 d10
          rcases HO.out with ⟨hh, rfl⟩ | ⟨hh, g, rfl⟩
          · by_cases h5 : 64 < nv
            · have t5 : decide (64 < (nv : Int)) = true := decide_eq_true (by omega)
              have t6 : decide ((nv : Int) ≤ 64) = false := decide_eq_false (by omega)
              have t7 : decide (nv ≤ 64) = false := decide_eq_false (by omega)
              clear hh
              go_wp2_with fail
              refine (HAW.out _).mono ?_
              rintro o w8 ⟨rfl, hb8⟩
              have B8 := Lib.hid (B5.out.trans (hb8.mono B5.out.size))
              clear hb8
              go_wp2_with fail
              go_ret
              exact ⟨rfl, B8.out⟩
            · have h6 : 64 < nw := by omega
              have t5 : decide (64 < (nv : Int)) = false := decide_eq_false (by omega)
              have t6 : decide ((nv : Int) ≤ 64) = true := decide_eq_true (by omega)
              have t7 : decide (64 < (nw : Int)) = true := decide_eq_true (by omega)
              have t8 : decide ((nw : Int) ≤ 64) = false := decide_eq_false (by omega)
              clear hh
              go_wp2_with fail
              refine (HAW.out _).mono ?_
              rintro o w8 ⟨rfl, hb8⟩
              have B8 := Lib.hid (B5.out.trans (hb8.mono B5.out.size))
              clear hb8
              go_wp2_with fail
              go_ret
              exact ⟨rfl, B8.out⟩
          · have h6 : ¬ 64 < nw := by omega
            have h5 : ¬ 64 < nv := by omega
            have t5 : decide (64 < (nv : Int)) = false := decide_eq_false (by omega)
            have t6 : decide ((nv : Int) ≤ 64) = true := decide_eq_true (by omega)
            have t7 : decide (64 < (nw : Int)) = false := decide_eq_false (by omega)
            have t8 : decide ((nw : Int) ≤ 64) = true := decide_eq_true (by omega)
            clear hh
            go_wp2_with fail
            refine (HAW.out _).mono ?_
            rintro o w8 ⟨rfl, hb8⟩
            have B8 := Lib.hid (B5.out.trans (hb8.mono B5.out.size))
            clear hb8
            go_wp2_with fail
            go_ret
            exact ⟨rfl, B8.out⟩
end Go.Proofs.Ytamndmlaikgogaa.vdW
