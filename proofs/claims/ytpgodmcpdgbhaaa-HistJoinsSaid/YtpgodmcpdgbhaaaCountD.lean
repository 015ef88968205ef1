/- Layer 31: sums, and boards that are none. -/
import Derived.Test.YtpgodmcpdgbhaaaCountC
import Derived.Deep.QuietTactic
import Derived.BigQuiet
import Derived.DeepKeys
import Derived.Deep.DeepCutAuto
namespace Go.Proofs.Ytpgodmcpdgbhaaa.countD
open Go.ChangeShapes Go.WideShapes Go.ChangeAt Go.RowKit
open Go.Proofs.Ytpgodmcpdgbhaaa.base Go.Proofs.Ytpgodmcpdgbhaaa.countA Go.Proofs.Ytpgodmcpdgbhaaa.countC
set_option linter.unusedVariables false

theorem bel_n {B : Nat} {a w : World} (h : Below B a w) (n : Nat) : Below B a (w.drewN n) := ⟨h.os, h.tape, h.output, h.size, h.block⟩
def Z29 : Array Value := #[.int .i64 0, .int .i64 0, .int .i64 0, .int .i64 0, .int .i64 0, .int .i64 0, .int .i64 0, .int .i64 0, .int .i64 0, .int .i64 0, .int .i64 0, .int .i64 0, .int .i64 0, .int .i64 0, .int .i64 0, .int .i64 0, .int .i64 0, .int .i64 0, .int .i64 0, .int .i64 0, .int .i64 0, .int .i64 0, .int .i64 0, .int .i64 0, .int .i64 0, .int .i64 0, .int .i64 0, .int .i64 0, .int .i64 0]
theorem z29_size : (Try.prog.info? 24).map (·.size) = some Z29.size := by kernel_rfl
theorem eq_same {t : TypeId} {cs : Array Value} {ls : List Lit} (d m D : Nat) (ht : Try.prog.keyTypeAt m t = true) (hf : (Value.agg cs).formed Try.prog t = true) (hl : Try.prog.keyLits D t cs.toList = some ls) (w : World) :
    (Op.equalIn (d + m) t (.agg cs) (.agg cs)).run Try.prog w = .ok true w := by
  obtain ⟨r, h1, h2⟩ := run_equalIn_deep d m t ht w D D (.agg cs) (.agg cs) ls ls hf hf hl hl
  rw [h1, h2.2 rfl]
theorem eq_zeros (w : World) : (Op.equalIn 9999 22 (.agg #[.int .i64 0, .int .i64 0, .int .i64 0, .int .i64 0, .int .i64 0, .int .i64 0, .int .i64 0, .int .i64 0, .int .i64 0, .int .i64 0, .int .i64 0, .int .i64 0, .int .i64 0, .int .i64 0, .int .i64 0, .int .i64 0, .int .i64 0, .int .i64 0, .int .i64 0, .int .i64 0, .int .i64 0, .int .i64 0, .int .i64 0, .int .i64 0, .int .i64 0, .int .i64 0]) (.agg #[.int .i64 0, .int .i64 0, .int .i64 0, .int .i64 0, .int .i64 0, .int .i64 0, .int .i64 0, .int .i64 0, .int .i64 0, .int .i64 0, .int .i64 0, .int .i64 0, .int .i64 0, .int .i64 0, .int .i64 0, .int .i64 0, .int .i64 0, .int .i64 0, .int .i64 0, .int .i64 0, .int .i64 0, .int .i64 0, .int .i64 0, .int .i64 0, .int .i64 0, .int .i64 0])).run Try.prog w = .ok true w :=
  eq_same 9989 10 10 (ls := List.replicate 26 (.int .i64 0)) (by kernel_rfl) (by kernel_rfl) (by kernel_rfl) w
theorem z29_one : Z29.all (·.oneCell') = true := by kernel_rfl
theorem in_nil (n : Int) (w : World) :
    Calls Try.prog 8 #[.pointer none, .int .i64 n] w fun e w' => e = .returned (.tuple #[]) ∧ w = w' := by
  go_enter Try.func8, Try.ntmps8
  go_wp2
  exact bodyPost_ret (v := .tuple #[]) (by simp [results, Try.results8, go_sem]) rfl ⟨rfl, rfl⟩
theorem out_nil (n : Int) (w : World) :
    Calls Try.prog 9 #[.pointer none, .int .i64 n] w fun e w' => e = .returned (.tuple #[]) ∧ w = w' := by
  go_enter Try.func9, Try.ntmps9
  go_wp2
  exact bodyPost_ret (v := .tuple #[]) (by simp [results, Try.results9, go_sem]) rfl ⟨rfl, rfl⟩
theorem of_nil (n : Int) (w : World) :
    Calls Try.prog 12 #[.pointer none, .int .i64 n] w fun e w' => e = .returned (.int .i64 0) ∧ w = w' := by
  go_enter Try.func12, Try.ntmps12
  go_wp2
  go_ret
  exact ⟨rfl, rfl⟩
set_option maxRecDepth 100000 in
theorem sum_nil (w : World) :
    Calls Try.prog 10 #[.pointer none] w fun e w' => e = .returned (.agg Z29) ∧ Below w.heap.size w w' := by
  go_enter Try.func10, Try.ntmps10
  go_wp2_with (first
    | (refine wpList_store_row rfl 24 _ _ rfl w.heap.size Z29 rfl rfl 24 Z29 (Blk.new w _ _) z29_size rfl z29_one ?_))
  refine bodyPost_ret (v := .agg Z29) (results_cell_row rfl _ _ w.heap.size 24 Z29 (0, 0) _ rfl (blk_setRow (Blk.new w 24 Z29) Z29) Try.underlying24 rfl z29_size) rfl ⟨rfl, below_setRow ((Below.refl _ _).alloc (Nat.le_refl _) _) (Nat.le_refl _) _⟩
set_option maxRecDepth 100000 in
theorem clear_nil (w : World) :
    Calls Try.prog 11 #[.pointer none] w fun e w' => e = .returned (.agg Z29) ∧ Below w.heap.size w w' := by
  go_enter Try.func11, Try.ntmps11
  go_wp2_with (first
    | (refine wpList_store_row rfl 24 _ _ rfl w.heap.size Z29 rfl rfl 24 Z29 (Blk.new w _ _) z29_size rfl z29_one ?_))
  refine bodyPost_ret (v := .agg Z29) (results_cell_row rfl _ _ w.heap.size 24 Z29 (0, 0) _ rfl (blk_setRow (Blk.new w 24 Z29) Z29) Try.underlying24 rfl z29_size) rfl ⟨rfl, below_setRow ((Below.refl _ _).alloc (Nat.le_refl _) _) (Nat.le_refl _) _⟩
set_option maxRecDepth 100000 in
set_option maxHeartbeats 4000000 in
theorem sums_any (a b : Array Value) (f g : Nat → Int) (n : Int) (w : World) (ha : At a f) (hb : At b g) :
    Calls Try.prog 3 #[.agg a, .agg b, .int .i64 n] w fun e w' => e = .returned (.bool true) ∧ Below w.heap.size w w' := by
  have HA := Lib.hid ha
  have HG := Lib.hid hb
  have SA := Lib.hid (show (Try.prog.info? 24).map (·.size) = some a.size by rw [ha.1]; exact size_s)
  have SB := Lib.hid (show (Try.prog.info? 24).map (·.size) = some b.size by rw [hb.1]; exact size_s)
  have HPL := Lib.hid (fun w => plus_any a b f g w ha hb)
  have BA0 := Lib.hid ((Blk.new w 24 a).alloc (.cells b 24))
  have BB0 := Lib.hid (show Blk ((w.alloc (.cells a 24)).alloc (.cells b 24)) (w.heap.size + 1) 24 b from by have := Blk.new (w.alloc (.cells a 24)) 24 b; rwa [show (w.alloc (.cells a 24)).heap.size = w.heap.size + 1 by simp] at this)
  have HB0 := Lib.hid (show Below w.heap.size w ((w.alloc (.cells a 24)).alloc (.cells b 24)) from ((Below.refl _ _).alloc (Nat.le_refl _) _).alloc (by simp) _)
  clear ha hb
  go_enter Try.func3, Try.ntmps3
  go_upto_region 2 with (first
    | (refine wpList_load_row rfl 24 _ rfl w.heap.size rfl 24 a (0, 0) _ BA0.out Try.underlying24 rfl SA.out ?_)
    | (refine wpList_load_row rfl 24 _ rfl (w.heap.size + 1) rfl 24 b (0, 0) _ BB0.out Try.underlying24 rfl SB.out ?_)
    | (go_at_call 7; refine (HPL.out _).mono ?_; rintro e w1 ⟨c, rfl, hc, hb1⟩; have HC := Lib.hid hc; have HB1 := Lib.hid (bel_call HB0.out hb1); have BA1 := Lib.hid (BA0.out.below hb1 BA0.out.lt); have BB1 := Lib.hid (BB0.out.below hb1 BB0.out.lt); have SC := Lib.hid (show (Try.prog.info? 24).map (·.size) = some c.size by rw [hc.1]; exact size_s); have SC2 := Lib.hid (show Z29.size = c.size by rw [hc.1]; rfl); have OC := Lib.hid hc.one; clear hc hb1)
    | (refine wpList_store_row rfl 24 _ _ rfl w1.heap.size c rfl rfl 24 Z29 (Blk.new w1 _ _) SC.out SC2.out OC.out ?_))
  rw [World.setRow_alloc_new]
  have BA2 := BA1.out.alloc (.cells c 24)
  have BB2 := BB1.out.alloc (.cells c 24)
  have BC2 := Blk.new w1 24 c
  have HB2 := Lib.hid (HB1.out.alloc HB1.out.size (.cells c 24))
  have BAH := Lib.hid BA2
  have BBH := Lib.hid BB2
  have BCH := Lib.hid BC2
  have x0 : (w1.alloc (.cells c 24)).cell? ⟨w.heap.size, 0, none⟩ = some (.int .i64 (f 0)) := (BA2.cell 0).trans (HA.out.2 0 (by omega))
  have x1 : (w1.alloc (.cells c 24)).cell? ⟨w.heap.size, 1, none⟩ = some (.int .i64 (f 1)) := (BA2.cell 1).trans (HA.out.2 1 (by omega))
  have x2 : (w1.alloc (.cells c 24)).cell? ⟨w.heap.size, 2, none⟩ = some (.int .i64 (f 2)) := (BA2.cell 2).trans (HA.out.2 2 (by omega))
  have y0 : (w1.alloc (.cells c 24)).cell? ⟨w.heap.size + 1, 0, none⟩ = some (.int .i64 (g 0)) := (BB2.cell 0).trans (HG.out.2 0 (by omega))
  have y1 : (w1.alloc (.cells c 24)).cell? ⟨w.heap.size + 1, 1, none⟩ = some (.int .i64 (g 1)) := (BB2.cell 1).trans (HG.out.2 1 (by omega))
  have y2 : (w1.alloc (.cells c 24)).cell? ⟨w.heap.size + 1, 2, none⟩ = some (.int .i64 (g 2)) := (BB2.cell 2).trans (HG.out.2 2 (by omega))
  have z0 : (w1.alloc (.cells c 24)).cell? ⟨w1.heap.size, 0, none⟩ = some (.int .i64 (wrap64 (f 0 + g 0))) := (BC2.cell 0).trans (HC.out.2 0 (by omega))
  have z1 : (w1.alloc (.cells c 24)).cell? ⟨w1.heap.size, 1, none⟩ = some (.int .i64 (wrap64 (f 1 + g 1))) := (BC2.cell 1).trans (HC.out.2 1 (by omega))
  have z2 : (w1.alloc (.cells c 24)).cell? ⟨w1.heap.size, 2, none⟩ = some (.int .i64 (wrap64 (f 2 + g 2))) := (BC2.cell 2).trans (HC.out.2 2 (by omega))
  clear BA2 BB2 BC2
  generalize w1.alloc (.cells c 24) = w2 at *
  go_wp2_with fail
  clear x0 x1 x2 y0 y1 y2 z0 z1 z2
  go_loopw [8] (fun i wr => ∃ j : Nat, j ≤ 26 ∧ i = .int .i64 j ∧ Blk wr w.heap.size 24 a ∧ Blk wr (w.heap.size + 1) 24 b ∧ Blk wr w1.heap.size 24 c ∧ Below w.heap.size w wr) (fun i _ => 26 - (intOf i).toNat)
  case atStart => exact ⟨0, by omega, rfl, BAH.out, BBH.out, BCH.out, HB2.out⟩
  case round =>
    obtain ⟨j, hj, rfl, hA, hB, hC, hbel⟩ := hrel
    by_cases hj8 : j < 26
    · have p1 : decide ((j : Int) < 26) = true := decide_eq_true (by omega)
      have d1 := (hA.cell (3 + j)).trans (HA.out.2 (3 + j) (by omega))
      have d2 := (hB.cell (3 + j)).trans (HG.out.2 (3 + j) (by omega))
      have d3 := (hC.cell (3 + j)).trans (HC.out.2 (3 + j) (by omega))
      have HAH := Lib.hid hA
      have HBH := Lib.hid hB
      have HCH := Lib.hid hC
      have HLH := Lib.hid hbel
      clear hA hB hC hbel
      go_wp2_with fail
      go_quiet (fail)
      go_wp2_with fail
      exact ⟨⟨j + 1, by omega, by go_num, HAH.out.drewN nq, HBH.out.drewN nq, HCH.out.drewN nq, bel_n HLH.out nq⟩, by simp [intOf]; omega⟩
    · have p1 : decide ((j : Int) < 26) = false := decide_eq_false (by omega)
      have HLH := Lib.hid hbel
      have heq := eq_zeros
      have HNI := Lib.hid (in_nil n)
      have HNO := Lib.hid (out_nil n)
      have HNF := Lib.hid (of_nil n)
      clear hA hB hC hbel
      go_wp2_with (first
        | (go_at_call 8; (with_reducible refine (HNI.out _).mono ?_); rintro e w' ⟨rfl, rfl⟩)
        | (go_at_call 9; (with_reducible refine (HNO.out _).mono ?_); rintro e w' ⟨rfl, rfl⟩)
        | (go_at_call 10; (with_reducible refine (sum_nil _).mono ?_); rintro e w3 ⟨rfl, hb3⟩; unfold Z29; have HB3 := Lib.hid (bel_call HLH.out hb3); clear hb3)
        | (go_at_call 11; (with_reducible refine (clear_nil _).mono ?_); rintro e w4 ⟨rfl, hb4⟩; unfold Z29; have HB4 := Lib.hid (bel_call HB3.out hb4); clear hb4)
        | (go_at_call 12; (with_reducible refine (HNF.out _).mono ?_); rintro e w' ⟨rfl, rfl⟩)
        | (go_at_call 13; (with_reducible refine (take_nil _).mono ?_); rintro e w' ⟨rfl, rfl⟩)
        | (go_at_call 14; (with_reducible refine (give_nil _).mono ?_); rintro e w' ⟨rfl, rfl⟩)
        | (go_at_call 15; (with_reducible refine (taken_nil _).mono ?_); rintro e w' ⟨rfl, rfl⟩)
        | (go_at_call 16; (with_reducible refine (awake_any _).mono ?_); rintro e w5 ⟨rfl, hb5⟩; have HB5 := Lib.hid (bel_call HB4.out hb5); clear hb5))
      go_ret
      exact ⟨rfl, HB5.out⟩
end Go.Proofs.Ytpgodmcpdgbhaaa.countD
