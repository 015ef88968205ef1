/- Layer 8: what bytes quote. -/
import Derived.Test.YtgikoljnmmnkkaaFourG
import Derived.Test.YtgikoljnmmnkkaaFourL
import Derived.Test.YtgikoljnmmnkkaaFourS
import Derived.Deep.RegionHeld3
import Derived.Deep.AppendLies
import Derived.Deep.DeepCutAuto
import Derived.Deep.RegionWith
namespace Go.Proofs.Ytgikoljnmmnkkaa.fourT
open Go.ChangeShapes Go.WideShapes Go.ChangeAt Go.RowKit
open Go.Proofs.Ytgikoljnmmnkkaa.base Go.Proofs.Ytgikoljnmmnkkaa.sumA Go.Proofs.Ytgikoljnmmnkkaa.sumB Go.Proofs.Ytgikoljnmmnkkaa.octA Go.Proofs.Ytgikoljnmmnkkaa.octB Go.Proofs.Ytgikoljnmmnkkaa.octC Go.Proofs.Ytgikoljnmmnkkaa.octD Go.Proofs.Ytgikoljnmmnkkaa.octE Go.Proofs.Ytgikoljnmmnkkaa.octF Go.Proofs.Ytgikoljnmmnkkaa.octK Go.Proofs.Ytgikoljnmmnkkaa.rdrA Go.Proofs.Ytgikoljnmmnkkaa.udpA Go.Proofs.Ytgikoljnmmnkkaa.tcpC Go.Proofs.Ytgikoljnmmnkkaa.net Go.Proofs.Ytgikoljnmmnkkaa.fourA Go.Proofs.Ytgikoljnmmnkkaa.fourB Go.Proofs.Ytgikoljnmmnkkaa.fourC Go.Proofs.Ytgikoljnmmnkkaa.fourD Go.Proofs.Ytgikoljnmmnkkaa.fourE Go.Proofs.Ytgikoljnmmnkkaa.fourF Go.Proofs.Ytgikoljnmmnkkaa.fourG Go.Proofs.Ytgikoljnmmnkkaa.fourL Go.Proofs.Ytgikoljnmmnkkaa.fourS
set_option linter.unusedVariables false

set_option maxRecDepth 100000 in
set_option maxHeartbeats 4000000 in
theorem short_v (v1 : Value) (A : Option Addr) (n c : Nat) (d6 : Bool) (sh sl dh dl : Int) (proto size : Int) (w : World) (l0 : 0 ≤ sl ∧ sl < 18446744073709551616) (l1 : 0 ≤ dl ∧ dl < 18446744073709551616) (l2 : 0 ≤ sh) (l3 : 0 ≤ dh)
    (C1 : Hid (∀ w : World, Calls Try.prog 24 #[v1] w fun e w' => e = .returned (.slice A n c) ∧ w = w')) (k : Int) (hk0 : k ≠ 0)
    (HQ : Hid (∀ W : World, Below w.heap.size w W → Calls Try.prog 23 #[.slice A n c] W fun e w' => e = .returned (err k) ∧ Below W.heap.size W w'))
    (HW : Hid (∀ W : World, Below w.heap.size w W → Calls Try.prog 26 #[.slice A n c] W fun e w' => e = .returned (.int .i64 k) ∧ Below W.heap.size W w')) (hn : n < 20) :
    Calls Try.prog 8 #[v1, .agg #[.bool true, .int .u64 sh, .int .u64 sl], .agg #[.bool d6, .int .u64 dh, .int .u64 dl], .int .i64 proto, .int .i64 size] w fun e w' => e = .returned (.bool true) ∧ Below w.heap.size w w' := by
  have HAW := Lib.hid awake_any
  have HZ := Lib.hid (show ((w.alloc (.cells #[.bool true, .int .u64 sh, .int .u64 sl] 41)).alloc (.cells #[.bool d6, .int .u64 dh, .int .u64 dl] 41)).heap.size = w.heap.size + 1 + 1 by simp)
  have HB0 := Lib.hid (show Below w.heap.size w ((w.alloc (.cells #[.bool true, .int .u64 sh, .int .u64 sl] 41)).alloc (.cells #[.bool d6, .int .u64 dh, .int .u64 dl] 41)) from ((Below.refl _ _).alloc (Nat.le_refl _) _).alloc (by simp) _)
  have BS0 := Lib.hid ((Blk.new w 41 #[.bool true, .int .u64 sh, .int .u64 sl]).alloc (.cells #[.bool d6, .int .u64 dh, .int .u64 dl] 41))
  have hbd := Blk.new (w.alloc (.cells #[.bool true, .int .u64 sh, .int .u64 sl] 41)) 41 #[.bool d6, .int .u64 dh, .int .u64 dl]
  rw [show (w.alloc (.cells #[.bool true, .int .u64 sh, .int .u64 sl] 41)).heap.size = w.heap.size + 1 by simp] at hbd
  have BD0 := Lib.hid hbd
  clear hbd
  have tn : decide ((20 : Int) ≤ (n : Int)) = false := decide_eq_false (by omega)
  have tk : (k != 0) = true := bneT hk0
  have tk2 : (k == 0) = false := eqF hk0
  clear hk0
  go_enter Try.func8, Try.ntmps8
  go_wp2_with fail
  refine (C1.out _).mono ?_
  rintro e w' ⟨rfl, rfl⟩
  go_wp2_with fail
  refine (HQ.out _ HB0.out).mono ?_
  rintro e w1 ⟨rfl, hb⟩
  unfold err
  have HB1 := Lib.hid ((bel_to HB0.out hb HB0.out.size).alloc (Nat.le_trans HB0.out.size hb.size) (.cells #[.int .i64 0, .int .i64 0, .bool false, .bool false, .int .i64 0, .int .i64 0, .int .i64 0, .bool false, .int .u64 0, .int .u64 0, .bool false, .int .u64 0, .int .u64 0, .slice none 0 0] 54))
  have BS1 := Lib.hid ((BS0.out.below hb BS0.out.lt).alloc (.cells #[.int .i64 0, .int .i64 0, .bool false, .bool false, .int .i64 0, .int .i64 0, .int .i64 0, .bool false, .int .u64 0, .int .u64 0, .bool false, .int .u64 0, .int .u64 0, .slice none 0 0] 54))
  have BD1 := Lib.hid ((BD0.out.below hb BD0.out.lt).alloc (.cells #[.int .i64 0, .int .i64 0, .bool false, .bool false, .int .i64 0, .int .i64 0, .int .i64 0, .bool false, .int .u64 0, .int .u64 0, .bool false, .int .u64 0, .int .u64 0, .slice none 0 0] 54))
  have HW2 := Lib.hid (HW.out (w1.alloc (.cells #[.int .i64 0, .int .i64 0, .bool false, .bool false, .int .i64 0, .int .i64 0, .int .i64 0, .bool false, .int .u64 0, .int .u64 0, .bool false, .int .u64 0, .int .u64 0, .slice none 0 0] 54)) HB1.out)
  clear hb BS0 BD0
  go_wp2_with fail
  refine HW2.out.mono ?_
  rintro e w2 ⟨rfl, hb2⟩
  have HB2 := Lib.hid (bel_to HB1.out hb2 HB1.out.size)
  have BS2 := Lib.hid (BS1.out.below hb2 BS1.out.lt)
  have BD2 := Lib.hid (BD1.out.below hb2 BD1.out.lt)
  clear hb2 BS1 BD1 HW2 HB1
  have q0 : w2.cell? ⟨w.heap.size, 0, none⟩ = some (.bool true) := BS2.out.cell 0
  have q1 : w2.cell? ⟨w.heap.size, 1, none⟩ = some (.int .u64 sh) := BS2.out.cell 1
  have q2 : w2.cell? ⟨w.heap.size, 2, none⟩ = some (.int .u64 sl) := BS2.out.cell 2
  have r0 : w2.cell? ⟨w.heap.size + 1, 0, none⟩ = some (.bool d6) := BD2.out.cell 0
  have r1 : w2.cell? ⟨w.heap.size + 1, 1, none⟩ = some (.int .u64 dh) := BD2.out.cell 1
  have r2 : w2.cell? ⟨w.heap.size + 1, 2, none⟩ = some (.int .u64 dl) := BD2.out.cell 2
  go_wp2_with fail
  refine (HAW.out _).mono ?_
  rintro e w4 ⟨rfl, hb4⟩
  go_wp2_with fail
  go_ret
  exact ⟨rfl, bel_to HB2.out hb4 HB2.out.size⟩
set_option maxRecDepth 100000 in
set_option maxHeartbeats 4000000 in
theorem short_x (v1 : Value) (A : Option Addr) (n c : Nat) (sh sl dh dl : Int) (proto size : Int) (w : World) (l0 : 0 ≤ sl ∧ sl < 18446744073709551616) (l1 : 0 ≤ dl ∧ dl < 18446744073709551616) (l2 : 0 ≤ sh) (l3 : 0 ≤ dh)
    (C1 : Hid (∀ w : World, Calls Try.prog 24 #[v1] w fun e w' => e = .returned (.slice A n c) ∧ w = w')) (k : Int) (hk0 : k ≠ 0)
    (HQ : Hid (∀ W : World, Below w.heap.size w W → Calls Try.prog 23 #[.slice A n c] W fun e w' => e = .returned (err k) ∧ Below W.heap.size W w'))
    (HW : Hid (∀ W : World, Below w.heap.size w W → Calls Try.prog 26 #[.slice A n c] W fun e w' => e = .returned (.int .i64 k) ∧ Below W.heap.size W w')) (hn : n < 20) :
    Calls Try.prog 8 #[v1, .agg #[.bool false, .int .u64 sh, .int .u64 sl], .agg #[.bool true, .int .u64 dh, .int .u64 dl], .int .i64 proto, .int .i64 size] w fun e w' => e = .returned (.bool true) ∧ Below w.heap.size w w' := by
  have HAW := Lib.hid awake_any
  have HZ := Lib.hid (show ((w.alloc (.cells #[.bool false, .int .u64 sh, .int .u64 sl] 41)).alloc (.cells #[.bool true, .int .u64 dh, .int .u64 dl] 41)).heap.size = w.heap.size + 1 + 1 by simp)
  have HB0 := Lib.hid (show Below w.heap.size w ((w.alloc (.cells #[.bool false, .int .u64 sh, .int .u64 sl] 41)).alloc (.cells #[.bool true, .int .u64 dh, .int .u64 dl] 41)) from ((Below.refl _ _).alloc (Nat.le_refl _) _).alloc (by simp) _)
  have BS0 := Lib.hid ((Blk.new w 41 #[.bool false, .int .u64 sh, .int .u64 sl]).alloc (.cells #[.bool true, .int .u64 dh, .int .u64 dl] 41))
  have hbd := Blk.new (w.alloc (.cells #[.bool false, .int .u64 sh, .int .u64 sl] 41)) 41 #[.bool true, .int .u64 dh, .int .u64 dl]
  rw [show (w.alloc (.cells #[.bool false, .int .u64 sh, .int .u64 sl] 41)).heap.size = w.heap.size + 1 by simp] at hbd
  have BD0 := Lib.hid hbd
  clear hbd
  have tn : decide ((20 : Int) ≤ (n : Int)) = false := decide_eq_false (by omega)
  have tk : (k != 0) = true := bneT hk0
  have tk2 : (k == 0) = false := eqF hk0
  clear hk0
  go_enter Try.func8, Try.ntmps8
  go_wp2_with fail
  refine (C1.out _).mono ?_
  rintro e w' ⟨rfl, rfl⟩
  go_wp2_with fail
  refine (HQ.out _ HB0.out).mono ?_
  rintro e w1 ⟨rfl, hb⟩
  unfold err
  have HB1 := Lib.hid ((bel_to HB0.out hb HB0.out.size).alloc (Nat.le_trans HB0.out.size hb.size) (.cells #[.int .i64 0, .int .i64 0, .bool false, .bool false, .int .i64 0, .int .i64 0, .int .i64 0, .bool false, .int .u64 0, .int .u64 0, .bool false, .int .u64 0, .int .u64 0, .slice none 0 0] 54))
  have BS1 := Lib.hid ((BS0.out.below hb BS0.out.lt).alloc (.cells #[.int .i64 0, .int .i64 0, .bool false, .bool false, .int .i64 0, .int .i64 0, .int .i64 0, .bool false, .int .u64 0, .int .u64 0, .bool false, .int .u64 0, .int .u64 0, .slice none 0 0] 54))
  have BD1 := Lib.hid ((BD0.out.below hb BD0.out.lt).alloc (.cells #[.int .i64 0, .int .i64 0, .bool false, .bool false, .int .i64 0, .int .i64 0, .int .i64 0, .bool false, .int .u64 0, .int .u64 0, .bool false, .int .u64 0, .int .u64 0, .slice none 0 0] 54))
  have HW2 := Lib.hid (HW.out (w1.alloc (.cells #[.int .i64 0, .int .i64 0, .bool false, .bool false, .int .i64 0, .int .i64 0, .int .i64 0, .bool false, .int .u64 0, .int .u64 0, .bool false, .int .u64 0, .int .u64 0, .slice none 0 0] 54)) HB1.out)
  clear hb BS0 BD0
  go_wp2_with fail
  refine HW2.out.mono ?_
  rintro e w2 ⟨rfl, hb2⟩
  have HB2 := Lib.hid (bel_to HB1.out hb2 HB1.out.size)
  have BS2 := Lib.hid (BS1.out.below hb2 BS1.out.lt)
  have BD2 := Lib.hid (BD1.out.below hb2 BD1.out.lt)
  clear hb2 BS1 BD1 HW2 HB1
  have q0 : w2.cell? ⟨w.heap.size, 0, none⟩ = some (.bool false) := BS2.out.cell 0
  have q1 : w2.cell? ⟨w.heap.size, 1, none⟩ = some (.int .u64 sh) := BS2.out.cell 1
  have q2 : w2.cell? ⟨w.heap.size, 2, none⟩ = some (.int .u64 sl) := BS2.out.cell 2
  have r0 : w2.cell? ⟨w.heap.size + 1, 0, none⟩ = some (.bool true) := BD2.out.cell 0
  have r1 : w2.cell? ⟨w.heap.size + 1, 1, none⟩ = some (.int .u64 dh) := BD2.out.cell 1
  have r2 : w2.cell? ⟨w.heap.size + 1, 2, none⟩ = some (.int .u64 dl) := BD2.out.cell 2
  go_wp2_with fail
  refine (HAW.out _).mono ?_
  rintro e w4 ⟨rfl, hb4⟩
  go_wp2_with fail
  go_ret
  exact ⟨rfl, bel_to HB2.out hb4 HB2.out.size⟩
end Go.Proofs.Ytgikoljnmmnkkaa.fourT
