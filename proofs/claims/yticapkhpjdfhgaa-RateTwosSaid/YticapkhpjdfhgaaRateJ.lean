/- Layer 37: the law on two buckets. -/
import Derived.Test.YticapkhpjdfhgaaRateI
namespace Go.Proofs.Yticapkhpjdfhgaa.rateJ
open Go.ChangeShapes Go.WideShapes Go.ChangeAt Go.RowKit
open Go.Proofs.Yticapkhpjdfhgaa.base Go.Proofs.Yticapkhpjdfhgaa.rateA Go.Proofs.Yticapkhpjdfhgaa.rateB Go.Proofs.Yticapkhpjdfhgaa.rateC Go.Proofs.Yticapkhpjdfhgaa.rateD Go.Proofs.Yticapkhpjdfhgaa.rateE Go.Proofs.Yticapkhpjdfhgaa.rateI
set_option linter.unusedVariables false

set_option maxHeartbeats 2000000 in
theorem twos_nn (E M E2 M2 : Int) (A : Option Addr) (m c : Nat) (n : Int) (w : World) (hr : rightB E M = false) (hs : rightB E2 M2 = false) :
    Calls Try.prog 10 #[.agg #[.int .i64 E, .int .i64 M], .agg #[.int .i64 E2, .int .i64 M2], .slice A m c, .int .i64 n] w fun e w' => e = .returned (.bool true) ∧ Below w.heap.size w w' := by
  have hn := Lib.hid (fun w => new_no E M w hr)
  have hn2 := Lib.hid (fun w => new_no E2 M2 w hs)
  clear hr hs
  have hz := Blk.new ((w.alloc (.cells #[.int .i64 E, .int .i64 M] 33)).alloc (.cells #[.int .i64 E2, .int .i64 M2] 33)) 41 #[.int .i64 0, .int .i64 0, .int .i64 0, .int .i64 0, .bool false]
  have hx := ((Blk.new w 33 #[.int .i64 E, .int .i64 M]).alloc (.cells #[.int .i64 E2, .int .i64 M2] 33)).alloc (.cells #[.int .i64 0, .int .i64 0, .int .i64 0, .int .i64 0, .bool false] 41)
  have hy := (Blk.new (w.alloc (.cells #[.int .i64 E, .int .i64 M] 33)) 33 #[.int .i64 E2, .int .i64 M2]).alloc (.cells #[.int .i64 0, .int .i64 0, .int .i64 0, .int .i64 0, .bool false] 41)
  have hb0 : Below w.heap.size w (((w.alloc (.cells #[.int .i64 E, .int .i64 M] 33)).alloc (.cells #[.int .i64 E2, .int .i64 M2] 33)).alloc (.cells #[.int .i64 0, .int .i64 0, .int .i64 0, .int .i64 0, .bool false] 41)) := (((Below.refl _ _).alloc (Nat.le_refl _) _).alloc (by simp) _).alloc (by simp; omega) _
  have hs0 : (((w.alloc (.cells #[.int .i64 E, .int .i64 M] 33)).alloc (.cells #[.int .i64 E2, .int .i64 M2] 33)).alloc (.cells #[.int .i64 0, .int .i64 0, .int .i64 0, .int .i64 0, .bool false] 41)).heap.size = w.heap.size + 3 := by simp
  have es1 : ((w.alloc (.cells #[.int .i64 E, .int .i64 M] 33)).alloc (.cells #[.int .i64 E2, .int .i64 M2] 33)).heap.size = w.heap.size + 1 + 1 := by simp
  have es2 : (w.alloc (.cells #[.int .i64 E, .int .i64 M] 33)).heap.size = w.heap.size + 1 := by simp
  rw [es1] at hz
  rw [es2] at hy
  have HZ := Lib.hid hz
  have HX := Lib.hid hx
  have HY := Lib.hid hy
  have HB0 := Lib.hid hb0
  have HS0 := Lib.hid hs0
  clear hz hx hy hb0 hs0 es1 es2
  go_enter Try.func10, Try.ntmps10
  go_wp2_with fail
  generalize (((w.alloc (.cells #[.int .i64 E, .int .i64 M] 33)).alloc (.cells #[.int .i64 E2, .int .i64 M2] 33)).alloc (.cells #[.int .i64 0, .int .i64 0, .int .i64 0, .int .i64 0, .bool false] 41)) = w0 at *
  refine (have_nil _).mono ?_
  rintro e w' ⟨rfl, rfl⟩
  go_wp2_with fail
  refine (now_not (w.heap.size + 1 + 1) _ (HZ.out.cell 4)).mono ?_
  rintro e w' ⟨rfl, rfl⟩
  go_wp2_with fail
  refine (go_nil _ _).mono ?_
  rintro e w' ⟨rfl, rfl⟩
  go_wp2_with fail
  refine (take_not (w.heap.size + 1 + 1) _ _ (HZ.out.cell 4)).mono ?_
  rintro e w' ⟨rfl, rfl⟩
  go_wp2_with fail
  refine (wait_nil _ _).mono ?_
  rintro e w' ⟨rfl, rfl⟩
  go_wp2_with fail
  refine (pass_nil _ _).mono ?_
  rintro e w1 ⟨rfl, hp⟩
  have hx1 := HX.out.below hp HX.out.lt
  have hy1 := HY.out.below hp HY.out.lt
  have hb1 := HB0.out.trans (hp.mono HB0.out.size)
  have hs1 : w.heap.size + 3 ≤ w1.heap.size := by have := hp.size; have := HS0.out; omega
  have x0 := hx1.cell 0
  have x1 := hx1.cell 1
  have y0 := hy1.cell 0
  have y1 := hy1.cell 1
  simp only [List.getElem?_toArray, List.getElem?_cons_zero, List.getElem?_cons_succ] at x0 x1 y0 y1
  have HY1 := Lib.hid hy1
  have HB1 := Lib.hid hb1
  clear hx1 hy1 hb1 hp HZ HX HY
  go_wp2_with fail
  refine (hn.out _).mono ?_
  rintro e w2 ⟨rfl, hb2⟩
  have y0' := kept y0 hb2
  have y1' := kept y1 hb2
  have HB2 := Lib.hid hb2
  clear hb2
  go_wp2_with fail
  refine (hn2.out _).mono ?_
  rintro e w3 ⟨rfl, hb3⟩
  have HB3 := Lib.hid hb3
  clear hb3
  go_wp2_with fail
  refine (awake_any _).mono ?_
  rintro e w4 ⟨rfl, hb4⟩
  go_wp2_with fail
  go_ret
  exact ⟨rfl, bel_call (bel_call (bel_call HB1.out HB2.out) HB3.out) hb4⟩

set_option maxHeartbeats 2000000 in
theorem twos_ny (E M E2 M2 : Int) (A : Option Addr) (m c : Nat) (n : Int) (w : World) (hr : rightB E M = false) (hs : rightB E2 M2 = true) :
    Calls Try.prog 10 #[.agg #[.int .i64 E, .int .i64 M], .agg #[.int .i64 E2, .int .i64 M2], .slice A m c, .int .i64 n] w fun e w' => e = .returned (.bool true) ∧ Below w.heap.size w w' := by
  have hn := Lib.hid (fun w => new_no E M w hr)
  have hn2 := Lib.hid (fun w => new_yes E2 M2 w hs)
  clear hr hs
  have hz := Blk.new ((w.alloc (.cells #[.int .i64 E, .int .i64 M] 33)).alloc (.cells #[.int .i64 E2, .int .i64 M2] 33)) 41 #[.int .i64 0, .int .i64 0, .int .i64 0, .int .i64 0, .bool false]
  have hx := ((Blk.new w 33 #[.int .i64 E, .int .i64 M]).alloc (.cells #[.int .i64 E2, .int .i64 M2] 33)).alloc (.cells #[.int .i64 0, .int .i64 0, .int .i64 0, .int .i64 0, .bool false] 41)
  have hy := (Blk.new (w.alloc (.cells #[.int .i64 E, .int .i64 M] 33)) 33 #[.int .i64 E2, .int .i64 M2]).alloc (.cells #[.int .i64 0, .int .i64 0, .int .i64 0, .int .i64 0, .bool false] 41)
  have hb0 : Below w.heap.size w (((w.alloc (.cells #[.int .i64 E, .int .i64 M] 33)).alloc (.cells #[.int .i64 E2, .int .i64 M2] 33)).alloc (.cells #[.int .i64 0, .int .i64 0, .int .i64 0, .int .i64 0, .bool false] 41)) := (((Below.refl _ _).alloc (Nat.le_refl _) _).alloc (by simp) _).alloc (by simp; omega) _
  have hs0 : (((w.alloc (.cells #[.int .i64 E, .int .i64 M] 33)).alloc (.cells #[.int .i64 E2, .int .i64 M2] 33)).alloc (.cells #[.int .i64 0, .int .i64 0, .int .i64 0, .int .i64 0, .bool false] 41)).heap.size = w.heap.size + 3 := by simp
  have es1 : ((w.alloc (.cells #[.int .i64 E, .int .i64 M] 33)).alloc (.cells #[.int .i64 E2, .int .i64 M2] 33)).heap.size = w.heap.size + 1 + 1 := by simp
  have es2 : (w.alloc (.cells #[.int .i64 E, .int .i64 M] 33)).heap.size = w.heap.size + 1 := by simp
  rw [es1] at hz
  rw [es2] at hy
  have HZ := Lib.hid hz
  have HX := Lib.hid hx
  have HY := Lib.hid hy
  have HB0 := Lib.hid hb0
  have HS0 := Lib.hid hs0
  clear hz hx hy hb0 hs0 es1 es2
  go_enter Try.func10, Try.ntmps10
  go_wp2_with fail
  generalize (((w.alloc (.cells #[.int .i64 E, .int .i64 M] 33)).alloc (.cells #[.int .i64 E2, .int .i64 M2] 33)).alloc (.cells #[.int .i64 0, .int .i64 0, .int .i64 0, .int .i64 0, .bool false] 41)) = w0 at *
  refine (have_nil _).mono ?_
  rintro e w' ⟨rfl, rfl⟩
  go_wp2_with fail
  refine (now_not (w.heap.size + 1 + 1) _ (HZ.out.cell 4)).mono ?_
  rintro e w' ⟨rfl, rfl⟩
  go_wp2_with fail
  refine (go_nil _ _).mono ?_
  rintro e w' ⟨rfl, rfl⟩
  go_wp2_with fail
  refine (take_not (w.heap.size + 1 + 1) _ _ (HZ.out.cell 4)).mono ?_
  rintro e w' ⟨rfl, rfl⟩
  go_wp2_with fail
  refine (wait_nil _ _).mono ?_
  rintro e w' ⟨rfl, rfl⟩
  go_wp2_with fail
  refine (pass_nil _ _).mono ?_
  rintro e w1 ⟨rfl, hp⟩
  have hx1 := HX.out.below hp HX.out.lt
  have hy1 := HY.out.below hp HY.out.lt
  have hb1 := HB0.out.trans (hp.mono HB0.out.size)
  have hs1 : w.heap.size + 3 ≤ w1.heap.size := by have := hp.size; have := HS0.out; omega
  have x0 := hx1.cell 0
  have x1 := hx1.cell 1
  have y0 := hy1.cell 0
  have y1 := hy1.cell 1
  simp only [List.getElem?_toArray, List.getElem?_cons_zero, List.getElem?_cons_succ] at x0 x1 y0 y1
  have HY1 := Lib.hid hy1
  have HB1 := Lib.hid hb1
  clear hx1 hy1 hb1 hp HZ HX HY
  go_wp2_with fail
  refine (hn.out _).mono ?_
  rintro e w2 ⟨rfl, hb2⟩
  have y0' := kept y0 hb2
  have y1' := kept y1 hb2
  have HB2 := Lib.hid hb2
  clear hb2
  go_wp2_with fail
  refine (hn2.out _).mono ?_
  rintro e w3 ⟨g, rfl, hg, hbk, hb3⟩
  have HB3 := Lib.hid hb3
  clear hb3 hbk
  go_wp2_with fail
  refine (awake_any _).mono ?_
  rintro e w4 ⟨rfl, hb4⟩
  go_wp2_with fail
  go_ret
  exact ⟨rfl, bel_call (bel_call (bel_call HB1.out HB2.out) HB3.out) hb4⟩

set_option maxHeartbeats 2000000 in
theorem twos_yn (E M E2 M2 : Int) (A : Option Addr) (m c : Nat) (n : Int) (w : World) (hr : rightB E M = true) (hs : rightB E2 M2 = false) :
    Calls Try.prog 10 #[.agg #[.int .i64 E, .int .i64 M], .agg #[.int .i64 E2, .int .i64 M2], .slice A m c, .int .i64 n] w fun e w' => e = .returned (.bool true) ∧ Below w.heap.size w w' := by
  have hn := Lib.hid (fun w => new_yes E M w hr)
  have hn2 := Lib.hid (fun w => new_no E2 M2 w hs)
  clear hr hs
  have hz := Blk.new ((w.alloc (.cells #[.int .i64 E, .int .i64 M] 33)).alloc (.cells #[.int .i64 E2, .int .i64 M2] 33)) 41 #[.int .i64 0, .int .i64 0, .int .i64 0, .int .i64 0, .bool false]
  have hx := ((Blk.new w 33 #[.int .i64 E, .int .i64 M]).alloc (.cells #[.int .i64 E2, .int .i64 M2] 33)).alloc (.cells #[.int .i64 0, .int .i64 0, .int .i64 0, .int .i64 0, .bool false] 41)
  have hy := (Blk.new (w.alloc (.cells #[.int .i64 E, .int .i64 M] 33)) 33 #[.int .i64 E2, .int .i64 M2]).alloc (.cells #[.int .i64 0, .int .i64 0, .int .i64 0, .int .i64 0, .bool false] 41)
  have hb0 : Below w.heap.size w (((w.alloc (.cells #[.int .i64 E, .int .i64 M] 33)).alloc (.cells #[.int .i64 E2, .int .i64 M2] 33)).alloc (.cells #[.int .i64 0, .int .i64 0, .int .i64 0, .int .i64 0, .bool false] 41)) := (((Below.refl _ _).alloc (Nat.le_refl _) _).alloc (by simp) _).alloc (by simp; omega) _
  have hs0 : (((w.alloc (.cells #[.int .i64 E, .int .i64 M] 33)).alloc (.cells #[.int .i64 E2, .int .i64 M2] 33)).alloc (.cells #[.int .i64 0, .int .i64 0, .int .i64 0, .int .i64 0, .bool false] 41)).heap.size = w.heap.size + 3 := by simp
  have es1 : ((w.alloc (.cells #[.int .i64 E, .int .i64 M] 33)).alloc (.cells #[.int .i64 E2, .int .i64 M2] 33)).heap.size = w.heap.size + 1 + 1 := by simp
  have es2 : (w.alloc (.cells #[.int .i64 E, .int .i64 M] 33)).heap.size = w.heap.size + 1 := by simp
  rw [es1] at hz
  rw [es2] at hy
  have HZ := Lib.hid hz
  have HX := Lib.hid hx
  have HY := Lib.hid hy
  have HB0 := Lib.hid hb0
  have HS0 := Lib.hid hs0
  clear hz hx hy hb0 hs0 es1 es2
  go_enter Try.func10, Try.ntmps10
  go_wp2_with fail
  generalize (((w.alloc (.cells #[.int .i64 E, .int .i64 M] 33)).alloc (.cells #[.int .i64 E2, .int .i64 M2] 33)).alloc (.cells #[.int .i64 0, .int .i64 0, .int .i64 0, .int .i64 0, .bool false] 41)) = w0 at *
  refine (have_nil _).mono ?_
  rintro e w' ⟨rfl, rfl⟩
  go_wp2_with fail
  refine (now_not (w.heap.size + 1 + 1) _ (HZ.out.cell 4)).mono ?_
  rintro e w' ⟨rfl, rfl⟩
  go_wp2_with fail
  refine (go_nil _ _).mono ?_
  rintro e w' ⟨rfl, rfl⟩
  go_wp2_with fail
  refine (take_not (w.heap.size + 1 + 1) _ _ (HZ.out.cell 4)).mono ?_
  rintro e w' ⟨rfl, rfl⟩
  go_wp2_with fail
  refine (wait_nil _ _).mono ?_
  rintro e w' ⟨rfl, rfl⟩
  go_wp2_with fail
  refine (pass_nil _ _).mono ?_
  rintro e w1 ⟨rfl, hp⟩
  have hx1 := HX.out.below hp HX.out.lt
  have hy1 := HY.out.below hp HY.out.lt
  have hb1 := HB0.out.trans (hp.mono HB0.out.size)
  have hs1 : w.heap.size + 3 ≤ w1.heap.size := by have := hp.size; have := HS0.out; omega
  have x0 := hx1.cell 0
  have x1 := hx1.cell 1
  have y0 := hy1.cell 0
  have y1 := hy1.cell 1
  simp only [List.getElem?_toArray, List.getElem?_cons_zero, List.getElem?_cons_succ] at x0 x1 y0 y1
  have HY1 := Lib.hid hy1
  have HB1 := Lib.hid hb1
  clear hx1 hy1 hb1 hp HZ HX HY
  go_wp2_with fail
  refine (hn.out _).mono ?_
  rintro e w2 ⟨g, rfl, hg, hbk, hb2⟩
  have y0' := kept y0 hb2
  have y1' := kept y1 hb2
  have HB2 := Lib.hid hb2
  clear hb2 hbk
  go_wp2_with fail
  refine (hn2.out _).mono ?_
  rintro e w3 ⟨rfl, hb3⟩
  have HB3 := Lib.hid hb3
  clear hb3
  go_wp2_with fail
  refine (awake_any _).mono ?_
  rintro e w4 ⟨rfl, hb4⟩
  go_wp2_with fail
  go_ret
  exact ⟨rfl, bel_call (bel_call (bel_call HB1.out HB2.out) HB3.out) hb4⟩

set_option maxRecDepth 100000 in
set_option maxHeartbeats 8000000 in
theorem twos_yy (E M E2 M2 : Int) (A : Option Addr) (m c : Nat) (n : Int) (xs : List (Int × Int)) (w : World) (hr : rightB E M = true) (hs : rightB E2 M2 = true) (hl : xs.length = m) (hx : ok64 xs) (hrow : RowP w w.heap.size A xs) (hc : m ≤ 9223372036854775807) :
    Calls Try.prog 10 #[.agg #[.int .i64 E, .int .i64 M], .agg #[.int .i64 E2, .int .i64 M2], .slice A m c, .int .i64 n] w fun e w' => e = .returned (.bool true) ∧ Below w.heap.size w w' := by
  have hrr : 0 ≤ E ∧ E ≤ 1099511627776 ∧ 1 ≤ M ∧ M ≤ 1099511627776 := by simpa [rightB] using hr
  have hss : 0 ≤ E2 ∧ E2 ≤ 1099511627776 ∧ 1 ≤ M2 ∧ M2 ≤ 1099511627776 := by simpa [rightB] using hs
  obtain ⟨E0, E1, M0, M1⟩ := hrr
  obtain ⟨F0, F1, N0, N1⟩ := hss
  have hn := Lib.hid (fun w => new_yes E M w hr)
  have hn2 := Lib.hid (fun w => new_yes E2 M2 w hs)
  have HN := Lib.hid hl
  have HXX := Lib.hid hx
  have HR := Lib.hid hrow
  clear hr hs hl hx hrow
  have hz := Blk.new ((w.alloc (.cells #[.int .i64 E, .int .i64 M] 33)).alloc (.cells #[.int .i64 E2, .int .i64 M2] 33)) 41 #[.int .i64 0, .int .i64 0, .int .i64 0, .int .i64 0, .bool false]
  have hx := ((Blk.new w 33 #[.int .i64 E, .int .i64 M]).alloc (.cells #[.int .i64 E2, .int .i64 M2] 33)).alloc (.cells #[.int .i64 0, .int .i64 0, .int .i64 0, .int .i64 0, .bool false] 41)
  have hy := (Blk.new (w.alloc (.cells #[.int .i64 E, .int .i64 M] 33)) 33 #[.int .i64 E2, .int .i64 M2]).alloc (.cells #[.int .i64 0, .int .i64 0, .int .i64 0, .int .i64 0, .bool false] 41)
  have hb0 : Below w.heap.size w (((w.alloc (.cells #[.int .i64 E, .int .i64 M] 33)).alloc (.cells #[.int .i64 E2, .int .i64 M2] 33)).alloc (.cells #[.int .i64 0, .int .i64 0, .int .i64 0, .int .i64 0, .bool false] 41)) := (((Below.refl _ _).alloc (Nat.le_refl _) _).alloc (by simp) _).alloc (by simp; omega) _
  have hs0 : (((w.alloc (.cells #[.int .i64 E, .int .i64 M] 33)).alloc (.cells #[.int .i64 E2, .int .i64 M2] 33)).alloc (.cells #[.int .i64 0, .int .i64 0, .int .i64 0, .int .i64 0, .bool false] 41)).heap.size = w.heap.size + 3 := by simp
  have es1 : ((w.alloc (.cells #[.int .i64 E, .int .i64 M] 33)).alloc (.cells #[.int .i64 E2, .int .i64 M2] 33)).heap.size = w.heap.size + 1 + 1 := by simp
  have es2 : (w.alloc (.cells #[.int .i64 E, .int .i64 M] 33)).heap.size = w.heap.size + 1 := by simp
  rw [es1] at hz
  rw [es2] at hy
  have HZ := Lib.hid hz
  have HX := Lib.hid hx
  have HY := Lib.hid hy
  have HB0 := Lib.hid hb0
  have HS0 := Lib.hid hs0
  clear hz hx hy hb0 hs0 es1 es2
  go_enter Try.func10, Try.ntmps10
  go_wp2_with fail
  generalize (((w.alloc (.cells #[.int .i64 E, .int .i64 M] 33)).alloc (.cells #[.int .i64 E2, .int .i64 M2] 33)).alloc (.cells #[.int .i64 0, .int .i64 0, .int .i64 0, .int .i64 0, .bool false] 41)) = w0 at *
  refine (have_nil _).mono ?_
  rintro e w' ⟨rfl, rfl⟩
  go_wp2_with fail
  refine (now_not (w.heap.size + 1 + 1) _ (HZ.out.cell 4)).mono ?_
  rintro e w' ⟨rfl, rfl⟩
  go_wp2_with fail
  refine (go_nil _ _).mono ?_
  rintro e w' ⟨rfl, rfl⟩
  go_wp2_with fail
  refine (take_not (w.heap.size + 1 + 1) _ _ (HZ.out.cell 4)).mono ?_
  rintro e w' ⟨rfl, rfl⟩
  go_wp2_with fail
  refine (wait_nil _ _).mono ?_
  rintro e w' ⟨rfl, rfl⟩
  go_wp2_with fail
  refine (pass_nil _ _).mono ?_
  rintro e w1 ⟨rfl, hp⟩
  have hx1 := HX.out.below hp HX.out.lt
  have hy1 := HY.out.below hp HY.out.lt
  have hb1 := HB0.out.trans (hp.mono HB0.out.size)
  have hs1 : w.heap.size + 3 ≤ w1.heap.size := by have := hp.size; have := HS0.out; omega
  have x0 := hx1.cell 0
  have x1 := hx1.cell 1
  have y0 := hy1.cell 0
  have y1 := hy1.cell 1
  simp only [List.getElem?_toArray, List.getElem?_cons_zero, List.getElem?_cons_succ] at x0 x1 y0 y1
  have HY1 := Lib.hid hy1
  have HB1 := Lib.hid hb1
  clear hx1 hy1 hb1 hp HZ HX HY
  go_wp2_with fail
  refine (hn.out _).mono ?_
  rintro e w2 ⟨ga, rfl, hga, hba, hb2⟩
  have y0' := kept y0 hb2
  have y1' := kept y1 hb2
  have HB2 := Lib.hid hb2
  have HBA := Lib.hid hba
  have hgal := hba.lt
  clear hb2 hba
  go_wp2_with fail
  refine (hn2.out _).mono ?_
  rintro e w3 ⟨gb, rfl, hgb, hbb, hb3⟩
  have hba3 : Bk w3 ga E M M 0 := Blk.below HBA.out hb3 hgal
  have hb30 := bel_call (bel_call HB1.out HB2.out) hb3
  have HBA3 := Lib.hid hba3
  have HBB3 := Lib.hid hbb
  have HL3 := Lib.hid hb30
  have hr3 := HR.out.below hb30
  have HR3 := Lib.hid hr3
  have hs3 := hb30.size
  have gane : ga ≠ gb := by omega
  have gbne : gb ≠ ga := by omega
  have ha0 : w.heap.size ≤ ga := by omega
  have hb0 : w.heap.size ≤ gb := by have := HB2.out.size; omega
  clear hb3 hba3 hbb hb30 hr3 x0 x1 y0 y1 y0' y1' HB2 HBA HY1
  go_wp2_with fail
  go_loopw [15] (fun i wr => ∃ (k : Nat) (Ha Hb Tb : Int), k ≤ 60 ∧ k ≤ m ∧ i = .int .i64 k ∧ Bk wr ga E M Ha 0 ∧ Bk wr gb E2 M2 Hb Tb ∧ inv M (Ha, 0) ∧ inv M2 (Hb, Tb) ∧ Below w.heap.size w wr) (fun i _ => 60 - (intOf i).toNat)
  case atStart => exact ⟨0, M, M2, 0, by omega, by omega, rfl, HBA3.out, HBB3.out, ⟨by dsimp only; omega, by dsimp only; omega, by dsimp only; omega, by dsimp only; omega⟩, ⟨by dsimp only; omega, by dsimp only; omega, by dsimp only; omega, by dsimp only; omega⟩, HL3.out⟩
  case round =>
    obtain ⟨k, Ha, Hb, Tb, hk, hkm, rfl, hba, hbb, ⟨a0, a1, a2, a3⟩, ⟨b0, b1, b2, b3⟩, hbel⟩ := hrel
    simp only at a0 a1 a2 a3 b0 b1 b2 b3
    have HA := Lib.hid hba
    have HB := Lib.hid hbb
    have HL := Lib.hid hbel
    have hsz := hbel.size
    by_cases hgo : k < m ∧ k < 60
    · obtain ⟨hlt, h60⟩ := hgo
      have hkl : k < xs.length := by rw [HN.out]; exact hlt
      obtain ⟨b, off, rfl, hbl, hcc⟩ := (HR.out.below hbel).at_ (by omega)
      obtain ⟨c0, c1⟩ := hcc k hkl
      have hxk := HXX.out k hkl
      clear hcc hba hbb hbel
      generalize xs.getD k (0, 0) = o at *
      obtain ⟨K, u⟩ := o
      simp only at c0 c1 hxk
      obtain ⟨x0, x1⟩ := hxk
      by_cases hK : K = 2
      · have t2 : (K != 2) = false := by simp [hK]
        clear hK
        by_cases hok : Tb ≤ u ∧ u ≤ 1099511627776
        · obtain ⟨o0, o1⟩ := hok
          have hfi := fill_in (M := M2) (d := u - Tb) F0 b0 b1 (by omega)
          go_wp2_with fail
          refine (go_ok gb E2 M2 Hb Tb u _ HB.out F0 F1 N1 b0 b1 b2 o0 o1).mono ?_
          rintro e w4 ⟨rfl, hb4, hg4⟩
          have ha4 : Bk w4 ga E M Ha 0 := Blk.grown HA.out hg4 (by simp; omega)
          have hl4 := below_pt HL.out hg4 hsz hb0
          have HA4 := Lib.hid ha4
          have HB4 := Lib.hid hb4
          have HL4 := Lib.hid hl4
          clear ha4 hb4 hg4 hl4
          go_wp2_with fail
          go_roundw
          case rel => exact ⟨k + 1, Ha, _, u, by omega, by omega, by go_num, HA4.out, HB4.out, ⟨by dsimp only; omega, by dsimp only; omega, by dsimp only; omega, by dsimp only; omega⟩, ⟨by dsimp only; omega, by dsimp only; omega, by dsimp only; omega, by dsimp only; omega⟩, HL4.out⟩
          case measure => simp [intOf]; omega
        · go_wp2_with fail
          refine (go_bad gb E2 M2 Hb Tb u _ HB.out (by omega)).mono ?_
          rintro e w' ⟨rfl, rfl⟩
          go_wp2_with fail
          go_roundw
          case rel => exact ⟨k + 1, Ha, Hb, Tb, by omega, by omega, by go_num, HA.out, HB.out, ⟨by dsimp only; omega, by dsimp only; omega, by dsimp only; omega, by dsimp only; omega⟩, ⟨by dsimp only; omega, by dsimp only; omega, by dsimp only; omega, by dsimp only; omega⟩, HL.out⟩
          case measure => simp [intOf]; omega
      · have t2 : (K != 2) = true := by simp [hK]
        clear hK
        by_cases hok : 0 ≤ u ∧ u ≤ Ha
        · obtain ⟨o0, o1⟩ := hok
          go_wp2_with fail
          refine (take_yes ga E M Ha 0 u _ HA.out o0 o1 (by omega)).mono ?_
          rintro e w' ⟨rfl, rfl⟩
          go_wp2_with fail
          go_roundw
          case rel => exact ⟨k + 1, Ha - u, Hb, Tb, by omega, by omega, by go_num, Bk.take HA.out _, Blk.far (p := ⟨ga, 2, none⟩) HB.out gbne _, ⟨by dsimp only; omega, by dsimp only; omega, by dsimp only; omega, by dsimp only; omega⟩, ⟨by dsimp only; omega, by dsimp only; omega, by dsimp only; omega, by dsimp only; omega⟩, HL.out.setCell (p := ⟨ga, 2, none⟩) ha0 _⟩
          case measure => simp [intOf]; omega
        · go_wp2_with fail
          refine (take_no ga E M Ha 0 u _ HA.out (by omega)).mono ?_
          rintro e w' ⟨rfl, rfl⟩
          go_wp2_with fail
          go_roundw
          case rel => exact ⟨k + 1, Ha, Hb, Tb, by omega, by omega, by go_num, HA.out, HB.out, ⟨by dsimp only; omega, by dsimp only; omega, by dsimp only; omega, by dsimp only; omega⟩, ⟨by dsimp only; omega, by dsimp only; omega, by dsimp only; omega, by dsimp only; omega⟩, HL.out⟩
          case measure => simp [intOf]; omega
    · have hend : m ≤ k ∨ (k < m ∧ 60 ≤ k) := by omega
      have hT : Below w.heap.size w (wr.alloc (.cells #[.pointer (some ⟨ga, 0, none⟩), .pointer (some ⟨gb, 0, none⟩)] 55)) := hbel.alloc hsz _
      have HT := Lib.hid hT
      have HAT := Lib.hid (Blk.alloc hba (.cells #[.pointer (some ⟨ga, 0, none⟩), .pointer (some ⟨gb, 0, none⟩)] 55) : Bk _ ga E M Ha 0)
      have HBT := Lib.hid (Blk.alloc hbb (.cells #[.pointer (some ⟨ga, 0, none⟩), .pointer (some ⟨gb, 0, none⟩)] 55) : Bk _ gb E2 M2 Hb Tb)
      have qa : (Ha == Ha) = true := by simp
      have qb : (Hb == Hb) = true := by simp
      have qc : (Ha - n == Ha - n) = true := by simp
      have qd : (Hb - n == Hb - n) = true := by simp
      clear hgo hba hbb hbel hT
      by_cases hok : 0 ≤ n ∧ n ≤ Ha ∧ n ≤ Hb
      · obtain ⟨n0, na, nb⟩ := hok
        rcases hend with g1 | ⟨g0, g1⟩
        all_goals
          go_wp2_with fail
          refine (have_any ga E M Ha 0 _ HA.out).mono ?_
          rintro e w' ⟨rfl, rfl⟩
          go_wp2_with fail
          refine (have_any gb E2 M2 Hb Tb _ HB.out).mono ?_
          rintro e w' ⟨rfl, rfl⟩
          go_wp2_with fail
          refine (pass_yes w.heap.size ga gb E M Ha 0 E2 M2 Hb Tb n _ HT.out.size ha0 hb0 gane HAT.out HBT.out n0 na nb (by omega) (by omega)).mono ?_
          rintro e w5 ⟨rfl, hb5, hc5, hl5⟩
          have HA5 := Lib.hid hb5
          have HB5 := Lib.hid hc5
          have HL5 := Lib.hid (HT.out.trans hl5)
          clear hb5 hc5 hl5
          go_wp2_with fail
          refine (have_any ga E M (Ha - n) 0 _ HA5.out).mono ?_
          rintro e w' ⟨rfl, rfl⟩
          go_wp2_with fail
          refine (have_any gb E2 M2 (Hb - n) Tb _ HB5.out).mono ?_
          rintro e w' ⟨rfl, rfl⟩
          go_wp2_with fail
          refine (awake_any _).mono ?_
          rintro e w6 ⟨rfl, hb6⟩
          go_wp2_with fail
          go_ret
          exact ⟨rfl, bel_call HL5.out hb6⟩
      · have hno : n < 0 ∨ (0 ≤ n ∧ Ha < n) ∨ (0 ≤ n ∧ n ≤ Ha ∧ Hb < n) := by omega
        have HOK := Lib.hid hok
        clear hok
        rcases hend with g1 | ⟨g0, g1⟩
        all_goals
          rcases hno with f0 | ⟨f0, f1⟩ | ⟨f0, f1, f2⟩
          all_goals
            (try have d1 : decide (n ≤ Ha) = false := by simp; omega)
            (try have d2 : decide (n ≤ Hb) = false := by simp; omega)
            go_wp2_with fail
            refine (have_any ga E M Ha 0 _ HA.out).mono ?_
            rintro e w' ⟨rfl, rfl⟩
            go_wp2_with fail
            refine (have_any gb E2 M2 Hb Tb _ HB.out).mono ?_
            rintro e w' ⟨rfl, rfl⟩
            go_wp2_with fail
            refine (pass_no w.heap.size ga gb E M Ha 0 E2 M2 Hb Tb n _ HT.out.size HAT.out HBT.out HOK.out).mono ?_
            rintro e w5 ⟨rfl, hb5, hc5, hl5⟩
            have HA5 := Lib.hid hb5
            have HB5 := Lib.hid hc5
            have HL5 := Lib.hid (HT.out.trans hl5)
            clear hb5 hc5 hl5
            go_wp2_with fail
            refine (have_any ga E M Ha 0 _ HA5.out).mono ?_
            rintro e w' ⟨rfl, rfl⟩
            go_wp2_with fail
            refine (have_any gb E2 M2 Hb Tb _ HB5.out).mono ?_
            rintro e w' ⟨rfl, rfl⟩
            go_wp2_with fail
            refine (awake_any _).mono ?_
            rintro e w6 ⟨rfl, hb6⟩
            go_wp2_with fail
            go_ret
            exact ⟨rfl, bel_call HL5.out hb6⟩
end Go.Proofs.Yticapkhpjdfhgaa.rateJ
