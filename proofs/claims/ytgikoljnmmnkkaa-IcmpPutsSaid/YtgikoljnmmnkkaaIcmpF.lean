/- Layer 12: the law on messages that are put. -/
import Derived.Test.YtgikoljnmmnkkaaIcmpE
namespace Go.Proofs.Ytgikoljnmmnkkaa.icmpF
open Go.ChangeShapes Go.WideShapes Go.ChangeAt Go.RowKit
open Go.Proofs.Ytgikoljnmmnkkaa.base Go.Proofs.Ytgikoljnmmnkkaa.sumA Go.Proofs.Ytgikoljnmmnkkaa.sumB Go.Proofs.Ytgikoljnmmnkkaa.octA Go.Proofs.Ytgikoljnmmnkkaa.octB Go.Proofs.Ytgikoljnmmnkkaa.octC Go.Proofs.Ytgikoljnmmnkkaa.octD Go.Proofs.Ytgikoljnmmnkkaa.octE Go.Proofs.Ytgikoljnmmnkkaa.octF Go.Proofs.Ytgikoljnmmnkkaa.octK Go.Proofs.Ytgikoljnmmnkkaa.rdrA Go.Proofs.Ytgikoljnmmnkkaa.udpA Go.Proofs.Ytgikoljnmmnkkaa.tcpC Go.Proofs.Ytgikoljnmmnkkaa.net Go.Proofs.Ytgikoljnmmnkkaa.icmpA Go.Proofs.Ytgikoljnmmnkkaa.icmpC Go.Proofs.Ytgikoljnmmnkkaa.icmpD Go.Proofs.Ytgikoljnmmnkkaa.icmpE
set_option linter.unusedVariables false

set_option maxRecDepth 100000 in
set_option maxHeartbeats 4000000 in
theorem wrong_even (v1 v2 : Value) (AO : Option Addr) (no c0 : Nat) (A1 : Option Addr) (n1 n2 c1 c2 : Nat) (l1 l3 : List Int) (ty co wd : Int) (w : World) (A2 : Option Addr) (h1 : l1.length = n1) (k1 : n1 ≤ 300) (k2 : n2 ≤ 300) (hn2 : n2 ≤ c2) (hc2 : c2 ≤ 9223372036854775807) (z1 : A1 = none → c1 = 0) (r1 : Row w w.heap.size A1 (l1.map (.int .u8))) (b1 : ∀ x ∈ l1, 0 ≤ x ∧ x ≤ 255) (b3 : ∀ x ∈ l3, 0 ≤ x ∧ x ≤ 255) (s5 : 0 ≤ wd) (s6 : wd ≤ 4294967295)
    (he : n2 % 2 = 0) (h3 : l3.length = n2) (r3 : Row w w.heap.size A2 (l3.map (.int .u8))) (z3 : A2 = none → c2 = 0)
    (C1 : Hid (∀ w : World, Calls Try.prog 11 #[.slice AO no c0] w fun e w' => e = .returned (.slice A1 n1 c1) ∧ w = w'))
    (C2 : Hid (∀ w : World, Calls Try.prog 11 #[v2] w fun e w' => e = .returned (.slice A2 n2 c2) ∧ w = w'))
    (hp : ¬ okM ty co) :
    Calls Try.prog 4 #[.agg #[.int .i64 ty, .int .i64 co, .int .u32 wd, .slice AO no c0], v2] w fun e w' => e = .returned (.bool true) ∧ Below w.heap.size w w' := by
  have t0 : (((n2 : Int) % 2) == 1) = false := eqF (by omega)
  have HBY := Lib.hid (bytes_wrong ty co wd A1 A2 n1 c1 n2 c2 (w.alloc (.cells #[.int .i64 ty, .int .i64 co, .int .u32 wd, .slice A1 n1 c1] 26)) hp)
  have HRT := Lib.hid (fun w => right_no ty co wd A1 n1 c1 w hp)
  have BOX0 := Lib.hid (Blk.new w 26 #[.int .i64 ty, .int .i64 co, .int .u32 wd, .slice A1 n1 c1])
  have HB0 := Lib.hid (show Below w.heap.size w (w.alloc (.cells #[.int .i64 ty, .int .i64 co, .int .u32 wd, .slice A1 n1 c1] 26)) from (Below.refl _ _).alloc (Nat.le_refl _) _)
  have hq : (decide (0 ≤ ty) && decide (ty ≤ 255) && decide (0 ≤ co) && decide (co ≤ 255)) = false := by
    unfold okM at hp
    rw [Bool.eq_false_iff]
    intro h
    simp only [Bool.and_eq_true, decide_eq_true_eq] at h
    exact hp ⟨⟨h.1.1.1, h.1.1.2⟩, h.1.2, h.2⟩
  have HQ := Lib.hid hq
  clear hp h1 r1 b1 b3 h3 r3 z1 he hc2 hn2 hq
  clear z3
  by_cases q1 : 0 ≤ ty
  · by_cases q2 : ty ≤ 255
    · by_cases q3 : 0 ≤ co
      · have q4 : decide (co ≤ 255) = false := by
          have := HQ.out
          simpa [q1, q2, q3] using this
        clear HQ
        go_enter Try.func4, Try.ntmps4
        go_wp2_with fail
        refine (C1.out _).mono ?_
        rintro e w' ⟨rfl, rfl⟩
        go_wp2_with fail
        refine (C2.out _).mono ?_
        rintro e w' ⟨rfl, rfl⟩
        go_wp2_with fail
        refine HBY.out.mono ?_
        rintro e w1 ⟨rfl, hb1⟩
        have HB1 := Lib.hid (bel_call HB0.out hb1)
        have BOX1 := Lib.hid (BOX0.out.below hb1 BOX0.out.lt)
        clear hb1
        have m0 : w1.cell? ⟨w.heap.size, 0, none⟩ = some (.int .i64 ty) := BOX1.out.cell 0
        have m1 : w1.cell? ⟨w.heap.size, 1, none⟩ = some (.int .i64 co) := BOX1.out.cell 1
        have m2 : w1.cell? ⟨w.heap.size, 2, none⟩ = some (.int .u32 wd) := BOX1.out.cell 2
        have m3 : w1.cell? ⟨w.heap.size, 3, none⟩ = some (.slice A1 n1 c1) := BOX1.out.cell 3
        go_wp2_with fail
        refine (HRT.out _).mono ?_
        rintro e w2 ⟨rfl, hb2⟩
        have HB2 := Lib.hid (bel_call HB1.out hb2)
        clear hb2
        go_wp2_with fail
        refine (awake_any _).mono ?_
        rintro e w' ⟨rfl, rfl⟩
        go_wp2_with fail
        go_ret
        exact ⟨rfl, HB2.out⟩
      · have q4 : decide (0 ≤ co) = false := decide_eq_false q3
        clear HQ
        go_enter Try.func4, Try.ntmps4
        go_wp2_with fail
        refine (C1.out _).mono ?_
        rintro e w' ⟨rfl, rfl⟩
        go_wp2_with fail
        refine (C2.out _).mono ?_
        rintro e w' ⟨rfl, rfl⟩
        go_wp2_with fail
        refine HBY.out.mono ?_
        rintro e w1 ⟨rfl, hb1⟩
        have HB1 := Lib.hid (bel_call HB0.out hb1)
        have BOX1 := Lib.hid (BOX0.out.below hb1 BOX0.out.lt)
        clear hb1
        have m0 : w1.cell? ⟨w.heap.size, 0, none⟩ = some (.int .i64 ty) := BOX1.out.cell 0
        have m1 : w1.cell? ⟨w.heap.size, 1, none⟩ = some (.int .i64 co) := BOX1.out.cell 1
        have m2 : w1.cell? ⟨w.heap.size, 2, none⟩ = some (.int .u32 wd) := BOX1.out.cell 2
        have m3 : w1.cell? ⟨w.heap.size, 3, none⟩ = some (.slice A1 n1 c1) := BOX1.out.cell 3
        go_wp2_with fail
        refine (HRT.out _).mono ?_
        rintro e w2 ⟨rfl, hb2⟩
        have HB2 := Lib.hid (bel_call HB1.out hb2)
        clear hb2
        go_wp2_with fail
        refine (awake_any _).mono ?_
        rintro e w' ⟨rfl, rfl⟩
        go_wp2_with fail
        go_ret
        exact ⟨rfl, HB2.out⟩
    · have q4 : decide (ty ≤ 255) = false := decide_eq_false q2
      clear HQ
      go_enter Try.func4, Try.ntmps4
      go_wp2_with fail
      refine (C1.out _).mono ?_
      rintro e w' ⟨rfl, rfl⟩
      go_wp2_with fail
      refine (C2.out _).mono ?_
      rintro e w' ⟨rfl, rfl⟩
      go_wp2_with fail
      refine HBY.out.mono ?_
      rintro e w1 ⟨rfl, hb1⟩
      have HB1 := Lib.hid (bel_call HB0.out hb1)
      have BOX1 := Lib.hid (BOX0.out.below hb1 BOX0.out.lt)
      clear hb1
      have m0 : w1.cell? ⟨w.heap.size, 0, none⟩ = some (.int .i64 ty) := BOX1.out.cell 0
      have m1 : w1.cell? ⟨w.heap.size, 1, none⟩ = some (.int .i64 co) := BOX1.out.cell 1
      have m2 : w1.cell? ⟨w.heap.size, 2, none⟩ = some (.int .u32 wd) := BOX1.out.cell 2
      have m3 : w1.cell? ⟨w.heap.size, 3, none⟩ = some (.slice A1 n1 c1) := BOX1.out.cell 3
      go_wp2_with fail
      refine (HRT.out _).mono ?_
      rintro e w2 ⟨rfl, hb2⟩
      have HB2 := Lib.hid (bel_call HB1.out hb2)
      clear hb2
      go_wp2_with fail
      refine (awake_any _).mono ?_
      rintro e w' ⟨rfl, rfl⟩
      go_wp2_with fail
      go_ret
      exact ⟨rfl, HB2.out⟩
  · have q4 : decide (0 ≤ ty) = false := decide_eq_false q1
    clear HQ
    go_enter Try.func4, Try.ntmps4
    go_wp2_with fail
    refine (C1.out _).mono ?_
    rintro e w' ⟨rfl, rfl⟩
    go_wp2_with fail
    refine (C2.out _).mono ?_
    rintro e w' ⟨rfl, rfl⟩
    go_wp2_with fail
    refine HBY.out.mono ?_
    rintro e w1 ⟨rfl, hb1⟩
    have HB1 := Lib.hid (bel_call HB0.out hb1)
    have BOX1 := Lib.hid (BOX0.out.below hb1 BOX0.out.lt)
    clear hb1
    have m0 : w1.cell? ⟨w.heap.size, 0, none⟩ = some (.int .i64 ty) := BOX1.out.cell 0
    have m1 : w1.cell? ⟨w.heap.size, 1, none⟩ = some (.int .i64 co) := BOX1.out.cell 1
    have m2 : w1.cell? ⟨w.heap.size, 2, none⟩ = some (.int .u32 wd) := BOX1.out.cell 2
    have m3 : w1.cell? ⟨w.heap.size, 3, none⟩ = some (.slice A1 n1 c1) := BOX1.out.cell 3
    go_wp2_with fail
    refine (HRT.out _).mono ?_
    rintro e w2 ⟨rfl, hb2⟩
    have HB2 := Lib.hid (bel_call HB1.out hb2)
    clear hb2
    go_wp2_with fail
    refine (awake_any _).mono ?_
    rintro e w' ⟨rfl, rfl⟩
    go_wp2_with fail
    go_ret
    exact ⟨rfl, HB2.out⟩
set_option maxRecDepth 100000 in
set_option maxHeartbeats 4000000 in
theorem wrong_one (v1 v2 : Value) (AO : Option Addr) (no c0 : Nat) (A1 : Option Addr) (n1 n2 c1 c2 : Nat) (l1 l3 : List Int) (ty co wd : Int) (w : World) (b2 off2 : Nat) (h1 : l1.length = n1) (k1 : n1 ≤ 300) (k2 : n2 ≤ 300) (hn2 : n2 ≤ c2) (hc2 : c2 ≤ 9223372036854775807) (z1 : A1 = none → c1 = 0) (r1 : Row w w.heap.size A1 (l1.map (.int .u8))) (b1 : ∀ x ∈ l1, 0 ≤ x ∧ x ≤ 255) (b3 : ∀ x ∈ l3, 0 ≤ x ∧ x ≤ 255) (s5 : 0 ≤ wd) (s6 : wd ≤ 4294967295)
    (he : n2 % 2 = 1) (ho : c2 = 1) (h3 : l3.length = 0) (r3 : Row w w.heap.size (some ⟨b2, off2, none⟩) (l3.map (.int .u8)))
    (C1 : Hid (∀ w : World, Calls Try.prog 11 #[.slice AO no c0] w fun e w' => e = .returned (.slice A1 n1 c1) ∧ w = w'))
    (C2 : Hid (∀ w : World, Calls Try.prog 11 #[v2] w fun e w' => e = .returned (.slice (some ⟨b2, off2, none⟩) n2 c2) ∧ w = w'))
    (hp : ¬ okM ty co) :
    Calls Try.prog 4 #[.agg #[.int .i64 ty, .int .i64 co, .int .u32 wd, .slice AO no c0], v2] w fun e w' => e = .returned (.bool true) ∧ Below w.heap.size w w' := by
  have t0 : (((n2 : Int) % 2) == 1) = true := eqT (by omega)
  have y1 : 1 ≤ n2 := by omega
  have y2 : (1 : Int) ≤ (n2 : Int) := by omega
  obtain rfl : n2 = 1 := by omega
  subst ho
  have HBY := Lib.hid (bytes_wrong ty co wd A1 (some ⟨b2, off2, none⟩) n1 c1 0 0 (w.alloc (.cells #[.int .i64 ty, .int .i64 co, .int .u32 wd, .slice A1 n1 c1] 26)) hp)
  have HRT := Lib.hid (fun w => right_no ty co wd A1 n1 c1 w hp)
  have BOX0 := Lib.hid (Blk.new w 26 #[.int .i64 ty, .int .i64 co, .int .u32 wd, .slice A1 n1 c1])
  have HB0 := Lib.hid (show Below w.heap.size w (w.alloc (.cells #[.int .i64 ty, .int .i64 co, .int .u32 wd, .slice A1 n1 c1] 26)) from (Below.refl _ _).alloc (Nat.le_refl _) _)
  have hq : (decide (0 ≤ ty) && decide (ty ≤ 255) && decide (0 ≤ co) && decide (co ≤ 255)) = false := by
    unfold okM at hp
    rw [Bool.eq_false_iff]
    intro h
    simp only [Bool.and_eq_true, decide_eq_true_eq] at h
    exact hp ⟨⟨h.1.1.1, h.1.1.2⟩, h.1.2, h.2⟩
  have HQ := Lib.hid hq
  clear hp h1 r1 b1 b3 h3 r3 z1 he hc2 hn2 hq
  by_cases q1 : 0 ≤ ty
  · by_cases q2 : ty ≤ 255
    · by_cases q3 : 0 ≤ co
      · have q4 : decide (co ≤ 255) = false := by
          have := HQ.out
          simpa [q1, q2, q3] using this
        clear HQ
        go_enter Try.func4, Try.ntmps4
        go_wp2_with fail
        refine (C1.out _).mono ?_
        rintro e w' ⟨rfl, rfl⟩
        go_wp2_with fail
        refine (C2.out _).mono ?_
        rintro e w' ⟨rfl, rfl⟩
        go_wp2_with fail
        refine HBY.out.mono ?_
        rintro e w1 ⟨rfl, hb1⟩
        have HB1 := Lib.hid (bel_call HB0.out hb1)
        have BOX1 := Lib.hid (BOX0.out.below hb1 BOX0.out.lt)
        clear hb1
        have m0 : w1.cell? ⟨w.heap.size, 0, none⟩ = some (.int .i64 ty) := BOX1.out.cell 0
        have m1 : w1.cell? ⟨w.heap.size, 1, none⟩ = some (.int .i64 co) := BOX1.out.cell 1
        have m2 : w1.cell? ⟨w.heap.size, 2, none⟩ = some (.int .u32 wd) := BOX1.out.cell 2
        have m3 : w1.cell? ⟨w.heap.size, 3, none⟩ = some (.slice A1 n1 c1) := BOX1.out.cell 3
        go_wp2_with fail
        refine (HRT.out _).mono ?_
        rintro e w2 ⟨rfl, hb2⟩
        have HB2 := Lib.hid (bel_call HB1.out hb2)
        clear hb2
        go_wp2_with fail
        refine (awake_any _).mono ?_
        rintro e w' ⟨rfl, rfl⟩
        go_wp2_with fail
        go_ret
        exact ⟨rfl, HB2.out⟩
      · have q4 : decide (0 ≤ co) = false := decide_eq_false q3
        clear HQ
        go_enter Try.func4, Try.ntmps4
        go_wp2_with fail
        refine (C1.out _).mono ?_
        rintro e w' ⟨rfl, rfl⟩
        go_wp2_with fail
        refine (C2.out _).mono ?_
        rintro e w' ⟨rfl, rfl⟩
        go_wp2_with fail
        refine HBY.out.mono ?_
        rintro e w1 ⟨rfl, hb1⟩
        have HB1 := Lib.hid (bel_call HB0.out hb1)
        have BOX1 := Lib.hid (BOX0.out.below hb1 BOX0.out.lt)
        clear hb1
        have m0 : w1.cell? ⟨w.heap.size, 0, none⟩ = some (.int .i64 ty) := BOX1.out.cell 0
        have m1 : w1.cell? ⟨w.heap.size, 1, none⟩ = some (.int .i64 co) := BOX1.out.cell 1
        have m2 : w1.cell? ⟨w.heap.size, 2, none⟩ = some (.int .u32 wd) := BOX1.out.cell 2
        have m3 : w1.cell? ⟨w.heap.size, 3, none⟩ = some (.slice A1 n1 c1) := BOX1.out.cell 3
        go_wp2_with fail
        refine (HRT.out _).mono ?_
        rintro e w2 ⟨rfl, hb2⟩
        have HB2 := Lib.hid (bel_call HB1.out hb2)
        clear hb2
        go_wp2_with fail
        refine (awake_any _).mono ?_
        rintro e w' ⟨rfl, rfl⟩
        go_wp2_with fail
        go_ret
        exact ⟨rfl, HB2.out⟩
    · have q4 : decide (ty ≤ 255) = false := decide_eq_false q2
      clear HQ
      go_enter Try.func4, Try.ntmps4
      go_wp2_with fail
      refine (C1.out _).mono ?_
      rintro e w' ⟨rfl, rfl⟩
      go_wp2_with fail
      refine (C2.out _).mono ?_
      rintro e w' ⟨rfl, rfl⟩
      go_wp2_with fail
      refine HBY.out.mono ?_
      rintro e w1 ⟨rfl, hb1⟩
      have HB1 := Lib.hid (bel_call HB0.out hb1)
      have BOX1 := Lib.hid (BOX0.out.below hb1 BOX0.out.lt)
      clear hb1
      have m0 : w1.cell? ⟨w.heap.size, 0, none⟩ = some (.int .i64 ty) := BOX1.out.cell 0
      have m1 : w1.cell? ⟨w.heap.size, 1, none⟩ = some (.int .i64 co) := BOX1.out.cell 1
      have m2 : w1.cell? ⟨w.heap.size, 2, none⟩ = some (.int .u32 wd) := BOX1.out.cell 2
      have m3 : w1.cell? ⟨w.heap.size, 3, none⟩ = some (.slice A1 n1 c1) := BOX1.out.cell 3
      go_wp2_with fail
      refine (HRT.out _).mono ?_
      rintro e w2 ⟨rfl, hb2⟩
      have HB2 := Lib.hid (bel_call HB1.out hb2)
      clear hb2
      go_wp2_with fail
      refine (awake_any _).mono ?_
      rintro e w' ⟨rfl, rfl⟩
      go_wp2_with fail
      go_ret
      exact ⟨rfl, HB2.out⟩
  · have q4 : decide (0 ≤ ty) = false := decide_eq_false q1
    clear HQ
    go_enter Try.func4, Try.ntmps4
    go_wp2_with fail
    refine (C1.out _).mono ?_
    rintro e w' ⟨rfl, rfl⟩
    go_wp2_with fail
    refine (C2.out _).mono ?_
    rintro e w' ⟨rfl, rfl⟩
    go_wp2_with fail
    refine HBY.out.mono ?_
    rintro e w1 ⟨rfl, hb1⟩
    have HB1 := Lib.hid (bel_call HB0.out hb1)
    have BOX1 := Lib.hid (BOX0.out.below hb1 BOX0.out.lt)
    clear hb1
    have m0 : w1.cell? ⟨w.heap.size, 0, none⟩ = some (.int .i64 ty) := BOX1.out.cell 0
    have m1 : w1.cell? ⟨w.heap.size, 1, none⟩ = some (.int .i64 co) := BOX1.out.cell 1
    have m2 : w1.cell? ⟨w.heap.size, 2, none⟩ = some (.int .u32 wd) := BOX1.out.cell 2
    have m3 : w1.cell? ⟨w.heap.size, 3, none⟩ = some (.slice A1 n1 c1) := BOX1.out.cell 3
    go_wp2_with fail
    refine (HRT.out _).mono ?_
    rintro e w2 ⟨rfl, hb2⟩
    have HB2 := Lib.hid (bel_call HB1.out hb2)
    clear hb2
    go_wp2_with fail
    refine (awake_any _).mono ?_
    rintro e w' ⟨rfl, rfl⟩
    go_wp2_with fail
    go_ret
    exact ⟨rfl, HB2.out⟩
set_option maxRecDepth 100000 in
set_option maxHeartbeats 4000000 in
theorem wrong_odd (v1 v2 : Value) (AO : Option Addr) (no c0 : Nat) (A1 : Option Addr) (n1 n2 c1 c2 : Nat) (l1 l3 : List Int) (ty co wd : Int) (w : World) (b2 off2 : Nat) (h1 : l1.length = n1) (k1 : n1 ≤ 300) (k2 : n2 ≤ 300) (hn2 : n2 ≤ c2) (hc2 : c2 ≤ 9223372036854775807) (z1 : A1 = none → c1 = 0) (r1 : Row w w.heap.size A1 (l1.map (.int .u8))) (b1 : ∀ x ∈ l1, 0 ≤ x ∧ x ≤ 255) (b3 : ∀ x ∈ l3, 0 ≤ x ∧ x ≤ 255) (s5 : 0 ≤ wd) (s6 : wd ≤ 4294967295)
    (he : n2 % 2 = 1) (ho : ¬ c2 = 1) (h3 : l3.length = n2 - 1) (r3 : Row w w.heap.size (some ⟨b2, off2 + 1, none⟩) (l3.map (.int .u8)))
    (C1 : Hid (∀ w : World, Calls Try.prog 11 #[.slice AO no c0] w fun e w' => e = .returned (.slice A1 n1 c1) ∧ w = w'))
    (C2 : Hid (∀ w : World, Calls Try.prog 11 #[v2] w fun e w' => e = .returned (.slice (some ⟨b2, off2, none⟩) n2 c2) ∧ w = w'))
    (hp : ¬ okM ty co) :
    Calls Try.prog 4 #[.agg #[.int .i64 ty, .int .i64 co, .int .u32 wd, .slice AO no c0], v2] w fun e w' => e = .returned (.bool true) ∧ Below w.heap.size w w' := by
  have t0 : (((n2 : Int) % 2) == 1) = true := eqT (by omega)
  have y1 : 1 ≤ n2 := by omega
  have y2 : (1 : Int) ≤ (n2 : Int) := by omega
  have HBY := Lib.hid (bytes_wrong ty co wd A1 (some ⟨b2, off2 + 1, none⟩) n1 c1 (n2 - 1) (c2 - 1) (w.alloc (.cells #[.int .i64 ty, .int .i64 co, .int .u32 wd, .slice A1 n1 c1] 26)) hp)
  have HRT := Lib.hid (fun w => right_no ty co wd A1 n1 c1 w hp)
  have BOX0 := Lib.hid (Blk.new w 26 #[.int .i64 ty, .int .i64 co, .int .u32 wd, .slice A1 n1 c1])
  have HB0 := Lib.hid (show Below w.heap.size w (w.alloc (.cells #[.int .i64 ty, .int .i64 co, .int .u32 wd, .slice A1 n1 c1] 26)) from (Below.refl _ _).alloc (Nat.le_refl _) _)
  have hq : (decide (0 ≤ ty) && decide (ty ≤ 255) && decide (0 ≤ co) && decide (co ≤ 255)) = false := by
    unfold okM at hp
    rw [Bool.eq_false_iff]
    intro h
    simp only [Bool.and_eq_true, decide_eq_true_eq] at h
    exact hp ⟨⟨h.1.1.1, h.1.1.2⟩, h.1.2, h.2⟩
  have HQ := Lib.hid hq
  clear hp h1 r1 b1 b3 h3 r3 z1 he hc2 hn2 hq
  by_cases q1 : 0 ≤ ty
  · by_cases q2 : ty ≤ 255
    · by_cases q3 : 0 ≤ co
      · have q4 : decide (co ≤ 255) = false := by
          have := HQ.out
          simpa [q1, q2, q3] using this
        clear HQ
        go_enter Try.func4, Try.ntmps4
        go_wp2_with fail
        refine (C1.out _).mono ?_
        rintro e w' ⟨rfl, rfl⟩
        go_wp2_with fail
        refine (C2.out _).mono ?_
        rintro e w' ⟨rfl, rfl⟩
        go_wp2_with fail
        refine HBY.out.mono ?_
        rintro e w1 ⟨rfl, hb1⟩
        have HB1 := Lib.hid (bel_call HB0.out hb1)
        have BOX1 := Lib.hid (BOX0.out.below hb1 BOX0.out.lt)
        clear hb1
        have m0 : w1.cell? ⟨w.heap.size, 0, none⟩ = some (.int .i64 ty) := BOX1.out.cell 0
        have m1 : w1.cell? ⟨w.heap.size, 1, none⟩ = some (.int .i64 co) := BOX1.out.cell 1
        have m2 : w1.cell? ⟨w.heap.size, 2, none⟩ = some (.int .u32 wd) := BOX1.out.cell 2
        have m3 : w1.cell? ⟨w.heap.size, 3, none⟩ = some (.slice A1 n1 c1) := BOX1.out.cell 3
        go_wp2_with fail
        refine (HRT.out _).mono ?_
        rintro e w2 ⟨rfl, hb2⟩
        have HB2 := Lib.hid (bel_call HB1.out hb2)
        clear hb2
        go_wp2_with fail
        refine (awake_any _).mono ?_
        rintro e w' ⟨rfl, rfl⟩
        go_wp2_with fail
        go_ret
        exact ⟨rfl, HB2.out⟩
      · have q4 : decide (0 ≤ co) = false := decide_eq_false q3
        clear HQ
        go_enter Try.func4, Try.ntmps4
        go_wp2_with fail
        refine (C1.out _).mono ?_
        rintro e w' ⟨rfl, rfl⟩
        go_wp2_with fail
        refine (C2.out _).mono ?_
        rintro e w' ⟨rfl, rfl⟩
        go_wp2_with fail
        refine HBY.out.mono ?_
        rintro e w1 ⟨rfl, hb1⟩
        have HB1 := Lib.hid (bel_call HB0.out hb1)
        have BOX1 := Lib.hid (BOX0.out.below hb1 BOX0.out.lt)
        clear hb1
        have m0 : w1.cell? ⟨w.heap.size, 0, none⟩ = some (.int .i64 ty) := BOX1.out.cell 0
        have m1 : w1.cell? ⟨w.heap.size, 1, none⟩ = some (.int .i64 co) := BOX1.out.cell 1
        have m2 : w1.cell? ⟨w.heap.size, 2, none⟩ = some (.int .u32 wd) := BOX1.out.cell 2
        have m3 : w1.cell? ⟨w.heap.size, 3, none⟩ = some (.slice A1 n1 c1) := BOX1.out.cell 3
        go_wp2_with fail
        refine (HRT.out _).mono ?_
        rintro e w2 ⟨rfl, hb2⟩
        have HB2 := Lib.hid (bel_call HB1.out hb2)
        clear hb2
        go_wp2_with fail
        refine (awake_any _).mono ?_
        rintro e w' ⟨rfl, rfl⟩
        go_wp2_with fail
        go_ret
        exact ⟨rfl, HB2.out⟩
    · have q4 : decide (ty ≤ 255) = false := decide_eq_false q2
      clear HQ
      go_enter Try.func4, Try.ntmps4
      go_wp2_with fail
      refine (C1.out _).mono ?_
      rintro e w' ⟨rfl, rfl⟩
      go_wp2_with fail
      refine (C2.out _).mono ?_
      rintro e w' ⟨rfl, rfl⟩
      go_wp2_with fail
      refine HBY.out.mono ?_
      rintro e w1 ⟨rfl, hb1⟩
      have HB1 := Lib.hid (bel_call HB0.out hb1)
      have BOX1 := Lib.hid (BOX0.out.below hb1 BOX0.out.lt)
      clear hb1
      have m0 : w1.cell? ⟨w.heap.size, 0, none⟩ = some (.int .i64 ty) := BOX1.out.cell 0
      have m1 : w1.cell? ⟨w.heap.size, 1, none⟩ = some (.int .i64 co) := BOX1.out.cell 1
      have m2 : w1.cell? ⟨w.heap.size, 2, none⟩ = some (.int .u32 wd) := BOX1.out.cell 2
      have m3 : w1.cell? ⟨w.heap.size, 3, none⟩ = some (.slice A1 n1 c1) := BOX1.out.cell 3
      go_wp2_with fail
      refine (HRT.out _).mono ?_
      rintro e w2 ⟨rfl, hb2⟩
      have HB2 := Lib.hid (bel_call HB1.out hb2)
      clear hb2
      go_wp2_with fail
      refine (awake_any _).mono ?_
      rintro e w' ⟨rfl, rfl⟩
      go_wp2_with fail
      go_ret
      exact ⟨rfl, HB2.out⟩
  · have q4 : decide (0 ≤ ty) = false := decide_eq_false q1
    clear HQ
    go_enter Try.func4, Try.ntmps4
    go_wp2_with fail
    refine (C1.out _).mono ?_
    rintro e w' ⟨rfl, rfl⟩
    go_wp2_with fail
    refine (C2.out _).mono ?_
    rintro e w' ⟨rfl, rfl⟩
    go_wp2_with fail
    refine HBY.out.mono ?_
    rintro e w1 ⟨rfl, hb1⟩
    have HB1 := Lib.hid (bel_call HB0.out hb1)
    have BOX1 := Lib.hid (BOX0.out.below hb1 BOX0.out.lt)
    clear hb1
    have m0 : w1.cell? ⟨w.heap.size, 0, none⟩ = some (.int .i64 ty) := BOX1.out.cell 0
    have m1 : w1.cell? ⟨w.heap.size, 1, none⟩ = some (.int .i64 co) := BOX1.out.cell 1
    have m2 : w1.cell? ⟨w.heap.size, 2, none⟩ = some (.int .u32 wd) := BOX1.out.cell 2
    have m3 : w1.cell? ⟨w.heap.size, 3, none⟩ = some (.slice A1 n1 c1) := BOX1.out.cell 3
    go_wp2_with fail
    refine (HRT.out _).mono ?_
    rintro e w2 ⟨rfl, hb2⟩
    have HB2 := Lib.hid (bel_call HB1.out hb2)
    clear hb2
    go_wp2_with fail
    refine (awake_any _).mono ?_
    rintro e w' ⟨rfl, rfl⟩
    go_wp2_with fail
    go_ret
    exact ⟨rfl, HB2.out⟩
set_option maxRecDepth 100000 in
set_option maxHeartbeats 8000000 in
theorem good_even (v1 v2 : Value) (AO : Option Addr) (no c0 : Nat) (A1 : Option Addr) (n1 n2 c1 c2 : Nat) (l1 l3 : List Int) (ty co wd : Int) (w : World) (A2 : Option Addr) (h1 : l1.length = n1) (k1 : n1 ≤ 300) (k2 : n2 ≤ 300) (hn2 : n2 ≤ c2) (hc2 : c2 ≤ 9223372036854775807) (z1 : A1 = none → c1 = 0) (r1 : Row w w.heap.size A1 (l1.map (.int .u8))) (b1 : ∀ x ∈ l1, 0 ≤ x ∧ x ≤ 255) (b3 : ∀ x ∈ l3, 0 ≤ x ∧ x ≤ 255) (s5 : 0 ≤ wd) (s6 : wd ≤ 4294967295)
    (he : n2 % 2 = 0) (h3 : l3.length = n2) (r3 : Row w w.heap.size A2 (l3.map (.int .u8))) (z3 : A2 = none → c2 = 0)
    (C1 : Hid (∀ w : World, Calls Try.prog 11 #[.slice AO no c0] w fun e w' => e = .returned (.slice A1 n1 c1) ∧ w = w'))
    (C2 : Hid (∀ w : World, Calls Try.prog 11 #[v2] w fun e w' => e = .returned (.slice A2 n2 c2) ∧ w = w'))
    (hp : okM ty co) :
    Calls Try.prog 4 #[.agg #[.int .i64 ty, .int .i64 co, .int .u32 wd, .slice AO no c0], v2] w fun e w' => e = .returned (.bool true) ∧ Below w.heap.size w w' := by
  have t0 : (((n2 : Int) % 2) == 1) = false := eqF (by omega)
  have HB0 := Lib.hid (show Below w.heap.size w (w.alloc (.cells #[.int .i64 ty, .int .i64 co, .int .u32 wd, .slice A1 n1 c1] 26)) from (Below.refl _ _).alloc (Nat.le_refl _) _)
  have BOX0 := Lib.hid (Blk.new w 26 #[.int .i64 ty, .int .i64 co, .int .u32 wd, .slice A1 n1 c1])
  have h3e : l3.length % 2 = 0 := by omega
  have hU0 := mk_in ty co wd 0 l1 hp s5 s6 (by omega) (by omega) b1
  have hin0 : ∀ x ∈ l3 ++ (mk ty co wd 0 l1), 0 ≤ x ∧ x ≤ 255 := fun x hx => (List.mem_append.1 hx).elim (b3 x) (hU0 x)
  have hfb := fo_bd _ (wsum_bd _ hin0).1
  have HUX := Lib.hid (mk_in ty co wd (65535 - fo (wsum (l3 ++ (mk ty co wd 0 l1)))) l1 hp s5 s6 (by omega) (by omega) b1)
  obtain ⟨u0, u1, u4, u8⟩ := mk_says ty co wd (65535 - fo (wsum (l3 ++ (mk ty co wd 0 l1)))) l1
  have ul := mk_len ty co wd (65535 - fo (wsum (l3 ++ (mk ty co wd 0 l1)))) l1
  have ul0 := mk_len ty co wd 0 l1
  rw [h1] at ul ul0
  have HUL := Lib.hid ul
  have HUL0 := Lib.hid ul0
  have HUS := Lib.hid (chk_right ty co wd l1 l3 h3e hin0)
  have HSET := Lib.hid (mk_set ty co wd (65535 - fo (wsum (l3 ++ (mk ty co wd 0 l1)))) l1)
  have hby := bytes_any ty co wd A1 A2 n1 c1 n2 c2 l1 l3 (w.alloc (.cells #[.int .i64 ty, .int .i64 co, .int .u32 wd, .slice A1 n1 c1] 26)) hp s5 s6 h1 (by omega) ((r1.below HB0.out).more HB0.out.size) z1 b1 h3 (by omega) ((r3.below HB0.out).more HB0.out.size) b3
  unfold BPost at hby
  rw [ul] at hby
  have HBY := Lib.hid hby
  have HRT := Lib.hid (fun w => right_yes ty co wd A1 n1 c1 w hp)
  have HRC := Lib.hid (fun (A : Option Addr) (c : Nat) (W : World) hr => Go.Proofs.Ytgikoljnmmnkkaa.net.refcheck_any A (n2 + (8 + n1)) c (l3 ++ (mk ty co wd 0 l1)) W (by rw [List.length_append, ul0, h3]) (by omega) hr hin0)
  have R1 := Lib.hid r1
  have R3 := Lib.hid r3
  have Z1 := Lib.hid z1
  have B3 := Lib.hid b3
  have L1 := Lib.hid h1
  have L3 := Lib.hid h3
  obtain ⟨i0, hi0, hz0, hz1, hz2⟩ := info_parts info_u8
  have HI0 := Lib.hid hi0
  have HZ0 := Lib.hid hz0
  have HZ1 := Lib.hid hz1
  have HZ2 := Lib.hid hz2
  have ONE := Lib.hid (show ∀ l : List Int, ∀ u ∈ l.map (Value.int .u8), u.oneCell' = true from by
    intro l u hu
    rw [List.mem_map] at hu
    obtain ⟨x, _, rfl⟩ := hu
    rfl)
  have Z3 := Lib.hid (show (A2 : Option Addr) = none → (c2 : Nat) = 0 from z3)
  have EL := Lib.hid (show [] ++ l3.map (Value.int .u8) ++ (mk ty co wd 0 l1).map (Value.int .u8) = (l3 ++ (mk ty co wd 0 l1)).map (Value.int .u8) by simp)
  have E8 := Lib.hid (show [Value.int .u8 ty, .int .u8 co, .int .u8 0, .int .u8 0, .int .u8 (wd / 65536 / 256), .int .u8 (wd / 65536 % 256), .int .u8 (wd % 65536 / 256), .int .u8 (wd % 256)] ++ l1.map (Value.int .u8) = (mk ty co wd 0 l1).map (Value.int .u8) by rw [show wd % 256 = wd % 65536 % 256 by omega]; rfl)
  clear hi0 hz0 hz1 hz2 hby
  have HPK := Lib.hid (show ∀ (e : Ending) (wa wb : World), OkPost wa (mk ty co wd (65535 - fo (wsum (l3 ++ mk ty co wd 0 l1))) l1) e wb → ∃ A c, e = .returned (.tuple #[.agg #[.int .i64 ty, .int .i64 co, .int .u32 wd, .slice A n1 c], .int .i64 0]) ∧ wb.ownsRow wa.heap.size 5 1 (.slice A n1 c) n1 (l1.map (.int .u8)) ∧ Below wa.heap.size wa wb from fun e wa wb h => by
    unfold OkPost at h
    rw [u0, u1, u4, u8, ul] at h
    obtain ⟨A, m, c, hm, he, _, ha, hb⟩ := h
    obtain rfl : m = n1 := by omega
    exact ⟨A, c, he, ha, hb⟩)
  have HPA := Lib.hid (fun (g c : Nat) (W : World) (hnc : 8 + n1 ≤ c) (hcc : c ≤ 9223372036854775807) (hg : g < W.heap.size) (hl : Lies W g 0 (mk ty co wd (65535 - fo (wsum (l3 ++ mk ty co wd 0 l1))) l1)) (hr : Row W W.heap.size A2 (l3.map (.int .u8))) => parse_ok g 0 (8 + n1) c n2 c2 A2 (mk ty co wd (65535 - fo (wsum (l3 ++ mk ty co wd 0 l1))) l1) l3 W ul (by omega) (by omega) hnc hcc hg hl HUX.out L3.out (by omega) hr B3.out HUS.out)
  have HUSx := HUS
  obtain ⟨⟨p1, p2⟩, p3, p4⟩ := hp
  clear u0 u1 u4 u8 ul ul0 HUS HUX HUSx hU0 hin0 h3e h1 r1 b1 b3 h3 r3 z1 he hc2
  clear z3
  generalize fo (wsum (l3 ++ (mk ty co wd 0 l1))) = fs at *
  generalize mk ty co wd (65535 - fs) l1 = U at *
  generalize (mk ty co wd 0 l1) = U0 at *
  obtain ⟨N, hN⟩ : ∃ N, N = 8 + n1 := ⟨_, rfl⟩
  rw [← hN] at HBY HUL HPA HUL0 HRC
  have N8 : 8 ≤ N := by omega
  have N9 : N ≤ 308 := by omega
  have EM := Lib.hid (show 8 + n1 = N from hN.symm)
  have ME0 := Lib.hid (show 8 + n1 ≤ maxLen by unfold maxLen; omega)
  have ME0' := Lib.hid (show (8 + n1) * 1 ≤ 140737488355328 by omega)
  have ME8 := Lib.hid (show 8 ≤ maxLen by unfold maxLen; omega)
  have ME1 := Lib.hid (show 0 + n2 ≤ maxLen by unfold maxLen; omega)
  have ME2 := Lib.hid (show (0 + n2) * 1 ≤ 140737488355328 by omega)
  have ME3 := Lib.hid (show 0 + n2 + N ≤ maxLen by unfold maxLen; omega)
  have ME4 := Lib.hid (show (0 + n2 + N) * 1 ≤ 140737488355328 by omega)
  have a1 : IntKind.u8.wrap ((65535 - fs) / 256) = (65535 - fs) / 256 := by rw [IntKind.wrap_u8]; omega
  have a2 : IntKind.u8.wrap ((65535 - fs) % 256) = (65535 - fs) % 256 := by rw [IntKind.wrap_u8]; omega
  have A12 := Lib.hid (And.intro a1 a2)
  clear hN hn2 a1 a2
  go_enter Try.func4, Try.ntmps4
  go_wp2_with fail
  refine (C1.out _).mono ?_
  rintro e w' ⟨rfl, rfl⟩
  go_wp2_with fail
  refine (C2.out _).mono ?_
  rintro e w' ⟨rfl, rfl⟩
  go_wp2_with fail
  refine HBY.out.mono ?_
  rintro e w1 ⟨vb, rfl, ownb, hb1⟩
  obtain ⟨gb, cb, rfl, _, gbl, hncb, hcb, _, _⟩ := own_form ownb (by omega)
  have OB := Lib.hid ownb
  have HB := Lib.hid (bel_call HB0.out hb1)
  have BOX := Lib.hid (BOX0.out.below hb1 BOX0.out.lt)
  unfold maxLen at hcb
  clear hb1 ownb HBY BOX0
  have m0 : w1.cell? ⟨w.heap.size, 0, none⟩ = some (.int .i64 ty) := BOX.out.cell 0
  have m1 : w1.cell? ⟨w.heap.size, 1, none⟩ = some (.int .i64 co) := BOX.out.cell 1
  have m2 : w1.cell? ⟨w.heap.size, 2, none⟩ = some (.int .u32 wd) := BOX.out.cell 2
  have m3 : w1.cell? ⟨w.heap.size, 3, none⟩ = some (.slice A1 n1 c1) := BOX.out.cell 3
  go_wp2_with fail
  clear m0 m1 m2 m3
  refine (HRT.out _).mono ?_
  rintro e w2 ⟨rfl, hb2⟩
  have OB2 := Lib.hid (own_keep OB.out hb2)
  have HB2 := Lib.hid (bel_call HB.out hb2)
  have BOX2 := Lib.hid (BOX.out.below hb2 BOX.out.lt)
  clear hb2 OB HB BOX HRT
  have m0 : w2.cell? ⟨w.heap.size, 0, none⟩ = some (.int .i64 ty) := BOX2.out.cell 0
  have m1 : w2.cell? ⟨w.heap.size, 1, none⟩ = some (.int .i64 co) := BOX2.out.cell 1
  have m2 : w2.cell? ⟨w.heap.size, 2, none⟩ = some (.int .u32 wd) := BOX2.out.cell 2
  have m3 : w2.cell? ⟨w.heap.size, 3, none⟩ = some (.slice A1 n1 c1) := BOX2.out.cell 3
  have v1' : IntKind.u8.wrap ty = ty := by rw [IntKind.wrap_u8]; omega
  have v2' : IntKind.u8.wrap co = co := by rw [IntKind.wrap_u8]; omega
  have v3' : IntKind.u8.wrap (wd / 16777216) = wd / 65536 / 256 := by rw [IntKind.wrap_u8]; omega
  have v4' : IntKind.u8.wrap (wd / 65536) = wd / 65536 % 256 := by rw [IntKind.wrap_u8]
  have v5' : IntKind.u8.wrap (wd / 256) = wd % 65536 / 256 := by rw [IntKind.wrap_u8]; omega
  have v6' : IntKind.u8.wrap wd = wd % 256 := by rw [IntKind.wrap_u8]
  have hlt2 := BOX2.out.lt
  have HL8 := Lib.hid (World.ownsRow_lit (base := w2.heap.size) (e := 5) (size := 1) w2 #[.int .u8 ty, .int .u8 co, .int .u8 0, .int .u8 0, .int .u8 (wd / 65536 / 256), .int .u8 (wd / 65536 % 256), .int .u8 (wd % 65536 / 256), .int .u8 (wd % 256)] 8 (Nat.le_refl _) ME8.out rfl)
  have HA2 := Lib.hid (HB2.out.alloc HB2.out.size (.cells #[.int .u8 ty, .int .u8 co, .int .u8 0, .int .u8 0, .int .u8 (wd / 65536 / 256), .int .u8 (wd / 65536 % 256), .int .u8 (wd % 65536 / 256), .int .u8 (wd % 256)] 5))
  have HA22 := Lib.hid ((Below.refl w2.heap.size w2).alloc (Nat.le_refl _) (.cells #[.int .u8 ty, .int .u8 co, .int .u8 0, .int .u8 0, .int .u8 (wd / 65536 / 256), .int .u8 (wd / 65536 % 256), .int .u8 (wd % 65536 / 256), .int .u8 (wd % 256)] 5))
  go_wp2_with (first
    | (at_builtin; clear v1' v2' v3' v4' v5' v6'; refine wpList_append_row rfl (.tmp 86) (.tmp 88) _ rfl w2.heap.size 5 i0 _ 1 Try.underlying22 HI0.out HZ0.out HZ1.out HZ2.out rfl (.slice (some ⟨w2.heap.size, 0, none⟩) 8 8) 8 _ rfl HL8.out A1 n1 c1 w.heap.size (l1.map (.int .u8)) rfl Z1.out (by rw [List.length_map]; exact L1.out) (R1.out.below HA2.out) (ONE.out _) ME0.out ME0'.out HA22.out.size ?_; intro vw w3 ownw gw_; have HB23 := Lib.hid (below_grown HA22.out HL8.out (Nat.le_refl _) HA22.out.size gw_); rw [E8.out, EM.out] at ownw; obtain ⟨gw, cw, rfl, hgw, gwl, hncw, _, _, _⟩ := own_form ownw (by omega); have OW3 := Lib.hid ownw; have HB3 := Lib.hid (bel_call HB2.out HB23.out); have HLIT := Lib.hid (World.ownsRow_lit (base := w3.heap.size) (e := 5) (size := 1) w3 #[] 0 (Nat.le_refl _) (Nat.zero_le _) rfl); have BLA := Lib.hid (HB3.out.alloc HB3.out.size (.cells #[] 5)); have BLB := Lib.hid ((Below.refl w3.heap.size w3).alloc (Nat.le_refl _) (.cells #[] 5)); clear ownw gw_ m0 m1 m2 m3)
    | (at_builtin; refine wpList_append_row rfl (.tmp 90) (.tmp 91) _ rfl w3.heap.size 5 i0 _ 1 Try.underlying22 HI0.out HZ0.out HZ1.out HZ2.out rfl (.slice (some ⟨w3.heap.size, 0, none⟩) 0 0) 0 [] rfl HLIT.out A2 n2 c2 w.heap.size (l3.map (.int .u8)) rfl Z3.out (by rw [List.length_map]; exact L3.out) (R3.out.below BLA.out) (ONE.out _) ME1.out ME2.out (by simp) ?_; intro va wa owna ga; have HOa := Lib.hid owna; have HBa := Lib.hid (below_grown BLB.out HLIT.out (Nat.le_refl _) (by simp) ga); clear owna ga)
    | (at_builtin; have hsa := HBa.out.size; refine wpList_append_row rfl (.tmp 92) (.tmp 93) _ rfl w3.heap.size 5 i0 _ 1 Try.underlying22 HI0.out HZ0.out HZ1.out HZ2.out rfl va (0 + n2) _ rfl HOa.out (some ⟨gw, 0, none⟩) N cw w3.heap.size (U0.map (.int .u8)) rfl (by intro h; cases h) (by rw [List.length_map]; exact HUL0.out) ((own_row OW3.out).below HBa.out) (ONE.out _) ME3.out ME4.out hsa ?_; intro vb2 wb ownb2 gb_; have HOb := Lib.hid ownb2; have HBb := Lib.hid (below_grown HBa.out HOa.out (Nat.le_refl _) hsa gb_); clear ownb2 gb_))
  have hob := HOb.out
  rw [EL.out, Nat.zero_add] at hob
  obtain ⟨Ab, cb2, rfl⟩ := own_slice hob
  have HRW := Lib.hid (HRC.out Ab cb2 wb (own_row hob))
  clear hob HOa HOb
  refine HRW.out.mono ?_
  rintro e w6 ⟨rfl, hb6⟩
  have HB36 := Lib.hid (bel_call HBb.out hb6)
  have OW6 := own_keep OW3.out HB36.out
  have gwl6 := (OW6.lt gw rfl).2
  have hcw6 : ∀ j, j < N → w6.cell? ⟨gw, j, none⟩ = (U0.map (Value.int .u8))[j]? := fun j hj => OW6.cellAt j (by omega)
  have j6 : w6.cell? ⟨gw, 2, none⟩ = some (.int .u8 (U0.getD 2 0)) := by
    rw [hcw6 2 (by omega), List.getElem?_map, List.getElem?_eq_getElem (by rw [HUL0.out]; omega), List.getD_eq_getElem?_getD, List.getElem?_eq_getElem (by rw [HUL0.out]; omega)]; rfl
  have j7 : w6.cell? ⟨gw, 3, none⟩ = some (.int .u8 (U0.getD 3 0)) := by
    rw [hcw6 3 (by omega), List.getElem?_map, List.getElem?_eq_getElem (by rw [HUL0.out]; omega), List.getD_eq_getElem?_getD, List.getElem?_eq_getElem (by rw [HUL0.out]; omega)]; rfl
  have f6 : w6.frozen? ⟨gw, 2, none⟩ = false := OW6.frozenAt 2
  have f7 : w6.frozen? ⟨gw, 3, none⟩ = false := OW6.frozenAt 3
  have y6 : (2 : Int) < (N : Int) := by omega
  have y7 : (3 : Int) < (N : Int) := by omega
  have OWK := Lib.hid OW6
  have HB26 := Lib.hid (show Below w2.heap.size w2 w6 from HB23.out.trans (HB36.out.mono HB23.out.size))
  clear OW6 hcw6 hb6 HB36 BLA BLB HLIT HBb HRW HBa HB23
  generalize U0.getD 2 0 = q6 at *
  generalize U0.getD 3 0 = q7 at *
  have OWZ := Lib.hid (own_stored (own_stored OWK.out 2 (.int .u8 ((65535 - fs) / 256))) 3 (.int .u8 ((65535 - fs) % 256)))
  have HBZ := Lib.hid ((HB26.out.setCell (p := ⟨gw, 2, none⟩) hgw (.int .u8 ((65535 - fs) / 256))).setCell (p := ⟨gw, 3, none⟩) hgw (.int .u8 ((65535 - fs) % 256)))
  have hst : ((U0.map (Value.int .u8)).set 2 (.int .u8 ((65535 - fs) / 256))).set 3 (.int .u8 ((65535 - fs) % 256)) = U.map (Value.int .u8) := by
    rw [← HSET.out, List.map_set, List.map_set]
  rw [hst] at OWZ
  have BOX6 := Lib.hid (BOX2.out.below HBZ.out BOX2.out.lt)
  have OB6 := Lib.hid (own_keep OB2.out HBZ.out)
  have HB16 := Lib.hid (bel_call HB2.out HBZ.out)
  have R36 := Lib.hid ((R3.out.below HB16.out).more HB16.out.size)
  have HPX := Lib.hid (HPA.out gb cb ((w6.setCell ⟨gw, 2, none⟩ (.int .u8 ((65535 - fs) / 256))).setCell ⟨gw, 3, none⟩ (.int .u8 ((65535 - fs) % 256))) hncb hcb (OB6.out.lt gb rfl).2 (Go.Proofs.Ytgikoljnmmnkkaa.net.lies_own OB6.out HUL.out) R36.out)
  clear OWK HB26 HBZ hst OB2 BOX2
  have a1 := A12.out.1
  have a2 := A12.out.2
  go_wp2_with fail
  clear a1 a2 j6 j7 f6 f7
  refine HPX.out.mono ?_
  rintro e w7 hpost
  obtain ⟨Ax, cx, rfl, ownx, hb7⟩ := HPK.out _ _ _ hpost
  have BX8 := Lib.hid (Blk.new w7 26 #[.int .i64 ty, .int .i64 co, .int .u32 wd, .slice Ax n1 cx])
  have HB78 := Lib.hid (show Below ((w6.setCell ⟨gw, 2, none⟩ (.int .u8 ((65535 - fs) / 256))).setCell ⟨gw, 3, none⟩ (.int .u8 ((65535 - fs) % 256))).heap.size ((w6.setCell ⟨gw, 2, none⟩ (.int .u8 ((65535 - fs) / 256))).setCell ⟨gw, 3, none⟩ (.int .u8 ((65535 - fs) % 256))) (w7.alloc (.cells #[.int .i64 ty, .int .i64 co, .int .u32 wd, .slice Ax n1 cx] 26)) from bel_alloc hb7 _)
  have BOX8 := Lib.hid (BOX6.out.below HB78.out BOX6.out.lt)
  have OX8 := Lib.hid (ownx.alloc (.cells #[.int .i64 ty, .int .i64 co, .int .u32 wd, .slice Ax n1 cx] 26))
  have HB18 := Lib.hid (bel_call HB16.out HB78.out)
  have cv1 := conv_any (c := cb) (own_row (own_keep OB6.out HB78.out)) HUL.out
  have cv2 := conv_any (c := cw) (own_row (own_keep OWZ.out HB78.out)) HUL.out
  have HSA := Lib.hid (same_one (w7.alloc (.cells #[.int .i64 ty, .int .i64 co, .int .u32 wd, .slice Ax n1 cx] 26)) ty co wd wd Ax A1 n1 cx c1 l1 rfl L1.out (own_row OX8.out) ((R1.out.below HB18.out).more HB18.out.size))
  have hw7 : w.heap.size < w7.heap.size := Nat.lt_of_lt_of_le BOX6.out.lt hb7.size
  clear hpost ownx hb7 HPX BOX6 OB6 HB16 R36 HB78 OWZ
  have d0 : (w7.alloc (.cells #[.int .i64 ty, .int .i64 co, .int .u32 wd, .slice Ax n1 cx] 26)).cell? ⟨w7.heap.size, 0, none⟩ = some (.int .i64 ty) := BX8.out.cell 0
  have d1 : (w7.alloc (.cells #[.int .i64 ty, .int .i64 co, .int .u32 wd, .slice Ax n1 cx] 26)).cell? ⟨w7.heap.size, 1, none⟩ = some (.int .i64 co) := BX8.out.cell 1
  have d2 : (w7.alloc (.cells #[.int .i64 ty, .int .i64 co, .int .u32 wd, .slice Ax n1 cx] 26)).cell? ⟨w7.heap.size, 2, none⟩ = some (.int .u32 wd) := BX8.out.cell 2
  have d3 : (w7.alloc (.cells #[.int .i64 ty, .int .i64 co, .int .u32 wd, .slice Ax n1 cx] 26)).cell? ⟨w7.heap.size, 3, none⟩ = some (.slice Ax n1 cx) := BX8.out.cell 3
  have g0 : (w7.alloc (.cells #[.int .i64 ty, .int .i64 co, .int .u32 wd, .slice Ax n1 cx] 26)).cell? ⟨w.heap.size, 0, none⟩ = some (.int .i64 ty) := BOX8.out.cell 0
  have g1 : (w7.alloc (.cells #[.int .i64 ty, .int .i64 co, .int .u32 wd, .slice Ax n1 cx] 26)).cell? ⟨w.heap.size, 1, none⟩ = some (.int .i64 co) := BOX8.out.cell 1
  have g2 : (w7.alloc (.cells #[.int .i64 ty, .int .i64 co, .int .u32 wd, .slice Ax n1 cx] 26)).cell? ⟨w.heap.size, 2, none⟩ = some (.int .u32 wd) := BOX8.out.cell 2
  have g3 : (w7.alloc (.cells #[.int .i64 ty, .int .i64 co, .int .u32 wd, .slice Ax n1 cx] 26)).cell? ⟨w.heap.size, 3, none⟩ = some (.slice A1 n1 c1) := BOX8.out.cell 3
  go_wp2_with fail
  refine HSA.out.mono ?_
  rintro e w9 ⟨rfl, hb9⟩
  go_wp2_with fail
  refine (awake_any _).mono ?_
  rintro e w' ⟨rfl, rfl⟩
  go_wp2_with fail
  go_ret
  exact ⟨rfl, bel_call HB18.out hb9⟩
set_option maxRecDepth 100000 in
set_option maxHeartbeats 8000000 in
theorem good_one (v1 v2 : Value) (AO : Option Addr) (no c0 : Nat) (A1 : Option Addr) (n1 n2 c1 c2 : Nat) (l1 l3 : List Int) (ty co wd : Int) (w : World) (b2 off2 : Nat) (h1 : l1.length = n1) (k1 : n1 ≤ 300) (k2 : n2 ≤ 300) (hn2 : n2 ≤ c2) (hc2 : c2 ≤ 9223372036854775807) (z1 : A1 = none → c1 = 0) (r1 : Row w w.heap.size A1 (l1.map (.int .u8))) (b1 : ∀ x ∈ l1, 0 ≤ x ∧ x ≤ 255) (b3 : ∀ x ∈ l3, 0 ≤ x ∧ x ≤ 255) (s5 : 0 ≤ wd) (s6 : wd ≤ 4294967295)
    (he : n2 % 2 = 1) (ho : c2 = 1) (h3 : l3.length = 0) (r3 : Row w w.heap.size (some ⟨b2, off2, none⟩) (l3.map (.int .u8)))
    (C1 : Hid (∀ w : World, Calls Try.prog 11 #[.slice AO no c0] w fun e w' => e = .returned (.slice A1 n1 c1) ∧ w = w'))
    (C2 : Hid (∀ w : World, Calls Try.prog 11 #[v2] w fun e w' => e = .returned (.slice (some ⟨b2, off2, none⟩) n2 c2) ∧ w = w'))
    (hp : okM ty co) :
    Calls Try.prog 4 #[.agg #[.int .i64 ty, .int .i64 co, .int .u32 wd, .slice AO no c0], v2] w fun e w' => e = .returned (.bool true) ∧ Below w.heap.size w w' := by
  have t0 : (((n2 : Int) % 2) == 1) = true := eqT (by omega)
  have y1 : 1 ≤ n2 := by omega
  have y2 : (1 : Int) ≤ (n2 : Int) := by omega
  obtain rfl : n2 = 1 := by omega
  subst ho
  have HB0 := Lib.hid (show Below w.heap.size w (w.alloc (.cells #[.int .i64 ty, .int .i64 co, .int .u32 wd, .slice A1 n1 c1] 26)) from (Below.refl _ _).alloc (Nat.le_refl _) _)
  have BOX0 := Lib.hid (Blk.new w 26 #[.int .i64 ty, .int .i64 co, .int .u32 wd, .slice A1 n1 c1])
  have h3e : l3.length % 2 = 0 := by omega
  have hU0 := mk_in ty co wd 0 l1 hp s5 s6 (by omega) (by omega) b1
  have hin0 : ∀ x ∈ l3 ++ (mk ty co wd 0 l1), 0 ≤ x ∧ x ≤ 255 := fun x hx => (List.mem_append.1 hx).elim (b3 x) (hU0 x)
  have hfb := fo_bd _ (wsum_bd _ hin0).1
  have HUX := Lib.hid (mk_in ty co wd (65535 - fo (wsum (l3 ++ (mk ty co wd 0 l1)))) l1 hp s5 s6 (by omega) (by omega) b1)
  obtain ⟨u0, u1, u4, u8⟩ := mk_says ty co wd (65535 - fo (wsum (l3 ++ (mk ty co wd 0 l1)))) l1
  have ul := mk_len ty co wd (65535 - fo (wsum (l3 ++ (mk ty co wd 0 l1)))) l1
  have ul0 := mk_len ty co wd 0 l1
  rw [h1] at ul ul0
  have HUL := Lib.hid ul
  have HUL0 := Lib.hid ul0
  have HUS := Lib.hid (chk_right ty co wd l1 l3 h3e hin0)
  have HSET := Lib.hid (mk_set ty co wd (65535 - fo (wsum (l3 ++ (mk ty co wd 0 l1)))) l1)
  have hby := bytes_any ty co wd A1 (some ⟨b2, off2, none⟩) n1 c1 0 0 l1 l3 (w.alloc (.cells #[.int .i64 ty, .int .i64 co, .int .u32 wd, .slice A1 n1 c1] 26)) hp s5 s6 h1 (by omega) ((r1.below HB0.out).more HB0.out.size) z1 b1 h3 (by omega) ((r3.below HB0.out).more HB0.out.size) b3
  unfold BPost at hby
  rw [ul] at hby
  have HBY := Lib.hid hby
  have HRT := Lib.hid (fun w => right_yes ty co wd A1 n1 c1 w hp)
  have HRC := Lib.hid (fun (A : Option Addr) (c : Nat) (W : World) hr => Go.Proofs.Ytgikoljnmmnkkaa.net.refcheck_any A (8 + n1) c (l3 ++ (mk ty co wd 0 l1)) W (by rw [List.length_append, ul0, h3, Nat.zero_add]) (by omega) hr hin0)
  have R1 := Lib.hid r1
  have R3 := Lib.hid r3
  have Z1 := Lib.hid z1
  have B3 := Lib.hid b3
  have L1 := Lib.hid h1
  have L3 := Lib.hid h3
  obtain ⟨i0, hi0, hz0, hz1, hz2⟩ := info_parts info_u8
  have HI0 := Lib.hid hi0
  have HZ0 := Lib.hid hz0
  have HZ1 := Lib.hid hz1
  have HZ2 := Lib.hid hz2
  have ONE := Lib.hid (show ∀ l : List Int, ∀ u ∈ l.map (Value.int .u8), u.oneCell' = true from by
    intro l u hu
    rw [List.mem_map] at hu
    obtain ⟨x, _, rfl⟩ := hu
    rfl)
  have Z3 := Lib.hid (show ((some ⟨b2, off2, none⟩) : Option Addr) = none → (0 : Nat) = 0 from fun h => by cases h)
  have EL := Lib.hid (show [] ++ (mk ty co wd 0 l1).map (Value.int .u8) = (l3 ++ (mk ty co wd 0 l1)).map (Value.int .u8) by rw [List.eq_nil_of_length_eq_zero h3]; rfl)
  have E8 := Lib.hid (show [Value.int .u8 ty, .int .u8 co, .int .u8 0, .int .u8 0, .int .u8 (wd / 65536 / 256), .int .u8 (wd / 65536 % 256), .int .u8 (wd % 65536 / 256), .int .u8 (wd % 256)] ++ l1.map (Value.int .u8) = (mk ty co wd 0 l1).map (Value.int .u8) by rw [show wd % 256 = wd % 65536 % 256 by omega]; rfl)
  clear hi0 hz0 hz1 hz2 hby
  have HPK := Lib.hid (show ∀ (e : Ending) (wa wb : World), OkPost wa (mk ty co wd (65535 - fo (wsum (l3 ++ mk ty co wd 0 l1))) l1) e wb → ∃ A c, e = .returned (.tuple #[.agg #[.int .i64 ty, .int .i64 co, .int .u32 wd, .slice A n1 c], .int .i64 0]) ∧ wb.ownsRow wa.heap.size 5 1 (.slice A n1 c) n1 (l1.map (.int .u8)) ∧ Below wa.heap.size wa wb from fun e wa wb h => by
    unfold OkPost at h
    rw [u0, u1, u4, u8, ul] at h
    obtain ⟨A, m, c, hm, he, _, ha, hb⟩ := h
    obtain rfl : m = n1 := by omega
    exact ⟨A, c, he, ha, hb⟩)
  have HPA := Lib.hid (fun (g c : Nat) (W : World) (hnc : 8 + n1 ≤ c) (hcc : c ≤ 9223372036854775807) (hg : g < W.heap.size) (hl : Lies W g 0 (mk ty co wd (65535 - fo (wsum (l3 ++ mk ty co wd 0 l1))) l1)) (hr : Row W W.heap.size (some ⟨b2, off2, none⟩) (l3.map (.int .u8))) => parse_ok g 0 (8 + n1) c 0 0 (some ⟨b2, off2, none⟩) (mk ty co wd (65535 - fo (wsum (l3 ++ mk ty co wd 0 l1))) l1) l3 W ul (by omega) (by omega) hnc hcc hg hl HUX.out L3.out (by omega) hr B3.out HUS.out)
  have HUSx := HUS
  obtain ⟨⟨p1, p2⟩, p3, p4⟩ := hp
  clear u0 u1 u4 u8 ul ul0 HUS HUX HUSx hU0 hin0 h3e h1 r1 b1 b3 h3 r3 z1 he hc2
  generalize fo (wsum (l3 ++ (mk ty co wd 0 l1))) = fs at *
  generalize mk ty co wd (65535 - fs) l1 = U at *
  generalize (mk ty co wd 0 l1) = U0 at *
  obtain ⟨N, hN⟩ : ∃ N, N = 8 + n1 := ⟨_, rfl⟩
  rw [← hN] at HBY HUL HPA HUL0 HRC
  have N8 : 8 ≤ N := by omega
  have N9 : N ≤ 308 := by omega
  have EM := Lib.hid (show 8 + n1 = N from hN.symm)
  have ME0 := Lib.hid (show 8 + n1 ≤ maxLen by unfold maxLen; omega)
  have ME0' := Lib.hid (show (8 + n1) * 1 ≤ 140737488355328 by omega)
  have ME8 := Lib.hid (show 8 ≤ maxLen by unfold maxLen; omega)
  have ME1 := Lib.hid (show 0 + 0 ≤ maxLen by unfold maxLen; omega)
  have ME2 := Lib.hid (show (0 + 0) * 1 ≤ 140737488355328 by omega)
  have ME3 := Lib.hid (show 0 + N ≤ maxLen by unfold maxLen; omega)
  have ME4 := Lib.hid (show (0 + N) * 1 ≤ 140737488355328 by omega)
  have a1 : IntKind.u8.wrap ((65535 - fs) / 256) = (65535 - fs) / 256 := by rw [IntKind.wrap_u8]; omega
  have a2 : IntKind.u8.wrap ((65535 - fs) % 256) = (65535 - fs) % 256 := by rw [IntKind.wrap_u8]; omega
  have A12 := Lib.hid (And.intro a1 a2)
  clear hN hn2 a1 a2
  go_enter Try.func4, Try.ntmps4
  go_wp2_with fail
  refine (C1.out _).mono ?_
  rintro e w' ⟨rfl, rfl⟩
  go_wp2_with fail
  refine (C2.out _).mono ?_
  rintro e w' ⟨rfl, rfl⟩
  go_wp2_with fail
  refine HBY.out.mono ?_
  rintro e w1 ⟨vb, rfl, ownb, hb1⟩
  obtain ⟨gb, cb, rfl, _, gbl, hncb, hcb, _, _⟩ := own_form ownb (by omega)
  have OB := Lib.hid ownb
  have HB := Lib.hid (bel_call HB0.out hb1)
  have BOX := Lib.hid (BOX0.out.below hb1 BOX0.out.lt)
  unfold maxLen at hcb
  clear hb1 ownb HBY BOX0
  have m0 : w1.cell? ⟨w.heap.size, 0, none⟩ = some (.int .i64 ty) := BOX.out.cell 0
  have m1 : w1.cell? ⟨w.heap.size, 1, none⟩ = some (.int .i64 co) := BOX.out.cell 1
  have m2 : w1.cell? ⟨w.heap.size, 2, none⟩ = some (.int .u32 wd) := BOX.out.cell 2
  have m3 : w1.cell? ⟨w.heap.size, 3, none⟩ = some (.slice A1 n1 c1) := BOX.out.cell 3
  go_wp2_with fail
  clear m0 m1 m2 m3
  refine (HRT.out _).mono ?_
  rintro e w2 ⟨rfl, hb2⟩
  have OB2 := Lib.hid (own_keep OB.out hb2)
  have HB2 := Lib.hid (bel_call HB.out hb2)
  have BOX2 := Lib.hid (BOX.out.below hb2 BOX.out.lt)
  clear hb2 OB HB BOX HRT
  have m0 : w2.cell? ⟨w.heap.size, 0, none⟩ = some (.int .i64 ty) := BOX2.out.cell 0
  have m1 : w2.cell? ⟨w.heap.size, 1, none⟩ = some (.int .i64 co) := BOX2.out.cell 1
  have m2 : w2.cell? ⟨w.heap.size, 2, none⟩ = some (.int .u32 wd) := BOX2.out.cell 2
  have m3 : w2.cell? ⟨w.heap.size, 3, none⟩ = some (.slice A1 n1 c1) := BOX2.out.cell 3
  have v1' : IntKind.u8.wrap ty = ty := by rw [IntKind.wrap_u8]; omega
  have v2' : IntKind.u8.wrap co = co := by rw [IntKind.wrap_u8]; omega
  have v3' : IntKind.u8.wrap (wd / 16777216) = wd / 65536 / 256 := by rw [IntKind.wrap_u8]; omega
  have v4' : IntKind.u8.wrap (wd / 65536) = wd / 65536 % 256 := by rw [IntKind.wrap_u8]
  have v5' : IntKind.u8.wrap (wd / 256) = wd % 65536 / 256 := by rw [IntKind.wrap_u8]; omega
  have v6' : IntKind.u8.wrap wd = wd % 256 := by rw [IntKind.wrap_u8]
  have hlt2 := BOX2.out.lt
  have HL8 := Lib.hid (World.ownsRow_lit (base := w2.heap.size) (e := 5) (size := 1) w2 #[.int .u8 ty, .int .u8 co, .int .u8 0, .int .u8 0, .int .u8 (wd / 65536 / 256), .int .u8 (wd / 65536 % 256), .int .u8 (wd % 65536 / 256), .int .u8 (wd % 256)] 8 (Nat.le_refl _) ME8.out rfl)
  have HA2 := Lib.hid (HB2.out.alloc HB2.out.size (.cells #[.int .u8 ty, .int .u8 co, .int .u8 0, .int .u8 0, .int .u8 (wd / 65536 / 256), .int .u8 (wd / 65536 % 256), .int .u8 (wd % 65536 / 256), .int .u8 (wd % 256)] 5))
  have HA22 := Lib.hid ((Below.refl w2.heap.size w2).alloc (Nat.le_refl _) (.cells #[.int .u8 ty, .int .u8 co, .int .u8 0, .int .u8 0, .int .u8 (wd / 65536 / 256), .int .u8 (wd / 65536 % 256), .int .u8 (wd % 65536 / 256), .int .u8 (wd % 256)] 5))
  go_wp2_with (first
    | (at_builtin; clear v1' v2' v3' v4' v5' v6'; refine wpList_append_row rfl (.tmp 86) (.tmp 88) _ rfl w2.heap.size 5 i0 _ 1 Try.underlying22 HI0.out HZ0.out HZ1.out HZ2.out rfl (.slice (some ⟨w2.heap.size, 0, none⟩) 8 8) 8 _ rfl HL8.out A1 n1 c1 w.heap.size (l1.map (.int .u8)) rfl Z1.out (by rw [List.length_map]; exact L1.out) (R1.out.below HA2.out) (ONE.out _) ME0.out ME0'.out HA22.out.size ?_; intro vw w3 ownw gw_; have HB23 := Lib.hid (below_grown HA22.out HL8.out (Nat.le_refl _) HA22.out.size gw_); rw [E8.out, EM.out] at ownw; obtain ⟨gw, cw, rfl, hgw, gwl, hncw, _, _, _⟩ := own_form ownw (by omega); have OW3 := Lib.hid ownw; have HB3 := Lib.hid (bel_call HB2.out HB23.out); have HLIT := Lib.hid (World.ownsRow_lit (base := w3.heap.size) (e := 5) (size := 1) w3 #[] 0 (Nat.le_refl _) (Nat.zero_le _) rfl); have BLA := Lib.hid (HB3.out.alloc HB3.out.size (.cells #[] 5)); have BLB := Lib.hid ((Below.refl w3.heap.size w3).alloc (Nat.le_refl _) (.cells #[] 5)); clear ownw gw_ m0 m1 m2 m3)
    | (at_builtin; refine wpList_append_row rfl (.tmp 92) (.tmp 93) _ rfl w3.heap.size 5 i0 _ 1 Try.underlying22 HI0.out HZ0.out HZ1.out HZ2.out rfl (.slice (some ⟨w3.heap.size, 0, none⟩) 0 0) 0 [] rfl HLIT.out (some ⟨gw, 0, none⟩) N cw w3.heap.size (U0.map (.int .u8)) rfl (by intro h; cases h) (by rw [List.length_map]; exact HUL0.out) ((own_row OW3.out).below BLB.out) (ONE.out _) ME3.out ME4.out (by simp) ?_; intro vb2 wb ownb2 gb_; have HOb := Lib.hid ownb2; have HBb := Lib.hid (below_grown BLB.out HLIT.out (Nat.le_refl _) (by simp) gb_); clear ownb2 gb_))
  have hob := HOb.out
  rw [EL.out, Nat.zero_add] at hob
  obtain ⟨Ab, cb2, rfl⟩ := own_slice hob
  have HRW := Lib.hid (HRC.out Ab cb2 wb (own_row hob))
  clear hob HOb
  refine HRW.out.mono ?_
  rintro e w6 ⟨rfl, hb6⟩
  have HB36 := Lib.hid (bel_call HBb.out hb6)
  have OW6 := own_keep OW3.out HB36.out
  have gwl6 := (OW6.lt gw rfl).2
  have hcw6 : ∀ j, j < N → w6.cell? ⟨gw, j, none⟩ = (U0.map (Value.int .u8))[j]? := fun j hj => OW6.cellAt j (by omega)
  have j6 : w6.cell? ⟨gw, 2, none⟩ = some (.int .u8 (U0.getD 2 0)) := by
    rw [hcw6 2 (by omega), List.getElem?_map, List.getElem?_eq_getElem (by rw [HUL0.out]; omega), List.getD_eq_getElem?_getD, List.getElem?_eq_getElem (by rw [HUL0.out]; omega)]; rfl
  have j7 : w6.cell? ⟨gw, 3, none⟩ = some (.int .u8 (U0.getD 3 0)) := by
    rw [hcw6 3 (by omega), List.getElem?_map, List.getElem?_eq_getElem (by rw [HUL0.out]; omega), List.getD_eq_getElem?_getD, List.getElem?_eq_getElem (by rw [HUL0.out]; omega)]; rfl
  have f6 : w6.frozen? ⟨gw, 2, none⟩ = false := OW6.frozenAt 2
  have f7 : w6.frozen? ⟨gw, 3, none⟩ = false := OW6.frozenAt 3
  have y6 : (2 : Int) < (N : Int) := by omega
  have y7 : (3 : Int) < (N : Int) := by omega
  have OWK := Lib.hid OW6
  have HB26 := Lib.hid (show Below w2.heap.size w2 w6 from HB23.out.trans (HB36.out.mono HB23.out.size))
  clear OW6 hcw6 hb6 HB36 BLA BLB HLIT HBb HRW HB23
  generalize U0.getD 2 0 = q6 at *
  generalize U0.getD 3 0 = q7 at *
  have OWZ := Lib.hid (own_stored (own_stored OWK.out 2 (.int .u8 ((65535 - fs) / 256))) 3 (.int .u8 ((65535 - fs) % 256)))
  have HBZ := Lib.hid ((HB26.out.setCell (p := ⟨gw, 2, none⟩) hgw (.int .u8 ((65535 - fs) / 256))).setCell (p := ⟨gw, 3, none⟩) hgw (.int .u8 ((65535 - fs) % 256)))
  have hst : ((U0.map (Value.int .u8)).set 2 (.int .u8 ((65535 - fs) / 256))).set 3 (.int .u8 ((65535 - fs) % 256)) = U.map (Value.int .u8) := by
    rw [← HSET.out, List.map_set, List.map_set]
  rw [hst] at OWZ
  have BOX6 := Lib.hid (BOX2.out.below HBZ.out BOX2.out.lt)
  have OB6 := Lib.hid (own_keep OB2.out HBZ.out)
  have HB16 := Lib.hid (bel_call HB2.out HBZ.out)
  have R36 := Lib.hid ((R3.out.below HB16.out).more HB16.out.size)
  have HPX := Lib.hid (HPA.out gb cb ((w6.setCell ⟨gw, 2, none⟩ (.int .u8 ((65535 - fs) / 256))).setCell ⟨gw, 3, none⟩ (.int .u8 ((65535 - fs) % 256))) hncb hcb (OB6.out.lt gb rfl).2 (Go.Proofs.Ytgikoljnmmnkkaa.net.lies_own OB6.out HUL.out) R36.out)
  clear OWK HB26 HBZ hst OB2 BOX2
  have a1 := A12.out.1
  have a2 := A12.out.2
  go_wp2_with fail
  clear a1 a2 j6 j7 f6 f7
  refine HPX.out.mono ?_
  rintro e w7 hpost
  obtain ⟨Ax, cx, rfl, ownx, hb7⟩ := HPK.out _ _ _ hpost
  have BX8 := Lib.hid (Blk.new w7 26 #[.int .i64 ty, .int .i64 co, .int .u32 wd, .slice Ax n1 cx])
  have HB78 := Lib.hid (show Below ((w6.setCell ⟨gw, 2, none⟩ (.int .u8 ((65535 - fs) / 256))).setCell ⟨gw, 3, none⟩ (.int .u8 ((65535 - fs) % 256))).heap.size ((w6.setCell ⟨gw, 2, none⟩ (.int .u8 ((65535 - fs) / 256))).setCell ⟨gw, 3, none⟩ (.int .u8 ((65535 - fs) % 256))) (w7.alloc (.cells #[.int .i64 ty, .int .i64 co, .int .u32 wd, .slice Ax n1 cx] 26)) from bel_alloc hb7 _)
  have BOX8 := Lib.hid (BOX6.out.below HB78.out BOX6.out.lt)
  have OX8 := Lib.hid (ownx.alloc (.cells #[.int .i64 ty, .int .i64 co, .int .u32 wd, .slice Ax n1 cx] 26))
  have HB18 := Lib.hid (bel_call HB16.out HB78.out)
  have cv1 := conv_any (c := cb) (own_row (own_keep OB6.out HB78.out)) HUL.out
  have cv2 := conv_any (c := cw) (own_row (own_keep OWZ.out HB78.out)) HUL.out
  have HSA := Lib.hid (same_one (w7.alloc (.cells #[.int .i64 ty, .int .i64 co, .int .u32 wd, .slice Ax n1 cx] 26)) ty co wd wd Ax A1 n1 cx c1 l1 rfl L1.out (own_row OX8.out) ((R1.out.below HB18.out).more HB18.out.size))
  have hw7 : w.heap.size < w7.heap.size := Nat.lt_of_lt_of_le BOX6.out.lt hb7.size
  clear hpost ownx hb7 HPX BOX6 OB6 HB16 R36 HB78 OWZ
  have d0 : (w7.alloc (.cells #[.int .i64 ty, .int .i64 co, .int .u32 wd, .slice Ax n1 cx] 26)).cell? ⟨w7.heap.size, 0, none⟩ = some (.int .i64 ty) := BX8.out.cell 0
  have d1 : (w7.alloc (.cells #[.int .i64 ty, .int .i64 co, .int .u32 wd, .slice Ax n1 cx] 26)).cell? ⟨w7.heap.size, 1, none⟩ = some (.int .i64 co) := BX8.out.cell 1
  have d2 : (w7.alloc (.cells #[.int .i64 ty, .int .i64 co, .int .u32 wd, .slice Ax n1 cx] 26)).cell? ⟨w7.heap.size, 2, none⟩ = some (.int .u32 wd) := BX8.out.cell 2
  have d3 : (w7.alloc (.cells #[.int .i64 ty, .int .i64 co, .int .u32 wd, .slice Ax n1 cx] 26)).cell? ⟨w7.heap.size, 3, none⟩ = some (.slice Ax n1 cx) := BX8.out.cell 3
  have g0 : (w7.alloc (.cells #[.int .i64 ty, .int .i64 co, .int .u32 wd, .slice Ax n1 cx] 26)).cell? ⟨w.heap.size, 0, none⟩ = some (.int .i64 ty) := BOX8.out.cell 0
  have g1 : (w7.alloc (.cells #[.int .i64 ty, .int .i64 co, .int .u32 wd, .slice Ax n1 cx] 26)).cell? ⟨w.heap.size, 1, none⟩ = some (.int .i64 co) := BOX8.out.cell 1
  have g2 : (w7.alloc (.cells #[.int .i64 ty, .int .i64 co, .int .u32 wd, .slice Ax n1 cx] 26)).cell? ⟨w.heap.size, 2, none⟩ = some (.int .u32 wd) := BOX8.out.cell 2
  have g3 : (w7.alloc (.cells #[.int .i64 ty, .int .i64 co, .int .u32 wd, .slice Ax n1 cx] 26)).cell? ⟨w.heap.size, 3, none⟩ = some (.slice A1 n1 c1) := BOX8.out.cell 3
  go_wp2_with fail
  refine HSA.out.mono ?_
  rintro e w9 ⟨rfl, hb9⟩
  go_wp2_with fail
  refine (awake_any _).mono ?_
  rintro e w' ⟨rfl, rfl⟩
  go_wp2_with fail
  go_ret
  exact ⟨rfl, bel_call HB18.out hb9⟩
set_option maxRecDepth 100000 in
set_option maxHeartbeats 8000000 in
theorem good_odd (v1 v2 : Value) (AO : Option Addr) (no c0 : Nat) (A1 : Option Addr) (n1 n2 c1 c2 : Nat) (l1 l3 : List Int) (ty co wd : Int) (w : World) (b2 off2 : Nat) (h1 : l1.length = n1) (k1 : n1 ≤ 300) (k2 : n2 ≤ 300) (hn2 : n2 ≤ c2) (hc2 : c2 ≤ 9223372036854775807) (z1 : A1 = none → c1 = 0) (r1 : Row w w.heap.size A1 (l1.map (.int .u8))) (b1 : ∀ x ∈ l1, 0 ≤ x ∧ x ≤ 255) (b3 : ∀ x ∈ l3, 0 ≤ x ∧ x ≤ 255) (s5 : 0 ≤ wd) (s6 : wd ≤ 4294967295)
    (he : n2 % 2 = 1) (ho : ¬ c2 = 1) (h3 : l3.length = n2 - 1) (r3 : Row w w.heap.size (some ⟨b2, off2 + 1, none⟩) (l3.map (.int .u8)))
    (C1 : Hid (∀ w : World, Calls Try.prog 11 #[.slice AO no c0] w fun e w' => e = .returned (.slice A1 n1 c1) ∧ w = w'))
    (C2 : Hid (∀ w : World, Calls Try.prog 11 #[v2] w fun e w' => e = .returned (.slice (some ⟨b2, off2, none⟩) n2 c2) ∧ w = w'))
    (hp : okM ty co) :
    Calls Try.prog 4 #[.agg #[.int .i64 ty, .int .i64 co, .int .u32 wd, .slice AO no c0], v2] w fun e w' => e = .returned (.bool true) ∧ Below w.heap.size w w' := by
  have t0 : (((n2 : Int) % 2) == 1) = true := eqT (by omega)
  have y1 : 1 ≤ n2 := by omega
  have y2 : (1 : Int) ≤ (n2 : Int) := by omega
  have HB0 := Lib.hid (show Below w.heap.size w (w.alloc (.cells #[.int .i64 ty, .int .i64 co, .int .u32 wd, .slice A1 n1 c1] 26)) from (Below.refl _ _).alloc (Nat.le_refl _) _)
  have BOX0 := Lib.hid (Blk.new w 26 #[.int .i64 ty, .int .i64 co, .int .u32 wd, .slice A1 n1 c1])
  have h3e : l3.length % 2 = 0 := by omega
  have hU0 := mk_in ty co wd 0 l1 hp s5 s6 (by omega) (by omega) b1
  have hin0 : ∀ x ∈ l3 ++ (mk ty co wd 0 l1), 0 ≤ x ∧ x ≤ 255 := fun x hx => (List.mem_append.1 hx).elim (b3 x) (hU0 x)
  have hfb := fo_bd _ (wsum_bd _ hin0).1
  have HUX := Lib.hid (mk_in ty co wd (65535 - fo (wsum (l3 ++ (mk ty co wd 0 l1)))) l1 hp s5 s6 (by omega) (by omega) b1)
  obtain ⟨u0, u1, u4, u8⟩ := mk_says ty co wd (65535 - fo (wsum (l3 ++ (mk ty co wd 0 l1)))) l1
  have ul := mk_len ty co wd (65535 - fo (wsum (l3 ++ (mk ty co wd 0 l1)))) l1
  have ul0 := mk_len ty co wd 0 l1
  rw [h1] at ul ul0
  have HUL := Lib.hid ul
  have HUL0 := Lib.hid ul0
  have HUS := Lib.hid (chk_right ty co wd l1 l3 h3e hin0)
  have HSET := Lib.hid (mk_set ty co wd (65535 - fo (wsum (l3 ++ (mk ty co wd 0 l1)))) l1)
  have hby := bytes_any ty co wd A1 (some ⟨b2, off2 + 1, none⟩) n1 c1 (n2 - 1) (c2 - 1) l1 l3 (w.alloc (.cells #[.int .i64 ty, .int .i64 co, .int .u32 wd, .slice A1 n1 c1] 26)) hp s5 s6 h1 (by omega) ((r1.below HB0.out).more HB0.out.size) z1 b1 h3 (by omega) ((r3.below HB0.out).more HB0.out.size) b3
  unfold BPost at hby
  rw [ul] at hby
  have HBY := Lib.hid hby
  have HRT := Lib.hid (fun w => right_yes ty co wd A1 n1 c1 w hp)
  have HRC := Lib.hid (fun (A : Option Addr) (c : Nat) (W : World) hr => Go.Proofs.Ytgikoljnmmnkkaa.net.refcheck_any A ((n2 - 1) + (8 + n1)) c (l3 ++ (mk ty co wd 0 l1)) W (by rw [List.length_append, ul0, h3]) (by omega) hr hin0)
  have R1 := Lib.hid r1
  have R3 := Lib.hid r3
  have Z1 := Lib.hid z1
  have B3 := Lib.hid b3
  have L1 := Lib.hid h1
  have L3 := Lib.hid h3
  obtain ⟨i0, hi0, hz0, hz1, hz2⟩ := info_parts info_u8
  have HI0 := Lib.hid hi0
  have HZ0 := Lib.hid hz0
  have HZ1 := Lib.hid hz1
  have HZ2 := Lib.hid hz2
  have ONE := Lib.hid (show ∀ l : List Int, ∀ u ∈ l.map (Value.int .u8), u.oneCell' = true from by
    intro l u hu
    rw [List.mem_map] at hu
    obtain ⟨x, _, rfl⟩ := hu
    rfl)
  have Z3 := Lib.hid (show ((some ⟨b2, off2 + 1, none⟩) : Option Addr) = none → ((c2 - 1) : Nat) = 0 from fun h => by cases h)
  have EL := Lib.hid (show [] ++ l3.map (Value.int .u8) ++ (mk ty co wd 0 l1).map (Value.int .u8) = (l3 ++ (mk ty co wd 0 l1)).map (Value.int .u8) by simp)
  have E8 := Lib.hid (show [Value.int .u8 ty, .int .u8 co, .int .u8 0, .int .u8 0, .int .u8 (wd / 65536 / 256), .int .u8 (wd / 65536 % 256), .int .u8 (wd % 65536 / 256), .int .u8 (wd % 256)] ++ l1.map (Value.int .u8) = (mk ty co wd 0 l1).map (Value.int .u8) by rw [show wd % 256 = wd % 65536 % 256 by omega]; rfl)
  clear hi0 hz0 hz1 hz2 hby
  have HPK := Lib.hid (show ∀ (e : Ending) (wa wb : World), OkPost wa (mk ty co wd (65535 - fo (wsum (l3 ++ mk ty co wd 0 l1))) l1) e wb → ∃ A c, e = .returned (.tuple #[.agg #[.int .i64 ty, .int .i64 co, .int .u32 wd, .slice A n1 c], .int .i64 0]) ∧ wb.ownsRow wa.heap.size 5 1 (.slice A n1 c) n1 (l1.map (.int .u8)) ∧ Below wa.heap.size wa wb from fun e wa wb h => by
    unfold OkPost at h
    rw [u0, u1, u4, u8, ul] at h
    obtain ⟨A, m, c, hm, he, _, ha, hb⟩ := h
    obtain rfl : m = n1 := by omega
    exact ⟨A, c, he, ha, hb⟩)
  have HPA := Lib.hid (fun (g c : Nat) (W : World) (hnc : 8 + n1 ≤ c) (hcc : c ≤ 9223372036854775807) (hg : g < W.heap.size) (hl : Lies W g 0 (mk ty co wd (65535 - fo (wsum (l3 ++ mk ty co wd 0 l1))) l1)) (hr : Row W W.heap.size (some ⟨b2, off2 + 1, none⟩) (l3.map (.int .u8))) => parse_ok g 0 (8 + n1) c (n2 - 1) (c2 - 1) (some ⟨b2, off2 + 1, none⟩) (mk ty co wd (65535 - fo (wsum (l3 ++ mk ty co wd 0 l1))) l1) l3 W ul (by omega) (by omega) hnc hcc hg hl HUX.out L3.out (by omega) hr B3.out HUS.out)
  have HUSx := HUS
  obtain ⟨⟨p1, p2⟩, p3, p4⟩ := hp
  clear u0 u1 u4 u8 ul ul0 HUS HUX HUSx hU0 hin0 h3e h1 r1 b1 b3 h3 r3 z1 he hc2
  generalize fo (wsum (l3 ++ (mk ty co wd 0 l1))) = fs at *
  generalize mk ty co wd (65535 - fs) l1 = U at *
  generalize (mk ty co wd 0 l1) = U0 at *
  obtain ⟨N, hN⟩ : ∃ N, N = 8 + n1 := ⟨_, rfl⟩
  rw [← hN] at HBY HUL HPA HUL0 HRC
  have N8 : 8 ≤ N := by omega
  have N9 : N ≤ 308 := by omega
  have EM := Lib.hid (show 8 + n1 = N from hN.symm)
  have ME0 := Lib.hid (show 8 + n1 ≤ maxLen by unfold maxLen; omega)
  have ME0' := Lib.hid (show (8 + n1) * 1 ≤ 140737488355328 by omega)
  have ME8 := Lib.hid (show 8 ≤ maxLen by unfold maxLen; omega)
  have ME1 := Lib.hid (show 0 + (n2 - 1) ≤ maxLen by unfold maxLen; omega)
  have ME2 := Lib.hid (show (0 + (n2 - 1)) * 1 ≤ 140737488355328 by omega)
  have ME3 := Lib.hid (show 0 + (n2 - 1) + N ≤ maxLen by unfold maxLen; omega)
  have ME4 := Lib.hid (show (0 + (n2 - 1) + N) * 1 ≤ 140737488355328 by omega)
  have a1 : IntKind.u8.wrap ((65535 - fs) / 256) = (65535 - fs) / 256 := by rw [IntKind.wrap_u8]; omega
  have a2 : IntKind.u8.wrap ((65535 - fs) % 256) = (65535 - fs) % 256 := by rw [IntKind.wrap_u8]; omega
  have A12 := Lib.hid (And.intro a1 a2)
  clear hN hn2 a1 a2
  go_enter Try.func4, Try.ntmps4
  go_wp2_with fail
  refine (C1.out _).mono ?_
  rintro e w' ⟨rfl, rfl⟩
  go_wp2_with fail
  refine (C2.out _).mono ?_
  rintro e w' ⟨rfl, rfl⟩
  go_wp2_with fail
  refine HBY.out.mono ?_
  rintro e w1 ⟨vb, rfl, ownb, hb1⟩
  obtain ⟨gb, cb, rfl, _, gbl, hncb, hcb, _, _⟩ := own_form ownb (by omega)
  have OB := Lib.hid ownb
  have HB := Lib.hid (bel_call HB0.out hb1)
  have BOX := Lib.hid (BOX0.out.below hb1 BOX0.out.lt)
  unfold maxLen at hcb
  clear hb1 ownb HBY BOX0
  have m0 : w1.cell? ⟨w.heap.size, 0, none⟩ = some (.int .i64 ty) := BOX.out.cell 0
  have m1 : w1.cell? ⟨w.heap.size, 1, none⟩ = some (.int .i64 co) := BOX.out.cell 1
  have m2 : w1.cell? ⟨w.heap.size, 2, none⟩ = some (.int .u32 wd) := BOX.out.cell 2
  have m3 : w1.cell? ⟨w.heap.size, 3, none⟩ = some (.slice A1 n1 c1) := BOX.out.cell 3
  go_wp2_with fail
  clear m0 m1 m2 m3
  refine (HRT.out _).mono ?_
  rintro e w2 ⟨rfl, hb2⟩
  have OB2 := Lib.hid (own_keep OB.out hb2)
  have HB2 := Lib.hid (bel_call HB.out hb2)
  have BOX2 := Lib.hid (BOX.out.below hb2 BOX.out.lt)
  clear hb2 OB HB BOX HRT
  have m0 : w2.cell? ⟨w.heap.size, 0, none⟩ = some (.int .i64 ty) := BOX2.out.cell 0
  have m1 : w2.cell? ⟨w.heap.size, 1, none⟩ = some (.int .i64 co) := BOX2.out.cell 1
  have m2 : w2.cell? ⟨w.heap.size, 2, none⟩ = some (.int .u32 wd) := BOX2.out.cell 2
  have m3 : w2.cell? ⟨w.heap.size, 3, none⟩ = some (.slice A1 n1 c1) := BOX2.out.cell 3
  have v1' : IntKind.u8.wrap ty = ty := by rw [IntKind.wrap_u8]; omega
  have v2' : IntKind.u8.wrap co = co := by rw [IntKind.wrap_u8]; omega
  have v3' : IntKind.u8.wrap (wd / 16777216) = wd / 65536 / 256 := by rw [IntKind.wrap_u8]; omega
  have v4' : IntKind.u8.wrap (wd / 65536) = wd / 65536 % 256 := by rw [IntKind.wrap_u8]
  have v5' : IntKind.u8.wrap (wd / 256) = wd % 65536 / 256 := by rw [IntKind.wrap_u8]; omega
  have v6' : IntKind.u8.wrap wd = wd % 256 := by rw [IntKind.wrap_u8]
  have hlt2 := BOX2.out.lt
  have HL8 := Lib.hid (World.ownsRow_lit (base := w2.heap.size) (e := 5) (size := 1) w2 #[.int .u8 ty, .int .u8 co, .int .u8 0, .int .u8 0, .int .u8 (wd / 65536 / 256), .int .u8 (wd / 65536 % 256), .int .u8 (wd % 65536 / 256), .int .u8 (wd % 256)] 8 (Nat.le_refl _) ME8.out rfl)
  have HA2 := Lib.hid (HB2.out.alloc HB2.out.size (.cells #[.int .u8 ty, .int .u8 co, .int .u8 0, .int .u8 0, .int .u8 (wd / 65536 / 256), .int .u8 (wd / 65536 % 256), .int .u8 (wd % 65536 / 256), .int .u8 (wd % 256)] 5))
  have HA22 := Lib.hid ((Below.refl w2.heap.size w2).alloc (Nat.le_refl _) (.cells #[.int .u8 ty, .int .u8 co, .int .u8 0, .int .u8 0, .int .u8 (wd / 65536 / 256), .int .u8 (wd / 65536 % 256), .int .u8 (wd % 65536 / 256), .int .u8 (wd % 256)] 5))
  go_wp2_with (first
    | (at_builtin; clear v1' v2' v3' v4' v5' v6'; refine wpList_append_row rfl (.tmp 86) (.tmp 88) _ rfl w2.heap.size 5 i0 _ 1 Try.underlying22 HI0.out HZ0.out HZ1.out HZ2.out rfl (.slice (some ⟨w2.heap.size, 0, none⟩) 8 8) 8 _ rfl HL8.out A1 n1 c1 w.heap.size (l1.map (.int .u8)) rfl Z1.out (by rw [List.length_map]; exact L1.out) (R1.out.below HA2.out) (ONE.out _) ME0.out ME0'.out HA22.out.size ?_; intro vw w3 ownw gw_; have HB23 := Lib.hid (below_grown HA22.out HL8.out (Nat.le_refl _) HA22.out.size gw_); rw [E8.out, EM.out] at ownw; obtain ⟨gw, cw, rfl, hgw, gwl, hncw, _, _, _⟩ := own_form ownw (by omega); have OW3 := Lib.hid ownw; have HB3 := Lib.hid (bel_call HB2.out HB23.out); have HLIT := Lib.hid (World.ownsRow_lit (base := w3.heap.size) (e := 5) (size := 1) w3 #[] 0 (Nat.le_refl _) (Nat.zero_le _) rfl); have BLA := Lib.hid (HB3.out.alloc HB3.out.size (.cells #[] 5)); have BLB := Lib.hid ((Below.refl w3.heap.size w3).alloc (Nat.le_refl _) (.cells #[] 5)); clear ownw gw_ m0 m1 m2 m3)
    | (at_builtin; refine wpList_append_row rfl (.tmp 90) (.tmp 91) _ rfl w3.heap.size 5 i0 _ 1 Try.underlying22 HI0.out HZ0.out HZ1.out HZ2.out rfl (.slice (some ⟨w3.heap.size, 0, none⟩) 0 0) 0 [] rfl HLIT.out (some ⟨b2, off2 + 1, none⟩) (n2 - 1) (c2 - 1) w.heap.size (l3.map (.int .u8)) rfl Z3.out (by rw [List.length_map]; exact L3.out) (R3.out.below BLA.out) (ONE.out _) ME1.out ME2.out (by simp) ?_; intro va wa owna ga; have HOa := Lib.hid owna; have HBa := Lib.hid (below_grown BLB.out HLIT.out (Nat.le_refl _) (by simp) ga); clear owna ga)
    | (at_builtin; have hsa := HBa.out.size; refine wpList_append_row rfl (.tmp 92) (.tmp 93) _ rfl w3.heap.size 5 i0 _ 1 Try.underlying22 HI0.out HZ0.out HZ1.out HZ2.out rfl va (0 + (n2 - 1)) _ rfl HOa.out (some ⟨gw, 0, none⟩) N cw w3.heap.size (U0.map (.int .u8)) rfl (by intro h; cases h) (by rw [List.length_map]; exact HUL0.out) ((own_row OW3.out).below HBa.out) (ONE.out _) ME3.out ME4.out hsa ?_; intro vb2 wb ownb2 gb_; have HOb := Lib.hid ownb2; have HBb := Lib.hid (below_grown HBa.out HOa.out (Nat.le_refl _) hsa gb_); clear ownb2 gb_))
  have hob := HOb.out
  rw [EL.out, Nat.zero_add] at hob
  obtain ⟨Ab, cb2, rfl⟩ := own_slice hob
  have HRW := Lib.hid (HRC.out Ab cb2 wb (own_row hob))
  clear hob HOa HOb
  refine HRW.out.mono ?_
  rintro e w6 ⟨rfl, hb6⟩
  have HB36 := Lib.hid (bel_call HBb.out hb6)
  have OW6 := own_keep OW3.out HB36.out
  have gwl6 := (OW6.lt gw rfl).2
  have hcw6 : ∀ j, j < N → w6.cell? ⟨gw, j, none⟩ = (U0.map (Value.int .u8))[j]? := fun j hj => OW6.cellAt j (by omega)
  have j6 : w6.cell? ⟨gw, 2, none⟩ = some (.int .u8 (U0.getD 2 0)) := by
    rw [hcw6 2 (by omega), List.getElem?_map, List.getElem?_eq_getElem (by rw [HUL0.out]; omega), List.getD_eq_getElem?_getD, List.getElem?_eq_getElem (by rw [HUL0.out]; omega)]; rfl
  have j7 : w6.cell? ⟨gw, 3, none⟩ = some (.int .u8 (U0.getD 3 0)) := by
    rw [hcw6 3 (by omega), List.getElem?_map, List.getElem?_eq_getElem (by rw [HUL0.out]; omega), List.getD_eq_getElem?_getD, List.getElem?_eq_getElem (by rw [HUL0.out]; omega)]; rfl
  have f6 : w6.frozen? ⟨gw, 2, none⟩ = false := OW6.frozenAt 2
  have f7 : w6.frozen? ⟨gw, 3, none⟩ = false := OW6.frozenAt 3
  have y6 : (2 : Int) < (N : Int) := by omega
  have y7 : (3 : Int) < (N : Int) := by omega
  have OWK := Lib.hid OW6
  have HB26 := Lib.hid (show Below w2.heap.size w2 w6 from HB23.out.trans (HB36.out.mono HB23.out.size))
  clear OW6 hcw6 hb6 HB36 BLA BLB HLIT HBb HRW HBa HB23
  generalize U0.getD 2 0 = q6 at *
  generalize U0.getD 3 0 = q7 at *
  have OWZ := Lib.hid (own_stored (own_stored OWK.out 2 (.int .u8 ((65535 - fs) / 256))) 3 (.int .u8 ((65535 - fs) % 256)))
  have HBZ := Lib.hid ((HB26.out.setCell (p := ⟨gw, 2, none⟩) hgw (.int .u8 ((65535 - fs) / 256))).setCell (p := ⟨gw, 3, none⟩) hgw (.int .u8 ((65535 - fs) % 256)))
  have hst : ((U0.map (Value.int .u8)).set 2 (.int .u8 ((65535 - fs) / 256))).set 3 (.int .u8 ((65535 - fs) % 256)) = U.map (Value.int .u8) := by
    rw [← HSET.out, List.map_set, List.map_set]
  rw [hst] at OWZ
  have BOX6 := Lib.hid (BOX2.out.below HBZ.out BOX2.out.lt)
  have OB6 := Lib.hid (own_keep OB2.out HBZ.out)
  have HB16 := Lib.hid (bel_call HB2.out HBZ.out)
  have R36 := Lib.hid ((R3.out.below HB16.out).more HB16.out.size)
  have HPX := Lib.hid (HPA.out gb cb ((w6.setCell ⟨gw, 2, none⟩ (.int .u8 ((65535 - fs) / 256))).setCell ⟨gw, 3, none⟩ (.int .u8 ((65535 - fs) % 256))) hncb hcb (OB6.out.lt gb rfl).2 (Go.Proofs.Ytgikoljnmmnkkaa.net.lies_own OB6.out HUL.out) R36.out)
  clear OWK HB26 HBZ hst OB2 BOX2
  have a1 := A12.out.1
  have a2 := A12.out.2
  go_wp2_with fail
  clear a1 a2 j6 j7 f6 f7
  refine HPX.out.mono ?_
  rintro e w7 hpost
  obtain ⟨Ax, cx, rfl, ownx, hb7⟩ := HPK.out _ _ _ hpost
  have BX8 := Lib.hid (Blk.new w7 26 #[.int .i64 ty, .int .i64 co, .int .u32 wd, .slice Ax n1 cx])
  have HB78 := Lib.hid (show Below ((w6.setCell ⟨gw, 2, none⟩ (.int .u8 ((65535 - fs) / 256))).setCell ⟨gw, 3, none⟩ (.int .u8 ((65535 - fs) % 256))).heap.size ((w6.setCell ⟨gw, 2, none⟩ (.int .u8 ((65535 - fs) / 256))).setCell ⟨gw, 3, none⟩ (.int .u8 ((65535 - fs) % 256))) (w7.alloc (.cells #[.int .i64 ty, .int .i64 co, .int .u32 wd, .slice Ax n1 cx] 26)) from bel_alloc hb7 _)
  have BOX8 := Lib.hid (BOX6.out.below HB78.out BOX6.out.lt)
  have OX8 := Lib.hid (ownx.alloc (.cells #[.int .i64 ty, .int .i64 co, .int .u32 wd, .slice Ax n1 cx] 26))
  have HB18 := Lib.hid (bel_call HB16.out HB78.out)
  have cv1 := conv_any (c := cb) (own_row (own_keep OB6.out HB78.out)) HUL.out
  have cv2 := conv_any (c := cw) (own_row (own_keep OWZ.out HB78.out)) HUL.out
  have HSA := Lib.hid (same_one (w7.alloc (.cells #[.int .i64 ty, .int .i64 co, .int .u32 wd, .slice Ax n1 cx] 26)) ty co wd wd Ax A1 n1 cx c1 l1 rfl L1.out (own_row OX8.out) ((R1.out.below HB18.out).more HB18.out.size))
  have hw7 : w.heap.size < w7.heap.size := Nat.lt_of_lt_of_le BOX6.out.lt hb7.size
  clear hpost ownx hb7 HPX BOX6 OB6 HB16 R36 HB78 OWZ
  have d0 : (w7.alloc (.cells #[.int .i64 ty, .int .i64 co, .int .u32 wd, .slice Ax n1 cx] 26)).cell? ⟨w7.heap.size, 0, none⟩ = some (.int .i64 ty) := BX8.out.cell 0
  have d1 : (w7.alloc (.cells #[.int .i64 ty, .int .i64 co, .int .u32 wd, .slice Ax n1 cx] 26)).cell? ⟨w7.heap.size, 1, none⟩ = some (.int .i64 co) := BX8.out.cell 1
  have d2 : (w7.alloc (.cells #[.int .i64 ty, .int .i64 co, .int .u32 wd, .slice Ax n1 cx] 26)).cell? ⟨w7.heap.size, 2, none⟩ = some (.int .u32 wd) := BX8.out.cell 2
  have d3 : (w7.alloc (.cells #[.int .i64 ty, .int .i64 co, .int .u32 wd, .slice Ax n1 cx] 26)).cell? ⟨w7.heap.size, 3, none⟩ = some (.slice Ax n1 cx) := BX8.out.cell 3
  have g0 : (w7.alloc (.cells #[.int .i64 ty, .int .i64 co, .int .u32 wd, .slice Ax n1 cx] 26)).cell? ⟨w.heap.size, 0, none⟩ = some (.int .i64 ty) := BOX8.out.cell 0
  have g1 : (w7.alloc (.cells #[.int .i64 ty, .int .i64 co, .int .u32 wd, .slice Ax n1 cx] 26)).cell? ⟨w.heap.size, 1, none⟩ = some (.int .i64 co) := BOX8.out.cell 1
  have g2 : (w7.alloc (.cells #[.int .i64 ty, .int .i64 co, .int .u32 wd, .slice Ax n1 cx] 26)).cell? ⟨w.heap.size, 2, none⟩ = some (.int .u32 wd) := BOX8.out.cell 2
  have g3 : (w7.alloc (.cells #[.int .i64 ty, .int .i64 co, .int .u32 wd, .slice Ax n1 cx] 26)).cell? ⟨w.heap.size, 3, none⟩ = some (.slice A1 n1 c1) := BOX8.out.cell 3
  go_wp2_with fail
  refine HSA.out.mono ?_
  rintro e w9 ⟨rfl, hb9⟩
  go_wp2_with fail
  refine (awake_any _).mono ?_
  rintro e w' ⟨rfl, rfl⟩
  go_wp2_with fail
  go_ret
  exact ⟨rfl, bel_call HB18.out hb9⟩
theorem puts_any (v1 v2 : Value) (AO : Option Addr) (no c0 : Nat) (A1 A2 : Option Addr) (n1 n2 c1 c2 : Nat) (l1 l2 : List Int) (ty co wd : Int) (w : World) (h1 : l1.length = n1) (h2 : l2.length = n2) (k1 : n1 ≤ 300) (k2 : n2 ≤ 300) (hn2 : n2 ≤ c2) (hc2 : c2 ≤ 9223372036854775807) (z1 : A1 = none → c1 = 0) (z2 : A2 = none → c2 = 0) (r1 : Row w w.heap.size A1 (l1.map (.int .u8))) (r2 : Row w w.heap.size A2 (l2.map (.int .u8))) (b1 : ∀ x ∈ l1, 0 ≤ x ∧ x ≤ 255) (b2 : ∀ x ∈ l2, 0 ≤ x ∧ x ≤ 255) (s5 : 0 ≤ wd) (s6 : wd ≤ 4294967295)
    (C1 : Hid (∀ w : World, Calls Try.prog 11 #[.slice AO no c0] w fun e w' => e = .returned (.slice A1 n1 c1) ∧ w = w'))
    (C2 : Hid (∀ w : World, Calls Try.prog 11 #[v2] w fun e w' => e = .returned (.slice A2 n2 c2) ∧ w = w')) :
    Calls Try.prog 4 #[.agg #[.int .i64 ty, .int .i64 co, .int .u32 wd, .slice AO no c0], v2] w fun e w' => e = .returned (.bool true) ∧ Below w.heap.size w w' := by
  by_cases hp : okM ty co
  · rcases Nat.mod_two_eq_zero_or_one n2 with he | he
    · exact good_even v1 v2 AO no c0 A1 n1 n2 c1 c2 l1 l2 ty co wd w A2 h1 k1 k2 hn2 hc2 z1 r1 b1 b2 s5 s6 he h2 r2 z2 C1 C2 hp
    · obtain ⟨b, off, rfl, hb, hs⟩ := lies_of r2 (by omega)
      by_cases ho : c2 = 1
      · exact good_one v1 v2 AO no c0 A1 n1 n2 c1 c2 l1 (l2.drop 1) ty co wd w b off h1 k1 k2 hn2 hc2 z1 r1 b1 (fun x hx => b2 x (List.mem_of_mem_drop hx)) s5 s6 he ho (by rw [List.length_drop]; omega) (.inl (by rw [List.drop_eq_nil_of_le (by omega)]; rfl)) C1 C2 hp
      · exact good_odd v1 v2 AO no c0 A1 n1 n2 c1 c2 l1 (l2.drop 1) ty co wd w b off h1 k1 k2 hn2 hc2 z1 r1 b1 (fun x hx => b2 x (List.mem_of_mem_drop hx)) s5 s6 he ho (by rw [List.length_drop, h2]) ((hs.drop 1).row hb) C1 C2 hp
  · rcases Nat.mod_two_eq_zero_or_one n2 with he | he
    · exact wrong_even v1 v2 AO no c0 A1 n1 n2 c1 c2 l1 l2 ty co wd w A2 h1 k1 k2 hn2 hc2 z1 r1 b1 b2 s5 s6 he h2 r2 z2 C1 C2 hp
    · obtain ⟨b, off, rfl, hb, hs⟩ := lies_of r2 (by omega)
      by_cases ho : c2 = 1
      · exact wrong_one v1 v2 AO no c0 A1 n1 n2 c1 c2 l1 (l2.drop 1) ty co wd w b off h1 k1 k2 hn2 hc2 z1 r1 b1 (fun x hx => b2 x (List.mem_of_mem_drop hx)) s5 s6 he ho (by rw [List.length_drop]; omega) (.inl (by rw [List.drop_eq_nil_of_le (by omega)]; rfl)) C1 C2 hp
      · exact wrong_odd v1 v2 AO no c0 A1 n1 n2 c1 c2 l1 (l2.drop 1) ty co wd w b off h1 k1 k2 hn2 hc2 z1 r1 b1 (fun x hx => b2 x (List.mem_of_mem_drop hx)) s5 s6 he ho (by rw [List.length_drop, h2]) ((hs.drop 1).row hb) C1 C2 hp
end Go.Proofs.Ytgikoljnmmnkkaa.icmpF
