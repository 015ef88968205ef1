/- Layer 11: the law on datagrams that are put, walked. -/
import Derived.Test.YtjgeknkfinaimaaUdpJ
namespace Go.Proofs.Ytjgeknkfinaimaa.udpK
open Go.ChangeShapes Go.WideShapes Go.ChangeAt Go.RowKit
open Go.Proofs.Ytjgeknkfinaimaa.base Go.Proofs.Ytjgeknkfinaimaa.sumA Go.Proofs.Ytjgeknkfinaimaa.sumB Go.Proofs.Ytjgeknkfinaimaa.octA Go.Proofs.Ytjgeknkfinaimaa.octB Go.Proofs.Ytjgeknkfinaimaa.octC Go.Proofs.Ytjgeknkfinaimaa.octE Go.Proofs.Ytjgeknkfinaimaa.octF Go.Proofs.Ytjgeknkfinaimaa.rdrA Go.Proofs.Ytjgeknkfinaimaa.udpA Go.Proofs.Ytjgeknkfinaimaa.udpB Go.Proofs.Ytjgeknkfinaimaa.udpD Go.Proofs.Ytjgeknkfinaimaa.udpE
set_option linter.unusedVariables false

theorem lies_own {w : World} {base g n c : Nat} {l : List Int} (h : w.ownsRow base 5 1 (.slice (some ⟨g, 0, none⟩) n c) n (l.map (.int .u8))) (hl : l.length = n) : Lies w g 0 l := fun i hi => by
  rw [Nat.zero_add, h.cellAt i (by omega), List.getElem?_map, List.getElem?_eq_getElem hi, List.getD_eq_getElem?_getD, List.getElem?_eq_getElem hi]
  rfl
set_option maxRecDepth 100000 in
set_option maxHeartbeats 4000000 in
theorem wrong_even (bare : Bool) (v1 v2 : Value) (A1 : Option Addr) (n1 n2 c1 c2 : Nat) (l1 l3 : List Int) (sp dp : Int) (w : World) (A2 : Option Addr) (h1 : l1.length = n1) (k1 : n1 ≤ 300) (k2 : n2 ≤ 300) (hn2 : n2 ≤ c2) (hc2 : c2 ≤ 9223372036854775807) (z1 : A1 = none → c1 = 0) (r1 : Row w w.heap.size A1 (l1.map (.int .u8))) (b1 : ∀ x ∈ l1, 0 ≤ x ∧ x ≤ 255) (b3 : ∀ x ∈ l3, 0 ≤ x ∧ x ≤ 255)
    (he : n2 % 2 = 0) (h3 : l3.length = n2) (r3 : Row w w.heap.size A2 (l3.map (.int .u8))) (z3 : A2 = none → c2 = 0)
    (C1 : Hid (∀ w : World, Calls Try.prog 10 #[v1] w fun e w' => e = .returned (.slice A1 n1 c1) ∧ w = w'))
    (C2 : Hid (∀ w : World, Calls Try.prog 10 #[v2] w fun e w' => e = .returned (.slice A2 n2 c2) ∧ w = w'))
    (hp : ¬ ports sp dp) :
    Calls Try.prog 5 #[.agg #[.int .i64 sp, .int .i64 dp, .bool bare], v1, v2] w fun e w' => e = .returned (.bool true) ∧ Below w.heap.size w w' := by
  have t0 : (((n2 : Int) % 2) == 1) = false := eqF (by omega)
  have HBY := Lib.hid (bytes_wrong sp dp bare A1 A2 n1 c1 n2 c2 (w.alloc (.cells #[.int .i64 sp, .int .i64 dp, .bool bare] 28)) hp)
  have HRT := Lib.hid (fun w => Go.Proofs.Ytjgeknkfinaimaa.udpJ.rightN sp dp bare w hp)
  have HLR := Lib.hid (fun w => Go.Proofs.Ytjgeknkfinaimaa.udpJ.lawrightN sp dp bare w hp)
  have HAW := Lib.hid awake_any
  have BOX0 := Lib.hid (Blk.new w 28 #[.int .i64 sp, .int .i64 dp, .bool bare])
  have HB0 := Lib.hid (show Below w.heap.size w (w.alloc (.cells #[.int .i64 sp, .int .i64 dp, .bool bare] 28)) from (Below.refl _ _).alloc (Nat.le_refl _) _)
  clear hp h1 r1 b1 b3 h3 r3 z1 he hc2 hn2
  clear z3
  go_enter Try.func5, Try.ntmps5
  go_wp2_with fail
  refine (C1.out _).mono ?_
  rintro e w' ⟨rfl, rfl⟩
  go_wp2_with fail
  refine (C2.out _).mono ?_
  rintro e w' ⟨rfl, rfl⟩
  go_wp2_with fail
  refine HBY.out.mono ?_
  rintro e w1 ⟨rfl, hb1⟩
  have HB1 := Lib.hid (bel_call HB0.out hb1)
  have BOX1 := Lib.hid (BOX0.out.below hb1 BOX0.out.lt)
  clear hb1
  go_wp2_with fail
  have HK := Lib.hid (show w1.drew.cell? ⟨w.heap.size, 0, none⟩ = some (.int .i64 sp) ∧ w1.drew.cell? ⟨w.heap.size, 1, none⟩ = some (.int .i64 dp) ∧ w1.drew.cell? ⟨w.heap.size, 2, none⟩ = some (.bool bare) from ⟨BOX1.out.cell 0, BOX1.out.cell 1, BOX1.out.cell 2⟩)
  go_region_held3 (fun w' => w'.cell? ⟨w.heap.size, 0, none⟩ = some (.int .i64 sp) ∧ w'.cell? ⟨w.heap.size, 1, none⟩ = some (.int .i64 dp) ∧ w'.cell? ⟨w.heap.size, 2, none⟩ = some (.bool bare)) (first | assumption | exact HK3.out | exact HK2.out | exact HK.out) (first
    | (go_at_call 14; refine (HRT.out _).mono ?_; rintro e w2 ⟨rfl, hb2⟩; have HK2 := Lib.hid (Go.Proofs.Ytjgeknkfinaimaa.udpA.keepK HK.out hb2); have HB2 := Lib.hid hb2; clear hb2)
    | (go_at_call 15; refine (HLR.out _).mono ?_; rintro e w3 ⟨rfl, hb3⟩; have HK3 := Lib.hid (Go.Proofs.Ytjgeknkfinaimaa.udpA.keepK HK2.out hb3); have HB3 := Lib.hid (bel_call (bel_call (bel_drew (Below.refl _ w1)) HB2.out) hb3); clear hb3))
  have BOX3 := Lib.hid (BOX1.out.below HB3.out BOX1.out.lt)
  have m0 : w3.cell? ⟨w.heap.size, 0, none⟩ = some (.int .i64 sp) := BOX3.out.cell 0
  have m1 : w3.cell? ⟨w.heap.size, 1, none⟩ = some (.int .i64 dp) := BOX3.out.cell 1
  have m2 : w3.cell? ⟨w.heap.size, 2, none⟩ = some (.bool bare) := BOX3.out.cell 2
  go_wp2_with fail
  refine (HLR.out _).mono ?_
  rintro e w4 ⟨rfl, hb4⟩
  have HB4 := Lib.hid (bel_call HB3.out hb4)
  have BOX4 := Lib.hid (BOX3.out.below hb4 BOX3.out.lt)
  clear m0 m1 m2 hb4 BOX3 HK HK2 HK3 HB2 HB3
  go_wp2_with fail
  refine (HAW.out _).mono ?_
  rintro e w5 ⟨rfl, hb5⟩
  go_wp2_with fail
  go_ret
  exact ⟨rfl, bel_call (bel_call HB1.out HB4.out) hb5⟩
set_option maxRecDepth 100000 in
set_option maxHeartbeats 4000000 in
theorem wrong_one (bare : Bool) (v1 v2 : Value) (A1 : Option Addr) (n1 n2 c1 c2 : Nat) (l1 l3 : List Int) (sp dp : Int) (w : World) (b2 off2 : Nat) (h1 : l1.length = n1) (k1 : n1 ≤ 300) (k2 : n2 ≤ 300) (hn2 : n2 ≤ c2) (hc2 : c2 ≤ 9223372036854775807) (z1 : A1 = none → c1 = 0) (r1 : Row w w.heap.size A1 (l1.map (.int .u8))) (b1 : ∀ x ∈ l1, 0 ≤ x ∧ x ≤ 255) (b3 : ∀ x ∈ l3, 0 ≤ x ∧ x ≤ 255)
    (he : n2 % 2 = 1) (ho : c2 = 1) (h3 : l3.length = 0) (r3 : Row w w.heap.size (some ⟨b2, off2, none⟩) (l3.map (.int .u8)))
    (C1 : Hid (∀ w : World, Calls Try.prog 10 #[v1] w fun e w' => e = .returned (.slice A1 n1 c1) ∧ w = w'))
    (C2 : Hid (∀ w : World, Calls Try.prog 10 #[v2] w fun e w' => e = .returned (.slice (some ⟨b2, off2, none⟩) n2 c2) ∧ w = w'))
    (hp : ¬ ports sp dp) :
    Calls Try.prog 5 #[.agg #[.int .i64 sp, .int .i64 dp, .bool bare], v1, v2] w fun e w' => e = .returned (.bool true) ∧ Below w.heap.size w w' := by
  have t0 : (((n2 : Int) % 2) == 1) = true := eqT (by omega)
  have y1 : 1 ≤ n2 := by omega
  have y2 : (1 : Int) ≤ (n2 : Int) := by omega
  obtain rfl : n2 = 1 := by omega
  subst ho
  have HBY := Lib.hid (bytes_wrong sp dp bare A1 (some ⟨b2, off2, none⟩) n1 c1 0 0 (w.alloc (.cells #[.int .i64 sp, .int .i64 dp, .bool bare] 28)) hp)
  have HRT := Lib.hid (fun w => Go.Proofs.Ytjgeknkfinaimaa.udpJ.rightN sp dp bare w hp)
  have HLR := Lib.hid (fun w => Go.Proofs.Ytjgeknkfinaimaa.udpJ.lawrightN sp dp bare w hp)
  have HAW := Lib.hid awake_any
  have BOX0 := Lib.hid (Blk.new w 28 #[.int .i64 sp, .int .i64 dp, .bool bare])
  have HB0 := Lib.hid (show Below w.heap.size w (w.alloc (.cells #[.int .i64 sp, .int .i64 dp, .bool bare] 28)) from (Below.refl _ _).alloc (Nat.le_refl _) _)
  clear hp h1 r1 b1 b3 h3 r3 z1 he hc2 hn2
  go_enter Try.func5, Try.ntmps5
  go_wp2_with fail
  refine (C1.out _).mono ?_
  rintro e w' ⟨rfl, rfl⟩
  go_wp2_with fail
  refine (C2.out _).mono ?_
  rintro e w' ⟨rfl, rfl⟩
  go_wp2_with fail
  refine HBY.out.mono ?_
  rintro e w1 ⟨rfl, hb1⟩
  have HB1 := Lib.hid (bel_call HB0.out hb1)
  have BOX1 := Lib.hid (BOX0.out.below hb1 BOX0.out.lt)
  clear hb1
  go_wp2_with fail
  have HK := Lib.hid (show w1.drew.cell? ⟨w.heap.size, 0, none⟩ = some (.int .i64 sp) ∧ w1.drew.cell? ⟨w.heap.size, 1, none⟩ = some (.int .i64 dp) ∧ w1.drew.cell? ⟨w.heap.size, 2, none⟩ = some (.bool bare) from ⟨BOX1.out.cell 0, BOX1.out.cell 1, BOX1.out.cell 2⟩)
  go_region_held3 (fun w' => w'.cell? ⟨w.heap.size, 0, none⟩ = some (.int .i64 sp) ∧ w'.cell? ⟨w.heap.size, 1, none⟩ = some (.int .i64 dp) ∧ w'.cell? ⟨w.heap.size, 2, none⟩ = some (.bool bare)) (first | assumption | exact HK3.out | exact HK2.out | exact HK.out) (first
    | (go_at_call 14; refine (HRT.out _).mono ?_; rintro e w2 ⟨rfl, hb2⟩; have HK2 := Lib.hid (Go.Proofs.Ytjgeknkfinaimaa.udpA.keepK HK.out hb2); have HB2 := Lib.hid hb2; clear hb2)
    | (go_at_call 15; refine (HLR.out _).mono ?_; rintro e w3 ⟨rfl, hb3⟩; have HK3 := Lib.hid (Go.Proofs.Ytjgeknkfinaimaa.udpA.keepK HK2.out hb3); have HB3 := Lib.hid (bel_call (bel_call (bel_drew (Below.refl _ w1)) HB2.out) hb3); clear hb3))
  have BOX3 := Lib.hid (BOX1.out.below HB3.out BOX1.out.lt)
  have m0 : w3.cell? ⟨w.heap.size, 0, none⟩ = some (.int .i64 sp) := BOX3.out.cell 0
  have m1 : w3.cell? ⟨w.heap.size, 1, none⟩ = some (.int .i64 dp) := BOX3.out.cell 1
  have m2 : w3.cell? ⟨w.heap.size, 2, none⟩ = some (.bool bare) := BOX3.out.cell 2
  go_wp2_with fail
  refine (HLR.out _).mono ?_
  rintro e w4 ⟨rfl, hb4⟩
  have HB4 := Lib.hid (bel_call HB3.out hb4)
  have BOX4 := Lib.hid (BOX3.out.below hb4 BOX3.out.lt)
  clear m0 m1 m2 hb4 BOX3 HK HK2 HK3 HB2 HB3
  go_wp2_with fail
  refine (HAW.out _).mono ?_
  rintro e w5 ⟨rfl, hb5⟩
  go_wp2_with fail
  go_ret
  exact ⟨rfl, bel_call (bel_call HB1.out HB4.out) hb5⟩
set_option maxRecDepth 100000 in
set_option maxHeartbeats 4000000 in
theorem wrong_odd (bare : Bool) (v1 v2 : Value) (A1 : Option Addr) (n1 n2 c1 c2 : Nat) (l1 l3 : List Int) (sp dp : Int) (w : World) (b2 off2 : Nat) (h1 : l1.length = n1) (k1 : n1 ≤ 300) (k2 : n2 ≤ 300) (hn2 : n2 ≤ c2) (hc2 : c2 ≤ 9223372036854775807) (z1 : A1 = none → c1 = 0) (r1 : Row w w.heap.size A1 (l1.map (.int .u8))) (b1 : ∀ x ∈ l1, 0 ≤ x ∧ x ≤ 255) (b3 : ∀ x ∈ l3, 0 ≤ x ∧ x ≤ 255)
    (he : n2 % 2 = 1) (ho : ¬ c2 = 1) (h3 : l3.length = n2 - 1) (r3 : Row w w.heap.size (some ⟨b2, off2 + 1, none⟩) (l3.map (.int .u8)))
    (C1 : Hid (∀ w : World, Calls Try.prog 10 #[v1] w fun e w' => e = .returned (.slice A1 n1 c1) ∧ w = w'))
    (C2 : Hid (∀ w : World, Calls Try.prog 10 #[v2] w fun e w' => e = .returned (.slice (some ⟨b2, off2, none⟩) n2 c2) ∧ w = w'))
    (hp : ¬ ports sp dp) :
    Calls Try.prog 5 #[.agg #[.int .i64 sp, .int .i64 dp, .bool bare], v1, v2] w fun e w' => e = .returned (.bool true) ∧ Below w.heap.size w w' := by
  have t0 : (((n2 : Int) % 2) == 1) = true := eqT (by omega)
  have y1 : 1 ≤ n2 := by omega
  have y2 : (1 : Int) ≤ (n2 : Int) := by omega
  have HBY := Lib.hid (bytes_wrong sp dp bare A1 (some ⟨b2, off2 + 1, none⟩) n1 c1 (n2 - 1) (c2 - 1) (w.alloc (.cells #[.int .i64 sp, .int .i64 dp, .bool bare] 28)) hp)
  have HRT := Lib.hid (fun w => Go.Proofs.Ytjgeknkfinaimaa.udpJ.rightN sp dp bare w hp)
  have HLR := Lib.hid (fun w => Go.Proofs.Ytjgeknkfinaimaa.udpJ.lawrightN sp dp bare w hp)
  have HAW := Lib.hid awake_any
  have BOX0 := Lib.hid (Blk.new w 28 #[.int .i64 sp, .int .i64 dp, .bool bare])
  have HB0 := Lib.hid (show Below w.heap.size w (w.alloc (.cells #[.int .i64 sp, .int .i64 dp, .bool bare] 28)) from (Below.refl _ _).alloc (Nat.le_refl _) _)
  clear hp h1 r1 b1 b3 h3 r3 z1 he hc2 hn2
  go_enter Try.func5, Try.ntmps5
  go_wp2_with fail
  refine (C1.out _).mono ?_
  rintro e w' ⟨rfl, rfl⟩
  go_wp2_with fail
  refine (C2.out _).mono ?_
  rintro e w' ⟨rfl, rfl⟩
  go_wp2_with fail
  refine HBY.out.mono ?_
  rintro e w1 ⟨rfl, hb1⟩
  have HB1 := Lib.hid (bel_call HB0.out hb1)
  have BOX1 := Lib.hid (BOX0.out.below hb1 BOX0.out.lt)
  clear hb1
  go_wp2_with fail
  have HK := Lib.hid (show w1.drew.cell? ⟨w.heap.size, 0, none⟩ = some (.int .i64 sp) ∧ w1.drew.cell? ⟨w.heap.size, 1, none⟩ = some (.int .i64 dp) ∧ w1.drew.cell? ⟨w.heap.size, 2, none⟩ = some (.bool bare) from ⟨BOX1.out.cell 0, BOX1.out.cell 1, BOX1.out.cell 2⟩)
  go_region_held3 (fun w' => w'.cell? ⟨w.heap.size, 0, none⟩ = some (.int .i64 sp) ∧ w'.cell? ⟨w.heap.size, 1, none⟩ = some (.int .i64 dp) ∧ w'.cell? ⟨w.heap.size, 2, none⟩ = some (.bool bare)) (first | assumption | exact HK3.out | exact HK2.out | exact HK.out) (first
    | (go_at_call 14; refine (HRT.out _).mono ?_; rintro e w2 ⟨rfl, hb2⟩; have HK2 := Lib.hid (Go.Proofs.Ytjgeknkfinaimaa.udpA.keepK HK.out hb2); have HB2 := Lib.hid hb2; clear hb2)
    | (go_at_call 15; refine (HLR.out _).mono ?_; rintro e w3 ⟨rfl, hb3⟩; have HK3 := Lib.hid (Go.Proofs.Ytjgeknkfinaimaa.udpA.keepK HK2.out hb3); have HB3 := Lib.hid (bel_call (bel_call (bel_drew (Below.refl _ w1)) HB2.out) hb3); clear hb3))
  have BOX3 := Lib.hid (BOX1.out.below HB3.out BOX1.out.lt)
  have m0 : w3.cell? ⟨w.heap.size, 0, none⟩ = some (.int .i64 sp) := BOX3.out.cell 0
  have m1 : w3.cell? ⟨w.heap.size, 1, none⟩ = some (.int .i64 dp) := BOX3.out.cell 1
  have m2 : w3.cell? ⟨w.heap.size, 2, none⟩ = some (.bool bare) := BOX3.out.cell 2
  go_wp2_with fail
  refine (HLR.out _).mono ?_
  rintro e w4 ⟨rfl, hb4⟩
  have HB4 := Lib.hid (bel_call HB3.out hb4)
  have BOX4 := Lib.hid (BOX3.out.below hb4 BOX3.out.lt)
  clear m0 m1 m2 hb4 BOX3 HK HK2 HK3 HB2 HB3
  go_wp2_with fail
  refine (HAW.out _).mono ?_
  rintro e w5 ⟨rfl, hb5⟩
  go_wp2_with fail
  go_ret
  exact ⟨rfl, bel_call (bel_call HB1.out HB4.out) hb5⟩
end Go.Proofs.Ytjgeknkfinaimaa.udpK
