/- Layer 11: the law on datagrams that are put, walked. -/
import Derived.Test.YtjgeknkfinaimaaUdpK
namespace Go.Proofs.Ytjgeknkfinaimaa.udpL
open Go.ChangeShapes Go.WideShapes Go.ChangeAt Go.RowKit
open Go.Proofs.Ytjgeknkfinaimaa.base Go.Proofs.Ytjgeknkfinaimaa.sumA Go.Proofs.Ytjgeknkfinaimaa.sumB Go.Proofs.Ytjgeknkfinaimaa.octA Go.Proofs.Ytjgeknkfinaimaa.octB Go.Proofs.Ytjgeknkfinaimaa.octC Go.Proofs.Ytjgeknkfinaimaa.octE Go.Proofs.Ytjgeknkfinaimaa.octF Go.Proofs.Ytjgeknkfinaimaa.rdrA Go.Proofs.Ytjgeknkfinaimaa.udpA Go.Proofs.Ytjgeknkfinaimaa.udpB Go.Proofs.Ytjgeknkfinaimaa.udpD Go.Proofs.Ytjgeknkfinaimaa.udpE Go.Proofs.Ytjgeknkfinaimaa.udpK
set_option linter.unusedVariables false

set_option maxRecDepth 100000 in
set_option maxHeartbeats 8000000 in
theorem bare_even (v1 v2 : Value) (A1 : Option Addr) (n1 n2 c1 c2 : Nat) (l1 l3 : List Int) (sp dp : Int) (w : World) (A2 : Option Addr) (h1 : l1.length = n1) (k1 : n1 ≤ 300) (k2 : n2 ≤ 300) (hn2 : n2 ≤ c2) (hc2 : c2 ≤ 9223372036854775807) (z1 : A1 = none → c1 = 0) (r1 : Row w w.heap.size A1 (l1.map (.int .u8))) (b1 : ∀ x ∈ l1, 0 ≤ x ∧ x ≤ 255) (b3 : ∀ x ∈ l3, 0 ≤ x ∧ x ≤ 255)
    (he : n2 % 2 = 0) (h3 : l3.length = n2) (r3 : Row w w.heap.size A2 (l3.map (.int .u8))) (z3 : A2 = none → c2 = 0)
    (C1 : Hid (∀ w : World, Calls Try.prog 10 #[v1] w fun e w' => e = .returned (.slice A1 n1 c1) ∧ w = w'))
    (C2 : Hid (∀ w : World, Calls Try.prog 10 #[v2] w fun e w' => e = .returned (.slice A2 n2 c2) ∧ w = w'))
    (hp : ports sp dp) :
    Calls Try.prog 5 #[.agg #[.int .i64 sp, .int .i64 dp, .bool true], v1, v2] w fun e w' => e = .returned (.bool true) ∧ Below w.heap.size w w' := by
  have t0 : (((n2 : Int) % 2) == 1) = false := eqF (by omega)
  have HB0 := Lib.hid (show Below w.heap.size w (w.alloc (.cells #[.int .i64 sp, .int .i64 dp, .bool true] 28)) from (Below.refl _ _).alloc (Nat.le_refl _) _)
  have BOX0 := Lib.hid (Blk.new w 28 #[.int .i64 sp, .int .i64 dp, .bool true])
  have h3e : l3.length % 2 = 0 := by omega
  have hin0 : ∀ x ∈ l3 ++ ub sp dp l1 0, 0 ≤ x ∧ x ≤ 255 := fun x hx => (List.mem_append.1 hx).elim (b3 x) (ub_in sp dp l1 0 b1 x)
  have hck := chkZ_in _ hin0
  have HBY := Lib.hid (Go.Proofs.Ytjgeknkfinaimaa.udpC.bytes_any sp dp true A1 A2 n1 c1 n2 c2 l1 l3 (w.alloc (.cells #[.int .i64 sp, .int .i64 dp, .bool true] 28)) hp h1 (by omega) ((r1.below HB0.out).more HB0.out.size) b1 h3 (by omega) ((r3.below HB0.out).more HB0.out.size) b3)
  have HRT := Lib.hid (fun w => Go.Proofs.Ytjgeknkfinaimaa.udpJ.rightB sp dp true w hp)
  have HLR := Lib.hid (fun w => Go.Proofs.Ytjgeknkfinaimaa.udpJ.lawrightB sp dp true w hp)
  have HLB := Lib.hid (fun (W : World) hr => lawbytes_any sp dp true A1 n1 c1 l1 W hp h1 (by omega) hr z1)
  have HAW := Lib.hid awake_any
  have R1 := Lib.hid r1
  have R3 := Lib.hid r3
  have B3 := Lib.hid b3
  have L1 := Lib.hid h1
  have L3 := Lib.hid h3
  have hsay := Go.Proofs.Ytjgeknkfinaimaa.udpJ.ub_says sp dp l1 0 hp (by omega) (by omega) (by omega)
  rw [if_pos rfl] at HBY
  have HUX := Lib.hid (ub_in sp dp l1 0 b1)
  have HUL := Lib.hid (show (ub sp dp l1 0).length = 8 + n1 by rw [ub_len, h1])
  obtain ⟨u0, u2, u4, u6, u8⟩ := hsay
  have HP1 := Lib.hid (show ∀ (e : Ending) (wa wb : World), ParsePost wa (ub sp dp l1 0) l3 true e wb → ∃ v, e = .returned (.tuple #[.agg #[.int .i64 sp, .int .i64 dp, .bool true], v, .int .i64 0]) ∧ wb.ownsRow wa.heap.size 5 1 v n1 (l1.map (.int .u8)) ∧ Below wa.heap.size wa wb from fun e wa wb h => by
    have hq : (w16 (ub sp dp l1 0) 6 == 0) = true := eqT u6
    have := h.2.2 u4 (fun h => h.elim (fun h => Bool.noConfusion h.2) (fun h => h.1 u6))
    rwa [u0, u2, hq, u8, ub_len, h1, Nat.add_sub_cancel_left] at this)
  have HP2 := Lib.hid (show ∀ (e : Ending) (wa wb : World), ParsePost wa (ub sp dp l1 0) l3 false e wb → e = .returned (errv 13) ∧ Below wa.heap.size wa wb from fun e wa wb h => h.2.1 u4 (.inl ⟨u6, rfl⟩))
  have HPA := Lib.hid (fun (g c : Nat) (bb : Bool) (W : World) (hnc : 8 + n1 ≤ c) (hcc : c ≤ 9223372036854775807) (hg : g < W.heap.size) (hl : Lies W g 0 (ub sp dp l1 0)) (hr : Row W W.heap.size A2 (l3.map (.int .u8))) => parse_any g 0 (8 + n1) c n2 c2 A2 (ub sp dp l1 0) l3 bb W HUL.out (by omega) (by omega) hnc hcc hg hl HUX.out L3.out (by omega) hr B3.out)
  clear u0 u2 u4 u6 u8 hck hin0 h3e hp h1 r1 b1 b3 h3 r3 z1 he hc2 hn2
  clear z3
  generalize ub sp dp l1 0 = U at *
  obtain ⟨N, hN⟩ : ∃ N, N = 8 + n1 := ⟨_, rfl⟩
  rw [← hN] at HBY HUL HPA HLB
  have N8 : 8 ≤ N := by omega
  have N9 : N ≤ 308 := by omega
  clear hN
  go_enter Try.func5, Try.ntmps5
  go_wp2_with fail
  refine (C1.out _).mono ?_
  rintro e w' ⟨rfl, rfl⟩
  go_wp2_with fail
  refine (C2.out _).mono ?_
  rintro e w' ⟨rfl, rfl⟩
  go_wp2_with fail
  refine HBY.out.mono ?_
  rintro e w1 ⟨vb, rfl, ownb, hb1⟩
  obtain ⟨gb, cb, rfl, _, gbl, hncb, hcb, _, _⟩ := own_form ownb (by omega)
  have OB1 := Lib.hid ownb
  have HB1 := Lib.hid (bel_call HB0.out hb1)
  have BOX1 := Lib.hid (BOX0.out.below hb1 BOX0.out.lt)
  unfold maxLen at hcb
  clear hb1 ownb
  go_wp2_with fail
  have HK := Lib.hid (show w1.drew.cell? ⟨w.heap.size, 0, none⟩ = some (.int .i64 sp) ∧ w1.drew.cell? ⟨w.heap.size, 1, none⟩ = some (.int .i64 dp) ∧ w1.drew.cell? ⟨w.heap.size, 2, none⟩ = some (.bool true) from ⟨BOX1.out.cell 0, BOX1.out.cell 1, BOX1.out.cell 2⟩)
  go_region_held3 (fun w' => w'.cell? ⟨w.heap.size, 0, none⟩ = some (.int .i64 sp) ∧ w'.cell? ⟨w.heap.size, 1, none⟩ = some (.int .i64 dp) ∧ w'.cell? ⟨w.heap.size, 2, none⟩ = some (.bool true)) (first | assumption | exact HK3.out | exact HK2.out | exact HK.out) (first
    | (go_at_call 14; refine (HRT.out _).mono ?_; rintro e w2 ⟨rfl, hb2⟩; have HK2 := Lib.hid (Go.Proofs.Ytjgeknkfinaimaa.udpA.keepK HK.out hb2); have HB2 := Lib.hid hb2; clear hb2)
    | (go_at_call 15; refine (HLR.out _).mono ?_; rintro e w3 ⟨rfl, hb3⟩; have HK3 := Lib.hid (Go.Proofs.Ytjgeknkfinaimaa.udpA.keepK HK2.out hb3); have HB3 := Lib.hid (bel_call (bel_call (bel_drew (Below.refl _ w1)) HB2.out) hb3); clear hb3))
  have BOX3 := Lib.hid (BOX1.out.below HB3.out BOX1.out.lt)
  have m0 : w3.cell? ⟨w.heap.size, 0, none⟩ = some (.int .i64 sp) := BOX3.out.cell 0
  have m1 : w3.cell? ⟨w.heap.size, 1, none⟩ = some (.int .i64 dp) := BOX3.out.cell 1
  have m2 : w3.cell? ⟨w.heap.size, 2, none⟩ = some (.bool true) := BOX3.out.cell 2
  go_wp2_with fail
  refine (HLR.out _).mono ?_
  rintro e w4 ⟨rfl, hb4⟩
  have HB4 := Lib.hid (bel_call HB3.out hb4)
  have BOX4 := Lib.hid (BOX3.out.below hb4 BOX3.out.lt)
  clear m0 m1 m2 hb4 BOX3 HK HK2 HK3 HB2 HB3
  have OB4 := Lib.hid (own_keep OB1.out HB4.out)
  have HB14 := Lib.hid (bel_call HB1.out HB4.out)
  clear HB4 OB1 HB1 BOX1 HBY HRT HLR
  have m0 : w4.cell? ⟨w.heap.size, 0, none⟩ = some (.int .i64 sp) := BOX4.out.cell 0
  have m1 : w4.cell? ⟨w.heap.size, 1, none⟩ = some (.int .i64 dp) := BOX4.out.cell 1
  have m2 : w4.cell? ⟨w.heap.size, 2, none⟩ = some (.bool true) := BOX4.out.cell 2
  have HLX := Lib.hid (HLB.out w4 ((R1.out.below HB14.out).more HB14.out.size))
  go_wp2_with fail
  refine HLX.out.mono ?_
  rintro e w5 ⟨vw, rfl, ownw, hb5⟩
  obtain ⟨gw, cw, rfl, hgw, gwl, hncw, _, hcw, hfw⟩ := own_form ownw (by omega)
  have OW5 := Lib.hid ownw
  have HB5 := Lib.hid hb5
  clear m0 m1 m2 ownw hb5 HLX HLB
  have OWX := OW5
  have m2 : w5.cell? ⟨w.heap.size, 2, none⟩ = some (.bool true) := (BOX4.out.below HB5.out BOX4.out.lt).cell 2
  have BOX6 := Lib.hid (BOX4.out.below HB5.out BOX4.out.lt)
  have OB6 := Lib.hid (own_keep OB4.out HB5.out)
  have HB16 := Lib.hid (bel_call HB14.out HB5.out)
  have R36 := Lib.hid ((R3.out.below HB16.out).more HB16.out.size)
  have HPX := Lib.hid (HPA.out gb cb true w5 hncb hcb (OB6.out.lt gb rfl).2 (lies_own OB6.out HUL.out) R36.out)
  go_wp2_with fail
  refine HPX.out.mono ?_
  rintro e w7 hpost
  obtain ⟨vr, rfl, ownr, hb7⟩ := HP1.out _ _ _ hpost
  obtain ⟨Ar, cr, rfl⟩ := own_slice ownr
  have BX8 := Lib.hid (Blk.new w7 28 #[.int .i64 sp, .int .i64 dp, .bool true])
  have HB78 := Lib.hid (show Below w5.heap.size w5 (w7.alloc (.cells #[.int .i64 sp, .int .i64 dp, .bool true] 28)) from bel_alloc hb7 _)
  have BOX8 := Lib.hid (BOX6.out.below HB78.out BOX6.out.lt)
  have OB8 := Lib.hid (own_keep OB6.out HB78.out)
  have OW8 := Lib.hid (own_keep OWX.out HB78.out)
  have OR8 := Lib.hid (ownr.alloc (.cells #[.int .i64 sp, .int .i64 dp, .bool true] 28))
  have HB18 := Lib.hid (bel_call HB16.out HB78.out)
  have R38 := Lib.hid ((R3.out.below HB18.out).more HB18.out.size)
  have HPY := Lib.hid (HPA.out gb cb false (w7.alloc (.cells #[.int .i64 sp, .int .i64 dp, .bool true] 28)) hncb hcb (OB8.out.lt gb rfl).2 (lies_own OB8.out HUL.out) R38.out)
  have HZW := Lib.hid (show w7.heap.size < (w7.alloc (.cells #[.int .i64 sp, .int .i64 dp, .bool true] 28)).heap.size by simp)
  clear hpost ownr hb7 HPX BOX6 OB6 HB16 R36 R38 HB78
  go_wp2_with fail
  refine HPY.out.mono ?_
  rintro e w9 hpost
  obtain ⟨he9, hb9⟩ := HP2.out _ _ _ hpost
  unfold errv at he9
  subst he9
  have HB89 := Lib.hid (show Below (w7.alloc (.cells #[.int .i64 sp, .int .i64 dp, .bool true] 28)).heap.size (w7.alloc (.cells #[.int .i64 sp, .int .i64 dp, .bool true] 28)) (w9.alloc (.cells #[.int .i64 0, .int .i64 0, .bool false] 28)) from bel_alloc hb9 _)
  have BOX9 := Lib.hid (BOX8.out.below HB89.out BOX8.out.lt)
  have BX9 := Lib.hid (BX8.out.below HB89.out HZW.out)
  have OB9 := own_keep OB8.out HB89.out
  have OW9 := own_keep OW8.out HB89.out
  have OR9 := own_keep OR8.out HB89.out
  have HB19 := Lib.hid (bel_call HB18.out HB89.out)
  have cv1 := conv_any (c := cb) (own_row OB9) HUL.out
  have cv2 := conv_any (c := cw) (own_row OW9) HUL.out
  have cv3 := conv_any (c := cr) (own_row OR9) L1.out
  have cv4 := conv_any (c := c1) (R1.out.below HB19.out) L1.out
  clear hpost hb9 HPY BOX8 BX8 OB8 OW8 OR8 HB18 HB89 HZW OB9 OW9 OR9
  have d0 : (w9.alloc (.cells #[.int .i64 0, .int .i64 0, .bool false] 28)).cell? ⟨w7.heap.size, 0, none⟩ = some (.int .i64 sp) := BX9.out.cell 0
  have d1 : (w9.alloc (.cells #[.int .i64 0, .int .i64 0, .bool false] 28)).cell? ⟨w7.heap.size, 1, none⟩ = some (.int .i64 dp) := BX9.out.cell 1
  have d2 : (w9.alloc (.cells #[.int .i64 0, .int .i64 0, .bool false] 28)).cell? ⟨w7.heap.size, 2, none⟩ = some (.bool true) := BX9.out.cell 2
  have p0 : (w9.alloc (.cells #[.int .i64 0, .int .i64 0, .bool false] 28)).cell? ⟨w.heap.size, 0, none⟩ = some (.int .i64 sp) := BOX9.out.cell 0
  have p1 : (w9.alloc (.cells #[.int .i64 0, .int .i64 0, .bool false] 28)).cell? ⟨w.heap.size, 1, none⟩ = some (.int .i64 dp) := BOX9.out.cell 1
  have p2 : (w9.alloc (.cells #[.int .i64 0, .int .i64 0, .bool false] 28)).cell? ⟨w.heap.size, 2, none⟩ = some (.bool true) := BOX9.out.cell 2
  clear m2
  go_wp2_with fail
  refine (HAW.out _).mono ?_
  rintro e w10 ⟨rfl, hb10⟩
  go_wp2_with fail
  go_ret
  exact ⟨rfl, bel_call HB19.out hb10⟩
set_option maxRecDepth 100000 in
set_option maxHeartbeats 8000000 in
theorem bare_one (v1 v2 : Value) (A1 : Option Addr) (n1 n2 c1 c2 : Nat) (l1 l3 : List Int) (sp dp : Int) (w : World) (b2 off2 : Nat) (h1 : l1.length = n1) (k1 : n1 ≤ 300) (k2 : n2 ≤ 300) (hn2 : n2 ≤ c2) (hc2 : c2 ≤ 9223372036854775807) (z1 : A1 = none → c1 = 0) (r1 : Row w w.heap.size A1 (l1.map (.int .u8))) (b1 : ∀ x ∈ l1, 0 ≤ x ∧ x ≤ 255) (b3 : ∀ x ∈ l3, 0 ≤ x ∧ x ≤ 255)
    (he : n2 % 2 = 1) (ho : c2 = 1) (h3 : l3.length = 0) (r3 : Row w w.heap.size (some ⟨b2, off2, none⟩) (l3.map (.int .u8)))
    (C1 : Hid (∀ w : World, Calls Try.prog 10 #[v1] w fun e w' => e = .returned (.slice A1 n1 c1) ∧ w = w'))
    (C2 : Hid (∀ w : World, Calls Try.prog 10 #[v2] w fun e w' => e = .returned (.slice (some ⟨b2, off2, none⟩) n2 c2) ∧ w = w'))
    (hp : ports sp dp) :
    Calls Try.prog 5 #[.agg #[.int .i64 sp, .int .i64 dp, .bool true], v1, v2] w fun e w' => e = .returned (.bool true) ∧ Below w.heap.size w w' := by
  have t0 : (((n2 : Int) % 2) == 1) = true := eqT (by omega)
  have y1 : 1 ≤ n2 := by omega
  have y2 : (1 : Int) ≤ (n2 : Int) := by omega
  obtain rfl : n2 = 1 := by omega
  subst ho
  have HB0 := Lib.hid (show Below w.heap.size w (w.alloc (.cells #[.int .i64 sp, .int .i64 dp, .bool true] 28)) from (Below.refl _ _).alloc (Nat.le_refl _) _)
  have BOX0 := Lib.hid (Blk.new w 28 #[.int .i64 sp, .int .i64 dp, .bool true])
  have h3e : l3.length % 2 = 0 := by omega
  have hin0 : ∀ x ∈ l3 ++ ub sp dp l1 0, 0 ≤ x ∧ x ≤ 255 := fun x hx => (List.mem_append.1 hx).elim (b3 x) (ub_in sp dp l1 0 b1 x)
  have hck := chkZ_in _ hin0
  have HBY := Lib.hid (Go.Proofs.Ytjgeknkfinaimaa.udpC.bytes_any sp dp true A1 (some ⟨b2, off2, none⟩) n1 c1 0 0 l1 l3 (w.alloc (.cells #[.int .i64 sp, .int .i64 dp, .bool true] 28)) hp h1 (by omega) ((r1.below HB0.out).more HB0.out.size) b1 h3 (by omega) ((r3.below HB0.out).more HB0.out.size) b3)
  have HRT := Lib.hid (fun w => Go.Proofs.Ytjgeknkfinaimaa.udpJ.rightB sp dp true w hp)
  have HLR := Lib.hid (fun w => Go.Proofs.Ytjgeknkfinaimaa.udpJ.lawrightB sp dp true w hp)
  have HLB := Lib.hid (fun (W : World) hr => lawbytes_any sp dp true A1 n1 c1 l1 W hp h1 (by omega) hr z1)
  have HAW := Lib.hid awake_any
  have R1 := Lib.hid r1
  have R3 := Lib.hid r3
  have B3 := Lib.hid b3
  have L1 := Lib.hid h1
  have L3 := Lib.hid h3
  have hsay := Go.Proofs.Ytjgeknkfinaimaa.udpJ.ub_says sp dp l1 0 hp (by omega) (by omega) (by omega)
  rw [if_pos rfl] at HBY
  have HUX := Lib.hid (ub_in sp dp l1 0 b1)
  have HUL := Lib.hid (show (ub sp dp l1 0).length = 8 + n1 by rw [ub_len, h1])
  obtain ⟨u0, u2, u4, u6, u8⟩ := hsay
  have HP1 := Lib.hid (show ∀ (e : Ending) (wa wb : World), ParsePost wa (ub sp dp l1 0) l3 true e wb → ∃ v, e = .returned (.tuple #[.agg #[.int .i64 sp, .int .i64 dp, .bool true], v, .int .i64 0]) ∧ wb.ownsRow wa.heap.size 5 1 v n1 (l1.map (.int .u8)) ∧ Below wa.heap.size wa wb from fun e wa wb h => by
    have hq : (w16 (ub sp dp l1 0) 6 == 0) = true := eqT u6
    have := h.2.2 u4 (fun h => h.elim (fun h => Bool.noConfusion h.2) (fun h => h.1 u6))
    rwa [u0, u2, hq, u8, ub_len, h1, Nat.add_sub_cancel_left] at this)
  have HP2 := Lib.hid (show ∀ (e : Ending) (wa wb : World), ParsePost wa (ub sp dp l1 0) l3 false e wb → e = .returned (errv 13) ∧ Below wa.heap.size wa wb from fun e wa wb h => h.2.1 u4 (.inl ⟨u6, rfl⟩))
  have HPA := Lib.hid (fun (g c : Nat) (bb : Bool) (W : World) (hnc : 8 + n1 ≤ c) (hcc : c ≤ 9223372036854775807) (hg : g < W.heap.size) (hl : Lies W g 0 (ub sp dp l1 0)) (hr : Row W W.heap.size (some ⟨b2, off2, none⟩) (l3.map (.int .u8))) => parse_any g 0 (8 + n1) c 0 0 (some ⟨b2, off2, none⟩) (ub sp dp l1 0) l3 bb W HUL.out (by omega) (by omega) hnc hcc hg hl HUX.out L3.out (by omega) hr B3.out)
  clear u0 u2 u4 u6 u8 hck hin0 h3e hp h1 r1 b1 b3 h3 r3 z1 he hc2 hn2
  generalize ub sp dp l1 0 = U at *
  obtain ⟨N, hN⟩ : ∃ N, N = 8 + n1 := ⟨_, rfl⟩
  rw [← hN] at HBY HUL HPA HLB
  have N8 : 8 ≤ N := by omega
  have N9 : N ≤ 308 := by omega
  clear hN
  go_enter Try.func5, Try.ntmps5
  go_wp2_with fail
  refine (C1.out _).mono ?_
  rintro e w' ⟨rfl, rfl⟩
  go_wp2_with fail
  refine (C2.out _).mono ?_
  rintro e w' ⟨rfl, rfl⟩
  go_wp2_with fail
  refine HBY.out.mono ?_
  rintro e w1 ⟨vb, rfl, ownb, hb1⟩
  obtain ⟨gb, cb, rfl, _, gbl, hncb, hcb, _, _⟩ := own_form ownb (by omega)
  have OB1 := Lib.hid ownb
  have HB1 := Lib.hid (bel_call HB0.out hb1)
  have BOX1 := Lib.hid (BOX0.out.below hb1 BOX0.out.lt)
  unfold maxLen at hcb
  clear hb1 ownb
  go_wp2_with fail
  have HK := Lib.hid (show w1.drew.cell? ⟨w.heap.size, 0, none⟩ = some (.int .i64 sp) ∧ w1.drew.cell? ⟨w.heap.size, 1, none⟩ = some (.int .i64 dp) ∧ w1.drew.cell? ⟨w.heap.size, 2, none⟩ = some (.bool true) from ⟨BOX1.out.cell 0, BOX1.out.cell 1, BOX1.out.cell 2⟩)
  go_region_held3 (fun w' => w'.cell? ⟨w.heap.size, 0, none⟩ = some (.int .i64 sp) ∧ w'.cell? ⟨w.heap.size, 1, none⟩ = some (.int .i64 dp) ∧ w'.cell? ⟨w.heap.size, 2, none⟩ = some (.bool true)) (first | assumption | exact HK3.out | exact HK2.out | exact HK.out) (first
    | (go_at_call 14; refine (HRT.out _).mono ?_; rintro e w2 ⟨rfl, hb2⟩; have HK2 := Lib.hid (Go.Proofs.Ytjgeknkfinaimaa.udpA.keepK HK.out hb2); have HB2 := Lib.hid hb2; clear hb2)
    | (go_at_call 15; refine (HLR.out _).mono ?_; rintro e w3 ⟨rfl, hb3⟩; have HK3 := Lib.hid (Go.Proofs.Ytjgeknkfinaimaa.udpA.keepK HK2.out hb3); have HB3 := Lib.hid (bel_call (bel_call (bel_drew (Below.refl _ w1)) HB2.out) hb3); clear hb3))
  have BOX3 := Lib.hid (BOX1.out.below HB3.out BOX1.out.lt)
  have m0 : w3.cell? ⟨w.heap.size, 0, none⟩ = some (.int .i64 sp) := BOX3.out.cell 0
  have m1 : w3.cell? ⟨w.heap.size, 1, none⟩ = some (.int .i64 dp) := BOX3.out.cell 1
  have m2 : w3.cell? ⟨w.heap.size, 2, none⟩ = some (.bool true) := BOX3.out.cell 2
  go_wp2_with fail
  refine (HLR.out _).mono ?_
  rintro e w4 ⟨rfl, hb4⟩
  have HB4 := Lib.hid (bel_call HB3.out hb4)
  have BOX4 := Lib.hid (BOX3.out.below hb4 BOX3.out.lt)
  clear m0 m1 m2 hb4 BOX3 HK HK2 HK3 HB2 HB3
  have OB4 := Lib.hid (own_keep OB1.out HB4.out)
  have HB14 := Lib.hid (bel_call HB1.out HB4.out)
  clear HB4 OB1 HB1 BOX1 HBY HRT HLR
  have m0 : w4.cell? ⟨w.heap.size, 0, none⟩ = some (.int .i64 sp) := BOX4.out.cell 0
  have m1 : w4.cell? ⟨w.heap.size, 1, none⟩ = some (.int .i64 dp) := BOX4.out.cell 1
  have m2 : w4.cell? ⟨w.heap.size, 2, none⟩ = some (.bool true) := BOX4.out.cell 2
  have HLX := Lib.hid (HLB.out w4 ((R1.out.below HB14.out).more HB14.out.size))
  go_wp2_with fail
  refine HLX.out.mono ?_
  rintro e w5 ⟨vw, rfl, ownw, hb5⟩
  obtain ⟨gw, cw, rfl, hgw, gwl, hncw, _, hcw, hfw⟩ := own_form ownw (by omega)
  have OW5 := Lib.hid ownw
  have HB5 := Lib.hid hb5
  clear m0 m1 m2 ownw hb5 HLX HLB
  have OWX := OW5
  have m2 : w5.cell? ⟨w.heap.size, 2, none⟩ = some (.bool true) := (BOX4.out.below HB5.out BOX4.out.lt).cell 2
  have BOX6 := Lib.hid (BOX4.out.below HB5.out BOX4.out.lt)
  have OB6 := Lib.hid (own_keep OB4.out HB5.out)
  have HB16 := Lib.hid (bel_call HB14.out HB5.out)
  have R36 := Lib.hid ((R3.out.below HB16.out).more HB16.out.size)
  have HPX := Lib.hid (HPA.out gb cb true w5 hncb hcb (OB6.out.lt gb rfl).2 (lies_own OB6.out HUL.out) R36.out)
  go_wp2_with fail
  refine HPX.out.mono ?_
  rintro e w7 hpost
  obtain ⟨vr, rfl, ownr, hb7⟩ := HP1.out _ _ _ hpost
  obtain ⟨Ar, cr, rfl⟩ := own_slice ownr
  have BX8 := Lib.hid (Blk.new w7 28 #[.int .i64 sp, .int .i64 dp, .bool true])
  have HB78 := Lib.hid (show Below w5.heap.size w5 (w7.alloc (.cells #[.int .i64 sp, .int .i64 dp, .bool true] 28)) from bel_alloc hb7 _)
  have BOX8 := Lib.hid (BOX6.out.below HB78.out BOX6.out.lt)
  have OB8 := Lib.hid (own_keep OB6.out HB78.out)
  have OW8 := Lib.hid (own_keep OWX.out HB78.out)
  have OR8 := Lib.hid (ownr.alloc (.cells #[.int .i64 sp, .int .i64 dp, .bool true] 28))
  have HB18 := Lib.hid (bel_call HB16.out HB78.out)
  have R38 := Lib.hid ((R3.out.below HB18.out).more HB18.out.size)
  have HPY := Lib.hid (HPA.out gb cb false (w7.alloc (.cells #[.int .i64 sp, .int .i64 dp, .bool true] 28)) hncb hcb (OB8.out.lt gb rfl).2 (lies_own OB8.out HUL.out) R38.out)
  have HZW := Lib.hid (show w7.heap.size < (w7.alloc (.cells #[.int .i64 sp, .int .i64 dp, .bool true] 28)).heap.size by simp)
  clear hpost ownr hb7 HPX BOX6 OB6 HB16 R36 R38 HB78
  go_wp2_with fail
  refine HPY.out.mono ?_
  rintro e w9 hpost
  obtain ⟨he9, hb9⟩ := HP2.out _ _ _ hpost
  unfold errv at he9
  subst he9
  have HB89 := Lib.hid (show Below (w7.alloc (.cells #[.int .i64 sp, .int .i64 dp, .bool true] 28)).heap.size (w7.alloc (.cells #[.int .i64 sp, .int .i64 dp, .bool true] 28)) (w9.alloc (.cells #[.int .i64 0, .int .i64 0, .bool false] 28)) from bel_alloc hb9 _)
  have BOX9 := Lib.hid (BOX8.out.below HB89.out BOX8.out.lt)
  have BX9 := Lib.hid (BX8.out.below HB89.out HZW.out)
  have OB9 := own_keep OB8.out HB89.out
  have OW9 := own_keep OW8.out HB89.out
  have OR9 := own_keep OR8.out HB89.out
  have HB19 := Lib.hid (bel_call HB18.out HB89.out)
  have cv1 := conv_any (c := cb) (own_row OB9) HUL.out
  have cv2 := conv_any (c := cw) (own_row OW9) HUL.out
  have cv3 := conv_any (c := cr) (own_row OR9) L1.out
  have cv4 := conv_any (c := c1) (R1.out.below HB19.out) L1.out
  clear hpost hb9 HPY BOX8 BX8 OB8 OW8 OR8 HB18 HB89 HZW OB9 OW9 OR9
  have d0 : (w9.alloc (.cells #[.int .i64 0, .int .i64 0, .bool false] 28)).cell? ⟨w7.heap.size, 0, none⟩ = some (.int .i64 sp) := BX9.out.cell 0
  have d1 : (w9.alloc (.cells #[.int .i64 0, .int .i64 0, .bool false] 28)).cell? ⟨w7.heap.size, 1, none⟩ = some (.int .i64 dp) := BX9.out.cell 1
  have d2 : (w9.alloc (.cells #[.int .i64 0, .int .i64 0, .bool false] 28)).cell? ⟨w7.heap.size, 2, none⟩ = some (.bool true) := BX9.out.cell 2
  have p0 : (w9.alloc (.cells #[.int .i64 0, .int .i64 0, .bool false] 28)).cell? ⟨w.heap.size, 0, none⟩ = some (.int .i64 sp) := BOX9.out.cell 0
  have p1 : (w9.alloc (.cells #[.int .i64 0, .int .i64 0, .bool false] 28)).cell? ⟨w.heap.size, 1, none⟩ = some (.int .i64 dp) := BOX9.out.cell 1
  have p2 : (w9.alloc (.cells #[.int .i64 0, .int .i64 0, .bool false] 28)).cell? ⟨w.heap.size, 2, none⟩ = some (.bool true) := BOX9.out.cell 2
  clear m2
  go_wp2_with fail
  refine (HAW.out _).mono ?_
  rintro e w10 ⟨rfl, hb10⟩
  go_wp2_with fail
  go_ret
  exact ⟨rfl, bel_call HB19.out hb10⟩
set_option maxRecDepth 100000 in
set_option maxHeartbeats 8000000 in
theorem bare_odd (v1 v2 : Value) (A1 : Option Addr) (n1 n2 c1 c2 : Nat) (l1 l3 : List Int) (sp dp : Int) (w : World) (b2 off2 : Nat) (h1 : l1.length = n1) (k1 : n1 ≤ 300) (k2 : n2 ≤ 300) (hn2 : n2 ≤ c2) (hc2 : c2 ≤ 9223372036854775807) (z1 : A1 = none → c1 = 0) (r1 : Row w w.heap.size A1 (l1.map (.int .u8))) (b1 : ∀ x ∈ l1, 0 ≤ x ∧ x ≤ 255) (b3 : ∀ x ∈ l3, 0 ≤ x ∧ x ≤ 255)
    (he : n2 % 2 = 1) (ho : ¬ c2 = 1) (h3 : l3.length = n2 - 1) (r3 : Row w w.heap.size (some ⟨b2, off2 + 1, none⟩) (l3.map (.int .u8)))
    (C1 : Hid (∀ w : World, Calls Try.prog 10 #[v1] w fun e w' => e = .returned (.slice A1 n1 c1) ∧ w = w'))
    (C2 : Hid (∀ w : World, Calls Try.prog 10 #[v2] w fun e w' => e = .returned (.slice (some ⟨b2, off2, none⟩) n2 c2) ∧ w = w'))
    (hp : ports sp dp) :
    Calls Try.prog 5 #[.agg #[.int .i64 sp, .int .i64 dp, .bool true], v1, v2] w fun e w' => e = .returned (.bool true) ∧ Below w.heap.size w w' := by
  have t0 : (((n2 : Int) % 2) == 1) = true := eqT (by omega)
  have y1 : 1 ≤ n2 := by omega
  have y2 : (1 : Int) ≤ (n2 : Int) := by omega
  have HB0 := Lib.hid (show Below w.heap.size w (w.alloc (.cells #[.int .i64 sp, .int .i64 dp, .bool true] 28)) from (Below.refl _ _).alloc (Nat.le_refl _) _)
  have BOX0 := Lib.hid (Blk.new w 28 #[.int .i64 sp, .int .i64 dp, .bool true])
  have h3e : l3.length % 2 = 0 := by omega
  have hin0 : ∀ x ∈ l3 ++ ub sp dp l1 0, 0 ≤ x ∧ x ≤ 255 := fun x hx => (List.mem_append.1 hx).elim (b3 x) (ub_in sp dp l1 0 b1 x)
  have hck := chkZ_in _ hin0
  have HBY := Lib.hid (Go.Proofs.Ytjgeknkfinaimaa.udpC.bytes_any sp dp true A1 (some ⟨b2, off2 + 1, none⟩) n1 c1 (n2 - 1) (c2 - 1) l1 l3 (w.alloc (.cells #[.int .i64 sp, .int .i64 dp, .bool true] 28)) hp h1 (by omega) ((r1.below HB0.out).more HB0.out.size) b1 h3 (by omega) ((r3.below HB0.out).more HB0.out.size) b3)
  have HRT := Lib.hid (fun w => Go.Proofs.Ytjgeknkfinaimaa.udpJ.rightB sp dp true w hp)
  have HLR := Lib.hid (fun w => Go.Proofs.Ytjgeknkfinaimaa.udpJ.lawrightB sp dp true w hp)
  have HLB := Lib.hid (fun (W : World) hr => lawbytes_any sp dp true A1 n1 c1 l1 W hp h1 (by omega) hr z1)
  have HAW := Lib.hid awake_any
  have R1 := Lib.hid r1
  have R3 := Lib.hid r3
  have B3 := Lib.hid b3
  have L1 := Lib.hid h1
  have L3 := Lib.hid h3
  have hsay := Go.Proofs.Ytjgeknkfinaimaa.udpJ.ub_says sp dp l1 0 hp (by omega) (by omega) (by omega)
  rw [if_pos rfl] at HBY
  have HUX := Lib.hid (ub_in sp dp l1 0 b1)
  have HUL := Lib.hid (show (ub sp dp l1 0).length = 8 + n1 by rw [ub_len, h1])
  obtain ⟨u0, u2, u4, u6, u8⟩ := hsay
  have HP1 := Lib.hid (show ∀ (e : Ending) (wa wb : World), ParsePost wa (ub sp dp l1 0) l3 true e wb → ∃ v, e = .returned (.tuple #[.agg #[.int .i64 sp, .int .i64 dp, .bool true], v, .int .i64 0]) ∧ wb.ownsRow wa.heap.size 5 1 v n1 (l1.map (.int .u8)) ∧ Below wa.heap.size wa wb from fun e wa wb h => by
    have hq : (w16 (ub sp dp l1 0) 6 == 0) = true := eqT u6
    have := h.2.2 u4 (fun h => h.elim (fun h => Bool.noConfusion h.2) (fun h => h.1 u6))
    rwa [u0, u2, hq, u8, ub_len, h1, Nat.add_sub_cancel_left] at this)
  have HP2 := Lib.hid (show ∀ (e : Ending) (wa wb : World), ParsePost wa (ub sp dp l1 0) l3 false e wb → e = .returned (errv 13) ∧ Below wa.heap.size wa wb from fun e wa wb h => h.2.1 u4 (.inl ⟨u6, rfl⟩))
  have HPA := Lib.hid (fun (g c : Nat) (bb : Bool) (W : World) (hnc : 8 + n1 ≤ c) (hcc : c ≤ 9223372036854775807) (hg : g < W.heap.size) (hl : Lies W g 0 (ub sp dp l1 0)) (hr : Row W W.heap.size (some ⟨b2, off2 + 1, none⟩) (l3.map (.int .u8))) => parse_any g 0 (8 + n1) c (n2 - 1) (c2 - 1) (some ⟨b2, off2 + 1, none⟩) (ub sp dp l1 0) l3 bb W HUL.out (by omega) (by omega) hnc hcc hg hl HUX.out L3.out (by omega) hr B3.out)
  clear u0 u2 u4 u6 u8 hck hin0 h3e hp h1 r1 b1 b3 h3 r3 z1 he hc2 hn2
  generalize ub sp dp l1 0 = U at *
  obtain ⟨N, hN⟩ : ∃ N, N = 8 + n1 := ⟨_, rfl⟩
  rw [← hN] at HBY HUL HPA HLB
  have N8 : 8 ≤ N := by omega
  have N9 : N ≤ 308 := by omega
  clear hN
  go_enter Try.func5, Try.ntmps5
  go_wp2_with fail
  refine (C1.out _).mono ?_
  rintro e w' ⟨rfl, rfl⟩
  go_wp2_with fail
  refine (C2.out _).mono ?_
  rintro e w' ⟨rfl, rfl⟩
  go_wp2_with fail
  refine HBY.out.mono ?_
  rintro e w1 ⟨vb, rfl, ownb, hb1⟩
  obtain ⟨gb, cb, rfl, _, gbl, hncb, hcb, _, _⟩ := own_form ownb (by omega)
  have OB1 := Lib.hid ownb
  have HB1 := Lib.hid (bel_call HB0.out hb1)
  have BOX1 := Lib.hid (BOX0.out.below hb1 BOX0.out.lt)
  unfold maxLen at hcb
  clear hb1 ownb
  go_wp2_with fail
  have HK := Lib.hid (show w1.drew.cell? ⟨w.heap.size, 0, none⟩ = some (.int .i64 sp) ∧ w1.drew.cell? ⟨w.heap.size, 1, none⟩ = some (.int .i64 dp) ∧ w1.drew.cell? ⟨w.heap.size, 2, none⟩ = some (.bool true) from ⟨BOX1.out.cell 0, BOX1.out.cell 1, BOX1.out.cell 2⟩)
  go_region_held3 (fun w' => w'.cell? ⟨w.heap.size, 0, none⟩ = some (.int .i64 sp) ∧ w'.cell? ⟨w.heap.size, 1, none⟩ = some (.int .i64 dp) ∧ w'.cell? ⟨w.heap.size, 2, none⟩ = some (.bool true)) (first | assumption | exact HK3.out | exact HK2.out | exact HK.out) (first
    | (go_at_call 14; refine (HRT.out _).mono ?_; rintro e w2 ⟨rfl, hb2⟩; have HK2 := Lib.hid (Go.Proofs.Ytjgeknkfinaimaa.udpA.keepK HK.out hb2); have HB2 := Lib.hid hb2; clear hb2)
    | (go_at_call 15; refine (HLR.out _).mono ?_; rintro e w3 ⟨rfl, hb3⟩; have HK3 := Lib.hid (Go.Proofs.Ytjgeknkfinaimaa.udpA.keepK HK2.out hb3); have HB3 := Lib.hid (bel_call (bel_call (bel_drew (Below.refl _ w1)) HB2.out) hb3); clear hb3))
  have BOX3 := Lib.hid (BOX1.out.below HB3.out BOX1.out.lt)
  have m0 : w3.cell? ⟨w.heap.size, 0, none⟩ = some (.int .i64 sp) := BOX3.out.cell 0
  have m1 : w3.cell? ⟨w.heap.size, 1, none⟩ = some (.int .i64 dp) := BOX3.out.cell 1
  have m2 : w3.cell? ⟨w.heap.size, 2, none⟩ = some (.bool true) := BOX3.out.cell 2
  go_wp2_with fail
  refine (HLR.out _).mono ?_
  rintro e w4 ⟨rfl, hb4⟩
  have HB4 := Lib.hid (bel_call HB3.out hb4)
  have BOX4 := Lib.hid (BOX3.out.below hb4 BOX3.out.lt)
  clear m0 m1 m2 hb4 BOX3 HK HK2 HK3 HB2 HB3
  have OB4 := Lib.hid (own_keep OB1.out HB4.out)
  have HB14 := Lib.hid (bel_call HB1.out HB4.out)
  clear HB4 OB1 HB1 BOX1 HBY HRT HLR
  have m0 : w4.cell? ⟨w.heap.size, 0, none⟩ = some (.int .i64 sp) := BOX4.out.cell 0
  have m1 : w4.cell? ⟨w.heap.size, 1, none⟩ = some (.int .i64 dp) := BOX4.out.cell 1
  have m2 : w4.cell? ⟨w.heap.size, 2, none⟩ = some (.bool true) := BOX4.out.cell 2
  have HLX := Lib.hid (HLB.out w4 ((R1.out.below HB14.out).more HB14.out.size))
  go_wp2_with fail
  refine HLX.out.mono ?_
  rintro e w5 ⟨vw, rfl, ownw, hb5⟩
  obtain ⟨gw, cw, rfl, hgw, gwl, hncw, _, hcw, hfw⟩ := own_form ownw (by omega)
  have OW5 := Lib.hid ownw
  have HB5 := Lib.hid hb5
  clear m0 m1 m2 ownw hb5 HLX HLB
  have OWX := OW5
  have m2 : w5.cell? ⟨w.heap.size, 2, none⟩ = some (.bool true) := (BOX4.out.below HB5.out BOX4.out.lt).cell 2
  have BOX6 := Lib.hid (BOX4.out.below HB5.out BOX4.out.lt)
  have OB6 := Lib.hid (own_keep OB4.out HB5.out)
  have HB16 := Lib.hid (bel_call HB14.out HB5.out)
  have R36 := Lib.hid ((R3.out.below HB16.out).more HB16.out.size)
  have HPX := Lib.hid (HPA.out gb cb true w5 hncb hcb (OB6.out.lt gb rfl).2 (lies_own OB6.out HUL.out) R36.out)
  go_wp2_with fail
  refine HPX.out.mono ?_
  rintro e w7 hpost
  obtain ⟨vr, rfl, ownr, hb7⟩ := HP1.out _ _ _ hpost
  obtain ⟨Ar, cr, rfl⟩ := own_slice ownr
  have BX8 := Lib.hid (Blk.new w7 28 #[.int .i64 sp, .int .i64 dp, .bool true])
  have HB78 := Lib.hid (show Below w5.heap.size w5 (w7.alloc (.cells #[.int .i64 sp, .int .i64 dp, .bool true] 28)) from bel_alloc hb7 _)
  have BOX8 := Lib.hid (BOX6.out.below HB78.out BOX6.out.lt)
  have OB8 := Lib.hid (own_keep OB6.out HB78.out)
  have OW8 := Lib.hid (own_keep OWX.out HB78.out)
  have OR8 := Lib.hid (ownr.alloc (.cells #[.int .i64 sp, .int .i64 dp, .bool true] 28))
  have HB18 := Lib.hid (bel_call HB16.out HB78.out)
  have R38 := Lib.hid ((R3.out.below HB18.out).more HB18.out.size)
  have HPY := Lib.hid (HPA.out gb cb false (w7.alloc (.cells #[.int .i64 sp, .int .i64 dp, .bool true] 28)) hncb hcb (OB8.out.lt gb rfl).2 (lies_own OB8.out HUL.out) R38.out)
  have HZW := Lib.hid (show w7.heap.size < (w7.alloc (.cells #[.int .i64 sp, .int .i64 dp, .bool true] 28)).heap.size by simp)
  clear hpost ownr hb7 HPX BOX6 OB6 HB16 R36 R38 HB78
  go_wp2_with fail
  refine HPY.out.mono ?_
  rintro e w9 hpost
  obtain ⟨he9, hb9⟩ := HP2.out _ _ _ hpost
  unfold errv at he9
  subst he9
  have HB89 := Lib.hid (show Below (w7.alloc (.cells #[.int .i64 sp, .int .i64 dp, .bool true] 28)).heap.size (w7.alloc (.cells #[.int .i64 sp, .int .i64 dp, .bool true] 28)) (w9.alloc (.cells #[.int .i64 0, .int .i64 0, .bool false] 28)) from bel_alloc hb9 _)
  have BOX9 := Lib.hid (BOX8.out.below HB89.out BOX8.out.lt)
  have BX9 := Lib.hid (BX8.out.below HB89.out HZW.out)
  have OB9 := own_keep OB8.out HB89.out
  have OW9 := own_keep OW8.out HB89.out
  have OR9 := own_keep OR8.out HB89.out
  have HB19 := Lib.hid (bel_call HB18.out HB89.out)
  have cv1 := conv_any (c := cb) (own_row OB9) HUL.out
  have cv2 := conv_any (c := cw) (own_row OW9) HUL.out
  have cv3 := conv_any (c := cr) (own_row OR9) L1.out
  have cv4 := conv_any (c := c1) (R1.out.below HB19.out) L1.out
  clear hpost hb9 HPY BOX8 BX8 OB8 OW8 OR8 HB18 HB89 HZW OB9 OW9 OR9
  have d0 : (w9.alloc (.cells #[.int .i64 0, .int .i64 0, .bool false] 28)).cell? ⟨w7.heap.size, 0, none⟩ = some (.int .i64 sp) := BX9.out.cell 0
  have d1 : (w9.alloc (.cells #[.int .i64 0, .int .i64 0, .bool false] 28)).cell? ⟨w7.heap.size, 1, none⟩ = some (.int .i64 dp) := BX9.out.cell 1
  have d2 : (w9.alloc (.cells #[.int .i64 0, .int .i64 0, .bool false] 28)).cell? ⟨w7.heap.size, 2, none⟩ = some (.bool true) := BX9.out.cell 2
  have p0 : (w9.alloc (.cells #[.int .i64 0, .int .i64 0, .bool false] 28)).cell? ⟨w.heap.size, 0, none⟩ = some (.int .i64 sp) := BOX9.out.cell 0
  have p1 : (w9.alloc (.cells #[.int .i64 0, .int .i64 0, .bool false] 28)).cell? ⟨w.heap.size, 1, none⟩ = some (.int .i64 dp) := BOX9.out.cell 1
  have p2 : (w9.alloc (.cells #[.int .i64 0, .int .i64 0, .bool false] 28)).cell? ⟨w.heap.size, 2, none⟩ = some (.bool true) := BOX9.out.cell 2
  clear m2
  go_wp2_with fail
  refine (HAW.out _).mono ?_
  rintro e w10 ⟨rfl, hb10⟩
  go_wp2_with fail
  go_ret
  exact ⟨rfl, bel_call HB19.out hb10⟩
end Go.Proofs.Ytjgeknkfinaimaa.udpL
