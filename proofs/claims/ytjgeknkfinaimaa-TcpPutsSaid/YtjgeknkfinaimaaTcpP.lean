/- Layer 10: the law on segments that are put, walked where a header may be. -/
import Derived.Test.YtjgeknkfinaimaaTcpN
namespace Go.Proofs.Ytjgeknkfinaimaa.tcpP
open Go.ChangeShapes Go.WideShapes Go.ChangeAt Go.RowKit
open Go.Proofs.Ytjgeknkfinaimaa.base Go.Proofs.Ytjgeknkfinaimaa.sumA Go.Proofs.Ytjgeknkfinaimaa.sumB Go.Proofs.Ytjgeknkfinaimaa.octA Go.Proofs.Ytjgeknkfinaimaa.octB Go.Proofs.Ytjgeknkfinaimaa.octC Go.Proofs.Ytjgeknkfinaimaa.octE Go.Proofs.Ytjgeknkfinaimaa.octF Go.Proofs.Ytjgeknkfinaimaa.octK Go.Proofs.Ytjgeknkfinaimaa.rdrA Go.Proofs.Ytjgeknkfinaimaa.udpA Go.Proofs.Ytjgeknkfinaimaa.udpE Go.Proofs.Ytjgeknkfinaimaa.tcpC Go.Proofs.Ytjgeknkfinaimaa.tcpD Go.Proofs.Ytjgeknkfinaimaa.tcpE Go.Proofs.Ytjgeknkfinaimaa.tcpI Go.Proofs.Ytjgeknkfinaimaa.tcpJ Go.Proofs.Ytjgeknkfinaimaa.tcpF Go.Proofs.Ytjgeknkfinaimaa.tcpK Go.Proofs.Ytjgeknkfinaimaa.tcpL Go.Proofs.Ytjgeknkfinaimaa.tcpM Go.Proofs.Ytjgeknkfinaimaa.tcpN
set_option linter.unusedVariables false

set_option maxRecDepth 100000 in
set_option maxHeartbeats 8000000 in
theorem good_one (v1 v2 : Value) (A1 : Option Addr) (n1 n2 c1 c2 : Nat) (l1 l3 os : List Int) (sp dp sq ak fl wn ur : Int) (AO : Option Addr) (no co : Nat) (w : World) (b2 off2 : Nat) (h1 : l1.length = n1) (k1 : n1 ≤ 300) (k2 : n2 ≤ 300) (hn2 : n2 ≤ c2) (hc2 : c2 ≤ 9223372036854775807) (z1 : A1 = none → c1 = 0) (r1 : Row w w.heap.size A1 (l1.map (.int .u8))) (b1 : ∀ x ∈ l1, 0 ≤ x ∧ x ≤ 255) (b3 : ∀ x ∈ l3, 0 ≤ x ∧ x ≤ 255)
    (he : n2 % 2 = 1) (ho : c2 = 1) (h3 : l3.length = 0) (r3 : Row w w.heap.size (some ⟨b2, off2, none⟩) (l3.map (.int .u8)))
    (hol : os.length = no) (hor : Row w w.heap.size AO (os.map (.int .u8))) (hoz : AO = none → co = 0) (hox : ∀ x ∈ os, 0 ≤ x ∧ x ≤ 255) (s5 : 0 ≤ sq) (s6 : sq ≤ 4294967295) (s7 : 0 ≤ ak) (s8 : ak ≤ 4294967295)
    (C1 : Hid (∀ w : World, Calls Try.prog 17 #[v1] w fun e w' => e = .returned (.slice A1 n1 c1) ∧ w = w'))
    (C2 : Hid (∀ w : World, Calls Try.prog 17 #[v2] w fun e w' => e = .returned (.slice (some ⟨b2, off2, none⟩) n2 c2) ∧ w = w'))
    (hp : okH sp dp wn ur fl no) :
    Calls Try.prog 7 #[.agg #[.int .i64 sp, .int .i64 dp, .int .u32 sq, .int .u32 ak, .int .i64 fl, .int .i64 wn, .int .i64 ur, .slice AO no co], v1, v2] w fun e w' => e = .returned (.bool true) ∧ Below w.heap.size w w' := by
  have t0 : (((n2 : Int) % 2) == 1) = true := eqT (by omega)
  have y1 : 1 ≤ n2 := by omega
  have y2 : (1 : Int) ≤ (n2 : Int) := by omega
  obtain rfl : n2 = 1 := by omega
  subst ho
  obtain ⟨⟨p1, p2⟩, ⟨p3, p4⟩, ⟨p11, p12⟩, ⟨p13, p14⟩, ⟨p9, p10⟩, ho40, hm4⟩ := hp
  have HB0 := Lib.hid (show Below w.heap.size w (w.alloc (.cells #[.int .i64 sp, .int .i64 dp, .int .u32 sq, .int .u32 ak, .int .i64 fl, .int .i64 wn, .int .i64 ur, .slice AO no co] 40)) from (Below.refl _ _).alloc (Nat.le_refl _) _)
  have BOX0 := Lib.hid (Blk.new w 40 #[.int .i64 sp, .int .i64 dp, .int .u32 sq, .int .u32 ak, .int .i64 fl, .int .i64 wn, .int .i64 ur, .slice AO no co])
  have hm' : os.length % 4 = 0 := by rw [hol]; exact hm4
  have h3e : l3.length % 2 = 0 := by omega
  have hU0 := tk_in sp dp sq ak fl wn ur 0 os l1 p1 p2 p3 p4 s5 s6 s7 s8 p9 p10 p11 p12 p13 p14 (by omega) (by omega) (by omega) hox b1
  have hin0 : ∀ x ∈ l3 ++ (tk sp dp sq ak fl wn ur 0 os l1), 0 ≤ x ∧ x ≤ 255 := fun x hx => (List.mem_append.1 hx).elim (b3 x) (hU0 x)
  have hfb := fo_bd _ (wsum_bd _ hin0).1
  have HUX := Lib.hid (tk_in sp dp sq ak fl wn ur (65535 - (fo (wsum (l3 ++ tk sp dp sq ak fl wn ur 0 os l1)))) os l1 p1 p2 p3 p4 s5 s6 s7 s8 p9 p10 p11 p12 p13 p14 (by omega) (by omega) (by omega) hox b1)
  have hsay := tk_says sp dp sq ak fl wn ur (65535 - (fo (wsum (l3 ++ tk sp dp sq ak fl wn ur 0 os l1)))) os l1 hm'
  have hsay0 := (tk_says sp dp sq ak fl wn ur 0 os l1 hm').1
  rw [hol, h1] at hsay hsay0
  have HUL0 := Lib.hid hsay0
  have HUS := Lib.hid (chk_right sp dp sq ak fl wn ur os l1 l3 hm' h3e hin0)
  have HSET := Lib.hid (tk_set sp dp sq ak fl wn ur (65535 - (fo (wsum (l3 ++ tk sp dp sq ak fl wn ur 0 os l1)))) os l1)
  have HBY := Lib.hid (bytes_tk sp dp sq ak fl wn ur AO no co os A1 (some ⟨b2, off2, none⟩) n1 c1 0 0 l1 l3 (w.alloc (.cells #[.int .i64 sp, .int .i64 dp, .int .u32 sq, .int .u32 ak, .int .i64 fl, .int .i64 wn, .int .i64 ur, .slice AO no co] 40)) p1 p2 p3 p4 p9 p10 p11 p12 p13 p14 ho40 hm4 s5 s6 s7 s8 hol ((hor.below HB0.out).more HB0.out.size) hoz hox h1 (by omega) ((r1.below HB0.out).more HB0.out.size) z1 b1 h3 (by omega) ((r3.below HB0.out).more HB0.out.size) b3)
  have HRT := Lib.hid (fun w => right_yes sp dp sq ak fl wn ur AO no co w p1 p2 p3 p4 p9 p10 p11 p12 p13 p14 ho40 hm4)
  have HLR := Lib.hid (fun w => Go.Proofs.Ytjgeknkfinaimaa.tcpF.lawright_yes sp dp sq ak fl wn ur AO no co w p1 p2 p3 p4 p9 p10 p11 p12 p13 p14 ho40 hm4)
  have HLB := Lib.hid (show ∀ (W : World), Row W W.heap.size AO (os.map (.int .u8)) → Row W W.heap.size A1 (l1.map (.int .u8)) → Calls Try.prog 21 #[.agg #[.int .i64 sp, .int .i64 dp, .int .u32 sq, .int .u32 ak, .int .i64 fl, .int .i64 wn, .int .i64 ur, .slice AO no co], .slice A1 n1 c1] W (fun e w' => ∃ v, e = .returned v ∧ w'.ownsRow W.heap.size 5 1 v (20 + no + n1) ((tk sp dp sq ak fl wn ur 0 os l1).map (.int .u8)) ∧ Below W.heap.size W w') from fun W ha hb => by
    have H := lawbytes_any sp dp sq ak fl wn ur AO no co os A1 n1 c1 l1 W p1 p2 p3 p4 s5 s6 s7 s8 p9 p10 p11 p12 p13 p14 hol ho40 ha hoz h1 (by omega) hb z1
    rw [tb_tk sp dp sq ak fl wn ur os l1 hm'] at H
    refine H.mono fun e w' h => ?_
    obtain ⟨v, a, b, c⟩ := h
    rw [hsay0] at b
    exact ⟨v, a, b, c⟩)
  have HRC := Lib.hid (fun (A : Option Addr) (c : Nat) (W : World) hr => Go.Proofs.Ytjgeknkfinaimaa.udpJ.refcheck_any A (20 + no + n1) c (l3 ++ (tk sp dp sq ak fl wn ur 0 os l1)) W (by rw [List.length_append, hsay0, h3, Nat.zero_add]) (by omega) hr hin0)
  have HAW := Lib.hid Go.Proofs.Ytjgeknkfinaimaa.tcpB.awake_any
  have R1 := Lib.hid r1
  have R3 := Lib.hid r3
  have B3 := Lib.hid b3
  have L1 := Lib.hid h1
  have L3 := Lib.hid h3
  have RO := Lib.hid hor
  have LO := Lib.hid hol
  obtain ⟨i0, hi0, hz0, hz1, hz2⟩ := info_parts info_u8
  have HI0 := Lib.hid hi0
  have HZ0 := Lib.hid hz0
  have HZ1 := Lib.hid hz1
  have HZ2 := Lib.hid hz2
  have ONE := Lib.hid (show ∀ l : List Int, ∀ u ∈ l.map (Value.int .u8), u.oneCell' = true from by
    intro l u hu
    rw [List.mem_map] at hu
    obtain ⟨x, _, rfl⟩ := hu
    rfl)
  have Z3 := Lib.hid (show ((some ⟨b2, off2, none⟩) : Option Addr) = none → (0 : Nat) = 0 from fun h => by cases h)
  have EL := Lib.hid (show [] ++ (tk sp dp sq ak fl wn ur 0 os l1).map (Value.int .u8) = (l3 ++ (tk sp dp sq ak fl wn ur 0 os l1)).map (Value.int .u8) by rw [List.eq_nil_of_length_eq_zero h3]; rfl)
  clear hi0 hz0 hz1 hz2
  obtain ⟨ul, u0, u2, u4, u8, u12, u12m, u13, u14, u18, uo, up⟩ := hsay
  have HUL := Lib.hid ul
  have HP1 := Lib.hid (show ∀ (e : Ending) (wa wb : World), OkPost wa (tk sp dp sq ak fl wn ur (65535 - fo (wsum (l3 ++ tk sp dp sq ak fl wn ur 0 os l1))) os l1) (20 + no) e wb → ∃ A c v, e = .returned (.tuple #[.agg #[.int .i64 sp, .int .i64 dp, .int .u32 sq, .int .u32 ak, .int .i64 fl, .int .i64 wn, .int .i64 ur, .slice A no c], v, .int .i64 0]) ∧ wb.ownsRow wa.heap.size 5 1 (.slice A no c) no (os.map (.int .u8)) ∧ wb.ownsRow wa.heap.size 5 1 v n1 (l1.map (.int .u8)) ∧ Below wa.heap.size wa wb from fun e wa wb h => by
    unfold OkPost at h
    rw [u0, u2, u4, u8, u13, u14, u18, uo, up, ul, show 20 + no - 20 = no by omega, show 20 + no + n1 - (20 + no) = n1 by omega] at h
    obtain ⟨A, c, v, he, _, ha, hb, hc⟩ := h
    exact ⟨A, c, v, he, ha, hb, hc⟩)
  have HPA := Lib.hid (fun (g c : Nat) (W : World) (hnc : 20 + no + n1 ≤ c) (hcc : c ≤ 9223372036854775807) (hg : g < W.heap.size) (hl : Lies W g 0 (tk sp dp sq ak fl wn ur (65535 - fo (wsum (l3 ++ tk sp dp sq ak fl wn ur 0 os l1))) os l1)) (hr : Row W W.heap.size (some ⟨b2, off2, none⟩) (l3.map (.int .u8))) => parse_both g 0 (20 + no + n1) c (20 + no) 0 0 (some ⟨b2, off2, none⟩) (tk sp dp sq ak fl wn ur (65535 - fo (wsum (l3 ++ tk sp dp sq ak fl wn ur 0 os l1))) os l1) l3 W ul (by omega) (by omega) hnc hcc hg hl HUX.out L3.out (by omega) hr B3.out (by rw [u12]; omega) (by rw [u12]; omega) u12m HUS.out u12)
  clear u0 u2 u4 u8 u12 u12m u13 u14 u18 uo up ul HUS HUX hsay0 hU0 hin0 h3e hm' h1 r1 b1 b3 h3 r3 z1 he hc2 hol hor hoz hox p1 p2 p3 p4 p9 p10 p11 p12 p13 p14 s5 s6 s7 s8 hm4
  generalize (fo (wsum (l3 ++ tk sp dp sq ak fl wn ur 0 os l1))) = fs at *
  generalize (tk sp dp sq ak fl wn ur (65535 - fs) os l1) = U at *
  generalize (tk sp dp sq ak fl wn ur 0 os l1) = U0 at *
  obtain ⟨N, hN⟩ : ∃ N, N = 20 + no + n1 := ⟨_, rfl⟩
  rw [← hN] at HBY HUL HPA HLB HUL0 HRC
  have N8 : 20 ≤ N := by omega
  have N9 : N ≤ 360 := by omega
  have ME1 := Lib.hid (show 0 + 0 ≤ maxLen by unfold maxLen; omega)
  have ME2 := Lib.hid (show (0 + 0) * 1 ≤ 140737488355328 by omega)
  have ME3 := Lib.hid (show 0 + N ≤ maxLen by unfold maxLen; omega)
  have ME4 := Lib.hid (show (0 + N) * 1 ≤ 140737488355328 by omega)
  have a1 : IntKind.u8.wrap ((65535 - fs) / 256) = (65535 - fs) / 256 := by rw [IntKind.wrap_u8]; omega
  have a2 : IntKind.u8.wrap ((65535 - fs) % 256) = (65535 - fs) % 256 := by rw [IntKind.wrap_u8]; omega
  clear hN hn2 ho40
  go_enter Try.func7, Try.ntmps7
  go_wp2_with fail
  refine (C1.out _).mono ?_
  rintro e w' ⟨rfl, rfl⟩
  go_wp2_with fail
  refine (C2.out _).mono ?_
  rintro e w' ⟨rfl, rfl⟩
  go_wp2_with fail
  refine HBY.out.mono ?_
  rintro e w1 ⟨vb, rfl, ownb, hb1⟩
  obtain ⟨gb, cb, rfl, _, gbl, hncb, hcb, _, _⟩ := own_form ownb (by omega)
  have OB1 := Lib.hid ownb
  have HB1 := Lib.hid (bel_call HB0.out hb1)
  have BOX1 := Lib.hid (BOX0.out.below hb1 BOX0.out.lt)
  unfold maxLen at hcb
  clear hb1 ownb
  go_wp2_with fail
  have HK := Lib.hid (show w1.drew.cell? ⟨w.heap.size, 0, none⟩ = some (.int .i64 sp) ∧ w1.drew.cell? ⟨w.heap.size, 1, none⟩ = some (.int .i64 dp) ∧ w1.drew.cell? ⟨w.heap.size, 2, none⟩ = some (.int .u32 sq) ∧ w1.drew.cell? ⟨w.heap.size, 3, none⟩ = some (.int .u32 ak) ∧ w1.drew.cell? ⟨w.heap.size, 4, none⟩ = some (.int .i64 fl) ∧ w1.drew.cell? ⟨w.heap.size, 5, none⟩ = some (.int .i64 wn) ∧ w1.drew.cell? ⟨w.heap.size, 6, none⟩ = some (.int .i64 ur) ∧ w1.drew.cell? ⟨w.heap.size, 7, none⟩ = some (.slice AO no co) from ⟨BOX1.out.cell 0, BOX1.out.cell 1, BOX1.out.cell 2, BOX1.out.cell 3, BOX1.out.cell 4, BOX1.out.cell 5, BOX1.out.cell 6, BOX1.out.cell 7⟩)
  go_region_held3 (fun w' => w'.cell? ⟨w.heap.size, 0, none⟩ = some (.int .i64 sp) ∧ w'.cell? ⟨w.heap.size, 1, none⟩ = some (.int .i64 dp) ∧ w'.cell? ⟨w.heap.size, 2, none⟩ = some (.int .u32 sq) ∧ w'.cell? ⟨w.heap.size, 3, none⟩ = some (.int .u32 ak) ∧ w'.cell? ⟨w.heap.size, 4, none⟩ = some (.int .i64 fl) ∧ w'.cell? ⟨w.heap.size, 5, none⟩ = some (.int .i64 wn) ∧ w'.cell? ⟨w.heap.size, 6, none⟩ = some (.int .i64 ur) ∧ w'.cell? ⟨w.heap.size, 7, none⟩ = some (.slice AO no co)) (first | assumption | exact HK3.out | exact HK2.out | exact HK.out) (first
    | (go_at_call 24; refine (HRT.out _).mono ?_; rintro e w2 ⟨rfl, hb2⟩; have HK2 := Lib.hid (keep8 HK.out hb2); have HB2 := Lib.hid hb2; clear hb2)
    | (go_at_call 22; refine (HLR.out _).mono ?_; rintro e w3 ⟨rfl, hb3⟩; have HK3 := Lib.hid (keep8 HK2.out hb3); have HB3 := Lib.hid (bel_call (bel_call (bel_drew (Below.refl _ w1)) HB2.out) hb3); clear hb3))
  have BOX3 := Lib.hid (BOX1.out.below HB3.out BOX1.out.lt)
  have m0 : w3.cell? ⟨w.heap.size, 0, none⟩ = some (.int .i64 sp) := BOX3.out.cell 0
  have m1 : w3.cell? ⟨w.heap.size, 1, none⟩ = some (.int .i64 dp) := BOX3.out.cell 1
  have m2 : w3.cell? ⟨w.heap.size, 2, none⟩ = some (.int .u32 sq) := BOX3.out.cell 2
  have m3 : w3.cell? ⟨w.heap.size, 3, none⟩ = some (.int .u32 ak) := BOX3.out.cell 3
  have m4 : w3.cell? ⟨w.heap.size, 4, none⟩ = some (.int .i64 fl) := BOX3.out.cell 4
  have m5 : w3.cell? ⟨w.heap.size, 5, none⟩ = some (.int .i64 wn) := BOX3.out.cell 5
  have m6 : w3.cell? ⟨w.heap.size, 6, none⟩ = some (.int .i64 ur) := BOX3.out.cell 6
  have m7 : w3.cell? ⟨w.heap.size, 7, none⟩ = some (.slice AO no co) := BOX3.out.cell 7
  go_wp2_with fail
  refine (HLR.out _).mono ?_
  rintro e w4 ⟨rfl, hb4⟩
  have HB4 := Lib.hid (bel_call HB3.out hb4)
  have BOX4 := Lib.hid (BOX3.out.below hb4 BOX3.out.lt)
  clear m0 m1 m2 m3 m4 m5 m6 m7 hb4 BOX3 HK HK2 HK3 HB2 HB3
  have OB4 := Lib.hid (own_keep OB1.out HB4.out)
  have HB14 := Lib.hid (bel_call HB1.out HB4.out)
  clear HB4 OB1 HB1 BOX1 HBY HRT HLR
  have m0 : w4.cell? ⟨w.heap.size, 0, none⟩ = some (.int .i64 sp) := BOX4.out.cell 0
  have m1 : w4.cell? ⟨w.heap.size, 1, none⟩ = some (.int .i64 dp) := BOX4.out.cell 1
  have m2 : w4.cell? ⟨w.heap.size, 2, none⟩ = some (.int .u32 sq) := BOX4.out.cell 2
  have m3 : w4.cell? ⟨w.heap.size, 3, none⟩ = some (.int .u32 ak) := BOX4.out.cell 3
  have m4 : w4.cell? ⟨w.heap.size, 4, none⟩ = some (.int .i64 fl) := BOX4.out.cell 4
  have m5 : w4.cell? ⟨w.heap.size, 5, none⟩ = some (.int .i64 wn) := BOX4.out.cell 5
  have m6 : w4.cell? ⟨w.heap.size, 6, none⟩ = some (.int .i64 ur) := BOX4.out.cell 6
  have m7 : w4.cell? ⟨w.heap.size, 7, none⟩ = some (.slice AO no co) := BOX4.out.cell 7
  have HLX := Lib.hid (HLB.out w4 ((RO.out.below HB14.out).more HB14.out.size) ((R1.out.below HB14.out).more HB14.out.size))
  go_wp2_with fail
  refine HLX.out.mono ?_
  rintro e w5 ⟨vw, rfl, ownw, hb5⟩
  obtain ⟨gw, cw, rfl, hgw, gwl, hncw, _, hcw, hfw⟩ := own_form ownw (by omega)
  have OW5 := Lib.hid ownw
  have HB5 := Lib.hid hb5
  clear m0 m1 m2 m3 m4 m5 m6 m7 ownw hb5 HLX HLB
  have BLA := Lib.hid ((bel_call HB14.out HB5.out).alloc (bel_call HB14.out HB5.out).size (.cells #[] 5))
  have BLB := Lib.hid ((Below.refl w5.heap.size w5).alloc (Nat.le_refl _) (.cells #[] 5))
  have HLIT := Lib.hid (World.ownsRow_lit (base := w5.heap.size) (e := 5) (size := 1) w5 #[] 0 (Nat.le_refl _) (Nat.zero_le _) rfl)
  go_wp2_with (at_builtin; refine wpList_append_row rfl (.tmp 54) (.tmp 55) _ rfl w5.heap.size 5 i0 _ 1 Try.underlying23 HI0.out HZ0.out HZ1.out HZ2.out rfl (.slice (some ⟨w5.heap.size, 0, none⟩) 0 0) 0 [] rfl HLIT.out (some ⟨gw, 0, none⟩) N cw w5.heap.size (U0.map (.int .u8)) rfl (by intro h; cases h) (by rw [List.length_map]; exact HUL0.out) ((own_row OW5.out).below BLB.out) (ONE.out _) ME3.out ME4.out (by simp) ?_; intro vb wb ownb gb_; have HOb := Lib.hid ownb; have HBb := Lib.hid (below_grown BLB.out HLIT.out (Nat.le_refl _) (by simp) gb_); clear ownb gb_)
  have hob := HOb.out
  rw [EL.out, Nat.zero_add] at hob
  obtain ⟨Ab, cb2, rfl⟩ := own_slice hob
  have HRW := Lib.hid (HRC.out Ab cb2 wb (own_row hob))
  clear hob HOb
  refine HRW.out.mono ?_
  rintro e w6 ⟨rfl, hb6⟩
  have HB6 := Lib.hid (bel_call HBb.out hb6)
  have OW6 := own_keep OW5.out HB6.out
  have HB46 := Lib.hid (bel_call HB5.out HB6.out)
  have gwl6 := (OW6.lt gw rfl).2
  have hcw6 : ∀ j, j < N → w6.cell? ⟨gw, j, none⟩ = (U0.map (Value.int .u8))[j]? := fun j hj => OW6.cellAt j (by omega)
  have hfw6 : ∀ j, w6.frozen? ⟨gw, j, none⟩ = false := fun j => OW6.frozenAt j
  have j6 : w6.cell? ⟨gw, 16, none⟩ = some (.int .u8 (U0.getD 16 0)) := by
    rw [hcw6 16 (by omega), List.getElem?_map, List.getElem?_eq_getElem (by rw [HUL0.out]; omega), List.getD_eq_getElem?_getD, List.getElem?_eq_getElem (by rw [HUL0.out]; omega)]; rfl
  have j7 : w6.cell? ⟨gw, 17, none⟩ = some (.int .u8 (U0.getD 17 0)) := by
    rw [hcw6 17 (by omega), List.getElem?_map, List.getElem?_eq_getElem (by rw [HUL0.out]; omega), List.getD_eq_getElem?_getD, List.getElem?_eq_getElem (by rw [HUL0.out]; omega)]; rfl
  have f6 := hfw6 16
  have f7 := hfw6 17
  have y6 : (16 : Int) < (N : Int) := by omega
  have y7 : (17 : Int) < (N : Int) := by omega
  have OWK := Lib.hid OW6
  have HSIX := Lib.hid (show Below w4.heap.size w4 w6 from HB46.out)
  clear OW6 hcw6 hfw6 hb6 HB6 HB46 BLA BLB HLIT HBb HRW
  generalize U0.getD 16 0 = q6 at *
  generalize U0.getD 17 0 = q7 at *
  have OWZ := Lib.hid (own_stored (own_stored OWK.out 16 (.int .u8 ((65535 - fs) / 256))) 17 (.int .u8 ((65535 - fs) % 256)))
  have HBZ := Lib.hid ((HSIX.out.setCell (p := ⟨gw, 16, none⟩) hgw (.int .u8 ((65535 - fs) / 256))).setCell (p := ⟨gw, 17, none⟩) hgw (.int .u8 ((65535 - fs) % 256)))
  have hst : ((U0.map (Value.int .u8)).set 16 (.int .u8 ((65535 - fs) / 256))).set 17 (.int .u8 ((65535 - fs) % 256)) = U.map (Value.int .u8) := by
    rw [← HSET.out, List.map_set, List.map_set]
  rw [hst] at OWZ
  have BOX6 := Lib.hid (BOX4.out.below HBZ.out BOX4.out.lt)
  have OB6 := Lib.hid (own_keep OB4.out HBZ.out)
  have HB16 := Lib.hid (bel_call HB14.out HBZ.out)
  have R36 := Lib.hid ((R3.out.below HB16.out).more HB16.out.size)
  have HPX := Lib.hid (HPA.out gb cb ((w6.setCell ⟨gw, 16, none⟩ (.int .u8 ((65535 - fs) / 256))).setCell ⟨gw, 17, none⟩ (.int .u8 ((65535 - fs) % 256))) hncb hcb (OB6.out.lt gb rfl).2 (lies_own OB6.out HUL.out) R36.out)
  clear OWK HSIX HBZ hst OB4 BOX4
  go_wp2_with fail
  refine HPX.out.mono ?_
  rintro e w7 hpost
  obtain ⟨Ax, cx, vr, rfl, ownx, ownr, hb7⟩ := HP1.out _ _ _ hpost
  obtain ⟨Ar, cr, rfl⟩ := own_slice ownr
  have BX8 := Lib.hid (Blk.new w7 40 #[.int .i64 sp, .int .i64 dp, .int .u32 sq, .int .u32 ak, .int .i64 fl, .int .i64 wn, .int .i64 ur, .slice Ax no cx])
  have HB78 := Lib.hid (show Below ((w6.setCell ⟨gw, 16, none⟩ (.int .u8 ((65535 - fs) / 256))).setCell ⟨gw, 17, none⟩ (.int .u8 ((65535 - fs) % 256))).heap.size ((w6.setCell ⟨gw, 16, none⟩ (.int .u8 ((65535 - fs) / 256))).setCell ⟨gw, 17, none⟩ (.int .u8 ((65535 - fs) % 256))) (w7.alloc (.cells #[.int .i64 sp, .int .i64 dp, .int .u32 sq, .int .u32 ak, .int .i64 fl, .int .i64 wn, .int .i64 ur, .slice Ax no cx] 40)) from bel_alloc hb7 _)
  have BOX8 := Lib.hid (BOX6.out.below HB78.out BOX6.out.lt)
  have OX8 := Lib.hid (ownx.alloc (.cells #[.int .i64 sp, .int .i64 dp, .int .u32 sq, .int .u32 ak, .int .i64 fl, .int .i64 wn, .int .i64 ur, .slice Ax no cx] 40))
  have OR8 := Lib.hid (ownr.alloc (.cells #[.int .i64 sp, .int .i64 dp, .int .u32 sq, .int .u32 ak, .int .i64 fl, .int .i64 wn, .int .i64 ur, .slice Ax no cx] 40))
  have HB18 := Lib.hid (bel_call HB16.out HB78.out)
  have cv1 := conv_any (c := cb) (own_row (own_keep OB6.out HB78.out)) HUL.out
  have cv2 := conv_any (c := cw) (own_row (own_keep OWZ.out HB78.out)) HUL.out
  have HSA := Lib.hid (same_one (w7.alloc (.cells #[.int .i64 sp, .int .i64 dp, .int .u32 sq, .int .u32 ak, .int .i64 fl, .int .i64 wn, .int .i64 ur, .slice Ax no cx] 40)) sp dp sq ak fl wn ur Ax AO no cx co os LO.out (own_row OX8.out) ((RO.out.below HB18.out).more HB18.out.size))
  clear hpost ownx ownr hb7 HPX BOX6 OB6 HB16 R36 HB78 OWZ
  have d0 : (w7.alloc (.cells #[.int .i64 sp, .int .i64 dp, .int .u32 sq, .int .u32 ak, .int .i64 fl, .int .i64 wn, .int .i64 ur, .slice Ax no cx] 40)).cell? ⟨w7.heap.size, 0, none⟩ = some (.int .i64 sp) := BX8.out.cell 0
  have d1 : (w7.alloc (.cells #[.int .i64 sp, .int .i64 dp, .int .u32 sq, .int .u32 ak, .int .i64 fl, .int .i64 wn, .int .i64 ur, .slice Ax no cx] 40)).cell? ⟨w7.heap.size, 1, none⟩ = some (.int .i64 dp) := BX8.out.cell 1
  have d2 : (w7.alloc (.cells #[.int .i64 sp, .int .i64 dp, .int .u32 sq, .int .u32 ak, .int .i64 fl, .int .i64 wn, .int .i64 ur, .slice Ax no cx] 40)).cell? ⟨w7.heap.size, 2, none⟩ = some (.int .u32 sq) := BX8.out.cell 2
  have d3 : (w7.alloc (.cells #[.int .i64 sp, .int .i64 dp, .int .u32 sq, .int .u32 ak, .int .i64 fl, .int .i64 wn, .int .i64 ur, .slice Ax no cx] 40)).cell? ⟨w7.heap.size, 3, none⟩ = some (.int .u32 ak) := BX8.out.cell 3
  have d4 : (w7.alloc (.cells #[.int .i64 sp, .int .i64 dp, .int .u32 sq, .int .u32 ak, .int .i64 fl, .int .i64 wn, .int .i64 ur, .slice Ax no cx] 40)).cell? ⟨w7.heap.size, 4, none⟩ = some (.int .i64 fl) := BX8.out.cell 4
  have d5 : (w7.alloc (.cells #[.int .i64 sp, .int .i64 dp, .int .u32 sq, .int .u32 ak, .int .i64 fl, .int .i64 wn, .int .i64 ur, .slice Ax no cx] 40)).cell? ⟨w7.heap.size, 5, none⟩ = some (.int .i64 wn) := BX8.out.cell 5
  have d6 : (w7.alloc (.cells #[.int .i64 sp, .int .i64 dp, .int .u32 sq, .int .u32 ak, .int .i64 fl, .int .i64 wn, .int .i64 ur, .slice Ax no cx] 40)).cell? ⟨w7.heap.size, 6, none⟩ = some (.int .i64 ur) := BX8.out.cell 6
  have d7 : (w7.alloc (.cells #[.int .i64 sp, .int .i64 dp, .int .u32 sq, .int .u32 ak, .int .i64 fl, .int .i64 wn, .int .i64 ur, .slice Ax no cx] 40)).cell? ⟨w7.heap.size, 7, none⟩ = some (.slice Ax no cx) := BX8.out.cell 7
  have p0 : (w7.alloc (.cells #[.int .i64 sp, .int .i64 dp, .int .u32 sq, .int .u32 ak, .int .i64 fl, .int .i64 wn, .int .i64 ur, .slice Ax no cx] 40)).cell? ⟨w.heap.size, 0, none⟩ = some (.int .i64 sp) := BOX8.out.cell 0
  have p1 : (w7.alloc (.cells #[.int .i64 sp, .int .i64 dp, .int .u32 sq, .int .u32 ak, .int .i64 fl, .int .i64 wn, .int .i64 ur, .slice Ax no cx] 40)).cell? ⟨w.heap.size, 1, none⟩ = some (.int .i64 dp) := BOX8.out.cell 1
  have p2 : (w7.alloc (.cells #[.int .i64 sp, .int .i64 dp, .int .u32 sq, .int .u32 ak, .int .i64 fl, .int .i64 wn, .int .i64 ur, .slice Ax no cx] 40)).cell? ⟨w.heap.size, 2, none⟩ = some (.int .u32 sq) := BOX8.out.cell 2
  have p3 : (w7.alloc (.cells #[.int .i64 sp, .int .i64 dp, .int .u32 sq, .int .u32 ak, .int .i64 fl, .int .i64 wn, .int .i64 ur, .slice Ax no cx] 40)).cell? ⟨w.heap.size, 3, none⟩ = some (.int .u32 ak) := BOX8.out.cell 3
  have p4 : (w7.alloc (.cells #[.int .i64 sp, .int .i64 dp, .int .u32 sq, .int .u32 ak, .int .i64 fl, .int .i64 wn, .int .i64 ur, .slice Ax no cx] 40)).cell? ⟨w.heap.size, 4, none⟩ = some (.int .i64 fl) := BOX8.out.cell 4
  have p5 : (w7.alloc (.cells #[.int .i64 sp, .int .i64 dp, .int .u32 sq, .int .u32 ak, .int .i64 fl, .int .i64 wn, .int .i64 ur, .slice Ax no cx] 40)).cell? ⟨w.heap.size, 5, none⟩ = some (.int .i64 wn) := BOX8.out.cell 5
  have p6 : (w7.alloc (.cells #[.int .i64 sp, .int .i64 dp, .int .u32 sq, .int .u32 ak, .int .i64 fl, .int .i64 wn, .int .i64 ur, .slice Ax no cx] 40)).cell? ⟨w.heap.size, 6, none⟩ = some (.int .i64 ur) := BOX8.out.cell 6
  have p7 : (w7.alloc (.cells #[.int .i64 sp, .int .i64 dp, .int .u32 sq, .int .u32 ak, .int .i64 fl, .int .i64 wn, .int .i64 ur, .slice Ax no cx] 40)).cell? ⟨w.heap.size, 7, none⟩ = some (.slice AO no co) := BOX8.out.cell 7
  go_wp2_with fail
  refine HSA.out.mono ?_
  rintro e w9 ⟨rfl, hb9⟩
  have cv3 := conv_any (c := cr) (own_row (own_keep OR8.out hb9)) L1.out
  have cv4 := conv_any (c := c1) (R1.out.below (bel_call HB18.out hb9)) L1.out
  go_wp2_with fail
  refine (HAW.out _).mono ?_
  rintro e w10 ⟨rfl, hb10⟩
  go_wp2_with fail
  go_ret
  exact ⟨rfl, bel_call (bel_call HB18.out hb9) hb10⟩
set_option maxRecDepth 100000 in
set_option maxHeartbeats 8000000 in
theorem good_odd (v1 v2 : Value) (A1 : Option Addr) (n1 n2 c1 c2 : Nat) (l1 l3 os : List Int) (sp dp sq ak fl wn ur : Int) (AO : Option Addr) (no co : Nat) (w : World) (b2 off2 : Nat) (h1 : l1.length = n1) (k1 : n1 ≤ 300) (k2 : n2 ≤ 300) (hn2 : n2 ≤ c2) (hc2 : c2 ≤ 9223372036854775807) (z1 : A1 = none → c1 = 0) (r1 : Row w w.heap.size A1 (l1.map (.int .u8))) (b1 : ∀ x ∈ l1, 0 ≤ x ∧ x ≤ 255) (b3 : ∀ x ∈ l3, 0 ≤ x ∧ x ≤ 255)
    (he : n2 % 2 = 1) (ho : ¬ c2 = 1) (h3 : l3.length = n2 - 1) (r3 : Row w w.heap.size (some ⟨b2, off2 + 1, none⟩) (l3.map (.int .u8)))
    (hol : os.length = no) (hor : Row w w.heap.size AO (os.map (.int .u8))) (hoz : AO = none → co = 0) (hox : ∀ x ∈ os, 0 ≤ x ∧ x ≤ 255) (s5 : 0 ≤ sq) (s6 : sq ≤ 4294967295) (s7 : 0 ≤ ak) (s8 : ak ≤ 4294967295)
    (C1 : Hid (∀ w : World, Calls Try.prog 17 #[v1] w fun e w' => e = .returned (.slice A1 n1 c1) ∧ w = w'))
    (C2 : Hid (∀ w : World, Calls Try.prog 17 #[v2] w fun e w' => e = .returned (.slice (some ⟨b2, off2, none⟩) n2 c2) ∧ w = w'))
    (hp : okH sp dp wn ur fl no) :
    Calls Try.prog 7 #[.agg #[.int .i64 sp, .int .i64 dp, .int .u32 sq, .int .u32 ak, .int .i64 fl, .int .i64 wn, .int .i64 ur, .slice AO no co], v1, v2] w fun e w' => e = .returned (.bool true) ∧ Below w.heap.size w w' := by
  have t0 : (((n2 : Int) % 2) == 1) = true := eqT (by omega)
  have y1 : 1 ≤ n2 := by omega
  have y2 : (1 : Int) ≤ (n2 : Int) := by omega
  obtain ⟨⟨p1, p2⟩, ⟨p3, p4⟩, ⟨p11, p12⟩, ⟨p13, p14⟩, ⟨p9, p10⟩, ho40, hm4⟩ := hp
  have HB0 := Lib.hid (show Below w.heap.size w (w.alloc (.cells #[.int .i64 sp, .int .i64 dp, .int .u32 sq, .int .u32 ak, .int .i64 fl, .int .i64 wn, .int .i64 ur, .slice AO no co] 40)) from (Below.refl _ _).alloc (Nat.le_refl _) _)
  have BOX0 := Lib.hid (Blk.new w 40 #[.int .i64 sp, .int .i64 dp, .int .u32 sq, .int .u32 ak, .int .i64 fl, .int .i64 wn, .int .i64 ur, .slice AO no co])
  have hm' : os.length % 4 = 0 := by rw [hol]; exact hm4
  have h3e : l3.length % 2 = 0 := by omega
  have hU0 := tk_in sp dp sq ak fl wn ur 0 os l1 p1 p2 p3 p4 s5 s6 s7 s8 p9 p10 p11 p12 p13 p14 (by omega) (by omega) (by omega) hox b1
  have hin0 : ∀ x ∈ l3 ++ (tk sp dp sq ak fl wn ur 0 os l1), 0 ≤ x ∧ x ≤ 255 := fun x hx => (List.mem_append.1 hx).elim (b3 x) (hU0 x)
  have hfb := fo_bd _ (wsum_bd _ hin0).1
  have HUX := Lib.hid (tk_in sp dp sq ak fl wn ur (65535 - (fo (wsum (l3 ++ tk sp dp sq ak fl wn ur 0 os l1)))) os l1 p1 p2 p3 p4 s5 s6 s7 s8 p9 p10 p11 p12 p13 p14 (by omega) (by omega) (by omega) hox b1)
  have hsay := tk_says sp dp sq ak fl wn ur (65535 - (fo (wsum (l3 ++ tk sp dp sq ak fl wn ur 0 os l1)))) os l1 hm'
  have hsay0 := (tk_says sp dp sq ak fl wn ur 0 os l1 hm').1
  rw [hol, h1] at hsay hsay0
  have HUL0 := Lib.hid hsay0
  have HUS := Lib.hid (chk_right sp dp sq ak fl wn ur os l1 l3 hm' h3e hin0)
  have HSET := Lib.hid (tk_set sp dp sq ak fl wn ur (65535 - (fo (wsum (l3 ++ tk sp dp sq ak fl wn ur 0 os l1)))) os l1)
  have HBY := Lib.hid (bytes_tk sp dp sq ak fl wn ur AO no co os A1 (some ⟨b2, off2 + 1, none⟩) n1 c1 (n2 - 1) (c2 - 1) l1 l3 (w.alloc (.cells #[.int .i64 sp, .int .i64 dp, .int .u32 sq, .int .u32 ak, .int .i64 fl, .int .i64 wn, .int .i64 ur, .slice AO no co] 40)) p1 p2 p3 p4 p9 p10 p11 p12 p13 p14 ho40 hm4 s5 s6 s7 s8 hol ((hor.below HB0.out).more HB0.out.size) hoz hox h1 (by omega) ((r1.below HB0.out).more HB0.out.size) z1 b1 h3 (by omega) ((r3.below HB0.out).more HB0.out.size) b3)
  have HRT := Lib.hid (fun w => right_yes sp dp sq ak fl wn ur AO no co w p1 p2 p3 p4 p9 p10 p11 p12 p13 p14 ho40 hm4)
  have HLR := Lib.hid (fun w => Go.Proofs.Ytjgeknkfinaimaa.tcpF.lawright_yes sp dp sq ak fl wn ur AO no co w p1 p2 p3 p4 p9 p10 p11 p12 p13 p14 ho40 hm4)
  have HLB := Lib.hid (show ∀ (W : World), Row W W.heap.size AO (os.map (.int .u8)) → Row W W.heap.size A1 (l1.map (.int .u8)) → Calls Try.prog 21 #[.agg #[.int .i64 sp, .int .i64 dp, .int .u32 sq, .int .u32 ak, .int .i64 fl, .int .i64 wn, .int .i64 ur, .slice AO no co], .slice A1 n1 c1] W (fun e w' => ∃ v, e = .returned v ∧ w'.ownsRow W.heap.size 5 1 v (20 + no + n1) ((tk sp dp sq ak fl wn ur 0 os l1).map (.int .u8)) ∧ Below W.heap.size W w') from fun W ha hb => by
    have H := lawbytes_any sp dp sq ak fl wn ur AO no co os A1 n1 c1 l1 W p1 p2 p3 p4 s5 s6 s7 s8 p9 p10 p11 p12 p13 p14 hol ho40 ha hoz h1 (by omega) hb z1
    rw [tb_tk sp dp sq ak fl wn ur os l1 hm'] at H
    refine H.mono fun e w' h => ?_
    obtain ⟨v, a, b, c⟩ := h
    rw [hsay0] at b
    exact ⟨v, a, b, c⟩)
  have HRC := Lib.hid (fun (A : Option Addr) (c : Nat) (W : World) hr => Go.Proofs.Ytjgeknkfinaimaa.udpJ.refcheck_any A ((n2 - 1) + (20 + no + n1)) c (l3 ++ (tk sp dp sq ak fl wn ur 0 os l1)) W (by rw [List.length_append, hsay0, h3]) (by omega) hr hin0)
  have HAW := Lib.hid Go.Proofs.Ytjgeknkfinaimaa.tcpB.awake_any
  have R1 := Lib.hid r1
  have R3 := Lib.hid r3
  have B3 := Lib.hid b3
  have L1 := Lib.hid h1
  have L3 := Lib.hid h3
  have RO := Lib.hid hor
  have LO := Lib.hid hol
  obtain ⟨i0, hi0, hz0, hz1, hz2⟩ := info_parts info_u8
  have HI0 := Lib.hid hi0
  have HZ0 := Lib.hid hz0
  have HZ1 := Lib.hid hz1
  have HZ2 := Lib.hid hz2
  have ONE := Lib.hid (show ∀ l : List Int, ∀ u ∈ l.map (Value.int .u8), u.oneCell' = true from by
    intro l u hu
    rw [List.mem_map] at hu
    obtain ⟨x, _, rfl⟩ := hu
    rfl)
  have Z3 := Lib.hid (show ((some ⟨b2, off2 + 1, none⟩) : Option Addr) = none → ((c2 - 1) : Nat) = 0 from fun h => by cases h)
  have EL := Lib.hid (show [] ++ l3.map (Value.int .u8) ++ (tk sp dp sq ak fl wn ur 0 os l1).map (Value.int .u8) = (l3 ++ (tk sp dp sq ak fl wn ur 0 os l1)).map (Value.int .u8) by simp)
  clear hi0 hz0 hz1 hz2
  obtain ⟨ul, u0, u2, u4, u8, u12, u12m, u13, u14, u18, uo, up⟩ := hsay
  have HUL := Lib.hid ul
  have HP1 := Lib.hid (show ∀ (e : Ending) (wa wb : World), OkPost wa (tk sp dp sq ak fl wn ur (65535 - fo (wsum (l3 ++ tk sp dp sq ak fl wn ur 0 os l1))) os l1) (20 + no) e wb → ∃ A c v, e = .returned (.tuple #[.agg #[.int .i64 sp, .int .i64 dp, .int .u32 sq, .int .u32 ak, .int .i64 fl, .int .i64 wn, .int .i64 ur, .slice A no c], v, .int .i64 0]) ∧ wb.ownsRow wa.heap.size 5 1 (.slice A no c) no (os.map (.int .u8)) ∧ wb.ownsRow wa.heap.size 5 1 v n1 (l1.map (.int .u8)) ∧ Below wa.heap.size wa wb from fun e wa wb h => by
    unfold OkPost at h
    rw [u0, u2, u4, u8, u13, u14, u18, uo, up, ul, show 20 + no - 20 = no by omega, show 20 + no + n1 - (20 + no) = n1 by omega] at h
    obtain ⟨A, c, v, he, _, ha, hb, hc⟩ := h
    exact ⟨A, c, v, he, ha, hb, hc⟩)
  have HPA := Lib.hid (fun (g c : Nat) (W : World) (hnc : 20 + no + n1 ≤ c) (hcc : c ≤ 9223372036854775807) (hg : g < W.heap.size) (hl : Lies W g 0 (tk sp dp sq ak fl wn ur (65535 - fo (wsum (l3 ++ tk sp dp sq ak fl wn ur 0 os l1))) os l1)) (hr : Row W W.heap.size (some ⟨b2, off2 + 1, none⟩) (l3.map (.int .u8))) => parse_both g 0 (20 + no + n1) c (20 + no) (n2 - 1) (c2 - 1) (some ⟨b2, off2 + 1, none⟩) (tk sp dp sq ak fl wn ur (65535 - fo (wsum (l3 ++ tk sp dp sq ak fl wn ur 0 os l1))) os l1) l3 W ul (by omega) (by omega) hnc hcc hg hl HUX.out L3.out (by omega) hr B3.out (by rw [u12]; omega) (by rw [u12]; omega) u12m HUS.out u12)
  clear u0 u2 u4 u8 u12 u12m u13 u14 u18 uo up ul HUS HUX hsay0 hU0 hin0 h3e hm' h1 r1 b1 b3 h3 r3 z1 he hc2 hol hor hoz hox p1 p2 p3 p4 p9 p10 p11 p12 p13 p14 s5 s6 s7 s8 hm4
  generalize (fo (wsum (l3 ++ tk sp dp sq ak fl wn ur 0 os l1))) = fs at *
  generalize (tk sp dp sq ak fl wn ur (65535 - fs) os l1) = U at *
  generalize (tk sp dp sq ak fl wn ur 0 os l1) = U0 at *
  obtain ⟨N, hN⟩ : ∃ N, N = 20 + no + n1 := ⟨_, rfl⟩
  rw [← hN] at HBY HUL HPA HLB HUL0 HRC
  have N8 : 20 ≤ N := by omega
  have N9 : N ≤ 360 := by omega
  have ME1 := Lib.hid (show 0 + (n2 - 1) ≤ maxLen by unfold maxLen; omega)
  have ME2 := Lib.hid (show (0 + (n2 - 1)) * 1 ≤ 140737488355328 by omega)
  have ME3 := Lib.hid (show 0 + (n2 - 1) + N ≤ maxLen by unfold maxLen; omega)
  have ME4 := Lib.hid (show (0 + (n2 - 1) + N) * 1 ≤ 140737488355328 by omega)
  have a1 : IntKind.u8.wrap ((65535 - fs) / 256) = (65535 - fs) / 256 := by rw [IntKind.wrap_u8]; omega
  have a2 : IntKind.u8.wrap ((65535 - fs) % 256) = (65535 - fs) % 256 := by rw [IntKind.wrap_u8]; omega
  clear hN hn2 ho40
  go_enter Try.func7, Try.ntmps7
  go_wp2_with fail
  refine (C1.out _).mono ?_
  rintro e w' ⟨rfl, rfl⟩
  go_wp2_with fail
  refine (C2.out _).mono ?_
  rintro e w' ⟨rfl, rfl⟩
  go_wp2_with fail
  refine HBY.out.mono ?_
  rintro e w1 ⟨vb, rfl, ownb, hb1⟩
  obtain ⟨gb, cb, rfl, _, gbl, hncb, hcb, _, _⟩ := own_form ownb (by omega)
  have OB1 := Lib.hid ownb
  have HB1 := Lib.hid (bel_call HB0.out hb1)
  have BOX1 := Lib.hid (BOX0.out.below hb1 BOX0.out.lt)
  unfold maxLen at hcb
  clear hb1 ownb
  go_wp2_with fail
  have HK := Lib.hid (show w1.drew.cell? ⟨w.heap.size, 0, none⟩ = some (.int .i64 sp) ∧ w1.drew.cell? ⟨w.heap.size, 1, none⟩ = some (.int .i64 dp) ∧ w1.drew.cell? ⟨w.heap.size, 2, none⟩ = some (.int .u32 sq) ∧ w1.drew.cell? ⟨w.heap.size, 3, none⟩ = some (.int .u32 ak) ∧ w1.drew.cell? ⟨w.heap.size, 4, none⟩ = some (.int .i64 fl) ∧ w1.drew.cell? ⟨w.heap.size, 5, none⟩ = some (.int .i64 wn) ∧ w1.drew.cell? ⟨w.heap.size, 6, none⟩ = some (.int .i64 ur) ∧ w1.drew.cell? ⟨w.heap.size, 7, none⟩ = some (.slice AO no co) from ⟨BOX1.out.cell 0, BOX1.out.cell 1, BOX1.out.cell 2, BOX1.out.cell 3, BOX1.out.cell 4, BOX1.out.cell 5, BOX1.out.cell 6, BOX1.out.cell 7⟩)
  go_region_held3 (fun w' => w'.cell? ⟨w.heap.size, 0, none⟩ = some (.int .i64 sp) ∧ w'.cell? ⟨w.heap.size, 1, none⟩ = some (.int .i64 dp) ∧ w'.cell? ⟨w.heap.size, 2, none⟩ = some (.int .u32 sq) ∧ w'.cell? ⟨w.heap.size, 3, none⟩ = some (.int .u32 ak) ∧ w'.cell? ⟨w.heap.size, 4, none⟩ = some (.int .i64 fl) ∧ w'.cell? ⟨w.heap.size, 5, none⟩ = some (.int .i64 wn) ∧ w'.cell? ⟨w.heap.size, 6, none⟩ = some (.int .i64 ur) ∧ w'.cell? ⟨w.heap.size, 7, none⟩ = some (.slice AO no co)) (first | assumption | exact HK3.out | exact HK2.out | exact HK.out) (first
    | (go_at_call 24; refine (HRT.out _).mono ?_; rintro e w2 ⟨rfl, hb2⟩; have HK2 := Lib.hid (keep8 HK.out hb2); have HB2 := Lib.hid hb2; clear hb2)
    | (go_at_call 22; refine (HLR.out _).mono ?_; rintro e w3 ⟨rfl, hb3⟩; have HK3 := Lib.hid (keep8 HK2.out hb3); have HB3 := Lib.hid (bel_call (bel_call (bel_drew (Below.refl _ w1)) HB2.out) hb3); clear hb3))
  have BOX3 := Lib.hid (BOX1.out.below HB3.out BOX1.out.lt)
  have m0 : w3.cell? ⟨w.heap.size, 0, none⟩ = some (.int .i64 sp) := BOX3.out.cell 0
  have m1 : w3.cell? ⟨w.heap.size, 1, none⟩ = some (.int .i64 dp) := BOX3.out.cell 1
  have m2 : w3.cell? ⟨w.heap.size, 2, none⟩ = some (.int .u32 sq) := BOX3.out.cell 2
  have m3 : w3.cell? ⟨w.heap.size, 3, none⟩ = some (.int .u32 ak) := BOX3.out.cell 3
  have m4 : w3.cell? ⟨w.heap.size, 4, none⟩ = some (.int .i64 fl) := BOX3.out.cell 4
  have m5 : w3.cell? ⟨w.heap.size, 5, none⟩ = some (.int .i64 wn) := BOX3.out.cell 5
  have m6 : w3.cell? ⟨w.heap.size, 6, none⟩ = some (.int .i64 ur) := BOX3.out.cell 6
  have m7 : w3.cell? ⟨w.heap.size, 7, none⟩ = some (.slice AO no co) := BOX3.out.cell 7
  go_wp2_with fail
  refine (HLR.out _).mono ?_
  rintro e w4 ⟨rfl, hb4⟩
  have HB4 := Lib.hid (bel_call HB3.out hb4)
  have BOX4 := Lib.hid (BOX3.out.below hb4 BOX3.out.lt)
  clear m0 m1 m2 m3 m4 m5 m6 m7 hb4 BOX3 HK HK2 HK3 HB2 HB3
  have OB4 := Lib.hid (own_keep OB1.out HB4.out)
  have HB14 := Lib.hid (bel_call HB1.out HB4.out)
  clear HB4 OB1 HB1 BOX1 HBY HRT HLR
  have m0 : w4.cell? ⟨w.heap.size, 0, none⟩ = some (.int .i64 sp) := BOX4.out.cell 0
  have m1 : w4.cell? ⟨w.heap.size, 1, none⟩ = some (.int .i64 dp) := BOX4.out.cell 1
  have m2 : w4.cell? ⟨w.heap.size, 2, none⟩ = some (.int .u32 sq) := BOX4.out.cell 2
  have m3 : w4.cell? ⟨w.heap.size, 3, none⟩ = some (.int .u32 ak) := BOX4.out.cell 3
  have m4 : w4.cell? ⟨w.heap.size, 4, none⟩ = some (.int .i64 fl) := BOX4.out.cell 4
  have m5 : w4.cell? ⟨w.heap.size, 5, none⟩ = some (.int .i64 wn) := BOX4.out.cell 5
  have m6 : w4.cell? ⟨w.heap.size, 6, none⟩ = some (.int .i64 ur) := BOX4.out.cell 6
  have m7 : w4.cell? ⟨w.heap.size, 7, none⟩ = some (.slice AO no co) := BOX4.out.cell 7
  have HLX := Lib.hid (HLB.out w4 ((RO.out.below HB14.out).more HB14.out.size) ((R1.out.below HB14.out).more HB14.out.size))
  go_wp2_with fail
  refine HLX.out.mono ?_
  rintro e w5 ⟨vw, rfl, ownw, hb5⟩
  obtain ⟨gw, cw, rfl, hgw, gwl, hncw, _, hcw, hfw⟩ := own_form ownw (by omega)
  have OW5 := Lib.hid ownw
  have HB5 := Lib.hid hb5
  clear m0 m1 m2 m3 m4 m5 m6 m7 ownw hb5 HLX HLB
  have BLA := Lib.hid ((bel_call HB14.out HB5.out).alloc (bel_call HB14.out HB5.out).size (.cells #[] 5))
  have BLB := Lib.hid ((Below.refl w5.heap.size w5).alloc (Nat.le_refl _) (.cells #[] 5))
  have HLIT := Lib.hid (World.ownsRow_lit (base := w5.heap.size) (e := 5) (size := 1) w5 #[] 0 (Nat.le_refl _) (Nat.zero_le _) rfl)
  go_wp2_with (first
    | (at_builtin; refine wpList_append_row rfl (.tmp 52) (.tmp 53) _ rfl w5.heap.size 5 i0 _ 1 Try.underlying23 HI0.out HZ0.out HZ1.out HZ2.out rfl (.slice (some ⟨w5.heap.size, 0, none⟩) 0 0) 0 [] rfl HLIT.out (some ⟨b2, off2 + 1, none⟩) (n2 - 1) (c2 - 1) w.heap.size (l3.map (.int .u8)) rfl Z3.out (by rw [List.length_map]; exact L3.out) (R3.out.below BLA.out) (ONE.out _) ME1.out ME2.out (by simp) ?_; intro va wa owna ga; have HOa := Lib.hid owna; have HBa := Lib.hid (below_grown BLB.out HLIT.out (Nat.le_refl _) (by simp) ga); clear owna ga)
    | (at_builtin; have hsa := HBa.out.size; refine wpList_append_row rfl (.tmp 54) (.tmp 55) _ rfl w5.heap.size 5 i0 _ 1 Try.underlying23 HI0.out HZ0.out HZ1.out HZ2.out rfl va (0 + (n2 - 1)) _ rfl HOa.out (some ⟨gw, 0, none⟩) N cw w5.heap.size (U0.map (.int .u8)) rfl (by intro h; cases h) (by rw [List.length_map]; exact HUL0.out) ((own_row OW5.out).below HBa.out) (ONE.out _) ME3.out ME4.out hsa ?_; intro vb wb ownb gb_; have HOb := Lib.hid ownb; have HBb := Lib.hid (below_grown HBa.out HOa.out (Nat.le_refl _) hsa gb_); clear ownb gb_))
  have hob := HOb.out
  rw [EL.out, Nat.zero_add] at hob
  obtain ⟨Ab, cb2, rfl⟩ := own_slice hob
  have HRW := Lib.hid (HRC.out Ab cb2 wb (own_row hob))
  clear hob HOa HOb
  refine HRW.out.mono ?_
  rintro e w6 ⟨rfl, hb6⟩
  have HB6 := Lib.hid (bel_call HBb.out hb6)
  have OW6 := own_keep OW5.out HB6.out
  have HB46 := Lib.hid (bel_call HB5.out HB6.out)
  have gwl6 := (OW6.lt gw rfl).2
  have hcw6 : ∀ j, j < N → w6.cell? ⟨gw, j, none⟩ = (U0.map (Value.int .u8))[j]? := fun j hj => OW6.cellAt j (by omega)
  have hfw6 : ∀ j, w6.frozen? ⟨gw, j, none⟩ = false := fun j => OW6.frozenAt j
  have j6 : w6.cell? ⟨gw, 16, none⟩ = some (.int .u8 (U0.getD 16 0)) := by
    rw [hcw6 16 (by omega), List.getElem?_map, List.getElem?_eq_getElem (by rw [HUL0.out]; omega), List.getD_eq_getElem?_getD, List.getElem?_eq_getElem (by rw [HUL0.out]; omega)]; rfl
  have j7 : w6.cell? ⟨gw, 17, none⟩ = some (.int .u8 (U0.getD 17 0)) := by
    rw [hcw6 17 (by omega), List.getElem?_map, List.getElem?_eq_getElem (by rw [HUL0.out]; omega), List.getD_eq_getElem?_getD, List.getElem?_eq_getElem (by rw [HUL0.out]; omega)]; rfl
  have f6 := hfw6 16
  have f7 := hfw6 17
  have y6 : (16 : Int) < (N : Int) := by omega
  have y7 : (17 : Int) < (N : Int) := by omega
  have OWK := Lib.hid OW6
  have HSIX := Lib.hid (show Below w4.heap.size w4 w6 from HB46.out)
  clear OW6 hcw6 hfw6 hb6 HB6 HB46 BLA BLB HLIT HBa HBb HRW
  generalize U0.getD 16 0 = q6 at *
  generalize U0.getD 17 0 = q7 at *
  have OWZ := Lib.hid (own_stored (own_stored OWK.out 16 (.int .u8 ((65535 - fs) / 256))) 17 (.int .u8 ((65535 - fs) % 256)))
  have HBZ := Lib.hid ((HSIX.out.setCell (p := ⟨gw, 16, none⟩) hgw (.int .u8 ((65535 - fs) / 256))).setCell (p := ⟨gw, 17, none⟩) hgw (.int .u8 ((65535 - fs) % 256)))
  have hst : ((U0.map (Value.int .u8)).set 16 (.int .u8 ((65535 - fs) / 256))).set 17 (.int .u8 ((65535 - fs) % 256)) = U.map (Value.int .u8) := by
    rw [← HSET.out, List.map_set, List.map_set]
  rw [hst] at OWZ
  have BOX6 := Lib.hid (BOX4.out.below HBZ.out BOX4.out.lt)
  have OB6 := Lib.hid (own_keep OB4.out HBZ.out)
  have HB16 := Lib.hid (bel_call HB14.out HBZ.out)
  have R36 := Lib.hid ((R3.out.below HB16.out).more HB16.out.size)
  have HPX := Lib.hid (HPA.out gb cb ((w6.setCell ⟨gw, 16, none⟩ (.int .u8 ((65535 - fs) / 256))).setCell ⟨gw, 17, none⟩ (.int .u8 ((65535 - fs) % 256))) hncb hcb (OB6.out.lt gb rfl).2 (lies_own OB6.out HUL.out) R36.out)
  clear OWK HSIX HBZ hst OB4 BOX4
  go_wp2_with fail
  refine HPX.out.mono ?_
  rintro e w7 hpost
  obtain ⟨Ax, cx, vr, rfl, ownx, ownr, hb7⟩ := HP1.out _ _ _ hpost
  obtain ⟨Ar, cr, rfl⟩ := own_slice ownr
  have BX8 := Lib.hid (Blk.new w7 40 #[.int .i64 sp, .int .i64 dp, .int .u32 sq, .int .u32 ak, .int .i64 fl, .int .i64 wn, .int .i64 ur, .slice Ax no cx])
  have HB78 := Lib.hid (show Below ((w6.setCell ⟨gw, 16, none⟩ (.int .u8 ((65535 - fs) / 256))).setCell ⟨gw, 17, none⟩ (.int .u8 ((65535 - fs) % 256))).heap.size ((w6.setCell ⟨gw, 16, none⟩ (.int .u8 ((65535 - fs) / 256))).setCell ⟨gw, 17, none⟩ (.int .u8 ((65535 - fs) % 256))) (w7.alloc (.cells #[.int .i64 sp, .int .i64 dp, .int .u32 sq, .int .u32 ak, .int .i64 fl, .int .i64 wn, .int .i64 ur, .slice Ax no cx] 40)) from bel_alloc hb7 _)
  have BOX8 := Lib.hid (BOX6.out.below HB78.out BOX6.out.lt)
  have OX8 := Lib.hid (ownx.alloc (.cells #[.int .i64 sp, .int .i64 dp, .int .u32 sq, .int .u32 ak, .int .i64 fl, .int .i64 wn, .int .i64 ur, .slice Ax no cx] 40))
  have OR8 := Lib.hid (ownr.alloc (.cells #[.int .i64 sp, .int .i64 dp, .int .u32 sq, .int .u32 ak, .int .i64 fl, .int .i64 wn, .int .i64 ur, .slice Ax no cx] 40))
  have HB18 := Lib.hid (bel_call HB16.out HB78.out)
  have cv1 := conv_any (c := cb) (own_row (own_keep OB6.out HB78.out)) HUL.out
  have cv2 := conv_any (c := cw) (own_row (own_keep OWZ.out HB78.out)) HUL.out
  have HSA := Lib.hid (same_one (w7.alloc (.cells #[.int .i64 sp, .int .i64 dp, .int .u32 sq, .int .u32 ak, .int .i64 fl, .int .i64 wn, .int .i64 ur, .slice Ax no cx] 40)) sp dp sq ak fl wn ur Ax AO no cx co os LO.out (own_row OX8.out) ((RO.out.below HB18.out).more HB18.out.size))
  clear hpost ownx ownr hb7 HPX BOX6 OB6 HB16 R36 HB78 OWZ
  have d0 : (w7.alloc (.cells #[.int .i64 sp, .int .i64 dp, .int .u32 sq, .int .u32 ak, .int .i64 fl, .int .i64 wn, .int .i64 ur, .slice Ax no cx] 40)).cell? ⟨w7.heap.size, 0, none⟩ = some (.int .i64 sp) := BX8.out.cell 0
  have d1 : (w7.alloc (.cells #[.int .i64 sp, .int .i64 dp, .int .u32 sq, .int .u32 ak, .int .i64 fl, .int .i64 wn, .int .i64 ur, .slice Ax no cx] 40)).cell? ⟨w7.heap.size, 1, none⟩ = some (.int .i64 dp) := BX8.out.cell 1
  have d2 : (w7.alloc (.cells #[.int .i64 sp, .int .i64 dp, .int .u32 sq, .int .u32 ak, .int .i64 fl, .int .i64 wn, .int .i64 ur, .slice Ax no cx] 40)).cell? ⟨w7.heap.size, 2, none⟩ = some (.int .u32 sq) := BX8.out.cell 2
  have d3 : (w7.alloc (.cells #[.int .i64 sp, .int .i64 dp, .int .u32 sq, .int .u32 ak, .int .i64 fl, .int .i64 wn, .int .i64 ur, .slice Ax no cx] 40)).cell? ⟨w7.heap.size, 3, none⟩ = some (.int .u32 ak) := BX8.out.cell 3
  have d4 : (w7.alloc (.cells #[.int .i64 sp, .int .i64 dp, .int .u32 sq, .int .u32 ak, .int .i64 fl, .int .i64 wn, .int .i64 ur, .slice Ax no cx] 40)).cell? ⟨w7.heap.size, 4, none⟩ = some (.int .i64 fl) := BX8.out.cell 4
  have d5 : (w7.alloc (.cells #[.int .i64 sp, .int .i64 dp, .int .u32 sq, .int .u32 ak, .int .i64 fl, .int .i64 wn, .int .i64 ur, .slice Ax no cx] 40)).cell? ⟨w7.heap.size, 5, none⟩ = some (.int .i64 wn) := BX8.out.cell 5
  have d6 : (w7.alloc (.cells #[.int .i64 sp, .int .i64 dp, .int .u32 sq, .int .u32 ak, .int .i64 fl, .int .i64 wn, .int .i64 ur, .slice Ax no cx] 40)).cell? ⟨w7.heap.size, 6, none⟩ = some (.int .i64 ur) := BX8.out.cell 6
  have d7 : (w7.alloc (.cells #[.int .i64 sp, .int .i64 dp, .int .u32 sq, .int .u32 ak, .int .i64 fl, .int .i64 wn, .int .i64 ur, .slice Ax no cx] 40)).cell? ⟨w7.heap.size, 7, none⟩ = some (.slice Ax no cx) := BX8.out.cell 7
  have p0 : (w7.alloc (.cells #[.int .i64 sp, .int .i64 dp, .int .u32 sq, .int .u32 ak, .int .i64 fl, .int .i64 wn, .int .i64 ur, .slice Ax no cx] 40)).cell? ⟨w.heap.size, 0, none⟩ = some (.int .i64 sp) := BOX8.out.cell 0
  have p1 : (w7.alloc (.cells #[.int .i64 sp, .int .i64 dp, .int .u32 sq, .int .u32 ak, .int .i64 fl, .int .i64 wn, .int .i64 ur, .slice Ax no cx] 40)).cell? ⟨w.heap.size, 1, none⟩ = some (.int .i64 dp) := BOX8.out.cell 1
  have p2 : (w7.alloc (.cells #[.int .i64 sp, .int .i64 dp, .int .u32 sq, .int .u32 ak, .int .i64 fl, .int .i64 wn, .int .i64 ur, .slice Ax no cx] 40)).cell? ⟨w.heap.size, 2, none⟩ = some (.int .u32 sq) := BOX8.out.cell 2
  have p3 : (w7.alloc (.cells #[.int .i64 sp, .int .i64 dp, .int .u32 sq, .int .u32 ak, .int .i64 fl, .int .i64 wn, .int .i64 ur, .slice Ax no cx] 40)).cell? ⟨w.heap.size, 3, none⟩ = some (.int .u32 ak) := BOX8.out.cell 3
  have p4 : (w7.alloc (.cells #[.int .i64 sp, .int .i64 dp, .int .u32 sq, .int .u32 ak, .int .i64 fl, .int .i64 wn, .int .i64 ur, .slice Ax no cx] 40)).cell? ⟨w.heap.size, 4, none⟩ = some (.int .i64 fl) := BOX8.out.cell 4
  have p5 : (w7.alloc (.cells #[.int .i64 sp, .int .i64 dp, .int .u32 sq, .int .u32 ak, .int .i64 fl, .int .i64 wn, .int .i64 ur, .slice Ax no cx] 40)).cell? ⟨w.heap.size, 5, none⟩ = some (.int .i64 wn) := BOX8.out.cell 5
  have p6 : (w7.alloc (.cells #[.int .i64 sp, .int .i64 dp, .int .u32 sq, .int .u32 ak, .int .i64 fl, .int .i64 wn, .int .i64 ur, .slice Ax no cx] 40)).cell? ⟨w.heap.size, 6, none⟩ = some (.int .i64 ur) := BOX8.out.cell 6
  have p7 : (w7.alloc (.cells #[.int .i64 sp, .int .i64 dp, .int .u32 sq, .int .u32 ak, .int .i64 fl, .int .i64 wn, .int .i64 ur, .slice Ax no cx] 40)).cell? ⟨w.heap.size, 7, none⟩ = some (.slice AO no co) := BOX8.out.cell 7
  go_wp2_with fail
  refine HSA.out.mono ?_
  rintro e w9 ⟨rfl, hb9⟩
  have cv3 := conv_any (c := cr) (own_row (own_keep OR8.out hb9)) L1.out
  have cv4 := conv_any (c := c1) (R1.out.below (bel_call HB18.out hb9)) L1.out
  go_wp2_with fail
  refine (HAW.out _).mono ?_
  rintro e w10 ⟨rfl, hb10⟩
  go_wp2_with fail
  go_ret
  exact ⟨rfl, bel_call (bel_call HB18.out hb9) hb10⟩
end Go.Proofs.Ytjgeknkfinaimaa.tcpP
