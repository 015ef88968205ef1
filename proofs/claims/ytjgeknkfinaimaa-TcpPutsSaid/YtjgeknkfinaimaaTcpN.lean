/- Layer 10: the law on segments that are put: what its walk wants, and headers that may not be. -/
import Derived.Test.YtjgeknkfinaimaaTcpM
import Derived.Test.YtjgeknkfinaimaaTcpH
namespace Go.Proofs.Ytjgeknkfinaimaa.tcpN
open Go.ChangeShapes Go.WideShapes Go.ChangeAt Go.RowKit
open Go.Proofs.Ytjgeknkfinaimaa.base Go.Proofs.Ytjgeknkfinaimaa.sumA Go.Proofs.Ytjgeknkfinaimaa.sumB Go.Proofs.Ytjgeknkfinaimaa.octA Go.Proofs.Ytjgeknkfinaimaa.octB Go.Proofs.Ytjgeknkfinaimaa.octC Go.Proofs.Ytjgeknkfinaimaa.octE Go.Proofs.Ytjgeknkfinaimaa.octF Go.Proofs.Ytjgeknkfinaimaa.octK Go.Proofs.Ytjgeknkfinaimaa.rdrA Go.Proofs.Ytjgeknkfinaimaa.udpA Go.Proofs.Ytjgeknkfinaimaa.udpE Go.Proofs.Ytjgeknkfinaimaa.tcpC Go.Proofs.Ytjgeknkfinaimaa.tcpD Go.Proofs.Ytjgeknkfinaimaa.tcpE Go.Proofs.Ytjgeknkfinaimaa.tcpI Go.Proofs.Ytjgeknkfinaimaa.tcpJ Go.Proofs.Ytjgeknkfinaimaa.tcpF Go.Proofs.Ytjgeknkfinaimaa.tcpK Go.Proofs.Ytjgeknkfinaimaa.tcpL Go.Proofs.Ytjgeknkfinaimaa.tcpM
set_option linter.unusedVariables false

theorem lies_own {w : World} {base g n c : Nat} {l : List Int} (h : w.ownsRow base 5 1 (.slice (some ⟨g, 0, none⟩) n c) n (l.map (.int .u8))) (hl : l.length = n) : Lies w g 0 l := fun i hi => by
  rw [Nat.zero_add, h.cellAt i (by omega), List.getElem?_map, List.getElem?_eq_getElem hi, List.getD_eq_getElem?_getD, List.getElem?_eq_getElem hi]
  rfl
theorem tk_in (sp dp sq ak fl wn ur : Int) (ck : Int) (os pl : List Int) (h1 : 0 ≤ sp) (h2 : sp ≤ 65535) (h3 : 0 ≤ dp) (h4 : dp ≤ 65535) (h5 : 0 ≤ sq) (h6 : sq ≤ 4294967295) (h7 : 0 ≤ ak) (h8 : ak ≤ 4294967295) (h9 : 0 ≤ fl) (h10 : fl ≤ 255) (h11 : 0 ≤ wn) (h12 : wn ≤ 65535) (h13 : 0 ≤ ur) (h14 : ur ≤ 65535) (c0 : 0 ≤ ck) (c1 : ck ≤ 65535) (ho : os.length ≤ 40) (b1 : ∀ x ∈ os, 0 ≤ x ∧ x ≤ 255) (b2 : ∀ x ∈ pl, 0 ≤ x ∧ x ≤ 255) :
    ∀ x ∈ tk sp dp sq ak fl wn ur ck os pl, 0 ≤ x ∧ x ≤ 255 := by
  intro x hx
  unfold tk at hx
  rcases List.mem_append.1 hx with hx | hx
  · clear b1 b2
    simp only [List.mem_cons, List.not_mem_nil, or_false] at hx
    rcases hx with rfl | rfl | rfl | rfl | rfl | rfl | rfl | rfl | rfl | rfl | rfl | rfl | rfl | rfl | rfl | rfl | rfl | rfl | rfl | rfl <;> omega
  · exact (List.mem_append.1 hx).elim (b1 x) (b2 x)
theorem bytes_tk (sp dp sq ak fl wn ur : Int) (AO : Option Addr) (no co : Nat) (os : List Int) (A A2 : Option Addr) (n c n2 c2 : Nat) (pl ps : List Int) (w : World) (h1 : 0 ≤ sp) (h2 : sp ≤ 65535) (h3 : 0 ≤ dp) (h4 : dp ≤ 65535) (h9 : 0 ≤ fl) (h10 : fl ≤ 255) (h11 : 0 ≤ wn) (h12 : wn ≤ 65535) (h13 : 0 ≤ ur) (h14 : ur ≤ 65535) (ho : no ≤ 40) (hm : no % 4 = 0) (h5 : 0 ≤ sq) (h6 : sq ≤ 4294967295) (h7 : 0 ≤ ak) (h8 : ak ≤ 4294967295)
    (hol : os.length = no) (hor : Row w w.heap.size AO (os.map (.int .u8))) (hoz : AO = none → co = 0) (hox : ∀ x ∈ os, 0 ≤ x ∧ x ≤ 255)
    (hl : pl.length = n) (hn : n ≤ 500) (hr : Row w w.heap.size A (pl.map (.int .u8))) (hz : A = none → c = 0) (hx : ∀ x ∈ pl, 0 ≤ x ∧ x ≤ 255)
    (pll : ps.length = n2) (pn : n2 ≤ 1000) (pr : Row w w.heap.size A2 (ps.map (.int .u8))) (px : ∀ x ∈ ps, 0 ≤ x ∧ x ≤ 255) :
    Calls Try.prog 23 #[.agg #[.int .i64 sp, .int .i64 dp, .int .u32 sq, .int .u32 ak, .int .i64 fl, .int .i64 wn, .int .i64 ur, .slice AO no co], .slice A n c, .slice A2 n2 c2] w (fun e w' => ∃ v, e = .returned (.tuple #[v, .int .i64 0]) ∧ w'.ownsRow w.heap.size 5 1 v (20 + no + n) ((tk sp dp sq ak fl wn ur (65535 - fo (wsum (ps ++ tk sp dp sq ak fl wn ur 0 os pl))) os pl).map (.int .u8)) ∧ Below w.heap.size w w') := by
  have hin : ∀ x ∈ ps ++ tk sp dp sq ak fl wn ur 0 os pl, 0 ≤ x ∧ x ≤ 255 := fun x h => (List.mem_append.1 h).elim (px x) (tk_in sp dp sq ak fl wn ur 0 os pl h1 h2 h3 h4 h5 h6 h7 h8 h9 h10 h11 h12 h13 h14 (by omega) (by omega) (by omega) hox hx x)
  have fb := fo_bd _ (wsum_bd _ hin).1
  have e : tk sp dp sq ak fl wn ur 0 os [] ++ pl = tk sp dp sq ak fl wn ur 0 os pl := by simp [tk]
  have H := bytes_any sp dp sq ak fl wn ur AO no co os A A2 n c n2 c2 pl ps w h1 h2 h3 h4 h9 h10 h11 h12 h13 h14 ho hm h5 h6 h7 h8 hol hor hoz hox hl hn hr hz hx pll pn pr px
  rw [hd0_eq sp dp sq ak fl wn ur os h1 h2 h3 h4 h5 h6 h7 h8 h9 h10 h11 h12 h13 h14 (by omega), List.append_assoc, e, splice_tk sp dp sq ak fl wn ur _ os pl (by omega) (by omega)] at H
  have hlen := (tk_says sp dp sq ak fl wn ur (65535 - fo (wsum (ps ++ tk sp dp sq ak fl wn ur 0 os pl))) os pl (by rw [hol]; exact hm)).1
  rw [hol, hl] at hlen
  refine H.mono fun e w' h => ?_
  obtain ⟨v, a, b, c⟩ := h
  rw [hlen] at b
  exact ⟨v, a, b, c⟩
theorem parse_both (b off n c s n2 c2 : Nat) (A2 : Option Addr) (l ps : List Int) (w : World) (hl : l.length = n) (hn : 20 ≤ n) (hn2 : n ≤ 1000) (hnc : n ≤ c) (hc : c ≤ 9223372036854775807) (hb : b < w.heap.size) (hs : Lies w b off l) (hx : ∀ x ∈ l, 0 ≤ x ∧ x ≤ 255)
    (pl : ps.length = n2) (pn : n2 ≤ 1000) (pr : Row w w.heap.size A2 (ps.map (.int .u8))) (px : ∀ x ∈ ps, 0 ≤ x ∧ x ≤ 255)
    (h1 : 20 ≤ l.getD 12 0 / 16 * 4) (h2 : l.getD 12 0 / 16 * 4 ≤ n) (h3 : l.getD 12 0 % 16 = 0) (hS : fo (wsum (ps ++ l)) = 65535) (hsz : l.getD 12 0 / 16 * 4 = (s : Int)) :
    Calls Try.prog 18 #[.slice (some ⟨b, off, none⟩) n c, .slice A2 n2 c2] w (OkPost w l s) := by
  by_cases h : c = s
  · have e : n = s := by omega
    subst h
    subst e
    exact parse_ok_edge b off _ n2 c2 A2 l ps w hl hn hn2 hc hb hs hx pl pn pr px h1 h2 h3 hS hsz
  · exact parse_ok_far b off n c n2 c2 A2 l ps w hl hn hn2 hnc hc hb hs hx pl pn pr px h1 h2 h3 hS s hsz h
set_option maxRecDepth 100000 in
set_option maxHeartbeats 4000000 in
theorem wrong_even (v1 v2 : Value) (A1 : Option Addr) (n1 n2 c1 c2 : Nat) (l1 l3 os : List Int) (sp dp sq ak fl wn ur : Int) (AO : Option Addr) (no co : Nat) (w : World) (A2 : Option Addr) (h1 : l1.length = n1) (k1 : n1 ≤ 300) (k2 : n2 ≤ 300) (hn2 : n2 ≤ c2) (hc2 : c2 ≤ 9223372036854775807) (z1 : A1 = none → c1 = 0) (r1 : Row w w.heap.size A1 (l1.map (.int .u8))) (b1 : ∀ x ∈ l1, 0 ≤ x ∧ x ≤ 255) (b3 : ∀ x ∈ l3, 0 ≤ x ∧ x ≤ 255)
    (he : n2 % 2 = 0) (h3 : l3.length = n2) (r3 : Row w w.heap.size A2 (l3.map (.int .u8))) (z3 : A2 = none → c2 = 0)
    (hol : os.length = no) (hor : Row w w.heap.size AO (os.map (.int .u8))) (hoz : AO = none → co = 0) (hox : ∀ x ∈ os, 0 ≤ x ∧ x ≤ 255) (s5 : 0 ≤ sq) (s6 : sq ≤ 4294967295) (s7 : 0 ≤ ak) (s8 : ak ≤ 4294967295)
    (C1 : Hid (∀ w : World, Calls Try.prog 17 #[v1] w fun e w' => e = .returned (.slice A1 n1 c1) ∧ w = w'))
    (C2 : Hid (∀ w : World, Calls Try.prog 17 #[v2] w fun e w' => e = .returned (.slice A2 n2 c2) ∧ w = w'))
    (hp : ¬ okH sp dp wn ur fl no) :
    Calls Try.prog 7 #[.agg #[.int .i64 sp, .int .i64 dp, .int .u32 sq, .int .u32 ak, .int .i64 fl, .int .i64 wn, .int .i64 ur, .slice AO no co], v1, v2] w fun e w' => e = .returned (.bool true) ∧ Below w.heap.size w w' := by
  have t0 : (((n2 : Int) % 2) == 1) = false := eqF (by omega)
  have HBY := Lib.hid (bytes_wrong sp dp sq ak fl wn ur AO no co A1 A2 n1 c1 n2 c2 (w.alloc (.cells #[.int .i64 sp, .int .i64 dp, .int .u32 sq, .int .u32 ak, .int .i64 fl, .int .i64 wn, .int .i64 ur, .slice AO no co] 40)) hp)
  have HRT := Lib.hid (fun w => right_no sp dp sq ak fl wn ur AO no co w hp)
  have HLR := Lib.hid (fun w => lawright_no sp dp sq ak fl wn ur AO no co w hp)
  have HAW := Lib.hid Go.Proofs.Ytjgeknkfinaimaa.tcpB.awake_any
  have BOX0 := Lib.hid (Blk.new w 40 #[.int .i64 sp, .int .i64 dp, .int .u32 sq, .int .u32 ak, .int .i64 fl, .int .i64 wn, .int .i64 ur, .slice AO no co])
  have HB0 := Lib.hid (show Below w.heap.size w (w.alloc (.cells #[.int .i64 sp, .int .i64 dp, .int .u32 sq, .int .u32 ak, .int .i64 fl, .int .i64 wn, .int .i64 ur, .slice AO no co] 40)) from (Below.refl _ _).alloc (Nat.le_refl _) _)
  clear hp h1 r1 b1 b3 h3 r3 z1 he hc2 hn2 hol hor hoz hox
  clear z3
  go_enter Try.func7, Try.ntmps7
  go_wp2_with fail
  refine (C1.out _).mono ?_
  rintro e w' ⟨rfl, rfl⟩
  go_wp2_with fail
  refine (C2.out _).mono ?_
  rintro e w' ⟨rfl, rfl⟩
  go_wp2_with fail
  refine HBY.out.mono ?_
  rintro e w1 ⟨rfl, hb1⟩
  have HB1 := Lib.hid (bel_call HB0.out hb1)
  have BOX1 := Lib.hid (BOX0.out.below hb1 BOX0.out.lt)
  clear hb1
  go_wp2_with fail
  have HK := Lib.hid (show w1.drew.cell? ⟨w.heap.size, 0, none⟩ = some (.int .i64 sp) ∧ w1.drew.cell? ⟨w.heap.size, 1, none⟩ = some (.int .i64 dp) ∧ w1.drew.cell? ⟨w.heap.size, 2, none⟩ = some (.int .u32 sq) ∧ w1.drew.cell? ⟨w.heap.size, 3, none⟩ = some (.int .u32 ak) ∧ w1.drew.cell? ⟨w.heap.size, 4, none⟩ = some (.int .i64 fl) ∧ w1.drew.cell? ⟨w.heap.size, 5, none⟩ = some (.int .i64 wn) ∧ w1.drew.cell? ⟨w.heap.size, 6, none⟩ = some (.int .i64 ur) ∧ w1.drew.cell? ⟨w.heap.size, 7, none⟩ = some (.slice AO no co) from ⟨BOX1.out.cell 0, BOX1.out.cell 1, BOX1.out.cell 2, BOX1.out.cell 3, BOX1.out.cell 4, BOX1.out.cell 5, BOX1.out.cell 6, BOX1.out.cell 7⟩)
  go_region_held3 (fun w' => w'.cell? ⟨w.heap.size, 0, none⟩ = some (.int .i64 sp) ∧ w'.cell? ⟨w.heap.size, 1, none⟩ = some (.int .i64 dp) ∧ w'.cell? ⟨w.heap.size, 2, none⟩ = some (.int .u32 sq) ∧ w'.cell? ⟨w.heap.size, 3, none⟩ = some (.int .u32 ak) ∧ w'.cell? ⟨w.heap.size, 4, none⟩ = some (.int .i64 fl) ∧ w'.cell? ⟨w.heap.size, 5, none⟩ = some (.int .i64 wn) ∧ w'.cell? ⟨w.heap.size, 6, none⟩ = some (.int .i64 ur) ∧ w'.cell? ⟨w.heap.size, 7, none⟩ = some (.slice AO no co)) (first | assumption | exact HK3.out | exact HK2.out | exact HK.out) (first
    | (go_at_call 24; refine (HRT.out _).mono ?_; rintro e w2 ⟨rfl, hb2⟩; have HK2 := Lib.hid (keep8 HK.out hb2); have HB2 := Lib.hid hb2; clear hb2)
    | (go_at_call 22; refine (HLR.out _).mono ?_; rintro e w3 ⟨rfl, hb3⟩; have HK3 := Lib.hid (keep8 HK2.out hb3); have HB3 := Lib.hid (bel_call (bel_call (bel_drew (Below.refl _ w1)) HB2.out) hb3); clear hb3))
  have BOX3 := Lib.hid (BOX1.out.below HB3.out BOX1.out.lt)
  have m0 : w3.cell? ⟨w.heap.size, 0, none⟩ = some (.int .i64 sp) := BOX3.out.cell 0
  have m1 : w3.cell? ⟨w.heap.size, 1, none⟩ = some (.int .i64 dp) := BOX3.out.cell 1
  have m2 : w3.cell? ⟨w.heap.size, 2, none⟩ = some (.int .u32 sq) := BOX3.out.cell 2
  have m3 : w3.cell? ⟨w.heap.size, 3, none⟩ = some (.int .u32 ak) := BOX3.out.cell 3
  have m4 : w3.cell? ⟨w.heap.size, 4, none⟩ = some (.int .i64 fl) := BOX3.out.cell 4
  have m5 : w3.cell? ⟨w.heap.size, 5, none⟩ = some (.int .i64 wn) := BOX3.out.cell 5
  have m6 : w3.cell? ⟨w.heap.size, 6, none⟩ = some (.int .i64 ur) := BOX3.out.cell 6
  have m7 : w3.cell? ⟨w.heap.size, 7, none⟩ = some (.slice AO no co) := BOX3.out.cell 7
  go_wp2_with fail
  refine (HLR.out _).mono ?_
  rintro e w4 ⟨rfl, hb4⟩
  have HB4 := Lib.hid (bel_call HB3.out hb4)
  have BOX4 := Lib.hid (BOX3.out.below hb4 BOX3.out.lt)
  clear m0 m1 m2 m3 m4 m5 m6 m7 hb4 BOX3 HK HK2 HK3 HB2 HB3
  go_wp2_with fail
  refine (HAW.out _).mono ?_
  rintro e w5 ⟨rfl, hb5⟩
  go_wp2_with fail
  go_ret
  exact ⟨rfl, bel_call (bel_call HB1.out HB4.out) hb5⟩
set_option maxRecDepth 100000 in
set_option maxHeartbeats 4000000 in
theorem wrong_one (v1 v2 : Value) (A1 : Option Addr) (n1 n2 c1 c2 : Nat) (l1 l3 os : List Int) (sp dp sq ak fl wn ur : Int) (AO : Option Addr) (no co : Nat) (w : World) (b2 off2 : Nat) (h1 : l1.length = n1) (k1 : n1 ≤ 300) (k2 : n2 ≤ 300) (hn2 : n2 ≤ c2) (hc2 : c2 ≤ 9223372036854775807) (z1 : A1 = none → c1 = 0) (r1 : Row w w.heap.size A1 (l1.map (.int .u8))) (b1 : ∀ x ∈ l1, 0 ≤ x ∧ x ≤ 255) (b3 : ∀ x ∈ l3, 0 ≤ x ∧ x ≤ 255)
    (he : n2 % 2 = 1) (ho : c2 = 1) (h3 : l3.length = 0) (r3 : Row w w.heap.size (some ⟨b2, off2, none⟩) (l3.map (.int .u8)))
    (hol : os.length = no) (hor : Row w w.heap.size AO (os.map (.int .u8))) (hoz : AO = none → co = 0) (hox : ∀ x ∈ os, 0 ≤ x ∧ x ≤ 255) (s5 : 0 ≤ sq) (s6 : sq ≤ 4294967295) (s7 : 0 ≤ ak) (s8 : ak ≤ 4294967295)
    (C1 : Hid (∀ w : World, Calls Try.prog 17 #[v1] w fun e w' => e = .returned (.slice A1 n1 c1) ∧ w = w'))
    (C2 : Hid (∀ w : World, Calls Try.prog 17 #[v2] w fun e w' => e = .returned (.slice (some ⟨b2, off2, none⟩) n2 c2) ∧ w = w'))
    (hp : ¬ okH sp dp wn ur fl no) :
    Calls Try.prog 7 #[.agg #[.int .i64 sp, .int .i64 dp, .int .u32 sq, .int .u32 ak, .int .i64 fl, .int .i64 wn, .int .i64 ur, .slice AO no co], v1, v2] w fun e w' => e = .returned (.bool true) ∧ Below w.heap.size w w' := by
  have t0 : (((n2 : Int) % 2) == 1) = true := eqT (by omega)
  have y1 : 1 ≤ n2 := by omega
  have y2 : (1 : Int) ≤ (n2 : Int) := by omega
  obtain rfl : n2 = 1 := by omega
  subst ho
  have HBY := Lib.hid (bytes_wrong sp dp sq ak fl wn ur AO no co A1 (some ⟨b2, off2, none⟩) n1 c1 0 0 (w.alloc (.cells #[.int .i64 sp, .int .i64 dp, .int .u32 sq, .int .u32 ak, .int .i64 fl, .int .i64 wn, .int .i64 ur, .slice AO no co] 40)) hp)
  have HRT := Lib.hid (fun w => right_no sp dp sq ak fl wn ur AO no co w hp)
  have HLR := Lib.hid (fun w => lawright_no sp dp sq ak fl wn ur AO no co w hp)
  have HAW := Lib.hid Go.Proofs.Ytjgeknkfinaimaa.tcpB.awake_any
  have BOX0 := Lib.hid (Blk.new w 40 #[.int .i64 sp, .int .i64 dp, .int .u32 sq, .int .u32 ak, .int .i64 fl, .int .i64 wn, .int .i64 ur, .slice AO no co])
  have HB0 := Lib.hid (show Below w.heap.size w (w.alloc (.cells #[.int .i64 sp, .int .i64 dp, .int .u32 sq, .int .u32 ak, .int .i64 fl, .int .i64 wn, .int .i64 ur, .slice AO no co] 40)) from (Below.refl _ _).alloc (Nat.le_refl _) _)
  clear hp h1 r1 b1 b3 h3 r3 z1 he hc2 hn2 hol hor hoz hox
  go_enter Try.func7, Try.ntmps7
  go_wp2_with fail
  refine (C1.out _).mono ?_
  rintro e w' ⟨rfl, rfl⟩
  go_wp2_with fail
  refine (C2.out _).mono ?_
  rintro e w' ⟨rfl, rfl⟩
  go_wp2_with fail
  refine HBY.out.mono ?_
  rintro e w1 ⟨rfl, hb1⟩
  have HB1 := Lib.hid (bel_call HB0.out hb1)
  have BOX1 := Lib.hid (BOX0.out.below hb1 BOX0.out.lt)
  clear hb1
  go_wp2_with fail
  have HK := Lib.hid (show w1.drew.cell? ⟨w.heap.size, 0, none⟩ = some (.int .i64 sp) ∧ w1.drew.cell? ⟨w.heap.size, 1, none⟩ = some (.int .i64 dp) ∧ w1.drew.cell? ⟨w.heap.size, 2, none⟩ = some (.int .u32 sq) ∧ w1.drew.cell? ⟨w.heap.size, 3, none⟩ = some (.int .u32 ak) ∧ w1.drew.cell? ⟨w.heap.size, 4, none⟩ = some (.int .i64 fl) ∧ w1.drew.cell? ⟨w.heap.size, 5, none⟩ = some (.int .i64 wn) ∧ w1.drew.cell? ⟨w.heap.size, 6, none⟩ = some (.int .i64 ur) ∧ w1.drew.cell? ⟨w.heap.size, 7, none⟩ = some (.slice AO no co) from ⟨BOX1.out.cell 0, BOX1.out.cell 1, BOX1.out.cell 2, BOX1.out.cell 3, BOX1.out.cell 4, BOX1.out.cell 5, BOX1.out.cell 6, BOX1.out.cell 7⟩)
  go_region_held3 (fun w' => w'.cell? ⟨w.heap.size, 0, none⟩ = some (.int .i64 sp) ∧ w'.cell? ⟨w.heap.size, 1, none⟩ = some (.int .i64 dp) ∧ w'.cell? ⟨w.heap.size, 2, none⟩ = some (.int .u32 sq) ∧ w'.cell? ⟨w.heap.size, 3, none⟩ = some (.int .u32 ak) ∧ w'.cell? ⟨w.heap.size, 4, none⟩ = some (.int .i64 fl) ∧ w'.cell? ⟨w.heap.size, 5, none⟩ = some (.int .i64 wn) ∧ w'.cell? ⟨w.heap.size, 6, none⟩ = some (.int .i64 ur) ∧ w'.cell? ⟨w.heap.size, 7, none⟩ = some (.slice AO no co)) (first | assumption | exact HK3.out | exact HK2.out | exact HK.out) (first
    | (go_at_call 24; refine (HRT.out _).mono ?_; rintro e w2 ⟨rfl, hb2⟩; have HK2 := Lib.hid (keep8 HK.out hb2); have HB2 := Lib.hid hb2; clear hb2)
    | (go_at_call 22; refine (HLR.out _).mono ?_; rintro e w3 ⟨rfl, hb3⟩; have HK3 := Lib.hid (keep8 HK2.out hb3); have HB3 := Lib.hid (bel_call (bel_call (bel_drew (Below.refl _ w1)) HB2.out) hb3); clear hb3))
  have BOX3 := Lib.hid (BOX1.out.below HB3.out BOX1.out.lt)
  have m0 : w3.cell? ⟨w.heap.size, 0, none⟩ = some (.int .i64 sp) := BOX3.out.cell 0
  have m1 : w3.cell? ⟨w.heap.size, 1, none⟩ = some (.int .i64 dp) := BOX3.out.cell 1
  have m2 : w3.cell? ⟨w.heap.size, 2, none⟩ = some (.int .u32 sq) := BOX3.out.cell 2
  have m3 : w3.cell? ⟨w.heap.size, 3, none⟩ = some (.int .u32 ak) := BOX3.out.cell 3
  have m4 : w3.cell? ⟨w.heap.size, 4, none⟩ = some (.int .i64 fl) := BOX3.out.cell 4
  have m5 : w3.cell? ⟨w.heap.size, 5, none⟩ = some (.int .i64 wn) := BOX3.out.cell 5
  have m6 : w3.cell? ⟨w.heap.size, 6, none⟩ = some (.int .i64 ur) := BOX3.out.cell 6
  have m7 : w3.cell? ⟨w.heap.size, 7, none⟩ = some (.slice AO no co) := BOX3.out.cell 7
  go_wp2_with fail
  refine (HLR.out _).mono ?_
  rintro e w4 ⟨rfl, hb4⟩
  have HB4 := Lib.hid (bel_call HB3.out hb4)
  have BOX4 := Lib.hid (BOX3.out.below hb4 BOX3.out.lt)
  clear m0 m1 m2 m3 m4 m5 m6 m7 hb4 BOX3 HK HK2 HK3 HB2 HB3
  go_wp2_with fail
  refine (HAW.out _).mono ?_
  rintro e w5 ⟨rfl, hb5⟩
  go_wp2_with fail
  go_ret
  exact ⟨rfl, bel_call (bel_call HB1.out HB4.out) hb5⟩
set_option maxRecDepth 100000 in
set_option maxHeartbeats 4000000 in
theorem wrong_odd (v1 v2 : Value) (A1 : Option Addr) (n1 n2 c1 c2 : Nat) (l1 l3 os : List Int) (sp dp sq ak fl wn ur : Int) (AO : Option Addr) (no co : Nat) (w : World) (b2 off2 : Nat) (h1 : l1.length = n1) (k1 : n1 ≤ 300) (k2 : n2 ≤ 300) (hn2 : n2 ≤ c2) (hc2 : c2 ≤ 9223372036854775807) (z1 : A1 = none → c1 = 0) (r1 : Row w w.heap.size A1 (l1.map (.int .u8))) (b1 : ∀ x ∈ l1, 0 ≤ x ∧ x ≤ 255) (b3 : ∀ x ∈ l3, 0 ≤ x ∧ x ≤ 255)
    (he : n2 % 2 = 1) (ho : ¬ c2 = 1) (h3 : l3.length = n2 - 1) (r3 : Row w w.heap.size (some ⟨b2, off2 + 1, none⟩) (l3.map (.int .u8)))
    (hol : os.length = no) (hor : Row w w.heap.size AO (os.map (.int .u8))) (hoz : AO = none → co = 0) (hox : ∀ x ∈ os, 0 ≤ x ∧ x ≤ 255) (s5 : 0 ≤ sq) (s6 : sq ≤ 4294967295) (s7 : 0 ≤ ak) (s8 : ak ≤ 4294967295)
    (C1 : Hid (∀ w : World, Calls Try.prog 17 #[v1] w fun e w' => e = .returned (.slice A1 n1 c1) ∧ w = w'))
    (C2 : Hid (∀ w : World, Calls Try.prog 17 #[v2] w fun e w' => e = .returned (.slice (some ⟨b2, off2, none⟩) n2 c2) ∧ w = w'))
    (hp : ¬ okH sp dp wn ur fl no) :
    Calls Try.prog 7 #[.agg #[.int .i64 sp, .int .i64 dp, .int .u32 sq, .int .u32 ak, .int .i64 fl, .int .i64 wn, .int .i64 ur, .slice AO no co], v1, v2] w fun e w' => e = .returned (.bool true) ∧ Below w.heap.size w w' := by
  have t0 : (((n2 : Int) % 2) == 1) = true := eqT (by omega)
  have y1 : 1 ≤ n2 := by omega
  have y2 : (1 : Int) ≤ (n2 : Int) := by omega
  have HBY := Lib.hid (bytes_wrong sp dp sq ak fl wn ur AO no co A1 (some ⟨b2, off2 + 1, none⟩) n1 c1 (n2 - 1) (c2 - 1) (w.alloc (.cells #[.int .i64 sp, .int .i64 dp, .int .u32 sq, .int .u32 ak, .int .i64 fl, .int .i64 wn, .int .i64 ur, .slice AO no co] 40)) hp)
  have HRT := Lib.hid (fun w => right_no sp dp sq ak fl wn ur AO no co w hp)
  have HLR := Lib.hid (fun w => lawright_no sp dp sq ak fl wn ur AO no co w hp)
  have HAW := Lib.hid Go.Proofs.Ytjgeknkfinaimaa.tcpB.awake_any
  have BOX0 := Lib.hid (Blk.new w 40 #[.int .i64 sp, .int .i64 dp, .int .u32 sq, .int .u32 ak, .int .i64 fl, .int .i64 wn, .int .i64 ur, .slice AO no co])
  have HB0 := Lib.hid (show Below w.heap.size w (w.alloc (.cells #[.int .i64 sp, .int .i64 dp, .int .u32 sq, .int .u32 ak, .int .i64 fl, .int .i64 wn, .int .i64 ur, .slice AO no co] 40)) from (Below.refl _ _).alloc (Nat.le_refl _) _)
  clear hp h1 r1 b1 b3 h3 r3 z1 he hc2 hn2 hol hor hoz hox
  go_enter Try.func7, Try.ntmps7
  go_wp2_with fail
  refine (C1.out _).mono ?_
  rintro e w' ⟨rfl, rfl⟩
  go_wp2_with fail
  refine (C2.out _).mono ?_
  rintro e w' ⟨rfl, rfl⟩
  go_wp2_with fail
  refine HBY.out.mono ?_
  rintro e w1 ⟨rfl, hb1⟩
  have HB1 := Lib.hid (bel_call HB0.out hb1)
  have BOX1 := Lib.hid (BOX0.out.below hb1 BOX0.out.lt)
  clear hb1
  go_wp2_with fail
  have HK := Lib.hid (show w1.drew.cell? ⟨w.heap.size, 0, none⟩ = some (.int .i64 sp) ∧ w1.drew.cell? ⟨w.heap.size, 1, none⟩ = some (.int .i64 dp) ∧ w1.drew.cell? ⟨w.heap.size, 2, none⟩ = some (.int .u32 sq) ∧ w1.drew.cell? ⟨w.heap.size, 3, none⟩ = some (.int .u32 ak) ∧ w1.drew.cell? ⟨w.heap.size, 4, none⟩ = some (.int .i64 fl) ∧ w1.drew.cell? ⟨w.heap.size, 5, none⟩ = some (.int .i64 wn) ∧ w1.drew.cell? ⟨w.heap.size, 6, none⟩ = some (.int .i64 ur) ∧ w1.drew.cell? ⟨w.heap.size, 7, none⟩ = some (.slice AO no co) from ⟨BOX1.out.cell 0, BOX1.out.cell 1, BOX1.out.cell 2, BOX1.out.cell 3, BOX1.out.cell 4, BOX1.out.cell 5, BOX1.out.cell 6, BOX1.out.cell 7⟩)
  go_region_held3 (fun w' => w'.cell? ⟨w.heap.size, 0, none⟩ = some (.int .i64 sp) ∧ w'.cell? ⟨w.heap.size, 1, none⟩ = some (.int .i64 dp) ∧ w'.cell? ⟨w.heap.size, 2, none⟩ = some (.int .u32 sq) ∧ w'.cell? ⟨w.heap.size, 3, none⟩ = some (.int .u32 ak) ∧ w'.cell? ⟨w.heap.size, 4, none⟩ = some (.int .i64 fl) ∧ w'.cell? ⟨w.heap.size, 5, none⟩ = some (.int .i64 wn) ∧ w'.cell? ⟨w.heap.size, 6, none⟩ = some (.int .i64 ur) ∧ w'.cell? ⟨w.heap.size, 7, none⟩ = some (.slice AO no co)) (first | assumption | exact HK3.out | exact HK2.out | exact HK.out) (first
    | (go_at_call 24; refine (HRT.out _).mono ?_; rintro e w2 ⟨rfl, hb2⟩; have HK2 := Lib.hid (keep8 HK.out hb2); have HB2 := Lib.hid hb2; clear hb2)
    | (go_at_call 22; refine (HLR.out _).mono ?_; rintro e w3 ⟨rfl, hb3⟩; have HK3 := Lib.hid (keep8 HK2.out hb3); have HB3 := Lib.hid (bel_call (bel_call (bel_drew (Below.refl _ w1)) HB2.out) hb3); clear hb3))
  have BOX3 := Lib.hid (BOX1.out.below HB3.out BOX1.out.lt)
  have m0 : w3.cell? ⟨w.heap.size, 0, none⟩ = some (.int .i64 sp) := BOX3.out.cell 0
  have m1 : w3.cell? ⟨w.heap.size, 1, none⟩ = some (.int .i64 dp) := BOX3.out.cell 1
  have m2 : w3.cell? ⟨w.heap.size, 2, none⟩ = some (.int .u32 sq) := BOX3.out.cell 2
  have m3 : w3.cell? ⟨w.heap.size, 3, none⟩ = some (.int .u32 ak) := BOX3.out.cell 3
  have m4 : w3.cell? ⟨w.heap.size, 4, none⟩ = some (.int .i64 fl) := BOX3.out.cell 4
  have m5 : w3.cell? ⟨w.heap.size, 5, none⟩ = some (.int .i64 wn) := BOX3.out.cell 5
  have m6 : w3.cell? ⟨w.heap.size, 6, none⟩ = some (.int .i64 ur) := BOX3.out.cell 6
  have m7 : w3.cell? ⟨w.heap.size, 7, none⟩ = some (.slice AO no co) := BOX3.out.cell 7
  go_wp2_with fail
  refine (HLR.out _).mono ?_
  rintro e w4 ⟨rfl, hb4⟩
  have HB4 := Lib.hid (bel_call HB3.out hb4)
  have BOX4 := Lib.hid (BOX3.out.below hb4 BOX3.out.lt)
  clear m0 m1 m2 m3 m4 m5 m6 m7 hb4 BOX3 HK HK2 HK3 HB2 HB3
  go_wp2_with fail
  refine (HAW.out _).mono ?_
  rintro e w5 ⟨rfl, hb5⟩
  go_wp2_with fail
  go_ret
  exact ⟨rfl, bel_call (bel_call HB1.out HB4.out) hb5⟩
end Go.Proofs.Ytjgeknkfinaimaa.tcpN
