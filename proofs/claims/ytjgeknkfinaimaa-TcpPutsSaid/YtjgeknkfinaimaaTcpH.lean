/- Layer 10: the law on segments that are parsed, walked where they are right. -/
import Derived.Test.YtjgeknkfinaimaaTcpG
namespace Go.Proofs.Ytjgeknkfinaimaa.tcpH
open Go.ChangeShapes Go.WideShapes Go.ChangeAt Go.RowKit
open Go.Proofs.Ytjgeknkfinaimaa.base Go.Proofs.Ytjgeknkfinaimaa.sumA Go.Proofs.Ytjgeknkfinaimaa.sumB Go.Proofs.Ytjgeknkfinaimaa.octA Go.Proofs.Ytjgeknkfinaimaa.octB Go.Proofs.Ytjgeknkfinaimaa.octC Go.Proofs.Ytjgeknkfinaimaa.octE Go.Proofs.Ytjgeknkfinaimaa.octF Go.Proofs.Ytjgeknkfinaimaa.rdrA Go.Proofs.Ytjgeknkfinaimaa.udpA Go.Proofs.Ytjgeknkfinaimaa.udpE Go.Proofs.Ytjgeknkfinaimaa.tcpC Go.Proofs.Ytjgeknkfinaimaa.tcpD Go.Proofs.Ytjgeknkfinaimaa.tcpE Go.Proofs.Ytjgeknkfinaimaa.tcpF Go.Proofs.Ytjgeknkfinaimaa.tcpG
set_option linter.unusedVariables false

set_option maxRecDepth 100000 in
set_option maxHeartbeats 8000000 in
theorem parses_ok (v1 v2 : Value) (b off : Nat) (A2 : Option Addr) (n1 n2 c1 c2 : Nat) (l1 l2 : List Int) (w : World) (h1 : l1.length = n1) (h2 : l2.length = n2) (k8 : 20 ≤ n1) (k1 : n1 ≤ 300) (k2 : n2 ≤ 300) (hnc : n1 ≤ c1) (hc : c1 ≤ 9223372036854775807) (hb : b < w.heap.size) (hs : Lies w b off l1) (z2 : A2 = none → c2 = 0) (r2 : Row w w.heap.size A2 (l2.map (.int .u8))) (b1 : ∀ x ∈ l1, 0 ≤ x ∧ x ≤ 255) (b2 : ∀ x ∈ l2, 0 ≤ x ∧ x ≤ 255)
    (C1 : Hid (∀ w : World, Calls Try.prog 17 #[v1] w fun e w' => e = .returned (.slice (some ⟨b, off, none⟩) n1 c1) ∧ w = w'))
    (C2 : Hid (∀ w : World, Calls Try.prog 17 #[v2] w fun e w' => e = .returned (.slice A2 n2 c2) ∧ w = w'))
    (h3 : 20 ≤ l1.getD 12 0 / 16 * 4) (h4 : l1.getD 12 0 / 16 * 4 ≤ n1) (h5 : l1.getD 12 0 % 16 = 0) (hS : fo (wsum (l2 ++ l1)) = 65535) (s : Nat) (hsz : l1.getD 12 0 / 16 * 4 = (s : Int)) :
    Calls Try.prog 6 #[v1, v2] w fun e w' => e = .returned (.bool true) ∧ Below w.heap.size w w' := by
  have s20 : 20 ≤ s := by omega
  have sn : s ≤ n1 := by omega
  have s60 : s ≤ 60 := by have := getD_in l1 b1 12; omega
  have HP := Lib.hid (show Calls Try.prog 18 #[.slice (some ⟨b, off, none⟩) n1 c1, .slice A2 n2 c2] w (OkPost w l1 s) from by
    by_cases hcs : c1 = s
    · obtain rfl : n1 = s := by omega
      obtain rfl : c1 = n1 := hcs
      exact parse_ok_edge b off c1 n2 c2 A2 l1 l2 w h1 k8 (by omega) hc hb hs b1 h2 (by omega) r2 b2 h3 h4 h5 hS hsz
    · exact parse_ok_far b off n1 c1 n2 c2 A2 l1 l2 w h1 k8 (by omega) hnc hc hb hs b1 h2 (by omega) r2 b2 h3 h4 h5 hS s hsz hcs)
  have HPB := Lib.hid (show ∀ e w', OkPost w l1 s e w' → ∃ A c v, e = .returned (.tuple #[.agg #[.int .i64 (w16 l1 0), .int .i64 (w16 l1 2), .int .u32 (w32 l1 4), .int .u32 (w32 l1 8), .int .i64 (l1.getD 13 0), .int .i64 (w16 l1 14), .int .i64 (w16 l1 18), .slice A (s - 20) c], v, .int .i64 0]) ∧ (A = none → c = 0) ∧ w'.ownsRow w.heap.size 5 1 (.slice A (s - 20) c) (s - 20) (((l1.take s).drop 20).map (.int .u8)) ∧ w'.ownsRow w.heap.size 5 1 v (n1 - s) ((l1.drop s).map (.int .u8)) ∧ Below w.heap.size w w' from fun e w' h => by
    unfold OkPost at h
    rwa [h1] at h)
  have HAW := Lib.hid Go.Proofs.Ytjgeknkfinaimaa.tcpB.awake_any
  have HS := Lib.hid hs
  have R2 := Lib.hid r2
  have L1 := Lib.hid h1
  have L2 := Lib.hid h2
  have B1 := Lib.hid b1
  have B2 := Lib.hid b2
  have Z2 := Lib.hid z2
  have x12 := getD_in l1 b1 12
  have HC4 := Lib.hid (show ∀ i, i < n1 → ∀ W : World, Below w.heap.size w W → W.cell? ⟨b, off + i, none⟩ = some (.int .u8 (l1.getD i 0)) from fun i hi W hW => (hs.below hW hb) i (by rw [h1]; exact hi))
  have HQ := Lib.hid (HC4.out 12 (by omega))
  have t1 : decide (l1.getD 12 0 / 16 < 5) = false := decide_eq_false (by omega)
  have t2 : decide ((n1 : Int) < l1.getD 12 0 / 16 * 4) = false := decide_eq_false (by omega)
  have t3 : (l1.getD 12 0 % 16 != 0) = false := bneF h5
  have TS := Lib.hid (show (fo (wsum (l2 ++ l1)) != 65535) = false from bneF hS)
  have HFB := fo_bd (wsum (l2 ++ l1)) (wsum_bd _ (fun x hx => (List.mem_append.1 hx).elim (b2 x) (b1 x))).1
  have HREF := Lib.hid (fun (A : Option Addr) (c : Nat) (W : World) hr => Go.Proofs.Ytjgeknkfinaimaa.sumH.refOf_any A (n2 + n1) c (l2 ++ l1) W (by rw [List.length_append, h1, h2]) (by omega) hr (fun x hx => (List.mem_append.1 hx).elim (b2 x) (b1 x)))
  obtain ⟨i0, hi0, hz0, hz1, hz2⟩ := info_parts info_u8
  have HI0 := Lib.hid hi0
  have HZ0 := Lib.hid hz0
  have HZ1 := Lib.hid hz1
  have HZ2 := Lib.hid hz2
  have ONE := Lib.hid (show ∀ l : List Int, ∀ u ∈ l.map (Value.int .u8), u.oneCell' = true from by
    intro l u hu
    rw [List.mem_map] at hu
    obtain ⟨x, _, rfl⟩ := hu
    rfl)
  have ME1 := Lib.hid (show 0 + n2 ≤ maxLen by unfold maxLen; omega)
  have ME2 := Lib.hid (show (0 + n2) * 1 ≤ 140737488355328 by omega)
  have ME3 := Lib.hid (show 0 + n2 + n1 ≤ maxLen by unfold maxLen; omega)
  have ME4 := Lib.hid (show (0 + n2 + n1) * 1 ≤ 140737488355328 by omega)
  have EL := Lib.hid (show [] ++ l2.map (Value.int .u8) ++ l1.map (Value.int .u8) = (l2 ++ l1).map (Value.int .u8) by simp)
  clear hi0 hz0 hz1 hz2
  have K0 := w16_in l1 b1 0
  have K2 := w16_in l1 b1 2
  have K4 := w32_in l1 b1 4
  have K8 := w32_in l1 b1 8
  have K13 := getD_in l1 b1 13
  have K14 := w16_in l1 b1 14
  have K18 := w16_in l1 b1 18
  have HUB := Lib.hid (fun i hi h6 h7 => Go.Proofs.Ytjgeknkfinaimaa.tcpF.getD_tb l1 s s20 (by rw [h1]; exact sn) b1 hsz h5 i hi h6 h7)
  have HUL := Lib.hid (show (tb (w16 l1 0) (w16 l1 2) (w32 l1 4) (w32 l1 8) (l1.getD 13 0) (w16 l1 14) (w16 l1 18) ((l1.take s).drop 20) (l1.drop s)).length = n1 by rw [Go.Proofs.Ytjgeknkfinaimaa.tcpF.tb_len l1 s s20 (by rw [h1]; exact sn), h1])
  have HLB := Lib.hid (fun (AO : Option Addr) (co : Nat) (A : Option Addr) (c : Nat) (W : World) hor hoz hr hz => lawbytes_any (w16 l1 0) (w16 l1 2) (w32 l1 4) (w32 l1 8) (l1.getD 13 0) (w16 l1 14) (w16 l1 18) AO (s - 20) co ((l1.take s).drop 20) A (n1 - s) c (l1.drop s) W K0.1 K0.2 K2.1 K2.2 K4.1 K4.2 K8.1 K8.2 K13.1 K13.2 K14.1 K14.2 K18.1 K18.2 (by rw [List.length_drop, List.length_take]; omega) (by omega) hor hoz (by rw [List.length_drop, h1]) (by omega) hr hz)
  have HRI := Lib.hid (fun (AO : Option Addr) (co : Nat) (W : World) => Go.Proofs.Ytjgeknkfinaimaa.tcpF.lawright_yes (w16 l1 0) (w16 l1 2) (w32 l1 4) (w32 l1 8) (l1.getD 13 0) (w16 l1 14) (w16 l1 18) AO (s - 20) co W K0.1 K0.2 K2.1 K2.2 K13.1 K13.2 K14.1 K14.2 K18.1 K18.2 (by omega) (by omega))
  clear hs r2 h1 h2 b1 b2 z2 h3 h4 h5 hS hsz K0 K2 K4 K8 K13 K14 K18
  have tsv : (fo (wsum (l2 ++ l1)) != 65535) = false := TS.out
  generalize fo (wsum (l2 ++ l1)) = sv at *
  clear HFB TS
  generalize w16 l1 0 = a0 at *
  generalize w16 l1 2 = a2 at *
  generalize w32 l1 4 = a4 at *
  generalize w32 l1 8 = a8 at *
  generalize l1.getD 13 0 = a13 at *
  generalize w16 l1 14 = a14 at *
  generalize w16 l1 18 = a18 at *
  generalize tb a0 a2 a4 a8 a13 a14 a18 ((l1.take s).drop 20) (l1.drop s) = U at *
  generalize l1.getD 12 0 = y at *
  obtain ⟨z0, z1⟩ := x12
  go_enter Try.func6, Try.ntmps6
  go_wp2_with fail
  refine (C1.out _).mono ?_
  rintro e w' ⟨rfl, rfl⟩
  go_wp2_with fail
  refine (C2.out _).mono ?_
  rintro e w' ⟨rfl, rfl⟩
  go_wp2_with fail
  refine HP.out.mono ?_
  rintro e w1 hpost
  obtain ⟨AO, co, v, rfl, hnn, hown1, hown2, hbel⟩ := HPB.out _ _ hpost
  obtain ⟨A7, c7, rfl⟩ := own_slice hown2
  have HN1 := Lib.hid hnn
  have HN7 := Lib.hid (own_none hown2)
  have HO1 := Lib.hid (hown1.alloc (.cells #[.int .i64 a0, .int .i64 a2, .int .u32 a4, .int .u32 a8, .int .i64 a13, .int .i64 a14, .int .i64 a18, .slice AO (s - 20) co] 40))
  have HO7 := Lib.hid (hown2.alloc (.cells #[.int .i64 a0, .int .i64 a2, .int .u32 a4, .int .u32 a8, .int .i64 a13, .int .i64 a14, .int .i64 a18, .slice AO (s - 20) co] 40))
  have HW := Lib.hid (bel_alloc hbel (.cells #[.int .i64 a0, .int .i64 a2, .int .u32 a4, .int .u32 a8, .int .i64 a13, .int .i64 a14, .int .i64 a18, .slice AO (s - 20) co] 40))
  have HRB := Lib.hid (Blk.new w1 40 #[.int .i64 a0, .int .i64 a2, .int .u32 a4, .int .u32 a8, .int .i64 a13, .int .i64 a14, .int .i64 a18, .slice AO (s - 20) co])
  have q12 : (w1.alloc (.cells #[.int .i64 a0, .int .i64 a2, .int .u32 a4, .int .u32 a8, .int .i64 a13, .int .i64 a14, .int .i64 a18, .slice AO (s - 20) co] 40)).cell? ⟨b, off + 12, none⟩ = some (.int .u8 y) := HQ.out _ HW.out
  have y12 : (12 : Int) < (n1 : Int) := by omega
  have hk0 : w1.heap.size < (w1.alloc (.cells #[.int .i64 a0, .int .i64 a2, .int .u32 a4, .int .u32 a8, .int .i64 a13, .int .i64 a14, .int .i64 a18, .slice AO (s - 20) co] 40)).heap.size := by simp
  clear hpost hnn hown1 hown2 hbel
  have HXA := Lib.hid (HW.out.alloc HW.out.size (.cells #[] 5))
  have HSZ := Lib.hid (show (w1.alloc (.cells #[.int .i64 a0, .int .i64 a2, .int .u32 a4, .int .u32 a8, .int .i64 a13, .int .i64 a14, .int .i64 a18, .slice AO (s - 20) co] 40)).heap.size = w1.heap.size + 1 by simp)
  have HWS := Lib.hid (show w.heap.size ≤ w1.heap.size + 1 by rw [← HSZ.out]; exact HW.out.size)
  have HXB := Lib.hid ((Below.refl (w1.heap.size + 1) (w1.alloc (.cells #[.int .i64 a0, .int .i64 a2, .int .u32 a4, .int .u32 a8, .int .i64 a13, .int .i64 a14, .int .i64 a18, .slice AO (s - 20) co] 40))).alloc (Nat.le_of_eq HSZ.out.symm) (.cells #[] 5))
  have hlit := World.ownsRow_lit (base := (w1.alloc (.cells #[.int .i64 a0, .int .i64 a2, .int .u32 a4, .int .u32 a8, .int .i64 a13, .int .i64 a14, .int .i64 a18, .slice AO (s - 20) co] 40)).heap.size) (e := 5) (size := 1) (w1.alloc (.cells #[.int .i64 a0, .int .i64 a2, .int .u32 a4, .int .u32 a8, .int .i64 a13, .int .i64 a14, .int .i64 a18, .slice AO (s - 20) co] 40)) #[] 0 (Nat.le_refl _) (Nat.zero_le _) rfl
  rw [HSZ.out] at hlit
  have HLIT := Lib.hid hlit
  clear hlit
  go_wp2_with (first
    | (at_builtin; refine wpList_append_row rfl (.tmp 48) (.tmp 49) _ rfl (w1.heap.size + 1) 5 i0 _ 1 Try.underlying23 HI0.out HZ0.out HZ1.out HZ2.out rfl (.slice (some ⟨w1.heap.size + 1, 0, none⟩) 0 0) 0 [] rfl HLIT.out A2 n2 c2 w.heap.size (l2.map (.int .u8)) rfl Z2.out (by rw [List.length_map]; exact L2.out) (R2.out.below HXA.out) (ONE.out _) ME1.out ME2.out (by simp) ?_; intro va wa owna ga; have HOa := Lib.hid owna; have HBa := Lib.hid (below_grown HXB.out HLIT.out (Nat.le_refl _) (by simp) ga); clear owna ga)
    | (at_builtin; have hsa := Nat.le_trans (Nat.le_of_eq HSZ.out.symm) HBa.out.size; refine wpList_append_row rfl (.tmp 50) (.tmp 51) _ rfl (w1.heap.size + 1) 5 i0 _ 1 Try.underlying23 HI0.out HZ0.out HZ1.out HZ2.out rfl va (0 + n2) _ rfl HOa.out (some ⟨b, off, none⟩) n1 c1 w.heap.size (l1.map (.int .u8)) rfl (by intro h; cases h) (by rw [List.length_map]; exact L1.out) ((HS.out.row hb).below (HW.out.trans (HBa.out.mono HWS.out))) (ONE.out _) ME3.out ME4.out hsa ?_; intro vb wb ownb gb; have HOb := Lib.hid ownb; have HBb := Lib.hid (below_grown HBa.out HOa.out (Nat.le_refl _) hsa gb); clear ownb gb))
  have hob := HOb.out
  rw [EL.out, Nat.zero_add] at hob
  obtain ⟨Ab, cb, rfl⟩ := own_slice hob
  have HRW := Lib.hid (HREF.out Ab cb wb (own_row hob))
  clear hob HOa HOb
  refine HRW.out.mono ?_
  rintro e w5 ⟨rfl, hb5⟩
  have hbV : Below (w1.alloc (.cells #[.int .i64 a0, .int .i64 a2, .int .u32 a4, .int .u32 a8, .int .i64 a13, .int .i64 a14, .int .i64 a18, .slice AO (s - 20) co] 40)).heap.size (w1.alloc (.cells #[.int .i64 a0, .int .i64 a2, .int .u32 a4, .int .u32 a8, .int .i64 a13, .int .i64 a14, .int .i64 a18, .slice AO (s - 20) co] 40)) w5 := bel_call (show Below (w1.alloc (.cells #[.int .i64 a0, .int .i64 a2, .int .u32 a4, .int .u32 a8, .int .i64 a13, .int .i64 a14, .int .i64 a18, .slice AO (s - 20) co] 40)).heap.size (w1.alloc (.cells #[.int .i64 a0, .int .i64 a2, .int .u32 a4, .int .u32 a8, .int .i64 a13, .int .i64 a14, .int .i64 a18, .slice AO (s - 20) co] 40)) wb by rw [HSZ.out]; exact HBb.out) hb5
  have HB5 := Lib.hid (HW.out.trans (hbV.mono HW.out.size))
  have HR5 := Lib.hid (HRB.out.below hbV hk0)
  have HX1 := Lib.hid (own_keep HO1.out hbV)
  have HX7 := Lib.hid (own_keep HO7.out hbV)
  clear HRB HO1 HO7 hbV hb5 q12 HRW HBa HBb HXA HXB HLIT
  have r0 : w5.cell? ⟨w1.heap.size, 0, none⟩ = some (.int .i64 a0) := HR5.out.cell 0
  have r1 : w5.cell? ⟨w1.heap.size, 1, none⟩ = some (.int .i64 a2) := HR5.out.cell 1
  have r2 : w5.cell? ⟨w1.heap.size, 2, none⟩ = some (.int .u32 a4) := HR5.out.cell 2
  have r3 : w5.cell? ⟨w1.heap.size, 3, none⟩ = some (.int .u32 a8) := HR5.out.cell 3
  have r4 : w5.cell? ⟨w1.heap.size, 4, none⟩ = some (.int .i64 a13) := HR5.out.cell 4
  have r5 : w5.cell? ⟨w1.heap.size, 5, none⟩ = some (.int .i64 a14) := HR5.out.cell 5
  have r6 : w5.cell? ⟨w1.heap.size, 6, none⟩ = some (.int .i64 a18) := HR5.out.cell 6
  have r7 : w5.cell? ⟨w1.heap.size, 7, none⟩ = some (.slice AO (s - 20) co) := HR5.out.cell 7
  have HLX := Lib.hid (HLB.out AO co A7 c7 w5 (own_row HX1.out) HN1.out (own_row HX7.out) HN7.out)
  go_wp2_with fail
  refine HLX.out.mono ?_
  rintro e w6 ⟨v6, rfl, hown6, hbel6⟩
  rw [HUL.out] at hown6
  obtain ⟨g6, c6, rfl, _, hg62, _, _, hcell6, _⟩ := own_form hown6 (by omega)
  have HB6 := Lib.hid (bel_call HB5.out hbel6)
  have HR6 := Lib.hid (HR5.out.below hbel6 HR5.out.lt)
  have HCELL := Lib.hid hcell6
  clear hown6 hbel6 hcell6 HR5 HLX HX1 HX7 HB5 r0 r1 r2 r3 r4 r5 r6 r7
  have r0 : w6.cell? ⟨w1.heap.size, 0, none⟩ = some (.int .i64 a0) := HR6.out.cell 0
  have r1 : w6.cell? ⟨w1.heap.size, 1, none⟩ = some (.int .i64 a2) := HR6.out.cell 1
  have r2 : w6.cell? ⟨w1.heap.size, 2, none⟩ = some (.int .u32 a4) := HR6.out.cell 2
  have r3 : w6.cell? ⟨w1.heap.size, 3, none⟩ = some (.int .u32 a8) := HR6.out.cell 3
  have r4 : w6.cell? ⟨w1.heap.size, 4, none⟩ = some (.int .i64 a13) := HR6.out.cell 4
  have r5 : w6.cell? ⟨w1.heap.size, 5, none⟩ = some (.int .i64 a14) := HR6.out.cell 5
  have r6 : w6.cell? ⟨w1.heap.size, 6, none⟩ = some (.int .i64 a18) := HR6.out.cell 6
  have r7 : w6.cell? ⟨w1.heap.size, 7, none⟩ = some (.slice AO (s - 20) co) := HR6.out.cell 7
  go_wp2_with fail
  refine (HRI.out AO co _).mono ?_
  rintro e w7 ⟨rfl, hb7⟩
  have HX := Lib.hid (bel_call HB6.out hb7)
  have HC7 := Lib.hid (show ∀ j, j < n1 → w7.cell? ⟨g6, j, none⟩ = (U.map (Value.int .u8))[j]? from fun j hj => (hb7.cell (p := ⟨g6, j, none⟩) hg62).trans (HCELL.out j hj))
  have g7 : g6 < w7.heap.size := Nat.lt_of_lt_of_le hg62 hb7.size
  clear hb7 HCELL hg62 HR6 HB6 r0 r1 r2 r3 r4 r5 r6 r7
  go_wp2_with fail
  go_loopw [10] (fun i wr => ∃ r : Nat, r ≤ n1 ∧ i = .int .i64 r ∧ Below w7.heap.size w7 wr) (fun i _ => n1 - (intOf i).toNat)
  case atStart => exact ⟨0, by omega, rfl, Below.refl _ _⟩
  case round =>
    obtain ⟨r, hr, rfl, hbw⟩ := hrel
    have HBW := Lib.hid hbw
    by_cases hlt : r < n1
    · have d1 : wr.cell? ⟨b, off + r, none⟩ = some (.int .u8 (l1.getD r 0)) := HC4.out r hlt wr (HX.out.trans (hbw.mono HX.out.size))
      have d2 : wr.cell? ⟨g6, r, none⟩ = some (.int .u8 (U.getD r 0)) := by
        rw [hbw.cell (p := ⟨g6, r, none⟩) g7, HC7.out r hlt, List.getElem?_map, List.getElem?_eq_getElem (by rw [HUL.out]; exact hlt), List.getD_eq_getElem?_getD, List.getElem?_eq_getElem (by rw [HUL.out]; exact hlt)]
        rfl
      have hub := HUB.out r (by rw [L1.out]; exact hlt)
      clear hbw
      generalize l1.getD r 0 = yy at *
      generalize U.getD r 0 = u at *
      have e0 : (0 : Int) ≤ (r : Int) := by omega
      have e1 : (r : Int) < (n1 : Int) := by omega
      by_cases huy : u = yy
      · subst huy
        clear hub
        go_wp2_with fail
        go_quiet (fail)
        go_wp2_with fail
        go_roundw
        case rel => exact ⟨r + 1, by omega, by go_num, below_drewN HBW.out _⟩
        case measure => simp [intOf]; omega
      · have t0 : (u != yy) = true := bneT huy
        have h67 : r = 16 ∨ r = 17 := by
          by_cases a : r = 16
          · exact .inl a
          · by_cases b : r = 17
            · exact .inr b
            · exact absurd (hub a b) huy
        clear hub huy
        rcases h67 with h67 | h67
        · have t1 : ((r : Int) != 16) = false := bneF (by omega)
          have HRR := Lib.hid h67
          clear h67
          go_wp2_with fail
          go_quiet (fail)
          go_wp2_with fail
          go_roundw
          case rel => exact ⟨r + 1, by omega, by go_num, below_drewN HBW.out _⟩
          case measure => simp [intOf]; omega
        · have t1 : ((r : Int) != 16) = true := bneT (by omega)
          have t2 : ((r : Int) != 17) = false := bneF (by omega)
          have HRR := Lib.hid h67
          clear h67
          go_wp2_with fail
          go_quiet (fail)
          go_wp2_with fail
          go_roundw
          case rel => exact ⟨r + 1, by omega, by go_num, below_drewN HBW.out _⟩
          case measure => simp [intOf]; omega
    · clear hbw
      go_wp2_with fail
      refine (HAW.out _).mono ?_
      rintro e w9 ⟨rfl, hb9⟩
      go_wp2_with fail
      go_ret
      exact ⟨rfl, bel_call (bel_call HX.out HBW.out) hb9⟩
theorem none_cap {k : IntKind} {w : World} {a : Option Addr} {len cap : Nat} {zs : List Int}
    (h : (a = none ∧ len = 0 ∧ cap = 0 ∧ zs = []) ∨ ∃ x, a = some x ∧ len ≤ cap ∧ cap ≤ maxLen ∧ zs.length = cap ∧ (∀ i, i < zs.length → w.cell? (x.add i) = some (.int k (zs.getD i 0))) ∧ ∀ n ∈ zs, (Lit.int k n).wf = true) : a = none → cap = 0 := by
  rcases h with ⟨_, _, h, _⟩ | ⟨x, rfl, _⟩
  · exact fun _ => h
  · intro h; cases h
theorem cut10_arg {w : World} {B : Nat} {A : Option Addr} {n c : Nat} {l : List Int} (hl : l.length = n) (hr : Row w B A (l.map (.int .u8))) (hnc : n ≤ c) (hc : c ≤ 9223372036854775807) :
    (l.take (min n 300)).length = min n 300 ∧ Row w B A ((l.take (min n 300)).map (.int .u8)) ∧
      Hid (∀ w : World, Calls Try.prog 17 #[.slice A n c] w fun e w' => e = .returned (.slice A (min n 300 : Nat) c) ∧ w = w') := by
  refine ⟨by rw [List.length_take]; omega, ?_, Lib.hid fun w => ?_⟩
  · have := hr.take (min n 300)
    rwa [← List.map_take] at this
  · refine Go.Proofs.Ytjgeknkfinaimaa.tcpF.cut10_any A n c w hnc hc (fun x hx h => ?_) (fun h => ?_)
    · rcases hr with h0 | ⟨b, off, hA, _⟩
      · have := congrArg List.length h0; simp at this; rw [this] at hl; simp at hl; omega
      · rw [hx] at hA; injection hA with hA; exact ⟨b, off, hA⟩
    · rcases hr with h0 | ⟨b, off, hA, _⟩
      · have := congrArg List.length h0; simp at this; rw [this] at hl; simpa using hl.symm
      · rw [h] at hA; cases hA
theorem take_u8 {l : List Int} {m : Nat} (h : ∀ x ∈ l, (Lit.int .u8 x).wf = true) : ∀ x ∈ l.take m, 0 ≤ x ∧ x ≤ 255 := fun x hx => bounds_u8 (h x (List.mem_of_mem_take hx))
theorem parses_any (v1 v2 : Value) (A1 A2 : Option Addr) (n1 n2 c1 c2 : Nat) (l1 l2 : List Int) (w : World) (h1 : l1.length = n1) (h2 : l2.length = n2) (k1 : n1 ≤ 300) (k2 : n2 ≤ 300) (hnc : n1 ≤ c1) (hc : c1 ≤ 9223372036854775807) (z2 : A2 = none → c2 = 0) (r1 : Row w w.heap.size A1 (l1.map (.int .u8))) (r2 : Row w w.heap.size A2 (l2.map (.int .u8))) (b1 : ∀ x ∈ l1, 0 ≤ x ∧ x ≤ 255) (b2 : ∀ x ∈ l2, 0 ≤ x ∧ x ≤ 255)
    (C1 : Hid (∀ w : World, Calls Try.prog 17 #[v1] w fun e w' => e = .returned (.slice A1 n1 c1) ∧ w = w'))
    (C2 : Hid (∀ w : World, Calls Try.prog 17 #[v2] w fun e w' => e = .returned (.slice A2 n2 c2) ∧ w = w')) :
    Calls Try.prog 6 #[v1, v2] w fun e w' => e = .returned (.bool true) ∧ Below w.heap.size w w' := by
  by_cases h8 : n1 < 20
  · exact parses_short v1 v2 A1 A2 n1 n2 c1 c2 w h8 C1 C2
  obtain ⟨b, off, rfl, hb, hs⟩ := lies_of r1 (by omega)
  have k8 : 20 ≤ n1 := by omega
  by_cases w1 : l1.getD 12 0 / 16 * 4 < 20
  · exact parses_h1 v1 v2 b off A2 n1 n2 c1 c2 l1 l2 w h1 h2 k8 k1 k2 hnc hc hb hs z2 r2 b1 b2 C1 C2 w1
  by_cases w2 : (n1 : Int) < l1.getD 12 0 / 16 * 4
  · exact parses_h2 v1 v2 b off A2 n1 n2 c1 c2 l1 l2 w h1 h2 k8 k1 k2 hnc hc hb hs z2 r2 b1 b2 C1 C2 ⟨by omega, w2⟩
  by_cases w3 : l1.getD 12 0 % 16 = 0
  · by_cases hS : fo (wsum (l2 ++ l1)) = 65535
    · obtain ⟨s, hsz⟩ := Int.eq_ofNat_of_zero_le (by omega : 0 ≤ l1.getD 12 0 / 16 * 4)
      exact parses_ok v1 v2 b off A2 n1 n2 c1 c2 l1 l2 w h1 h2 k8 k1 k2 hnc hc hb hs z2 r2 b1 b2 C1 C2 (by omega) (by omega) w3 hS s hsz
    · exact parses_sum v1 v2 b off A2 n1 n2 c1 c2 l1 l2 w h1 h2 k8 k1 k2 hnc hc hb hs z2 r2 b1 b2 C1 C2 (by omega) (by omega) w3 hS
  · exact parses_h3 v1 v2 b off A2 n1 n2 c1 c2 l1 l2 w h1 h2 k8 k1 k2 hnc hc hb hs z2 r2 b1 b2 C1 C2 ⟨by omega, by omega, w3⟩
end Go.Proofs.Ytjgeknkfinaimaa.tcpH
