/- Layer 11: the law on bytes that are parsed, walked where all is right, or the sum is not. -/
import Derived.Test.YtjgeknkfinaimaaUdpF
namespace Go.Proofs.Ytjgeknkfinaimaa.udpG
open Go.ChangeShapes Go.WideShapes Go.ChangeAt Go.RowKit
open Go.Proofs.Ytjgeknkfinaimaa.base Go.Proofs.Ytjgeknkfinaimaa.sumA Go.Proofs.Ytjgeknkfinaimaa.sumB Go.Proofs.Ytjgeknkfinaimaa.octA Go.Proofs.Ytjgeknkfinaimaa.octB Go.Proofs.Ytjgeknkfinaimaa.octC Go.Proofs.Ytjgeknkfinaimaa.octE Go.Proofs.Ytjgeknkfinaimaa.octF Go.Proofs.Ytjgeknkfinaimaa.rdrA Go.Proofs.Ytjgeknkfinaimaa.udpA Go.Proofs.Ytjgeknkfinaimaa.udpB Go.Proofs.Ytjgeknkfinaimaa.udpD Go.Proofs.Ytjgeknkfinaimaa.udpE Go.Proofs.Ytjgeknkfinaimaa.udpF
set_option linter.unusedVariables false

set_option maxRecDepth 100000 in
set_option maxHeartbeats 4000000 in
theorem parses_oksum (v1 v2 : Value) (b off : Nat) (A2 : Option Addr) (n1 n2 c1 c2 : Nat) (l1 l2 : List Int) (bare : Bool) (w : World) (h1 : l1.length = n1) (h2 : l2.length = n2) (k8 : 8 ≤ n1) (k1 : n1 ≤ 300) (k2 : n2 ≤ 300) (hnc : n1 ≤ c1) (hc : c1 ≤ 9223372036854775807) (hb : b < w.heap.size) (hs : Lies w b off l1) (z2 : A2 = none → c2 = 0) (r2 : Row w w.heap.size A2 (l2.map (.int .u8))) (b1 : ∀ x ∈ l1, 0 ≤ x ∧ x ≤ 255) (b2 : ∀ x ∈ l2, 0 ≤ x ∧ x ≤ 255)
    (C1 : Hid (∀ w : World, Calls Try.prog 10 #[v1] w fun e w' => e = .returned (.slice (some ⟨b, off, none⟩) n1 c1) ∧ w = w'))
    (C2 : Hid (∀ w : World, Calls Try.prog 10 #[v2] w fun e w' => e = .returned (.slice A2 n2 c2) ∧ w = w'))
    (h4 : w16 l1 4 = n1) (h6 : ¬ w16 l1 6 = 0) (hS : fo (wsum (l2 ++ l1)) = 65535) :
    Calls Try.prog 4 #[v1, v2, .bool bare] w fun e w' => e = .returned (.bool true) ∧ Below w.heap.size w w' := by
  have HP := Lib.hid (parse_any b off n1 c1 n2 c2 A2 l1 l2 bare w h1 k8 (by omega) hnc hc hb hs b1 h2 (by omega) r2 b2)
  have HAW := Lib.hid awake_any
  have HS := Lib.hid hs
  have R2 := Lib.hid r2
  have L1 := Lib.hid h1
  have L2 := Lib.hid h2
  have B1 := Lib.hid b1
  have B2 := Lib.hid b2
  have Z2 := Lib.hid z2
  have HW6 := Lib.hid (w16_zero l1 b1)
  have x4 := getD_in l1 b1 4
  have x5 := getD_in l1 b1 5
  have x6 := getD_in l1 b1 6
  have x7 := getD_in l1 b1 7
  have h45 : w16 l1 4 = l1.getD 4 0 * 256 + l1.getD 5 0 := rfl
  have h4n : w16 l1 4 = l1.length := by rw [h1]; exact h4
  have t45 : ((256 * l1.getD 4 0 + l1.getD 5 0) != (n1 : Int)) = false := bneF (by rw [h45] at h4; omega)
  have hq : (w16 l1 6 == 0) = false := by simp [h6]
  have HPB := Lib.hid (show ∀ e w', ParsePost w l1 l2 bare e w' → ∃ v, e = .returned (.tuple #[.agg #[.int .i64 (w16 l1 0), .int .i64 (w16 l1 2), .bool false], v, .int .i64 0]) ∧ w'.ownsRow w.heap.size 5 1 v (n1 - 8) ((l1.drop 8).map (.int .u8)) ∧ Below w.heap.size w w' from fun e w' h => by
    have := h.2.2 h4n (fun h => h.elim (fun h => h6 h.1) (fun h => h.2 hS))
    rwa [hq, h1] at this)
  clear hq
  have g67 : (l1.getD 6 0 == 0) = false ∨ ((l1.getD 6 0 == 0) = true ∧ (l1.getD 7 0 == 0) = false) := by
    by_cases g : l1.getD 6 0 = 0
    · exact .inr ⟨eqT g, eqF fun g7 => h6 ((w16_zero l1 b1).2 ⟨g, g7⟩)⟩
    · exact .inl (eqF g)
  have HUB := Lib.hid (fun i hi h6 h7 => getD_ub l1 (by rw [h1]; exact k8) b1 (by rw [h1]; omega) h4n i hi h6 h7)
  have K0 := w16_in l1 b1 0
  have K2 := w16_in l1 b1 2
  have HLB := Lib.hid (fun (A : Option Addr) (c : Nat) (W : World) hr hz => lawbytes_any (w16 l1 0) (w16 l1 2) false A (n1 - 8) c (l1.drop 8) W ⟨K0.1, K0.2, K2.1, K2.2⟩ (by rw [List.length_drop, h1]) (by omega) hr hz)
  have HE8 := Lib.hid (show 8 + (n1 - 8) = n1 by omega)
  have HULEN := Lib.hid (show (ub (w16 l1 0) (w16 l1 2) (l1.drop 8) 0).length = n1 by rw [ub_len, List.length_drop, h1]; omega)
  have HUIN := Lib.hid (show ∀ x ∈ ub (w16 l1 0) (w16 l1 2) (l1.drop 8) 0, 0 ≤ x ∧ x ≤ 255 from ub_in _ _ _ _ (drop_u8 b1 8))
  have HSUM := Lib.hid (show (fo (wsum (l2 ++ l1)) != 65535) = false from bneF hS)
  have HFB := Lib.hid (fo_bd (wsum (l2 ++ l1)) (wsum_bd _ (fun x hx => (List.mem_append.1 hx).elim (b2 x) (b1 x))).1)
  have HREF := Lib.hid (fun (A : Option Addr) (c : Nat) (W : World) hr => Go.Proofs.Ytjgeknkfinaimaa.sumH.refOf_any A (n2 + n1) c (l2 ++ l1) W (by rw [List.length_append, h1, h2]) (by omega) hr (fun x hx => (List.mem_append.1 hx).elim (b2 x) (b1 x)))
  obtain ⟨i0, hi0, hz0, hz1, hz2⟩ := info_parts info_u8
  have HI0 := Lib.hid hi0
  have HZ0 := Lib.hid hz0
  have HZ1 := Lib.hid hz1
  have HZ2 := Lib.hid hz2
  have oneC : ∀ l : List Int, ∀ u ∈ l.map (Value.int .u8), u.oneCell' = true := by
    intro l u hu
    rw [List.mem_map] at hu
    obtain ⟨x, _, rfl⟩ := hu
    rfl
  have ONE := Lib.hid oneC
  have ME1 := Lib.hid (show 0 + n2 ≤ maxLen by unfold maxLen; omega)
  have ME2 := Lib.hid (show (0 + n2) * 1 ≤ 140737488355328 by omega)
  have ME3 := Lib.hid (show 0 + n2 + n1 ≤ maxLen by unfold maxLen; omega)
  have ME4 := Lib.hid (show (0 + n2 + n1) * 1 ≤ 140737488355328 by omega)
  have EL := Lib.hid (show [] ++ l2.map (Value.int .u8) ++ l1.map (Value.int .u8) = (l2 ++ l1).map (Value.int .u8) by simp)
  clear hi0 hz0 hz1 hz2 oneC
  have K1 := Lib.hid h4n
  clear h45 h4n hs r2 h1 h2 b1 b2 z2
  clear K0 K2
  clear h4
  clear h6 hS
  have HC4 := Lib.hid (show ∀ i, i < n1 → ∀ W : World, Below w.heap.size w W → W.cell? ⟨b, off + i, none⟩ = some (.int .u8 (l1.getD i 0)) from fun i hi W hW => (HS.out.below hW hb) i (by rw [L1.out]; exact hi))
  have HQ4 := Lib.hid (HC4.out 4 (by omega))
  have HQ5 := Lib.hid (HC4.out 5 (by omega))
  have HQ6 := Lib.hid (HC4.out 6 (by omega))
  have HQ7 := Lib.hid (HC4.out 7 (by omega))
  generalize l1.getD 4 0 = y4 at *
  generalize l1.getD 5 0 = y5 at *
  generalize l1.getD 6 0 = y6 at *
  generalize l1.getD 7 0 = y7 at *
  obtain ⟨x40, x41⟩ := x4
  obtain ⟨x50, x51⟩ := x5
  clear x6 x7
  generalize fo (wsum (l2 ++ l1)) = sv at *
  have tsv := HSUM.out
  clear HFB HSUM
  generalize ub (w16 l1 0) (w16 l1 2) (l1.drop 8) 0 = U at *
  go_enter Try.func4, Try.ntmps4
  go_wp2_with fail
  refine (C1.out _).mono ?_
  rintro e w' ⟨rfl, rfl⟩
  go_wp2_with fail
  refine (C2.out _).mono ?_
  rintro e w' ⟨rfl, rfl⟩
  go_wp2_with fail
  refine HP.out.mono ?_
  rintro e w1 hpost
  obtain ⟨v, rfl, hown, hbel⟩ := HPB.out _ _ hpost
  obtain ⟨A7, c7, rfl⟩ := own_slice hown
  have hz7 : A7 = none → c7 = 0 := fun hA => by
    rcases own_cases hown with ⟨h, _⟩ | ⟨g, cap, h, _⟩
    · injection h
    · injection h with h; rw [hA] at h; cases h
  have HZ7 := Lib.hid hz7
  have HO7 := Lib.hid (hown.alloc (.cells #[.int .i64 (w16 l1 0), .int .i64 (w16 l1 2), .bool false] 28))
  have HW := Lib.hid (bel_alloc hbel (.cells #[.int .i64 (w16 l1 0), .int .i64 (w16 l1 2), .bool false] 28))
  have HRB := Lib.hid (Blk.new w1 28 #[.int .i64 (w16 l1 0), .int .i64 (w16 l1 2), .bool false])
  clear hpost hown hbel hz7
  go_wp2_with fail
  generalize hk : w1.heap.size = k at *
  clear hk
  generalize w1.alloc (.cells #[.int .i64 (w16 l1 0), .int .i64 (w16 l1 2), .bool false] 28) = W at *
  have q4 : W.cell? ⟨b, off + 4, none⟩ = some (.int .u8 y4) := HQ4.out W HW.out
  have q5 : W.cell? ⟨b, off + 5, none⟩ = some (.int .u8 y5) := HQ5.out W HW.out
  have q6 : W.cell? ⟨b, off + 6, none⟩ = some (.int .u8 y6) := HQ6.out W HW.out
  have q7 : W.cell? ⟨b, off + 7, none⟩ = some (.int .u8 y7) := HQ7.out W HW.out
  have r0 : W.cell? ⟨k, 0, none⟩ = some (.int .i64 (w16 l1 0)) := HRB.out.cell 0
  have r1 : W.cell? ⟨k, 1, none⟩ = some (.int .i64 (w16 l1 2)) := HRB.out.cell 1
  have r2 : W.cell? ⟨k, 2, none⟩ = some (.bool false) := HRB.out.cell 2
  have y0 : (4 : Int) < (n1 : Int) := by omega
  have y1 : (5 : Int) < (n1 : Int) := by omega
  have y2 : (6 : Int) < (n1 : Int) := by omega
  have y3 : (7 : Int) < (n1 : Int) := by omega
  go_quiet (fail)
  have HV := Lib.hid (below_drewN HW.out nq)
  have s6 : (W.drewN nq).cell? ⟨b, off + 6, none⟩ = some (.int .u8 y6) := q6
  have s7 : (W.drewN nq).cell? ⟨b, off + 7, none⟩ = some (.int .u8 y7) := q7
  have s0 : (W.drewN nq).cell? ⟨k, 0, none⟩ = some (.int .i64 (w16 l1 0)) := r0
  have s1 : (W.drewN nq).cell? ⟨k, 1, none⟩ = some (.int .i64 (w16 l1 2)) := r1
  have s2 : (W.drewN nq).cell? ⟨k, 2, none⟩ = some (.bool false) := r2
  have HOV := Lib.hid (show (W.drewN nq).ownsRow w.heap.size 5 1 (.slice A7 (n1 - 8) c7) (n1 - 8) ((l1.drop 8).map (.int .u8)) from HO7.out)
  clear HO7
  clear q4 q5 q6 q7 r0 r1 r2 HRB HW
  generalize W.drewN nq = V at *
  have HVA := Lib.hid (HV.out.alloc HV.out.size (.cells #[] 5))
  have HVB := Lib.hid ((Below.refl V.heap.size V).alloc (Nat.le_refl _) (.cells #[] 5))
  have HLIT := Lib.hid (World.ownsRow_lit (base := V.heap.size) (e := 5) (size := 1) V #[] 0 (Nat.le_refl _) (Nat.zero_le _) rfl)
  rcases g67 with t6 | ⟨t6, t7⟩
  · go_wp2_with (first
      | (at_builtin; refine wpList_append_row rfl (.tmp 53) (.tmp 54) _ rfl V.heap.size 5 i0 _ 1 Try.underlying23 HI0.out HZ0.out HZ1.out HZ2.out rfl (.slice (some ⟨V.heap.size, 0, none⟩) 0 0) 0 [] rfl HLIT.out A2 n2 c2 w.heap.size (l2.map (.int .u8)) rfl Z2.out (by rw [List.length_map]; exact L2.out) (R2.out.below HVA.out) (ONE.out _) ME1.out ME2.out (by simp) ?_; intro va wa owna ga; have HOa := Lib.hid owna; have HBa := Lib.hid (below_grown HVB.out HLIT.out (Nat.le_refl _) (by simp) ga); clear owna ga)
      | (at_builtin; have hsa := HBa.out.size; refine wpList_append_row rfl (.tmp 55) (.tmp 56) _ rfl V.heap.size 5 i0 _ 1 Try.underlying23 HI0.out HZ0.out HZ1.out HZ2.out rfl va (0 + n2) _ rfl HOa.out (some ⟨b, off, none⟩) n1 c1 w.heap.size (l1.map (.int .u8)) rfl (by intro h; cases h) (by rw [List.length_map]; exact L1.out) ((HS.out.row hb).below (HV.out.trans (HBa.out.mono HV.out.size))) (ONE.out _) ME3.out ME4.out hsa ?_; intro vb wb ownb gb; have HOb := Lib.hid ownb; have HBb := Lib.hid (below_grown HBa.out HOa.out (Nat.le_refl _) hsa gb); clear ownb gb))
    have hob := HOb.out
    rw [EL.out, Nat.zero_add] at hob
    obtain ⟨Ab, cb, rfl⟩ := own_slice hob
    have HRW := Lib.hid (HREF.out Ab cb wb (own_row hob))
    clear hob HOa HOb
    refine HRW.out.mono ?_
    rintro e w5 ⟨rfl, hb5⟩
    have HB5 := Lib.hid (HV.out.trans ((bel_call HBb.out hb5).mono HV.out.size))
    have hbV := bel_call HBb.out hb5
    have x6 : w5.cell? ⟨b, off + 6, none⟩ = some (.int .u8 y6) := kept s6 hbV
    have x7 : w5.cell? ⟨b, off + 7, none⟩ = some (.int .u8 y7) := kept s7 hbV
    have x0 : w5.cell? ⟨k, 0, none⟩ = some (.int .i64 (w16 l1 0)) := kept s0 hbV
    have x1 : w5.cell? ⟨k, 1, none⟩ = some (.int .i64 (w16 l1 2)) := kept s1 hbV
    have x2 : w5.cell? ⟨k, 2, none⟩ = some (.bool false) := kept s2 hbV
    have HOX := Lib.hid (own_keep HOV.out hbV)
    have HX := HB5
    clear hb5 hbV HVA HVB HLIT HBa HBb HRW HB5 HV HOV s6 s7 s0 s1 s2
    have hrow7 := (own_row HOX.out)
    have HLBX := Lib.hid (HLB.out A7 c7 w5 hrow7 HZ7.out)
    clear hrow7
    go_wp2_with fail
    refine HLBX.out.mono ?_
    rintro e w6 ⟨v6, rfl, hown6, hbel6⟩
    rw [HE8.out] at hown6
    obtain ⟨g6, c6, rfl, hg6, hg62, hc61, hc62, hcell6, hfz6⟩ := own_form hown6 (by omega)
    have HCELL := Lib.hid hcell6
    have HX6 := Lib.hid (bel_call HX.out hbel6)
    have z6 : w6.cell? ⟨b, off + 6, none⟩ = some (.int .u8 y6) := kept x6 hbel6
    have z7 : w6.cell? ⟨b, off + 7, none⟩ = some (.int .u8 y7) := kept x7 hbel6
    have z0 : w6.cell? ⟨k, 0, none⟩ = some (.int .i64 (w16 l1 0)) := kept x0 hbel6
    have z1 : w6.cell? ⟨k, 1, none⟩ = some (.int .i64 (w16 l1 2)) := kept x1 hbel6
    have z2 : w6.cell? ⟨k, 2, none⟩ = some (.bool false) := kept x2 hbel6
    clear hown6 hbel6 hcell6 hfz6 x6 x7 x0 x1 x2 hg6
    go_wp2_with fail
    go_quiet (fail)
    go_wp2_with fail
    have HX7 := Lib.hid (below_drewN HX6.out nq)
    have HCELL7 := Lib.hid (show ∀ j, j < n1 → (w6.drewN nq).cell? ⟨g6, j, none⟩ = (U.map (Value.int .u8))[j]? from HCELL.out)
    have g7 : g6 < (w6.drewN nq).heap.size := hg62
    clear z6 z7 z0 z1 z2 HX6 HCELL hg62
    generalize w6.drewN nq = w7 at *
    go_loopw [12] (fun i wr => ∃ r : Nat, r ≤ n1 ∧ i = .int .i64 r ∧ Below w7.heap.size w7 wr) (fun i _ => n1 - (intOf i).toNat)
    case atStart => exact ⟨0, by omega, rfl, Below.refl _ _⟩
    case round =>
      obtain ⟨r, hr, rfl, hbw⟩ := hrel
      have HBW := Lib.hid hbw
      by_cases hlt : r < n1
      · have d1 : wr.cell? ⟨b, off + r, none⟩ = some (.int .u8 (l1.getD r 0)) := HC4.out r hlt wr (HX7.out.trans (hbw.mono HX7.out.size))
        have d2 : wr.cell? ⟨g6, r, none⟩ = some (.int .u8 (U.getD r 0)) := by
          rw [hbw.cell (p := ⟨g6, r, none⟩) g7, HCELL7.out r hlt, List.getElem?_map, List.getElem?_eq_getElem (by rw [HULEN.out]; exact hlt), List.getD_eq_getElem?_getD, List.getElem?_eq_getElem (by rw [HULEN.out]; exact hlt)]
          rfl
        have hub := HUB.out r (by rw [L1.out]; exact hlt)
        clear hbw
        generalize l1.getD r 0 = y at *
        generalize U.getD r 0 = u at *
        have e0 : (0 : Int) ≤ (r : Int) := by omega
        have e1 : (r : Int) < (n1 : Int) := by omega
        by_cases huy : u = y
        · subst huy
          clear hub
          go_wp2_with fail
          go_quiet (fail)
          go_wp2_with fail
          go_roundw
          case rel => exact ⟨r + 1, by omega, by go_num, below_drewN HBW.out _⟩
          case measure => simp [intOf]; omega
        · have t0 : (u != y) = true := bneT huy
          have h67 : r = 6 ∨ r = 7 := by
            by_cases a : r = 6
            · exact .inl a
            · by_cases b : r = 7
              · exact .inr b
              · exact absurd (hub a b) huy
          clear hub huy
          rcases h67 with h67 | h67
          · have t1 : ((r : Int) != 6) = false := bneF (by omega)
            have HRR := Lib.hid h67
            clear h67
            go_wp2_with fail
            go_quiet (fail)
            go_wp2_with fail
            go_roundw
            case rel => exact ⟨r + 1, by omega, by go_num, below_drewN HBW.out _⟩
            case measure => simp [intOf]; omega
          · have t1 : ((r : Int) != 6) = true := bneT (by omega)
            have t2 : ((r : Int) != 7) = false := bneF (by omega)
            have HRR := Lib.hid h67
            clear h67
            go_wp2_with fail
            go_quiet (fail)
            go_wp2_with fail
            go_roundw
            case rel => exact ⟨r + 1, by omega, by go_num, below_drewN HBW.out _⟩
            case measure => simp [intOf]; omega
      · clear hbw
        go_wp2_with fail
        refine (HAW.out _).mono ?_
        rintro e w9 ⟨rfl, hb9⟩
        go_wp2_with fail
        go_ret
        exact ⟨rfl, bel_call (bel_call HX7.out HBW.out) hb9⟩
  · go_wp2_with (first
      | (at_builtin; refine wpList_append_row rfl (.tmp 53) (.tmp 54) _ rfl V.heap.size 5 i0 _ 1 Try.underlying23 HI0.out HZ0.out HZ1.out HZ2.out rfl (.slice (some ⟨V.heap.size, 0, none⟩) 0 0) 0 [] rfl HLIT.out A2 n2 c2 w.heap.size (l2.map (.int .u8)) rfl Z2.out (by rw [List.length_map]; exact L2.out) (R2.out.below HVA.out) (ONE.out _) ME1.out ME2.out (by simp) ?_; intro va wa owna ga; have HOa := Lib.hid owna; have HBa := Lib.hid (below_grown HVB.out HLIT.out (Nat.le_refl _) (by simp) ga); clear owna ga)
      | (at_builtin; have hsa := HBa.out.size; refine wpList_append_row rfl (.tmp 55) (.tmp 56) _ rfl V.heap.size 5 i0 _ 1 Try.underlying23 HI0.out HZ0.out HZ1.out HZ2.out rfl va (0 + n2) _ rfl HOa.out (some ⟨b, off, none⟩) n1 c1 w.heap.size (l1.map (.int .u8)) rfl (by intro h; cases h) (by rw [List.length_map]; exact L1.out) ((HS.out.row hb).below (HV.out.trans (HBa.out.mono HV.out.size))) (ONE.out _) ME3.out ME4.out hsa ?_; intro vb wb ownb gb; have HOb := Lib.hid ownb; have HBb := Lib.hid (below_grown HBa.out HOa.out (Nat.le_refl _) hsa gb); clear ownb gb))
    have hob := HOb.out
    rw [EL.out, Nat.zero_add] at hob
    obtain ⟨Ab, cb, rfl⟩ := own_slice hob
    have HRW := Lib.hid (HREF.out Ab cb wb (own_row hob))
    clear hob HOa HOb
    refine HRW.out.mono ?_
    rintro e w5 ⟨rfl, hb5⟩
    have HB5 := Lib.hid (HV.out.trans ((bel_call HBb.out hb5).mono HV.out.size))
    have hbV := bel_call HBb.out hb5
    have x6 : w5.cell? ⟨b, off + 6, none⟩ = some (.int .u8 y6) := kept s6 hbV
    have x7 : w5.cell? ⟨b, off + 7, none⟩ = some (.int .u8 y7) := kept s7 hbV
    have x0 : w5.cell? ⟨k, 0, none⟩ = some (.int .i64 (w16 l1 0)) := kept s0 hbV
    have x1 : w5.cell? ⟨k, 1, none⟩ = some (.int .i64 (w16 l1 2)) := kept s1 hbV
    have x2 : w5.cell? ⟨k, 2, none⟩ = some (.bool false) := kept s2 hbV
    have HOX := Lib.hid (own_keep HOV.out hbV)
    have HX := HB5
    clear hb5 hbV HVA HVB HLIT HBa HBb HRW HB5 HV HOV s6 s7 s0 s1 s2
    have hrow7 := (own_row HOX.out)
    have HLBX := Lib.hid (HLB.out A7 c7 w5 hrow7 HZ7.out)
    clear hrow7
    go_wp2_with fail
    refine HLBX.out.mono ?_
    rintro e w6 ⟨v6, rfl, hown6, hbel6⟩
    rw [HE8.out] at hown6
    obtain ⟨g6, c6, rfl, hg6, hg62, hc61, hc62, hcell6, hfz6⟩ := own_form hown6 (by omega)
    have HCELL := Lib.hid hcell6
    have HX6 := Lib.hid (bel_call HX.out hbel6)
    have z6 : w6.cell? ⟨b, off + 6, none⟩ = some (.int .u8 y6) := kept x6 hbel6
    have z7 : w6.cell? ⟨b, off + 7, none⟩ = some (.int .u8 y7) := kept x7 hbel6
    have z0 : w6.cell? ⟨k, 0, none⟩ = some (.int .i64 (w16 l1 0)) := kept x0 hbel6
    have z1 : w6.cell? ⟨k, 1, none⟩ = some (.int .i64 (w16 l1 2)) := kept x1 hbel6
    have z2 : w6.cell? ⟨k, 2, none⟩ = some (.bool false) := kept x2 hbel6
    clear hown6 hbel6 hcell6 hfz6 x6 x7 x0 x1 x2 hg6
    go_wp2_with fail
    go_quiet (fail)
    go_wp2_with fail
    have HX7 := Lib.hid (below_drewN HX6.out nq)
    have HCELL7 := Lib.hid (show ∀ j, j < n1 → (w6.drewN nq).cell? ⟨g6, j, none⟩ = (U.map (Value.int .u8))[j]? from HCELL.out)
    have g7 : g6 < (w6.drewN nq).heap.size := hg62
    clear z6 z7 z0 z1 z2 HX6 HCELL hg62
    generalize w6.drewN nq = w7 at *
    go_loopw [12] (fun i wr => ∃ r : Nat, r ≤ n1 ∧ i = .int .i64 r ∧ Below w7.heap.size w7 wr) (fun i _ => n1 - (intOf i).toNat)
    case atStart => exact ⟨0, by omega, rfl, Below.refl _ _⟩
    case round =>
      obtain ⟨r, hr, rfl, hbw⟩ := hrel
      have HBW := Lib.hid hbw
      by_cases hlt : r < n1
      · have d1 : wr.cell? ⟨b, off + r, none⟩ = some (.int .u8 (l1.getD r 0)) := HC4.out r hlt wr (HX7.out.trans (hbw.mono HX7.out.size))
        have d2 : wr.cell? ⟨g6, r, none⟩ = some (.int .u8 (U.getD r 0)) := by
          rw [hbw.cell (p := ⟨g6, r, none⟩) g7, HCELL7.out r hlt, List.getElem?_map, List.getElem?_eq_getElem (by rw [HULEN.out]; exact hlt), List.getD_eq_getElem?_getD, List.getElem?_eq_getElem (by rw [HULEN.out]; exact hlt)]
          rfl
        have hub := HUB.out r (by rw [L1.out]; exact hlt)
        clear hbw
        generalize l1.getD r 0 = y at *
        generalize U.getD r 0 = u at *
        have e0 : (0 : Int) ≤ (r : Int) := by omega
        have e1 : (r : Int) < (n1 : Int) := by omega
        by_cases huy : u = y
        · subst huy
          clear hub
          go_wp2_with fail
          go_quiet (fail)
          go_wp2_with fail
          go_roundw
          case rel => exact ⟨r + 1, by omega, by go_num, below_drewN HBW.out _⟩
          case measure => simp [intOf]; omega
        · have t0 : (u != y) = true := bneT huy
          have h67 : r = 6 ∨ r = 7 := by
            by_cases a : r = 6
            · exact .inl a
            · by_cases b : r = 7
              · exact .inr b
              · exact absurd (hub a b) huy
          clear hub huy
          rcases h67 with h67 | h67
          · have t1 : ((r : Int) != 6) = false := bneF (by omega)
            have HRR := Lib.hid h67
            clear h67
            go_wp2_with fail
            go_quiet (fail)
            go_wp2_with fail
            go_roundw
            case rel => exact ⟨r + 1, by omega, by go_num, below_drewN HBW.out _⟩
            case measure => simp [intOf]; omega
          · have t1 : ((r : Int) != 6) = true := bneT (by omega)
            have t2 : ((r : Int) != 7) = false := bneF (by omega)
            have HRR := Lib.hid h67
            clear h67
            go_wp2_with fail
            go_quiet (fail)
            go_wp2_with fail
            go_roundw
            case rel => exact ⟨r + 1, by omega, by go_num, below_drewN HBW.out _⟩
            case measure => simp [intOf]; omega
      · clear hbw
        go_wp2_with fail
        refine (HAW.out _).mono ?_
        rintro e w9 ⟨rfl, hb9⟩
        go_wp2_with fail
        go_ret
        exact ⟨rfl, bel_call (bel_call HX7.out HBW.out) hb9⟩
end Go.Proofs.Ytjgeknkfinaimaa.udpG
