/- Layer 44: SnapPuts. -/
import Derived.Test.YtmlicmcphecakaaSnL
import Derived.Deep.RegionHeld3
import Derived.Deep.DeepCutAuto
import Derived.Deep.RegionWith
namespace Go.Proofs.Ytmlicmcphecakaa.snM
open Go.ChangeShapes Go.WideShapes Go.ChangeAt Go.RowKit
open Go.Proofs.Ytmlicmcphecakaa.base Go.Proofs.Ytmlicmcphecakaa.octA Go.Proofs.Ytmlicmcphecakaa.octB Go.Proofs.Ytmlicmcphecakaa.octF Go.Proofs.Ytmlicmcphecakaa.octK Go.Proofs.Ytmlicmcphecakaa.net Go.Proofs.Ytmlicmcphecakaa.rdrA Go.Proofs.Ytmlicmcphecakaa.snA Go.Proofs.Ytmlicmcphecakaa.snB Go.Proofs.Ytmlicmcphecakaa.snC Go.Proofs.Ytmlicmcphecakaa.snD Go.Proofs.Ytmlicmcphecakaa.snE Go.Proofs.Ytmlicmcphecakaa.snF Go.Proofs.Ytmlicmcphecakaa.snG Go.Proofs.Ytmlicmcphecakaa.snH Go.Proofs.Ytmlicmcphecakaa.snI Go.Proofs.Ytmlicmcphecakaa.snJ Go.Proofs.Ytmlicmcphecakaa.snK Go.Proofs.Ytmlicmcphecakaa.snL
set_option linter.unusedVariables false

theorem opB_u8 (o : Ob) (h : ∀ x ∈ o.bs, 0 ≤ x ∧ x ≤ 255) : ∀ x ∈ opB o, 0 ≤ x ∧ x ≤ 255 := fun x hx => by
  have e := opB_seq o []
  rw [List.append_nil] at e
  rw [e] at hx
  simp only [List.mem_append, List.append_nil] at hx
  rcases hx with h1 | h1 | h1 | h1 | h1 | h1 | h1 | h1
  · exact pb_in _ _ _ x h1
  · exact pb_in _ _ _ x h1
  · exact pb_in _ _ _ x h1
  · exact pb_in _ _ _ x h1
  · exact pb_in _ _ _ x h1
  · exact h x h1
  · exact pb_in _ _ _ x h1
  · exact strZ_in _ x h1
theorem got_rd {w : World} {B : Nat} {A : Option Addr} {n c : Nat} {L : List Ob} (h : Got w B (.slice A n c) L) (he : ∀ o ∈ L, o.nm.size ≤ 255 ∧ ∀ x ∈ o.bs, 0 ≤ x ∧ x ≤ 255) : RdO w A L := by
  refine ⟨?_, fun o ho => ⟨own_row (h.els o ho), (own_cap (h.els o ho)).1, (own_cap (h.els o ho)).2, by have := (he o ho).1; omega, (he o ho).2⟩⟩
  rcases Nat.eq_zero_or_pos L.length with h0 | h0
  · exact .inl (List.eq_nil_of_length_eq_zero h0)
  · rcases h.row.2 with ⟨hv, h1⟩ | ⟨g, cap, cur, hv, hb, hg, h1, h2, h3, h4⟩
    · omega
    · injection hv with hA hn hc
      subst hA hn hc
      refine .inr ⟨g, 0, rfl, (Array.getElem?_eq_some_iff.1 hg).1, fun j hj i hi => ?_⟩
      rw [Nat.zero_add, h.row.cellAt (j * 6 + i) (by omega)]
      exact flatO_get L j hj i hi
theorem re_in {L m : List Ob} (h : L.map Ob.re = m.map Ob.re) (hm : ∀ o ∈ m, o.nm.size ≤ 255 ∧ ∀ x ∈ o.bs, 0 ≤ x ∧ x ≤ 255) : ∀ o ∈ L, o.nm.size ≤ 255 ∧ ∀ x ∈ o.bs, 0 ≤ x ∧ x ≤ 255 := fun o ho => by
  have h1 : Ob.re o ∈ m.map Ob.re := h ▸ List.mem_map_of_mem ho
  rw [List.mem_map] at h1
  obtain ⟨x, hx, e⟩ := h1
  unfold Ob.re at e
  simp only [Prod.mk.injEq] at e
  obtain ⟨_, e2, e3, _⟩ := e
  rw [← e2, ← e3]
  exact hm x hx
def allR (l : List Ob) : Bool := l.all fun o => decide o.right
theorem allR_iff (l : List Ob) : allR l = true ↔ ∀ x ∈ l, x.right := by simp [allR]
theorem all_next (m : List Ob) (k : Nat) (hk : k < m.length) : allR (m.take (k + 1)) = (allR (m.take k) && decide (m[k]).right) := by
  rw [List.take_succ_eq_append_getElem hk]
  unfold allR
  rw [List.all_append]
  simp only [List.all_cons, List.all_nil, Bool.and_true]
set_option maxHeartbeats 8000000 in
set_option maxRecDepth 100000 in
theorem puts_any (A : Option Addr) (c : Nat) (l : List Ob) (w : World) (hr : RdO w A l) (hz : NilC l) (hc1 : l.length ≤ c) (hc2 : c ≤ 9223372036854775807) :
    Calls Try.prog 3 #[.slice A l.length c] w fun o w' => o = .returned (.bool true) ∧ Below w.heap.size w w' := by
  have HFW := Lib.hid (few_any A c l w hr hz hc1 hc2)
  obtain ⟨n, hn⟩ : ∃ n, n = l.length := ⟨_, rfl⟩
  have hm40 := fewL_len l
  rw [← hn] at HFW ⊢
  obtain ⟨m, hm⟩ : ∃ m, m = fewL l := ⟨_, rfl⟩
  rw [← hm] at HFW hm40
  obtain ⟨q, hq⟩ : ∃ q, q = m.length := ⟨_, rfl⟩
  have HQ := Lib.hid hq
  rw [← hq] at HFW hm40
  have hq40 : q ≤ 40 := by omega
  clear hr hz hm hq hm40 hn hc1 hc2
  go_enter Try.func3, Try.ntmps3
  go_wp2_with fail
  refine HFW.out.mono ?_
  rintro o w1 ⟨hb1, A1, c1, rfl, ho1, hk1, hk2⟩
  have HO1 := Lib.hid ho1
  have HB1 := Lib.hid hb1
  clear ho1 hb1
  go_wp2_with fail
  go_loopw [3, 4] (fun v i wr => ∃ k : Nat, k ≤ q ∧ i = .int .i64 k ∧ ∃ b, v = .bool b ∧ Hid (b = allR (m.take k)) ∧ Hid (Below w1.heap.size w1 wr)) (fun _ i _ => q - (intOf i).toNat)
  case atStart => exact ⟨0, by omega, rfl, true, rfl, Lib.hid (by simp [allR]), Lib.hid (Below.refl _ _)⟩
  case round =>
    obtain ⟨k, hk, rfl, b, rfl, HBD, HB⟩ := hrel
    by_cases hkq : k < q
    · have t1 : decide ((k : Int) < q) = true := decide_eq_true (by omega)
      have t1n : decide (k < q) = true := decide_eq_true hkq
      have hkl : k < m.length := by have := HQ.out; omega
      obtain ⟨ba, cur, hA, hblk, hcur⟩ := (HO1.out.below HB.out).at_ k hkl
      subst hA
      have hnx := all_next m k hkl
      obtain ⟨e, he⟩ : ∃ e, e = m[k] := ⟨_, rfl⟩
      rw [← he] at hcur hnx
      obtain ⟨z, hz⟩ : ∃ z, z = decide (RightP e.kind e.bs.length e.nm.size e.host e.n) := ⟨_, rfl⟩
      have HNX := Lib.hid (show allR (m.take (k + 1)) = (allR (m.take k) && z) from by rw [hnx, hz]; rfl)
      have HLR := Lib.hid (show ∀ W, Calls Try.prog 6 #[.agg #[.int .i64 e.kind, .slice e.A e.bs.length e.c, .string e.nm, .int .i64 e.host, .int .i64 e.n, .bool e.up]] W fun o w' => o = .returned (.bool z) ∧ Below W.heap.size W w' from fun W => by rw [hz]; exact lright_any e.kind e.A e.bs.length e.c e.nm e.host e.n e.up W)
      have HRP := Lib.hid (show ∀ W, Calls Try.prog 7 #[.agg #[.int .i64 e.kind, .slice e.A e.bs.length e.c, .string e.nm, .int .i64 e.host, .int .i64 e.n, .bool e.up]] W fun o w' => o = .returned (.bool z) ∧ Below W.heap.size W w' from fun W => by rw [hz]; exact right_any e.kind e.A e.bs.length e.c e.nm e.host e.n e.up W)
      have HBK := Lib.hid hblk
      have hce : ∀ i, i < 6 → wr.cell? ⟨ba, k * 6 + i, none⟩ = e.cells[i]? := fun i hi => by rw [hblk.cell, hcur i hi]
      have HFR := Lib.hid (show ∀ W, Below wr.heap.size wr W → (W.cell? ⟨ba, k * 6, none⟩ = some (.int .i64 e.kind) ∧ W.cell? ⟨ba, k * 6 + 1, none⟩ = some (.slice e.A e.bs.length e.c) ∧ W.cell? ⟨ba, k * 6 + 2, none⟩ = some (.string e.nm) ∧ W.cell? ⟨ba, k * 6 + 3, none⟩ = some (.int .i64 e.host) ∧ W.cell? ⟨ba, k * 6 + 4, none⟩ = some (.int .i64 e.n) ∧ W.cell? ⟨ba, k * 6 + 5, none⟩ = some (.bool e.up)) from fun W hW => by
        have key : ∀ i, i < 6 → W.cell? ⟨ba, k * 6 + i, none⟩ = e.cells[i]? := fun i hi => (hW.cell (p := ⟨ba, k * 6 + i, none⟩) HBK.out.lt).trans (hce i hi)
        exact ⟨key 0 (by omega), key 1 (by omega), key 2 (by omega), key 3 (by omega), key 4 (by omega), key 5 (by omega)⟩)
      obtain ⟨d0, d1, d2, d3, d4, d5⟩ := HFR.out wr (Below.refl _ _)
      have j0 : (0 : Int) ≤ k := by omega
      have j1 : (k : Int) < q := by omega
      have wk : IntKind.i64.wrap ((k : Int) + 1) = (k : Int) + 1 := IntWalk.i64_in _ (by omega)
      clear hnx he hz hce hcur hblk hkl
      cases b with
      | false =>
        go_upto_region 7 with fail
        obtain ⟨w4, hw4⟩ : ∃ w4, w4 = wr := ⟨_, rfl⟩
        rw [← hw4] at HB HFR d0 d1 d2 d3 d4 d5 ⊢
        have HB4 := HB
        have HS4 := HFR
        clear hw4
        go_cut [35] (fun v wx => v = .bool false ∧ Hid (Below w4.heap.size w4 wx))
        case first =>
          go_wp2_with fail
          have s0 := HS4.out w4.drew (Below.refl _ _).drew
          have K2 := Lib.hid ((Below.refl w4.heap.size w4).drew)
          go_region_held3 (fun w' => w'.cell? ⟨ba, k * 6, none⟩ = some (.int .i64 e.kind) ∧ w'.cell? ⟨ba, k * 6 + 1, none⟩ = some (.slice e.A e.bs.length e.c) ∧ w'.cell? ⟨ba, k * 6 + 2, none⟩ = some (.string e.nm) ∧ w'.cell? ⟨ba, k * 6 + 3, none⟩ = some (.int .i64 e.host) ∧ w'.cell? ⟨ba, k * 6 + 4, none⟩ = some (.int .i64 e.n) ∧ w'.cell? ⟨ba, k * 6 + 5, none⟩ = some (.bool e.up)) (first | with_reducible assumption | exact HS4.out _ K6.out | exact HS4.out _ K5.out | exact HS4.out _ K2.out)
            (first
              | (go_at_call 7
                 (first | (with_reducible refine (HRP.out _).mono ?_))
                 rintro o w5 ⟨rfl, hb5⟩
                 have K5 := Lib.hid (show Below w4.heap.size w4 w5 from by first | exact K6.out.trans (hb5.mono K6.out.size) | exact K2.out.trans (hb5.mono K2.out.size))
                 have s5 := HS4.out w5 K5.out
                 clear hb5)
              | (go_at_call 6
                 (first | (with_reducible refine (HLR.out _).mono ?_))
                 rintro o w6 ⟨rfl, hb6⟩
                 have K6 := Lib.hid (show Below w4.heap.size w4 w6 from by first | exact K5.out.trans (hb6.mono K5.out.size) | exact K2.out.trans (hb6.mono K2.out.size))
                 have s6 := HS4.out w6 K6.out
                 clear hb6))
          all_goals
            go_wp2_with fail
            go_meet
            first
              | exact ⟨rfl, K6⟩
              | exact ⟨rfl, K5⟩
        case rest =>
          obtain ⟨rfl, HKC⟩ := hcut
          have HBW := Lib.hid (HB4.out.trans (HKC.out.mono HB4.out.size))
          go_wp2_with fail
          go_roundw
          case rel => exact ⟨k + 1, by omega, by go_num, _, rfl, Lib.hid (by rw [HNX.out, ← HBD.out]; rfl), HBW⟩
          case measure => simp [intOf]; omega
      | true =>
        go_upto_region 7 with (go_at_call 6; refine (HLR.out _).mono ?_; rintro o w4 ⟨rfl, hb4⟩; have K4 := Lib.hid hb4; clear hb4)
        have HB4 := Lib.hid (HB.out.trans (K4.out.mono HB.out.size))
        have HS4 := Lib.hid (show ∀ W, Below w4.heap.size w4 W → (W.cell? ⟨ba, k * 6, none⟩ = some (.int .i64 e.kind) ∧ W.cell? ⟨ba, k * 6 + 1, none⟩ = some (.slice e.A e.bs.length e.c) ∧ W.cell? ⟨ba, k * 6 + 2, none⟩ = some (.string e.nm) ∧ W.cell? ⟨ba, k * 6 + 3, none⟩ = some (.int .i64 e.host) ∧ W.cell? ⟨ba, k * 6 + 4, none⟩ = some (.int .i64 e.n) ∧ W.cell? ⟨ba, k * 6 + 5, none⟩ = some (.bool e.up)) from fun W hW => HFR.out W (K4.out.trans (hW.mono K4.out.size)))
        go_cut [35] (fun v wx => v = .bool false ∧ Hid (Below w4.heap.size w4 wx))
        case first =>
          go_wp2_with fail
          have s0 := HS4.out w4.drew (Below.refl _ _).drew
          have K2 := Lib.hid ((Below.refl w4.heap.size w4).drew)
          go_region_held3 (fun w' => w'.cell? ⟨ba, k * 6, none⟩ = some (.int .i64 e.kind) ∧ w'.cell? ⟨ba, k * 6 + 1, none⟩ = some (.slice e.A e.bs.length e.c) ∧ w'.cell? ⟨ba, k * 6 + 2, none⟩ = some (.string e.nm) ∧ w'.cell? ⟨ba, k * 6 + 3, none⟩ = some (.int .i64 e.host) ∧ w'.cell? ⟨ba, k * 6 + 4, none⟩ = some (.int .i64 e.n) ∧ w'.cell? ⟨ba, k * 6 + 5, none⟩ = some (.bool e.up)) (first | with_reducible assumption | exact HS4.out _ K6.out | exact HS4.out _ K5.out | exact HS4.out _ K2.out)
            (first
              | (go_at_call 7
                 (first | (with_reducible refine (HRP.out _).mono ?_))
                 rintro o w5 ⟨rfl, hb5⟩
                 have K5 := Lib.hid (show Below w4.heap.size w4 w5 from by first | exact K6.out.trans (hb5.mono K6.out.size) | exact K2.out.trans (hb5.mono K2.out.size))
                 have s5 := HS4.out w5 K5.out
                 clear hb5)
              | (go_at_call 6
                 (first | (with_reducible refine (HLR.out _).mono ?_))
                 rintro o w6 ⟨rfl, hb6⟩
                 have K6 := Lib.hid (show Below w4.heap.size w4 w6 from by first | exact K5.out.trans (hb6.mono K5.out.size) | exact K2.out.trans (hb6.mono K2.out.size))
                 have s6 := HS4.out w6 K6.out
                 clear hb6))
          all_goals
            go_wp2_with fail
            go_meet
            first
              | exact ⟨rfl, K6⟩
              | exact ⟨rfl, K5⟩
        case rest =>
          obtain ⟨rfl, HKC⟩ := hcut
          have HBW := Lib.hid (HB4.out.trans (HKC.out.mono HB4.out.size))
          go_wp2_with fail
          go_roundw
          case rel => exact ⟨k + 1, by omega, by go_num, _, rfl, Lib.hid (by rw [HNX.out, ← HBD.out]; rfl), HBW⟩
          case measure => simp [intOf]; omega
    · obtain rfl : k = q := by omega
      have t1 : decide ((k : Int) < k) = false := decide_eq_false (by omega)
      have hbd := HBD.out
      rw [HQ.out, List.take_length] at hbd
      have HBY := Lib.hid (bytes_any A1 k c1 m wr (HO1.out.below HB.out) HQ.out (HQ.out ▸ hq40) hk1 hk2)
      have HBD2 := Lib.hid hbd
      clear hbd
      go_wp2_with fail
      refine HBY.out.mono ?_
      rintro o w5 ⟨hb5, ⟨hall, v5, rfl, ho5⟩ | ⟨hbad, rfl⟩⟩
      · obtain rfl : b = true := by rw [HBD2.out]; exact (allR_iff m).mpr hall
        have HALL := Lib.hid hall
        have HMB := Lib.hid (show ∀ o ∈ m, o.nm.size ≤ 255 ∧ ∀ x ∈ o.bs, 0 ≤ x ∧ x ≤ 255 from fun o ho => ⟨by have := hall o ho; unfold Ob.right RightP at this; omega, (HO1.out.els o ho).u8⟩)
        have hX8 : 0 < (allO m).length := by unfold allO; rw [List.length_append, List.length_append, pb_len]; simp; omega
        obtain ⟨g, cap, rfl, g1, g2, g3, g4, hcell, _⟩ := own_form ho5 hX8
        have HB5 := Lib.hid (HB.out.trans (hb5.mono HB.out.size))
        have hli : Lies w5 g 0 (allO m) := fun i hi => by
          rw [Nat.zero_add, hcell i hi, List.getElem?_map, List.getElem?_eq_getElem hi, List.getD_eq_getElem?_getD, List.getElem?_eq_getElem hi]
          rfl
        have HRD := Lib.hid (read_ops g 0 (allO m).length cap m w5 rfl g3 (by unfold maxLen at g4; omega) g2 hli (HQ.out ▸ hq40) hall (fun o ho => (HO1.out.els o ho).l300) (fun o ho => opB_u8 o (HO1.out.els o ho).u8))
        have HRW := Lib.hid (hli.row g2)
        obtain ⟨X, hX⟩ : ∃ X, X = allO m := ⟨_, rfl⟩
        obtain ⟨N, hN⟩ : ∃ N, N = X.length := ⟨_, rfl⟩
        rw [← hX] at HRD HRW
        rw [← hX, ← hN]
        rw [← hN] at HRD
        have HX := Lib.hid hX
        have HNL := Lib.hid hN
        clear hall ho5 hb5 hcell hli hX8 g1 g3 g4 hX hN
        go_wp2_with fail
        refine HRD.out.mono ?_
        rintro o w6 ⟨hb6, v6, L, rfl, hre, hg⟩
        have hLl : L.length = k := by rw [← List.length_map (f := Ob.re), hre, List.length_map, HQ.out]
        obtain ⟨A6, c6, hv6⟩ := own_sliceN hg.row
        subst hv6
        rw [hLl]
        rw [hLl] at hg
        have HB6 := Lib.hid (HB5.out.trans (hb6.mono HB5.out.size))
        have HG6 := Lib.hid hg
        have HRE := Lib.hid hre
        have HLL := Lib.hid hLl
        obtain ⟨TX, hTX⟩ : ∃ TX, TX = strOfNums X := ⟨_, rfl⟩
        have HTX := Lib.hid hTX
        clear hTX
        have HCV := Lib.hid (show ∀ V, Below w6.heap.size w6 V → (convert 25 9 (.slice (some ⟨g, 0, none⟩) N cap)).run Try.prog V = .ok (.string TX) V from fun V hV => by rw [HTX.out]; exact conv_row (c := cap) (HRW.out.below (hb6.trans (hV.mono hb6.size))) HNL.out.symm)
        have HLB := Lib.hid (show ∀ V, Below w6.heap.size w6 V → Calls Try.prog 11 #[.slice A1 k c1] V fun o w' => Below V.heap.size V w' ∧ ∃ v, o = .returned v ∧ w'.ownsRow V.heap.size 5 1 v N (X.map (.int .u8)) from fun V hV => by
          have := lbytes_any A1 k c1 m V (HO1.out.below (HB6.out.trans (hV.mono HB6.out.size))) HQ.out (HQ.out ▸ hq40) hk1 hk2 HALL.out
          rw [← HX.out, ← HNL.out] at this
          exact this)
        have HSM := Lib.hid (show ∀ V, Below w6.heap.size w6 V → Calls Try.prog 12 #[.slice A6 k c6, .slice A1 k c1] V fun o w' => o = .returned (.bool true) ∧ Below V.heap.size V w' from fun V hV => same_true A6 A1 k c6 c1 L m V (got_rd (HG6.out.below hV) (re_in HRE.out HMB.out)) (rd_of_ops (HO1.out.below (HB6.out.trans (hV.mono HB6.out.size)))) HLL.out HRE.out (by omega))
        have K2 := Lib.hid ((Below.refl w6.heap.size w6).drew)
        have s2 := HCV.out _ K2.out
        clear hb6 hre hg hLl
        go_wp2_with fail
        refine wp_region_held_drew (S := fun V => (convert 25 9 (.slice (some ⟨g, 0, none⟩) N cap)).run Try.prog V = .ok (.string TX) V) (by kernel_rfl) s2 (fun hHeld => ?_)
        refine wpAnyH_take (i := 0) (v := .int .i64 0) rfl (by kernel_rfl) (by kernel_rfl) (by kernel_rfl) (fun _ _ _ h => h) (Or.inl ⟨by rfl, ?_⟩) (by assumption) ?_
        · intro V hV
          go_simp
        try simp only [List.getElem_toArray, List.getElem_cons_zero, Act.put, List.setIfInBounds_toArray, List.set_cons_zero, List.set_cons_succ]
        refine wpAnyH_take (i := 1) (v := .bool true) rfl (by kernel_rfl) (by kernel_rfl) (by kernel_rfl) (fun _ _ _ h => h) (Or.inl ⟨by rfl, ?_⟩) (by assumption) ?_
        · intro V hV
          go_simp
        try simp only [List.getElem_toArray, List.getElem_cons_zero, List.getElem_cons_succ, Act.put, List.setIfInBounds_toArray, List.set_cons_zero, List.set_cons_succ]
        refine wpAnyH_take (i := 2) (v := .bool true) rfl (by kernel_rfl) (by kernel_rfl) (by kernel_rfl) (fun _ _ _ h => h) (Or.inl ⟨by rfl, ?_⟩) (by assumption) ?_
        · intro V hV
          go_simp
        try simp only [List.getElem_toArray, List.getElem_cons_zero, List.getElem_cons_succ, Act.put, List.setIfInBounds_toArray, List.set_cons_zero, List.set_cons_succ]
        refine wpAnyH_take (i := 3) (v := .slice (some ⟨g, 0, none⟩) N cap) rfl (by kernel_rfl) (by kernel_rfl) (by kernel_rfl) (fun _ _ _ h => h) (Or.inl ⟨by rfl, ?_⟩) (by assumption) ?_
        · intro V hV
          go_simp
        try simp only [List.getElem_toArray, List.getElem_cons_zero, List.getElem_cons_succ, Act.put, List.setIfInBounds_toArray, List.set_cons_zero, List.set_cons_succ]
        refine wpAnyH_take (i := 4) (v := .string TX) rfl (by kernel_rfl) (by kernel_rfl) (by kernel_rfl) (fun _ _ _ h => h) (Or.inl ⟨by rfl, ?_⟩) (by assumption) ?_
        · intro V hV
          go_simp
        try simp only [List.getElem_toArray, List.getElem_cons_zero, List.getElem_cons_succ, Act.put, List.setIfInBounds_toArray, List.set_cons_zero, List.set_cons_succ]
        refine wpAnyH_take (i := 5) (v := .slice A1 k c1) rfl (by kernel_rfl) (by kernel_rfl) (by kernel_rfl) (fun _ _ _ h => h) (Or.inl ⟨by rfl, ?_⟩) (by assumption) ?_
        · intro V hV
          go_simp
        try simp only [List.getElem_toArray, List.getElem_cons_zero, List.getElem_cons_succ, Act.put, List.setIfInBounds_toArray, List.set_cons_zero, List.set_cons_succ]
        refine wpAnyH_ready (rs := [6]) (by kernel_rfl) (by simp) ?_
        refine AllReadyH.cons rfl (fun K hK => ?_) AllReadyH.nil
        go_simp
        go_at_call 11
        (with_reducible refine (HLB.out _ K2.out).mono ?_)
        rintro o w7 ⟨hb7, v7, rfl, ho7⟩
        obtain ⟨A7, c7, hv7⟩ := own_slice ho7
        subst hv7
        have K7 := Lib.hid (K2.out.trans (hb7.mono K2.out.size))
        have cv7 := conv_row (c := c7) (own_row ho7) HNL.out.symm
        rw [← HTX.out] at cv7
        have s7 := HCV.out w7 K7.out
        clear ho7 hb7
        refine hK.out _ _ ?_ (fun hHeld => ?_)
        · exact s7
        clear hK K
        try simp only [List.getElem_toArray, List.getElem_cons_zero, List.getElem_cons_succ, Act.put, List.setIfInBounds_toArray, List.set_cons_zero, List.set_cons_succ]
        refine wpAnyH_ready (rs := [7]) (by kernel_rfl) (by simp) ?_
        refine AllReadyH.cons rfl (fun K hK => ?_) AllReadyH.nil
        go_simp
        refine hK.out _ _ ?_ (fun hHeld => ?_)
        · exact s7
        clear hK K
        try simp only [List.getElem_toArray, List.getElem_cons_zero, List.getElem_cons_succ, Act.put, List.setIfInBounds_toArray, List.set_cons_zero, List.set_cons_succ]
        refine wpAnyH_take (i := 8) (v := ?v8) rfl (by kernel_rfl) (by kernel_rfl) (by kernel_rfl) (fun _ _ _ h => h) (Or.inl ⟨by rfl, ?hy⟩) (by assumption) ?rest
        case hy => (intro V hV; go_simp; try with_reducible rfl)
        try simp only [List.getElem_toArray, List.getElem_cons_zero, List.getElem_cons_succ, Act.put, List.setIfInBounds_toArray, List.set_cons_zero, List.set_cons_succ]
        refine wpAnyH_take (i := 9) (v := .bool true) rfl (by kernel_rfl) (by kernel_rfl) (by kernel_rfl) (fun _ _ _ h => h) (Or.inl ⟨by rfl, ?_⟩) (by assumption) ?_
        · intro V hV
          go_simp
        try simp only [List.getElem_toArray, List.getElem_cons_zero, List.getElem_cons_succ, Act.put, List.setIfInBounds_toArray, List.set_cons_zero, List.set_cons_succ]
        refine wpAnyH_take (i := 10) (v := .bool true) rfl (by kernel_rfl) (by kernel_rfl) (by kernel_rfl) (fun _ _ _ h => h) (Or.inl ⟨by rfl, ?_⟩) (by assumption) ?_
        · intro V hV
          go_simp
        try simp only [List.getElem_toArray, List.getElem_cons_zero, List.getElem_cons_succ, Act.put, List.setIfInBounds_toArray, List.set_cons_zero, List.set_cons_succ]
        refine wpAnyH_take (i := 11) (v := .int .i64 0) rfl (by kernel_rfl) (by kernel_rfl) (by kernel_rfl) (fun _ _ _ h => h) (Or.inl ⟨by rfl, ?_⟩) (by assumption) ?_
        · intro V hV
          go_simp
        try simp only [List.getElem_toArray, List.getElem_cons_zero, List.getElem_cons_succ, Act.put, List.setIfInBounds_toArray, List.set_cons_zero, List.set_cons_succ]
        refine wpAnyH_take (i := 12) (v := .bool true) rfl (by kernel_rfl) (by kernel_rfl) (by kernel_rfl) (fun _ _ _ h => h) (Or.inl ⟨by rfl, ?_⟩) (by assumption) ?_
        · intro V hV
          go_simp
        try simp only [List.getElem_toArray, List.getElem_cons_zero, List.getElem_cons_succ, Act.put, List.setIfInBounds_toArray, List.set_cons_zero, List.set_cons_succ]
        refine wpAnyH_take (i := 13) (v := .bool true) rfl (by kernel_rfl) (by kernel_rfl) (by kernel_rfl) (fun _ _ _ h => h) (Or.inl ⟨by rfl, ?_⟩) (by assumption) ?_
        · intro V hV
          go_simp
        try simp only [List.getElem_toArray, List.getElem_cons_zero, List.getElem_cons_succ, Act.put, List.setIfInBounds_toArray, List.set_cons_zero, List.set_cons_succ]
        refine wpAnyH_take (i := 14) (v := .bool true) rfl (by kernel_rfl) (by kernel_rfl) (by kernel_rfl) (fun _ _ _ h => h) (Or.inl ⟨by rfl, ?_⟩) (by assumption) ?_
        · intro V hV
          go_simp
        try simp only [List.getElem_toArray, List.getElem_cons_zero, List.getElem_cons_succ, Act.put, List.setIfInBounds_toArray, List.set_cons_zero, List.set_cons_succ]
        refine wpAnyH_take (i := 15) (v := .slice A6 k c6) rfl (by kernel_rfl) (by kernel_rfl) (by kernel_rfl) (fun _ _ _ h => h) (Or.inl ⟨by rfl, ?_⟩) (by assumption) ?_
        · intro V hV
          go_simp
        try simp only [List.getElem_toArray, List.getElem_cons_zero, List.getElem_cons_succ, Act.put, List.setIfInBounds_toArray, List.set_cons_zero, List.set_cons_succ]
        refine wpAnyH_take (i := 16) (v := .slice A1 k c1) rfl (by kernel_rfl) (by kernel_rfl) (by kernel_rfl) (fun _ _ _ h => h) (Or.inl ⟨by rfl, ?_⟩) (by assumption) ?_
        · intro V hV
          go_simp
        try simp only [List.getElem_toArray, List.getElem_cons_zero, List.getElem_cons_succ, Act.put, List.setIfInBounds_toArray, List.set_cons_zero, List.set_cons_succ]
        refine wpAnyH_ready (rs := [17]) (by kernel_rfl) (by simp) ?_
        refine AllReadyH.cons rfl (fun K hK => ?_) AllReadyH.nil
        go_simp
        go_at_call 12
        (with_reducible refine (HSM.out _ K7.out).mono ?_)
        rintro o w8 ⟨rfl, hb8⟩
        have K8 := Lib.hid (K7.out.trans (hb8.mono K7.out.size))
        have s8 := HCV.out w8 K8.out
        clear hb8
        refine hK.out _ _ ?_ (fun hHeld => ?_)
        · exact s8
        clear hK K
        try simp only [List.getElem_toArray, List.getElem_cons_zero, List.getElem_cons_succ, Act.put, List.setIfInBounds_toArray, List.set_cons_zero, List.set_cons_succ]
        refine wpAnyH_take (i := 18) (v := .bool true) rfl (by kernel_rfl) (by kernel_rfl) (by kernel_rfl) (fun _ _ _ h => h) (Or.inl ⟨by rfl, ?_⟩) (by assumption) ?_
        · intro V hV
          go_simp
        try simp only [List.getElem_toArray, List.getElem_cons_zero, List.getElem_cons_succ, Act.put, List.setIfInBounds_toArray, List.set_cons_zero, List.set_cons_succ]
        refine wpAnyH_take (i := 19) (v := .bool true) rfl (by kernel_rfl) (by kernel_rfl) (by kernel_rfl) (fun _ _ _ h => h) (Or.inl ⟨by rfl, ?_⟩) (by assumption) ?_
        · intro V hV
          go_simp
        try simp only [List.getElem_toArray, List.getElem_cons_zero, List.getElem_cons_succ, Act.put, List.setIfInBounds_toArray, List.set_cons_zero, List.set_cons_succ]
        refine wpAnyH_ready (rs := [20]) (by kernel_rfl) (by simp) ?_
        refine AllReadyH.cons rfl (fun K hK => ?_) AllReadyH.nil
        go_simp
        go_at_call 9
        (with_reducible refine (awake_any _).mono ?_)
        rintro o w9 ⟨rfl, hb9⟩
        have K9 := Lib.hid (K8.out.trans (hb9.mono K8.out.size))
        have s9 := HCV.out w9 K9.out
        clear hb9
        refine hK.out _ _ ?_ (fun hHeld => ?_)
        · exact s9
        clear hK K
        try simp only [List.getElem_toArray, List.getElem_cons_zero, List.getElem_cons_succ, Act.put, List.setIfInBounds_toArray, List.set_cons_zero, List.set_cons_succ]
        refine wpAnyH_take (i := 21) (v := .bool true) rfl (by kernel_rfl) (by kernel_rfl) (by kernel_rfl) (fun _ _ _ h => h) (Or.inl ⟨by rfl, ?_⟩) (by assumption) ?_
        · intro V hV
          go_simp
        try simp only [List.getElem_toArray, List.getElem_cons_zero, List.getElem_cons_succ, Act.put, List.setIfInBounds_toArray, List.set_cons_zero, List.set_cons_succ]
        refine wpAnyH_take (i := 22) (v := .bool true) rfl (by kernel_rfl) (by kernel_rfl) (by kernel_rfl) (fun _ _ _ h => h) (Or.inl ⟨by rfl, ?_⟩) (by assumption) ?_
        · intro V hV
          go_simp
        try simp only [List.getElem_toArray, List.getElem_cons_zero, List.getElem_cons_succ, Act.put, List.setIfInBounds_toArray, List.set_cons_zero, List.set_cons_succ]
        refine wpAnyH_done (by kernel_rfl) ?_ _
        go_wp2_with fail
        go_ret
        exact ⟨rfl, HB1.out.trans ((HB6.out.trans (K9.out.mono HB6.out.size)).mono HB1.out.size)⟩
      · obtain rfl : b = false := by
          rw [HBD2.out]
          obtain ⟨x, hx, hxr⟩ := hbad
          exact Bool.eq_false_iff.mpr fun h => hxr ((allR_iff m).mp h x hx)
        have HB5 := Lib.hid (HB.out.trans (hb5.mono HB.out.size))
        clear hb5 hbad
        go_wp2_with fail
        refine (awake_any _).mono ?_
        rintro o w6 ⟨rfl, hb6⟩
        have HB6 := Lib.hid (HB5.out.trans (hb6.mono HB5.out.size))
        clear hb6
        go_wp2_with fail
        go_ret
        exact ⟨rfl, HB1.out.trans (HB6.out.mono HB1.out.size)⟩
end Go.Proofs.Ytmlicmcphecakaa.snM
