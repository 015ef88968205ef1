/- Layer 44: SnapReads. -/
import Derived.Test.YtmlicmcphecakaaSnQ
import Derived.Deep.RegionHeld3
import Derived.Deep.DeepCutAuto
import Derived.Deep.RegionWith
namespace Go.Proofs.Ytmlicmcphecakaa.snR
open Go.ChangeShapes Go.WideShapes Go.ChangeAt Go.RowKit
open Go.Proofs.Ytmlicmcphecakaa.base Go.Proofs.Ytmlicmcphecakaa.octA Go.Proofs.Ytmlicmcphecakaa.octB Go.Proofs.Ytmlicmcphecakaa.octC Go.Proofs.Ytmlicmcphecakaa.octF Go.Proofs.Ytmlicmcphecakaa.octK Go.Proofs.Ytmlicmcphecakaa.net Go.Proofs.Ytmlicmcphecakaa.rdrA Go.Proofs.Ytmlicmcphecakaa.snA Go.Proofs.Ytmlicmcphecakaa.snB Go.Proofs.Ytmlicmcphecakaa.snC Go.Proofs.Ytmlicmcphecakaa.snD Go.Proofs.Ytmlicmcphecakaa.snE Go.Proofs.Ytmlicmcphecakaa.snF Go.Proofs.Ytmlicmcphecakaa.snG Go.Proofs.Ytmlicmcphecakaa.snH Go.Proofs.Ytmlicmcphecakaa.snI Go.Proofs.Ytmlicmcphecakaa.snJ Go.Proofs.Ytmlicmcphecakaa.snK Go.Proofs.Ytmlicmcphecakaa.snL Go.Proofs.Ytmlicmcphecakaa.snM Go.Proofs.Ytmlicmcphecakaa.snN Go.Proofs.Ytmlicmcphecakaa.snO Go.Proofs.Ytmlicmcphecakaa.snP Go.Proofs.Ytmlicmcphecakaa.snQ
set_option linter.unusedVariables false

theorem str_inj {a b : List Int} (ha : U8 a) (hb : U8 b) : ((strOfNums a).toList == (strOfNums b).toList) = true ↔ a = b := by
  constructor
  · intro h
    have h1 : (strOfNums a).toList = (strOfNums b).toList := by simpa using h
    rw [ByteArray.toList_eq, ByteArray.toList_eq] at h1
    rw [← Z_str a ha, ← Z_str b hb]
    unfold strZ
    rw [h1]
  · rintro rfl
    simp
theorem U8.opB {o : Ob} (h : U8 o.bs) : U8 (opB o) := opB_u8 o h
theorem U8.allO {l : List Ob} (h : ∀ o ∈ l, U8 o.bs) : U8 (allO l) := fun x hx => by
  unfold Go.Proofs.Ytmlicmcphecakaa.snA.allO at hx
  simp only [List.mem_append] at hx
  rcases hx with (h1 | h1) | h1
  · simp at h1; omega
  · exact pb_in _ _ _ x h1
  · exact Go.Proofs.Ytmlicmcphecakaa.snA.opsB_in l h x h1
set_option maxHeartbeats 8000000 in
set_option maxRecDepth 100000 in
theorem reads_any (A0 : Option Addr) (k0 c0 : Nat) (bl0 : List Int) (A : Option Addr) (c : Nat) (l : List Ob) (w : World) (hr : RdO w A l) (hz : NilC l) (hc1 : l.length ≤ c) (hc2 : c ≤ 9223372036854775807) (hb : BytesIn w A0 k0 c0 bl0) (hu0 : U8 bl0) :
    Calls Try.prog 4 #[.slice A0 k0 c0, .slice A l.length c] w fun o w' => o = .returned (.bool true) ∧ Below w.heap.size w w' := by
  have HFW0 := Lib.hid (few_any A c l w hr hz hc1 hc2)
  obtain ⟨ln, hln⟩ : ∃ n, n = l.length := ⟨_, rfl⟩
  have hm40 := fewL_len l
  rw [← hln] at HFW0 ⊢
  obtain ⟨m, hm⟩ : ∃ m, m = fewL l := ⟨_, rfl⟩
  rw [← hm] at HFW0 hm40
  obtain ⟨q, hq⟩ : ∃ q, q = m.length := ⟨_, rfl⟩
  have HQ := Lib.hid hq
  rw [← hq] at HFW0 hm40
  have hq40 : q ≤ 40 := by omega
  obtain ⟨n0, hn0⟩ : ∃ n0, n0 = min 600 k0 := ⟨_, rfl⟩
  obtain ⟨bl, hbl⟩ : ∃ bl, bl = bl0.take 600 := ⟨_, rfl⟩
  have hbn : bl.length = n0 := by rw [hbl, hn0, List.length_take, hb.len]
  have HB0 := Lib.hid (show BytesIn w A0 n0 c0 bl from by
    rcases hb with ⟨h3, h4⟩ | ⟨b, off, h1, h2, h3, h4, h5, h6⟩
    · exact .inl ⟨by rw [hbl, h3]; rfl, by omega⟩
    · exact .inr ⟨b, off, h1, h2, hbl ▸ h3.take 600, hbn, by omega, h6⟩)
  have HU := Lib.hid (show U8 bl from hbl ▸ fun x hx => hu0 x (List.mem_of_mem_take hx))
  have hn600 : n0 ≤ 600 := by omega
  have HBN := Lib.hid hbn
  have HSL := Lib.hid (show k0 ≤ 600 ∨ 600 < k0 ∧ ∃ b off, A0 = some ⟨b, off, none⟩ ∧ k0 ≤ c0 from by
    rcases hb with ⟨h3, h4⟩ | ⟨b, off, h1, h2, h3, h4, h5, h6⟩
    · exact .inl (by omega)
    · by_cases h9 : 600 < k0
      · exact .inr ⟨h9, b, off, h1, h5⟩
      · exact .inl (by omega))
  have HN0 := Lib.hid hn0
  have HCC := Lib.hid (show 4 ≤ n0 → ∃ b off, A0 = some ⟨b, off, none⟩ ∧ n0 ≤ c0 from fun h => by
    rcases HB0.out with ⟨h3, h4⟩ | ⟨b, off, h1, h2, h3, h4, h5, h6⟩
    · omega
    · exact ⟨b, off, h1, h5⟩)
  clear hr hz hm hq hm40 hln hc1 hc2 hn0 hbl hbn hb hu0
  go_enter Try.func4, Try.ntmps4
  go_upto_if 13 with fail
  go_cut [0] (fun v wx => v = .slice A0 n0 c0 ∧ wx = w)
  case first =>
    rcases HSL.out with h | ⟨h, b, off, hA, hkc⟩
    · have t : decide (600 < (k0 : Int)) = false := decide_eq_false (by omega)
      have t2 : decide (600 < k0) = false := decide_eq_false (by omega)
      obtain rfl : k0 = n0 := by have := HN0.out; omega
      go_wp2_with fail
      go_meet
      exact ⟨rfl, rfl⟩
    · have t : decide (600 < (k0 : Int)) = true := decide_eq_true (by omega)
      have t2 : decide (600 < k0) = true := decide_eq_true (by omega)
      obtain rfl : n0 = 600 := by have := HN0.out; omega
      subst hA
      have hs := slice_to b off k0 c0 600 (by omega) (by omega)
      obtain ⟨r1, r2⟩ := hs
      go_wp2_with fail
      go_meet
      exact ⟨rfl, rfl⟩
  case rest =>
  obtain ⟨rfl, rfl⟩ := hcut
  go_wp2_with fail
  refine HFW0.out.mono ?_
  rintro o w1 ⟨hb1, A1, c1, rfl, ho1, hk1, hk2⟩
  have HO1 := Lib.hid ho1
  have HB1 := Lib.hid hb1
  clear ho1 hb1
  go_wp2_with fail
  go_loopw [5, 6] (fun v i wr => ∃ k : Nat, k ≤ q ∧ i = .int .i64 k ∧ ∃ b, v = .bool b ∧ Hid (b = allR (m.take k)) ∧ Hid (Below w1.heap.size w1 wr)) (fun _ i _ => q - (intOf i).toNat)
  case atStart => exact ⟨0, by omega, rfl, true, rfl, Lib.hid (by simp [allR]), Lib.hid (Below.refl _ _)⟩
  case round =>
    obtain ⟨k, hk, rfl, b, rfl, HBD, HB⟩ := hrel
    by_cases hkq : k < q
    · have t1 : decide ((k : Int) < q) = true := decide_eq_true (by omega)
      have t1n : decide (k < q) = true := decide_eq_true hkq
      have hkl : k < m.length := by have := HQ.out; omega
      obtain ⟨ba, cur, hA, hblk, hcur⟩ := (HO1.out.below HB.out).at_ k hkl
      subst hA
      have hnx := all_next m k hkl
      obtain ⟨e, he⟩ : ∃ e, e = m[k] := ⟨_, rfl⟩
      rw [← he] at hcur hnx
      obtain ⟨z, hz⟩ : ∃ z, z = decide (RightP e.kind e.bs.length e.nm.size e.host e.n) := ⟨_, rfl⟩
      have HNX := Lib.hid (show allR (m.take (k + 1)) = (allR (m.take k) && z) from by rw [hnx, hz]; rfl)
      have HLR := Lib.hid (show ∀ W, Calls Try.prog 6 #[.agg #[.int .i64 e.kind, .slice e.A e.bs.length e.c, .string e.nm, .int .i64 e.host, .int .i64 e.n, .bool e.up]] W fun o w' => o = .returned (.bool z) ∧ Below W.heap.size W w' from fun W => by rw [hz]; exact lright_any e.kind e.A e.bs.length e.c e.nm e.host e.n e.up W)
      have hce : ∀ i, i < 6 → wr.cell? ⟨ba, k * 6 + i, none⟩ = e.cells[i]? := fun i hi => by rw [hblk.cell, hcur i hi]
      have d0 : wr.cell? ⟨ba, k * 6, none⟩ = some (.int .i64 e.kind) := hce 0 (by omega)
      have d1 : wr.cell? ⟨ba, k * 6 + 1, none⟩ = some (.slice e.A e.bs.length e.c) := hce 1 (by omega)
      have d2 : wr.cell? ⟨ba, k * 6 + 2, none⟩ = some (.string e.nm) := hce 2 (by omega)
      have d3 : wr.cell? ⟨ba, k * 6 + 3, none⟩ = some (.int .i64 e.host) := hce 3 (by omega)
      have d4 : wr.cell? ⟨ba, k * 6 + 4, none⟩ = some (.int .i64 e.n) := hce 4 (by omega)
      have d5 : wr.cell? ⟨ba, k * 6 + 5, none⟩ = some (.bool e.up) := hce 5 (by omega)
      have j0 : (0 : Int) ≤ k := by omega
      have j1 : (k : Int) < q := by omega
      have wk : IntKind.i64.wrap ((k : Int) + 1) = (k : Int) + 1 := IntWalk.i64_in _ (by omega)
      clear hnx he hz hce hcur hblk hkl
      cases b with
      | false =>
        go_wp2_with fail
        go_roundw
        case rel => exact ⟨k + 1, by omega, by go_num, false, rfl, Lib.hid (by rw [HNX.out, ← HBD.out]; rfl), HB⟩
        case measure => simp [intOf]; omega
      | true =>
        go_wp2_with fail
        refine (HLR.out _).mono ?_
        rintro o w4 ⟨rfl, hb4⟩
        have HB4 := Lib.hid (HB.out.trans (hb4.mono HB.out.size))
        clear hb4
        go_wp2_with fail
        go_roundw
        case rel => exact ⟨k + 1, by omega, by go_num, z, rfl, Lib.hid (by rw [HNX.out, ← HBD.out]; rfl), HB4⟩
        case measure => simp [intOf]; omega
    · obtain rfl : k = q := by omega
      have t1 : decide ((k : Int) < k) = false := decide_eq_false (by omega)
      have hbd := HBD.out
      rw [HQ.out, List.take_length] at hbd
      have HBD2 := Lib.hid hbd
      have HM := Lib.hid (show ∀ o ∈ m, o.bs.length ≤ 600 ∧ U8 o.bs from fun o ho => ⟨(HO1.out.els o ho).l300, (HO1.out.els o ho).u8⟩)
      have HBI := Lib.hid ((HB0.out.below HB1.out).below (HB.out))
      have HRL := Lib.hid (read_law A0 n0 c0 bl m wr HBI.out (by have := HBN.out; omega) HU.out (HQ.out ▸ hq40) HM.out)
      clear hbd
      go_wp2_with fail
      refine HRL.out.mono ?_
      rintro o w5 ⟨v5, er, L, rfl, hb5, hkn, hok, hno, hsh, hmg⟩
      have HB5 := Lib.hid (HB.out.trans (hb5.mono HB.out.size))
      have HBI5 := Lib.hid (HBI.out.below hb5)
      have HKN := Lib.hid hkn
      have HOK := Lib.hid hok
      have HNO := Lib.hid hno
      have HSH := Lib.hid hsh
      have HMG := Lib.hid hmg
      have HG5 := Lib.hid (show er = 0 → Got w5 (wr.heap.size + 1) v5 L from fun h => (hok h).1)
      clear hb5 hkn hok hno hsh hmg
      go_upto_region 10 with fail
      go_cut [58] (fun v wx => v = .bool false ∧ wx = w5)
      case first =>
        by_cases h4 : 4 ≤ n0
        · have t2 : decide (4 ≤ (n0 : Int)) = true := decide_eq_true (by omega)
          have t3 : decide (4 ≤ n0) = true := decide_eq_true h4
          have t4 : decide ((n0 : Int) < 4) = false := decide_eq_false (by omega)
          have t5 : decide (n0 < 4) = false := decide_eq_false (by omega)
          obtain ⟨b, off, hA, hnc⟩ := HCC.out h4
          subst hA
          obtain ⟨r1, r2⟩ := slice_to b off n0 c0 4 (by omega) (by omega)
          have hrw := HBI5.out.row.take 4
          rw [← List.map_take] at hrw
          have cv := conv_row (n := 4) (c := c0) hrw (by rw [List.length_take, HBN.out]; omega)
          obtain ⟨tx, htx⟩ : ∃ tx, tx = strOfNums (bl.take 4) := ⟨_, rfl⟩
          rw [← htx] at cv
          have HTX := Lib.hid (show (tx.toList == [68, 83, 84, 49]) = true ↔ bl.take 4 = Magic from by
            have := str_inj (fun x hx => HU.out x (List.mem_of_mem_take hx) : U8 (bl.take 4)) (by unfold U8 Magic; simp : U8 Magic)
            rw [← htx, show (strOfNums Magic).toList = [68, 83, 84, 49] from by rw [ByteArray.toList_eq]; rfl] at this
            exact this)
          clear hrw htx
          cases hq : (tx.toList == [68, 83, 84, 49]) with
          | true =>
            go_wp2_with fail
            go_meet
            exact ⟨rfl, rfl⟩
          | false =>
            obtain rfl : er = 4 := HMG.out (by have := HBN.out; omega) (fun h => by rw [HTX.out.mpr h] at hq; cases hq)
            go_wp2_with fail
            go_meet
            exact ⟨rfl, rfl⟩
        · have t2 : decide (4 ≤ (n0 : Int)) = false := decide_eq_false (by omega)
          have t3 : decide (4 ≤ n0) = false := decide_eq_false h4
          have t4 : decide ((n0 : Int) < 4) = true := decide_eq_true (by omega)
          have t5 : decide (n0 < 4) = true := decide_eq_true (by omega)
          obtain rfl : er = 2 := HSH.out (by have := HBN.out; omega)
          go_wp2_with fail
          go_meet
          exact ⟨rfl, rfl⟩
      case rest =>
      obtain ⟨rfl, hw9⟩ := hcut
      rw [hw9]
      clear hw9
      obtain ⟨TX, hTX⟩ : ∃ TX, TX = strOfNums bl := ⟨_, rfl⟩
      have HTX := Lib.hid hTX
      have HCV5 := Lib.hid (show ∀ V, Below w5.heap.size w5 V → (convert 25 9 (.slice A0 n0 c0)).run Try.prog V = .ok (.string TX) V from fun V hV => by rw [HTX.out]; exact conv_row (c := c0) (HBI5.out.below hV).row HBN.out)
      clear hTX
      by_cases her : er = 0
      · subst her
        obtain ⟨hg, hrt, hall, hwf⟩ := HOK.out rfl
        obtain ⟨A6, c6, hv6⟩ := own_sliceN hg.row
        obtain ⟨p, hp⟩ : ∃ p, p = L.length := ⟨_, rfl⟩
        rw [← hp] at hv6
        subst hv6
        obtain ⟨hob, hL40⟩ := got_in hg hp.symm hrt hall (by have := HBN.out; omega) hwf
        have hgr := hg.row
        rw [← hp] at hgr
        have hcap := own_cap hgr
        clear hgr
        have HOB := Lib.hid hob
        have HRT := Lib.hid hrt
        have HAL := Lib.hid hall
        have HP := Lib.hid hp
        have HCAP := Lib.hid hcap
        have HL40 := Lib.hid hL40
        have hp40 : p ≤ 40 := by omega
        clear hg hrt hall hwf hp hob hcap hL40
        go_wp2_with fail
        go_loopw [10] (fun i wr => ∃ j : Nat, j ≤ p ∧ i = .int .i64 j ∧ Hid (Below w5.heap.size w5 wr)) (fun i _ => p - (intOf i).toNat)
        case atStart => exact ⟨0, by omega, rfl, Lib.hid (Below.refl _ _)⟩
        case round =>
          obtain ⟨j, hj, rfl, HBJ⟩ := hrel
          by_cases hjp : j < p
          · have t1 : decide ((j : Int) < p) = true := decide_eq_true (by omega)
            have t1n : decide (j < p) = true := decide_eq_true hjp
            have hjl : j < L.length := by have := HP.out; omega
            obtain ⟨ba, cur, hA, hblk, hcur⟩ := (HOB.out.below HBJ.out).at_ j hjl
            subst hA
            have hrj := HRT.out L[j] (List.getElem_mem hjl)
            obtain ⟨e, he⟩ : ∃ e, e = L[j] := ⟨_, rfl⟩
            rw [← he] at hcur hrj
            have HLR := Lib.hid (show ∀ W, Calls Try.prog 6 #[.agg #[.int .i64 e.kind, .slice e.A e.bs.length e.c, .string e.nm, .int .i64 e.host, .int .i64 e.n, .bool e.up]] W fun o w' => o = .returned (.bool true) ∧ Below W.heap.size W w' from fun W => by
              have := lright_any e.kind e.A e.bs.length e.c e.nm e.host e.n e.up W
              rw [show decide (RightP e.kind e.bs.length e.nm.size e.host e.n) = true from decide_eq_true hrj] at this
              exact this)
            have hce : ∀ i, i < 6 → wr.cell? ⟨ba, j * 6 + i, none⟩ = e.cells[i]? := fun i hi => by rw [hblk.cell, hcur i hi]
            have d0 : wr.cell? ⟨ba, j * 6, none⟩ = some (.int .i64 e.kind) := hce 0 (by omega)
            have d1 : wr.cell? ⟨ba, j * 6 + 1, none⟩ = some (.slice e.A e.bs.length e.c) := hce 1 (by omega)
            have d2 : wr.cell? ⟨ba, j * 6 + 2, none⟩ = some (.string e.nm) := hce 2 (by omega)
            have d3 : wr.cell? ⟨ba, j * 6 + 3, none⟩ = some (.int .i64 e.host) := hce 3 (by omega)
            have d4 : wr.cell? ⟨ba, j * 6 + 4, none⟩ = some (.int .i64 e.n) := hce 4 (by omega)
            have d5 : wr.cell? ⟨ba, j * 6 + 5, none⟩ = some (.bool e.up) := hce 5 (by omega)
            have j0 : (0 : Int) ≤ j := by omega
            have j1 : (j : Int) < p := by omega
            have wk : IntKind.i64.wrap ((j : Int) + 1) = (j : Int) + 1 := IntWalk.i64_in _ (by omega)
            clear he hce hcur hblk hjl hrj
            go_wp2_with fail
            refine (HLR.out _).mono ?_
            rintro o w4 ⟨rfl, hb4⟩
            have HB4 := Lib.hid (HBJ.out.trans (hb4.mono HBJ.out.size))
            clear hb4
            go_wp2_with fail
            go_roundw
            case rel => exact ⟨j + 1, by omega, by go_num, HB4⟩
            case measure => simp [intOf]; omega
          · obtain rfl : j = p := by omega
            obtain ⟨p, hp9⟩ : ∃ p, p = j := ⟨_, rfl⟩
            subst hp9
            have t1 : decide ((p : Int) < p) = false := decide_eq_false (by omega)
            have HBZ := Lib.hid (HB5.out.trans (HBJ.out.mono HB5.out.size))
            have HCV := Lib.hid (show ∀ V, Below wr.heap.size wr V → (convert 25 9 (.slice A0 n0 c0)).run Try.prog V = .ok (.string TX) V from fun V hV => HCV5.out V (HBJ.out.trans (hV.mono HBJ.out.size)))
            have HXL := Lib.hid HBN.out
            have HLB := Lib.hid (show ∀ V, Below wr.heap.size wr V → Calls Try.prog 11 #[.slice A6 p c6] V fun o w' => Below V.heap.size V w' ∧ ∃ v, o = .returned v ∧ w'.ownsRow V.heap.size 5 1 v n0 (bl.map (.int .u8)) from fun V hV => by
              have := lbytes_any A6 p c6 L V ((HOB.out.below HBJ.out).below hV) HP.out HL40.out HCAP.out.1 HCAP.out.2 HRT.out
              rw [HAL.out, HBN.out] at this
              exact this)
            have K2 := Lib.hid ((Below.refl wr.heap.size wr).drew)
            have s2 := HCV.out _ K2.out
            go_wp2_with fail
            refine wp_region_held_drew (S := fun V => (convert 25 9 (.slice A0 n0 c0)).run Try.prog V = .ok (.string TX) V) (by kernel_rfl) s2 (fun hHeld => ?_)
            refine wpAnyH_take (i := 0) (v := .slice A6 p c6) rfl (by kernel_rfl) (by kernel_rfl) (by kernel_rfl) (fun _ _ _ h => h) (Or.inl ⟨by rfl, ?_⟩) (by assumption) ?_
            · intro V hV
              go_simp
            try simp only [List.getElem_toArray, List.getElem_cons_zero, Act.put, List.setIfInBounds_toArray, List.set_cons_zero, List.set_cons_succ]
            refine wpAnyH_take (i := 3) (v := .slice A0 n0 c0) rfl (by kernel_rfl) (by kernel_rfl) (by kernel_rfl) (fun _ _ _ h => h) (Or.inl ⟨by rfl, ?_⟩) (by assumption) ?_
            · intro V hV
              go_simp
            try simp only [List.getElem_toArray, List.getElem_cons_zero, List.getElem_cons_succ, Act.put, List.setIfInBounds_toArray, List.set_cons_zero, List.set_cons_succ]
            refine wpAnyH_take (i := 4) (v := .string TX) rfl (by kernel_rfl) (by kernel_rfl) (by kernel_rfl) (fun _ _ _ h => h) (Or.inl ⟨by rfl, ?_⟩) (by assumption) ?_
            · intro V hV
              go_simp
            try simp only [List.getElem_toArray, List.getElem_cons_zero, List.getElem_cons_succ, Act.put, List.setIfInBounds_toArray, List.set_cons_zero, List.set_cons_succ]
            refine wpAnyH_ready (rs := [1]) (by kernel_rfl) (by simp) ?_
            refine AllReadyH.cons rfl (fun K hK => ?_) AllReadyH.nil
            go_simp
            go_at_call 11
            (with_reducible refine (HLB.out _ K2.out).mono ?_)
            rintro o w7 ⟨hb7, v7, rfl, ho7⟩
            obtain ⟨A7, c7, hv7⟩ := own_slice ho7
            subst hv7
            have K7 := Lib.hid (K2.out.trans (hb7.mono K2.out.size))
            have cv7 := conv_row (c := c7) (own_row ho7) HXL.out
            rw [← HTX.out] at cv7
            have s7 := HCV.out w7 K7.out
            clear ho7 hb7
            refine hK.out _ _ ?_ (fun hHeld => ?_)
            · exact s7
            clear hK K
            try simp only [List.getElem_toArray, List.getElem_cons_zero, List.getElem_cons_succ, Act.put, List.setIfInBounds_toArray, List.set_cons_zero, List.set_cons_succ]
            refine wpAnyH_ready (rs := [2]) (by kernel_rfl) (by simp) ?_
            refine AllReadyH.cons rfl (fun K hK => ?_) AllReadyH.nil
            go_simp
            refine hK.out _ _ ?_ (fun hHeld => ?_)
            · exact s7
            clear hK K
            try simp only [List.getElem_toArray, List.getElem_cons_zero, List.getElem_cons_succ, Act.put, List.setIfInBounds_toArray, List.set_cons_zero, List.set_cons_succ]
            refine wpAnyH_take (i := 5) (v := ?v5) rfl (by kernel_rfl) (by kernel_rfl) (by kernel_rfl) (fun _ _ _ h => h) (Or.inl ⟨by rfl, ?hy⟩) (by assumption) ?rest
            case hy => (intro V hV; go_simp; try with_reducible rfl)
            try simp only [List.getElem_toArray, List.getElem_cons_zero, List.getElem_cons_succ, Act.put, List.setIfInBounds_toArray, List.set_cons_zero, List.set_cons_succ]
            refine wpAnyH_take (i := 6) (v := .bool true) rfl (by kernel_rfl) (by kernel_rfl) (by kernel_rfl) (fun _ _ _ h => h) (Or.inl ⟨by rfl, ?_⟩) (by assumption) ?_
            · intro V hV
              go_simp
            try simp only [List.getElem_toArray, List.getElem_cons_zero, List.getElem_cons_succ, Act.put, List.setIfInBounds_toArray, List.set_cons_zero, List.set_cons_succ]
            refine wpAnyH_ready (rs := [7]) (by kernel_rfl) (by simp) ?_
            refine AllReadyH.cons rfl (fun K hK => ?_) AllReadyH.nil
            go_simp
            go_at_call 9
            (with_reducible refine (awake_any _).mono ?_)
            rintro o w9 ⟨rfl, hb9⟩
            have K9 := Lib.hid (K7.out.trans (hb9.mono K7.out.size))
            have s9 := HCV.out w9 K9.out
            clear hb9
            refine hK.out _ _ ?_ (fun hHeld => ?_)
            · exact s9
            clear hK K
            try simp only [List.getElem_toArray, List.getElem_cons_zero, List.getElem_cons_succ, Act.put, List.setIfInBounds_toArray, List.set_cons_zero, List.set_cons_succ]
            refine wpAnyH_take (i := 8) (v := .bool true) rfl (by kernel_rfl) (by kernel_rfl) (by kernel_rfl) (fun _ _ _ h => h) (Or.inl ⟨by rfl, ?_⟩) (by assumption) ?_
            · intro V hV
              go_simp
            try simp only [List.getElem_toArray, List.getElem_cons_zero, List.getElem_cons_succ, Act.put, List.setIfInBounds_toArray, List.set_cons_zero, List.set_cons_succ]
            refine wpAnyH_take (i := 9) (v := .bool true) rfl (by kernel_rfl) (by kernel_rfl) (by kernel_rfl) (fun _ _ _ h => h) (Or.inl ⟨by rfl, ?_⟩) (by assumption) ?_
            · intro V hV
              go_simp
            try simp only [List.getElem_toArray, List.getElem_cons_zero, List.getElem_cons_succ, Act.put, List.setIfInBounds_toArray, List.set_cons_zero, List.set_cons_succ]
            refine wpAnyH_done (by kernel_rfl) ?_ _
            go_wp2_with fail
            go_ret
            exact ⟨rfl, HB1.out.trans ((HBZ.out.trans (K9.out.mono HBZ.out.size)).mono HB1.out.size)⟩
      · obtain ⟨rfl, hna⟩ := HNO.out her
        have HNA := Lib.hid hna
        have t : (er != 0) = true := by simpa using her
        have HER := Lib.hid her
        clear hna her
        go_upto_region 13 with fail
        go_cut [9] (fun v wy => v = .bool true ∧ wy = w5)
        case first =>
          rcases HKN.out with rfl | rfl | rfl | rfl | rfl
          · exact absurd rfl HER.out
          all_goals
            go_wp2_with fail
            go_meet
            exact ⟨rfl, rfl⟩
        case rest =>
        obtain ⟨rfl, hw9⟩ := hcut
        rw [hw9]
        clear hw9
        have HBZ := HB5
        have HCV := HCV5
        have K2 := Lib.hid ((Below.refl w5.heap.size w5).drew)
        have s2 := HCV.out _ K2.out
        cases b with
        | false =>
          go_wp2_with fail
          refine wp_region_held_drew (S := fun V => (convert 25 9 (.slice A0 n0 c0)).run Try.prog V = .ok (.string TX) V) (by kernel_rfl) s2 (fun hHeld => ?_)
          refine wpAnyH_take (i := 0) (v := .bool true) rfl (by kernel_rfl) (by kernel_rfl) (by kernel_rfl) (fun _ _ _ h => h) (Or.inl ⟨by rfl, ?_⟩) (by assumption) ?_
          · intro V hV
            go_simp
          try simp only [List.getElem_toArray, List.getElem_cons_zero, Act.put, List.setIfInBounds_toArray, List.set_cons_zero, List.set_cons_succ]
          refine wpAnyH_take (i := 1) (v := .bool true) rfl (by kernel_rfl) (by kernel_rfl) (by kernel_rfl) (fun _ _ _ h => h) (Or.inl ⟨by rfl, ?_⟩) (by assumption) ?_
          · intro V hV
            go_simp
          try simp only [List.getElem_toArray, List.getElem_cons_zero, List.getElem_cons_succ, Act.put, List.setIfInBounds_toArray, List.set_cons_zero, List.set_cons_succ]
          refine wpAnyH_take (i := 2) (v := .slice none 0 0) rfl (by kernel_rfl) (by kernel_rfl) (by kernel_rfl) (fun _ _ _ h => h) (Or.inl ⟨by rfl, ?_⟩) (by assumption) ?_
          · intro V hV
            go_simp
          try simp only [List.getElem_toArray, List.getElem_cons_zero, List.getElem_cons_succ, Act.put, List.setIfInBounds_toArray, List.set_cons_zero, List.set_cons_succ]
          refine wpAnyH_take (i := 3) (v := .int .i64 0) rfl (by kernel_rfl) (by kernel_rfl) (by kernel_rfl) (fun _ _ _ h => h) (Or.inl ⟨by rfl, ?_⟩) (by assumption) ?_
          · intro V hV
            go_simp
          try simp only [List.getElem_toArray, List.getElem_cons_zero, List.getElem_cons_succ, Act.put, List.setIfInBounds_toArray, List.set_cons_zero, List.set_cons_succ]
          refine wpAnyH_take (i := 4) (v := .bool true) rfl (by kernel_rfl) (by kernel_rfl) (by kernel_rfl) (fun _ _ _ h => h) (Or.inl ⟨by rfl, ?_⟩) (by assumption) ?_
          · intro V hV
            go_simp
          try simp only [List.getElem_toArray, List.getElem_cons_zero, List.getElem_cons_succ, Act.put, List.setIfInBounds_toArray, List.set_cons_zero, List.set_cons_succ]
          refine wpAnyH_take (i := 5) (v := .bool true) rfl (by kernel_rfl) (by kernel_rfl) (by kernel_rfl) (fun _ _ _ h => h) (Or.inl ⟨by rfl, ?_⟩) (by assumption) ?_
          · intro V hV
            go_simp
          try simp only [List.getElem_toArray, List.getElem_cons_zero, List.getElem_cons_succ, Act.put, List.setIfInBounds_toArray, List.set_cons_zero, List.set_cons_succ]
          refine wpAnyH_take (i := 6) (v := .bool true) rfl (by kernel_rfl) (by kernel_rfl) (by kernel_rfl) (fun _ _ _ h => h) (Or.inl ⟨by rfl, ?_⟩) (by assumption) ?_
          · intro V hV
            go_simp
          try simp only [List.getElem_toArray, List.getElem_cons_zero, List.getElem_cons_succ, Act.put, List.setIfInBounds_toArray, List.set_cons_zero, List.set_cons_succ]
          refine wpAnyH_take (i := 7) (v := .bool false) rfl (by kernel_rfl) (by kernel_rfl) (by kernel_rfl) (fun _ _ _ h => h) (Or.inl ⟨by rfl, ?_⟩) (by assumption) ?_
          · intro V hV
            go_simp
          try simp only [List.getElem_toArray, List.getElem_cons_zero, List.getElem_cons_succ, Act.put, List.setIfInBounds_toArray, List.set_cons_zero, List.set_cons_succ]
          refine wpAnyH_take (i := 8) (v := .bool true) rfl (by kernel_rfl) (by kernel_rfl) (by kernel_rfl) (fun _ _ _ h => h) (Or.inl ⟨by rfl, ?_⟩) (by assumption) ?_
          · intro V hV
            go_simp
          try simp only [List.getElem_toArray, List.getElem_cons_zero, List.getElem_cons_succ, Act.put, List.setIfInBounds_toArray, List.set_cons_zero, List.set_cons_succ]
          refine wpAnyH_take (i := 9) (v := .bool true) rfl (by kernel_rfl) (by kernel_rfl) (by kernel_rfl) (fun _ _ _ h => h) (Or.inl ⟨by rfl, ?_⟩) (by assumption) ?_
          · intro V hV
            go_simp
          try simp only [List.getElem_toArray, List.getElem_cons_zero, List.getElem_cons_succ, Act.put, List.setIfInBounds_toArray, List.set_cons_zero, List.set_cons_succ]
          refine wpAnyH_take (i := 10) (v := undef) rfl (by kernel_rfl) (by kernel_rfl) (by kernel_rfl) (fun _ _ _ h => h) (Or.inr ⟨by rfl, rfl⟩) (by assumption) ?_
          try simp only [List.getElem_toArray, List.getElem_cons_zero, List.getElem_cons_succ, Act.put, List.setIfInBounds_toArray, List.set_cons_zero, List.set_cons_succ]
          refine wpAnyH_take (i := 11) (v := undef) rfl (by kernel_rfl) (by kernel_rfl) (by kernel_rfl) (fun _ _ _ h => h) (Or.inr ⟨by rfl, rfl⟩) (by assumption) ?_
          try simp only [List.getElem_toArray, List.getElem_cons_zero, List.getElem_cons_succ, Act.put, List.setIfInBounds_toArray, List.set_cons_zero, List.set_cons_succ]
          refine wpAnyH_take (i := 12) (v := undef) rfl (by kernel_rfl) (by kernel_rfl) (by kernel_rfl) (fun _ _ _ h => h) (Or.inr ⟨by rfl, rfl⟩) (by assumption) ?_
          try simp only [List.getElem_toArray, List.getElem_cons_zero, List.getElem_cons_succ, Act.put, List.setIfInBounds_toArray, List.set_cons_zero, List.set_cons_succ]
          refine wpAnyH_take (i := 13) (v := undef) rfl (by kernel_rfl) (by kernel_rfl) (by kernel_rfl) (fun _ _ _ h => h) (Or.inr ⟨by rfl, rfl⟩) (by assumption) ?_
          try simp only [List.getElem_toArray, List.getElem_cons_zero, List.getElem_cons_succ, Act.put, List.setIfInBounds_toArray, List.set_cons_zero, List.set_cons_succ]
          refine wpAnyH_take (i := 14) (v := undef) rfl (by kernel_rfl) (by kernel_rfl) (by kernel_rfl) (fun _ _ _ h => h) (Or.inr ⟨by rfl, rfl⟩) (by assumption) ?_
          try simp only [List.getElem_toArray, List.getElem_cons_zero, List.getElem_cons_succ, Act.put, List.setIfInBounds_toArray, List.set_cons_zero, List.set_cons_succ]
          refine wpAnyH_take (i := 15) (v := undef) rfl (by kernel_rfl) (by kernel_rfl) (by kernel_rfl) (fun _ _ _ h => h) (Or.inr ⟨by rfl, rfl⟩) (by assumption) ?_
          try simp only [List.getElem_toArray, List.getElem_cons_zero, List.getElem_cons_succ, Act.put, List.setIfInBounds_toArray, List.set_cons_zero, List.set_cons_succ]
          refine wpAnyH_take (i := 16) (v := .bool true) rfl (by kernel_rfl) (by kernel_rfl) (by kernel_rfl) (fun _ _ _ h => h) (Or.inl ⟨by rfl, ?_⟩) (by assumption) ?_
          · intro V hV
            go_simp
          try simp only [List.getElem_toArray, List.getElem_cons_zero, List.getElem_cons_succ, Act.put, List.setIfInBounds_toArray, List.set_cons_zero, List.set_cons_succ]
          refine wpAnyH_take (i := 17) (v := .bool true) rfl (by kernel_rfl) (by kernel_rfl) (by kernel_rfl) (fun _ _ _ h => h) (Or.inl ⟨by rfl, ?_⟩) (by assumption) ?_
          · intro V hV
            go_simp
          try simp only [List.getElem_toArray, List.getElem_cons_zero, List.getElem_cons_succ, Act.put, List.setIfInBounds_toArray, List.set_cons_zero, List.set_cons_succ]
          refine wpAnyH_take (i := 18) (v := .bool true) rfl (by kernel_rfl) (by kernel_rfl) (by kernel_rfl) (fun _ _ _ h => h) (Or.inl ⟨by rfl, ?_⟩) (by assumption) ?_
          · intro V hV
            go_simp
          try simp only [List.getElem_toArray, List.getElem_cons_zero, List.getElem_cons_succ, Act.put, List.setIfInBounds_toArray, List.set_cons_zero, List.set_cons_succ]
          refine wpAnyH_ready (rs := [19]) (by kernel_rfl) (by simp) ?_
          refine AllReadyH.cons rfl (fun K hK => ?_) AllReadyH.nil
          go_simp
          go_at_call 9
          (with_reducible refine (awake_any _).mono ?_)
          rintro o w9 ⟨rfl, hb9⟩
          have K9 := Lib.hid (K2.out.trans (hb9.mono K2.out.size))
          have s9 := HCV.out w9 K9.out
          clear hb9
          refine hK.out _ _ ?_ (fun hHeld => ?_)
          · exact s9
          clear hK K
          try simp only [List.getElem_toArray, List.getElem_cons_zero, List.getElem_cons_succ, Act.put, List.setIfInBounds_toArray, List.set_cons_zero, List.set_cons_succ]
          refine wpAnyH_take (i := 20) (v := .bool true) rfl (by kernel_rfl) (by kernel_rfl) (by kernel_rfl) (fun _ _ _ h => h) (Or.inl ⟨by rfl, ?_⟩) (by assumption) ?_
          · intro V hV
            go_simp
          try simp only [List.getElem_toArray, List.getElem_cons_zero, List.getElem_cons_succ, Act.put, List.setIfInBounds_toArray, List.set_cons_zero, List.set_cons_succ]
          refine wpAnyH_take (i := 21) (v := .bool true) rfl (by kernel_rfl) (by kernel_rfl) (by kernel_rfl) (fun _ _ _ h => h) (Or.inl ⟨by rfl, ?_⟩) (by assumption) ?_
          · intro V hV
            go_simp
          try simp only [List.getElem_toArray, List.getElem_cons_zero, List.getElem_cons_succ, Act.put, List.setIfInBounds_toArray, List.set_cons_zero, List.set_cons_succ]
          refine wpAnyH_done (by kernel_rfl) ?_ _
          go_wp2_with fail
          go_ret
          exact ⟨rfl, HB1.out.trans ((HBZ.out.trans (K9.out.mono HBZ.out.size)).mono HB1.out.size)⟩
        | true =>
          have hall := (allR_iff m).mp (HBD2.out.symm)
          obtain ⟨XL, hXL⟩ : ∃ XL, XL = (allO m).length := ⟨_, rfl⟩
          have HXL := Lib.hid hXL.symm
          have HLB := Lib.hid (show ∀ V, Below w5.heap.size w5 V → Calls Try.prog 11 #[.slice A1 k c1] V fun o w' => Below V.heap.size V w' ∧ ∃ v, o = .returned v ∧ w'.ownsRow V.heap.size 5 1 v XL ((allO m).map (.int .u8)) from fun V hV => by
            have := lbytes_any A1 k c1 m V (HO1.out.below (HBZ.out.trans (hV.mono HBZ.out.size))) HQ.out (HQ.out ▸ hq40) hk1 hk2 hall
            rw [← hXL] at this
            exact this)
          obtain ⟨TY, hTY⟩ : ∃ TY, TY = strOfNums (allO m) := ⟨_, rfl⟩
          have HTY := Lib.hid hTY
          have hne : (TY.toList == TX.toList) = false := Bool.eq_false_iff.mpr fun h => by
            rw [hTY, HTX.out] at h
            exact HNA.out ⟨HBD2.out.symm, (str_inj (U8.allO fun o ho => (HM.out o ho).2) HU.out).mp h⟩
          clear hXL hTY hall
          go_wp2_with fail
          refine wp_region_held_drew (S := fun V => (convert 25 9 (.slice A0 n0 c0)).run Try.prog V = .ok (.string TX) V) (by kernel_rfl) s2 (fun hHeld => ?_)
          refine wpAnyH_take (i := 0) (v := .bool true) rfl (by kernel_rfl) (by kernel_rfl) (by kernel_rfl) (fun _ _ _ h => h) (Or.inl ⟨by rfl, ?_⟩) (by assumption) ?_
          · intro V hV
            go_simp
          try simp only [List.getElem_toArray, List.getElem_cons_zero, Act.put, List.setIfInBounds_toArray, List.set_cons_zero, List.set_cons_succ]
          refine wpAnyH_take (i := 1) (v := .bool true) rfl (by kernel_rfl) (by kernel_rfl) (by kernel_rfl) (fun _ _ _ h => h) (Or.inl ⟨by rfl, ?_⟩) (by assumption) ?_
          · intro V hV
            go_simp
          try simp only [List.getElem_toArray, List.getElem_cons_zero, List.getElem_cons_succ, Act.put, List.setIfInBounds_toArray, List.set_cons_zero, List.set_cons_succ]
          refine wpAnyH_take (i := 2) (v := .slice none 0 0) rfl (by kernel_rfl) (by kernel_rfl) (by kernel_rfl) (fun _ _ _ h => h) (Or.inl ⟨by rfl, ?_⟩) (by assumption) ?_
          · intro V hV
            go_simp
          try simp only [List.getElem_toArray, List.getElem_cons_zero, List.getElem_cons_succ, Act.put, List.setIfInBounds_toArray, List.set_cons_zero, List.set_cons_succ]
          refine wpAnyH_take (i := 3) (v := .int .i64 0) rfl (by kernel_rfl) (by kernel_rfl) (by kernel_rfl) (fun _ _ _ h => h) (Or.inl ⟨by rfl, ?_⟩) (by assumption) ?_
          · intro V hV
            go_simp
          try simp only [List.getElem_toArray, List.getElem_cons_zero, List.getElem_cons_succ, Act.put, List.setIfInBounds_toArray, List.set_cons_zero, List.set_cons_succ]
          refine wpAnyH_take (i := 4) (v := .bool true) rfl (by kernel_rfl) (by kernel_rfl) (by kernel_rfl) (fun _ _ _ h => h) (Or.inl ⟨by rfl, ?_⟩) (by assumption) ?_
          · intro V hV
            go_simp
          try simp only [List.getElem_toArray, List.getElem_cons_zero, List.getElem_cons_succ, Act.put, List.setIfInBounds_toArray, List.set_cons_zero, List.set_cons_succ]
          refine wpAnyH_take (i := 5) (v := .bool true) rfl (by kernel_rfl) (by kernel_rfl) (by kernel_rfl) (fun _ _ _ h => h) (Or.inl ⟨by rfl, ?_⟩) (by assumption) ?_
          · intro V hV
            go_simp
          try simp only [List.getElem_toArray, List.getElem_cons_zero, List.getElem_cons_succ, Act.put, List.setIfInBounds_toArray, List.set_cons_zero, List.set_cons_succ]
          refine wpAnyH_take (i := 6) (v := .bool true) rfl (by kernel_rfl) (by kernel_rfl) (by kernel_rfl) (fun _ _ _ h => h) (Or.inl ⟨by rfl, ?_⟩) (by assumption) ?_
          · intro V hV
            go_simp
          try simp only [List.getElem_toArray, List.getElem_cons_zero, List.getElem_cons_succ, Act.put, List.setIfInBounds_toArray, List.set_cons_zero, List.set_cons_succ]
          refine wpAnyH_take (i := 7) (v := .bool true) rfl (by kernel_rfl) (by kernel_rfl) (by kernel_rfl) (fun _ _ _ h => h) (Or.inl ⟨by rfl, ?_⟩) (by assumption) ?_
          · intro V hV
            go_simp
          try simp only [List.getElem_toArray, List.getElem_cons_zero, List.getElem_cons_succ, Act.put, List.setIfInBounds_toArray, List.set_cons_zero, List.set_cons_succ]
          refine wpAnyH_take (i := 8) (v := .bool false) rfl (by kernel_rfl) (by kernel_rfl) (by kernel_rfl) (fun _ _ _ h => h) (Or.inl ⟨by rfl, ?_⟩) (by assumption) ?_
          · intro V hV
            go_simp
          try simp only [List.getElem_toArray, List.getElem_cons_zero, List.getElem_cons_succ, Act.put, List.setIfInBounds_toArray, List.set_cons_zero, List.set_cons_succ]
          refine wpAnyH_take (i := 9) (v := .bool false) rfl (by kernel_rfl) (by kernel_rfl) (by kernel_rfl) (fun _ _ _ h => h) (Or.inl ⟨by rfl, ?_⟩) (by assumption) ?_
          · intro V hV
            go_simp
          try simp only [List.getElem_toArray, List.getElem_cons_zero, List.getElem_cons_succ, Act.put, List.setIfInBounds_toArray, List.set_cons_zero, List.set_cons_succ]
          refine wpAnyH_take (i := 10) (v := .slice A1 k c1) rfl (by kernel_rfl) (by kernel_rfl) (by kernel_rfl) (fun _ _ _ h => h) (Or.inl ⟨by rfl, ?_⟩) (by assumption) ?_
          · intro V hV
            go_simp
          try simp only [List.getElem_toArray, List.getElem_cons_zero, List.getElem_cons_succ, Act.put, List.setIfInBounds_toArray, List.set_cons_zero, List.set_cons_succ]
          refine wpAnyH_take (i := 13) (v := .slice A0 n0 c0) rfl (by kernel_rfl) (by kernel_rfl) (by kernel_rfl) (fun _ _ _ h => h) (Or.inl ⟨by rfl, ?_⟩) (by assumption) ?_
          · intro V hV
            go_simp
          try simp only [List.getElem_toArray, List.getElem_cons_zero, List.getElem_cons_succ, Act.put, List.setIfInBounds_toArray, List.set_cons_zero, List.set_cons_succ]
          refine wpAnyH_take (i := 14) (v := .string TX) rfl (by kernel_rfl) (by kernel_rfl) (by kernel_rfl) (fun _ _ _ h => h) (Or.inl ⟨by rfl, ?_⟩) (by assumption) ?_
          · intro V hV
            go_simp
          try simp only [List.getElem_toArray, List.getElem_cons_zero, List.getElem_cons_succ, Act.put, List.setIfInBounds_toArray, List.set_cons_zero, List.set_cons_succ]
          refine wpAnyH_ready (rs := [11]) (by kernel_rfl) (by simp) ?_
          refine AllReadyH.cons rfl (fun K hK => ?_) AllReadyH.nil
          go_simp
          go_at_call 11
          (with_reducible refine (HLB.out _ K2.out).mono ?_)
          rintro o w7 ⟨hb7, v7, rfl, ho7⟩
          obtain ⟨A7, c7, hv7⟩ := own_slice ho7
          subst hv7
          have K7 := Lib.hid (K2.out.trans (hb7.mono K2.out.size))
          have cv7 := conv_row (c := c7) (own_row ho7) HXL.out
          rw [← HTY.out] at cv7
          have s7 := HCV.out w7 K7.out
          clear ho7 hb7
          refine hK.out _ _ ?_ (fun hHeld => ?_)
          · exact s7
          clear hK K
          try simp only [List.getElem_toArray, List.getElem_cons_zero, List.getElem_cons_succ, Act.put, List.setIfInBounds_toArray, List.set_cons_zero, List.set_cons_succ]
          refine wpAnyH_ready (rs := [12]) (by kernel_rfl) (by simp) ?_
          refine AllReadyH.cons rfl (fun K hK => ?_) AllReadyH.nil
          go_simp
          refine hK.out _ _ ?_ (fun hHeld => ?_)
          · exact s7
          clear hK K
          try simp only [List.getElem_toArray, List.getElem_cons_zero, List.getElem_cons_succ, Act.put, List.setIfInBounds_toArray, List.set_cons_zero, List.set_cons_succ]
          refine wpAnyH_take (i := 15) (v := ?v15) rfl (by kernel_rfl) (by kernel_rfl) (by kernel_rfl) (fun _ _ _ h => h) (Or.inl ⟨by rfl, ?hy⟩) (by assumption) ?rest
          case hy => (intro V hV; go_simp; try with_reducible rfl)
          try simp only [List.getElem_toArray, List.getElem_cons_zero, List.getElem_cons_succ, Act.put, List.setIfInBounds_toArray, List.set_cons_zero, List.set_cons_succ]
          refine wpAnyH_take (i := 16) (v := .bool true) rfl (by kernel_rfl) (by kernel_rfl) (by kernel_rfl) (fun _ _ _ h => h) (Or.inl ⟨by rfl, ?_⟩) (by assumption) ?_
          · intro V hV
            go_simp
          try simp only [List.getElem_toArray, List.getElem_cons_zero, List.getElem_cons_succ, Act.put, List.setIfInBounds_toArray, List.set_cons_zero, List.set_cons_succ]
          refine wpAnyH_take (i := 17) (v := .bool true) rfl (by kernel_rfl) (by kernel_rfl) (by kernel_rfl) (fun _ _ _ h => h) (Or.inl ⟨by rfl, ?_⟩) (by assumption) ?_
          · intro V hV
            go_simp
          try simp only [List.getElem_toArray, List.getElem_cons_zero, List.getElem_cons_succ, Act.put, List.setIfInBounds_toArray, List.set_cons_zero, List.set_cons_succ]
          refine wpAnyH_take (i := 18) (v := .bool true) rfl (by kernel_rfl) (by kernel_rfl) (by kernel_rfl) (fun _ _ _ h => h) (Or.inl ⟨by rfl, ?_⟩) (by assumption) ?_
          · intro V hV
            go_simp
          try simp only [List.getElem_toArray, List.getElem_cons_zero, List.getElem_cons_succ, Act.put, List.setIfInBounds_toArray, List.set_cons_zero, List.set_cons_succ]
          refine wpAnyH_ready (rs := [19]) (by kernel_rfl) (by simp) ?_
          refine AllReadyH.cons rfl (fun K hK => ?_) AllReadyH.nil
          go_simp
          go_at_call 9
          (with_reducible refine (awake_any _).mono ?_)
          rintro o w9 ⟨rfl, hb9⟩
          have K9 := Lib.hid (K7.out.trans (hb9.mono K7.out.size))
          have s9 := HCV.out w9 K9.out
          clear hb9
          refine hK.out _ _ ?_ (fun hHeld => ?_)
          · exact s9
          clear hK K
          try simp only [List.getElem_toArray, List.getElem_cons_zero, List.getElem_cons_succ, Act.put, List.setIfInBounds_toArray, List.set_cons_zero, List.set_cons_succ]
          refine wpAnyH_take (i := 20) (v := .bool true) rfl (by kernel_rfl) (by kernel_rfl) (by kernel_rfl) (fun _ _ _ h => h) (Or.inl ⟨by rfl, ?_⟩) (by assumption) ?_
          · intro V hV
            go_simp
          try simp only [List.getElem_toArray, List.getElem_cons_zero, List.getElem_cons_succ, Act.put, List.setIfInBounds_toArray, List.set_cons_zero, List.set_cons_succ]
          refine wpAnyH_take (i := 21) (v := .bool true) rfl (by kernel_rfl) (by kernel_rfl) (by kernel_rfl) (fun _ _ _ h => h) (Or.inl ⟨by rfl, ?_⟩) (by assumption) ?_
          · intro V hV
            go_simp
          try simp only [List.getElem_toArray, List.getElem_cons_zero, List.getElem_cons_succ, Act.put, List.setIfInBounds_toArray, List.set_cons_zero, List.set_cons_succ]
          refine wpAnyH_done (by kernel_rfl) ?_ _
          go_wp2_with fail
          go_ret
          exact ⟨rfl, HB1.out.trans ((HBZ.out.trans (K9.out.mono HBZ.out.size)).mono HB1.out.size)⟩
end Go.Proofs.Ytmlicmcphecakaa.snR
