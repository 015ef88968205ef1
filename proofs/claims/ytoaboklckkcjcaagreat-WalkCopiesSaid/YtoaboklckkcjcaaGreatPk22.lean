/- 1 texts in one. -/
import Derived.Test.YtoaboklckkcjcaaGreatPk11
import Derived.Test.YtoaboklckkcjcaaGreatPk17
import Derived.Test.YtoaboklckkcjcaaGreatPk21
/- Layer 26: the law of WalkCopies. -/
namespace Go.Proofs.YtoaboklckkcjcaaGreat.walkZc
open Go.ChangeShapes Go.WideShapes Go.ChangeAt Go.RowKit
open Go.Proofs.YtoaboklckkcjcaaGreat.base Go.Proofs.YtoaboklckkcjcaaGreat.dfA Go.Proofs.YtoaboklckkcjcaaGreat.treB Go.Proofs.YtoaboklckkcjcaaGreat.treD Go.Proofs.YtoaboklckkcjcaaGreat.treG Go.Proofs.YtoaboklckkcjcaaGreat.treM Go.Proofs.YtoaboklckkcjcaaGreat.treN Go.Proofs.YtoaboklckkcjcaaGreat.treW Go.Proofs.YtoaboklckkcjcaaGreat.treP Go.Proofs.YtoaboklckkcjcaaGreat.eliW Go.Proofs.YtoaboklckkcjcaaGreat.eliA Go.Proofs.YtoaboklckkcjcaaGreat.eliB Go.Proofs.YtoaboklckkcjcaaGreat.eliC Go.Proofs.YtoaboklckkcjcaaGreat.onceBw Go.Proofs.YtoaboklckkcjcaaGreat.onceCw Go.Proofs.YtoaboklckkcjcaaGreat.strA Go.Proofs.YtoaboklckkcjcaaGreat.walkA Go.Proofs.YtoaboklckkcjcaaGreat.walkB Go.Proofs.YtoaboklckkcjcaaGreat.walkC Go.Proofs.YtoaboklckkcjcaaGreat.walkE Go.Proofs.YtoaboklckkcjcaaGreat.walkK Go.Proofs.YtoaboklckkcjcaaGreat.walkM Go.Proofs.YtoaboklckkcjcaaGreat.walkZa Go.Proofs.YtoaboklckkcjcaaGreat.walkZb
set_option linter.unusedVariables false

theorem own_farB2 {w w' : World} {B : Nat} {e : TypeId} {size : Nat} {v : Value} {n : Nat} {xs : List Value} (h : w.ownsRow B e size v n xs) (hb : ∀ k, v.ownBlock = some k → w'.heap[k]? = w.heap[k]?) : w'.ownsRow B e size v n xs := own_far h hb
theorem aside_cell2 {g : Nat} {a b : World} (h : AsideG g a b) {q o : Nat} (hq : q < a.heap.size) (hg : q ≠ g) : b.cell? ⟨q, o, none⟩ = a.cell? ⟨q, o, none⟩ := by
  have e := h.block q hq hg
  unfold World.cell?
  simp only [e]
set_option maxRecDepth 100000 in
set_option maxHeartbeats 64000000 in
theorem copies_law (A : Option Addr) (n c : Nat) (l : List Nd) (AH : Option Addr) (nh ch : Nat) (H : List Int) (f key many kind : Int) (w : World) (hr : RdN w A l) (hl : l.length ≤ 60) (hcap : l.length ≤ c) (hcap2 : c ≤ 9223372036854775807) (hnm : ∀ j (hj : j < l.length), (l[j]).nm.size ≤ 9223372036854775807)
    (hfew : ∀ W', Calls Tryz.prog 39 #[.slice A n c] W' fun o w' => o = .returned (.slice A l.length c) ∧ Below W'.heap.size W' w')
    (hh : RdI w AH H) (hH : H.length ≤ 30) (hhc : H.length ≤ ch) (hhc2 : ch ≤ 9223372036854775807) (hfh : ∀ W', Calls Tryz.prog 10 #[.slice AH nh ch] W' fun o w' => o = .returned (.slice AH H.length ch) ∧ w' = W') :
    Calls Tryz.prog 5 #[.slice A n c, .slice AH nh ch, .int .i64 f, .int .u64 key, .int .i64 many, .int .i64 kind] w fun o w' => o = .returned (.bool true) ∧ Below w.heap.size w w' := by
  have HMD := Lib.hid (made_any A n c l w hr hl hcap hcap2 hnm hfew)
  have HI := Lib.hid hh
  have HAW := Lib.hid (fun W => walkD.awake_any W)
  have B0 := Lib.hid (Below.refl w.heap.size w)
  obtain ⟨hl2, hhl⟩ : ∃ hl2, hl2 = H.length := ⟨_, rfl⟩
  have HHL := Lib.hid hhl
  have HFH := Lib.hid (show ∀ W', Calls Tryz.prog 10 #[.slice AH nh ch] W' fun o w' => o = .returned (.slice AH hl2 ch) ∧ w' = W' from by rw [hhl]; exact hfh)
  rw [← hhl] at hhc
  clear hr hl hcap hcap2 hnm hfew hh hfh hhl
  go_enter Tryz.func5, Tryz.ntmps5
  by_cases c1' : kind < 2
  · have t1 : decide (kind < 2) = true := decide_eq_true c1'
    go_wp2_with fail
    refine (HAW.out w).mono ?_
    rintro o w9 ⟨rfl, hb9⟩
    have HB9 := Lib.hid (B0.out.trans (hb9.mono B0.out.size))
    clear hb9
    go_wp2_with fail
    go_ret
    exact ⟨rfl, HB9.out⟩
  have t1 : decide (kind < 2) = false := decide_eq_false c1'
  by_cases c2' : 4 < kind
  · have t2 : decide (4 < kind) = true := decide_eq_true c2'
    go_wp2_with fail
    refine (HAW.out w).mono ?_
    rintro o w9 ⟨rfl, hb9⟩
    have HB9 := Lib.hid (B0.out.trans (hb9.mono B0.out.size))
    clear hb9
    go_wp2_with fail
    go_ret
    exact ⟨rfl, HB9.out⟩
  have t2 : decide (4 < kind) = false := decide_eq_false c2'
  by_cases c3' : 10 < many
  · have t3 : decide (10 < many) = true := decide_eq_true c3'
    go_wp2_with fail
    refine (HAW.out w).mono ?_
    rintro o w9 ⟨rfl, hb9⟩
    have HB9 := Lib.hid (B0.out.trans (hb9.mono B0.out.size))
    clear hb9
    go_wp2_with fail
    go_ret
    exact ⟨rfl, HB9.out⟩
  have t3 : decide (10 < many) = false := decide_eq_false c3'
  have HKD := Lib.hid (show 2 ≤ kind ∧ kind ≤ 4 ∧ many ≤ 10 from ⟨by omega, by omega, by omega⟩)
  clear c1' c2' c3'
  go_wp2_with fail
  refine HMD.out.mono ?_
  rintro o w1 ⟨T, m, A1, c1, rfl, hT, hrd, hm60, hmc, hmc2, hb1⟩
  have B1 := Lib.hid hb1
  have HT1 := Lib.hid hT
  have HF := Lib.hid (fine_of hT.good)
  have HV := Lib.hid (heavy_of hT.good)
  have HM60 := Lib.hid hm60
  have I1 := Lib.hid (show RdI w1 AH H from HI.out.below hb1)
  have HNEW := Lib.hid (eliA.new_any hT hm60 AH ch H I1.out (by omega) (by rw [← HHL.out]; exact hhc) hhc2)
  rw [← HHL.out] at HNEW
  clear hT hrd hb1 hmc hmc2
  go_wp2_with fail
  refine (HFH.out _).mono ?_
  rintro o w2 ⟨rfl, rfl⟩
  go_wp2_with fail
  refine HNEW.out.mono ?_
  rintro o z ⟨rfl, hs3, hz3⟩
  have BZ := Lib.hid (B1.out.trans (hs3.bel.mono B1.out.size))
  obtain ⟨S, hS⟩ : ∃ S, S = w2.heap.size + 1 := ⟨_, rfl⟩
  obtain ⟨q0, hq0⟩ : ∃ q, q = w2.heap.size := ⟨_, rfl⟩
  have SZ := Lib.hid (show SetOk z S T q0 m (F m H) from by rw [hS, hq0]; exact setOk_of hs3 HT1.out)
  rw [← hS]
  clear hs3 hz3 hS hq0 HMD HNEW
  obtain ⟨g, hg⟩ : ∃ g, g = z.heap.size := ⟨_, rfl⟩
  obtain ⟨w5, hw5⟩ : ∃ w5, w5 = z.alloc (.cells #[.int .u32 0, .int .i32 0, .int .u32 0, .slice none 0 0, .int .i64 140, .int .u64 5] 51) := ⟨_, rfl⟩
  have HW5 := Lib.hid (show WSt z g 140 5 w5 from ⟨.inl (by rw [hw5, hg]; exact Blk.new z _ _), by rw [hw5]; exact (Below.refl _ _).alloc (Nat.le_refl _) _, by omega⟩)
  have HFI := Lib.hid (F_in HF.out HV.out hm60 H)
  obtain ⟨n8, hn8⟩ : ∃ n8 : Nat, (n8 : Int) = max (min many 8) 0 := ⟨(max (min many 8) 0).toNat, by omega⟩
  have HCO := Lib.hid (copies_any SZ.out HW5.out hm60 f key many kind (by have := HKD.out; omega) (by have := HKD.out; omega) n8 hn8)
  have HLEN := Lib.hid (cpS_len (H := H) (seed := 5) (f := f) (key := key) (kind := kind) HT1.out.good HF.out HV.out hm60 (by have := HKD.out; omega) (by have := HKD.out; omega) (fac := 140) (by omega) (by omega) n8)
  have HCP := Lib.hid (cpS_inv (m := m) (H := H) (seed := 5) (fac := 140) (f := f) (key := key) (kind := kind) HF.out HV.out (by have := HKD.out; omega) (by have := HKD.out; omega) n8)
  have HFS := Lib.hid (fun h => cpS_first (m := m) (H := H) (seed := 5) (fac := 140) (f := f) (key := key) (kind := kind) HF.out (n := n8) h)
  obtain ⟨L, hL⟩ : ∃ L, L = (cpS m H 5 140 f key kind n8).1 := ⟨_, rfl⟩
  obtain ⟨N, hN⟩ : ∃ N, N = (cpS m H 5 140 f key kind n8).2 := ⟨_, rfl⟩
  rw [← hL] at HCO HLEN HCP HFS
  rw [← hN] at HCP
  obtain ⟨x0, hx0⟩ : ∃ x, x = hostW m (F m H) 5 140 f key := ⟨_, rfl⟩
  have HHO := Lib.hid (show ∀ V, WSt z g 140 5 V → Calls Tryz.prog 21 #[.pointer (some ⟨g, 0, none⟩), .pointer (some ⟨S, 0, none⟩), .int .i64 f, .int .u64 key] V (WPost z g 140 5 (.int .i64 x0) V) from fun V hV => by rw [hx0]; exact host_w SZ.out hV hm60 HFI.out f key)
  rw [← hx0] at HFS
  have HDO := Lib.hid (show ∀ V, WSt z g 140 5 V → Calls Tryz.prog 28 #[.pointer (some ⟨S, 0, none⟩), .int .i64 kind] V fun o w' => ∃ v, o = .returned v ∧ OwnI w' V.heap.size v (domL m (F m H) kind m.length) ∧ Below V.heap.size V w' from fun V hV => domains_any (SZ.out.below hV.bel) kind)
  have HWG := Lib.hid (show ∀ V, WSt z g 140 5 V → ∀ i, Calls Tryz.prog 29 #[.pointer (some ⟨S, 0, none⟩), .int .i64 i] V fun e w' => e = .returned (.int .u64 (wtOf m (F m H) i)) ∧ ∃ q, w' = V.drewN q from fun V hV i => weight_x (SZ.out.below hV.bel) i)
  have HND := Lib.hid (show ∀ V, WSt z g 140 5 V → ∀ i, Calls Tryz.prog 30 #[.pointer (some ⟨T, 0, none⟩), .int .i64 i] V fun o w' => o = .returned (.agg (ndAt m i).cells) ∧ Below V.heap.size V w' from fun V hV i => by
    obtain ⟨A2, c2, K2, kc2, ht2⟩ := (SZ.out.below hV.bel).tree.at_
    exact node_any ht2 i)
  have HUP := Lib.hid (show ∀ V, WSt z g 140 5 V → ∀ i, Calls Tryz.prog 31 #[.pointer (some ⟨T, 0, none⟩), .int .i64 i, .int .i64 kind] V fun o w' => o = .returned (.int .i64 (upF m kind i)) ∧ w' = V from fun V hV i => by
    obtain ⟨A2, c2, K2, kc2, ht2⟩ := (SZ.out.below hV.bel).tree.at_
    exact up_x ht2 HF.out i kind)
  have HN8 := Lib.hid hn8
  have HGE := Lib.hid hg
  have E5 := Lib.hid hw5
  clear hL hN hx0 hg hw5 hn8
  go_wp2_with fail
  rw [← HGE.out, ← E5.out]
  refine HCO.out.mono ?_
  rintro o w6 ⟨v6, rfl, ho6, hw6, ha6⟩
  have HW6 := Lib.hid hw6
  have HO6 := Lib.hid (ownI_up ho6 (show g + 1 ≤ w5.heap.size from by have := HW5.out.lt; omega))
  have HD6 := Lib.hid (HDO.out w6 hw6)
  obtain ⟨dl, hdl⟩ : ∃ d, d = domL m (F m H) kind m.length := ⟨_, rfl⟩
  rw [← hdl] at HD6 HLEN
  clear ho6 hw6 ha6 hdl
  go_wp2_with fail
  refine HD6.out.mono ?_
  rintro o w7 ⟨v7, rfl, ho7, hb7⟩
  have HW7 := Lib.hid (HW6.out.below hb7)
  have HO7 := Lib.hid (HO6.out.below hb7)
  obtain ⟨A7, c7, hv7⟩ := own_slice ho7
  subst hv7
  obtain ⟨Ac, cc, hvc⟩ := own_slice HO7.out
  subst hvc
  obtain ⟨D, hD⟩ : ∃ D, D = dl.length := ⟨_, rfl⟩
  obtain ⟨lc, hlc⟩ : ∃ lc, lc = L.length := ⟨_, rfl⟩
  have HLC := Lib.hid (show lc = min n8 D from by rw [hlc, hD]; exact HLEN.out)
  have HLL := Lib.hid hlc
  have HOc := Lib.hid (show w7.ownsRow (g + 1) 3 1 (.slice Ac lc cc) lc (L.map (.int .i64)) from by have h9 := HO7.out; unfold OwnI at h9; rw [← hlc] at h9; exact h9)
  rw [← hD, ← hlc]
  clear ho7 hb7 hD hlc
  go_upto_if 56 with fail
  go_cut [18] (fun x wx => x = .int .i64 (min many D) ∧ wx = w7)
  case first =>
    by_cases c1' : many < D
    · have t1x : decide (many < (D : Int)) = true := decide_eq_true c1'
      go_wp2_with fail
      go_meet
      exact ⟨by rw [show min many (D : Int) = many by omega], rfl⟩
    · have t1x : decide (many < (D : Int)) = false := decide_eq_false c1'
      go_wp2_with fail
      go_meet
      exact ⟨by rw [show min many (D : Int) = D by omega], rfl⟩
  case rest =>
  obtain ⟨hx, hwx⟩ := hcut
  subst hx
  have HWX := Lib.hid hwx
  rw [HWX.out]
  clear hwx
  obtain ⟨a1, ha1⟩ : ∃ a : Int, a = min many (D : Int) := ⟨_, rfl⟩
  have HA1 := Lib.hid ha1
  rw [← ha1]
  clear ha1
  go_upto_if 59 with fail
  go_cut [18] (fun x wx => x = .int .i64 (min a1 8) ∧ wx = w7)
  case first =>
    by_cases c1' : 8 < a1
    · have t1x : decide (8 < a1) = true := decide_eq_true c1'
      go_wp2_with fail
      go_meet
      exact ⟨by rw [show min a1 8 = 8 by omega], rfl⟩
    · have t1x : decide (8 < a1) = false := decide_eq_false c1'
      go_wp2_with fail
      go_meet
      exact ⟨by rw [show min a1 8 = a1 by omega], rfl⟩
  case rest =>
  obtain ⟨hx, hwx⟩ := hcut
  subst hx
  rw [hwx]
  clear hwx
  obtain ⟨a2, ha2⟩ : ∃ a : Int, a = min a1 8 := ⟨_, rfl⟩
  have HA2 := Lib.hid ha2
  rw [← ha2]
  clear ha2
  go_upto_if 61 with fail
  go_cut [18] (fun x wx => x = .int .i64 (lc : Int) ∧ wx = w7)
  case first =>
    by_cases c1' : a2 < 0
    · have t1x : decide (a2 < 0) = true := decide_eq_true c1'
      have hz : lc = 0 := by have := HA1.out; have := HA2.out; have := HLC.out; have := HN8.out; omega
      go_wp2_with fail
      go_meet
      exact ⟨by rw [hz]; rfl, rfl⟩
    · have t1x : decide (a2 < 0) = false := decide_eq_false c1'
      have hz : a2 = (lc : Int) := by have := HA1.out; have := HA2.out; have := HLC.out; have := HN8.out; omega
      go_wp2_with fail
      go_meet
      exact ⟨by first | rfl | rw [hz], rfl⟩
  case rest =>
  obtain ⟨hx, hwx⟩ := hcut
  subst hx
  rw [hwx]
  clear hwx
  have x1 : ((lc : Int) != (lc : Int)) = false := by simp
  by_cases hlc0 : lc = 0
  · subst hlc0
    go_wp2_with fail
    go_quiet (fail)
    go_wp2_with fail
    go_loopw [19] (fun i wr => i = .int .i64 0 ∧ Hid (WSt z g 140 5 wr)) (fun _ _ => 0)
    case atStart => exact ⟨rfl, Lib.hid (HW7.out.below (below_n w7 _))⟩
    case round =>
      obtain ⟨rfl, HWr⟩ := hrel
      have HBW := Lib.hid (BZ.out.trans (HWr.out.bel.mono BZ.out.size))
      go_wp2_with fail
      refine (HAW.out wr).mono ?_
      rintro o w9 ⟨rfl, hb9⟩
      have HB9 := Lib.hid (HBW.out.trans (hb9.mono HBW.out.size))
      clear hb9
      go_wp2_with fail
      go_ret
      exact ⟨rfl, HB9.out⟩
  · obtain ⟨gc, cap, hvc, hgc, hgl, hcx1, hcx2, hck, _⟩ := own_form HOc.out (by omega)
    injection hvc with hv1 hv2 hv3
    subst hv1 hv3
    have hL0 : 0 < L.length := by rw [← HLL.out]; omega
    have c0 : w7.cell? ⟨gc, 0, none⟩ = some (.int .i64 x0) := by
      rw [hck 0 (by omega), List.getElem?_map, HFS.out hL0]
      rfl
    have HH1 := Lib.hid (show ∀ V, (WSt z g 140 5 V ∧ AsideG g w7 V ∧ V.cell? ⟨gc, 0, none⟩ = some (.int .i64 x0)) → Calls Tryz.prog 21 #[.pointer (some ⟨g, 0, none⟩), .pointer (some ⟨S, 0, none⟩), .int .i64 f, .int .u64 key] V fun o w' => o = .returned (.int .i64 x0) ∧ (WSt z g 140 5 w' ∧ AsideG g w7 w' ∧ w'.cell? ⟨gc, 0, none⟩ = some (.int .i64 x0)) from fun V hV => by
      refine (HHO.out V hV.1).mono ?_
      rintro o w' ⟨e1, h2, h3⟩
      exact ⟨e1, h2, hV.2.1.trans h3, by rw [aside_cell2 h3 (show gc < V.heap.size from Nat.lt_of_lt_of_le hgl hV.2.1.size) (show gc ≠ g by omega)]; exact hV.2.2⟩)
    have k0 : WSt z g 140 5 w7.drew ∧ AsideG g w7 w7.drew ∧ w7.drew.cell? ⟨gc, 0, none⟩ = some (.int .i64 x0) := ⟨HW7.out.below (Below.refl _ _).drew, (AsideG.refl g w7).drew, c0⟩
    have t4 : decide (0 < (lc : Int)) = true := decide_eq_true (by omega)
    have x2 : (x0 != x0) = false := by simp
    have t4n : decide (0 < lc) = true := decide_eq_true (by omega)
    have j1n : 0 < lc := by omega
    have HL60 := Lib.hid (show lc ≤ 8 from by have := HLC.out; have := HN8.out; omega)
    clear hgc hgl hcx1 hcx2 hck c0 hlc0
    go_wp2_with fail
    go_region_held3 (fun w' => WSt z g 140 5 w' ∧ AsideG g w7 w' ∧ w'.cell? ⟨gc, 0, none⟩ = some (.int .i64 x0))
      (first | with_reducible exact k0 | with_reducible assumption)
      (first
        | (go_at_call 21; (with_reducible refine (HH1.out _ (by assumption)).mono ?_); rintro o w8 ⟨rfl, hkk⟩))
    rename_i hH
    have HW8 := Lib.hid hH.1
    have HO8 := Lib.hid (show w8.ownsRow (g + 1) 3 1 (.slice (some ⟨gc, 0, none⟩) lc cc) lc (L.map (.int .i64)) from own_farB2 HOc.out fun q hq => hH.2.1.block q (HOc.out.lt q hq).2 (by have := (HOc.out.lt q hq).1; omega))
    clear hH hkk k0
    go_wp2_with fail
    go_loopw [19] (fun i wr => ∃ k : Nat, i = .int .i64 k ∧ k ≤ lc ∧ Hid (WSt z g 140 5 wr) ∧ Hid (wr.ownsRow (g + 1) 3 1 (.slice (some ⟨gc, 0, none⟩) lc cc) lc (L.map (.int .i64)))) (fun i _ => lc - (intOf i).toNat)
    case atStart => exact ⟨0, rfl, by omega, HW8, HO8⟩
    case round =>
      obtain ⟨k, rfl, hk, HWr, HOr⟩ := hrel
      by_cases hkn : k < lc
      · have t5 : decide ((k : Int) < lc) = true := decide_eq_true (by omega)
        have hkl : k < L.length := by rw [← HLL.out]; exact hkn
        have hk8 : k < 8 := by have := HL60.out; omega
        have ck : wr.cell? ⟨gc, k, none⟩ = some (.int .i64 (L[k])) := by
          have h9 := HOr.out.cellAt k (by omega)
          rw [h9, List.getElem?_map, List.getElem?_eq_getElem hkl]
          rfl
        obtain ⟨j, ej, hj, hj4, hjz⟩ := HCP.out.good _ (List.getElem_mem hkl)
        have HLK := Lib.hid (show L[k]? = some (j : Int) from by rw [List.getElem?_eq_getElem hkl, ej])
        rw [ej] at ck
        have HWG1 := Lib.hid (HWG.out wr HWr.out (j : Int))
        rw [wt_nat hj] at HWG1
        obtain ⟨fw, hfw⟩ : ∃ fw, fw = F m H j := ⟨_, rfl⟩
        rw [← hfw] at HWG1 hjz
        have t6 : (fw == 0) = false := beq_false_of_ne hjz
        obtain ⟨e, he⟩ : ∃ e, e = ndAt m (j : Int) := ⟨_, rfl⟩
        have HND1 := Lib.hid (fun V hV => HND.out V hV (j : Int))
        rw [← he] at HND1 hj4
        unfold Nd.cells at HND1
        have hfd : ∀ W, (Instr.field 67 (.agg #[.string e.nm, .int .i64 e.kind, .int .i64 e.ab, .int .i64 e.wt, .bool e.v6, .int .u64 e.hi, .int .u64 e.lo]) 1).run Tryz.prog W = .ok (.int .i64 e.kind) W := fun _ => by kernel_rfl
        have t7 : (e.kind != 4) = false := by simp [hj4]
        have i0x : (0 : Int) ≤ k := by omega
        have i1x : (k : Int) < lc := by omega
        have HCK := Lib.hid (show ∀ nq, (wr.drewN nq).cell? ⟨gc, k, none⟩ = some (.int .i64 (j : Int)) from fun _ => ck)
        clear ej he hfw hjz hj4 hj
        go_wp2_with fail
        refine HWG1.out.mono ?_
        rintro o w10 ⟨rfl, nq, hq10⟩
        have HW10 := Lib.hid (show WSt z g 140 5 w10 from by rw [hq10]; exact HWr.out.below (below_n wr nq))
        have HO10 := Lib.hid (show w10.ownsRow (g + 1) 3 1 (.slice (some ⟨gc, 0, none⟩) lc cc) lc (L.map (.int .i64)) from by rw [hq10]; exact HOr.out)
        have ck2 : w10.cell? ⟨gc, k, none⟩ = some (.int .i64 (j : Int)) := by rw [hq10]; exact HCK.out nq
        have HND2 := Lib.hid (HND1.out w10 HW10.out)
        clear hq10 ck
        go_wp2_with fail
        refine HND2.out.mono ?_
        rintro o w11 ⟨rfl, hb11⟩
        have HW11 := Lib.hid (HW10.out.below hb11)
        have HO11 := Lib.hid (show w11.ownsRow (g + 1) 3 1 (.slice (some ⟨gc, 0, none⟩) lc cc) lc (L.map (.int .i64)) from own_farB2 HO10.out fun q hq => hb11.block q (HO10.out.lt q hq).2)
        clear hb11 ck2
        go_wp2_with fail
        go_loopw [20] (fun i wv => ∃ p : Nat, i = .int .i64 p ∧ p ≤ k ∧ Hid (WSt z g 140 5 wv) ∧ Hid (wv.ownsRow (g + 1) 3 1 (.slice (some ⟨gc, 0, none⟩) lc cc) lc (L.map (.int .i64)))) (fun i _ => k - (intOf i).toNat)
        case atStart => exact ⟨0, rfl, by omega, HW11, HO11⟩
        case round =>
          obtain ⟨p, rfl, hp, HWv, HOv⟩ := hrel
          rename_i wv
          by_cases hpk : p < k
          · have t8 : decide ((p : Int) < (k : Int)) = true := decide_eq_true (by omega)
            have t8n : decide (p < k) = true := decide_eq_true hpk
            have hpl : p < L.length := by omega
            obtain ⟨j2, ej2, _, _, _⟩ := HCP.out.good _ (List.getElem_mem hpl)
            have HLP := Lib.hid (show L[p]? = some (j2 : Int) from by rw [List.getElem?_eq_getElem hpl, ej2])
            have ck : wr.cell? ⟨gc, k, none⟩ = some (.int .i64 (j : Int)) := by
              rw [HOv.out.cellAt k (by omega), List.getElem?_map, HLK.out]
              rfl
            have cp : wr.cell? ⟨gc, p, none⟩ = some (.int .i64 (j2 : Int)) := by
              rw [HOv.out.cellAt p (by omega), List.getElem?_map, HLP.out]
              rfl
            obtain ⟨d1, hd1⟩ : ∃ d, d = upF m kind (j : Int) := ⟨_, rfl⟩
            obtain ⟨d2, hd2⟩ : ∃ d, d = upF m kind (j2 : Int) := ⟨_, rfl⟩
            have HNE := Lib.hid (show d1 ≠ d2 from fun e => by
              have e1 := HCP.out.up k _ HLK.out
              have e2 := HCP.out.up p _ HLP.out
              rw [← hd1] at e1
              rw [← hd2] at e2
              obtain ⟨g1, g2⟩ := List.getElem?_eq_some_iff.mp e1
              obtain ⟨g3, g4⟩ := List.getElem?_eq_some_iff.mp e2
              have h9 := List.pairwise_iff_getElem.mp HCP.out.nd p k g3 g1 hpk
              exact h9 (by rw [g2, g4, e]))
            have t9 : (d1 == d2) = false := beq_false_of_ne HNE.out
            have HU1 := Lib.hid (show ∀ V, (WSt z g 140 5 V ∧ V.ownsRow (g + 1) 3 1 (.slice (some ⟨gc, 0, none⟩) lc cc) lc (L.map (.int .i64)) ∧ V.cell? ⟨gc, k, none⟩ = some (.int .i64 (j : Int)) ∧ V.cell? ⟨gc, p, none⟩ = some (.int .i64 (j2 : Int))) → Calls Tryz.prog 31 #[.pointer (some ⟨T, 0, none⟩), .int .i64 (j : Int), .int .i64 kind] V fun o w' => o = .returned (.int .i64 d1) ∧ w' = V from fun V hV => by rw [hd1]; exact HUP.out V hV.1 (j : Int))
            have HU2 := Lib.hid (show ∀ V, (WSt z g 140 5 V ∧ V.ownsRow (g + 1) 3 1 (.slice (some ⟨gc, 0, none⟩) lc cc) lc (L.map (.int .i64)) ∧ V.cell? ⟨gc, k, none⟩ = some (.int .i64 (j : Int)) ∧ V.cell? ⟨gc, p, none⟩ = some (.int .i64 (j2 : Int))) → Calls Tryz.prog 31 #[.pointer (some ⟨T, 0, none⟩), .int .i64 (j2 : Int), .int .i64 kind] V fun o w' => o = .returned (.int .i64 d2) ∧ w' = V from fun V hV => by rw [hd2]; exact HUP.out V hV.1 (j2 : Int))
            have k0 : WSt z g 140 5 wr.drew ∧ wr.drew.ownsRow (g + 1) 3 1 (.slice (some ⟨gc, 0, none⟩) lc cc) lc (L.map (.int .i64)) ∧ wr.drew.cell? ⟨gc, k, none⟩ = some (.int .i64 (j : Int)) ∧ wr.drew.cell? ⟨gc, p, none⟩ = some (.int .i64 (j2 : Int)) := ⟨HWv.out.below (Below.refl _ _).drew, HOv.out, ck, cp⟩
            have u0 : (0 : Int) ≤ p := by omega
            have u1 : (p : Int) < lc := by omega
            clear hd1 hd2 ej2 ck cp
            go_wp2_with fail
            go_region_held3 (fun V => WSt z g 140 5 V ∧ V.ownsRow (g + 1) 3 1 (.slice (some ⟨gc, 0, none⟩) lc cc) lc (L.map (.int .i64)) ∧ V.cell? ⟨gc, k, none⟩ = some (.int .i64 (j : Int)) ∧ V.cell? ⟨gc, p, none⟩ = some (.int .i64 (j2 : Int)))
              (first | with_reducible exact k0 | with_reducible assumption)
              (first
                | (go_at_call 31
                   first
                     | ((with_reducible refine (HU1.out _ (by assumption)).mono ?_); rintro o w12 ⟨rfl, rfl⟩)
                     | ((with_reducible refine (HU2.out _ (by assumption)).mono ?_); rintro o w12 ⟨rfl, rfl⟩)))
            all_goals
              rename_i hH
              have HWf := Lib.hid hH.1
              have HOf := Lib.hid hH.2.1
              clear hH k0
              go_wp2_with fail
              go_roundw
              case rel => exact ⟨p + 1, by go_num, by omega, HWf, HOf⟩
              case measure => simp [intOf]; omega
          · have t8 : decide ((p : Int) < (k : Int)) = false := decide_eq_false (by omega)
            have t8n : decide (p < k) = false := decide_eq_false hpk
            go_wp2_with fail
            go_roundw
            case rel => exact ⟨k + 1, by go_num, by omega, HWv, HOv⟩
            case measure => simp [intOf]; omega
      · have t5 : decide ((k : Int) < lc) = false := decide_eq_false (by omega)
        have HBW := Lib.hid (BZ.out.trans (HWr.out.bel.mono BZ.out.size))
        go_wp2_with fail
        refine (HAW.out wr).mono ?_
        rintro o w9 ⟨rfl, hb9⟩
        have HB9 := Lib.hid (HBW.out.trans (hb9.mono HBW.out.size))
        clear hb9
        go_wp2_with fail
        go_ret
        exact ⟨rfl, HB9.out⟩
end Go.Proofs.YtoaboklckkcjcaaGreat.walkZc
