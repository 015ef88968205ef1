/- 1 texts in one. -/
import Derived.Test.YtoaboklckkcjcaaGreatPk09
import Derived.Test.YtoaboklckkcjcaaGreatPk11
import Derived.Test.YtoaboklckkcjcaaGreatPk17
import Derived.Test.YtoaboklckkcjcaaGreatPk18
/- Layer 26: the law of WalkHosts. -/
namespace Go.Proofs.YtoaboklckkcjcaaGreat.walkR
open Go.ChangeShapes Go.WideShapes Go.ChangeAt Go.RowKit
open Go.Proofs.YtoaboklckkcjcaaGreat.base Go.Proofs.YtoaboklckkcjcaaGreat.dfA Go.Proofs.YtoaboklckkcjcaaGreat.treB Go.Proofs.YtoaboklckkcjcaaGreat.treD Go.Proofs.YtoaboklckkcjcaaGreat.treM Go.Proofs.YtoaboklckkcjcaaGreat.treN Go.Proofs.YtoaboklckkcjcaaGreat.treW Go.Proofs.YtoaboklckkcjcaaGreat.eliW Go.Proofs.YtoaboklckkcjcaaGreat.eliA Go.Proofs.YtoaboklckkcjcaaGreat.eliB Go.Proofs.YtoaboklckkcjcaaGreat.eliC Go.Proofs.YtoaboklckkcjcaaGreat.onceBw Go.Proofs.YtoaboklckkcjcaaGreat.onceCw Go.Proofs.YtoaboklckkcjcaaGreat.strA Go.Proofs.YtoaboklckkcjcaaGreat.walkA Go.Proofs.YtoaboklckkcjcaaGreat.walkB Go.Proofs.YtoaboklckkcjcaaGreat.walkC Go.Proofs.YtoaboklckkcjcaaGreat.walkE Go.Proofs.YtoaboklckkcjcaaGreat.walkF Go.Proofs.YtoaboklckkcjcaaGreat.walkG Go.Proofs.YtoaboklckkcjcaaGreat.walkL Go.Proofs.YtoaboklckkcjcaaGreat.walkM Go.Proofs.YtoaboklckkcjcaaGreat.walkK
set_option linter.unusedVariables false

theorem dom_none {m : List Nd} {W : Nat → Int} {kind : Int} : ∀ k, k ≤ m.length → (∀ x, x < k → (ndAt m x).kind = kind → wtOf m W x = 0) → domL m W kind k = []
  | 0, _, _ => rfl
  | k + 1, hk, h => by
    have ih := dom_none (m := m) (W := W) (kind := kind) k (by omega) (fun x hx => h x (by omega))
    unfold domL
    split
    · rename_i e
      rw [Bool.and_eq_true] at e
      have := h k (by omega) (by simpa using e.1)
      simp [this] at e
    · exact ih
set_option maxRecDepth 100000 in
set_option maxHeartbeats 32000000 in
theorem hosts_law (A : Option Addr) (n c : Nat) (l : List Nd) (AH : Option Addr) (nh ch : Nat) (H : List Int) (a0 key seed fac : Int) (w : World) (hr : RdN w A l) (hl : l.length ≤ 60) (hcap : l.length ≤ c) (hcap2 : c ≤ 9223372036854775807) (hnm : ∀ j (hj : j < l.length), (l[j]).nm.size ≤ 9223372036854775807)
    (hfew : ∀ W', Calls Tryz.prog 39 #[.slice A n c] W' fun o w' => o = .returned (.slice A l.length c) ∧ Below W'.heap.size W' w')
    (hh : RdI w AH H) (hH : H.length ≤ 30) (hhc : H.length ≤ ch) (hhc2 : ch ≤ 9223372036854775807) (hfh : ∀ W', Calls Tryz.prog 10 #[.slice AH nh ch] W' fun o w' => o = .returned (.slice AH H.length ch) ∧ w' = W') :
    Calls Tryz.prog 4 #[.slice A n c, .slice AH nh ch, .int .i64 a0, .int .u64 key, .int .u64 seed, .int .i64 fac] w fun o w' => o = .returned (.bool true) ∧ Below w.heap.size w w' := by
  have HMD := Lib.hid (made_any A n c l w hr hl hcap hcap2 hnm hfew)
  have HI := Lib.hid hh
  have HAW := Lib.hid (fun W => walkD.awake_any W)
  obtain ⟨hl2, hhl⟩ : ∃ hl2, hl2 = H.length := ⟨_, rfl⟩
  have HHL := Lib.hid hhl
  have HFH := Lib.hid (show ∀ W', Calls Tryz.prog 10 #[.slice AH nh ch] W' fun o w' => o = .returned (.slice AH hl2 ch) ∧ w' = W' from by rw [hhl]; exact hfh)
  rw [← hhl] at hhc
  clear hr hl hcap hcap2 hnm hfew hh hfh hhl
  go_enter Tryz.func4, Tryz.ntmps4
  go_wp2_with fail
  refine HMD.out.mono ?_
  rintro o w1 ⟨T, m, A1, c1, rfl, hT, hrd, hm60, hmc, hmc2, hb1⟩
  have B1 := Lib.hid hb1
  have HT1 := Lib.hid hT
  have HR1 := Lib.hid hrd
  have HF := Lib.hid (fine_of hT.good)
  have HV := Lib.hid (heavy_of hT.good)
  have I1 := Lib.hid (show RdI w1 AH H from HI.out.below hb1)
  have HNEW := Lib.hid (eliA.new_any hT hm60 AH ch H I1.out (by omega) (by rw [← HHL.out]; exact hhc) hhc2)
  rw [← HHL.out] at HNEW
  clear hT hrd hb1
  go_wp2_with fail
  refine (HFH.out _).mono ?_
  rintro o w2 ⟨rfl, rfl⟩
  go_wp2_with fail
  refine HNEW.out.mono ?_
  rintro o w3 ⟨rfl, hs3, hz3⟩
  have BN := Lib.hid hs3.bel
  have B3 := Lib.hid (B1.out.trans (hs3.bel.mono B1.out.size))
  have S3 := Lib.hid (setOk_of hs3 HT1.out)
  have HWT := Lib.hid (weights_any (HR1.out.below hs3.bel) hm60 hmc hmc2 HF.out HV.out AH ch H (I1.out.below hs3.bel) (by omega))
  obtain ⟨mn, hmn⟩ : ∃ mn, mn = m.length := ⟨_, rfl⟩
  have HMN := Lib.hid hmn
  rw [← hmn] at HWT ⊢
  rw [← HHL.out] at HWT
  clear hs3 hz3 hmn
  go_wp2_with fail
  refine HWT.out.mono ?_
  rintro o z ⟨rfl, hcs, hb4⟩
  have HBZ := Lib.hid (B3.out.trans (hb4.mono B3.out.size))
  have SZ := Lib.hid (S3.out.below hb4)
  have LZ := Lib.hid (show LawIn z A1 m w3.heap.size (F m H) from ⟨(HR1.out.below BN.out).below hb4, by rw [HMN.out] at hcs; exact hcs⟩)
  have HFI := Lib.hid (F_in HF.out HV.out hm60 H)
  obtain ⟨S, hS⟩ : ∃ S, S = w2.heap.size + 1 := ⟨_, rfl⟩
  obtain ⟨q0, hq0⟩ : ∃ q, q = w2.heap.size := ⟨_, rfl⟩
  have SZ2 := Lib.hid (show SetOk z S T q0 m (F m H) from by rw [hS, hq0]; exact SZ.out)
  obtain ⟨b, hb⟩ : ∃ b, b = w3.heap.size := ⟨_, rfl⟩
  rw [← hb] at LZ ⊢
  rw [← hS]
  obtain ⟨g, hg⟩ : ∃ g, g = z.heap.size := ⟨_, rfl⟩
  obtain ⟨w5, hw5⟩ : ∃ w5, w5 = z.alloc (.cells #[.int .u32 0, .int .i32 0, .int .u32 0, .slice none 0 0, .int .i64 fac, .int .u64 seed] 51) := ⟨_, rfl⟩
  have HW5 := Lib.hid (show WSt z g fac seed w5 from ⟨.inl (by rw [hw5, hg]; exact Blk.new z _ _), by rw [hw5]; exact (Below.refl _ _).alloc (Nat.le_refl _) _, by omega⟩)
  have E5 := Lib.hid hw5
  have EG := Lib.hid hg
  have HHW := Lib.hid (host_w SZ2.out HW5.out hm60 HFI.out a0 key)
  have HLH := Lib.hid (show ∀ V, WSt z g fac seed V → Calls Tryz.prog 22 #[.slice A1 mn c1, .slice (some ⟨b, 0, none⟩) mn mn, .int .i64 a0, .int .u64 key, .int .u64 seed, .int .i64 fac] V fun o w' => o = .returned (.int .i64 (hostW m (F m H) seed fac a0 key)) ∧ Below V.heap.size V w' from fun V hV => by rw [HMN.out]; exact walkO.lhost_any (LZ.out.below hV.bel) hmc hmc2 hm60 HFI.out HF.out HV.out a0 key seed fac)
  have HLI := Lib.hid (show ∀ V, WSt z g fac seed V → Calls Tryz.prog 23 #[.pointer (some ⟨S, 0, none⟩)] V fun o w' => ∃ v, o = .returned v ∧ OwnI w' V.heap.size v (domL m (F m H) 4 m.length) ∧ Below V.heap.size V w' from fun V hV => list_any (SZ2.out.below hV.bel))
  have HLW := Lib.hid (show ∀ V, WSt z g fac seed V → Calls Tryz.prog 24 #[.pointer (some ⟨g, 0, none⟩), .pointer (some ⟨S, 0, none⟩), .int .i64 a0, .int .u64 key] V fun o w' => o = .returned (.int .i64 (levelW m (F m H) seed fac a0 key)) ∧ Below V.heap.size V w' from fun V hV => level_w SZ2.out hV hm60 a0 key)
  have HLS := Lib.hid (show ∀ V, WSt z g fac seed V → Calls Tryz.prog 25 #[.slice A1 mn c1] V fun o w' => ∃ v, o = .returned v ∧ OwnI w' V.heap.size v (ofK m 1 m.length) ∧ Below V.heap.size V w' from fun V hV => by rw [HMN.out]; exact walkI.levels_any (LZ.out.below hV.bel).rd hmc hmc2 (by omega))
  have HLX := Lib.hid (show ∀ V, WSt z g fac seed V → ∀ i, Calls Tryz.prog 26 #[.pointer (some ⟨T, 0, none⟩), .int .i64 i] V fun o w' => o = .returned (.int .i64 (levW m (upF m 1 i) m.length)) ∧ Below V.heap.size V w' from fun V hV i => treP.level_x (SZ2.out.below hV.bel).tree i)
  have HGD := Lib.hid (fun h => walkP.host_good HF.out HV.out H seed fac a0 key h)
  have HSO := Lib.hid (fun f1 f2 x hx h4 hz => walkQ.host_some HT1.out.good HF.out HV.out hm60 H seed fac a0 key f1 f2 (x := x) hx h4 hz)
  have HCL := Lib.hid (show ∀ V, WSt z g fac seed V → LawIn V A1 m b (F m H) from fun V hV => LZ.out.below hV.bel)
  obtain ⟨res, hres⟩ : ∃ res, res = hostW m (F m H) seed fac a0 key := ⟨_, rfl⟩
  rw [← hres] at HHW HLH HGD HSO
  clear hcs hb4 SZ S3 hw5 hg hS hq0 hb HMD HNEW HWT HFH hres
  go_wp2_with fail
  rw [← E5.out, ← EG.out]
  refine HHW.out.mono ?_
  rintro o w6 ⟨rfl, hw6, _⟩
  have HW6 := Lib.hid hw6
  have HL6 := Lib.hid (HLH.out w6 hw6)
  clear hw6
  go_wp2_with fail
  refine HL6.out.mono ?_
  rintro o w7 ⟨rfl, hb7⟩
  have HW7 := Lib.hid (HW6.out.below hb7)
  clear hb7
  have x1 : (res != res) = false := by simp
  by_cases hr : res = -1
  · have HLI7 := Lib.hid (HLI.out w7 HW7.out)
    have HEM := Lib.hid (show ¬ fac < 100 → ¬ 1000 < fac → domL m (F m H) 4 m.length = [] from fun f1 f2 => dom_none _ (Nat.le_refl _) fun x hx h4 => Decidable.byContradiction fun hz => HSO.out (by omega) (by omega) x hx h4 (by rwa [wt_nat hx] at hz) hr)
    obtain ⟨dl, hdl⟩ : ∃ dl, dl = domL m (F m H) 4 m.length := ⟨_, rfl⟩
    rw [← hdl] at HLI7 HEM
    have t1 : decide (res < 0) = true := decide_eq_true (by omega)
    clear hdl HSO HGD
    subst hr
    go_wp2_with fail
    refine HLI7.out.mono ?_
    rintro o w8 ⟨v8, rfl, ho8, hb8⟩
    have HW8 := Lib.hid (HW7.out.below hb8)
    have HA8 := Lib.hid (HAW.out w8)
    obtain ⟨A8, c8, hv8⟩ := own_slice ho8
    subst hv8
    obtain ⟨ln, hln⟩ : ∃ ln, ln = dl.length := ⟨_, rfl⟩
    have HLN := Lib.hid hln
    rw [← hln]
    clear ho8 hb8 hln
    by_cases h0 : ln = 0
    · subst h0
      go_wp2_with fail
      refine HA8.out.mono ?_
      rintro o w9 ⟨rfl, hb9⟩
      have HB9 := Lib.hid (HBZ.out.trans ((HW8.out.below hb9).bel.mono HBZ.out.size))
      clear hb9
      go_wp2_with fail
      go_ret
      exact ⟨rfl, HB9.out⟩
    · have t2 : ((ln : Int) == 0) = false := beq_false_of_ne (by omega)
      by_cases f1 : fac < 100
      · have t3 : decide (fac < 100) = true := decide_eq_true f1
        go_wp2_with fail
        refine HA8.out.mono ?_
        rintro o w9 ⟨rfl, hb9⟩
        have HB9 := Lib.hid (HBZ.out.trans ((HW8.out.below hb9).bel.mono HBZ.out.size))
        clear hb9
        go_wp2_with fail
        go_ret
        exact ⟨rfl, HB9.out⟩
      · have t3 : decide (fac < 100) = false := decide_eq_false f1
        have f2 : 1000 < fac := Decidable.byContradiction fun f2 => h0 (by rw [HLN.out, HEM.out (by omega) (by omega)]; rfl)
        have t4 : decide (1000 < fac) = true := decide_eq_true f2
        go_wp2_with fail
        refine HA8.out.mono ?_
        rintro o w9 ⟨rfl, hb9⟩
        have HB9 := Lib.hid (HBZ.out.trans ((HW8.out.below hb9).bel.mono HBZ.out.size))
        clear hb9
        go_wp2_with fail
        go_ret
        exact ⟨rfl, HB9.out⟩
  · obtain ⟨hn, k, e1, hnl, h4, hz, ek, hkl, elv⟩ := HGD.out hr
    obtain ⟨bl, off, hA, _, hC0⟩ := LZ.out.rd.at_ hn hnl
    subst hA
    clear hC0
    subst e1
    have hnm : hn < mn := by rw [HMN.out]; exact hnl
    have t1 : decide ((hn : Int) < 0) = false := decide_eq_false (by omega)
    have HL7 := Lib.hid (HLW.out w7 HW7.out)
    rw [ek] at HL7
    obtain ⟨nl, hnl2⟩ : ∃ nl, nl = (ofK m 1 m.length).length := ⟨_, rfl⟩
    rw [← hnl2] at hkl
    have HN2 := Lib.hid hnl2
    have hF := (F_in HF.out HV.out hm60 H hn).1
    have HK4 := Lib.hid h4
    have HEL := Lib.hid elv
    have HHN := Lib.hid hnl
    clear ek HSO HGD hnl2 h4 elv
    go_wp2_with fail
    refine HL7.out.mono ?_
    rintro o w8 ⟨rfl, hb8⟩
    have HW8 := Lib.hid (HW7.out.below hb8)
    have HL8 := Lib.hid (HLS.out w8 (HW7.out.below hb8))
    clear hb8
    go_wp2_with fail
    refine HL8.out.mono ?_
    rintro o w9 ⟨v9, rfl, ho9, hb9⟩
    have HW9 := Lib.hid (HW8.out.below hb9)
    have c9 : w9.cell? ⟨b, hn, none⟩ = some (.int .u64 (F m H hn)) := (HCL.out w9 HW9.out).cell hnl
    have d9 := (walkJ.rd_all (HCL.out w9 HW9.out).rd hn hnl).1
    rw [← treW.ndAt_nat hnl, HK4.out] at d9
    have HX9 := Lib.hid (HLX.out w9 HW9.out (hn : Int))
    rw [HEL.out] at HX9
    obtain ⟨A9, c9', hv9⟩ := own_slice ho9
    subst hv9
    rw [← HN2.out]
    obtain ⟨fw, hfw⟩ : ∃ fw, fw = F m H hn := ⟨_, rfl⟩
    rw [← hfw] at c9 hF hz
    have t2 : decide (0 < fw) = true := decide_eq_true (by omega)
    have j0 : (0 : Int) ≤ hn := by omega
    have j1 : (hn : Int) < mn := by omega
    have t3 : decide (0 ≤ (k : Int)) = true := decide_eq_true (by omega)
    have t4 : decide ((k : Int) < nl) = true := decide_eq_true (by omega)
    have t5 : ((k : Int) == (k : Int)) = true := by simp
    clear ho9 hb9 hfw hnl
    go_wp2_with fail
    refine HX9.out.mono ?_
    rintro o w10 ⟨rfl, hb10⟩
    have HW10 := Lib.hid (HW9.out.below hb10)
    have HA10 := Lib.hid (HAW.out w10)
    clear hb10
    go_wp2_with fail
    refine HA10.out.mono ?_
    rintro o w11 ⟨rfl, hb11⟩
    have HB11 := Lib.hid (HBZ.out.trans ((HW10.out.below hb11).bel.mono HBZ.out.size))
    clear hb11
    go_wp2_with fail
    go_ret
    exact ⟨rfl, HB11.out⟩
end Go.Proofs.YtoaboklckkcjcaaGreat.walkR
