/- 4 texts in one. -/
import Derived.Deep.CutBlock
import Derived.OwnWalk
import Derived.Test.YtoaboklckkcjcaaGreatPk04
import Derived.Test.YtoaboklckkcjcaaGreatPk09
import Derived.Test.YtoaboklckkcjcaaGreatPk10
import Derived.Test.YtoaboklckkcjcaaGreatPk11
import Derived.Test.YtoaboklckkcjcaaGreatPk16
/- Layer 26: the law of WalkSteps. -/
namespace Go.Proofs.YtoaboklckkcjcaaGreat.walkK
open Go.ChangeShapes Go.WideShapes Go.ChangeAt Go.RowKit
open Go.Proofs.YtoaboklckkcjcaaGreat.base Go.Proofs.YtoaboklckkcjcaaGreat.dfA Go.Proofs.YtoaboklckkcjcaaGreat.treB Go.Proofs.YtoaboklckkcjcaaGreat.treD Go.Proofs.YtoaboklckkcjcaaGreat.treM Go.Proofs.YtoaboklckkcjcaaGreat.treN Go.Proofs.YtoaboklckkcjcaaGreat.treW Go.Proofs.YtoaboklckkcjcaaGreat.eliW Go.Proofs.YtoaboklckkcjcaaGreat.eliA Go.Proofs.YtoaboklckkcjcaaGreat.eliB Go.Proofs.YtoaboklckkcjcaaGreat.eliC Go.Proofs.YtoaboklckkcjcaaGreat.onceBw Go.Proofs.YtoaboklckkcjcaaGreat.onceCw Go.Proofs.YtoaboklckkcjcaaGreat.strA Go.Proofs.YtoaboklckkcjcaaGreat.walkA Go.Proofs.YtoaboklckkcjcaaGreat.walkB Go.Proofs.YtoaboklckkcjcaaGreat.walkC Go.Proofs.YtoaboklckkcjcaaGreat.walkE Go.Proofs.YtoaboklckkcjcaaGreat.walkF Go.Proofs.YtoaboklckkcjcaaGreat.walkG
set_option linter.unusedVariables false

theorem step_out {m : List Nd} {W : Nat → Int} {seed key a : Int} (h : isB a m.length = false) : stepW m W seed key a = -1 := by
  have hk : kidsP m a = [] := by
    unfold kidsP
    rw [if_neg (by rw [h]; decide)]
  unfold stepW itemsW
  rw [hk]
  rfl
theorem down_out {m : List Nd} {W : Nat → Int} {seed key a : Int} (h : isB a m.length = false) : downW m W seed key a = [] := by
  have hw : wtOf m W a = 0 := by
    unfold wtOf
    rw [if_neg (by rw [h]; decide)]
  unfold downW
  rw [hw, if_neg (by decide)]
theorem F_in {m : List Nd} (hf : Fine m) (hh : Heavy m) (hm : m.length ≤ 60) (H : List Int) (i : Nat) : 0 ≤ F m H i ∧ F m H i < 18446744073709551616 := by
  have h := acc_range hf hh hm H 0 i (Nat.zero_le _)
  unfold accW at h
  rw [if_pos (Nat.zero_le _)] at h
  omega
set_option maxRecDepth 100000 in
set_option maxHeartbeats 32000000 in
theorem steps_law (A : Option Addr) (n c : Nat) (l : List Nd) (AH : Option Addr) (nh ch : Nat) (H : List Int) (a0 key seed fac : Int) (w : World) (hr : RdN w A l) (hl : l.length ≤ 60) (hcap : l.length ≤ c) (hcap2 : c ≤ 9223372036854775807) (hnm : ∀ j (hj : j < l.length), (l[j]).nm.size ≤ 9223372036854775807)
    (hfew : ∀ W', Calls Tryz.prog 39 #[.slice A n c] W' fun o w' => o = .returned (.slice A l.length c) ∧ Below W'.heap.size W' w')
    (hh : RdI w AH H) (hH : H.length ≤ 30) (hhc : H.length ≤ ch) (hhc2 : ch ≤ 9223372036854775807) (hfh : ∀ W', Calls Tryz.prog 10 #[.slice AH nh ch] W' fun o w' => o = .returned (.slice AH H.length ch) ∧ w' = W') :
    Calls Tryz.prog 3 #[.slice A n c, .slice AH nh ch, .int .i64 a0, .int .u64 key, .int .u64 seed, .int .i64 fac] w fun o w' => o = .returned (.bool true) ∧ Below w.heap.size w w' := by
  have HMD := Lib.hid (made_any A n c l w hr hl hcap hcap2 hnm hfew)
  have HI := Lib.hid hh
  have HAW := Lib.hid (fun W => walkD.awake_any W)
  obtain ⟨hl2, hhl⟩ : ∃ hl2, hl2 = H.length := ⟨_, rfl⟩
  have HHL := Lib.hid hhl
  have HFH := Lib.hid (show ∀ W', Calls Tryz.prog 10 #[.slice AH nh ch] W' fun o w' => o = .returned (.slice AH hl2 ch) ∧ w' = W' from by rw [hhl]; exact hfh)
  rw [← hhl] at hhc
  clear hr hl hcap hcap2 hnm hfew hh hfh hhl
  go_enter Tryz.func3, Tryz.ntmps3
  go_wp2_with fail
  refine HMD.out.mono ?_
  rintro o w1 ⟨T, m, A1, c1, rfl, hT, hrd, hm60, hmc, hmc2, hb1⟩
  have B1 := Lib.hid hb1
  have HT1 := Lib.hid hT
  have HR1 := Lib.hid hrd
  have HF := Lib.hid (fine_of hT.good)
  have HV := Lib.hid (heavy_of hT.good)
  have I1 := Lib.hid (show RdI w1 AH H from HI.out.below hb1)
  have HNEW := Lib.hid (eliA.new_any hT hm60 AH ch H I1.out (by omega) (by rw [← HHL.out]; exact hhc) hhc2)
  rw [← HHL.out] at HNEW
  clear hT hrd hb1
  go_wp2_with fail
  refine (HFH.out _).mono ?_
  rintro o w2 ⟨rfl, rfl⟩
  go_wp2_with fail
  refine HNEW.out.mono ?_
  rintro o w3 ⟨rfl, hs3, hz3⟩
  have BN := Lib.hid hs3.bel
  have B3 := Lib.hid (B1.out.trans (hs3.bel.mono B1.out.size))
  have S3 := Lib.hid (setOk_of hs3 HT1.out)
  have HWT := Lib.hid (weights_any (HR1.out.below hs3.bel) hm60 hmc hmc2 HF.out HV.out AH ch H (I1.out.below hs3.bel) (by omega))
  obtain ⟨mn, hmn⟩ : ∃ mn, mn = m.length := ⟨_, rfl⟩
  have HMN := Lib.hid hmn
  rw [← hmn] at HWT ⊢
  rw [← HHL.out] at HWT
  clear hs3 hz3 hmn
  go_wp2_with fail
  refine HWT.out.mono ?_
  rintro o z ⟨rfl, hcs, hb4⟩
  have HBZ := Lib.hid (B3.out.trans (hb4.mono B3.out.size))
  have SZ := Lib.hid (S3.out.below hb4)
  have LZ := Lib.hid (show LawIn z A1 m w3.heap.size (F m H) from ⟨(HR1.out.below BN.out).below hb4, by rw [HMN.out] at hcs; exact hcs⟩)
  have HFI := Lib.hid (F_in HF.out HV.out hm60 H)
  obtain ⟨W, hW⟩ : ∃ W, W = F m H := ⟨_, rfl⟩
  rw [← hW] at SZ LZ HFI
  obtain ⟨S, hS⟩ : ∃ S, S = w2.heap.size + 1 := ⟨_, rfl⟩
  obtain ⟨q0, hq0⟩ : ∃ q, q = w2.heap.size := ⟨_, rfl⟩
  have SZ2 := Lib.hid (show SetOk z S T q0 m W from by rw [hS, hq0]; exact SZ.out)
  obtain ⟨b, hb⟩ : ∃ b, b = w3.heap.size := ⟨_, rfl⟩
  rw [← hb] at LZ ⊢
  rw [← hS]
  obtain ⟨g, hg⟩ : ∃ g, g = z.heap.size := ⟨_, rfl⟩
  obtain ⟨w5, hw5⟩ : ∃ w5, w5 = z.alloc (.cells #[.int .u32 0, .int .i32 0, .int .u32 0, .slice none 0 0, .int .i64 fac, .int .u64 seed] 51) := ⟨_, rfl⟩
  have HW5 := Lib.hid (show WSt z g fac seed w5 from ⟨.inl (by rw [hw5, hg]; exact Blk.new z _ _), by rw [hw5]; exact (Below.refl _ _).alloc (Nat.le_refl _) _, by omega⟩)
  have E5 := Lib.hid hw5
  have EG := Lib.hid hg
  have HS1 := Lib.hid (step_any SZ2.out HW5.out HFI.out a0 key)
  have HSA := Lib.hid (show ∀ V, WSt z g fac seed V → ∀ a, Calls Tryz.prog 13 #[.pointer (some ⟨g, 0, none⟩), .pointer (some ⟨S, 0, none⟩), .int .i64 a, .int .u64 key] V (WPost z g fac seed (.int .i64 (stepW m W seed key a)) V) from fun V hV a => step_any SZ2.out hV HFI.out a key)
  have HDN := Lib.hid (show ∀ V, WSt z g fac seed V → Calls Tryz.prog 14 #[.pointer (some ⟨g, 0, none⟩), .pointer (some ⟨S, 0, none⟩), .int .i64 a0, .int .u64 key] V (DPost z g fac seed (downW m W seed key a0) V) from fun V hV => down_any SZ2.out hV HFI.out a0 key)
  clear hcs hb4 SZ S3 hw5 hg hS hq0 hb hW HMD HNEW HWT HFH
  by_cases ha : a0 < 0 ∨ (mn : Int) ≤ a0
  · have hi : isB a0 m.length = false := by
      unfold isB
      have := HMN.out
      simp only [Bool.and_eq_false_iff, decide_eq_false_iff_not]
      omega
    rw [step_out hi] at HS1
    rw [down_out hi] at HDN
    rcases ha with ha | ha
    · have t1 : decide (a0 < 0) = true := decide_eq_true ha
      go_wp2_with fail
      rw [← E5.out, ← EG.out]
      go_wp2_with fail
      refine HS1.out.mono ?_
      rintro o w6 ⟨rfl, hw6, _⟩
      have HW6 := Lib.hid hw6
      have HD6 := Lib.hid (HDN.out w6 hw6)
      clear hw6
      go_wp2_with fail
      refine HD6.out.mono ?_
      rintro o w7 ⟨v7, rfl, ho7, hw7, _⟩
      have HW7 := Lib.hid hw7
      have HA7 := Lib.hid (HAW.out w7)
      obtain ⟨A7, c7, hv7⟩ := own_slice ho7
      subst hv7
      clear hw7 ho7
      go_wp2_with fail
      refine HA7.out.mono ?_
      rintro o w8 ⟨rfl, hb8⟩
      have HB8 := Lib.hid (HBZ.out.trans ((HW7.out.below hb8).bel.mono HBZ.out.size))
      clear hb8
      go_wp2_with fail
      go_ret
      exact ⟨rfl, HB8.out⟩
    · have t1 : decide (a0 < 0) = false := decide_eq_false (by omega)
      have t2 : decide ((mn : Int) ≤ a0) = true := decide_eq_true ha
      go_wp2_with fail
      rw [← E5.out, ← EG.out]
      go_wp2_with fail
      refine HS1.out.mono ?_
      rintro o w6 ⟨rfl, hw6, _⟩
      have HW6 := Lib.hid hw6
      have HD6 := Lib.hid (HDN.out w6 hw6)
      clear hw6
      go_wp2_with fail
      refine HD6.out.mono ?_
      rintro o w7 ⟨v7, rfl, ho7, hw7, _⟩
      have HW7 := Lib.hid hw7
      have HA7 := Lib.hid (HAW.out w7)
      obtain ⟨A7, c7, hv7⟩ := own_slice ho7
      subst hv7
      clear hw7 ho7
      go_wp2_with fail
      refine HA7.out.mono ?_
      rintro o w8 ⟨rfl, hb8⟩
      have HB8 := Lib.hid (HBZ.out.trans ((HW7.out.below hb8).bel.mono HBZ.out.size))
      clear hb8
      go_wp2_with fail
      go_ret
      exact ⟨rfl, HB8.out⟩
  · obtain ⟨a, rfl⟩ : ∃ a : Nat, a0 = (a : Int) := ⟨a0.toNat, by omega⟩
    have ham : a < m.length := by have := HMN.out; omega
    have t1 : decide ((a : Int) < 0) = false := decide_eq_false (by omega)
    have t2 : decide ((mn : Int) ≤ (a : Int)) = false := decide_eq_false (by omega)
    have HSL := Lib.hid (show ∀ V, WSt z g fac seed V → Calls Tryz.prog 17 #[.slice A1 mn c1, .slice (some ⟨b, 0, none⟩) mn mn, .int .u64 seed, .int .i64 (a : Int), .int .u64 key] V fun o w' => o = .returned (.int .i64 (stepW m W seed key a)) ∧ Below V.heap.size V w' from fun V hV => by rw [HMN.out]; exact lstep_any (LZ.out.below hV.bel) hmc hmc2 (by omega) HFI.out HF.out seed key ham)
    have HDL := Lib.hid (show ∀ V, WSt z g fac seed V → Calls Tryz.prog 16 #[.slice A1 mn c1, .slice (some ⟨b, 0, none⟩) mn mn, .int .u64 seed, .int .i64 (a : Int), .int .u64 key] V fun o w' => ∃ v, o = .returned v ∧ OwnI w' V.heap.size v ((wayF m W seed key 4 a).getD []) ∧ Below V.heap.size V w' from fun V hV => by rw [HMN.out]; exact ldown_any (LZ.out.below hV.bel) hmc hmc2 (by omega) HFI.out HF.out seed key ham)
    have HLO := Lib.hid (show ∀ V, WSt z g fac seed V → Calls Tryz.prog 19 #[.pointer (some ⟨g, 0, none⟩), .pointer (some ⟨S, 0, none⟩), .int .i64 (a : Int)] V fun o w' => ∃ v, o = .returned v ∧ OwnI w' V.heap.size v (loadsW m W fac a) ∧ Below V.heap.size V w' from fun V hV => walkH.loads_any SZ2.out hV hm60 a)
    have HLL := Lib.hid (show ∀ V, WSt z g fac seed V → Calls Tryz.prog 20 #[.slice A1 mn c1, .slice (some ⟨b, 0, none⟩) mn mn, .int .i64 (a : Int), .int .i64 fac] V fun o w' => ∃ v, o = .returned v ∧ OwnI w' V.heap.size v (loadsW m W fac a) ∧ Below V.heap.size V w' from fun V hV => by rw [HMN.out]; exact walkJ.lloads_any (LZ.out.below hV.bel) hmc hmc2 hm60 (fun i => (HFI.out i).1) HF.out a fac)
    have dwa : w5.cell? ⟨b, a, none⟩ = some (.int .u64 (W a)) := (LZ.out.below HW5.out.bel).cell ham
    have hwa := HFI.out a
    have HDW := Lib.hid (show downW m W seed key a = if (W a != 0) = true then (wayF m W seed key 4 a).getD [] else [] from by
      unfold downW
      rw [wt_nat ham])
    obtain ⟨dl, hdl⟩ : ∃ dl, dl = downW m W seed key a := ⟨_, rfl⟩
    rw [← hdl] at HDW HDN
    obtain ⟨wa, hwa2⟩ : ∃ wa, wa = W a := ⟨_, rfl⟩
    rw [← hwa2] at HDW dwa hwa
    obtain ⟨st, hst⟩ : ∃ st, st = stepW m W seed key a := ⟨_, rfl⟩
    rw [← hst] at HSL HS1
    have HSS := Lib.hid (show ∀ V, WSt z g fac seed V → Calls Tryz.prog 13 #[.pointer (some ⟨g, 0, none⟩), .pointer (some ⟨S, 0, none⟩), .int .i64 (a : Int), .int .u64 key] V (WPost z g fac seed (.int .i64 st) V) from fun V hV => by rw [hst]; exact HSA.out V hV a)
    obtain ⟨ll, hll⟩ : ∃ ll, ll = loadsW m W fac a := ⟨_, rfl⟩
    rw [← hll] at HLO HLL
    have hgl := HW5.out.lt
    have i0 : (0 : Int) ≤ a := by omega
    have i1 : (a : Int) < mn := by have := HMN.out; omega
    clear hdl hwa2 hst hll HSA ha
    rw [E5.out] at dwa
    obtain rfl := EG.out
    go_upto_if 66 with fail
    go_cut [18] (fun v wx => ∃ B, z.heap.size < B ∧ Hid (OwnI wx B v dl) ∧ Hid (WSt z z.heap.size fac seed wx))
    case first =>
      rw [← E5.out]
      by_cases hz : 0 < wa
      · have t3 : decide (0 < wa) = true := decide_eq_true hz
        have HD2 := Lib.hid (show dl = (wayF m W seed key 4 a).getD [] from by rw [HDW.out, if_pos (by simp; omega)])
        go_wp2_with fail
        refine (HDL.out w5 HW5.out).mono ?_
        rintro o w6 ⟨v6, rfl, ho6, hb6⟩
        have HO6 := Lib.hid ho6
        have HW6 := Lib.hid (HW5.out.below hb6)
        clear ho6 hb6
        go_wp2_with fail
        go_meet
        exact ⟨_, hgl, Lib.hid (by rw [HD2.out]; exact HO6.out), HW6⟩
      · have t3 : decide (0 < wa) = false := decide_eq_false hz
        have HD2 := Lib.hid (show dl = [] from by rw [HDW.out, if_neg (by simp; omega)])
        go_wp2_with fail
        go_meet
        exact ⟨w5.heap.size, hgl, Lib.hid (by rw [HD2.out]; exact ownI_nil _ _), HW5⟩
    case rest =>
      obtain ⟨B, hB, HO, HWc⟩ := hcut
      have x1 : (st == st) = true := by simp
      go_wp2_with fail
      refine (HSS.out wc HWc.out).mono ?_
      rintro o w6 ⟨rfl, hw6, ha6⟩
      have HW6 := Lib.hid hw6
      have HO6 := Lib.hid (own_aside HO.out ha6 hB)
      clear hw6 ha6
      go_wp2_with fail
      refine (HSL.out w6 HW6.out).mono ?_
      rintro o w7 ⟨rfl, hb7⟩
      have HW7 := Lib.hid (HW6.out.below hb7)
      have HO7 := Lib.hid (HO6.out.below hb7)
      clear hb7
      go_wp2_with fail
      refine (HDN.out w7 HW7.out).mono ?_
      rintro o w8 ⟨v8, rfl, ho8, hw8, ha8⟩
      have HW8 := Lib.hid hw8
      have HO8 := Lib.hid (own_aside HO7.out ha8 hB)
      have HV8 := Lib.hid ho8
      have HSM := Lib.hid (walkI.lsame_any _ _ dl w8 (read_own ho8) (read_own HO8.out))
      clear ho8 hw8 ha8
      go_wp2_with fail
      refine HSM.out.mono ?_
      rintro o w9 ⟨rfl, hb9⟩
      have HW9 := Lib.hid (HW8.out.below hb9)
      clear hb9
      go_wp2_with fail
      refine (HLO.out w9 HW9.out).mono ?_
      rintro o w10 ⟨v10, rfl, ho10, hb10⟩
      have HW10 := Lib.hid (HW9.out.below hb10)
      have HO10 := Lib.hid ho10
      clear ho10 hb10
      go_wp2_with fail
      refine (HLL.out w10 HW10.out).mono ?_
      rintro o w11 ⟨v11, rfl, ho11, hb11⟩
      have HW11 := Lib.hid (HW10.out.below hb11)
      have HSM2 := Lib.hid (walkI.lsame_any _ _ ll w11 (read_own (HO10.out.below hb11)) (read_own ho11))
      clear ho11 hb11
      go_wp2_with fail
      refine HSM2.out.mono ?_
      rintro o w12 ⟨rfl, hb12⟩
      have HW12 := Lib.hid (HW11.out.below hb12)
      have HA12 := Lib.hid (HAW.out w12)
      clear hb12
      go_wp2_with fail
      refine HA12.out.mono ?_
      rintro o w13 ⟨rfl, hb13⟩
      have HB13 := Lib.hid (HBZ.out.trans ((HW12.out.below hb13).bel.mono HBZ.out.size))
      clear hb13
      go_wp2_with fail
      go_ret
      exact ⟨rfl, HB13.out⟩
end Go.Proofs.YtoaboklckkcjcaaGreat.walkK
/- Slices of nodes that came in. -/
namespace Go.Proofs.YtoaboklckkcjcaaGreat.base
open Go.RowKit Go.WideShapes Go.ChangeShapes Go.Joins Go.Deep
open Go.Proofs.YtoaboklckkcjcaaGreat.dfA
set_option linter.unusedVariables false
section
variable {H : Type} {enc : TypeId × Value → H} {P : Program} {w : World} {base b0 : Nat} {held : Bool} {spare : Nat → Bool}
def nodeLeafs : List Leaf := [.str, .int .i64, .int .i64, .int .i64, .bool, .int .u64, .int .u64]
theorem node_of {ls : List Leaf} {z : List Value} (h : Leaves enc P w base spare held (nodeLeafs ++ ls) z) : ∃ (x : Nd) (z' : List Value), z = x.cells.toList ++ z' ∧ Leaves enc P w base spare held ls z' := by
  obtain ⟨_, _, rfl, ⟨s, rfl, _⟩, h⟩ := h
  obtain ⟨_, _, rfl, ⟨p, rfl, _⟩, h⟩ := h
  obtain ⟨_, _, rfl, ⟨a, rfl, _⟩, h⟩ := h
  obtain ⟨_, _, rfl, ⟨b, rfl, _⟩, h⟩ := h
  obtain ⟨_, _, rfl, ⟨c, rfl⟩, h⟩ := h
  obtain ⟨_, _, rfl, ⟨d, rfl, _⟩, h⟩ := h
  obtain ⟨_, z', rfl, ⟨f, rfl, _⟩, h⟩ := h
  exact ⟨⟨s, p, a, b, c, d, f⟩, z', rfl, h⟩
instance : Inhabited Nd := ⟨⟨⟨#[]⟩, 0, 0, 0, false, 0, 0⟩⟩
theorem open_nodes {r : Reach} {t e : TypeId} {v : Value} {d : DataW H} {p : List MemPlace} (q : Nat) (ht : P.underlying t = some (.slice e)) (he : leafs P q e = some nodeLeafs) (hc : P.cellsOf e = 7)
    (hv : Value.okWide P w r b0 t v) (h : DataW.Trod enc P w base (fun _ => true) held t v d p) :
    ∃ (A : Option Addr) (n c : Nat) (f : Nat → Nd), v = .slice A n c ∧ n ≤ c ∧ c ≤ maxLen ∧ RowsOf w A n 7 (fun j => (f j).cells.toList) := by
  obtain ⟨A, n, c, g, h1, h2, h3, _, h5, h6⟩ := open_rows q 7 nodeLeafs ht he hc (by omega) hv h
  have key : ∀ j, j < n → ∃ x : Nd, g j = x.cells.toList := fun j hj => by
    obtain ⟨x, z', e1, e2⟩ := node_of (ls := []) (h5 j hj).1
    simp only [Leaves] at e2
    subst e2
    exact ⟨x, by rw [e1, List.append_nil]⟩
  obtain ⟨f, hf⟩ := choose_lt key
  refine ⟨A, n, c, f, h1, h2, h3, ?_⟩
  rcases h6 with h0 | ⟨b, off, k1, k2, k3⟩
  · exact .inl h0
  · refine .inr ⟨b, off, k1, k2, fun j hj i hi => ?_⟩
    rw [k3 j hj i hi, hf j hj]
/-- The same, with how long the names are. -/
theorem node_of2 {ls : List Leaf} {z : List Value} (h : Leaves enc P w base spare held (nodeLeafs ++ ls) z) : ∃ (x : Nd) (z' : List Value), z = x.cells.toList ++ z' ∧ x.nm.size ≤ maxLen ∧ Leaves enc P w base spare held ls z' := by
  obtain ⟨_, _, rfl, ⟨s, rfl, hs⟩, h⟩ := h
  obtain ⟨_, _, rfl, ⟨p, rfl, _⟩, h⟩ := h
  obtain ⟨_, _, rfl, ⟨a, rfl, _⟩, h⟩ := h
  obtain ⟨_, _, rfl, ⟨b, rfl, _⟩, h⟩ := h
  obtain ⟨_, _, rfl, ⟨c, rfl⟩, h⟩ := h
  obtain ⟨_, _, rfl, ⟨d, rfl, _⟩, h⟩ := h
  obtain ⟨_, z', rfl, ⟨f, rfl, _⟩, h⟩ := h
  exact ⟨⟨s, p, a, b, c, d, f⟩, z', rfl, hs, h⟩
theorem open_nodes2 {r : Reach} {t e : TypeId} {v : Value} {d : DataW H} {p : List MemPlace} (q : Nat) (ht : P.underlying t = some (.slice e)) (he : leafs P q e = some nodeLeafs) (hc : P.cellsOf e = 7)
    (hv : Value.okWide P w r b0 t v) (h : DataW.Trod enc P w base (fun _ => true) held t v d p) :
    ∃ (A : Option Addr) (n c : Nat) (f : Nat → Nd), v = .slice A n c ∧ n ≤ c ∧ c ≤ maxLen ∧ (∀ j, j < n → (f j).nm.size ≤ maxLen) ∧ RowsOf w A n 7 (fun j => (f j).cells.toList) := by
  obtain ⟨A, n, c, g, h1, h2, h3, _, h5, h6⟩ := open_rows q 7 nodeLeafs ht he hc (by omega) hv h
  have key : ∀ j, j < n → ∃ x : Nd, g j = x.cells.toList ∧ x.nm.size ≤ maxLen := fun j hj => by
    obtain ⟨x, z', e1, e3, e2⟩ := node_of2 (ls := []) (h5 j hj).1
    simp only [Leaves] at e2
    subst e2
    exact ⟨x, by rw [e1, List.append_nil], e3⟩
  obtain ⟨f, hf⟩ := choose_lt key
  refine ⟨A, n, c, f, h1, h2, h3, fun j hj => (hf j hj).2, ?_⟩
  rcases h6 with h0 | ⟨b, off, k1, k2, k3⟩
  · exact .inl h0
  · refine .inr ⟨b, off, k1, k2, fun j hj i hi => ?_⟩
    rw [k3 j hj i hi, (hf j hj).1]
/-- What came in reads as a list, as long as one likes. -/
theorem rdN_of {A : Option Addr} {n : Nat} {f : Nat → Nd} (h : RowsOf w A n 7 (fun j => (f j).cells.toList)) (m : Nat) (hm : m ≤ n) : RdN w A ((List.range m).map f) := by
  rcases h with h0 | ⟨b, off, h1, h2, h3⟩
  · refine .inl ?_
    have : m = 0 := by omega
    subst this
    rfl
  · refine .inr ⟨b, off, h1, h2, fun j hj i hi => ?_⟩
    have hj2 : j < m := by simpa using hj
    rw [h3 j (by omega) i hi]
    simp
end
end Go.Proofs.YtoaboklckkcjcaaGreat.base
/- Few, the law's: at most 60 nodes, and the nodes that came in as a list of that. -/
namespace Go.Proofs.YtoaboklckkcjcaaGreat.fewN
open Go.ChangeShapes Go.WideShapes Go.ChangeAt Go.RowKit
open Go.Proofs.YtoaboklckkcjcaaGreat.base Go.Proofs.YtoaboklckkcjcaaGreat.dfA
set_option linter.unusedVariables false
theorem few_small (A : Option Addr) (n c : Nat) (w : World) (h : n ≤ 60) : Calls Tryz.prog 39 #[.slice A n c] w fun o w' => o = .returned (.slice A n c) ∧ Below w.heap.size w w' := by
  have t1 : decide ((60 : Int) < n) = false := decide_eq_false (by omega)
  have HB := Lib.hid (Below.refl w.heap.size w)
  go_enter Tryz.func39, Tryz.ntmps39
  go_wp2_with fail
  go_ret
  exact ⟨rfl, HB.out⟩
theorem few_big (b off n c : Nat) (w : World) (h : 60 < n) (hc : n ≤ c) (hc2 : c ≤ 9223372036854775807) : Calls Tryz.prog 39 #[.slice (some ⟨b, off, none⟩) n c] w fun o w' => o = .returned (.slice (some ⟨b, off, none⟩) 60 c) ∧ Below w.heap.size w w' := by
  have t1 : decide ((60 : Int) < n) = true := decide_eq_true (by omega)
  have HB := Lib.hid (Below.refl w.heap.size w)
  go_enter Tryz.func39, Tryz.ntmps39
  go_wp2_with fail
  go_ret
  exact ⟨rfl, HB.out⟩
theorem few_any (W : World) (A : Option Addr) (n c : Nat) (f : Nat → Nd) (h1 : n ≤ c) (h2 : c ≤ maxLen) (hf : ∀ j, j < n → (f j).nm.size ≤ maxLen) (hr : RowsOf W A n 7 (fun j => (f j).cells.toList)) :
      ∃ l : List Nd, RdN W A l ∧ l.length ≤ 60 ∧ l.length ≤ n ∧ l.length ≤ c ∧ c ≤ 9223372036854775807 ∧ (∀ j (hj : j < l.length), (l[j]).nm.size ≤ 9223372036854775807) ∧
        ∀ W', Calls Tryz.prog 39 #[.slice A n c] W' fun o w' => o = .returned (.slice A l.length c) ∧ Below W'.heap.size W' w' := by
  unfold maxLen at h2 hf
  by_cases hn : n ≤ 60
  · refine ⟨(List.range n).map f, rdN_of hr n (Nat.le_refl _), by simpa using hn, by simp, by simpa using h1, by omega, fun j hj => ?_, fun W' => ?_⟩
    · simp only [List.length_map, List.length_range] at hj
      simpa using hf j hj
    · rw [List.length_map, List.length_range]
      exact few_small A n c W' hn
  · refine ⟨(List.range 60).map f, rdN_of hr 60 (by omega), by simp, by simp; omega, by simp; omega, by omega, fun j hj => ?_, fun W' => ?_⟩
    · simp only [List.length_map, List.length_range] at hj
      simpa using hf j (by omega)
    · rw [List.length_map, List.length_range]
      rcases hr with h0 | ⟨b, off, hA, _, _⟩
      · omega
      · subst hA
        exact few_big b off n c W' (by omega) h1 (by omega)
end Go.Proofs.YtoaboklckkcjcaaGreat.fewN
/- A slice of ints that came in, as a list of numbers. -/
namespace Go.Proofs.YtoaboklckkcjcaaGreat.openIntR
open Go.RowKit Go.WideShapes Go.ChangeShapes Go.Joins Go.Deep
open Go.Proofs.YtoaboklckkcjcaaGreat.base Go.Proofs.YtoaboklckkcjcaaGreat.treM Go.Proofs.YtoaboklckkcjcaaGreat.eliC
set_option linter.unusedVariables false
section
variable {H : Type} {enc : TypeId × Value → H} {w : World} {base b0 : Nat} {held : Bool}
set_option maxRecDepth 100000 in
/-- At most thirty of them, as the law's Few has it. -/
theorem open_few {r : Reach} {v : Value} {d : DataW H} {p : List MemPlace} (hv : Value.okWide Tryz.prog w r b0 23 v) (h : DataW.Trod enc Tryz.prog w base (fun _ => true) held 23 v d p) :
    ∃ (A : Option Addr) (n c : Nat) (l : List Int), v = .slice A n c ∧ RdI w A l ∧ l.length ≤ 30 ∧ l.length ≤ c ∧ c ≤ 9223372036854775807 ∧
      ∀ W', Calls Tryz.prog 10 #[.slice A n c] W' fun o w' => o = .returned (.slice A l.length c) ∧ w' = W' := by
  obtain ⟨A, n, c, f, rfl, h1, h2, h3, hL, hr⟩ := open_rows 4 1 [.int .i64] Tryz.underlying23 (by kernel_rfl) (by kernel_rfl) (by omega) hv h
  unfold maxLen at h2
  have hz : ∀ j, j < n → ∃ z : Int, f j = [.int .i64 z] := fun j hj => by
    obtain ⟨⟨_, cs2, e, ⟨x, rfl, wx⟩, hl2⟩, hlen⟩ := hL j hj
    have h0 : cs2 = [] := by
      rw [e] at hlen
      exact List.eq_nil_of_length_eq_zero (by simpa using hlen)
    subst h0
    exact ⟨x, e⟩
  have hzz : ∃ Z : Nat → Int, ∀ j, j < n → f j = [.int .i64 (Z j)] := by
    refine ⟨fun j => if hj : j < n then (hz j hj).choose else 0, fun j hj => ?_⟩
    dsimp only
    rw [dif_pos hj]
    exact (hz j hj).choose_spec
  obtain ⟨Z, hZ⟩ := hzz
  have rd : ∀ k, k ≤ n → RdI w A ((List.range k).map Z) := fun k hk => by
    rcases hr with h0 | ⟨b, off, hA, hb, hc⟩
    · have : k = 0 := by omega
      subst this
      exact .inl rfl
    · refine .inr ⟨b, off, hA, hb, fun j x hx => ?_⟩
      have hj : j < k := by have := (List.getElem?_eq_some_iff.mp hx).1; simpa using this
      have h4 := hc j (by omega) 0 (by omega)
      rw [hZ j (by omega)] at h4
      simp [hj] at hx
      subst hx
      simpa using h4
  by_cases hn : n ≤ 30
  · refine ⟨A, n, c, (List.range n).map Z, rfl, rd n (Nat.le_refl _), by simpa using hn, by simpa using h1, by omega, fun W' => ?_⟩
    rw [List.length_map, List.length_range]
    exact few_small A n c W' hn
  · refine ⟨A, n, c, (List.range 30).map Z, rfl, rd 30 (by omega), by simp, by simp; omega, by omega, fun W' => ?_⟩
    rw [List.length_map, List.length_range]
    rcases hr with h0 | ⟨b, off, hA, _, _⟩
    · omega
    · subst hA
      exact few_big b off n c W' (by omega) h1 (by omega)
end
end Go.Proofs.YtoaboklckkcjcaaGreat.openIntR
