/- 3 texts in one. -/
import Derived.Deep.RegionHeld3
import Derived.Test.YtoaboklckkcjcaaGreatPk05
import Derived.Test.YtoaboklckkcjcaaGreatPk17
import Derived.Test.YtoaboklckkcjcaaGreatPk21
import Derived.Test.YtoaboklckkcjcaaGreatPk22
/- Layer 43: the law of DiffFixed. -/
namespace Go.Proofs.YtoaboklckkcjcaaGreat.dkD
open Go.ChangeShapes Go.WideShapes Go.ChangeAt Go.RowKit
open Go.Proofs.YtoaboklckkcjcaaGreat.base Go.Proofs.YtoaboklckkcjcaaGreat.dfA Go.Proofs.YtoaboklckkcjcaaGreat.treB Go.Proofs.YtoaboklckkcjcaaGreat.treD Go.Proofs.YtoaboklckkcjcaaGreat.treG Go.Proofs.YtoaboklckkcjcaaGreat.treM Go.Proofs.YtoaboklckkcjcaaGreat.treX Go.Proofs.YtoaboklckkcjcaaGreat.treW Go.Proofs.YtoaboklckkcjcaaGreat.eliW Go.Proofs.YtoaboklckkcjcaaGreat.eliA Go.Proofs.YtoaboklckkcjcaaGreat.eliB Go.Proofs.YtoaboklckkcjcaaGreat.eliC Go.Proofs.YtoaboklckkcjcaaGreat.onceBw Go.Proofs.YtoaboklckkcjcaaGreat.onceCw Go.Proofs.YtoaboklckkcjcaaGreat.strA Go.Proofs.YtoaboklckkcjcaaGreat.walkA Go.Proofs.YtoaboklckkcjcaaGreat.walkB Go.Proofs.YtoaboklckkcjcaaGreat.walkC Go.Proofs.YtoaboklckkcjcaaGreat.walkD Go.Proofs.YtoaboklckkcjcaaGreat.walkE Go.Proofs.YtoaboklckkcjcaaGreat.walkK Go.Proofs.YtoaboklckkcjcaaGreat.walkM Go.Proofs.YtoaboklckkcjcaaGreat.walkV Go.Proofs.YtoaboklckkcjcaaGreat.walkX Go.Proofs.YtoaboklckkcjcaaGreat.dkA Go.Proofs.YtoaboklckkcjcaaGreat.dkC
set_option linter.unusedVariables false

/-- What is known as the law climbs: it stands at y, of the kind kd, and f tells of all below. -/
structure Cl (m : List Nd) (h : Nat) (y kd : Int) (f : Bool) : Prop where
  lo : 0 ≤ kd
  hi : kd < (ndAt m h).kind
  at_ : (y = -1 ∧ kd = 0) ∨ ∃ a : Nat, y = (a : Int) ∧ a < m.length ∧ (ndAt m a).kind = kd ∧ upF m kd (h : Int) = (a : Int)
  tells : f = true ↔ ∀ k', kd < k' → k' < (ndAt m h).kind → 2 ≤ k' → (ndAt m (upF m k' (h : Int))).wt ≠ 0
theorem Cl.start {m : List Nd} {h : Nat} (hf : Fine m) (hm : h < m.length) : Cl m h (m[h]).ab ((ndAt m h).kind - 1) true := by
  rw [treW.ndAt_nat hm]
  have h1 := hf.lo h hm
  refine ⟨by omega, by rw [treW.ndAt_nat hm]; omega, ?_, ?_⟩
  · by_cases hk : (m[h]).kind = 1
    · exact .inl ⟨hf.lev h hm hk, by omega⟩
    · obtain ⟨a, ha, hab, hah, hka⟩ := hf.sub h hm hk
      refine .inr ⟨a, hab, ha, by rw [treW.ndAt_nat ha]; exact hka, ?_⟩
      rw [upF_step hf _ hm (beq_false_of_ne (by omega)), hab, upF_here _ ha (by simp [hka])]
  · exact ⟨fun _ k' h1 h2 h3 => by rw [treW.ndAt_nat hm] at h2; omega, fun _ => rfl⟩
theorem Cl.next {m : List Nd} {h : Nat} (hf : Fine m) (hh : Heavy m) (hm : h < m.length) {a : Nat} {kd : Int} {f : Bool} (c : Cl m h (a : Int) kd f) (ha : a < m.length) : Cl m h (m[a]).ab (kd - 1) (f && ((m[a]).kind == 1 || decide (0 < (m[a]).wt))) ∧ (m[a]).kind = kd := by
  obtain ⟨c1, c2, c3, c4⟩ := c
  obtain ⟨hka, hup⟩ : (m[a]).kind = kd ∧ upF m kd (h : Int) = (a : Int) := by
    rcases c3 with ⟨e, _⟩ | ⟨b, e, hb, hk, hu⟩
    · omega
    · have : b = a := by omega
      subst this
      rw [treW.ndAt_nat ha] at hk
      exact ⟨hk, hu⟩
  have hlo := hf.lo a ha
  have hw := hh.lo a ha
  refine ⟨⟨by omega, by omega, ?_, ?_⟩, hka⟩
  · by_cases hk : (m[a]).kind = 1
    · exact .inl ⟨hf.lev a ha hk, by omega⟩
    · obtain ⟨b, hb, hab, hba, hkb⟩ := hf.sub a ha hk
      refine .inr ⟨b, hab, hb, by rw [treW.ndAt_nat hb]; omega, ?_⟩
      rw [up_comp hf kd (kd - 1) (by omega) (h + 1) h a (by omega) hm hup, upF_step hf _ ha (beq_false_of_ne (by omega)), hab, upF_here _ hb (by rw [hkb, hka]; simp)]
  · rw [Bool.and_eq_true, c4, Bool.or_eq_true, decide_eq_true_eq, beq_iff_eq, hka]
    constructor
    · rintro ⟨h1, h2⟩ k' h3 h4 h5
      by_cases e : k' = kd
      · subst e
        rw [hup, treW.ndAt_nat ha]
        rcases h2 with h2 | h2 <;> omega
      · exact h1 k' (by omega) h4 h5
    · intro h1
      refine ⟨fun k' h3 h4 h5 => h1 k' (by omega) h4 h5, ?_⟩
      by_cases e : kd = 1
      · exact .inl e
      · have := h1 kd (by omega) c2 (by omega)
        rw [hup, treW.ndAt_nat ha] at this
        right
        omega
theorem Cl.done {m : List Nd} {h : Nat} {kd : Int} {f : Bool} (c : Cl m h (-1) kd f) : kd = 0 ∧ (f = true ↔ FixP m h) := by
  obtain ⟨c1, c2, c3, c4⟩ := c
  have hk : kd = 0 := by
    rcases c3 with ⟨_, e⟩ | ⟨b, e, _⟩
    · exact e
    · omega
  subst hk
  refine ⟨rfl, c4.trans ⟨fun h1 kd h2 h3 => h1 kd (by omega) h3 h2, fun h1 k' h2 h3 h4 => h1 k' h4 h3⟩⟩
set_option maxRecDepth 100000 in
set_option maxHeartbeats 64000000 in
theorem fixed_law (A : Option Addr) (n c : Nat) (l : List Nd) (AH : Option Addr) (nh ch : Nat) (H : List Int) (host weight level from' : Int) (w : World) (hr : RdN w A l) (hl : l.length ≤ 60) (hcap : l.length ≤ c) (hcap2 : c ≤ 9223372036854775807) (hnm : ∀ j (hj : j < l.length), (l[j]).nm.size ≤ 9223372036854775807)
    (hfew : ∀ W', Calls Tryz.prog 39 #[.slice A n c] W' fun o w' => o = .returned (.slice A l.length c) ∧ Below W'.heap.size W' w')
    (hh : RdI w AH H) (hH : H.length ≤ 30) (hhc : H.length ≤ ch) (hhc2 : ch ≤ 9223372036854775807) (hfh : ∀ W', Calls Tryz.prog 10 #[.slice AH nh ch] W' fun o w' => o = .returned (.slice AH H.length ch) ∧ w' = W')
    (haw : ∀ W, Calls Tryz.prog 37 #[] W fun o w' => o = .returned (.bool true) ∧ Below W.heap.size W w') :
    Calls Tryz.prog 8 #[.slice A n c, .slice AH nh ch, .int .i64 host, .int .i64 weight, .int .i64 level, .int .u64 from'] w fun o w' => o = .returned (.bool true) ∧ Below w.heap.size w w' := by
  have HMD := Lib.hid (made_x A n c l w hr hl hcap hcap2 hnm hfew)
  have HI := Lib.hid hh
  have HAW := Lib.hid haw
  obtain ⟨hl2, hhl⟩ : ∃ hl2, hl2 = H.length := ⟨_, rfl⟩
  have HHL := Lib.hid hhl
  have HFH := Lib.hid (show ∀ W', Calls Tryz.prog 10 #[.slice AH nh ch] W' fun o w' => o = .returned (.slice AH hl2 ch) ∧ w' = W' from by rw [hhl]; exact hfh)
  rw [← hhl] at hhc
  clear hr hl hcap hcap2 hnm hfew hh hfh hhl haw
  go_enter Tryz.func8, Tryz.ntmps8
  go_wp2_with fail
  refine HMD.out.mono ?_
  rintro o w1 ⟨T, m, A1, c1, rfl, hT, hrd, hm60, hmc, hmc2, hb1, hmt, hmnm⟩
  have B1 := Lib.hid hb1
  have HT1 := Lib.hid hT
  have HR1 := Lib.hid hrd
  have HF := Lib.hid (fine_of hT.good)
  have HV := Lib.hid (heavy_of hT.good)
  have HNMS := Lib.hid hmnm
  have I1 := Lib.hid (show RdI w1 AH H from HI.out.below hb1)
  have HNEW := Lib.hid (eliA.new_any hT hm60 AH ch H I1.out (by omega) (by rw [← HHL.out]; exact hhc) hhc2)
  rw [← HHL.out] at HNEW
  clear hT hrd hb1 hmt hmnm
  go_wp2_with fail
  refine (HFH.out _).mono ?_
  rintro o w2 ⟨rfl, rfl⟩
  go_wp2_with fail
  refine HNEW.out.mono ?_
  rintro o w3a ⟨rfl, hs3, hz3⟩
  have BN := Lib.hid hs3.bel
  have B3a := Lib.hid (B1.out.trans (hs3.bel.mono B1.out.size))
  obtain ⟨S, hS⟩ : ∃ S, S = w2.heap.size + 1 := ⟨_, rfl⟩
  obtain ⟨q0, hq0⟩ : ∃ q, q = w2.heap.size := ⟨_, rfl⟩
  have S3a := Lib.hid (show SetOk w3a S T q0 m (F m H) from by rw [hS, hq0]; exact setOk_of hs3 HT1.out)
  have R3a := Lib.hid (HR1.out.below hs3.bel)
  obtain ⟨mn, hmn⟩ : ∃ mn, mn = m.length := ⟨_, rfl⟩
  have HMN := Lib.hid hmn
  rw [← hmn, ← hS]
  have I3a := Lib.hid (show RdI w3a AH H from I1.out.below hs3.bel)
  clear hs3 hz3 hmn hS hq0 HMD HNEW
  obtain ⟨b, hbb⟩ : ∃ b : Bool, b = true ↔ (isB host m.length = true ∧ FixP m host) := by
    classical
    exact ⟨decide (isB host m.length = true ∧ FixP m host), by simp⟩
  have HBB := Lib.hid hbb
  have HFX := Lib.hid (fixed_any S3a.out host b hbb)
  clear hbb
  by_cases c1' : host < 0
  · have t1 : decide (0 ≤ host) = false := decide_eq_false (by omega)
    have HBF := Lib.hid (show b = false from by
      cases hb9 : b with
      | false => rfl
      | true =>
        have h9 := (HBB.out.mp hb9).1
        unfold isB at h9
        simp only [Bool.and_eq_true, decide_eq_true_eq] at h9
        have := HMN.out
        omega)
    rw [HBF.out] at HFX
    go_wp2_with fail
    refine HFX.out.mono ?_
    rintro o w3 ⟨rfl, hb3⟩
    have B3 := Lib.hid (B3a.out.trans (hb3.mono B3a.out.size))
    clear hb3
    go_wp2_with fail
    refine (HAW.out w3).mono ?_
    rintro o w9 ⟨rfl, hb9⟩
    have HB9 := Lib.hid (B3.out.trans (hb9.mono B3.out.size))
    clear hb9
    go_wp2_with fail
    go_ret
    exact ⟨rfl, HB9.out⟩
  have t1 : decide (0 ≤ host) = true := decide_eq_true (by omega)
  by_cases c2' : (mn : Int) ≤ host
  · have t2 : decide (host < (mn : Int)) = false := decide_eq_false (by omega)
    have HBF := Lib.hid (show b = false from by
      cases hb9 : b with
      | false => rfl
      | true =>
        have h9 := (HBB.out.mp hb9).1
        unfold isB at h9
        simp only [Bool.and_eq_true, decide_eq_true_eq] at h9
        have := HMN.out
        omega)
    rw [HBF.out] at HFX
    go_wp2_with fail
    refine HFX.out.mono ?_
    rintro o w3 ⟨rfl, hb3⟩
    have B3 := Lib.hid (B3a.out.trans (hb3.mono B3a.out.size))
    clear hb3
    go_wp2_with fail
    refine (HAW.out w3).mono ?_
    rintro o w9 ⟨rfl, hb9⟩
    have HB9 := Lib.hid (B3.out.trans (hb9.mono B3.out.size))
    clear hb9
    go_wp2_with fail
    go_ret
    exact ⟨rfl, HB9.out⟩
  have t2 : decide (host < (mn : Int)) = true := decide_eq_true (by omega)
  obtain ⟨h, rfl⟩ : ∃ h : Nat, host = (h : Int) := ⟨host.toNat, by omega⟩
  have hhm : h < mn := by omega
  have hhm2 : h < m.length := by rw [← HMN.out]; exact hhm
  have HCL := Lib.hid (Cl.start HF.out hhm2)
  obtain ⟨bl, off, hA, hbl, hC⟩ := R3a.out.at_ h hhm2
  subst hA
  obtain ⟨y0, hy0⟩ : ∃ y, y = (m[h]).ab := ⟨_, rfl⟩
  have e2 : w3a.cell? ⟨bl, off + h * 7 + 2, none⟩ = some (.int .i64 y0) := by rw [hy0]; exact hC 2 (by omega)
  rw [← hy0] at HCL
  have j0 : (0 : Int) ≤ h := by omega
  have j1 : (h : Int) < mn := by omega
  have HK4 := Lib.hid (show (ndAt m (h : Int)).kind ≤ 4 from by rw [treW.ndAt_nat hhm2]; exact HF.out.hi h hhm2)
  clear hy0 hC hbl c1' c2'
  go_wp2_with fail
  go_loopw [16, 17, 18] (fun f' y' k' wr => ∃ (f : Bool) (y kd : Int) (k : Nat), f' = .bool f ∧ y' = .int .i64 y ∧ k' = .int .i64 k ∧ k ≤ 4 ∧ Hid (Cl m h y kd f ∧ (k : Int) = (ndAt m (h : Int)).kind - 1 - kd) ∧ wr = w3a) (fun _ _ k' _ => 4 - (intOf k').toNat)
  case atStart => exact ⟨true, y0, _, 0, rfl, rfl, rfl, by omega, Lib.hid ⟨HCL.out, by omega⟩, rfl⟩
  case round =>
    obtain ⟨f, y, kd, k, rfl, rfl, rfl, hk4, HC, hwr⟩ := hrel
    subst hwr
    rcases HC.out.1.at_ with ⟨hy, hkd⟩ | ⟨a, hy, ha, hka, _⟩
    · subst hy
      have HDN := Lib.hid HC.out.1.done
      have k4 : k < 4 := by have := HC.out.2; have := HK4.out; omega
      have t3 : decide ((k : Int) < 4) = true := decide_eq_true (by omega)
      have HFB := Lib.hid (show f = b from by
        rw [Bool.eq_iff_iff, HDN.out.2, HBB.out]
        exact ⟨fun h1 => ⟨isB_nat hhm2, h1⟩, fun h1 => h1.2⟩)
      have hfb := HFB.out
      subst hfb
      have HFX1 := Lib.hid HFX.out
      clear hkd
      go_wp2_with fail
      refine HFX1.out.mono ?_
      rintro o w3 ⟨rfl, hb3⟩
      have B3 := Lib.hid (B3a.out.trans (hb3.mono B3a.out.size))
      have S3 := Lib.hid (S3a.out.below hb3)
      have R3 := Lib.hid (R3a.out.below hb3)
      have I3 := Lib.hid (I3a.out.below hb3)
      have HBB2 := Lib.hid (HBB.out)
      clear hb3 e2 k4 hk4
      have xb : (f != f) = false := by cases f <;> rfl
      cases f with
      | false =>
        go_wp2_with fail
        refine (HAW.out w3).mono ?_
        rintro o w9 ⟨rfl, hb9⟩
        have HB9 := Lib.hid (B3.out.trans (hb9.mono B3.out.size))
        clear hb9
        go_wp2_with fail
        go_ret
        exact ⟨rfl, HB9.out⟩
      | true =>
        have HFIX := Lib.hid (show FixP m (h : Int) from (HBB2.out.mp rfl).2)
        obtain ⟨bl2, off2, hA, hbl, hC⟩ := R3.out.at_ h hhm2
        injection hA with hA
        injection hA with hA3 hA4
        subst hA3 hA4
        obtain ⟨e, he⟩ : ∃ e, e = m[h] := ⟨_, rfl⟩
        have HE := Lib.hid (show ndAt m (h : Int) = e from by rw [treW.ndAt_nat hhm2, he])
        rw [← he] at hC
        have e1 : w3.cell? ⟨bl, off + h * 7 + 1, none⟩ = some (.int .i64 e.kind) := hC 1 (by omega)
        have e3 : w3.cell? ⟨bl, off + h * 7 + 3, none⟩ = some (.int .i64 e.wt) := hC 3 (by omega)
        clear he hC
        by_cases c3' : e.kind ≠ 4
        · have t3 : (e.kind != 4) = true := bne_iff_ne.mpr c3'
          go_wp2_with fail
          refine (HAW.out w3).mono ?_
          rintro o w9 ⟨rfl, hb9⟩
          have HB9 := Lib.hid (B3.out.trans (hb9.mono B3.out.size))
          clear hb9
          go_wp2_with fail
          go_ret
          exact ⟨rfl, HB9.out⟩
        have c3 : e.kind = 4 := Decidable.not_not.mp c3'
        have t3 : (e.kind != 4) = false := by simp [c3]
        have HC3 := Lib.hid c3
        clear c3 c3'
        have HWG := Lib.hid (weight_x S3.out (h : Int))
        rw [wt_nat hhm2] at HWG
        obtain ⟨fw, hfw⟩ : ∃ fw, fw = F m H h := ⟨_, rfl⟩
        have HFW := Lib.hid hfw
        rw [← hfw] at HWG
        clear hfw
        have HGE := Lib.hid (show ∀ nq, (w3.drewN nq).cell? ⟨bl, off + h * 7 + 3, none⟩ = some (.int .i64 e.wt) from fun _ => e3)
        go_wp2_with fail
        refine HWG.out.mono ?_
        rintro o w4 ⟨rfl, nq, hq4⟩
        have hb4 : Below w3.heap.size w3 w4 := by rw [hq4]; exact below_n w3 nq
        have B4 := Lib.hid (B3.out.trans (hb4.mono B3.out.size))
        have S4 := Lib.hid (S3.out.below hb4)
        have R4 := Lib.hid (R3.out.below hb4)
        have I4 := Lib.hid (I3.out.below hb4)
        have e3 : w4.cell? ⟨bl, off + h * 7 + 3, none⟩ = some (.int .i64 e.wt) := by rw [hq4]; exact HGE.out nq
        have HBL := Lib.hid (show bl < w4.heap.size from Nat.lt_of_lt_of_le hbl hb4.size)
        have e1 := e3
        clear hq4 hb4 e1 HGE hbl
        by_cases c4' : fw = 0
        · subst c4'
          go_wp2_with fail
          refine (HAW.out w4).mono ?_
          rintro o w9 ⟨rfl, hb9⟩
          have HB9 := Lib.hid (B4.out.trans (hb9.mono B4.out.size))
          clear hb9
          go_wp2_with fail
          go_ret
          exact ⟨rfl, HB9.out⟩
        have t4 : (fw == 0) = false := beq_false_of_ne c4'
        by_cases c5' : weight < 1
        · have t5 : decide (weight < 1) = true := decide_eq_true c5'
          go_wp2_with fail
          refine (HAW.out w4).mono ?_
          rintro o w9 ⟨rfl, hb9⟩
          have HB9 := Lib.hid (B4.out.trans (hb9.mono B4.out.size))
          clear hb9
          go_wp2_with fail
          go_ret
          exact ⟨rfl, HB9.out⟩
        have t5 : decide (weight < 1) = false := decide_eq_false c5'
        by_cases c6' : 65535 < weight
        · have t6 : decide (65535 < weight) = true := decide_eq_true c6'
          go_wp2_with fail
          refine (HAW.out w4).mono ?_
          rintro o w9 ⟨rfl, hb9⟩
          have HB9 := Lib.hid (B4.out.trans (hb9.mono B4.out.size))
          clear hb9
          go_wp2_with fail
          go_ret
          exact ⟨rfl, HB9.out⟩
        have t6 : decide (65535 < weight) = false := decide_eq_false c6'
        by_cases c7' : weight = e.wt
        · have t7 : (weight == e.wt) = true := by simp [c7']
          clear c7'
          go_wp2_with fail
          refine (HAW.out w4).mono ?_
          rintro o w9 ⟨rfl, hb9⟩
          have HB9 := Lib.hid (B4.out.trans (hb9.mono B4.out.size))
          clear hb9
          go_wp2_with fail
          go_ret
          exact ⟨rfl, HB9.out⟩
        have t7 : (weight == e.wt) = false := beq_false_of_ne c7'
        have HWT := Lib.hid (show 0 < weight ∧ weight ≤ 65535 ∧ weight ≠ e.wt from ⟨by omega, by omega, c7'⟩)
        have HP0 := Lib.hid (show F m H h ≠ 0 from by rw [← HFW.out]; exact c4')
        clear c4' c5' c6' c7'
        obtain ⟨i0, hi0, hz0, hz1, hz2⟩ := info_parts treH.info_n
        have HI0 := Lib.hid hi0
        have HZ0 := Lib.hid hz0
        have HZ1 := Lib.hid hz1
        have HZ2 := Lib.hid hz2
        have OE := Lib.hid (show (w4.alloc (.cells #[] 67)).ownsRow w4.heap.size 67 7 (.slice (some ⟨w4.heap.size, 0, none⟩) 0 0) 0 [] from World.ownsRow_made w4 #[] 0 (Nat.le_refl _) (Nat.zero_le _) rfl)
        have BE := Lib.hid (show Below w4.heap.size w4 (w4.alloc (.cells #[] 67)) from (Below.refl _ _).alloc (Nat.le_refl _) _)
        have HNE := Lib.hid (flat_of (R4.out.below BE.out))
        have HON := Lib.hid (one_f m)
        have HFL := Lib.hid (show (flatN m).length = mn * 7 from by rw [HMN.out]; exact flatN_len m)
        have hmn60 : mn ≤ 60 := by rw [HMN.out]; exact hm60
        have P1 := Lib.hid (show 0 + mn ≤ maxLen by unfold maxLen; omega)
        have P2 := Lib.hid (show (0 + mn) * 64 ≤ 140737488355328 by omega)
        have HM60 := Lib.hid hm60
        clear hi0 hz0 hz1 hz2
        go_wp2_with (at_builtin; refine wpList_append_own _ rfl (.tmp 124) (.tmp 125) _ rfl w4.heap.size 67 i0 _ 7 64 Tryz.underlying22 HI0.out HZ0.out HZ1.out HZ2.out rfl (by omega) (.slice (some ⟨w4.heap.size, 0, none⟩) 0 0) 0 [] rfl OE.out ⟨bl, off, none⟩ mn c1 (flatN m) rfl HFL.out HNE.out HON.out P1.out P2.out BE.out.size ?_; intro v6 w6 ho hg6 _; have ho2 : w6.ownsRow w4.heap.size 67 7 v6 m.length (flatN m) := (by rw [Nat.zero_add, List.nil_append, HMN.out] at ho; exact ho); have BG := Lib.hid (show Below w4.heap.size w4 w6 from BE.out.grown hg6 BE.out.size (fun k hk => (OE.out.lt k hk).1)); obtain ⟨g6, c6, cur6, hv6, hg6b, hbk6, hc61, hc62, hcs6, hrd6⟩ := own_nodes (by rw [← HMN.out]; omega) ho2; subst hv6; rw [← HMN.out] at hc61; have HB6 := Lib.hid hbk6; have HC6 := Lib.hid hcs6; have HR6 := Lib.hid hrd6; have HG6 := Lib.hid hg6b; rw [← HMN.out]; obtain ⟨b9, o9, hA9, _, hC9⟩ := hrd6.at_ h hhm2; injection hA9 with hA9; injection hA9 with h91 h92 h93; subst h91; subst h92; have d9 := fun i (hi : i < 7) => (hC9 i hi); rw [Nat.zero_add] at d9; rw [← treW.ndAt_nat hhm2, HE.out] at d9; have f0 : w6.cell? ⟨g6, h * 7, none⟩ = some (.string e.nm) := d9 0 (by omega); have f1 : w6.cell? ⟨g6, h * 7 + 1, none⟩ = some (.int .i64 e.kind) := d9 1 (by omega); have f2 : w6.cell? ⟨g6, h * 7 + 2, none⟩ = some (.int .i64 e.ab) := d9 2 (by omega); have f3 : w6.cell? ⟨g6, h * 7 + 3, none⟩ = some (.int .i64 e.wt) := d9 3 (by omega); have f4 : w6.cell? ⟨g6, h * 7 + 4, none⟩ = some (.bool e.v6) := d9 4 (by omega); have f5 : w6.cell? ⟨g6, h * 7 + 5, none⟩ = some (.int .u64 e.hi) := d9 5 (by omega); have f6 : w6.cell? ⟨g6, h * 7 + 6, none⟩ = some (.int .u64 e.lo) := d9 6 (by omega); have z0 : w6.frozen? ⟨g6, h * 7, none⟩ = false := hbk6.frozen _; have z1 : w6.frozen? ⟨g6, h * 7 + 1, none⟩ = false := hbk6.frozen _; have z2 : w6.frozen? ⟨g6, h * 7 + 2, none⟩ = false := hbk6.frozen _; have z3 : w6.frozen? ⟨g6, h * 7 + 3, none⟩ = false := hbk6.frozen _; have z4 : w6.frozen? ⟨g6, h * 7 + 4, none⟩ = false := hbk6.frozen _; have z5 : w6.frozen? ⟨g6, h * 7 + 5, none⟩ = false := hbk6.frozen _; have z6 : w6.frozen? ⟨g6, h * 7 + 6, none⟩ = false := hbk6.frozen _; clear ho ho2 hg6 hg6b hbk6 hcs6 hrd6 hC9 d9)
        obtain ⟨w7, hw7⟩ : ∃ w7, w7 = (((((((w6.setCell ⟨g6, h * 7, none⟩ (.string e.nm)).setCell ⟨g6, h * 7 + 1, none⟩ (.int .i64 e.kind)).setCell ⟨g6, h * 7 + 2, none⟩ (.int .i64 e.ab)).setCell ⟨g6, h * 7 + 3, none⟩ (.int .i64 weight)).setCell ⟨g6, h * 7 + 4, none⟩ (.bool e.v6)).setCell ⟨g6, h * 7 + 5, none⟩ (.int .u64 e.hi)).setCell ⟨g6, h * 7 + 6, none⟩ (.int .u64 e.lo)).alloc (.cells #[.string e.nm, .int .i64 e.kind, .int .i64 e.ab, .int .i64 weight, .bool e.v6, .int .u64 e.hi, .int .u64 e.lo] 67) := ⟨_, rfl⟩
        have HS7 := Lib.hid (show w7 = (w6.setCells g6 (h * 7) (Nd.cells { e with wt := weight }).toList).alloc (.cells #[.string e.nm, .int .i64 e.kind, .int .i64 e.ab, .int .i64 weight, .bool e.v6, .int .u64 e.hi, .int .u64 e.lo] 67) from hw7)
        have HBX := Lib.hid (show Below w4.heap.size w4 w7 from by
          rw [HS7.out]
          exact (below_setCells HG6.out _ _ _ BG.out).alloc (below_setCells HG6.out _ _ _ BG.out).size _)
        have RN7 := Lib.hid (show RdN w7 (some ⟨g6, 0, none⟩) (setWt m h weight) from by
          rw [HS7.out]
          have e9 : setWt m h weight = m.set h { e with wt := weight } := by unfold setWt; rw [HE.out]
          rw [e9]
          exact (rdN_put HB6.out HC6.out HR6.out hhm2 { e with wt := weight }).below ((Below.refl _ _).alloc (Nat.le_refl _) _))
        have HGD2 := Lib.hid (setWt_good HT1.out.good hhm2 (by rw [HE.out]; exact HC3.out) weight (by have := HWT.out; omega) HWT.out.2.1)
        have HTWO := Lib.hid (setWt_two (H := H) HT1.out.good HM60.out hhm2 (by rw [HE.out]; exact HC3.out) HP0.out weight HWT.out.1 HWT.out.2.1)
        have HNM2 := Lib.hid (setWt_nm hhm2 weight HNMS.out)
        have HSA := Lib.hid (show (ndAt (setWt m h weight) (h : Int)).wt = weight from by rw [setWt_at hhm2])
        obtain ⟨n2, hn2⟩ : ∃ n2, n2 = setWt m h weight := ⟨_, rfl⟩
        rw [← hn2] at RN7 HGD2 HTWO HNM2 HSA
        have HN2 := Lib.hid (show n2.length = mn from by rw [HMN.out]; exact HTWO.out.L.len)
        have HMD2 := Lib.hid (made_x (some ⟨g6, 0, none⟩) mn c6 n2 w7 RN7.out (by rw [HN2.out]; exact hmn60) (by rw [HN2.out]; exact hc61) hc62 HNM2.out (fun W' => by rw [HN2.out]; exact fewN.few_small _ _ _ _ hmn60))
        have B7 := Lib.hid (B4.out.trans (HBX.out.mono B4.out.size))
        have S7 := Lib.hid (S4.out.below HBX.out)
        have R7 := Lib.hid (R4.out.below HBX.out)
        have I7 := Lib.hid (I4.out.below HBX.out)
        clear hn2 f0 f1 f2 f3 f4 f5 f6 z0 z1 z2 z3 z4 z5 z6 e3
        go_wp2_with fail
        rw [← hw7]
        clear hw7
        refine HMD2.out.mono ?_
        rintro o w8 ⟨T2, m2, A2, c2, rfl, hT2, hrd2, hm60b, hmc2, hmc22, hb8, hmt2, _⟩
        have e9 : m2 = n2 := by rw [hmt2]; exact madeTo_all HGD2.out
        subst e9
        have B8 := Lib.hid (B7.out.trans (hb8.mono B7.out.size))
        have S8 := Lib.hid (S7.out.below hb8)
        have R8 := Lib.hid (R7.out.below hb8)
        have I8 := Lib.hid (I7.out.below hb8)
        have HT2 := Lib.hid hT2
        have HNEW2 := Lib.hid (eliA.new_any hT2 hm60b AH ch H I8.out (by omega) (by rw [← HHL.out]; exact hhc) hhc2)
        rw [← HHL.out] at HNEW2
        clear hT2 hrd2 hm60b hmc2 hmc22 hb8 hmt2
        go_wp2_with fail
        refine HNEW2.out.mono ?_
        rintro o z ⟨rfl, hs9, hz9⟩
        have BZ := Lib.hid (B8.out.trans (hs9.bel.mono B8.out.size))
        obtain ⟨S2, hS2⟩ : ∃ S, S = w8.heap.size + 1 := ⟨_, rfl⟩
        obtain ⟨q2, hq2⟩ : ∃ q, q = w8.heap.size := ⟨_, rfl⟩
        have SX := Lib.hid (show SetOk z S2 T2 q2 m2 (F m2 H) from by rw [hS2, hq2]; exact setOk_of hs9 HT2.out)
        have SZ := Lib.hid (S8.out.below hs9.bel)
        have RZ := Lib.hid (R8.out.below hs9.bel)
        rw [← hS2]
        clear hs9 hz9 hS2 hq2
        obtain ⟨g, hg⟩ : ∃ g, g = z.heap.size := ⟨_, rfl⟩
        obtain ⟨w5, hw5⟩ : ∃ w5, w5 = z.alloc (.cells #[.int .u32 0, .int .i32 0, .int .u32 0, .slice none 0 0, .int .i64 140, .int .u64 3] 51) := ⟨_, rfl⟩
        have HW5 := Lib.hid (show WSt z g 140 3 w5 from ⟨.inl (by rw [hw5, hg]; exact Blk.new z _ _), by rw [hw5]; exact (Below.refl _ _).alloc (Nat.le_refl _) _, by omega⟩)
        have HFI := Lib.hid (F_in HF.out HV.out HM60.out H)
        have HFI2 := Lib.hid (F_in HTWO.out.hn HTWO.out.hg (by rw [HTWO.out.L.len]; exact HM60.out) H)
        have HKY := Lib.hid (keys_any SZ.out SX.out HW5.out HM60.out (by rw [HTWO.out.L.len]; exact HM60.out) HFI.out HFI2.out level (h : Int) from' 30 30 (by omega) (by decide))
        have HH2 := Lib.hid (fun i : Nat => host_two HTWO.out HFIX.out 3 140 level (keyZ from' i))
        obtain ⟨p, hp⟩ : ∃ p, p = fun i : Nat => hostW m (F m H) 3 140 level (keyZ from' i) := ⟨_, rfl⟩
        obtain ⟨q, hq⟩ : ∃ q, q = fun i : Nat => hostW m2 (F m2 H) 3 140 level (keyZ from' i) := ⟨_, rfl⟩
        have HH3 := Lib.hid (show ∀ i, p i = q i ∨ (if weight < e.wt then p i = (h : Int) else q i = (h : Int)) from fun i => by rw [hp, hq, ← HE.out, ← HSA.out]; exact HH2.out i)
        rw [← hp, ← hq] at HKY
        obtain ⟨ca, hca⟩ : ∃ c : Int, c = ((cntF (fun i => p i != q i) 30 : Nat) : Int) := ⟨_, rfl⟩
        obtain ⟨ct, hct⟩ : ∃ c : Int, c = ((cntF (fun i => p i != q i && q i == (h : Int)) 30 : Nat) : Int) := ⟨_, rfl⟩
        obtain ⟨cf, hcf⟩ : ∃ c : Int, c = ((cntF (fun i => p i != q i && p i == (h : Int)) 30 : Nat) : Int) := ⟨_, rfl⟩
        have HK30 := Lib.hid (show Calls Tryz.prog 34 #[.pointer (some ⟨g, 0, none⟩), .pointer (some ⟨S, 0, none⟩), .pointer (some ⟨S2, 0, none⟩), .int .i64 level, .int .i64 (h : Int), .int .u64 from', .int .i64 30] w5 (WPost z g 140 3 (.agg #[.int .i64 30, .int .i64 ca, .int .i64 ct, .int .i64 cf]) w5) from by rw [hca, hct, hcf]; exact HKY.out)
        have HUPW := Lib.hid (show ¬ weight < e.wt → ct = ca ∧ cf = 0 from fun hlt => by
          have h9 := mov_to (p := p) (q := q) (h := (h : Int)) (fun i => by have := HH3.out i; rwa [if_neg hlt] at this) 30
          rw [hca, hct, hcf, h9.1, h9.2]
          exact ⟨rfl, rfl⟩)
        have HDNW := Lib.hid (show weight < e.wt → cf = ca ∧ ct = 0 from fun hlt => by
          have h9 := mov_from (p := p) (q := q) (h := (h : Int)) (fun i => by have := HH3.out i; rwa [if_pos hlt] at this) 30
          rw [hca, hct, hcf, h9.1, h9.2]
          exact ⟨rfl, rfl⟩)
        have HGE2 := Lib.hid hg
        have E5 := Lib.hid hw5
        clear hp hq hca hct hcf hg hw5
        go_wp2_with fail
        rw [← HGE2.out, ← E5.out]
        refine HK30.out.mono ?_
        rintro o w10 ⟨rfl, hw10, _⟩
        have HW10 := Lib.hid hw10
        have RQ := Lib.hid (RZ.out.below hw10.bel)
        have HAL := Lib.hid (show Below w10.heap.size w10 (w10.alloc (.cells #[.int .i64 30, .int .i64 ca, .int .i64 ct, .int .i64 cf] 79)) from (Below.refl _ _).alloc (Nat.le_refl _) _)
        have e3 : (w10.alloc (.cells #[.int .i64 30, .int .i64 ca, .int .i64 ct, .int .i64 cf] 79)).cell? ⟨bl, off + h * 7 + 3, none⟩ = some (.int .i64 e.wt) := by
          obtain ⟨bl2, off2, hA2, _, hC2⟩ := (RQ.out.below HAL.out).at_ h hhm2
          injection hA2 with hA2
          injection hA2 with hA3 hA4
          subst hA3 hA4
          have h9 := hC2 3 (by omega)
          rw [← treW.ndAt_nat hhm2, HE.out] at h9
          exact h9
        have HWA := Lib.hid (HAW.out (w10.alloc (.cells #[.int .i64 30, .int .i64 ca, .int .i64 ct, .int .i64 cf] 79)))
        have HBA := Lib.hid (show Below w.heap.size w (w10.alloc (.cells #[.int .i64 30, .int .i64 ca, .int .i64 ct, .int .i64 cf] 79)) from BZ.out.trans ((HW10.out.below HAL.out).bel.mono BZ.out.size))
        have x1 : (ca == ca) = true := by simp
        clear hw10
        by_cases hlt : weight < e.wt
        · have t8 : decide (e.wt < weight) = false := decide_eq_false (by omega)
          obtain ⟨h8, h9⟩ := HDNW.out hlt
          subst h8 h9
          clear hlt
          go_wp2_with fail
          refine HWA.out.mono ?_
          rintro o w12 ⟨rfl, hb12⟩
          have HB12 := Lib.hid (HBA.out.trans (hb12.mono HBA.out.size))
          clear hb12
          go_wp2_with fail
          go_ret
          exact ⟨rfl, HB12.out⟩
        · have t8 : decide (e.wt < weight) = true := decide_eq_true (by have := HWT.out; omega)
          obtain ⟨h8, h9⟩ := HUPW.out (by omega)
          subst h8 h9
          clear hlt
          go_wp2_with fail
          refine HWA.out.mono ?_
          rintro o w12 ⟨rfl, hb12⟩
          have HB12 := Lib.hid (HBA.out.trans (hb12.mono HBA.out.size))
          clear hb12
          go_wp2_with fail
          go_ret
          exact ⟨rfl, HB12.out⟩
    · subst hy
      have HNX := Lib.hid (HC.out.1.next HF.out HV.out hhm2 ha)
      have k4 : k < 4 := by have := HC.out.2; have := HK4.out; have := HF.out.lo a ha; rw [← treW.ndAt_nat ha] at this; omega
      have t3 : decide ((k : Int) < 4) = true := decide_eq_true (by omega)
      have t4 : decide ((0 : Int) ≤ a) = true := decide_eq_true (by omega)
      have t5 : decide ((a : Int) < mn) = true := decide_eq_true (by have := HMN.out; omega)
      have u0 : (0 : Int) ≤ a := by omega
      have u1 : (a : Int) < mn := by have := HMN.out; omega
      obtain ⟨bl2, off2, hA2, _, hC2⟩ := R3a.out.at_ a ha
      injection hA2 with hA2
      injection hA2 with hA3 hA4
      subst hA3 hA4
      have d1 : wr.cell? ⟨bl, off + a * 7 + 1, none⟩ = some (.int .i64 (m[a]).kind) := hC2 1 (by omega)
      have d2 : wr.cell? ⟨bl, off + a * 7 + 2, none⟩ = some (.int .i64 (m[a]).ab) := hC2 2 (by omega)
      have d3 : wr.cell? ⟨bl, off + a * 7 + 3, none⟩ = some (.int .i64 (m[a]).wt) := hC2 3 (by omega)
      obtain ⟨x, hx⟩ : ∃ x, x = m[a] := ⟨_, rfl⟩
      rw [← hx] at d1 d2 d3 HNX
      have HKK := Lib.hid HC.out.2
      clear hka hC2 hx ha
      cases f with
      | false =>
        go_wp2_with fail
        go_roundw
        case rel => exact ⟨_, x.ab, kd - 1, k + 1, rfl, rfl, by go_num, by omega, Lib.hid ⟨HNX.out.1, by have := HKK.out; omega⟩, trivial⟩
        case measure => simp [intOf]; omega
      | true =>
        cases hk1 : (x.kind == 1) with
        | true =>
          have HN2 := Lib.hid (show Cl m h x.ab (kd - 1) true from by have h9 := HNX.out.1; rw [hk1] at h9; exact h9)
          go_wp2_with fail
          go_roundw
          case rel => exact ⟨true, x.ab, kd - 1, k + 1, rfl, rfl, by go_num, by omega, Lib.hid ⟨HN2.out, by have := HKK.out; omega⟩, trivial⟩
          case measure => simp [intOf]; omega
        | false =>
          obtain ⟨d, hd⟩ : ∃ d, d = decide (0 < x.wt) := ⟨_, rfl⟩
          have hd2 := hd.symm
          have HN2 := Lib.hid (show Cl m h x.ab (kd - 1) d from by have h9 := HNX.out.1; rw [hk1, ← hd] at h9; exact h9)
          clear hd
          go_wp2_with fail
          go_roundw
          case rel => exact ⟨d, x.ab, kd - 1, k + 1, rfl, rfl, by go_num, by omega, Lib.hid ⟨HN2.out, by have := HKK.out; omega⟩, trivial⟩
          case measure => simp [intOf]; omega
end Go.Proofs.YtoaboklckkcjcaaGreat.dkD
/- Layer 43: what is otherwise of a node. -/
namespace Go.Proofs.YtoaboklckkcjcaaGreat.dfC
open Go.ChangeShapes Go.WideShapes Go.ChangeAt Go.RowKit
open Go.Proofs.YtoaboklckkcjcaaGreat.base Go.Proofs.YtoaboklckkcjcaaGreat.dfA Go.Proofs.YtoaboklckkcjcaaGreat.dfB
set_option linter.unusedVariables false

/-- The first j of three that may be. -/
def may3 (nm : ByteArray) (q1 q2 q3 : Bool) : Nat → List Cg
  | 0 => []
  | 1 => if q1 then [⟨nm, 4⟩] else []
  | 2 => (if q1 then [⟨nm, 4⟩] else []) ++ (if q2 then [⟨nm, 5⟩] else [])
  | _ => (if q1 then [⟨nm, 4⟩] else []) ++ (if q2 then [⟨nm, 5⟩] else []) ++ (if q3 then [⟨nm, 3⟩] else [])
theorem may3_len (nm : ByteArray) (q1 q2 q3 : Bool) (j : Nat) : (may3 nm q1 q2 q3 j).length ≤ 3 := by
  match j with
  | 0 => simp [may3]
  | 1 => cases q1 <;> simp [may3]
  | 2 => cases q1 <;> cases q2 <;> simp [may3]
  | j + 3 => cases q1 <;> cases q2 <;> cases q3 <;> simp [may3]
theorem adr_ne (v6 v62 : Bool) (hi hi2 lo lo2 : Int) (W : World) : (binOp .neq 65 (.agg #[.bool v6, .int .u64 hi, .int .u64 lo]) (.agg #[.bool v62, .int .u64 hi2, .int .u64 lo2])).run Tryz.prog W = .ok (.bool (decide (v6 ≠ v62 ∨ hi ≠ hi2 ∨ lo ≠ lo2))) W := by
  go_simp
  by_cases h1 : v6 = v62
  case neg => simp [h1]
  by_cases h2 : hi = hi2
  case neg => simp [h1, h2]
  by_cases h3 : lo = lo2
  case neg => simp [h1, h2, h3]
  simp [h1, h2, h3]
theorem othC_may (a : Nd) (sa : ByteArray) (b : Nd) (sb : ByteArray) (q1 q2 q3 : Bool) (h1 : q1 = true ↔ (a.kind ≠ b.kind ∨ sa ≠ sb)) (h2 : q2 = true ↔ (a.v6 ≠ b.v6 ∨ a.hi ≠ b.hi ∨ a.lo ≠ b.lo)) (h3 : q3 = true ↔ a.wt ≠ b.wt) : othC a sa b sb = may3 b.nm q1 q2 q3 3 := by
  unfold othC may3
  have e1 : (if a.kind ≠ b.kind ∨ sa ≠ sb then [(⟨b.nm, 4⟩ : Cg)] else []) = if q1 = true then [⟨b.nm, 4⟩] else [] := by
    by_cases h : a.kind ≠ b.kind ∨ sa ≠ sb
    · rw [if_pos h, if_pos (h1.mpr h)]
    · rw [if_neg h, if_neg (fun e => h (h1.mp e))]
  have e2 : (if a.v6 ≠ b.v6 ∨ a.hi ≠ b.hi ∨ a.lo ≠ b.lo then [(⟨b.nm, 5⟩ : Cg)] else []) = if q2 = true then [⟨b.nm, 5⟩] else [] := by
    by_cases h : a.v6 ≠ b.v6 ∨ a.hi ≠ b.hi ∨ a.lo ≠ b.lo
    · rw [if_pos h, if_pos (h2.mpr h)]
    · rw [if_neg h, if_neg (fun e => h (h2.mp e))]
  have e3 : (if a.wt ≠ b.wt then [(⟨b.nm, 3⟩ : Cg)] else []) = if q3 = true then [⟨b.nm, 3⟩] else [] := by
    by_cases h : a.wt ≠ b.wt
    · rw [if_pos h, if_pos (h3.mpr h)]
    · rw [if_neg h, if_neg (fun e => h (h3.mp e))]
  rw [e1, e2, e3]
  rfl
set_option maxHeartbeats 8000000 in
theorem oth_eq (a b : Nd) (sa sb : ByteArray) (w : World) (hkd : a.kind = b.kind) :
    Calls Tryz.prog 93 #[.agg a.cells, .string sa, .agg b.cells, .string sb] w fun o w' => ∃ v, o = .returned v ∧ OwnC w' w.heap.size v (othC a sa b sb) ∧ Below w.heap.size w w' := by
  obtain ⟨i0, hi0, hz0, hz1, hz2⟩ := info_parts info_c
  have HI0 := Lib.hid hi0
  have HZ0 := Lib.hid hz0
  have HZ1 := Lib.hid hz1
  have HZ2 := Lib.hid hz2
  obtain ⟨q2, hq2⟩ : ∃ q : Bool, q = decide (a.v6 ≠ b.v6 ∨ a.hi ≠ b.hi ∨ a.lo ≠ b.lo) := ⟨_, rfl⟩
  obtain ⟨q3, hq3⟩ : ∃ q : Bool, q = (a.wt != b.wt) := ⟨_, rfl⟩
  have had : ∀ W : World, (binOp .neq 65 (.agg #[.bool a.v6, .int .u64 a.hi, .int .u64 a.lo]) (.agg #[.bool b.v6, .int .u64 b.hi, .int .u64 b.lo])).run Tryz.prog W = .ok (.bool q2) W := fun W => by rw [hq2]; exact adr_ne _ _ _ _ _ _ W
  obtain ⟨q1, hq1⟩ : ∃ q : Bool, q = !(sa.toList == sb.toList) := ⟨_, rfl⟩
  have hk : (a.kind != b.kind) = false := by simp [hkd]
  have HOT := Lib.hid (othC_may a sa b sb q1 q2 q3 (by
    rw [hq1]
    by_cases h : sa = sb
    · rw [str_yes h]; simp [hkd, h]
    · rw [str_no h]; simp [h]) (by rw [hq2]; simp) (by rw [hq3]; simp))
  have hst : (!(sa.toList == sb.toList)) = q1 := hq1.symm
  have hst2 : (sa.toList != sb.toList) = q1 := hq1.symm
  have hwt : (a.wt != b.wt) = q3 := hq3.symm
  rw [HOT.out]
  clear hq2 hq3 hq1 hkd hi0 hz0 hz1 hz2
  obtain ⟨w1, hw1⟩ : ∃ w1, w1 = (w.alloc (.cells #[.string a.nm, .int .i64 a.kind, .int .i64 a.ab, .int .i64 a.wt, .bool a.v6, .int .u64 a.hi, .int .u64 a.lo] 67)).alloc (.cells #[.string b.nm, .int .i64 b.kind, .int .i64 b.ab, .int .i64 b.wt, .bool b.v6, .int .u64 b.hi, .int .u64 b.lo] 67) := ⟨_, rfl⟩
  have hs1 : w1.heap.size = w.heap.size + 1 + 1 := by rw [hw1]; simp
  have HW := Lib.hid (show Below w.heap.size w w1 from hw1 ▸ ((Below.refl w.heap.size w).alloc (Nat.le_refl _) _).alloc (by simp) _)
  have HKb := Lib.hid (show Blk w1 (w.heap.size + 1) 67 #[.string b.nm, .int .i64 b.kind, .int .i64 b.ab, .int .i64 b.wt, .bool b.v6, .int .u64 b.hi, .int .u64 b.lo] from by
    have := Blk.new (w.alloc (.cells #[.string a.nm, .int .i64 a.kind, .int .i64 a.ab, .int .i64 a.wt, .bool a.v6, .int .u64 a.hi, .int .u64 a.lo] 67)) 67 #[.string b.nm, .int .i64 b.kind, .int .i64 b.ab, .int .i64 b.wt, .bool b.v6, .int .u64 b.hi, .int .u64 b.lo]
    rw [show (w.alloc (.cells #[.string a.nm, .int .i64 a.kind, .int .i64 a.ab, .int .i64 a.wt, .bool a.v6, .int .u64 a.hi, .int .u64 a.lo] 67)).heap.size = w.heap.size + 1 by simp] at this
    rw [hw1]
    exact this)
  have HS1 := Lib.hid hs1
  have HOE := Lib.hid (show OwnC (w1.alloc (.cells #[] 120)) w1.heap.size (.slice (some ⟨w1.heap.size, 0, none⟩) 0 0) [] from OwnC.empty w1 _ (Nat.le_refl _))
  rw [hs1] at HOE
  have HW1 := Lib.hid hw1
  clear hs1 hw1
  unfold Nd.cells
  go_enter Tryz.func93, Tryz.ntmps93
  go_wp2_with fail
  rw [← HW1.out]
  have HK0 := Lib.hid (show Blk w1 w.heap.size 67 #[.string a.nm, .int .i64 a.kind, .int .i64 a.ab, .int .i64 a.wt, .bool a.v6, .int .u64 a.hi, .int .u64 a.lo] from by
    rw [HW1.out]
    exact (Below.heap_alloc _ _ _ (by simp)).trans (Blk.new w _ _))
  obtain ⟨w2, hw2⟩ : ∃ w2, w2 = w1.alloc (.cells #[] 120) := ⟨_, rfl⟩
  rw [← hw2] at HOE ⊢
  have hb2 : Below w1.heap.size w1 w2 := hw2 ▸ (Below.refl w1.heap.size w1).alloc (Nat.le_refl _) _
  have hs2 : w2.heap.size = w.heap.size + 3 := by rw [hw2]; simp [HS1.out]
  have HS2 := Lib.hid hs2
  have HB2 := Lib.hid (HW.out.trans (hb2.mono HW.out.size))
  have HKA := Lib.hid (show Blk w2 w.heap.size 67 #[.string a.nm, .int .i64 a.kind, .int .i64 a.ab, .int .i64 a.wt, .bool a.v6, .int .u64 a.hi, .int .u64 a.lo] from (hb2.block _ HK0.out.lt).trans HK0.out)
  have HKB := Lib.hid (show Blk w2 (w.heap.size + 1) 67 #[.string b.nm, .int .i64 b.kind, .int .i64 b.ab, .int .i64 b.wt, .bool b.v6, .int .u64 b.hi, .int .u64 b.lo] from (hb2.block _ HKb.out.lt).trans HKb.out)
  have HFR := Lib.hid (show ∀ W : World, Below w2.heap.size w2 W → (W.cell? ⟨w.heap.size, 1, none⟩ = some (.int .i64 a.kind) ∧ W.cell? ⟨w.heap.size, 3, none⟩ = some (.int .i64 a.wt) ∧ W.cell? ⟨w.heap.size, 4, none⟩ = some (.bool a.v6) ∧ W.cell? ⟨w.heap.size, 5, none⟩ = some (.int .u64 a.hi) ∧ W.cell? ⟨w.heap.size, 6, none⟩ = some (.int .u64 a.lo) ∧ W.cell? ⟨w.heap.size + 1, 1, none⟩ = some (.int .i64 b.kind) ∧ W.cell? ⟨w.heap.size + 1, 3, none⟩ = some (.int .i64 b.wt) ∧ W.cell? ⟨w.heap.size + 1, 4, none⟩ = some (.bool b.v6) ∧ W.cell? ⟨w.heap.size + 1, 5, none⟩ = some (.int .u64 b.hi) ∧ W.cell? ⟨w.heap.size + 1, 6, none⟩ = some (.int .u64 b.lo)) from fun W hb => by
    have h1 : Blk W w.heap.size 67 #[.string a.nm, .int .i64 a.kind, .int .i64 a.ab, .int .i64 a.wt, .bool a.v6, .int .u64 a.hi, .int .u64 a.lo] := (hb.block _ HKA.out.lt).trans HKA.out
    have h2 : Blk W (w.heap.size + 1) 67 #[.string b.nm, .int .i64 b.kind, .int .i64 b.ab, .int .i64 b.wt, .bool b.v6, .int .u64 b.hi, .int .u64 b.lo] := (hb.block _ HKB.out.lt).trans HKB.out
    exact ⟨h1.cell 1, h1.cell 3, h1.cell 4, h1.cell 5, h1.cell 6, h2.cell 1, h2.cell 3, h2.cell 4, h2.cell 5, h2.cell 6⟩)
  have s0 := HFR.out _ (Below.refl _ _).drew
  clear hw2 hb2 hs2
  go_region_held3 (fun w' => w'.cell? ⟨w.heap.size, 1, none⟩ = some (.int .i64 a.kind) ∧ w'.cell? ⟨w.heap.size, 3, none⟩ = some (.int .i64 a.wt) ∧ w'.cell? ⟨w.heap.size, 4, none⟩ = some (.bool a.v6) ∧ w'.cell? ⟨w.heap.size, 5, none⟩ = some (.int .u64 a.hi) ∧ w'.cell? ⟨w.heap.size, 6, none⟩ = some (.int .u64 a.lo) ∧ w'.cell? ⟨w.heap.size + 1, 1, none⟩ = some (.int .i64 b.kind) ∧ w'.cell? ⟨w.heap.size + 1, 3, none⟩ = some (.int .i64 b.wt) ∧ w'.cell? ⟨w.heap.size + 1, 4, none⟩ = some (.bool b.v6) ∧ w'.cell? ⟨w.heap.size + 1, 5, none⟩ = some (.int .u64 b.hi) ∧ w'.cell? ⟨w.heap.size + 1, 6, none⟩ = some (.int .u64 b.lo)) (first | assumption | exact HFR.out _ ((Below.refl _ _).alloc (Nat.le_refl _) _).drew | exact HFR.out _ ((Below.refl _ _).drew.alloc (Nat.le_refl _) _) | exact HFR.out _ ((((Below.refl _ _).drew.alloc (Nat.le_refl _) _))))
    (first | fail)
  have ix0 : ∀ w, (Instr.index 151 (.agg #[.int .i64 4, .bool q1, .int .i64 5, .bool q2, .int .i64 3, .bool q3]) (.int .i64 0)).run Tryz.prog w = .ok (.agg #[.int .i64 4, .bool q1]) w := fun _ => by kernel_rfl
  have ix1 : ∀ w, (Instr.index 151 (.agg #[.int .i64 4, .bool q1, .int .i64 5, .bool q2, .int .i64 3, .bool q3]) (.int .i64 1)).run Tryz.prog w = .ok (.agg #[.int .i64 5, .bool q2]) w := fun _ => by kernel_rfl
  have ix2 : ∀ w, (Instr.index 151 (.agg #[.int .i64 4, .bool q1, .int .i64 5, .bool q2, .int .i64 3, .bool q3]) (.int .i64 2)).run Tryz.prog w = .ok (.agg #[.int .i64 3, .bool q3]) w := fun _ => by kernel_rfl
  have hb3 : Below w2.heap.size w2 (w2.alloc (.cells #[.int .i64 4, .bool q1, .int .i64 5, .bool q2, .int .i64 3, .bool q3] 151)).drew := ((Below.refl _ _).alloc (Nat.le_refl _) _).drew
  have OE3 := Lib.hid (HOE.out.below hb3)
  have KB3 := Lib.hid (show Blk (w2.alloc (.cells #[.int .i64 4, .bool q1, .int .i64 5, .bool q2, .int .i64 3, .bool q3] 151)).drew (w.heap.size + 1) 67 #[.string b.nm, .int .i64 b.kind, .int .i64 b.ab, .int .i64 b.wt, .bool b.v6, .int .u64 b.hi, .int .u64 b.lo] from (hb3.block _ (show w.heap.size + 1 < w2.heap.size by have := HS2.out; omega)).trans HKB.out)
  have HB3 := Lib.hid (HB2.out.trans (hb3.mono HB2.out.size))
  have KAR := Blk.new w2 151 #[.int .i64 4, .bool q1, .int .i64 5, .bool q2, .int .i64 3, .bool q3]
  have r0 : (w2.alloc (.cells #[.int .i64 4, .bool q1, .int .i64 5, .bool q2, .int .i64 3, .bool q3] 151)).drew.cell? ⟨w2.heap.size, 0, none⟩ = some (.int .i64 4) := KAR.cell 0
  have r1 : (w2.alloc (.cells #[.int .i64 4, .bool q1, .int .i64 5, .bool q2, .int .i64 3, .bool q3] 151)).drew.cell? ⟨w2.heap.size, 1, none⟩ = some (.bool q1) := KAR.cell 1
  have r2 : (w2.alloc (.cells #[.int .i64 4, .bool q1, .int .i64 5, .bool q2, .int .i64 3, .bool q3] 151)).drew.cell? ⟨w2.heap.size, 2, none⟩ = some (.int .i64 5) := KAR.cell 2
  have r3 : (w2.alloc (.cells #[.int .i64 4, .bool q1, .int .i64 5, .bool q2, .int .i64 3, .bool q3] 151)).drew.cell? ⟨w2.heap.size, 3, none⟩ = some (.bool q2) := KAR.cell 3
  have r4 : (w2.alloc (.cells #[.int .i64 4, .bool q1, .int .i64 5, .bool q2, .int .i64 3, .bool q3] 151)).drew.cell? ⟨w2.heap.size, 4, none⟩ = some (.int .i64 3) := KAR.cell 4
  have r5 : (w2.alloc (.cells #[.int .i64 4, .bool q1, .int .i64 5, .bool q2, .int .i64 3, .bool q3] 151)).drew.cell? ⟨w2.heap.size, 5, none⟩ = some (.bool q3) := KAR.cell 5
  generalize (w2.alloc (.cells #[.int .i64 4, .bool q1, .int .i64 5, .bool q2, .int .i64 3, .bool q3] 151)).drew = w3 at *
  clear hb3 KAR s0
  go_wp2_with fail
  go_loopw [9, 39] (fun out i wr => ∃ j : Nat, i = .int .i64 j ∧ j ≤ 3 ∧ OwnC wr (w.heap.size + 1 + 1) out (may3 b.nm q1 q2 q3 j) ∧ Below (w.heap.size + 1 + 1) w3 wr) (fun _ i _ => 3 - (intOf i).toNat)
  case atStart => exact ⟨0, rfl, by omega, OE3.out, Below.refl _ _⟩
  case round =>
    obtain ⟨j, rfl, hj, how, hbel⟩ := hrel
    have KO := Lib.hid how
    have KBL := Lib.hid hbel
    have b0 : wr.cell? ⟨w.heap.size + 1, 0, none⟩ = some (.string b.nm) := (show Blk wr (w.heap.size + 1) 67 #[.string b.nm, .int .i64 b.kind, .int .i64 b.ab, .int .i64 b.wt, .bool b.v6, .int .u64 b.hi, .int .u64 b.lo] from (hbel.block _ (by omega)).trans KB3.out).cell 0
    have hsz : w.heap.size + 1 + 1 ≤ wr.heap.size := Nat.le_trans (by have := HB3.out.size; have := HS2.out; have h9 := OE3.out.lt (w.heap.size + 1 + 1) rfl; omega) hbel.size
    have HSZ := Lib.hid hsz
    have HML := Lib.hid (may3_len b.nm q1 q2 q3 j)
    clear how hbel hsz
    have hcase : j = 0 ∨ j = 1 ∨ j = 2 ∨ j = 3 := by omega
    rcases hcase with rfl | rfl | rfl | rfl
    · cases q1
      · have KO1 := Lib.hid (KO.out.alloc (.cells #[.int .i64 4, .bool false] 150))
        have KB1 := Lib.hid (KBL.out.alloc HSZ.out (.cells #[.int .i64 4, .bool false] 150))
        go_wp2_with fail
        go_roundw
        case rel => exact ⟨1, by go_num, by omega, by have := KO1.out; simpa [may3] using this, KB1.out⟩
        case measure => simp [intOf]
      · have b0x : (wr.alloc (.cells #[.int .i64 4, .bool true] 150)).cell? ⟨w.heap.size + 1, 0, none⟩ = some (.string b.nm) := (World.cell?_alloc_lt _ _ _ (World.block_lt_of_cell? wr _ b0)).trans b0
        have KO1 := KO.out.alloc (.cells #[.int .i64 4, .bool true] 150)
        have KB1 := KBL.out.alloc HSZ.out (.cells #[.int .i64 4, .bool true] 150)
        have KO2 := Lib.hid (KO1.alloc (.cells #[.string b.nm, .int .i64 4] 120))
        have KB2 := Lib.hid (KB1.alloc (Nat.le_trans HSZ.out (by simp)) (.cells #[.string b.nm, .int .i64 4] 120))
        have HNE := Lib.hid (show ∀ p u, (Cg.cells ⟨b.nm, 4⟩).toList[p]? = some u → ((wr.alloc (.cells #[.int .i64 4, .bool true] 150)).alloc (.cells #[.string b.nm, .int .i64 4] 120)).cell? ((⟨wr.heap.size + 1, 0, none⟩ : Addr).add p) = some u from fun p u hu => by
          have hn := Blk.new (wr.alloc (.cells #[.int .i64 4, .bool true] 150)) 120 #[.string b.nm, .int .i64 4]
          rw [show (wr.alloc (.cells #[.int .i64 4, .bool true] 150)).heap.size = wr.heap.size + 1 by simp] at hn
          rw [Addr.add_lit, Nat.zero_add, hn.cell p]
          have h2 : (Cg.cells ⟨b.nm, 4⟩)[p]? = some u := by simpa using hu
          exact h2)
        have P1 := Lib.hid (show (may3 b.nm true q2 q3 0).length + 1 ≤ maxLen by unfold maxLen; have := HML.out; omega)
        have P2 := Lib.hid (show ((may3 b.nm true q2 q3 0).length + 1) * 24 ≤ 140737488355328 by have := HML.out; omega)
        have P3 := Lib.hid (show w.heap.size + 1 + 1 ≤ ((wr.alloc (.cells #[.int .i64 4, .bool true] 150)).alloc (.cells #[.string b.nm, .int .i64 4] 120)).heap.size from Nat.le_trans HSZ.out (by simp; omega))
        clear KO1 KB1
        go_wp2_with (at_builtin; refine wpList_append_own _ rfl (.tmp 44) (.tmp 50) _ rfl (w.heap.size + 1 + 1) 120 i0 _ 2 24 Tryz.underlying117 HI0.out HZ0.out HZ1.out HZ2.out rfl (by omega) _ (may3 b.nm true q2 q3 0).length (flatC (may3 b.nm true q2 q3 0)) rfl KO2.out ⟨wr.heap.size + 1, 0, none⟩ 1 1 (Cg.cells ⟨b.nm, 4⟩).toList rfl rfl HNE.out (one_c1 _) P1.out P2.out P3.out ?_; intro v6 w6 ho hg _; have HO1 := Lib.hid (show OwnC w6 (w.heap.size + 1 + 1) v6 (may3 b.nm true q2 q3 0 ++ [⟨b.nm, 4⟩]) by (have := ho; rw [← flatC_snoc] at this; simpa [OwnC] using this)); have HB1 := Lib.hid (KB2.out.grown hg P3.out (fun k hk => (KO2.out.lt k hk).1)); clear ho hg)
        go_roundw
        case rel => exact ⟨1, by go_num, by omega, by have := HO1.out; simpa [may3] using this, HB1.out⟩
        case measure => simp [intOf]
    · cases q2
      · have KO1 := Lib.hid (KO.out.alloc (.cells #[.int .i64 5, .bool false] 150))
        have KB1 := Lib.hid (KBL.out.alloc HSZ.out (.cells #[.int .i64 5, .bool false] 150))
        go_wp2_with fail
        go_roundw
        case rel => exact ⟨2, by go_num, by omega, by have := KO1.out; simpa [may3] using this, KB1.out⟩
        case measure => simp [intOf]
      · have b0x : (wr.alloc (.cells #[.int .i64 5, .bool true] 150)).cell? ⟨w.heap.size + 1, 0, none⟩ = some (.string b.nm) := (World.cell?_alloc_lt _ _ _ (World.block_lt_of_cell? wr _ b0)).trans b0
        have KO1 := KO.out.alloc (.cells #[.int .i64 5, .bool true] 150)
        have KB1 := KBL.out.alloc HSZ.out (.cells #[.int .i64 5, .bool true] 150)
        have KO2 := Lib.hid (KO1.alloc (.cells #[.string b.nm, .int .i64 5] 120))
        have KB2 := Lib.hid (KB1.alloc (Nat.le_trans HSZ.out (by simp)) (.cells #[.string b.nm, .int .i64 5] 120))
        have HNE := Lib.hid (show ∀ p u, (Cg.cells ⟨b.nm, 5⟩).toList[p]? = some u → ((wr.alloc (.cells #[.int .i64 5, .bool true] 150)).alloc (.cells #[.string b.nm, .int .i64 5] 120)).cell? ((⟨wr.heap.size + 1, 0, none⟩ : Addr).add p) = some u from fun p u hu => by
          have hn := Blk.new (wr.alloc (.cells #[.int .i64 5, .bool true] 150)) 120 #[.string b.nm, .int .i64 5]
          rw [show (wr.alloc (.cells #[.int .i64 5, .bool true] 150)).heap.size = wr.heap.size + 1 by simp] at hn
          rw [Addr.add_lit, Nat.zero_add, hn.cell p]
          have h2 : (Cg.cells ⟨b.nm, 5⟩)[p]? = some u := by simpa using hu
          exact h2)
        have P1 := Lib.hid (show (may3 b.nm q1 true q3 1).length + 1 ≤ maxLen by unfold maxLen; have := HML.out; omega)
        have P2 := Lib.hid (show ((may3 b.nm q1 true q3 1).length + 1) * 24 ≤ 140737488355328 by have := HML.out; omega)
        have P3 := Lib.hid (show w.heap.size + 1 + 1 ≤ ((wr.alloc (.cells #[.int .i64 5, .bool true] 150)).alloc (.cells #[.string b.nm, .int .i64 5] 120)).heap.size from Nat.le_trans HSZ.out (by simp; omega))
        clear KO1 KB1
        go_wp2_with (at_builtin; refine wpList_append_own _ rfl (.tmp 44) (.tmp 50) _ rfl (w.heap.size + 1 + 1) 120 i0 _ 2 24 Tryz.underlying117 HI0.out HZ0.out HZ1.out HZ2.out rfl (by omega) _ (may3 b.nm q1 true q3 1).length (flatC (may3 b.nm q1 true q3 1)) rfl KO2.out ⟨wr.heap.size + 1, 0, none⟩ 1 1 (Cg.cells ⟨b.nm, 5⟩).toList rfl rfl HNE.out (one_c1 _) P1.out P2.out P3.out ?_; intro v6 w6 ho hg _; have HO1 := Lib.hid (show OwnC w6 (w.heap.size + 1 + 1) v6 (may3 b.nm q1 true q3 1 ++ [⟨b.nm, 5⟩]) by (have := ho; rw [← flatC_snoc] at this; simpa [OwnC] using this)); have HB1 := Lib.hid (KB2.out.grown hg P3.out (fun k hk => (KO2.out.lt k hk).1)); clear ho hg)
        go_roundw
        case rel => exact ⟨2, by go_num, by omega, by have := HO1.out; simpa [may3] using this, HB1.out⟩
        case measure => simp [intOf]
    · cases q3
      · have KO1 := Lib.hid (KO.out.alloc (.cells #[.int .i64 3, .bool false] 150))
        have KB1 := Lib.hid (KBL.out.alloc HSZ.out (.cells #[.int .i64 3, .bool false] 150))
        go_wp2_with fail
        go_roundw
        case rel => exact ⟨3, by go_num, by omega, by have := KO1.out; simpa [may3] using this, KB1.out⟩
        case measure => simp [intOf]
      · have b0x : (wr.alloc (.cells #[.int .i64 3, .bool true] 150)).cell? ⟨w.heap.size + 1, 0, none⟩ = some (.string b.nm) := (World.cell?_alloc_lt _ _ _ (World.block_lt_of_cell? wr _ b0)).trans b0
        have KO1 := KO.out.alloc (.cells #[.int .i64 3, .bool true] 150)
        have KB1 := KBL.out.alloc HSZ.out (.cells #[.int .i64 3, .bool true] 150)
        have KO2 := Lib.hid (KO1.alloc (.cells #[.string b.nm, .int .i64 3] 120))
        have KB2 := Lib.hid (KB1.alloc (Nat.le_trans HSZ.out (by simp)) (.cells #[.string b.nm, .int .i64 3] 120))
        have HNE := Lib.hid (show ∀ p u, (Cg.cells ⟨b.nm, 3⟩).toList[p]? = some u → ((wr.alloc (.cells #[.int .i64 3, .bool true] 150)).alloc (.cells #[.string b.nm, .int .i64 3] 120)).cell? ((⟨wr.heap.size + 1, 0, none⟩ : Addr).add p) = some u from fun p u hu => by
          have hn := Blk.new (wr.alloc (.cells #[.int .i64 3, .bool true] 150)) 120 #[.string b.nm, .int .i64 3]
          rw [show (wr.alloc (.cells #[.int .i64 3, .bool true] 150)).heap.size = wr.heap.size + 1 by simp] at hn
          rw [Addr.add_lit, Nat.zero_add, hn.cell p]
          have h2 : (Cg.cells ⟨b.nm, 3⟩)[p]? = some u := by simpa using hu
          exact h2)
        have P1 := Lib.hid (show (may3 b.nm q1 q2 true 2).length + 1 ≤ maxLen by unfold maxLen; have := HML.out; omega)
        have P2 := Lib.hid (show ((may3 b.nm q1 q2 true 2).length + 1) * 24 ≤ 140737488355328 by have := HML.out; omega)
        have P3 := Lib.hid (show w.heap.size + 1 + 1 ≤ ((wr.alloc (.cells #[.int .i64 3, .bool true] 150)).alloc (.cells #[.string b.nm, .int .i64 3] 120)).heap.size from Nat.le_trans HSZ.out (by simp; omega))
        clear KO1 KB1
        go_wp2_with (at_builtin; refine wpList_append_own _ rfl (.tmp 44) (.tmp 50) _ rfl (w.heap.size + 1 + 1) 120 i0 _ 2 24 Tryz.underlying117 HI0.out HZ0.out HZ1.out HZ2.out rfl (by omega) _ (may3 b.nm q1 q2 true 2).length (flatC (may3 b.nm q1 q2 true 2)) rfl KO2.out ⟨wr.heap.size + 1, 0, none⟩ 1 1 (Cg.cells ⟨b.nm, 3⟩).toList rfl rfl HNE.out (one_c1 _) P1.out P2.out P3.out ?_; intro v6 w6 ho hg _; have HO1 := Lib.hid (show OwnC w6 (w.heap.size + 1 + 1) v6 (may3 b.nm q1 q2 true 2 ++ [⟨b.nm, 3⟩]) by (have := ho; rw [← flatC_snoc] at this; simpa [OwnC] using this)); have HB1 := Lib.hid (KB2.out.grown hg P3.out (fun k hk => (KO2.out.lt k hk).1)); clear ho hg)
        go_roundw
        case rel => exact ⟨3, by go_num, by omega, by have := HO1.out; simpa [may3] using this, HB1.out⟩
        case measure => simp [intOf]
    · have HFI := Lib.hid (show OwnC wr w.heap.size u9 (may3 b.nm q1 q2 q3 3) from KO.out.more (by omega))
      have HBZ := Lib.hid (HB3.out.trans (KBL.out.mono (by omega)))
      go_wp2_with fail
      go_ret
      exact ⟨_, rfl, HFI.out, HBZ.out⟩
end Go.Proofs.YtoaboklckkcjcaaGreat.dfC
/- Layer 43: what is otherwise between nodes. -/
namespace Go.Proofs.YtoaboklckkcjcaaGreat.dfE
open Go.ChangeShapes Go.WideShapes Go.ChangeAt Go.RowKit
open Go.Proofs.YtoaboklckkcjcaaGreat.base Go.Proofs.YtoaboklckkcjcaaGreat.dfA Go.Proofs.YtoaboklckkcjcaaGreat.dfB Go.Proofs.YtoaboklckkcjcaaGreat.dfC
set_option linter.unusedVariables false

/-- Where the first of a name is; -1: there is none. -/
def fz (l : List Nd) (s : ByteArray) : Int := match l.findIdx? (fun e => decide (e.nm.toList = s.toList)) with
  | some j => (j : Int)
  | none => -1
theorem fz_is (l : List Nd) (s : ByteArray) (at' : Int) (h : IsFind l s at') : fz l s = at' := by
  have hd : ∀ e : Nd, decide (e.nm.toList = s.toList) = true ↔ e.nm = s := fun e => by
    constructor
    · intro h
      have h2 : e.nm.toList = s.toList := by simpa using h
      rw [ByteArray.toList_eq, ByteArray.toList_eq] at h2
      exact bytes_inj h2
    · intro h; rw [h]; simp
  unfold fz
  rcases h with ⟨e1, n1⟩ | ⟨j, hj, e1, n1, m1⟩
  · have : l.findIdx? (fun e => decide (e.nm.toList = s.toList)) = none := by
      rw [List.findIdx?_eq_none_iff]
      intro e he
      cases hq : decide (e.nm.toList = s.toList) with
      | false => rfl
      | true => exact absurd ((hd e).mp hq) (n1 e he)
    rw [this, e1]
  · have : l.findIdx? (fun e => decide (e.nm.toList = s.toList)) = some j := by
      rw [List.findIdx?_eq_some_iff_getElem]
      refine ⟨hj, (hd _).mpr n1, fun q hq => ?_⟩
      intro hq2
      exact m1 q hq ((hd _).mp hq2)
    rw [this, e1]
/-- What is gone; what is new or otherwise. -/
def goneC (was now : List Nd) : List Cg := (was.filter (fun e => decide (fz now e.nm = -1))).map (fun e => ⟨e.nm, 1⟩)
def oneC (was now : List Nd) (e : Nd) : List Cg := if fz was e.nm = -1 then [⟨e.nm, 2⟩] else match was[(fz was e.nm).toNat]? with
  | some a => othC a (aboveS was a) e (aboveS now e)
  | none => []
def newC (was now : List Nd) (l : List Nd) : List Cg := l.flatMap (oneC was now)
theorem oth_len (a b : Nd) (sa sb : ByteArray) : (othC a sa b sb).length ≤ 3 := by
  unfold othC
  split <;> split <;> split <;> simp
theorem one_len (was now : List Nd) (e : Nd) : (oneC was now e).length ≤ 3 := by
  unfold oneC
  split
  · simp
  · split
    · exact oth_len _ _ _ _
    · simp
theorem new_len (was now l : List Nd) : (newC was now l).length ≤ 3 * l.length := by
  induction l with
  | nil => simp [newC]
  | cons e l ih =>
    have h1 := one_len was now e
    unfold newC at ih ⊢
    rw [List.flatMap_cons, List.length_append, List.length_cons]
    omega
theorem gone_len (was now l : List Nd) : (goneC l now).length ≤ l.length := by
  unfold goneC
  rw [List.length_map]
  exact List.length_filter_le _ _
end Go.Proofs.YtoaboklckkcjcaaGreat.dfE
