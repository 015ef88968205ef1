/- Layer 23: the law of EligCounts. -/
import Derived.Test.YtlihgiannfpjfaaEliE
import Derived.Test.YtlihgiannfpjfaaEliH
namespace Go.Proofs.Ytlihgiannfpjfaa.eliI
open Go.ChangeShapes Go.WideShapes Go.ChangeAt Go.RowKit
open Go.Proofs.Ytlihgiannfpjfaa.base Go.Proofs.Ytlihgiannfpjfaa.dfA Go.Proofs.Ytlihgiannfpjfaa.treA Go.Proofs.Ytlihgiannfpjfaa.treB Go.Proofs.Ytlihgiannfpjfaa.treC Go.Proofs.Ytlihgiannfpjfaa.treD Go.Proofs.Ytlihgiannfpjfaa.treE Go.Proofs.Ytlihgiannfpjfaa.treG Go.Proofs.Ytlihgiannfpjfaa.treH Go.Proofs.Ytlihgiannfpjfaa.treI Go.Proofs.Ytlihgiannfpjfaa.treM Go.Proofs.Ytlihgiannfpjfaa.treN Go.Proofs.Ytlihgiannfpjfaa.treW Go.Proofs.Ytlihgiannfpjfaa.treP Go.Proofs.Ytlihgiannfpjfaa.eliW Go.Proofs.Ytlihgiannfpjfaa.eliA Go.Proofs.Ytlihgiannfpjfaa.eliB Go.Proofs.Ytlihgiannfpjfaa.eliC Go.Proofs.Ytlihgiannfpjfaa.eliD Go.Proofs.Ytlihgiannfpjfaa.eliE Go.Proofs.Ytlihgiannfpjfaa.eliG Go.Proofs.Ytlihgiannfpjfaa.eliH
set_option linter.unusedVariables false

theorem ofK_pre (m : List Nd) (kind : Int) : ∀ n k, k ≤ n → n ≤ m.length → ∃ r, ofK m kind n = ofK m kind k ++ r := by
  intro n
  induction n with
  | zero => intro k hk _; have : k = 0 := by omega
            subst this; exact ⟨[], by simp⟩
  | succ n ih =>
    intro k hk hn
    by_cases e : k = n + 1
    · subst e; exact ⟨[], by simp⟩
    · obtain ⟨r, hr⟩ := ih k (by omega) (by omega)
      rw [ofK_next (show n < m.length by omega), hr, List.append_assoc]
      exact ⟨_, rfl⟩
theorem ofK_hit {m : List Nd} {kind : Int} {k : Nat} (hk : k < m.length) (h : ((ndAt m k).kind == kind) = true) : (ofK m kind k).length < (ofK m kind m.length).length ∧ (ofK m kind m.length)[(ofK m kind k).length]? = some (k : Int) := by
  obtain ⟨r, hr⟩ := ofK_pre m kind m.length (k + 1) (by omega) (Nat.le_refl _)
  rw [ndAt_nat hk] at h
  rw [hr, ofK_next hk, if_pos h]
  constructor
  · rw [List.length_append, List.length_append, List.length_singleton]; omega
  · rw [List.getElem?_append_left (by rw [List.length_append, List.length_singleton]; omega), List.getElem?_append_right (Nat.le_refl _), Nat.sub_self]; rfl
theorem cntB_congr {m : List Nd} {p p' : Nat → Bool} (a : Nat) : ∀ k, k ≤ m.length → (∀ j, j < m.length → (ndAt m j).kind = 4 → p j = p' j) → cntB m p a k = cntB m p' a k := by
  intro k
  induction k with
  | zero => intro _ _; rfl
  | succ k ih =>
    intro hk h
    unfold cntB
    rw [ih (by omega) h]
    cases h1 : ((ndAt m k).kind == 4) with
    | false => rfl
    | true => rw [h k (by omega) (by simpa using h1)]
set_option maxRecDepth 100000 in
set_option maxHeartbeats 32000000 in
theorem counts_law (A : Option Addr) (n c : Nat) (l : List Nd) (AH : Option Addr) (nh ch : Nat) (H : List Int) (kind : Int) (w : World) (hr : RdN w A l) (hl : l.length ≤ 60) (hcap : l.length ≤ c) (hcap2 : c ≤ 9223372036854775807) (hnm : ∀ j (hj : j < l.length), (l[j]).nm.size ≤ 9223372036854775807)
    (hfew : ∀ W', Calls Try.prog 21 #[.slice A n c] W' fun o w' => o = .returned (.slice A l.length c) ∧ Below W'.heap.size W' w')
    (hh : RdI w AH H) (hH : H.length ≤ 30) (hhc : H.length ≤ ch) (hhc2 : ch ≤ 9223372036854775807) (hfh : ∀ W', Calls Try.prog 8 #[.slice AH nh ch] W' fun o w' => o = .returned (.slice AH H.length ch) ∧ w' = W') :
    Calls Try.prog 4 #[.slice A n c, .slice AH nh ch, .int .i64 kind] w fun o w' => o = .returned (.bool true) ∧ Below w.heap.size w w' := by
  have HMD := Lib.hid (made_any A n c l w hr hl hcap hcap2 hnm hfew)
  have HI := Lib.hid hh
  have HAW := Lib.hid (fun W => awake_any W)
  obtain ⟨hl2, hhl⟩ : ∃ hl2, hl2 = H.length := ⟨_, rfl⟩
  have HHL := Lib.hid hhl
  have HFH := Lib.hid (show ∀ W', Calls Try.prog 8 #[.slice AH nh ch] W' fun o w' => o = .returned (.slice AH hl2 ch) ∧ w' = W' from by rw [hhl]; exact hfh)
  rw [← hhl] at hhc
  clear hr hl hcap hcap2 hnm hfew hh hfh hhl
  go_enter Try.func4, Try.ntmps4
  go_wp2_with fail
  refine HMD.out.mono ?_
  rintro o w1 ⟨T, m, A1, c1, rfl, hT, hrd, hm60, hmc, hmc2, hb1⟩
  have B1 := Lib.hid hb1
  have HT1 := Lib.hid hT
  have HR1 := Lib.hid hrd
  have HF := Lib.hid (fine_of hT.good)
  have HV := Lib.hid (heavy_of hT.good)
  have I1 := Lib.hid (show RdI w1 AH H from HI.out.below hb1)
  have HNEW := Lib.hid (eliA.new_any hT hm60 AH ch H I1.out (by omega) (by rw [← HHL.out]; exact hhc) hhc2)
  rw [← HHL.out] at HNEW
  clear hT hrd hb1
  go_wp2_with fail
  refine (HFH.out _).mono ?_
  rintro o w2 ⟨rfl, rfl⟩
  go_wp2_with fail
  refine HNEW.out.mono ?_
  rintro o w3 ⟨rfl, hs3, hz3⟩
  have BN := Lib.hid hs3.bel
  have B3 := Lib.hid (B1.out.trans (hs3.bel.mono B1.out.size))
  have S3 := Lib.hid (setOk_of hs3 HT1.out)
  have HCO := Lib.hid (counts_any S3.out hm60)
  clear hs3 hz3
  go_wp2_with fail
  refine HCO.out.mono ?_
  rintro o w4 ⟨g1, g2, rfl, hcn⟩
  have KC := Lib.hid hcn
  have B4 := Lib.hid (B3.out.trans (hcn.bel.mono B3.out.size))
  have S4 := Lib.hid (S3.out.below hcn.bel)
  have BN4 := Lib.hid (show Below w2.heap.size w2 w4 from BN.out.trans (hcn.bel.mono BN.out.size))
  have HDM := Lib.hid (domains_any S4.out kind)
  obtain ⟨nl, hnl⟩ : ∃ nl, nl = (ofK m 1 m.length).length := ⟨_, rfl⟩
  have HNL := Lib.hid hnl
  have hnl60 : nl ≤ 60 := by rw [hnl]; exact Nat.le_trans (ofK_len m 1 m.length) hm60
  rw [← hnl] at KC ⊢
  clear hcn hnl
  go_wp2_with fail
  refine HDM.out.mono ?_
  rintro o w5 ⟨v, rfl, ho, hb5⟩
  have B5 := Lib.hid (B4.out.trans (hb5.mono B4.out.size))
  have BN5 := Lib.hid (show Below w2.heap.size w2 w5 from BN4.out.trans (hb5.mono BN4.out.size))
  have KC5 := Lib.hid (KC.out.below hb5)
  obtain ⟨AL, cL, rfl, hl1, hl2', hRL⟩ := read_own ho
  have HRL := Lib.hid hRL
  obtain ⟨ln, hln⟩ : ∃ ln, ln = (domL m (F m H) kind m.length).length := ⟨_, rfl⟩
  have HLN := Lib.hid hln
  rw [← hln] at hl1 ⊢
  have hlnm : ln ≤ m.length := by rw [hln]; exact domL_len m (F m H) kind m.length
  obtain ⟨mn, hmn⟩ : ∃ mn, mn = m.length := ⟨_, rfl⟩
  have HMN := Lib.hid hmn
  have HR5 := Lib.hid (HR1.out.below BN5.out)
  have I5 := Lib.hid (I1.out.below BN5.out)
  have HLH := Lib.hid (show ∀ k, k < m.length → Calls Try.prog 14 #[.slice A1 m.length c1, .slice AH H.length ch, .int .i64 (k : Int)] w5 fun o w' => o = .returned (.bool (F m H k != 0)) ∧ w' = w5 from fun k hk => lhas_x HR5.out hmc hmc2 HF.out HV.out AH ch H I5.out (by omega) hk)
  have HPK := Lib.hid (show ∀ k, k < m.length → Calls Try.prog 15 #[.slice A1 m.length c1, .slice AH H.length ch, .int .i64 (k : Int)] w5 fun o w' => o = .returned (.bool (pkB m H k)) ∧ w' = w5 from fun k hk => picked_x HR5.out hmc hmc2 AH ch H I5.out (by omega) hk)
  have HBL := Lib.hid (show ∀ x, x < m.length → ∀ a, a < m.length → Calls Try.prog 19 #[.slice A1 m.length c1, .int .i64 (x : Int), .int .i64 (a : Int)] w5 fun o w' => o = .returned (.bool (belU m x a)) ∧ w' = w5 from fun x hx a ha => below_x HR5.out hmc hmc2 HF.out hx ha)
  have HCK := Lib.hid (show ∀ k (hk : k < m.length), ∃ b off, A1 = some ⟨b, off, none⟩ ∧ w5.cell? ⟨b, off + k * 7 + 1, none⟩ = some (.int .i64 (ndAt m k).kind) from fun k hk => by
    obtain ⟨b, off, h1, h2, h3⟩ := HR5.out.at_ k hk
    exact ⟨b, off, h1, by rw [ndAt_nat hk]; exact h3 1 (by omega)⟩)
  rw [← HHL.out] at HLH HPK
  rw [← hmn] at hmc hm60 hlnm HLH HPK HBL ⊢
  clear ho hb5 hRL hln hmn
  go_wp2_with fail
  go_loopw [13, 14, 15] (fun nv dv iv wr => ∃ i : Nat, iv = .int .i64 i ∧ i ≤ mn ∧ nv = .int .i64 (ofK m 1 i).length ∧ dv = .int .i64 (domL m (F m H) kind i).length ∧ wr = w5) (fun _ _ iv _ => mn - (intOf iv).toNat)
  case atStart => exact ⟨0, rfl, by omega, rfl, rfl, rfl⟩
  case round =>
    obtain ⟨i, rfl, hi, rfl, rfl, rfl⟩ := hrel
    by_cases hin : i < mn
    · have t1 : decide ((i : Int) < mn) = true := decide_eq_true (by omega)
      have him : i < m.length := HMN.out ▸ hin
      have HLI := Lib.hid (HLH.out i hin)
      have HWI := Lib.hid (wt_in (W := F m H) him)
      have HHIT := Lib.hid (show ((ndAt m i).kind == kind && (F m H i != 0)) = true → (domL m (F m H) kind i).length < (domL m (F m H) kind m.length).length ∧ (domL m (F m H) kind m.length)[(domL m (F m H) kind i).length]? = some (i : Int) from fun h => domL_hit him (by rw [HWI.out]; exact h))
      have HNX := Lib.hid (show domL m (F m H) kind (i + 1) = if ((ndAt m i).kind == kind && (F m H i != 0)) = true then domL m (F m H) kind i ++ [(i : Int)] else domL m (F m H) kind i from by
        show (if ((ndAt m i).kind == kind && (wtOf m (F m H) i != 0)) = true then domL m (F m H) kind i ++ [(i : Int)] else domL m (F m H) kind i) = _
        rw [HWI.out])
      have HOH := Lib.hid (fun h => ofK_hit (kind := 1) him h)
      have HON := Lib.hid (show ofK m 1 (i + 1) = ofK m 1 i ++ (if ((ndAt m i).kind == 1) = true then [(i : Int)] else []) by rw [ndAt_nat him]; exact ofK_next him)
      obtain ⟨b, off, hA, ck⟩ := HCK.out i him
      subst hA
      obtain ⟨kd, hkd⟩ : ∃ kd, kd = (ndAt m i).kind := ⟨_, rfl⟩
      have HKD := Lib.hid hkd
      rw [← hkd] at HHIT HNX HOH HON ck
      obtain ⟨f, hf⟩ : ∃ f, f = (F m H i != 0) := ⟨_, rfl⟩
      rw [← hf] at HLI HHIT HNX
      have hd1 : (domL m (F m H) kind i).length ≤ 60 := Nat.le_trans (domL_len m (F m H) kind i) (by omega)
      obtain ⟨q, hq⟩ : ∃ q, q = (domL m (F m H) kind i).length := ⟨_, rfl⟩
      have HQ := Lib.hid hq
      rw [← hq] at hd1 HHIT ⊢
      have ho1 : (ofK m 1 i).length ≤ 60 := Nat.le_trans (ofK_len m 1 i) (by omega)
      obtain ⟨p, hp⟩ : ∃ p, p = (ofK m 1 i).length := ⟨_, rfl⟩
      have HP := Lib.hid hp
      rw [← hp] at ho1 HOH ⊢
      have j0 : (0 : Int) ≤ i := by omega
      have j1 : (i : Int) < mn := by omega
      clear hkd hf hq hp
      go_upto_region 12 with fail
      go_cut [57] (fun v wx => v = .bool (kd == kind && f) ∧ wx = wr)
      case first =>
        cases h1 : (kd == kind) with
        | false =>
          have K1 := Lib.hid h1
          go_wp2_with fail
          all_goals go_meet
          all_goals exact ⟨by rw [K1.out]; rfl, rfl⟩
        | true =>
          have K1 := Lib.hid h1
          go_wp2_with fail
          all_goals refine HLI.out.mono ?_
          all_goals rintro o w6 ⟨rfl, rfl⟩
          all_goals go_wp2_with fail
          all_goals go_meet
          all_goals exact ⟨by rw [K1.out]; rfl, rfl⟩
      case rest =>
        obtain ⟨rfl, rfl⟩ := hcut
        clear ck
        go_upto_if 57 with fail
        go_cut [14] (fun x14 wx => x14 = .int .i64 (domL m (F m H) kind (i + 1)).length ∧ wx = wc)
        case first =>
          cases h1 : (kd == kind && f) with
          | false =>
            rw [h1, if_neg (by decide)] at HNX
            have K1 := Lib.hid h1
            go_wp2_with fail
            go_meet
            exact ⟨by rw [HNX.out, ← HQ.out], rfl⟩
          | true =>
            rw [h1, if_pos rfl] at HNX
            obtain ⟨hq1, hq2⟩ := HHIT.out h1
            obtain ⟨bL, oL, hAL, _, cL9⟩ := HRL.out.at_ q hq1
            subst hAL
            have hLk : (domL m (F m H) kind m.length)[q] = (i : Int) := by
              rw [List.getElem?_eq_getElem hq1] at hq2
              injection hq2
            rw [hLk] at cL9
            have hq3 : q < ln := by rw [HLN.out]; exact hq1
            have t2 : decide ((ln : Int) ≤ q) = false := decide_eq_false (by omega)
            have t3 : decide (ln ≤ q) = false := decide_eq_false (by omega)
            have x3 : ((i : Int) != (i : Int)) = false := by simp
            have j2 : (0 : Int) ≤ q := by omega
            have j3 : (q : Int) < ln := by omega
            have HLL := Lib.hid (show ((domL m (F m H) kind (i + 1)).length : Int) = (q : Int) + 1 by rw [HNX.out, List.length_append, List.length_singleton, ← HQ.out]; omega)
            clear hq1 hq2 hLk h1
            go_wp2_with fail
            go_meet
            exact ⟨by rw [HLL.out], rfl⟩
        case rest =>
          obtain ⟨rfl, rfl⟩ := hcut
          obtain ⟨b', off', hA', ck⟩ := HCK.out i him
          injection hA' with hA'
          injection hA' with hb' ho'
          subst hb' ho'
          rw [← HKD.out] at ck
          cases k1 : (kd != 1) with
          | true =>
            have K1 := Lib.hid (show (kd == 1) = false by simpa [bne] using k1)
            rw [K1.out, if_neg (by decide), List.append_nil] at HON
            go_wp2_with fail
            all_goals go_roundw
            case rel => exact ⟨i + 1, by go_num, by omega, by rw [HON.out, ← HP.out], rfl, trivial⟩
            case measure => simp [intOf] <;> omega
          | false =>
            have K1 := Lib.hid (show (kd == 1) = true by simpa [bne] using k1)
            rw [K1.out, if_pos rfl] at HON
            obtain ⟨hp1, hp2⟩ := HOH.out K1.out
            have HLA := Lib.hid (lvA_of hp2)
            have hpn : p < nl := by rw [HNL.out]; exact hp1
            have HA1 := Lib.hid (show cntL m (fun x => wtOf m (F m H) x != 0) (lvA m p) (ofK m 4 m.length) = cntB m (pkB m H) i mn from by
              rw [HLA.out, cnt_is m _ i m.length (Nat.le_refl _), HMN.out]
              exact cntB_congr i m.length (Nat.le_refl _) fun j hj h4 => by
                rw [wt_in hj, ← F_pk HF.out H hj, show ((ndAt m j).kind == 4) = true by simp [h4], Bool.true_and])
            have HA2 := Lib.hid (show cntL m (fun _ => true) (lvA m p) (ofK m 4 m.length) = cntB m (fun _ => true) i mn from by
              rw [HLA.out, cnt_is m _ i m.length (Nat.le_refl _), HMN.out])
            have c1 : wc.cell? ⟨g1, p, none⟩ = some (.int .i64 (cntB m (pkB m H) i mn : Int)) := by rw [(KC5.out.c1 hpn).1, HA1.out]
            have c2 : wc.cell? ⟨g2, p, none⟩ = some (.int .i64 (cntB m (fun _ => true) i mn : Int)) := by rw [(KC5.out.c2 hpn).1, HA2.out]
            have HOL := Lib.hid (show ((ofK m 1 (i + 1)).length : Int) = (p : Int) + 1 by rw [HON.out, List.length_append, List.length_singleton, ← HP.out]; omega)
            clear hp1 hp2
            go_wp2_with fail
            go_loopw [16, 17, 18] (fun av bv kv wr => ∃ k : Nat, kv = .int .i64 k ∧ k ≤ mn ∧ av = .int .i64 (cntB m (pkB m H) i k) ∧ bv = .int .i64 (cntB m (fun _ => true) i k) ∧ wr = wc) (fun _ _ kv _ => mn - (intOf kv).toNat)
            case atStart => exact ⟨0, rfl, by omega, rfl, rfl, rfl⟩
            case round =>
              obtain ⟨k, rfl, hk, rfl, rfl, rfl⟩ := hrel
              have hb1 : cntB m (pkB m H) i k ≤ 60 := Nat.le_trans (cntB_le m _ i k) (by omega)
              have hb2 : cntB m (fun _ => true) i k ≤ 60 := Nat.le_trans (cntB_le m _ i k) (by omega)
              by_cases hkn : k < mn
              · have t4 : decide ((k : Int) < mn) = true := decide_eq_true (by omega)
                have hkm : k < m.length := HMN.out ▸ hkn
                have HPP := Lib.hid (HPK.out k hkn)
                have HBB := Lib.hid (HBL.out k hkn i hin)
                have HN1 := Lib.hid (show cntB m (pkB m H) i (k + 1) = if ((ndAt m k).kind == 4 && belU m k i && pkB m H k) = true then cntB m (pkB m H) i k + 1 else cntB m (pkB m H) i k from rfl)
                have HN2 := Lib.hid (show cntB m (fun _ => true) i (k + 1) = if ((ndAt m k).kind == 4 && belU m k i && true) = true then cntB m (fun _ => true) i k + 1 else cntB m (fun _ => true) i k from rfl)
                obtain ⟨b', off', hA', ck2⟩ := HCK.out k hkm
                injection hA' with hA'
                injection hA' with hb' ho'
                subst hb' ho'
                obtain ⟨ek, hek⟩ : ∃ ek, ek = (ndAt m k).kind := ⟨_, rfl⟩
                rw [← hek] at ck2 HN1 HN2
                obtain ⟨u, hu⟩ : ∃ u, u = belU m k i := ⟨_, rfl⟩
                rw [← hu] at HBB HN1 HN2
                obtain ⟨z, hz⟩ : ∃ z, z = pkB m H k := ⟨_, rfl⟩
                rw [← hz] at HPP HN1
                obtain ⟨y1, hy1⟩ : ∃ y1, y1 = cntB m (pkB m H) i k := ⟨_, rfl⟩
                obtain ⟨y2, hy2⟩ : ∃ y2, y2 = cntB m (fun _ => true) i k := ⟨_, rfl⟩
                have HY1 := Lib.hid hy1
                have HY2 := Lib.hid hy2
                rw [← hy1] at hb1 HN1 ⊢
                rw [← hy2] at hb2 HN2 ⊢
                have j2 : (0 : Int) ≤ k := by omega
                have j3 : (k : Int) < mn := by omega
                clear hek hu hz hy1 hy2
                cases h4 : (ek == 4) with
                | false =>
                  rw [h4] at HN1 HN2
                  have K4 := Lib.hid h4
                  go_wp2_with fail
                  all_goals go_roundw
                  case rel => exact ⟨k + 1, by go_num, by omega, by rw [HN1.out]; rfl, by rw [HN2.out]; rfl, trivial⟩
                  case measure => simp [intOf] <;> omega
                | true =>
                  rw [h4] at HN1 HN2
                  have K4 := Lib.hid h4
                  go_wp2_with fail
                  refine HBB.out.mono ?_
                  rintro o w6 ⟨rfl, rfl⟩
                  cases u with
                  | false =>
                    go_wp2_with fail
                    go_roundw
                    case rel => exact ⟨k + 1, by go_num, by omega, by rw [HN1.out]; rfl, by rw [HN2.out]; rfl, trivial⟩
                    case measure => simp [intOf] <;> omega
                  | true =>
                    go_wp2_with fail
                    refine HPP.out.mono ?_
                    rintro o w6 ⟨rfl, rfl⟩
                    cases z with
                    | false =>
                      go_wp2_with fail
                      go_roundw
                      case rel => exact ⟨k + 1, by go_num, by omega, by rw [HN1.out]; rfl, by rw [HN2.out]; rfl, trivial⟩
                      case measure => simp [intOf] <;> omega
                    | true =>
                      go_wp2_with fail
                      go_roundw
                      case rel => exact ⟨k + 1, by go_num, by omega, by rw [HN1.out]; rfl, by rw [HN2.out]; rfl, trivial⟩
                      case measure => simp [intOf] <;> omega
              · have t4 : decide ((k : Int) < mn) = false := decide_eq_false (by omega)
                obtain rfl : mn = k := by omega
                obtain ⟨y1, hy1⟩ : ∃ y1, y1 = cntB m (pkB m H) i mn := ⟨_, rfl⟩
                obtain ⟨y2, hy2⟩ : ∃ y2, y2 = cntB m (fun _ => true) i mn := ⟨_, rfl⟩
                rw [← hy1] at c1 hb1 ⊢
                rw [← hy2] at c2 hb2 ⊢
                have t5 : decide ((nl : Int) ≤ p) = false := decide_eq_false (by omega)
                have t6 : decide (nl ≤ p) = false := decide_eq_false (by omega)
                have x4 : ((y1 : Int) != (y1 : Int)) = false := by simp
                have x5 : ((y2 : Int) != (y2 : Int)) = false := by simp
                have j2 : (0 : Int) ≤ p := by omega
                have j3 : (p : Int) < nl := by omega
                clear hy1 hy2
                go_wp2_with fail
                go_roundw
                case rel => exact ⟨i + 1, by go_num, by omega, by rw [HOL.out], rfl, trivial⟩
                case measure => simp [intOf] <;> omega
    · have t1 : decide ((i : Int) < mn) = false := decide_eq_false (by omega)
      obtain rfl : mn = i := by omega
      have HLX := Lib.hid (show (domL m (F m H) kind mn).length = ln by rw [HMN.out, HLN.out])
      have HLY := Lib.hid (show (ofK m 1 mn).length = nl by rw [HMN.out, HNL.out])
      rw [HLX.out, HLY.out]
      have x5 : ((ln : Int) == (ln : Int)) = true := by simp
      have x6 : ((nl : Int) == (nl : Int)) = true := by simp
      go_wp2_with fail
      refine (HAW.out _).mono ?_
      rintro o wA ⟨rfl, hbA⟩
      have BA := Lib.hid (B5.out.trans (hbA.mono B5.out.size))
      clear hbA
      go_wp2_with fail
      go_ret
      exact ⟨rfl, BA.out⟩
end Go.Proofs.Ytlihgiannfpjfaa.eliI
