/- Layer 23: the law of EligWeighs. -/
import Derived.Test.YtlihgiannfpjfaaEliD
namespace Go.Proofs.Ytlihgiannfpjfaa.eliE
open Go.ChangeShapes Go.WideShapes Go.ChangeAt Go.RowKit
open Go.Proofs.Ytlihgiannfpjfaa.base Go.Proofs.Ytlihgiannfpjfaa.dfA Go.Proofs.Ytlihgiannfpjfaa.treA Go.Proofs.Ytlihgiannfpjfaa.treB Go.Proofs.Ytlihgiannfpjfaa.treC Go.Proofs.Ytlihgiannfpjfaa.treD Go.Proofs.Ytlihgiannfpjfaa.treE Go.Proofs.Ytlihgiannfpjfaa.treG Go.Proofs.Ytlihgiannfpjfaa.treH Go.Proofs.Ytlihgiannfpjfaa.treI Go.Proofs.Ytlihgiannfpjfaa.treM Go.Proofs.Ytlihgiannfpjfaa.treN Go.Proofs.Ytlihgiannfpjfaa.treW Go.Proofs.Ytlihgiannfpjfaa.treP Go.Proofs.Ytlihgiannfpjfaa.eliW Go.Proofs.Ytlihgiannfpjfaa.eliA Go.Proofs.Ytlihgiannfpjfaa.eliB Go.Proofs.Ytlihgiannfpjfaa.eliC Go.Proofs.Ytlihgiannfpjfaa.eliD
set_option linter.unusedVariables false

theorem wt_in {m : List Nd} {W : Nat → Int} {k : Nat} (hk : k < m.length) : wtOf m W k = W k := by
  unfold wtOf
  rw [isB_nat hk, if_pos rfl, Int.toNat_natCast]
theorem wt_out {m : List Nd} {W : Nat → Int} {i : Int} (h : isB i m.length = false) : wtOf m W i = 0 := by unfold wtOf; rw [h]; rfl
theorem domL_pre (m : List Nd) (W : Nat → Int) (kind : Int) : ∀ n k, k ≤ n → ∃ r, domL m W kind n = domL m W kind k ++ r := by
  intro n
  induction n with
  | zero => intro k hk; have : k = 0 := by omega
            subst this; exact ⟨[], by simp⟩
  | succ n ih =>
    intro k hk
    by_cases e : k = n + 1
    · subst e; exact ⟨[], by simp⟩
    · obtain ⟨r, hr⟩ := ih k (by omega)
      show ∃ r, (if ((ndAt m n).kind == kind && (wtOf m W n != 0)) = true then domL m W kind n ++ [(n : Int)] else domL m W kind n) = _
      split
      · exact ⟨r ++ [(n : Int)], by rw [hr, List.append_assoc]⟩
      · exact ⟨r, hr⟩
theorem domL_hit {m : List Nd} {W : Nat → Int} {kind : Int} {n k : Nat} (hk : k < n) (h : ((ndAt m k).kind == kind && (wtOf m W k != 0)) = true) : (domL m W kind k).length < (domL m W kind n).length ∧ (domL m W kind n)[(domL m W kind k).length]? = some (k : Int) := by
  obtain ⟨r, hr⟩ := domL_pre m W kind n (k + 1) (by omega)
  have h1 : domL m W kind (k + 1) = domL m W kind k ++ [(k : Int)] := by
    show (if ((ndAt m k).kind == kind && (wtOf m W k != 0)) = true then domL m W kind k ++ [(k : Int)] else domL m W kind k) = _
    rw [if_pos h]
  rw [hr, h1]
  constructor
  · rw [List.length_append, List.length_append, List.length_singleton]; omega
  · rw [List.getElem?_append_left (by rw [List.length_append, List.length_singleton]; omega), List.getElem?_append_right (Nat.le_refl _), Nat.sub_self]; rfl
set_option maxRecDepth 100000 in
set_option maxHeartbeats 32000000 in
theorem weighs_any (A : Option Addr) (n c : Nat) (l : List Nd) (AH : Option Addr) (nh ch : Nat) (H : List Int) (i : Int) (w : World) (hr : RdN w A l) (hl : l.length ≤ 60) (hcap : l.length ≤ c) (hcap2 : c ≤ 9223372036854775807) (hnm : ∀ j (hj : j < l.length), (l[j]).nm.size ≤ 9223372036854775807)
    (hfew : ∀ W', Calls Try.prog 21 #[.slice A n c] W' fun o w' => o = .returned (.slice A l.length c) ∧ Below W'.heap.size W' w')
    (hh : RdI w AH H) (hH : H.length ≤ 30) (hhc : H.length ≤ ch) (hhc2 : ch ≤ 9223372036854775807) (hfh : ∀ W', Calls Try.prog 8 #[.slice AH nh ch] W' fun o w' => o = .returned (.slice AH H.length ch) ∧ w' = W') :
    Calls Try.prog 3 #[.slice A n c, .slice AH nh ch, .int .i64 i] w fun o w' => o = .returned (.bool true) ∧ Below w.heap.size w w' := by
  have HMD := Lib.hid (made_any A n c l w hr hl hcap hcap2 hnm hfew)
  have HI := Lib.hid hh
  have HAW := Lib.hid (fun W => awake_any W)
  obtain ⟨hl2, hhl⟩ : ∃ hl2, hl2 = H.length := ⟨_, rfl⟩
  have HHL := Lib.hid hhl
  have HFH := Lib.hid (show ∀ W', Calls Try.prog 8 #[.slice AH nh ch] W' fun o w' => o = .returned (.slice AH hl2 ch) ∧ w' = W' from by rw [hhl]; exact hfh)
  rw [← hhl] at hhc
  clear hr hl hcap hcap2 hnm hfew hh hfh hhl
  go_enter Try.func3, Try.ntmps3
  go_wp2_with fail
  refine HMD.out.mono ?_
  rintro o w1 ⟨T, m, A1, c1, rfl, hT, hrd, hm60, hmc, hmc2, hb1⟩
  have B1 := Lib.hid hb1
  have HT1 := Lib.hid hT
  have HR1 := Lib.hid hrd
  have HF := Lib.hid (fine_of hT.good)
  have HV := Lib.hid (heavy_of hT.good)
  have I1 := Lib.hid (show RdI w1 AH H from HI.out.below hb1)
  have HNEW := Lib.hid (eliA.new_any hT hm60 AH ch H I1.out (by omega) (by rw [← HHL.out]; exact hhc) hhc2)
  rw [← HHL.out] at HNEW
  clear hT hrd hb1
  go_wp2_with fail
  refine (HFH.out _).mono ?_
  rintro o w2 ⟨rfl, rfl⟩
  go_wp2_with fail
  refine HNEW.out.mono ?_
  rintro o w3 ⟨rfl, hs3, hz3⟩
  have BN := Lib.hid hs3.bel
  have B3 := Lib.hid (B1.out.trans (hs3.bel.mono B1.out.size))
  have S3 := Lib.hid (setOk_of hs3 HT1.out)
  have HWT := Lib.hid (weights_any (HR1.out.below BN.out) hm60 hmc hmc2 HF.out HV.out AH ch H (I1.out.below BN.out) (by omega))
  rw [← HHL.out] at HWT
  have hbs3 := hs3.bel.size
  have HZ3 := Lib.hid (show w2.heap.size ≤ w3.heap.size from hs3.bel.size)
  clear hs3 hz3
  go_wp2_with fail
  refine HWT.out.mono ?_
  rintro o w4 ⟨rfl, ⟨cs, hk1, hk2⟩, hb4⟩
  have KW := Lib.hid hk1
  have KA := Lib.hid hk2
  have B4 := Lib.hid (B3.out.trans (hb4.mono B3.out.size))
  have S4 := Lib.hid (S3.out.below hb4)
  have BN4 := Lib.hid (show Below w2.heap.size w2 w4 from BN.out.trans (hb4.mono BN.out.size))
  have HLI := Lib.hid (list_any S4.out)
  clear hk1 hk2 hb4
  go_wp2_with fail
  refine HLI.out.mono ?_
  rintro o w5 ⟨v, rfl, ho, hb5⟩
  have B5 := Lib.hid (B4.out.trans (hb5.mono B4.out.size))
  have S5 := Lib.hid (S4.out.below hb5)
  have BN5 := Lib.hid (show Below w2.heap.size w2 w5 from BN4.out.trans (hb5.mono BN4.out.size))
  have KW5 := Lib.hid (KW.out.below hb5 KW.out.lt)
  obtain ⟨AL, cL, rfl, hl1, hl2', hRL⟩ := read_own ho
  have HRL := Lib.hid hRL
  obtain ⟨ln, hln⟩ : ∃ ln, ln = (domL m (F m H) 4 m.length).length := ⟨_, rfl⟩
  have HLN := Lib.hid hln
  rw [← hln] at hl1 ⊢
  have hlnm : ln ≤ m.length := by rw [hln]; exact domL_len m (F m H) 4 m.length
  obtain ⟨mn, hmn⟩ : ∃ mn, mn = m.length := ⟨_, rfl⟩
  have HMN := Lib.hid hmn
  have HLH := Lib.hid (show ∀ W, Below w5.heap.size w5 W → ∀ k, k < m.length → Calls Try.prog 14 #[.slice A1 m.length c1, .slice AH H.length ch, .int .i64 (k : Int)] W fun o w' => o = .returned (.bool (F m H k != 0)) ∧ w' = W from fun W hb k hk => lhas_x (HR1.out.below (BN5.out.trans (hb.mono BN5.out.size))) hmc hmc2 HF.out HV.out AH ch H (I1.out.below (BN5.out.trans (hb.mono BN5.out.size))) (by omega) hk)
  have HPK := Lib.hid (show ∀ W, Below w5.heap.size w5 W → ∀ k, k < m.length → Calls Try.prog 15 #[.slice A1 m.length c1, .slice AH H.length ch, .int .i64 (k : Int)] W fun o w' => o = .returned (.bool (pkB m H k)) ∧ w' = W from fun W hb k hk => picked_x (HR1.out.below (BN5.out.trans (hb.mono BN5.out.size))) hmc hmc2 AH ch H (I1.out.below (BN5.out.trans (hb.mono BN5.out.size))) (by omega) hk)
  rw [← HHL.out] at HLH HPK
  rw [← hmn] at hmc hm60 hlnm HLH HPK ⊢
  have HWG := Lib.hid (show ∀ W, Below w5.heap.size w5 W → ∀ k : Int, Calls Try.prog 12 #[.pointer (some ⟨w2.heap.size + 1, 0, none⟩), .int .i64 k] W fun o w' => o = .returned (.int .u64 (wtOf m (F m H) k)) ∧ Below W.heap.size W w' from fun W hb k => (weight_x (S5.out.below hb) k).mono (by rintro o w' ⟨rfl, q, rfl⟩; exact ⟨rfl, below_n W q⟩))
  have HHG := Lib.hid (show ∀ W, Below w5.heap.size w5 W → ∀ k : Int, Calls Try.prog 13 #[.pointer (some ⟨w2.heap.size + 1, 0, none⟩), .int .i64 k] W fun o w' => o = .returned (.bool (wtOf m (F m H) k != 0)) ∧ Below W.heap.size W w' from fun W hb k => (has_x (S5.out.below hb) k).mono (by rintro o w' ⟨rfl, q, rfl⟩; exact ⟨rfl, below_n W q⟩))
  have HCW := Lib.hid (show ∀ W, Below w5.heap.size w5 W → ∀ k, k < mn → W.cell? ⟨w3.heap.size, k, none⟩ = some (.int .u64 (F m H k)) from fun W hb k hk => by
    have h1 := KW5.out.below hb KW5.out.lt
    rw [h1.cell k]
    exact KA.out.2 k (by rw [← hmn]; exact hk))
  clear ho hb5 hRL hln hmn
  go_wp2_with fail
  go_loopw [12, 13] (fun nv iv wr => ∃ k : Nat, iv = .int .i64 k ∧ k ≤ mn ∧ nv = .int .i64 (domL m (F m H) 4 k).length ∧ Hid (Below w5.heap.size w5 wr)) (fun _ iv _ => mn - (intOf iv).toNat)
  case atStart => exact ⟨0, rfl, by omega, rfl, Lib.hid (Below.refl _ _)⟩
  case round =>
    obtain ⟨k, rfl, hk, rfl, KB⟩ := hrel
    by_cases hkn : k < mn
    · have t1 : decide ((k : Int) < mn) = true := decide_eq_true (by omega)
      have hkm : k < m.length := HMN.out ▸ hkn
      have HWK := Lib.hid (fun W hb => HWG.out W hb (k : Int))
      have HHK := Lib.hid (fun W hb => HHG.out W hb (k : Int))
      have HLK := Lib.hid (fun W hb => HLH.out W hb k (by first | exact hkm | exact hkn))
      have HPP := Lib.hid (fun W hb => HPK.out W hb k (by first | exact hkm | exact hkn))
      have HWI := Lib.hid (wt_in (W := F m H) hkm)
      rw [HWI.out] at HWK HHK
      have HCK := Lib.hid (fun W hb => HCW.out W hb k hkn)
      have HFP := Lib.hid (F_pk HF.out H hkm)
      have HHIT := Lib.hid (show pkB m H k = true → (domL m (F m H) 4 k).length < (domL m (F m H) 4 m.length).length ∧ (domL m (F m H) 4 m.length)[(domL m (F m H) 4 k).length]? = some (k : Int) from fun h => domL_hit hkm (by rw [HWI.out, HFP.out]; exact h))
      have HNX := Lib.hid (show domL m (F m H) 4 (k + 1) = if pkB m H k = true then domL m (F m H) 4 k ++ [(k : Int)] else domL m (F m H) 4 k from by
        show (if ((ndAt m k).kind == 4 && (wtOf m (F m H) k != 0)) = true then domL m (F m H) 4 k ++ [(k : Int)] else domL m (F m H) 4 k) = _
        rw [HWI.out, HFP.out])
      obtain ⟨f, hf⟩ : ∃ f, f = F m H k := ⟨_, rfl⟩
      rw [← hf] at HWK HHK HLK HCK
      obtain ⟨hb, hhb⟩ : ∃ hb, hb = (f != 0) := ⟨_, rfl⟩
      rw [← hhb] at HHK HLK
      obtain ⟨p, hp⟩ : ∃ p, p = pkB m H k := ⟨_, rfl⟩
      rw [← hp] at HPP HHIT HNX
      have HLE := domL_len m (F m H) 4 k
      obtain ⟨q, hq⟩ : ∃ q, q = (domL m (F m H) 4 k).length := ⟨_, rfl⟩
      have HQ := Lib.hid hq
      rw [← hq] at HHIT HLE ⊢
      have x1 : (f != f) = false := by simp
      have x2 : (hb != hb) = false := by cases hb <;> rfl
      have j0 : (0 : Int) ≤ k := by omega
      have j1 : (k : Int) < mn := by omega
      have BD := Lib.hid (KB.out.drew)
      have s0 := HCK.out _ BD.out
      clear hf hhb hp hq
      go_wp2_with fail
      go_region_held3 (fun w' => w'.cell? ⟨w3.heap.size, k, none⟩ = some (.int .u64 f)) (first | with_reducible assumption)
        (first
          | (go_at_call 12
             (with_reducible refine (HWK.out _ BD.out).mono ?_)
             rintro o wA ⟨rfl, hbA⟩
             have BA := Lib.hid (BD.out.trans (hbA.mono BD.out.size))
             have sA := HCK.out _ BA.out
             clear hbA)
          | (go_at_call 13
             (with_reducible refine (HHK.out _ BA.out).mono ?_)
             rintro o wB ⟨rfl, hbB⟩
             have BB := Lib.hid (BA.out.trans (hbB.mono BA.out.size))
             have sB := HCK.out _ BB.out
             clear hbB)
          | (go_at_call 14
             (with_reducible refine (HLK.out _ BB.out).mono ?_)
             rintro o wC ⟨rfl, rfl⟩))
      go_wp2_with fail
      refine (HPP.out _ BB.out).mono ?_
      rintro o wC ⟨rfl, rfl⟩
      cases p with
      | false =>
        rw [if_neg (by decide)] at HNX
        go_wp2_with fail
        go_roundw
        case rel => exact ⟨k + 1, by go_num, by omega, by rw [HNX.out, HQ.out], BB⟩
        case measure => simp [intOf]; omega
      | true =>
        rw [if_pos rfl] at HNX
        obtain ⟨hq1, hq2⟩ := HHIT.out rfl
        obtain ⟨bL, oL, hAL, _, cL⟩ := (HRL.out.below BB.out).at_ q hq1
        subst hAL
        have hLk : (domL m (F m H) 4 m.length)[q] = (k : Int) := by
          rw [List.getElem?_eq_getElem hq1] at hq2
          injection hq2
        rw [hLk] at cL
        have hq3 : q < ln := by rw [HLN.out]; exact hq1
        have t2 : decide ((ln : Int) ≤ q) = false := decide_eq_false (by omega)
        have t3 : decide (ln ≤ q) = false := decide_eq_false (by omega)
        have x3 : ((k : Int) != (k : Int)) = false := by simp
        have j2 : (0 : Int) ≤ q := by omega
        have j3 : (q : Int) < ln := by omega
        clear hq1 hq2 hLk
        go_wp2_with fail
        go_roundw
        case rel => exact ⟨k + 1, by go_num, by omega, by rw [HNX.out, List.length_append, List.length_singleton, ← HQ.out]; go_num, BB⟩
        case measure => simp [intOf]; omega
    · have t1 : decide ((k : Int) < mn) = false := decide_eq_false (by omega)
      obtain rfl : mn = k := by omega
      have HLX := Lib.hid (show (domL m (F m H) 4 mn).length = ln by rw [HMN.out, HLN.out])
      rw [HLX.out]
      have HWI := Lib.hid (HWG.out wr KB.out i)
      have HHI := Lib.hid (fun W hb => HHG.out W hb i)
      have HZI := Lib.hid (fun h => wt_out (m := m) (W := F m H) (i := i) h)
      go_upto_region 18 with fail
      go_cut [91] (fun v wx => v = .bool false ∧ Hid (Below w5.heap.size w5 wx))
      case first =>
        cases hq : isB i m.length with
        | true =>
          obtain ⟨a, rfl, ha⟩ := isB_of hq
          have t2 : decide ((a : Int) < 0) = false := decide_eq_false (by omega)
          have t3 : decide ((mn : Int) ≤ a) = false := decide_eq_false (by have := HMN.out; omega)
          have t4 : decide (mn ≤ a) = false := decide_eq_false (by have := HMN.out; omega)
          clear hq
          go_wp2_with fail
          go_meet
          exact ⟨rfl, KB⟩
        | false =>
          rw [HZI.out hq] at HWI HHI
          rcases isB_not hq with hx | hx
          · have t2 : decide (i < 0) = true := decide_eq_true hx
            clear hq
            go_wp2_with fail
            refine HWI.out.mono ?_
            rintro o wA ⟨rfl, hbA⟩
            have BA := Lib.hid (KB.out.trans (hbA.mono KB.out.size))
            clear hbA
            go_wp2_with fail
            refine (HHI.out _ BA.out).mono ?_
            rintro o wB ⟨rfl, hbB⟩
            have BB := Lib.hid (BA.out.trans (hbB.mono BA.out.size))
            clear hbB
            go_wp2_with fail
            go_meet
            exact ⟨rfl, BB⟩
          · have t2 : decide (i < 0) = false := decide_eq_false (by omega)
            have t3 : decide ((mn : Int) ≤ i) = true := decide_eq_true (by have := HMN.out; omega)
            clear hq
            go_wp2_with fail
            refine HWI.out.mono ?_
            rintro o wA ⟨rfl, hbA⟩
            have BA := Lib.hid (KB.out.trans (hbA.mono KB.out.size))
            clear hbA
            go_wp2_with fail
            refine (HHI.out _ BA.out).mono ?_
            rintro o wB ⟨rfl, hbB⟩
            have BB := Lib.hid (BA.out.trans (hbB.mono BA.out.size))
            clear hbB
            go_wp2_with fail
            go_meet
            exact ⟨rfl, BB⟩
      case rest =>
        obtain ⟨rfl, K9⟩ := hcut
        have x5 : ((ln : Int) == (ln : Int)) = true := by simp
        go_wp2_with fail
        refine (HAW.out _).mono ?_
        rintro o wA ⟨rfl, hbA⟩
        have BA := Lib.hid (K9.out.trans (hbA.mono K9.out.size))
        clear hbA
        go_wp2_with fail
        go_ret
        exact ⟨rfl, B5.out.trans (BA.out.mono B5.out.size)⟩
end Go.Proofs.Ytlihgiannfpjfaa.eliE
