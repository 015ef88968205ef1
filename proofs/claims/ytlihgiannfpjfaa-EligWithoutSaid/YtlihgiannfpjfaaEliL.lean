/- Layer 23: the law of EligWithout. -/
import Derived.Test.YtlihgiannfpjfaaEliE
import Derived.Test.YtlihgiannfpjfaaEliK
import Derived.Deep.QuietTactic
import Derived.BigQuiet
namespace Go.Proofs.Ytlihgiannfpjfaa.eliL
open Go.ChangeShapes Go.WideShapes Go.ChangeAt Go.RowKit
open Go.Proofs.Ytlihgiannfpjfaa.base Go.Proofs.Ytlihgiannfpjfaa.dfA Go.Proofs.Ytlihgiannfpjfaa.treA Go.Proofs.Ytlihgiannfpjfaa.treB Go.Proofs.Ytlihgiannfpjfaa.treC Go.Proofs.Ytlihgiannfpjfaa.treD Go.Proofs.Ytlihgiannfpjfaa.treE Go.Proofs.Ytlihgiannfpjfaa.treG Go.Proofs.Ytlihgiannfpjfaa.treH Go.Proofs.Ytlihgiannfpjfaa.treI Go.Proofs.Ytlihgiannfpjfaa.treM Go.Proofs.Ytlihgiannfpjfaa.treN Go.Proofs.Ytlihgiannfpjfaa.treW Go.Proofs.Ytlihgiannfpjfaa.treP Go.Proofs.Ytlihgiannfpjfaa.eliW Go.Proofs.Ytlihgiannfpjfaa.eliA Go.Proofs.Ytlihgiannfpjfaa.eliB Go.Proofs.Ytlihgiannfpjfaa.eliC Go.Proofs.Ytlihgiannfpjfaa.eliD Go.Proofs.Ytlihgiannfpjfaa.eliE Go.Proofs.Ytlihgiannfpjfaa.eliJ Go.Proofs.Ytlihgiannfpjfaa.eliK
set_option linter.unusedVariables false

theorem domL_mem {m : List Nd} {W : Nat → Int} {kind x : Int} : ∀ {n : Nat}, x ∈ domL m W kind n ↔ ∃ j : Nat, x = (j : Int) ∧ j < n ∧ ((ndAt m j).kind == kind && (wtOf m W j != 0)) = true := by
  intro n
  induction n with
  | zero => constructor
            · intro h; cases h
            · rintro ⟨j, _, h, _⟩; omega
  | succ n ih =>
    show x ∈ (if ((ndAt m n).kind == kind && (wtOf m W n != 0)) = true then domL m W kind n ++ [(n : Int)] else domL m W kind n) ↔ _
    by_cases hc : ((ndAt m n).kind == kind && (wtOf m W n != 0)) = true
    · rw [if_pos hc, List.mem_append, ih, List.mem_singleton]
      constructor
      · rintro (⟨j, h1, h2, h3⟩ | h)
        · exact ⟨j, h1, by omega, h3⟩
        · exact ⟨n, h, by omega, hc⟩
      · rintro ⟨j, h1, h2, h3⟩
        by_cases e : j = n
        · subst e; exact .inr h1
        · exact .inl ⟨j, h1, by omega, h3⟩
    · rw [if_neg hc, ih]
      constructor
      · rintro ⟨j, h1, h2, h3⟩; exact ⟨j, h1, by omega, h3⟩
      · rintro ⟨j, h1, h2, h3⟩
        by_cases e : j = n
        · subst e; exact absurd h3 hc
        · exact ⟨j, h1, by omega, h3⟩
/-- The hosts of the set without are those that stay. -/
theorem dom_out {m : List Nd} (hf : Fine m) (H N : List Int) : ∀ j, j ≤ m.length → domL m (F m (wout m (F m H) N)) 4 j = (domL m (F m H) 4 j).filter fun x => !(N.any (askB m x)) := by
  intro j
  induction j with
  | zero => intro _; rfl
  | succ j ih =>
    intro hj
    have hjm : j < m.length := by omega
    show (if ((ndAt m j).kind == 4 && (wtOf m (F m (wout m (F m H) N)) j != 0)) = true then domL m (F m (wout m (F m H) N)) 4 j ++ [(j : Int)] else domL m (F m (wout m (F m H) N)) 4 j) = (if ((ndAt m j).kind == 4 && (wtOf m (F m H) j != 0)) = true then domL m (F m H) 4 j ++ [(j : Int)] else domL m (F m H) 4 j).filter _
    rw [wt_in hjm, wt_in hjm, F_pk hf _ hjm, F_pk hf _ hjm, ih (by omega)]
    have key : pkB m (wout m (F m H) N) j = (pkB m H j && !(N.any (askB m (j : Int)))) := by
      cases hp : pkB m H j with
      | false =>
        rw [Bool.false_and]
        cases hq : pkB m (wout m (F m H) N) j with
        | false => rfl
        | true =>
          have h1 := (pkB_parts hq).2.2
          rw [List.contains_iff_mem] at h1
          unfold wout at h1
          rw [List.mem_filter, domL_mem] at h1
          obtain ⟨⟨i, e, hi, hc⟩, _⟩ := h1
          have : i = j := by omega
          subst this
          rw [wt_in hi, F_pk hf _ hi, hp] at hc
          cases hc
      | true =>
        rw [Bool.true_and]
        obtain ⟨h4, hw, _⟩ := pkB_parts hp
        have hk4 : ((ndAt m j).kind == 4) = true := by simp [h4]
        have hwz : ((ndAt m j).wt == 0) = false := beq_false_of_ne hw
        unfold pkB
        rw [hk4, hwz]
        have hmem : (j : Int) ∈ domL m (F m H) 4 m.length := domL_mem.mpr ⟨j, rfl, hjm, by rw [wt_in hjm, F_pk hf _ hjm]; exact hp⟩
        cases hn : N.any (askB m (j : Int)) with
        | false =>
          have : (wout m (F m H) N).contains (j : Int) = true := by
            rw [List.contains_iff_mem]; unfold wout
            exact List.mem_filter.mpr ⟨hmem, by rw [hn]; rfl⟩
          rw [this]; rfl
        | true =>
          have : (wout m (F m H) N).contains (j : Int) = false := by
            cases hc : (wout m (F m H) N).contains (j : Int) with
            | false => rfl
            | true =>
              rw [List.contains_iff_mem] at hc
              unfold wout at hc
              have := (List.mem_filter.mp hc).2
              rw [hn] at this
              cases this
          rw [this]; rfl
    rw [key]
    cases pkB m H j with
    | false => rw [Bool.false_and, if_neg (by decide), if_neg (by decide)]
    | true =>
      rw [Bool.true_and, if_pos rfl, List.filter_append]
      cases hn : N.any (askB m (j : Int)) with
      | false => rw [if_pos (by decide)]; simp [hn]
      | true => rw [if_neg (by decide)]; simp [hn]
theorem ask_is {m : List Nd} (hf : Fine m) {x : Nat} (hx : x < m.length) (node : Int) : askB m (x : Int) node = (isB node m.length && belU m x node.toNat) := by
  unfold askB
  cases hb : isB node m.length with
  | true =>
    obtain ⟨a, rfl, ha⟩ := isB_of hb
    rw [decide_eq_true (by omega), Int.toNat_natCast]
    rfl
  | false =>
    rw [Bool.false_and]
    by_cases h0 : 0 ≤ node
    · rw [decide_eq_true h0, Bool.true_and, ndAt_none hb]
      have hz : zNd.kind = 0 := rfl
      rw [hz]
      apply beq_false_of_ne
      intro he
      obtain ⟨a, rfl⟩ : ∃ a : Nat, node = (a : Int) := ⟨node.toNat, by omega⟩
      obtain ⟨h1, h2⟩ := up_kind hf 0 (x + 1) x a (by omega) hx he
      rw [isB_nat h1] at hb
      cases hb
    · rw [decide_eq_false h0, Bool.false_and]
theorem stay_pre (p : Int → Bool) (l : List Int) : ∀ n k, k ≤ n → n ≤ l.length → ∃ r, stay p l n = stay p l k ++ r := by
  intro n
  induction n with
  | zero => intro k hk _; have : k = 0 := by omega
            subst this; exact ⟨[], by simp⟩
  | succ n ih =>
    intro k hk hn
    by_cases e : k = n + 1
    · subst e; exact ⟨[], by simp⟩
    · obtain ⟨r, hr⟩ := ih k (by omega) (by omega)
      rw [stay_next (show n < l.length by omega), hr, List.append_assoc]
      exact ⟨_, rfl⟩
theorem stay_hit {p : Int → Bool} {l : List Int} {k : Nat} (hk : k < l.length) (h : p l[k] = false) : (stay p l k).length < (stay p l l.length).length ∧ (stay p l l.length)[(stay p l k).length]? = some l[k] := by
  obtain ⟨r, hr⟩ := stay_pre p l l.length (k + 1) (by omega) (Nat.le_refl _)
  rw [hr, stay_next hk, h, if_neg (by decide)]
  constructor
  · rw [List.length_append, List.length_append, List.length_singleton]; omega
  · rw [List.getElem?_append_left (by rw [List.length_append, List.length_singleton]; omega), List.getElem?_append_right (Nat.le_refl _), Nat.sub_self]; rfl
theorem any_next (p : Int → Bool) {N : List Int} {k : Nat} (hk : k < N.length) : (N.take (k + 1)).any p = ((N.take k).any p || p N[k]) := by
  rw [List.take_succ_eq_append_getElem hk, List.any_append]
  simp
set_option maxRecDepth 100000 in
set_option maxHeartbeats 32000000 in
theorem without_law (A : Option Addr) (n c : Nat) (l : List Nd) (AH : Option Addr) (nh ch : Nat) (H : List Int) (AN : Option Addr) (nN cN : Nat) (N : List Int) (w : World) (hr : RdN w A l) (hl : l.length ≤ 60) (hcap : l.length ≤ c) (hcap2 : c ≤ 9223372036854775807) (hnm : ∀ j (hj : j < l.length), (l[j]).nm.size ≤ 9223372036854775807)
    (hfew : ∀ W', Calls Try.prog 21 #[.slice A n c] W' fun o w' => o = .returned (.slice A l.length c) ∧ Below W'.heap.size W' w')
    (hh : RdI w AH H) (hH : H.length ≤ 30) (hhc : H.length ≤ ch) (hhc2 : ch ≤ 9223372036854775807) (hfh : ∀ W', Calls Try.prog 8 #[.slice AH nh ch] W' fun o w' => o = .returned (.slice AH H.length ch) ∧ w' = W')
    (hn : RdI w AN N) (hN : N.length ≤ 30) (hnc : N.length ≤ cN) (hnc2 : cN ≤ 9223372036854775807) (hfn : ∀ W', Calls Try.prog 8 #[.slice AN nN cN] W' fun o w' => o = .returned (.slice AN N.length cN) ∧ w' = W') :
    Calls Try.prog 5 #[.slice A n c, .slice AH nh ch, .slice AN nN cN] w fun o w' => o = .returned (.bool true) ∧ Below w.heap.size w w' := by
  have HMD := Lib.hid (made_any A n c l w hr hl hcap hcap2 hnm hfew)
  have HI := Lib.hid hh
  have HJ := Lib.hid hn
  have HAW := Lib.hid (fun W => awake_any W)
  obtain ⟨hl2, hhl⟩ : ∃ hl2, hl2 = H.length := ⟨_, rfl⟩
  have HHL := Lib.hid hhl
  have HFH := Lib.hid (show ∀ W', Calls Try.prog 8 #[.slice AH nh ch] W' fun o w' => o = .returned (.slice AH hl2 ch) ∧ w' = W' from by rw [hhl]; exact hfh)
  rw [← hhl] at hhc
  obtain ⟨nl, hnl⟩ : ∃ nl, nl = N.length := ⟨_, rfl⟩
  have HNL := Lib.hid hnl
  have HFN := Lib.hid (show ∀ W', Calls Try.prog 8 #[.slice AN nN cN] W' fun o w' => o = .returned (.slice AN nl cN) ∧ w' = W' from by rw [hnl]; exact hfn)
  rw [← hnl] at hnc
  clear hr hl hcap hcap2 hnm hfew hh hfh hhl hn hfn hnl
  go_enter Try.func5, Try.ntmps5
  go_wp2_with fail
  refine HMD.out.mono ?_
  rintro o w1 ⟨T, m, A1, c1, rfl, hT, hrd, hm60, hmc, hmc2, hb1⟩
  have B1 := Lib.hid hb1
  have HT1 := Lib.hid hT
  have HR1 := Lib.hid hrd
  have HF := Lib.hid (fine_of hT.good)
  have HV := Lib.hid (heavy_of hT.good)
  have I1 := Lib.hid (show RdI w1 AH H from HI.out.below hb1)
  have J1 := Lib.hid (show RdI w1 AN N from HJ.out.below hb1)
  have HNEW := Lib.hid (eliA.new_any hT hm60 AH ch H I1.out (by omega) (by rw [← HHL.out]; exact hhc) hhc2)
  rw [← HHL.out] at HNEW
  clear hT hrd hb1
  go_wp2_with fail
  refine (HFH.out _).mono ?_
  rintro o w2 ⟨rfl, rfl⟩
  go_wp2_with fail
  refine (HFN.out _).mono ?_
  rintro o w3 ⟨rfl, rfl⟩
  go_wp2_with fail
  refine HNEW.out.mono ?_
  rintro o w4 ⟨rfl, hs4, hz4⟩
  have BN := Lib.hid hs4.bel
  have B4 := Lib.hid (B1.out.trans (hs4.bel.mono B1.out.size))
  have S4 := Lib.hid (setOk_of hs4 HT1.out)
  have HWO := Lib.hid (without_any S4.out hm60 AN cN N (J1.out.below BN.out) hN (by rw [← HNL.out]; exact hnc) hnc2)
  rw [← HNL.out] at HWO
  clear hs4 hz4
  go_wp2_with fail
  refine HWO.out.mono ?_
  rintro o w5 ⟨g2, rfl, hx5, hb5⟩
  have B5 := Lib.hid (B4.out.trans (hb5.mono B4.out.size))
  have BN5 := Lib.hid (BN.out.trans (hb5.mono BN.out.size))
  have X5 := Lib.hid hx5
  have S5 := Lib.hid (S4.out.below hb5)
  have HL1 := Lib.hid (list_any hx5)
  clear hx5 hb5
  go_wp2_with fail
  refine HL1.out.mono ?_
  rintro o w6 ⟨v1, rfl, ho1, hb6⟩
  have B6 := Lib.hid (B5.out.trans (hb6.mono B5.out.size))
  have BN6 := Lib.hid (BN5.out.trans (hb6.mono BN5.out.size))
  have X6 := Lib.hid (X5.out.below hb6)
  have HL2 := Lib.hid (list_any (S5.out.below hb6))
  have HDO := Lib.hid (dom_out HF.out H N m.length (Nat.le_refl _))
  obtain ⟨AL, cL, rfl, a1, a2, hRL⟩ := read_own ho1
  clear ho1 hb6
  go_wp2_with fail
  refine HL2.out.mono ?_
  rintro o w7 ⟨v2, rfl, ho2, hb7⟩
  have B7 := Lib.hid (B6.out.trans (hb7.mono B6.out.size))
  have BN7 := Lib.hid (BN6.out.trans (hb7.mono BN6.out.size))
  have X7 := Lib.hid (X6.out.below hb7)
  have HRL := Lib.hid (hRL.below hb7)
  obtain ⟨AW, cW, rfl, e1, e2, hRW⟩ := read_own ho2
  have HRW := Lib.hid hRW
  obtain ⟨was, hwas⟩ : ∃ was, was = domL m (F m H) 4 m.length := ⟨_, rfl⟩
  have HWAS := Lib.hid (show ∀ x, x ∈ was → ∃ j : Nat, x = (j : Int) ∧ j < m.length from fun x hx => by
    rw [hwas] at hx
    obtain ⟨j, h1, h2, _⟩ := domL_mem.mp hx
    exact ⟨j, h1, h2⟩)
  have hw60 : was.length ≤ 60 := by rw [hwas]; exact Nat.le_trans (domL_len _ _ _ _) hm60
  have HLS := Lib.hid (show domL m (F m (wout m (F m H) N)) 4 m.length = stay (fun x => N.any (askB m x)) was was.length from by
    rw [HDO.out, ← hwas]; unfold stay; rw [List.take_length])
  have HWO2 := Lib.hid (show wout m (F m H) N = stay (fun x => N.any (askB m x)) was was.length from by unfold wout stay; rw [← hwas, List.take_length])
  rw [HLS.out] at a1 HRL ⊢
  rw [← hwas] at e1 HRW ⊢
  clear ho2 hb7 hRL hRW hwas
  obtain ⟨LL, hLL⟩ : ∃ LL, LL = stay (fun x => N.any (askB m x)) was was.length := ⟨_, rfl⟩
  have HLL := Lib.hid hLL
  rw [← hLL] at a1 HRL ⊢
  obtain ⟨ln, hln⟩ : ∃ ln, ln = LL.length := ⟨_, rfl⟩
  have HLN := Lib.hid hln
  have hln60 : ln ≤ 60 := by rw [hln, hLL]; exact Nat.le_trans (stay_len _ _ _) hw60
  rw [← hln] at a1 ⊢
  obtain ⟨wn, hwn⟩ : ∃ wn, wn = was.length := ⟨_, rfl⟩
  have HWN := Lib.hid hwn
  rw [← hwn] at e1 hw60 ⊢
  obtain ⟨mn, hmn⟩ : ∃ mn, mn = m.length := ⟨_, rfl⟩
  have HMN := Lib.hid hmn
  have HR7 := Lib.hid (HR1.out.below BN7.out)
  have J7 := Lib.hid (J1.out.below BN7.out)
  have HBL := Lib.hid (show ∀ W', Below w7.heap.size w7 W' → ∀ x, x < m.length → ∀ a, a < m.length → Calls Try.prog 19 #[.slice A1 m.length c1, .int .i64 (x : Int), .int .i64 (a : Int)] W' fun o w' => o = .returned (.bool (belU m x a)) ∧ w' = W' from fun W' hb x hx a ha => below_x (HR7.out.below hb) hmc hmc2 HF.out hx ha)
  have HWG := Lib.hid (fun (W' : World) (hb : Below w7.heap.size w7 W') => weights_any (HR7.out.below hb) hm60 hmc hmc2 HF.out HV.out AL cL LL (HRL.out.below hb) (by have := HLN.out; omega))
  rw [← HLN.out] at HWG
  rw [← hmn] at hmc hm60 HBL HWG ⊢
  clear hln hLL hwn hmn
  go_wp2_with fail
  go_loopw [13, 14] (fun nv iv wr => ∃ i : Nat, iv = .int .i64 i ∧ i ≤ wn ∧ nv = .int .i64 (stay (fun x => N.any (askB m x)) was i).length ∧ Hid (Below w7.heap.size w7 wr)) (fun _ iv _ => wn - (intOf iv).toNat)
  case atStart => exact ⟨0, rfl, by omega, rfl, Lib.hid (Below.refl _ _)⟩
  case round =>
    obtain ⟨i, rfl, hi, rfl, KB⟩ := hrel
    by_cases hin : i < wn
    · have t1 : decide ((i : Int) < wn) = true := decide_eq_true (by omega)
      have hil : i < was.length := HWN.out ▸ hin
      have HNX := Lib.hid (stay_next (p := fun x => N.any (askB m x)) hil)
      have HHIT := Lib.hid (fun h => stay_hit (p := fun x => N.any (askB m x)) hil h)
      obtain ⟨xn, hxe, hxm⟩ := HWAS.out _ (List.getElem_mem hil)
      have HCX := Lib.hid (show ∀ W', Below w7.heap.size w7 W' → ∃ b o, AW = some ⟨b, o, none⟩ ∧ W'.cell? ⟨b, o + i, none⟩ = some (.int .i64 (xn : Int)) from fun W' hb => by
        obtain ⟨b, o, h1, _, h2⟩ := (HRW.out.below hb).at_ i hil
        exact ⟨b, o, h1, by rw [h2, hxe]⟩)
      obtain ⟨bw, ow, hAW, _⟩ := HCX.out _ KB.out
      subst hAW
      rw [hxe] at HNX HHIT
      have HASK := Lib.hid (ask_is HF.out hxm)
      obtain ⟨q, hq⟩ : ∃ q, q = (stay (fun x => N.any (askB m x)) was i).length := ⟨_, rfl⟩
      have HQ := Lib.hid hq
      have hq60 : q ≤ i := by rw [hq]; exact stay_len _ _ _
      rw [← hq] at HHIT ⊢
      have j0 : (0 : Int) ≤ i := by omega
      have j1 : (i : Int) < wn := by omega
      clear hxe hq
      go_wp2_with fail
      go_loopw [15, 16] (fun ov kv wr => ∃ k : Nat, kv = .int .i64 k ∧ k ≤ nl ∧ ov = .bool ((N.take k).any (askB m (xn : Int))) ∧ Hid (Below w7.heap.size w7 wr)) (fun _ kv _ => nl - (intOf kv).toNat)
      case atStart => exact ⟨0, rfl, by omega, rfl, KB⟩
      case round =>
        obtain ⟨k, rfl, hk, rfl, KB2⟩ := hrel
        by_cases hkn : k < nl
        · have t2 : decide ((k : Int) < nl) = true := decide_eq_true (by omega)
          have hkl : k < N.length := HNL.out ▸ hkn
          obtain ⟨bn, on, hAN, _, cn⟩ := (J7.out.below KB2.out).at_ k hkl
          subst hAN
          obtain ⟨b', o', hA', cx⟩ := HCX.out _ KB2.out
          injection hA' with hA'
          injection hA' with hb' ho'
          subst hb' ho'
          have HAN := Lib.hid (any_next (askB m (xn : Int)) hkl)
          rw [HASK.out] at HAN
          obtain ⟨node, hnode⟩ : ∃ node, node = N[k] := ⟨_, rfl⟩
          rw [← hnode] at cn HAN
          obtain ⟨ob, hob⟩ : ∃ ob, ob = (N.take k).any (askB m (xn : Int)) := ⟨_, rfl⟩
          rw [← hob] at HAN ⊢
          have j2 : (0 : Int) ≤ k := by omega
          have j3 : (k : Int) < nl := by omega
          clear hnode hob
          cases ob with
          | true =>
            go_wp2_with fail
            go_quiet (fail)
            go_wp2_with fail
            go_roundw
            case rel => first | exact ⟨k + 1, by go_num, by omega, by rw [HAN.out]; rfl, Lib.hid (KB2.out.trans ((below_n wr _).mono KB2.out.size))⟩ | ((repeat apply Exists.intro); exact ⟨⟨k + 1, by go_num, by omega, by rw [HAN.out]; rfl, Lib.hid (KB2.out.trans ((below_n wr _).mono KB2.out.size))⟩, rfl⟩)
            case measure => simp [intOf] <;> omega
          | false =>
            cases hq2 : isB node m.length with
            | false =>
              have HQ2 := Lib.hid hq2
              rcases isB_not hq2 with hx0 | hx0
              · have t3 : decide (0 ≤ node) = false := decide_eq_false (by omega)
                clear hq2
                go_wp2_with fail
                go_quiet (fail)
                go_wp2_with fail
                go_roundw
                case rel => first | exact ⟨k + 1, by go_num, by omega, by rw [HAN.out, HQ2.out]; rfl, Lib.hid (KB2.out.trans ((below_n wr _).mono KB2.out.size))⟩ | ((repeat apply Exists.intro); exact ⟨⟨k + 1, by go_num, by omega, by rw [HAN.out, HQ2.out]; rfl, Lib.hid (KB2.out.trans ((below_n wr _).mono KB2.out.size))⟩, rfl⟩)
                case measure => simp [intOf] <;> omega
              · have t3 : decide (0 ≤ node) = true := decide_eq_true (by omega)
                have t4 : decide (node < (mn : Int)) = false := decide_eq_false (by have := HMN.out; omega)
                clear hq2
                go_wp2_with fail
                go_quiet (fail)
                go_wp2_with fail
                go_roundw
                case rel => first | exact ⟨k + 1, by go_num, by omega, by rw [HAN.out, HQ2.out]; rfl, Lib.hid (KB2.out.trans ((below_n wr _).mono KB2.out.size))⟩ | ((repeat apply Exists.intro); exact ⟨⟨k + 1, by go_num, by omega, by rw [HAN.out, HQ2.out]; rfl, Lib.hid (KB2.out.trans ((below_n wr _).mono KB2.out.size))⟩, rfl⟩)
                case measure => simp [intOf] <;> omega
            | true =>
              have HQ2 := Lib.hid hq2
              obtain ⟨a, rfl, ha⟩ := isB_of hq2
              have t3 : decide ((0 : Int) ≤ a) = true := decide_eq_true (by omega)
              have t4 : decide ((a : Int) < (mn : Int)) = true := decide_eq_true (by have := HMN.out; omega)
              have t5 : decide (a < mn) = true := decide_eq_true (by have := HMN.out; omega)
              have HBK := Lib.hid (fun kq => HBL.out (wr.drewN kq) (KB2.out.trans ((below_n wr kq).mono KB2.out.size)) xn (by first | exact hxm | (have := HMN.out; omega)) a (by first | exact ha | (have := HMN.out; omega)))
              clear hq2
              go_wp2_with fail
              go_quiet ((go_at_call 19; exact Calls.quiet_of_same (HBK.out _)))
              go_wp2_with fail
              go_roundw
              case rel => first | exact ⟨k + 1, by go_num, by omega, by rw [HAN.out, HQ2.out, Int.toNat_natCast]; rfl, Lib.hid (KB2.out.trans ((below_n wr _).mono KB2.out.size))⟩ | ((repeat apply Exists.intro); exact ⟨⟨k + 1, by go_num, by omega, by rw [HAN.out, HQ2.out, Int.toNat_natCast]; rfl, Lib.hid (KB2.out.trans ((below_n wr _).mono KB2.out.size))⟩, rfl⟩)
              case measure => simp [intOf] <;> omega
        · have t2 : decide ((k : Int) < nl) = false := decide_eq_false (by omega)
          obtain rfl : nl = k := by omega
          have HTA := Lib.hid (show (N.take nl).any (askB m (xn : Int)) = N.any (askB m (xn : Int)) by rw [HNL.out, List.take_length])
          rw [HTA.out]
          obtain ⟨z, hz⟩ : ∃ z, z = N.any (askB m (xn : Int)) := ⟨_, rfl⟩
          rw [← hz] at HNX HHIT ⊢
          clear hz
          cases z with
          | true =>
            rw [if_pos rfl, List.append_nil] at HNX
            go_wp2_with fail
            go_roundw
            case rel => first | exact ⟨i + 1, by go_num, by omega, by rw [HNX.out, ← HQ.out], KB2⟩ | ((repeat apply Exists.intro); exact ⟨⟨i + 1, by go_num, by omega, by rw [HNX.out, ← HQ.out], KB2⟩, rfl⟩)
            case measure => simp [intOf]; omega
          | false =>
            rw [if_neg (by decide)] at HNX
            obtain ⟨hq1, hq2⟩ := HHIT.out rfl
            rw [← HLL.out] at hq1 hq2
            obtain ⟨bL, oL, hAL, _, cL9⟩ := (HRL.out.below KB2.out).at_ q hq1
            subst hAL
            have hLk : LL[q] = (xn : Int) := by
              rw [List.getElem?_eq_getElem hq1] at hq2
              injection hq2
            rw [hLk] at cL9
            obtain ⟨b', o', hA', cx⟩ := HCX.out _ KB2.out
            injection hA' with hA'
            injection hA' with hb' ho'
            subst hb' ho'
            have hq3 : q < ln := by rw [HLN.out]; exact hq1
            have t3 : decide ((ln : Int) ≤ q) = false := decide_eq_false (by omega)
            have t4 : decide (ln ≤ q) = false := decide_eq_false (by omega)
            have x3 : ((xn : Int) != (xn : Int)) = false := by simp
            have j2 : (0 : Int) ≤ q := by omega
            have j3 : (q : Int) < ln := by omega
            have HLL2 := Lib.hid (show ((stay (fun x => N.any (askB m x)) was (i + 1)).length : Int) = (q : Int) + 1 by rw [HNX.out, List.length_append, List.length_singleton, ← HQ.out]; omega)
            clear hq1 hq2 hLk
            go_wp2_with fail
            go_quiet (fail)
            go_wp2_with fail
            go_roundw
            case rel => first | exact ⟨i + 1, by go_num, by omega, by rw [HLL2.out], Lib.hid (KB2.out.trans ((below_n wr _).mono KB2.out.size))⟩ | ((repeat apply Exists.intro); exact ⟨⟨i + 1, by go_num, by omega, by rw [HLL2.out], Lib.hid (KB2.out.trans ((below_n wr _).mono KB2.out.size))⟩, rfl⟩)
            case measure => simp [intOf]; omega
    · have t1 : decide ((i : Int) < wn) = false := decide_eq_false (by omega)
      obtain rfl : wn = i := by omega
      obtain ⟨wz, hwz⟩ : ∃ wz, wz = wr := ⟨_, rfl⟩
      subst hwz
      have HLX := Lib.hid (show (stay (fun x => N.any (askB m x)) was wn).length = ln by rw [HLN.out, HLL.out, HWN.out])
      rw [HLX.out]
      have HWW := Lib.hid (HWG.out _ KB.out)
      go_wp2_with fail
      refine HWW.out.mono ?_
      rintro o w8 ⟨rfl, ⟨cs, hk1, hk2⟩, hb8⟩
      have KW := Lib.hid hk1
      have KA := Lib.hid hk2
      have B8 := Lib.hid (KB.out.trans (hb8.mono KB.out.size))
      have HLW := Lib.hid (show LL = wout m (F m H) N by rw [HLL.out, HWO2.out])
      have HWT := Lib.hid (show ∀ W', Below w8.heap.size w8 W' → ∀ k, k < mn → Calls Try.prog 12 #[.pointer (some ⟨g2 + 1, 0, none⟩), .int .i64 (k : Int)] W' fun o w' => o = .returned (.int .u64 (F m LL k)) ∧ Below W'.heap.size W' w' from fun W' hb k hk => by
        have h1 := weight_x ((X7.out.below B8.out).below hb) (k : Int)
        rw [wt_in (by rw [← HMN.out]; exact hk), ← HLW.out] at h1
        exact h1.mono (by rintro o w' ⟨rfl, q, rfl⟩; exact ⟨rfl, below_n W' q⟩))
      have HCW := Lib.hid (show ∀ W', Below w8.heap.size w8 W' → ∀ k, k < mn → W'.cell? ⟨wz.heap.size, k, none⟩ = some (.int .u64 (F m LL k)) from fun W' hb k hk => by
        have h1 := KW.out.below hb KW.out.lt
        rw [h1.cell k]
        exact KA.out.2 k (by first | exact hk | (rw [← HMN.out]; exact hk)))
      clear hk1 hk2 hb8
      go_wp2_with fail
      go_loopw [18] (fun kv wx => ∃ k : Nat, kv = .int .i64 k ∧ k ≤ mn ∧ Hid (Below w8.heap.size w8 wx)) (fun kv _ => mn - (intOf kv).toNat)
      case atStart => exact ⟨0, rfl, by omega, Lib.hid (Below.refl _ _)⟩
      case round =>
        obtain ⟨k, rfl, hk, KB9⟩ := hrel
        by_cases hkn : k < mn
        · have t2 : decide ((k : Int) < mn) = true := decide_eq_true (by omega)
          have HWK := Lib.hid (fun W' hb => HWT.out W' hb k hkn)
          have HCK := Lib.hid (fun W' hb => HCW.out W' hb k hkn)
          obtain ⟨f, hf⟩ : ∃ f, f = F m LL k := ⟨_, rfl⟩
          rw [← hf] at HWK HCK
          have x1 : (f != f) = false := by simp
          have j0 : (0 : Int) ≤ k := by omega
          have j1 : (k : Int) < mn := by omega
          have BD := Lib.hid (KB9.out.drew)
          have s0 := HCK.out _ BD.out
          clear hf
          go_wp2_with fail
          go_region_held3 (fun w' => w'.cell? ⟨wz.heap.size, k, none⟩ = some (.int .u64 f)) (first | with_reducible assumption)
            (first
              | (go_at_call 12
                 (with_reducible refine (HWK.out _ BD.out).mono ?_)
                 rintro o wA ⟨rfl, hbA⟩
                 have BA := Lib.hid (BD.out.trans (hbA.mono BD.out.size))
                 have sA := HCK.out _ BA.out
                 clear hbA))
          go_wp2_with fail
          go_roundw
          case rel => exact ⟨k + 1, by go_num, by omega, BA⟩
          case measure => simp [intOf]; omega
        · have t2 : decide ((k : Int) < mn) = false := decide_eq_false (by omega)
          have x5 : ((ln : Int) == (ln : Int)) = true := by simp
          go_wp2_with fail
          refine (HAW.out _).mono ?_
          rintro o wA ⟨rfl, hbA⟩
          have BA := Lib.hid ((B8.out.trans (KB9.out.mono B8.out.size)).trans (hbA.mono (B8.out.trans (KB9.out.mono B8.out.size)).size))
          clear hbA
          go_wp2_with fail
          go_ret
          exact ⟨rfl, B7.out.trans (BA.out.mono B7.out.size)⟩
end Go.Proofs.Ytlihgiannfpjfaa.eliL
