/- Layer 16: which node is above which. -/
import Derived.Test.YtndlgdjkldnfiaaTreM
import Derived.Test.YtndlgdjkldnfiaaTreW
namespace Go.Proofs.Ytndlgdjkldnfiaa.treP
open Go.ChangeShapes Go.WideShapes Go.ChangeAt Go.RowKit
open Go.Proofs.Ytndlgdjkldnfiaa.base Go.Proofs.Ytndlgdjkldnfiaa.dfA Go.Proofs.Ytndlgdjkldnfiaa.treA Go.Proofs.Ytndlgdjkldnfiaa.treB Go.Proofs.Ytndlgdjkldnfiaa.treC Go.Proofs.Ytndlgdjkldnfiaa.treD Go.Proofs.Ytndlgdjkldnfiaa.treE Go.Proofs.Ytndlgdjkldnfiaa.treG Go.Proofs.Ytndlgdjkldnfiaa.treH Go.Proofs.Ytndlgdjkldnfiaa.treM Go.Proofs.Ytndlgdjkldnfiaa.treW
set_option linter.unusedVariables false

set_option maxHeartbeats 2000000 in
theorem len_x {t : Nat} {l : List Nd} {A : Option Addr} {c : Nat} {K : Option Addr} {kn kc : Nat} {w : World} (h : TreeAt w t l A c K kn kc) : Calls Try.prog 13 #[.pointer (some ⟨t, 0, none⟩)] w fun e w' => e = .returned (.int .i64 l.length) ∧ w' = w := by
  have d0 := h.nodes
  clear h
  go_enter Try.func13, Try.ntmps13
  go_wp2
  go_ret
  exact ⟨rfl, rfl⟩
set_option maxHeartbeats 2000000 in
theorem is_x {t : Nat} {l : List Nd} {A : Option Addr} {c : Nat} {K : Option Addr} {kn kc : Nat} {w : World} (h : TreeAt w t l A c K kn kc) (i : Int) : Calls Try.prog 29 #[.pointer (some ⟨t, 0, none⟩), .int .i64 i] w fun e w' => e = .returned (.bool (isB i l.length)) ∧ w' = w := by
  have HL := Lib.hid (len_x h)
  unfold isB
  clear h
  go_enter Try.func29, Try.ntmps29
  by_cases h0 : 0 ≤ i
  · rw [show decide (0 ≤ i) = true from decide_eq_true h0, Bool.true_and]
    go_wp2_with fail
    refine HL.out.mono ?_
    rintro e w' ⟨rfl, rfl⟩
    go_wp2_with fail
    go_ret
    exact ⟨rfl, rfl⟩
  · rw [show decide (0 ≤ i) = false from decide_eq_false h0, Bool.false_and]
    go_wp2_with fail
    go_ret
    exact ⟨rfl, rfl⟩
set_option maxHeartbeats 8000000 in
theorem up_x {t : Nat} {l : List Nd} {A : Option Addr} {c : Nat} {K : Option Addr} {kn kc : Nat} {w : World} (h : TreeAt w t l A c K kn kc) (hf : Fine l) (i kind : Int) :
    Calls Try.prog 21 #[.pointer (some ⟨t, 0, none⟩), .int .i64 i, .int .i64 kind] w fun o w' => o = .returned (.int .i64 (upF l kind i)) ∧ w' = w := by
  have HF := Lib.hid hf
  have HI := Lib.hid (fun i => is_x h i)
  have d0 := h.nodes
  have hcap := h.cap
  have hcap2 := h.cap2
  have HR := Lib.hid h.rd
  obtain ⟨n, hn⟩ : ∃ n, n = l.length := ⟨_, rfl⟩
  have HN := Lib.hid hn
  rw [← hn] at d0 hcap
  clear hf h hn
  go_enter Try.func21, Try.ntmps21
  go_wp2_with fail
  go_loopw [1] (fun i' wr => ∃ x : Int, i' = .int .i64 x ∧ Hid (upF l kind x = upF l kind i) ∧ wr = w) (fun i' _ => (intOf i' + 1).toNat)
  case atStart => exact ⟨i, rfl, Lib.hid rfl, rfl⟩
  case round =>
    obtain ⟨x, rfl, HX, rfl⟩ := hrel
    have HIx := Lib.hid (HI.out x)
    cases hq : isB x l.length with
    | false =>
      have HU := Lib.hid (upF_out (m := l) kind hq)
      rw [hq] at HIx
      clear hq
      go_wp2_with fail
      refine HIx.out.mono ?_
      rintro o w1 ⟨rfl, rfl⟩
      go_wp2_with fail
      go_ret
      exact ⟨by rw [← HX.out, HU.out]; rfl, rfl⟩
    | true =>
      rw [hq] at HIx
      obtain ⟨a, rfl, ha⟩ := isB_of hq
      obtain ⟨b, off, hA, hbl, hC⟩ := HR.out.at_ a ha
      subst hA
      have HA := Lib.hid (show upF l kind (a : Int) = upF l kind (l[a]).ab ∨ ((l[a]).kind == kind) = true from by
        cases hk : ((l[a]).kind == kind) with
        | true => exact .inr rfl
        | false => exact .inl (upF_step HF.out kind ha hk))
      have HH := Lib.hid (show ((l[a]).kind == kind) = true → upF l kind (a : Int) = (a : Int) from fun h => upF_here kind ha h)
      have HM := Lib.hid (show ((l[a]).ab + 1).toNat < ((a : Int) + 1).toNat from by
        by_cases hk : (l[a]).kind = 1
        · rw [HF.out.lev a ha hk]; omega
        · obtain ⟨b, hb, hab, hba, _⟩ := HF.out.sub a ha hk
          rw [hab]; omega)
      obtain ⟨e, he⟩ : ∃ e, e = l[a] := ⟨_, rfl⟩
      rw [← he] at hC HA HH HM
      rw [← HN.out] at ha
      have d1 : wr.cell? ⟨b, off + a * 7 + 1, none⟩ = some (.int .i64 e.kind) := hC 1 (by omega)
      have d2 : wr.cell? ⟨b, off + a * 7 + 2, none⟩ = some (.int .i64 e.ab) := hC 2 (by omega)
      have j0 : (0 : Int) ≤ a := by omega
      have j1 : (a : Int) < n := by omega
      clear hC he hq
      cases hk : (e.kind == kind) with
      | true =>
        have HU := Lib.hid (HH.out hk)
        go_wp2_with fail
        refine HIx.out.mono ?_
        rintro o w1 ⟨rfl, rfl⟩
        go_wp2_with fail
        go_ret
        exact ⟨by rw [← HX.out, HU.out]; rfl, rfl⟩
      | false =>
        have HU := Lib.hid (show upF l kind (a : Int) = upF l kind e.ab from by
          rcases HA.out with h | h
          · exact h
          · rw [hk] at h; cases h)
        go_wp2_with fail
        refine HIx.out.mono ?_
        rintro o w1 ⟨rfl, rfl⟩
        go_wp2_with fail
        go_roundw
        case rel => exact ⟨e.ab, rfl, Lib.hid (HU.out.symm.trans HX.out), trivial⟩
        case measure => exact HM.out
set_option maxHeartbeats 8000000 in
theorem lup_x {l : List Nd} {A : Option Addr} {c : Nat} {w : World} (hr : RdN w A l) (hcap : l.length ≤ c) (hcap2 : c ≤ 9223372036854775807) (hf : Fine l) (i kind : Int) :
    Calls Try.prog 25 #[.slice A l.length c, .int .i64 i, .int .i64 kind] w fun o w' => o = .returned (.int .i64 (upF l kind i)) ∧ w' = w := by
  have HF := Lib.hid hf
  have HR := Lib.hid hr
  obtain ⟨n, hn⟩ : ∃ n, n = l.length := ⟨_, rfl⟩
  have HN := Lib.hid hn
  rw [← hn] at hcap ⊢
  clear hf hr hn
  go_enter Try.func25, Try.ntmps25
  go_wp2_with fail
  go_loopw [1, 7] (fun i' k' wr => ∃ (x : Int) (k : Nat), i' = .int .i64 x ∧ k' = .int .i64 k ∧ k ≤ 4 ∧ Hid (upW l kind (4 - k) x = upF l kind i) ∧ wr = w) (fun _ k' _ => 4 - (intOf k').toNat)
  case atStart => exact ⟨i, 0, rfl, rfl, by omega, Lib.hid rfl, rfl⟩
  case round =>
    obtain ⟨x, k, rfl, rfl, hk4, HX, rfl⟩ := hrel
    by_cases hk : k < 4
    · have t1 : decide ((k : Int) < 4) = true := decide_eq_true (by omega)
      cases hq : isB x l.length with
      | false =>
        have HU := Lib.hid (upW_out (m := l) (kind := kind) hq (4 - k))
        rcases isB_not hq with hx0 | hx0
        · have t2 : decide (0 ≤ x) = false := decide_eq_false (by omega)
          clear hq
          go_wp2_with fail
          go_ret
          exact ⟨by rw [← HX.out, HU.out]; rfl, rfl⟩
        · have t2 : decide (0 ≤ x) = true := decide_eq_true (by omega)
          have t3 : decide (x < (n : Int)) = false := decide_eq_false (by have := HN.out; omega)
          clear hq
          go_wp2_with fail
          go_ret
          exact ⟨by rw [← HX.out, HU.out]; rfl, rfl⟩
      | true =>
        obtain ⟨a, rfl, ha⟩ := isB_of hq
        obtain ⟨b, off, hA, hbl, hC⟩ := HR.out.at_ a ha
        subst hA
        have HA := Lib.hid (show upW l kind (4 - k) (a : Int) = if ((l[a]).kind == kind) = true then (a : Int) else upW l kind (4 - (k + 1)) (l[a]).ab from by
          rw [show 4 - k = (4 - (k + 1)) + 1 by omega]
          show (if isB (a : Int) l.length = true then (if ((ndAt l (a : Int)).kind == kind) = true then (a : Int) else upW l kind (4 - (k + 1)) (ndAt l (a : Int)).ab) else -1) = _
          rw [isB_nat ha, if_pos rfl, ndAt_nat ha])
        obtain ⟨e, he⟩ : ∃ e, e = l[a] := ⟨_, rfl⟩
        rw [← he] at hC HA
        rw [← HN.out] at ha
        have d1 : wr.cell? ⟨b, off + a * 7 + 1, none⟩ = some (.int .i64 e.kind) := hC 1 (by omega)
        have d2 : wr.cell? ⟨b, off + a * 7 + 2, none⟩ = some (.int .i64 e.ab) := hC 2 (by omega)
        have j0 : (0 : Int) ≤ a := by omega
        have j1 : (a : Int) < n := by omega
        have t2 : decide ((0 : Int) ≤ a) = true := decide_eq_true j0
        have t3 : decide ((a : Int) < n) = true := decide_eq_true j1
        clear hC he hq
        cases hkd : (e.kind == kind) with
        | true =>
          rw [hkd, if_pos rfl] at HA
          go_wp2_with fail
          go_ret
          exact ⟨by rw [← HX.out, HA.out]; rfl, rfl⟩
        | false =>
          rw [hkd, if_neg (by decide)] at HA
          go_wp2_with fail
          go_roundw
          case rel => exact ⟨e.ab, k + 1, rfl, by go_num, by omega, Lib.hid (HA.out.symm.trans HX.out), trivial⟩
          case measure => simp [intOf]; omega
    · have t1 : decide ((k : Int) < 4) = false := decide_eq_false (by omega)
      have HU := Lib.hid (show upF l kind i = -1 from by rw [← HX.out, show 4 - k = 0 by omega]; rfl)
      go_wp2_with fail
      go_ret
      exact ⟨by rw [HU.out]; rfl, rfl⟩
set_option maxHeartbeats 4000000 in
theorem level_x {T : Nat} {m : List Nd} {w : World} (h : TreeOk w T m) (i : Int) : Calls Try.prog 22 #[.pointer (some ⟨T, 0, none⟩), .int .i64 i] w fun o w' => o = .returned (.int .i64 (levW m (upF m 1 i) m.length)) ∧ Below w.heap.size w w' := by
  have HT := Lib.hid h
  have HF := Lib.hid (fine_of h.good)
  obtain ⟨A, c, K, kc, ht⟩ := h.at_
  have HL := Lib.hid (levels_any ht (by have := h.len; omega))
  have HLV := Lib.hid (levW_is m (upF m 1 i) m.length (Nat.le_refl _))
  have hlen := ofK_len m 1 m.length
  have hml := h.len
  clear h ht
  rw [HLV.out]
  go_enter Try.func22, Try.ntmps22
  go_wp2_with fail
  refine HL.out.mono ?_
  rintro o w1 ⟨v, rfl, ho, hb⟩
  have B1 := Lib.hid hb
  obtain ⟨A1, c1, K1, kc1, ht1⟩ := (HT.out.below hb).at_
  have HU := Lib.hid (up_x ht1 HF.out i 1)
  have HO := Lib.hid ho
  clear hb ht1 ho
  go_wp2_with fail
  refine HU.out.mono ?_
  rintro o w2 ⟨rfl, rfl⟩
  have h0 := HO.out
  unfold OwnI at h0
  rcases h0.2 with ⟨e1, e2⟩ | ⟨g, cap, cur, e1, e2, e3, e4, e5, e6, e7⟩
  · have hz : ofK m 1 m.length = [] := List.eq_nil_of_length_eq_zero e2
    subst e1
    have HZ := Lib.hid hz
    have HX := Lib.hid (fun (a : Option Addr) (c : Nat) (x : Int) W => Go.Proofs.Try.slices_Index_int_empty a c x W)
    clear h0 e2 hz hlen
    go_wp2_with fail
    refine (HX.out _ _ _ _).mono ?_
    rintro o w3 ⟨rfl, rfl⟩
    go_wp2_with fail
    go_ret
    exact ⟨by rw [HZ.out]; rfl, B1.out⟩
  · subst e1
    have HX := Lib.hid (Go.Proofs.Try.slices_Index_int g 0 (ofK m 1 m.length).length cap (ofK m 1 m.length) (upF m 1 i) w2 (Nat.le_refl _) (by omega) (fun j hj => by
      rw [Nat.zero_add, h0.cellAt j (by simpa using hj), List.getElem?_map, List.getElem?_eq_getElem hj, List.getD_eq_getElem?_getD, List.getElem?_eq_getElem hj]
      rfl))
    rw [List.take_of_length_le (Nat.le_refl _)] at HX
    clear h0 e2 e3 e6 e7 hlen
    go_wp2_with fail
    refine HX.out.mono ?_
    rintro o w3 ⟨rfl, rfl⟩
    go_wp2_with fail
    go_ret
    exact ⟨rfl, B1.out⟩
end Go.Proofs.Ytndlgdjkldnfiaa.treP
