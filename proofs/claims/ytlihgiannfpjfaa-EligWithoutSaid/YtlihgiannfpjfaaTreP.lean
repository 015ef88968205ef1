/- Layer 16: which node is above which. -/
import Derived.Test.YtlihgiannfpjfaaTreM
import Derived.Test.YtlihgiannfpjfaaTreW
namespace Go.Proofs.Ytlihgiannfpjfaa.treP
open Go.ChangeShapes Go.WideShapes Go.ChangeAt Go.RowKit
open Go.Proofs.Ytlihgiannfpjfaa.base Go.Proofs.Ytlihgiannfpjfaa.dfA Go.Proofs.Ytlihgiannfpjfaa.treA Go.Proofs.Ytlihgiannfpjfaa.treB Go.Proofs.Ytlihgiannfpjfaa.treC Go.Proofs.Ytlihgiannfpjfaa.treD Go.Proofs.Ytlihgiannfpjfaa.treE Go.Proofs.Ytlihgiannfpjfaa.treG Go.Proofs.Ytlihgiannfpjfaa.treH Go.Proofs.Ytlihgiannfpjfaa.treM Go.Proofs.Ytlihgiannfpjfaa.treW
set_option linter.unusedVariables false

set_option maxHeartbeats 2000000 in
theorem len_x {t : Nat} {l : List Nd} {A : Option Addr} {c : Nat} {K : Option Addr} {kn kc : Nat} {w : World} (h : TreeAt w t l A c K kn kc) : Calls Try.prog 24 #[.pointer (some ⟨t, 0, none⟩)] w fun e w' => e = .returned (.int .i64 l.length) ∧ w' = w := by
  have d0 := h.nodes
  clear h
  go_enter Try.func24, Try.ntmps24
  go_wp2
  go_ret
  exact ⟨rfl, rfl⟩
set_option maxHeartbeats 2000000 in
theorem is_x {t : Nat} {l : List Nd} {A : Option Addr} {c : Nat} {K : Option Addr} {kn kc : Nat} {w : World} (h : TreeAt w t l A c K kn kc) (i : Int) : Calls Try.prog 39 #[.pointer (some ⟨t, 0, none⟩), .int .i64 i] w fun e w' => e = .returned (.bool (isB i l.length)) ∧ w' = w := by
  have HL := Lib.hid (len_x h)
  unfold isB
  clear h
  go_enter Try.func39, Try.ntmps39
  by_cases h0 : 0 ≤ i
  · rw [show decide (0 ≤ i) = true from decide_eq_true h0, Bool.true_and]
    go_wp2_with fail
    refine HL.out.mono ?_
    rintro e w' ⟨rfl, rfl⟩
    go_wp2_with fail
    go_ret
    exact ⟨rfl, rfl⟩
  · rw [show decide (0 ≤ i) = false from decide_eq_false h0, Bool.false_and]
    go_wp2_with fail
    go_ret
    exact ⟨rfl, rfl⟩
set_option maxHeartbeats 8000000 in
theorem up_x {t : Nat} {l : List Nd} {A : Option Addr} {c : Nat} {K : Option Addr} {kn kc : Nat} {w : World} (h : TreeAt w t l A c K kn kc) (hf : Fine l) (i kind : Int) :
    Calls Try.prog 30 #[.pointer (some ⟨t, 0, none⟩), .int .i64 i, .int .i64 kind] w fun o w' => o = .returned (.int .i64 (upF l kind i)) ∧ w' = w := by
  have HF := Lib.hid hf
  have HI := Lib.hid (fun i => is_x h i)
  have d0 := h.nodes
  have hcap := h.cap
  have hcap2 := h.cap2
  have HR := Lib.hid h.rd
  obtain ⟨n, hn⟩ : ∃ n, n = l.length := ⟨_, rfl⟩
  have HN := Lib.hid hn
  rw [← hn] at d0 hcap
  clear hf h hn
  go_enter Try.func30, Try.ntmps30
  go_wp2_with fail
  go_loopw [1] (fun i' wr => ∃ x : Int, i' = .int .i64 x ∧ Hid (upF l kind x = upF l kind i) ∧ wr = w) (fun i' _ => (intOf i' + 1).toNat)
  case atStart => exact ⟨i, rfl, Lib.hid rfl, rfl⟩
  case round =>
    obtain ⟨x, rfl, HX, rfl⟩ := hrel
    have HIx := Lib.hid (HI.out x)
    cases hq : isB x l.length with
    | false =>
      have HU := Lib.hid (upF_out (m := l) kind hq)
      rw [hq] at HIx
      clear hq
      go_wp2_with fail
      refine HIx.out.mono ?_
      rintro o w1 ⟨rfl, rfl⟩
      go_wp2_with fail
      go_ret
      exact ⟨by rw [← HX.out, HU.out]; rfl, rfl⟩
    | true =>
      rw [hq] at HIx
      obtain ⟨a, rfl, ha⟩ := isB_of hq
      obtain ⟨b, off, hA, hbl, hC⟩ := HR.out.at_ a ha
      subst hA
      have HA := Lib.hid (show upF l kind (a : Int) = upF l kind (l[a]).ab ∨ ((l[a]).kind == kind) = true from by
        cases hk : ((l[a]).kind == kind) with
        | true => exact .inr rfl
        | false => exact .inl (upF_step HF.out kind ha hk))
      have HH := Lib.hid (show ((l[a]).kind == kind) = true → upF l kind (a : Int) = (a : Int) from fun h => upF_here kind ha h)
      have HM := Lib.hid (show ((l[a]).ab + 1).toNat < ((a : Int) + 1).toNat from by
        by_cases hk : (l[a]).kind = 1
        · rw [HF.out.lev a ha hk]; omega
        · obtain ⟨b, hb, hab, hba, _⟩ := HF.out.sub a ha hk
          rw [hab]; omega)
      obtain ⟨e, he⟩ : ∃ e, e = l[a] := ⟨_, rfl⟩
      rw [← he] at hC HA HH HM
      rw [← HN.out] at ha
      have d1 : wr.cell? ⟨b, off + a * 7 + 1, none⟩ = some (.int .i64 e.kind) := hC 1 (by omega)
      have d2 : wr.cell? ⟨b, off + a * 7 + 2, none⟩ = some (.int .i64 e.ab) := hC 2 (by omega)
      have j0 : (0 : Int) ≤ a := by omega
      have j1 : (a : Int) < n := by omega
      clear hC he hq
      cases hk : (e.kind == kind) with
      | true =>
        have HU := Lib.hid (HH.out hk)
        go_wp2_with fail
        refine HIx.out.mono ?_
        rintro o w1 ⟨rfl, rfl⟩
        go_wp2_with fail
        go_ret
        exact ⟨by rw [← HX.out, HU.out]; rfl, rfl⟩
      | false =>
        have HU := Lib.hid (show upF l kind (a : Int) = upF l kind e.ab from by
          rcases HA.out with h | h
          · exact h
          · rw [hk] at h; cases h)
        go_wp2_with fail
        refine HIx.out.mono ?_
        rintro o w1 ⟨rfl, rfl⟩
        go_wp2_with fail
        go_roundw
        case rel => exact ⟨e.ab, rfl, Lib.hid (HU.out.symm.trans HX.out), trivial⟩
        case measure => exact HM.out
end Go.Proofs.Ytlihgiannfpjfaa.treP
