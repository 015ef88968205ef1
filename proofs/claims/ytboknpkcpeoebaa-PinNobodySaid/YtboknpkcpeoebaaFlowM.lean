/- Layer 27: whether two flows are the same. -/
import Derived.Test.YtboknpkcpeoebaaFlowL
namespace Go.Proofs.Ytboknpkcpeoebaa.flowM
open Go.ChangeShapes Go.WideShapes Go.ChangeAt Go.RowKit
open Go.Proofs.Ytboknpkcpeoebaa.base Go.Proofs.Ytboknpkcpeoebaa.flowA Go.Proofs.Ytboknpkcpeoebaa.flowB Go.Proofs.Ytboknpkcpeoebaa.flowC Go.Proofs.Ytboknpkcpeoebaa.flowD Go.Proofs.Ytboknpkcpeoebaa.flowE Go.Proofs.Ytboknpkcpeoebaa.flowF Go.Proofs.Ytboknpkcpeoebaa.flowG Go.Proofs.Ytboknpkcpeoebaa.flowH
set_option linter.unusedVariables false

/-- Are two flows the same, are two entries? -/
def sameT (x y : Tup) : Bool := decide (x.pr = y.pr ∧ x.s6 = y.s6 ∧ x.sh = y.sh ∧ x.sl = y.sl ∧ x.d6 = y.d6 ∧ x.dh = y.dh ∧ x.dl = y.dl ∧ x.sp = y.sp ∧ x.dp = y.dp)
theorem sameT_iff (x y : Tup) : sameT x y = true ↔ x = y := by
  obtain ⟨a1, a2, a3, a4, a5, a6, a7, a8, a9⟩ := x
  obtain ⟨b1, b2, b3, b4, b5, b6, b7, b8, b9⟩ := y
  unfold sameT
  rw [decide_eq_true_iff, Tup.mk.injEq]
theorem sameT_no {x y : Tup} (h : x ≠ y) : sameT x y = false := by
  cases e : sameT x y with
  | false => rfl
  | true => exact absurd ((sameT_iff x y).mp e) h
theorem sameT_yes (x : Tup) : sameT x x = true := (sameT_iff x x).mpr rfl
def sameE (x y : Ent) : Bool := decide (x.x.pr = y.x.pr ∧ x.x.s6 = y.x.s6 ∧ x.x.sh = y.x.sh ∧ x.x.sl = y.x.sl ∧ x.x.d6 = y.x.d6 ∧ x.x.dh = y.x.dh ∧ x.x.dl = y.x.dl ∧ x.x.sp = y.x.sp ∧ x.x.dp = y.x.dp ∧ x.host = y.host ∧ x.state = y.state ∧ x.till = y.till)
theorem sameE_iff (x y : Ent) : sameE x y = true ↔ x = y := by
  obtain ⟨⟨a1, a2, a3, a4, a5, a6, a7, a8, a9⟩, a10, a11, a12⟩ := x
  obtain ⟨⟨b1, b2, b3, b4, b5, b6, b7, b8, b9⟩, b10, b11, b12⟩ := y
  unfold sameE
  rw [decide_eq_true_iff, Ent.mk.injEq, Tup.mk.injEq]
  dsimp only
  constructor
  · rintro ⟨h1, h2, h3, h4, h5, h6, h7, h8, h9, h10, h11, h12⟩
    exact ⟨⟨h1, h2, h3, h4, h5, h6, h7, h8, h9⟩, h10, h11, h12⟩
  · rintro ⟨⟨h1, h2, h3, h4, h5, h6, h7, h8, h9⟩, h10, h11, h12⟩
    exact ⟨h1, h2, h3, h4, h5, h6, h7, h8, h9, h10, h11, h12⟩
theorem sameE_no {x y : Ent} (h : x ≠ y) : sameE x y = false := by
  cases e : sameE x y with
  | false => rfl
  | true => exact absurd ((sameE_iff x y).mp e) h
theorem sameE_yes (x : Ent) : sameE x x = true := (sameE_iff x x).mpr rfl
theorem tup_eq (x y : Tup) (W : World) : (binOp .eql 26 (.agg x.cells) (.agg y.cells)).run Try.prog W = .ok (.bool (sameT x y)) W := by
  obtain ⟨pr1, s61, sh1, sl1, d61, dh1, dl1, sp1, dp1⟩ := x
  obtain ⟨pr2, s62, sh2, sl2, d62, dh2, dl2, sp2, dp2⟩ := y
  unfold Tup.cells sameT
  dsimp only
  go_simp
  by_cases h_pr : pr1 = pr2
  case neg => simp [h_pr]
  by_cases h_s6 : s61 = s62
  case neg => simp [h_s6]
  by_cases h_sh : sh1 = sh2
  case neg => simp [h_sh]
  by_cases h_sl : sl1 = sl2
  case neg => simp [h_sl]
  by_cases h_d6 : d61 = d62
  case neg => simp [h_d6]
  by_cases h_dh : dh1 = dh2
  case neg => simp [h_dh]
  by_cases h_dl : dl1 = dl2
  case neg => simp [h_dl]
  by_cases h_sp : sp1 = sp2
  case neg => simp [h_sp]
  by_cases h_dp : dp1 = dp2
  case neg => simp [h_dp]
  simp [h_pr, h_s6, h_sh, h_sl, h_d6, h_dh, h_dl, h_sp, h_dp]
theorem tup_ne (x y : Tup) (W : World) : (binOp .neq 26 (.agg x.cells) (.agg y.cells)).run Try.prog W = .ok (.bool (!sameT x y)) W := by
  obtain ⟨pr1, s61, sh1, sl1, d61, dh1, dl1, sp1, dp1⟩ := x
  obtain ⟨pr2, s62, sh2, sl2, d62, dh2, dl2, sp2, dp2⟩ := y
  unfold Tup.cells sameT
  dsimp only
  go_simp
  by_cases h_pr : pr1 = pr2
  case neg => simp [h_pr]
  by_cases h_s6 : s61 = s62
  case neg => simp [h_s6]
  by_cases h_sh : sh1 = sh2
  case neg => simp [h_sh]
  by_cases h_sl : sl1 = sl2
  case neg => simp [h_sl]
  by_cases h_d6 : d61 = d62
  case neg => simp [h_d6]
  by_cases h_dh : dh1 = dh2
  case neg => simp [h_dh]
  by_cases h_dl : dl1 = dl2
  case neg => simp [h_dl]
  by_cases h_sp : sp1 = sp2
  case neg => simp [h_sp]
  by_cases h_dp : dp1 = dp2
  case neg => simp [h_dp]
  simp [h_pr, h_s6, h_sh, h_sl, h_d6, h_dh, h_dl, h_sp, h_dp]
theorem ent_eq (x y : Ent) (W : World) : (binOp .eql 28 (.agg x.cells) (.agg y.cells)).run Try.prog W = .ok (.bool (sameE x y)) W := by
  obtain ⟨⟨pr1, s61, sh1, sl1, d61, dh1, dl1, sp1, dp1⟩, host1, state1, till1⟩ := x
  obtain ⟨⟨pr2, s62, sh2, sl2, d62, dh2, dl2, sp2, dp2⟩, host2, state2, till2⟩ := y
  unfold Ent.cells sameE
  dsimp only
  go_simp
  by_cases h_pr : pr1 = pr2
  case neg => simp [h_pr]
  by_cases h_s6 : s61 = s62
  case neg => simp [h_s6]
  by_cases h_sh : sh1 = sh2
  case neg => simp [h_sh]
  by_cases h_sl : sl1 = sl2
  case neg => simp [h_sl]
  by_cases h_d6 : d61 = d62
  case neg => simp [h_d6]
  by_cases h_dh : dh1 = dh2
  case neg => simp [h_dh]
  by_cases h_dl : dl1 = dl2
  case neg => simp [h_dl]
  by_cases h_sp : sp1 = sp2
  case neg => simp [h_sp]
  by_cases h_dp : dp1 = dp2
  case neg => simp [h_dp]
  by_cases h_host : host1 = host2
  case neg => simp [h_host]
  by_cases h_state : state1 = state2
  case neg => simp [h_state]
  by_cases h_till : till1 = till2
  case neg => simp [h_till]
  simp [h_pr, h_s6, h_sh, h_sl, h_d6, h_dh, h_dl, h_sp, h_dp, h_host, h_state, h_till]
theorem ent_ne (x y : Ent) (W : World) : (binOp .neq 28 (.agg x.cells) (.agg y.cells)).run Try.prog W = .ok (.bool (!sameE x y)) W := by
  obtain ⟨⟨pr1, s61, sh1, sl1, d61, dh1, dl1, sp1, dp1⟩, host1, state1, till1⟩ := x
  obtain ⟨⟨pr2, s62, sh2, sl2, d62, dh2, dl2, sp2, dp2⟩, host2, state2, till2⟩ := y
  unfold Ent.cells sameE
  dsimp only
  go_simp
  by_cases h_pr : pr1 = pr2
  case neg => simp [h_pr]
  by_cases h_s6 : s61 = s62
  case neg => simp [h_s6]
  by_cases h_sh : sh1 = sh2
  case neg => simp [h_sh]
  by_cases h_sl : sl1 = sl2
  case neg => simp [h_sl]
  by_cases h_d6 : d61 = d62
  case neg => simp [h_d6]
  by_cases h_dh : dh1 = dh2
  case neg => simp [h_dh]
  by_cases h_dl : dl1 = dl2
  case neg => simp [h_dl]
  by_cases h_sp : sp1 = sp2
  case neg => simp [h_sp]
  by_cases h_dp : dp1 = dp2
  case neg => simp [h_dp]
  by_cases h_host : host1 = host2
  case neg => simp [h_host]
  by_cases h_state : state1 = state2
  case neg => simp [h_state]
  by_cases h_till : till1 = till2
  case neg => simp [h_till]
  simp [h_pr, h_s6, h_sh, h_sl, h_d6, h_dh, h_dl, h_sp, h_dp, h_host, h_state, h_till]
end Go.Proofs.Ytboknpkcpeoebaa.flowM
