/- Layer 37: when so many may go by; the example; scripts. -/
import Derived.Test.YticapkhpjdfhgaaRateD
namespace Go.Proofs.Yticapkhpjdfhgaa.rateE
open Go.ChangeShapes Go.WideShapes Go.ChangeAt Go.RowKit
open Go.Proofs.Yticapkhpjdfhgaa.base Go.Proofs.Yticapkhpjdfhgaa.rateA Go.Proofs.Yticapkhpjdfhgaa.rateB Go.Proofs.Yticapkhpjdfhgaa.rateC Go.Proofs.Yticapkhpjdfhgaa.rateD
set_option linter.unusedVariables false

def waitZ (E M H N n : Int) : Int := if n < 0 then -1 else if n ≤ H then N else if M < n ∨ E < 1 then -1 else if 1099511627776 - N < (n - H + E - 1) / E then -1 else N + (n - H + E - 1) / E
theorem wait_any (g : Nat) (E M H N n : Int) (w : World) (hb : Bk w g E M H N) (E0 : 0 ≤ E) (E1 : E ≤ 1099511627776) (M1 : M ≤ 1099511627776) (hi : inv M (H, N)) :
    Calls Try.prog 31 #[.pointer (some ⟨g, 0, none⟩), .int .i64 n] w fun e w' => e = .returned (.int .i64 (waitZ E M H N n)) ∧ Below w.heap.size w w' := by
  obtain ⟨H0, HM, N0, N1⟩ := hi
  simp only at H0 HM N0 N1
  have h0 := hb.c0
  have h1 := hb.c1
  have h2 := hb.c2
  have h3 := hb.c3
  have h4 := Lib.hid hb.c4
  clear hb
  by_cases a1 : n < 0
  · have hv : waitZ E M H N n = -1 := by simp [waitZ, a1]
    rw [hv]; clear hv
    go_enter Try.func31, Try.ntmps31
    go_wp2_with (go_at_call 58; refine (ok_any _ _ h4.out).mono ?_; rintro e w' ⟨rfl, rfl⟩)
    go_ret
    exact ⟨rfl, Below.refl _ _⟩
  by_cases a2 : n ≤ H
  · have hv : waitZ E M H N n = N := by simp [waitZ, a1, a2]
    rw [hv]; clear hv
    go_enter Try.func31, Try.ntmps31
    go_wp2_with (go_at_call 58; refine (ok_any _ _ h4.out).mono ?_; rintro e w' ⟨rfl, rfl⟩)
    go_ret
    exact ⟨rfl, Below.refl _ _⟩
  by_cases a3 : M < n
  · have hv : waitZ E M H N n = -1 := by simp [waitZ, a1, a2, a3]
    rw [hv]; clear hv
    go_enter Try.func31, Try.ntmps31
    go_wp2_with (go_at_call 58; refine (ok_any _ _ h4.out).mono ?_; rintro e w' ⟨rfl, rfl⟩)
    go_ret
    exact ⟨rfl, Below.refl _ _⟩
  by_cases a4 : E < 1
  · have hv : waitZ E M H N n = -1 := by simp [waitZ, a1, a2, a4]
    rw [hv]; clear hv
    go_enter Try.func31, Try.ntmps31
    go_wp2_with (go_at_call 58; refine (ok_any _ _ h4.out).mono ?_; rintro e w' ⟨rfl, rfl⟩)
    go_ret
    exact ⟨rfl, Below.refl _ _⟩
  have e1 : IntKind.i64.wrap (n - H) = n - H := IntWalk.i64_in _ (by omega)
  have e2 : IntKind.i64.wrap (n - H + E) = n - H + E := IntWalk.i64_in _ (by omega)
  have e3 : IntKind.i64.wrap (n - H + E - 1) = n - H + E - 1 := IntWalk.i64_in _ (by omega)
  have hq0 : 0 ≤ (n - H + E - 1) / E := Int.ediv_nonneg (by omega) (by omega)
  have hq1 : (n - H + E - 1) / E ≤ n - H + E - 1 := Int.ediv_le_self _ (by omega)
  have hq2 : (n - H + E - 1) / E ≤ 2199023255552 := by omega
  have hnn : 0 ≤ n - H + E - 1 := by omega
  have e4 : (n - H + E - 1).tdiv E = (n - H + E - 1) / E := Int.tdiv_eq_ediv_of_nonneg hnn
  by_cases a5 : 1099511627776 - N < (n - H + E - 1) / E
  · have hv : waitZ E M H N n = -1 := by simp only [waitZ]; rw [if_neg a1, if_neg a2, if_neg (by omega), if_pos a5]
    rw [hv]; clear hv hq1
    go_enter Try.func31, Try.ntmps31
    go_wp2_with (go_at_call 58; refine (ok_any _ _ h4.out).mono ?_; rintro e w' ⟨rfl, rfl⟩)
    go_quiet (fail)
    go_wp2_with fail
    go_ret
    exact ⟨rfl, below_drewN (Below.refl _ _) _⟩
  · have hv : waitZ E M H N n = N + (n - H + E - 1) / E := by simp only [waitZ]; rw [if_neg a1, if_neg a2, if_neg (by omega), if_neg a5]
    have HV := Lib.hid hv
    clear hv hq1
    go_enter Try.func31, Try.ntmps31
    go_wp2_with (go_at_call 58; refine (ok_any _ _ h4.out).mono ?_; rintro e w' ⟨rfl, rfl⟩)
    go_quiet (fail)
    go_wp2_with fail
    go_ret
    exact ⟨by rw [HV.out]; rfl, below_drewN (Below.refl _ _) _⟩

theorem awake_any (w : World) :
    Calls Try.prog 27 #[] w fun e w' => e = .returned (.bool true) ∧ Below w.heap.size w w' := by
  have hn := Lib.hid (fun w => new_yes 2 5 w (by decide))
  have v1 : fillZ 2 5 0 2 = 4 := by decide
  have v2 : waitZ 2 5 4 2 5 = 3 := by decide
  have V1 := Lib.hid v1
  have V2 := Lib.hid v2
  clear v1 v2
  go_enter Try.func27, Try.ntmps27
  go_wp2_with fail
  refine (hn.out _).mono ?_
  rintro e w1 ⟨g, rfl, hg, hb, hbel⟩
  have HB := Lib.hid hb
  have HL := Lib.hid hbel
  clear hb hbel
  go_wp2_with fail
  refine (take_yes g 2 5 5 0 5 _ HB.out (by omega) (by omega) (by omega)).mono ?_
  rintro e w' ⟨rfl, rfl⟩
  have hb2 := Bk.take HB.out (5 - 5)
  have hbel2 := bel_set HL.out (p := ⟨g, 2, none⟩) hg (.int .i64 (5 - 5))
  rw [show (5 : Int) - 5 = 0 by decide] at hb2 hbel2 ⊢
  have HB2 := Lib.hid hb2
  have HL2 := Lib.hid hbel2
  clear hb2 hbel2
  generalize w1.setCell ⟨g, 2, none⟩ (.int .i64 0) = w2 at *
  go_wp2_with fail
  refine (go_ok g 2 5 0 0 2 _ HB2.out (by omega) (by omega) (by omega) (by omega) (by omega) (by omega) (by omega) (by omega)).mono ?_
  rintro e w3 ⟨rfl, hb3, hg3⟩
  rw [show (2 : Int) - 0 = 2 by decide, V1.out] at hb3
  have hbel3 := below_pt HL2.out hg3 (by have := HL2.out.size; simpa using this) hg
  have HB3 := Lib.hid hb3
  have HL3 := Lib.hid hbel3
  clear hb3 hbel3 hg3
  go_wp2_with fail
  refine (have_any g 2 5 4 2 _ HB3.out).mono ?_
  rintro e w' ⟨rfl, rfl⟩
  go_wp2_with fail
  refine (wait_any g 2 5 4 2 5 _ HB3.out (by omega) (by omega) (by omega) ⟨by decide, by decide, by decide, by decide⟩).mono ?_
  rintro e w4 ⟨rfl, hb4⟩
  rw [V2.out]
  have HL4 := Lib.hid hb4
  clear hb4
  go_wp2_with fail
  go_ret
  exact ⟨rfl, bel_call HL3.out HL4.out⟩

/-- A slice of pairs of whole numbers. -/
def RowP (w : World) (B : Nat) (A : Option Addr) (xs : List (Int × Int)) : Prop :=
  xs = [] ∨ ∃ b off, A = some ⟨b, off, none⟩ ∧ b < B ∧ ∀ i, i < xs.length → w.cell? ⟨b, off + i * 2, none⟩ = some (.int .i64 (xs.getD i (0, 0)).1) ∧ w.cell? ⟨b, off + i * 2 + 1, none⟩ = some (.int .i64 (xs.getD i (0, 0)).2)
theorem RowP.below {w w' : World} {B : Nat} {A : Option Addr} {xs : List (Int × Int)} (h : RowP w B A xs) (hb : Below B w w') : RowP w' B A xs := by
  rcases h with h | ⟨b, off, rfl, hlt, hc⟩
  · exact .inl h
  · exact .inr ⟨b, off, rfl, hlt, fun i hi => ⟨(hb.cell (p := ⟨b, off + i * 2, none⟩) hlt).trans (hc i hi).1, (hb.cell (p := ⟨b, off + i * 2 + 1, none⟩) hlt).trans (hc i hi).2⟩⟩
theorem RowP.more {w : World} {B B' : Nat} {A : Option Addr} {xs : List (Int × Int)} (h : RowP w B A xs) (hB : B ≤ B') : RowP w B' A xs := by
  rcases h with h | ⟨b, off, rfl, hlt, hc⟩
  · exact .inl h
  · exact .inr ⟨b, off, rfl, by omega, hc⟩
theorem RowP.at_ {w : World} {B : Nat} {A : Option Addr} {xs : List (Int × Int)} (h : RowP w B A xs) (hne : 0 < xs.length) : ∃ b off, A = some ⟨b, off, none⟩ ∧ b < B ∧ ∀ i, i < xs.length → w.cell? ⟨b, off + i * 2, none⟩ = some (.int .i64 (xs.getD i (0, 0)).1) ∧ w.cell? ⟨b, off + i * 2 + 1, none⟩ = some (.int .i64 (xs.getD i (0, 0)).2) := by
  rcases h with h | h
  · rw [h] at hne; simp at hne
  · exact h
/-- Numbers of 64 bits. -/
def ok64 (xs : List (Int × Int)) : Prop := ∀ i, i < xs.length → -9223372036854775808 ≤ (xs.getD i (0, 0)).2 ∧ (xs.getD i (0, 0)).2 < 9223372036854775808
end Go.Proofs.Yticapkhpjdfhgaa.rateE
