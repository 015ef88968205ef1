/- Layer 37: the document's bucket; a step of both. -/
import Derived.Test.YticapkhpjdfhgaaRateB
namespace Go.Proofs.Yticapkhpjdfhgaa.rateC
open Go.ChangeShapes Go.WideShapes Go.ChangeAt Go.RowKit
open Go.Proofs.Yticapkhpjdfhgaa.base Go.Proofs.Yticapkhpjdfhgaa.rateA Go.Proofs.Yticapkhpjdfhgaa.rateB
set_option linter.unusedVariables false

def Pl (w : World) (p : Nat) (E M H N : Int) : Prop := Blk w p 44 #[.int .i64 E, .int .i64 M, .int .i64 H, .int .i64 N]
section
variable {w w' : World} {g : Nat} {E M H N : Int}
theorem Pl.c0 (h : Pl w g E M H N) : w.cell? ⟨g, 0, none⟩ = some (.int .i64 E) := Blk.cell h 0
theorem Pl.c1 (h : Pl w g E M H N) : w.cell? ⟨g, 1, none⟩ = some (.int .i64 M) := Blk.cell h 1
theorem Pl.c2 (h : Pl w g E M H N) : w.cell? ⟨g, 2, none⟩ = some (.int .i64 H) := Blk.cell h 2
theorem Pl.c3 (h : Pl w g E M H N) : w.cell? ⟨g, 3, none⟩ = some (.int .i64 N) := Blk.cell h 3
theorem Pl.fr (h : Pl w g E M H N) (i : Nat) : w.frozen? ⟨g, i, none⟩ = false := Blk.frozen h i
theorem Pl.lt (h : Pl w g E M H N) : g < w.heap.size := Blk.lt h
end
theorem grown_one {w a : World} {g : Nat} (h : Below w.heap.size w a) (i : Nat) (v : Value) : w.grownBy (a.setCell ⟨g, i, none⟩ v) (some g) := by
  refine ⟨h.os, h.tape, h.output, by simpa using h.size, fun k hk hne => ?_⟩
  exact (Below.heap_setCell _ ⟨g, i, none⟩ v k (fun e => hne (by rw [e]))).trans (h.block k hk)
theorem grown_none {w a : World} {g : Nat} (h : Below w.heap.size w a) : w.grownBy a (some g) := ⟨h.os, h.tape, h.output, h.size, fun k hk _ => h.block k hk⟩
def FillPost (w : World) (p : Nat) (E M H N d : Int) (e : Ending) (w' : World) : Prop := e = .returned (.tuple #[]) ∧ Pl w' p E M (fillZ E M H d) N ∧ w.grownBy w' (some p)
set_option maxHeartbeats 1000000 in
theorem fill_any (p : Nat) (E M H N d : Int) (w : World) (hp : Pl w p E M H N) (E0 : 0 ≤ E) (E1 : E ≤ 1099511627776) (M1 : M ≤ 1099511627776) (H0 : 0 ≤ H) (HM : H ≤ M) (d0 : 0 ≤ d) (d1 : d ≤ 1099511627776) :
    Calls Try.prog 57 #[.pointer (some ⟨p, 0, none⟩), .int .i64 d] w (FillPost w p E M H N d) := by
  have h0 := hp.c0
  have h1 := hp.c1
  have h2 := hp.c2
  have hf := hp.fr 2
  have HP := Lib.hid hp
  clear hp
  by_cases hE : E = 0
  · have t0 : (E == 0) = true := by simp [hE]
    have hv : fillZ E M H d = H := by rw [fillZ, hE, Int.zero_mul, if_neg (by omega)]; omega
    have HV := Lib.hid hv
    clear hv hE
    go_enter Try.func57, Try.ntmps57
    go_wp2
    exact bodyPost_ret (v := .tuple #[]) (by simp [results, Try.results57, go_sem]) rfl ⟨rfl, by rw [HV.out]; exact HP.out, grown_none (Below.refl _ _)⟩
  have t0 : (E == 0) = false := by simp [hE]
  by_cases hd : d = 0
  · have t1 : (d == 0) = true := by simp [hd]
    have hv : fillZ E M H d = H := by rw [fillZ, hd, Int.mul_zero, if_neg (by omega)]; omega
    have HV := Lib.hid hv
    clear hv hE hd
    go_enter Try.func57, Try.ntmps57
    go_wp2
    exact bodyPost_ret (v := .tuple #[]) (by simp [results, Try.results57, go_sem]) rfl ⟨rfl, by rw [HV.out]; exact HP.out, grown_none (Below.refl _ _)⟩
  have t1 : (d == 0) = false := by simp [hd]
  obtain ⟨R, hR⟩ : ∃ R, R = M - H := ⟨_, rfl⟩
  have e1 : IntKind.i64.wrap (M - H) = R := by rw [← hR]; exact IntWalk.i64_in _ (by omega)
  have R0 : 0 ≤ R := by omega
  have R1 : R ≤ 1099511627776 := by omega
  have hE0 : 0 < E := by omega
  have hkey : R / E < d ↔ R < E * d := by rw [Int.ediv_lt_iff_lt_mul hE0, Int.mul_comm]
  have hq0 : 0 ≤ R / E := Int.ediv_nonneg R0 (by omega)
  by_cases hbig : R / E < d
  · have hv : fillZ E M H d = M := by rw [fillZ, ← hR, if_pos (hkey.1 hbig)]
    have HV := Lib.hid hv
    have q : decide (R / E < d) = true := by simpa using hbig
    clear hv hE hd hkey hR
    go_enter Try.func57, Try.ntmps57
    go_wp2_with fail
    go_quiet (fail)
    clear e1
    go_wp2_with fail
    exact bodyPost_ret (v := .tuple #[]) (by simp [results, Try.results57, go_sem]) rfl ⟨rfl, by rw [HV.out]; exact Blk.set_ (Blk.drewN HP.out _) 2 (.int .i64 M), grown_one (below_drewN (Below.refl _ _) _) 2 _⟩
  · have hle : E * d ≤ R := by have := mt hkey.2 hbig; omega
    have hm0 : 0 ≤ E * d := Int.mul_nonneg (by omega) d0
    have hv : fillZ E M H d = H + E * d := by rw [fillZ, ← hR, if_neg (by omega)]
    have HV := Lib.hid hv
    have q : decide (R / E < d) = false := by simpa using hbig
    have hsum : H + E * d ≤ M := by omega
    rw [Int.mul_comm] at hle hm0 hsum
    have e2 : IntKind.i64.wrap (d * E) = d * E := IntWalk.i64_in _ (by omega)
    have e3 : IntKind.i64.wrap (H + d * E) = H + d * E := IntWalk.i64_in _ (by omega)
    clear hv hE hd hkey hR hbig
    go_enter Try.func57, Try.ntmps57
    go_wp2_with fail
    go_quiet (fail)
    clear e1
    go_wp2_with fail
    go_region
    all_goals
      go_wp2_with fail
      refine bodyPost_ret (v := .tuple #[]) (by simp [results, Try.results57, go_sem]) rfl ⟨rfl, ?_, ?_⟩
      · rw [HV.out, Int.mul_comm E d]
        exact Blk.set_ (Blk.drew (Blk.drewN HP.out _)) 2 (.int .i64 (H + d * E))
      · exact grown_one (bel_drew (below_drewN (Below.refl _ _) _)) 2 _
end Go.Proofs.Yticapkhpjdfhgaa.rateC
