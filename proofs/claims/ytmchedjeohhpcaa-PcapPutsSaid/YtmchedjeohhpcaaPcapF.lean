/- Layer 36: what a record may not be. -/
import Derived.Test.YtmchedjeohhpcaaPcapE
namespace Go.Proofs.Ytmchedjeohhpcaa.pcapF
open Go.ChangeShapes Go.WideShapes Go.ChangeAt Go.RowKit
open Go.Proofs.Ytmchedjeohhpcaa.base Go.Proofs.Ytmchedjeohhpcaa.pcapA Go.Proofs.Ytmchedjeohhpcaa.pcapB Go.Proofs.Ytmchedjeohhpcaa.pcapC Go.Proofs.Ytmchedjeohhpcaa.pcapD Go.Proofs.Ytmchedjeohhpcaa.pcapE
set_option linter.unusedVariables false

/-- Whether a record cannot be: its millionths, and how long it is. -/
def badB (snap micro size n : Nat) : Bool := decide (1000000 ≤ micro) || decide (snap < n) || decide (size < n) || decide (65536 < n)
set_option maxHeartbeats 4000000 in
set_option maxRecDepth 100000 in
theorem bad_any (bf : Nat) (big : Bool) (snap link : Int) (sn sec micro size n c : Nat) (A : Option Addr) (w : World) (hf : w.cell? ⟨bf, 1, none⟩ = some (.int .u32 (sn : Int))) (h1 : sn < 4294967296) (h2 : micro < 4294967296) (h3 : size < 4294967296) (hn : n ≤ 1000000000) :
    Calls Try.prog 18 #[.agg #[.int .u32 (sec : Int), .int .u32 (micro : Int), .int .u32 (size : Int), .slice A n c], .pointer (some ⟨bf, 0, none⟩)] w fun o w' => o = .returned (.bool (badB sn micro size n)) ∧ Below w.heap.size w w' := by
  have BA := Lib.hid (show Below w.heap.size w (w.alloc (.cells #[.int .u32 (sec : Int), .int .u32 (micro : Int), .int .u32 (size : Int), .slice A n c] 38)) from (Below.refl w.heap.size w).alloc (Nat.le_refl _) _)
  have d1 : (w.alloc (.cells #[.int .u32 (sec : Int), .int .u32 (micro : Int), .int .u32 (size : Int), .slice A n c] 38)).cell? ⟨bf, 1, none⟩ = some (.int .u32 (sn : Int)) := (BA.out.cell (p := ⟨bf, 1, none⟩) (World.block_lt_of_cell? w _ hf)).trans hf
  have k0 := Blk.new w 38 #[.int .u32 (sec : Int), .int .u32 (micro : Int), .int .u32 (size : Int), .slice A n c]
  have d2 : (w.alloc (.cells #[.int .u32 (sec : Int), .int .u32 (micro : Int), .int .u32 (size : Int), .slice A n c] 38)).cell? ⟨w.heap.size, 1, none⟩ = some (.int .u32 (micro : Int)) := k0.cell 1
  have d3 : (w.alloc (.cells #[.int .u32 (sec : Int), .int .u32 (micro : Int), .int .u32 (size : Int), .slice A n c] 38)).cell? ⟨w.heap.size, 2, none⟩ = some (.int .u32 (size : Int)) := k0.cell 2
  have w0 : IntKind.u64.wrap (n : Int) = (n : Int) := by rw [IntKind.wrap_u64]; omega
  have w1 : IntKind.u64.wrap (sn : Int) = (sn : Int) := by rw [IntKind.wrap_u64]; omega
  have w2 : IntKind.u64.wrap (size : Int) = (size : Int) := by rw [IntKind.wrap_u64]; omega
  obtain ⟨r, hr⟩ : ∃ r, r = badB sn micro size n := ⟨_, rfl⟩
  have HR := Lib.hid hr
  rw [← hr]
  clear hr k0 hf
  by_cases a1 : 1000000 ≤ micro
  · have t1 : decide ((1000000 : Int) ≤ micro) = true := decide_eq_true (by omega)
    have HV := Lib.hid (show r = true from by rw [HR.out]; unfold badB; rw [decide_eq_true a1]; rfl)
    clear a1
    go_enter Try.func18, Try.ntmps18
    go_wp2_with fail
    go_ret
    exact ⟨by rw [HV.out]; rfl, BA.out⟩
  · have t1 : decide ((1000000 : Int) ≤ micro) = false := decide_eq_false (by omega)
    have e4 : decide ((65536 : Int) < n) = decide (65536 < n) := by
      by_cases a4 : 65536 < n
      · rw [decide_eq_true a4, decide_eq_true (by omega)]
      · rw [decide_eq_false a4, decide_eq_false (by omega)]
    by_cases a2 : sn < n
    · have t2 : decide (sn < n) = true := decide_eq_true a2
      have HV := Lib.hid (show r = true from by rw [HR.out]; unfold badB; rw [decide_eq_false a1, decide_eq_true a2]; rfl)
      clear a1 a2 e4
      go_enter Try.func18, Try.ntmps18
      go_wp2_with fail
      go_ret
      exact ⟨by rw [HV.out]; rfl, BA.out⟩
    · have t2 : decide (sn < n) = false := decide_eq_false a2
      by_cases a3 : size < n
      · have t3 : decide (size < n) = true := decide_eq_true a3
        have HV := Lib.hid (show r = true from by rw [HR.out]; unfold badB; rw [decide_eq_false a1, decide_eq_false a2, decide_eq_true a3]; rfl)
        clear a1 a2 a3 e4
        go_enter Try.func18, Try.ntmps18
        go_wp2_with fail
        go_ret
        exact ⟨by rw [HV.out]; rfl, BA.out⟩
      · have t3 : decide (size < n) = false := decide_eq_false a3
        have HV := Lib.hid (show r = decide ((65536 : Int) < n) from by rw [HR.out, e4]; unfold badB; rw [decide_eq_false a1, decide_eq_false a2, decide_eq_false a3]; rfl)
        clear a1 a2 a3 e4
        go_enter Try.func18, Try.ntmps18
        go_wp2_with fail
        go_ret
        exact ⟨by rw [HV.out]; rfl, BA.out⟩
end Go.Proofs.Ytmchedjeohhpcaa.pcapF
