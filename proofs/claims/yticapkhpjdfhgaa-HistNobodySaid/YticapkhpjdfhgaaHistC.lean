/- Layer 38: a histogram that is none. -/
import Derived.Test.YticapkhpjdfhgaaHistB
import Derived.Deep.WholeRow
namespace Go.Proofs.Yticapkhpjdfhgaa.histC
open Go.ChangeShapes Go.WideShapes Go.ChangeAt Go.RowKit
open Go.Proofs.Yticapkhpjdfhgaa.base Go.Proofs.Yticapkhpjdfhgaa.histA Go.Proofs.Yticapkhpjdfhgaa.histB
set_option linter.unusedVariables false

theorem add_nil (v : Value) (w : World) :
    Calls Try.prog 36 #[.pointer none, v] w fun e w' => e = .returned (.tuple #[]) ∧ w = w' := by
  go_enter Try.func36, Try.ntmps36
  go_wp2
  exact bodyPost_ret (v := .tuple #[]) (by simp [results, Try.results36, go_sem]) rfl ⟨rfl, rfl⟩
theorem join_nil (v : Value) (w : World) :
    Calls Try.prog 40 #[.pointer none, v] w fun e w' => e = .returned (.tuple #[]) ∧ w = w' := by
  go_enter Try.func40, Try.ntmps40
  go_wp2
  exact bodyPost_ret (v := .tuple #[]) (by simp [results, Try.results40, go_sem]) rfl ⟨rfl, rfl⟩
theorem clear_nil (w : World) :
    Calls Try.prog 41 #[.pointer none] w fun e w' => e = .returned (.tuple #[]) ∧ w = w' := by
  go_enter Try.func41, Try.ntmps41
  go_wp2
  exact bodyPost_end (v := .tuple #[]) (by simp [results, Try.results41, go_sem]) rfl ⟨rfl, rfl⟩
theorem ends_nil (w : World) :
    Calls Try.prog 42 #[.pointer none] w fun e w' => e = .returned (.tuple #[.int .u64 0, .int .u64 0]) ∧ w = w' := by
  go_enter Try.func42, Try.ntmps42
  go_wp2
  exact bodyPost_ret (v := .tuple #[.int .u64 0, .int .u64 0]) (by simp [results, Try.results42, go_sem]) rfl ⟨rfl, rfl⟩
theorem len_nil (w : World) :
    Calls Try.prog 43 #[.pointer none] w fun e w' => e = .returned (.int .u64 0) ∧ w = w' := by
  go_enter Try.func43, Try.ntmps43
  go_wp2
  go_ret
  exact ⟨rfl, rfl⟩
theorem mean_nil (w : World) :
    Calls Try.prog 44 #[.pointer none] w fun e w' => e = .returned (.int .u64 0) ∧ w = w' := by
  go_enter Try.func44, Try.ntmps44
  go_wp2
  go_ret
  exact ⟨rfl, rfl⟩
theorem count_nil (k : Int) (w : World) :
    Calls Try.prog 45 #[.pointer none, .int .i64 k] w fun e w' => e = .returned (.int .u64 0) ∧ w = w' := by
  go_enter Try.func45, Try.ntmps45
  go_wp2
  go_ret
  exact ⟨rfl, rfl⟩
theorem quantile_nil (k : Int) (w : World) :
    Calls Try.prog 46 #[.pointer none, .int .i64 k] w fun e w' => e = .returned (.int .i64 (-1)) ∧ w = w' := by
  go_enter Try.func46, Try.ntmps46
  go_wp2_with (go_at_call 43; refine (len_nil _).mono ?_; rintro e w' ⟨rfl, rfl⟩)
  go_ret
  exact ⟨rfl, rfl⟩
theorem len_at (g : Nat) (n : Int) (w : World) (h : w.cell? ⟨g, 65, none⟩ = some (.int .u64 n)) :
    Calls Try.prog 43 #[.pointer (some ⟨g, 0, none⟩)] w fun e w' => e = .returned (.int .u64 n) ∧ w = w' := by
  have H := Lib.hid h
  go_enter Try.func43, Try.ntmps43
  go_wp2
  go_ret
  exact ⟨rfl, rfl⟩
theorem joins_zero (v : Value) (g : Nat) (w : World) (h : w.cell? ⟨g, 65, none⟩ = some (.int .u64 0)) :
    Calls Try.prog 63 #[v, .pointer (some ⟨g, 0, none⟩)] w fun e w' => e = .returned (.tuple #[]) ∧ w = w' := by
  go_enter Try.func63, Try.ntmps63
  go_wp2
  exact bodyPost_ret (v := .tuple #[]) (by simp [results, Try.results63, go_sem]) rfl ⟨rfl, rfl⟩
theorem size_h : (Try.prog.info? 65).map (·.size) = some Try.zeroCells65.size := by kernel_rfl
theorem all_h : Try.zeroCells65.all (·.oneCell') = true := by kernel_rfl
theorem cell65 : Try.zeroCells65[65]? = some (.int .u64 0) := by kernel_rfl
theorem zero_at (w : World) : (w.alloc (.cells Try.zeroCells65 65)).cell? ⟨w.heap.size, 65, none⟩ = some (.int .u64 0) := ((Blk.new w 65 Try.zeroCells65).cell 65).trans cell65
set_option maxRecDepth 100000 in
theorem join_one (g a c : Nat) (w : World) (h : w.cell? ⟨a, 0, none⟩ = some (.pointer none)) (ha : a < w.heap.size) :
    Calls Try.prog 40 #[.pointer (some ⟨g, 0, none⟩), .slice (some ⟨a, 0, none⟩) 1 c] w fun e w' => e = .returned (.tuple #[]) ∧ Below w.heap.size w w' := by
  have hst := run_storeCells_new (P := Try.prog) w 65 Try.zeroCells65 Try.zeroCells65 size_h rfl all_h
  have h2 := kept h ((Below.refl _ w).alloc (Nat.le_refl _) (.cells Try.zeroCells65 65))
  have HB := Lib.hid ((Below.refl _ w).alloc (Nat.le_refl _) (.cells Try.zeroCells65 65))
  have HZ := Lib.hid (zero_at w)
  go_enter Try.func40, Try.ntmps40
  go_wp2_with fail
  go_loop [12] (fun i => ∃ j : Nat, j ≤ 1 ∧ i = .int .i64 j) (fun i => 1 - (intOf i).toNat)
  case atStart => exact ⟨0, by omega, rfl⟩
  case round =>
    obtain ⟨j, hj, rfl⟩ := hrel
    by_cases hlt : j < 1
    · obtain rfl : j = 0 := by omega
      go_wp2_with fail
      go_round
      case rel => exact ⟨1, by omega, by go_num⟩
      case measure => simp [intOf]
    · obtain rfl : j = 1 := by omega
      go_wp2_with fail
      refine (joins_zero _ _ _ HZ.out).mono ?_
      rintro e w' ⟨rfl, rfl⟩
      go_wp2_with fail
      exact bodyPost_end (v := .tuple #[]) (by simp [results, Try.results40, go_sem]) rfl ⟨rfl, HB.out⟩
set_option maxRecDepth 100000 in
set_option maxHeartbeats 1000000 in
theorem law_any (z k : Int) (w : World) :
    Calls Try.prog 13 #[.int .u64 z, .int .i64 k] w fun e w' => e = .returned (.bool true) ∧ Below w.heap.size w w' := by
  go_enter Try.func13, Try.ntmps13
  go_wp2_with fail
  refine (add_nil _ _).mono ?_
  rintro e w' ⟨rfl, rfl⟩
  go_wp2_with fail
  refine (join_nil _ _).mono ?_
  rintro e w' ⟨rfl, rfl⟩
  go_wp2_with fail
  refine (clear_nil _).mono ?_
  rintro e w' ⟨rfl, rfl⟩
  go_wp2_with fail
  refine (ends_nil _).mono ?_
  rintro e w' ⟨rfl, rfl⟩
  go_wp2_with fail
  have s4 : ((((w.alloc (.cells #[.int .u64 z] 60)).alloc (.cells Try.zeroCells65 65)).alloc (.cells #[.pointer (some ⟨w.heap.size + 1, 0, none⟩)] 59)).alloc (.cells Try.zeroCells65 65)).heap.size = w.heap.size + 1 + 1 + 1 + 1 := by simp
  have s3 : (((w.alloc (.cells #[.int .u64 z] 60)).alloc (.cells Try.zeroCells65 65)).alloc (.cells #[.pointer (some ⟨w.heap.size + 1, 0, none⟩)] 59)).heap.size = w.heap.size + 1 + 1 + 1 := by simp
  have h0 := (Blk.new ((((w.alloc (.cells #[.int .u64 z] 60)).alloc (.cells Try.zeroCells65 65)).alloc (.cells #[.pointer (some ⟨w.heap.size + 1, 0, none⟩)] 59)).alloc (.cells Try.zeroCells65 65)) 59 #[.pointer none]).cell 0
  rw [s4] at h0
  have hz := Lib.cell?_alloc_some (.cells #[.pointer none] 59) (zero_at (((w.alloc (.cells #[.int .u64 z] 60)).alloc (.cells Try.zeroCells65 65)).alloc (.cells #[.pointer (some ⟨w.heap.size + 1, 0, none⟩)] 59)))
  rw [s3] at hz
  have hB : Below w.heap.size w (((((w.alloc (.cells #[.int .u64 z] 60)).alloc (.cells Try.zeroCells65 65)).alloc (.cells #[.pointer (some ⟨w.heap.size + 1, 0, none⟩)] 59)).alloc (.cells Try.zeroCells65 65)).alloc (.cells #[.pointer none] 59)) := (((((Below.refl _ _).alloc (Nat.le_refl _) _).alloc (by simp) _).alloc (by simp; omega) _).alloc (by simp; omega) _).alloc (by simp; omega) _
  have hlt : w.heap.size + 1 + 1 + 1 + 1 < (((((w.alloc (.cells #[.int .u64 z] 60)).alloc (.cells Try.zeroCells65 65)).alloc (.cells #[.pointer (some ⟨w.heap.size + 1, 0, none⟩)] 59)).alloc (.cells Try.zeroCells65 65)).alloc (.cells #[.pointer none] 59)).heap.size := by simp
  clear s3 s4
  generalize (((((w.alloc (.cells #[.int .u64 z] 60)).alloc (.cells Try.zeroCells65 65)).alloc (.cells #[.pointer (some ⟨w.heap.size + 1, 0, none⟩)] 59)).alloc (.cells Try.zeroCells65 65)).alloc (.cells #[.pointer none] 59)) = w5 at *
  refine (join_one _ _ _ _ h0 hlt).mono ?_
  rintro e w1 ⟨rfl, hb⟩
  have HB := Lib.hid (bel_call hB hb)
  have HX := Lib.hid (kept hz hb)
  clear hB hb hz h0 hlt
  go_wp2_with (first
    | (go_at_call 44; refine (mean_nil _).mono ?_; rintro e w' ⟨rfl, rfl⟩)
    | (go_at_call 45; refine (count_nil _ _).mono ?_; rintro e w' ⟨rfl, rfl⟩)
    | (go_at_call 46; refine (quantile_nil _ _).mono ?_; rintro e w' ⟨rfl, rfl⟩)
    | (go_at_call 39; refine (awake_any _).mono ?_; rintro e w' ⟨rfl, rfl⟩)
    | (go_at_call 43; (first | (with_reducible refine (len_nil _).mono ?_) | (refine (len_at _ _ _ HX.out).mono ?_)); rintro e w' ⟨rfl, rfl⟩))
  go_ret
  exact ⟨rfl, HB.out⟩
end Go.Proofs.Yticapkhpjdfhgaa.histC
