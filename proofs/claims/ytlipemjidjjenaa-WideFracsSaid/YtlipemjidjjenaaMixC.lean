/- Layer 2: numbers of a generator, one by one. -/
import Derived.Test.YtlipemjidjjenaaMixB
import Derived.Test.YtlipemjidjjenaaBase
namespace Go.Proofs.Ytlipemjidjjenaa.mixC
open Go.ChangeShapes Go.WideShapes Go.ChangeAt Go.RowKit
open Go.Proofs.Ytlipemjidjjenaa.mixA Go.Proofs.Ytlipemjidjjenaa.base
set_option linter.unusedVariables false

theorem next_nil (w : World) :
    Calls Try.prog 43 #[.pointer none] w fun e w' => e = .returned (.int .u64 0) ∧ w = w' := by
  go_enter Try.func43, Try.ntmps43
  go_wp2
  go_ret
  exact ⟨rfl, rfl⟩

theorem next_any (b : Nat) (k : Int) (w : World) (hc : w.cell? ⟨b, 0, none⟩ = some (.int .u64 k)) (hf : w.frozen? ⟨b, 0, none⟩ = false) :
    Calls Try.prog 43 #[.pointer (some ⟨b, 0, none⟩)] w fun e w' => e = .returned (.int .u64 (oneZ (IntKind.u64.wrap (k + 11400714819323198485)))) ∧ w.setCell ⟨b, 0, none⟩ (.int .u64 (IntKind.u64.wrap (k + 11400714819323198485))) = w' := by
  go_enter Try.func43, Try.ntmps43
  go_wp2_with (go_at_call 31; refine (one_any _ _).mono ?_; rintro e w' ⟨rfl, rfl⟩)
  go_ret
  exact ⟨rfl, rfl⟩

theorem newGen_any (k : Int) (w : World) :
    Calls Try.prog 42 #[.int .u64 k] w fun e w' => e = .returned (.pointer (some ⟨w.heap.size, 0, none⟩)) ∧ w.alloc (.cells #[.int .u64 k] 90) = w' := by
  go_enter Try.func42, Try.ntmps42
  go_wp2
  go_ret
  exact ⟨rfl, rfl⟩

theorem mixGens_any (key n : Int) (n0 : -9223372036854775808 ≤ n) (n1 : n < 9223372036854775808) (w : World) :
    Calls Try.prog 10 #[.int .u64 key, .int .i64 n] w fun e w' => e = .returned (.bool true) ∧ Below w.heap.size w w' := by
  go_enter Try.func10, Try.ntmps10
  go_wp2_with (go_at_call 42; refine (newGen_any _ _).mono ?_; rintro e w' ⟨rfl, rfl⟩)
  go_loopw [7, 8] (fun at_ i wr => ∃ (k : Nat) (v : Int), k ≤ 40 ∧ i = .int .i64 k ∧ at_ = .int .u64 v ∧ Blk wr w.heap.size 90 #[.int .u64 v] ∧ Below w.heap.size w wr) (fun _ i _ => 40 - (intOf i).toNat)
  case atStart => exact ⟨0, key, by omega, rfl, rfl, Blk.new _ _ _, (Below.refl _ _).alloc (Nat.le_refl _) _⟩
  case round =>
    obtain ⟨k, v, hk, rfl, rfl, hb, hbel⟩ := hrel
    have hc : wr.cell? ⟨w.heap.size, 0, none⟩ = some (.int .u64 v) := hb.cell 0
    have hf : wr.frozen? ⟨w.heap.size, 0, none⟩ = false := hb.frozen 0
    have q : ∀ x : Int, (oneZ x != oneZ x) = false := fun x => by simp
    have q1 := q (IntKind.u64.wrap (v + 11400714819323198485))
    have HB := Lib.hid hb
    have HBel := Lib.hid hbel
    clear hb hbel q
    by_cases h1 : (k : Int) < n
    · by_cases h2 : k < 40
      · go_wp2_with (first | (go_at_call 43; refine (next_any _ _ _ hc hf).mono ?_; rintro e w' ⟨rfl, rfl⟩) | (go_at_call 32; refine (refone_any _ _).mono ?_; rintro e w' ⟨rfl, rfl⟩))
        go_roundw
        case rel => exact ⟨k + 1, _, by omega, by go_num, rfl, HB.out.set_ 0 _, HBel.out.setCell (Nat.le_refl _) _⟩
        case measure => simp [intOf]; omega
      · go_wp2_with (first | (go_at_call 43; refine (next_nil _).mono ?_; rintro e w' ⟨rfl, rfl⟩) | (go_at_call 34; refine (awake_any _).mono ?_; rintro e w' ⟨rfl, rfl⟩))
        go_ret
        exact ⟨rfl, HBel.out⟩
    · go_wp2_with (first | (go_at_call 43; refine (next_nil _).mono ?_; rintro e w' ⟨rfl, rfl⟩) | (go_at_call 34; refine (awake_any _).mono ?_; rintro e w' ⟨rfl, rfl⟩))
      go_ret
      exact ⟨rfl, HBel.out⟩
end Go.Proofs.Ytlipemjidjjenaa.mixC
