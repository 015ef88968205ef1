/- Layer 7: the law's helpers. -/
import Derived.Test.YthbmgeggnkeejaaOctC
import Derived.Laws.BytesArg
namespace Go.Proofs.Ythbmgeggnkeejaa.octD
open Go.ChangeShapes Go.WideShapes Go.ChangeAt Go.RowKit
open Go.Proofs.Ythbmgeggnkeejaa.base Go.Proofs.Ythbmgeggnkeejaa.octA Go.Proofs.Ythbmgeggnkeejaa.octB Go.Proofs.Ythbmgeggnkeejaa.octC
set_option linter.unusedVariables false

theorem lawheld_any (s : Int) (w : World) :
    Calls Try.prog 16 #[.int .i64 s] w fun e w' => e = .returned (.int .i64 (hs s)) ∧ w = w' := by
  rcases Int.lt_or_le s 0 with h | h
  · have hv : ((hs s : Nat) : Int) = 0 := by unfold hs; omega
    rw [hv]; clear hv
    go_enter Try.func16, Try.ntmps16
    go_wp2
    go_ret
    exact ⟨rfl, rfl⟩
  · rcases Int.lt_or_le 8 s with h2 | h2
    · have hv : ((hs s : Nat) : Int) = 8 := by unfold hs; omega
      rw [hv]; clear hv
      go_enter Try.func16, Try.ntmps16
      go_wp2
      go_ret
      exact ⟨rfl, rfl⟩
    · have hv : ((hs s : Nat) : Int) = s := by unfold hs; omega
      rw [hv]; clear hv
      go_enter Try.func16, Try.ntmps16
      go_wp2
      go_ret
      exact ⟨rfl, rfl⟩
theorem cut_any (A : Option Addr) (n c : Nat) (w : World) (hnc : n ≤ c) (hc : c ≤ 9223372036854775807) (hA : ∀ x, A = some x → 100 < n → ∃ b off, x = ⟨b, off, none⟩) (hA2 : A = none → n = 0) :
    Calls Try.prog 15 #[.slice A n c] w fun e w' => e = .returned (.slice A (min n 100 : Nat) c) ∧ w = w' := by
  by_cases h : 100 < n
  · have hm : min n 100 = 100 := by omega
    rw [hm]
    have hd : decide ((100 : Int) < (n : Int)) = true := by simp; omega
    cases A with
    | none => have := hA2 rfl; omega
    | some x =>
      obtain ⟨b, off, rfl⟩ := hA x rfl h
      clear hA hA2 hm
      go_enter Try.func15, Try.ntmps15
      go_wp2_with fail
      go_ret
      exact ⟨rfl, rfl⟩
  · have hm : min n 100 = n := by omega
    rw [hm]
    have hd : decide ((100 : Int) < (n : Int)) = false := by simp; omega
    clear hA hA2 hm
    go_enter Try.func15, Try.ntmps15
    go_wp2_with fail
    go_ret
    exact ⟨rfl, rfl⟩
set_option maxRecDepth 100000 in
set_option maxHeartbeats 400000 in
theorem lawat_any (A : Option Addr) (n c : Nat) (l : List Int) (f : Int) (k : Nat) (w : World) (hl : l.length = n) (hn : n ≤ 1000000) (hk8 : k ≤ 8) (hr : Row w w.heap.size A (l.map (.int .u8))) (hb : ∀ x ∈ l, 0 ≤ x ∧ x ≤ 255) :
    Calls Try.prog 20 #[.slice A n c, .int .i64 f, .int .i64 k] w fun e w' => e = .returned (.int .u64 (if f < 0 then 0 else atN l f.toNat k)) ∧ w = w' := by
  have HB := Lib.hid hb
  have HN := Lib.hid hl
  have HR := Lib.hid hr
  clear hb hl hr
  by_cases hf : f < 0
  · rw [if_pos hf]
    go_enter Try.func20, Try.ntmps20
    go_wp2_with fail
    go_loop [7, 8] (fun y i => ∃ j : Nat, j ≤ k ∧ i = .int .i64 j ∧ y = .int .u64 (zr j)) (fun _ i => k - (intOf i).toNat)
    case atStart => exact ⟨0, by omega, rfl, rfl⟩
    case round =>
      obtain ⟨j, hj, rfl, rfl⟩ := hrel
      rw [show zr j = 0 from rfl]
      by_cases hlt : j < k
      · go_wp2_with fail
        go_round
        case rel => exact ⟨j + 1, by omega, by go_num, rfl⟩
        case measure => simp [intOf]; omega
      · go_wp2_with fail
        go_ret
        exact ⟨rfl, rfl⟩
  rw [if_neg hf]
  obtain ⟨q, rfl⟩ := Int.eq_ofNat_of_zero_le (by omega : 0 ≤ f)
  rw [Int.toNat_natCast]
  clear hf
  by_cases hq : q < n
  · have hql : q < l.length := by rw [HN.out]; exact hq
    obtain ⟨b, off, rfl, hbl, hcc⟩ := slice_from HR.out q hql
    have HC := Lib.hid hcc
    clear hcc
    go_enter Try.func20, Try.ntmps20
    go_wp2_with fail
    go_loop [7, 8] (fun x i => ∃ j : Nat, j ≤ k ∧ i = .int .i64 j ∧ x = .int .u64 (atN l q j)) (fun _ i => k - (intOf i).toNat)
    case atStart => exact ⟨0, by omega, rfl, rfl⟩
    case round =>
      obtain ⟨j, hj, rfl, rfl⟩ := hrel
      by_cases hlt : j < k
      · have hin := atN_in l q HB.out j
        have hp := pow256 j (by omega)
        have hst : atN l q (j + 1) = atN l q j * 256 + l.getD (q + j) 0 := rfl
        rw [Int.mul_comm] at hst
        have hg := getD_in l HB.out (q + j)
        have hz0 := hin.1
        have hz2 : 256 * atN l q j + 255 < 18446744073709551616 := by omega
        clear hin hp
        generalize atN l q j = z at *
        by_cases hin2 : q + j < n
        · have hcell := HC.out (q + j) (by rw [HN.out]; exact hin2)
          generalize l.getD (q + j) 0 = y at *
          obtain ⟨y0, y1⟩ := hg
          have e3 : IntKind.u64.wrap (256 * z) = 256 * z := by rw [IntKind.wrap_u64]; omega
          have e4 : IntKind.u64.wrap y = y := by rw [IntKind.wrap_u64]; omega
          have e6 : IntKind.u64.wrap (256 * z + y) = 256 * z + y := by rw [IntKind.wrap_u64]; omega
          have HST := Lib.hid hst
          have hlen2 : j < n - q := by omega
          have hlen3 : (j : Int) < (n : Int) - (q : Int) := by omega
          clear hst hz2
          go_wp2_with fail
          go_round
          case rel => exact ⟨j + 1, by omega, by go_num, by rw [HST.out]⟩
          case measure => simp [intOf]; omega
        · have hg0 : l.getD (q + j) 0 = 0 := by rw [List.getD_eq_getElem?_getD, List.getElem?_eq_none (by rw [HN.out]; omega)]; rfl
          rw [hg0, Int.add_zero] at hst
          have e3 : IntKind.u64.wrap (256 * z) = 256 * z := by rw [IntKind.wrap_u64]; omega
          have HST := Lib.hid hst
          have hlen3 : decide ((j : Int) < (n : Int) - (q : Int)) = false := by simp; omega
          clear hst hg hg0 hz2
          go_wp2_with fail
          go_round
          case rel => exact ⟨j + 1, by omega, by go_num, by rw [HST.out]⟩
          case measure => simp [intOf]; omega
      · obtain rfl : j = k := by omega
        go_wp2_with fail
        go_ret
        exact ⟨rfl, rfl⟩
  · have hq0 := atN_none l q (by rw [HN.out]; omega) k
    rw [hq0]
    clear hq0 HR HB HN
    go_enter Try.func20, Try.ntmps20
    go_wp2_with fail
    go_loop [7, 8] (fun y i => ∃ j : Nat, j ≤ k ∧ i = .int .i64 j ∧ y = .int .u64 (zr j)) (fun _ i => k - (intOf i).toNat)
    case atStart => exact ⟨0, by omega, rfl, rfl⟩
    case round =>
      obtain ⟨j, hj, rfl, rfl⟩ := hrel
      rw [show zr j = 0 from rfl]
      by_cases hlt : j < k
      · go_wp2_with fail
        go_round
        case rel => exact ⟨j + 1, by omega, by go_num, rfl⟩
        case measure => simp [intOf]; omega
      · go_wp2_with fail
        go_ret
        exact ⟨rfl, rfl⟩
/-- Bytes as a text. -/
theorem conv_row {w : World} {B : Nat} {b off n c : Nat} {l : List Int} (h : Row w B (some ⟨b, off, none⟩) (l.map (.int .u8))) (hl : l.length = n) :
    (convert 22 9 (.slice (some ⟨b, off, none⟩) n c)).run Try.prog w = .ok (.string (strOfNums l)) w := by
  refine run_convert_bytes_arg w 22 5 Try.underlying22 Try.underlying5 b off n c l hl (fun i hi => ?_) 9 Try.underlying9
  have h0 : 0 < l.length := by omega
  obtain ⟨b1, o1, e, _, hc⟩ := slice_from h i (by omega)
  injection e with e
  injection e with e1 e2
  subst e1 e2
  exact hc i (by omega)
theorem conv_none {w : World} (n c : Nat) : (convert 22 9 (.slice none n c)).run Try.prog w = .ok (.string (strOfNums [])) w :=
  run_convert_bytes_nil w 22 5 Try.underlying22 Try.underlying5 n c 9 Try.underlying9
end Go.Proofs.Ythbmgeggnkeejaa.octD
