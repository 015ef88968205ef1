/- Layer 39: a list that repeats. -/
import Derived.Test.YtboknpkcpeoebaaRingB
import Derived.Test.YtboknpkcpeoebaaMem
import Derived.Test.YtboknpkcpeoebaaShelf
import Derived.Laws.CopyOwn
import Derived.Laws.CopyRow
import Derived.Deep.RegionHeld3
namespace Go.Proofs.Ytboknpkcpeoebaa.ringC
open Go.ChangeShapes Go.WideShapes Go.ChangeAt Go.RowKit
open Go.Proofs.Ytboknpkcpeoebaa.base
set_option linter.unusedVariables false

theorem info_int : (Try.prog.info? 3).map (fun i => (i.zero, i.size, i.bytes)) = some (some (.int .i64 0), 1, 8) := by kernel_rfl
theorem size_int : (Try.prog.info? 3).map (·.size) = some 1 := by kernel_rfl
/-- The first k are x, the others 0. -/
def rep (x : Int) (n k : Nat) : List Value := List.replicate k (.int .i64 x) ++ List.replicate (n - k) (.int .i64 0)
theorem rep_len (x : Int) (n k : Nat) (h : k ≤ n) : (rep x n k).length = n := by unfold rep; simp; omega
theorem rep_splice (x : Int) (n k j : Nat) (h : k + j ≤ n) : splice (rep x n k) k (List.replicate j (.int .i64 x)) = rep x n (k + j) := by
  unfold splice rep
  rw [List.length_replicate]
  have e1 : (List.replicate k (Value.int .i64 x) ++ List.replicate (n - k) (Value.int .i64 0)).take k = List.replicate k (Value.int .i64 x) := by
    rw [List.take_append_of_le_length (by simp), List.take_of_length_le (by simp)]
  have e2 : (List.replicate k (Value.int .i64 x) ++ List.replicate (n - k) (Value.int .i64 0)).drop (k + j) = List.replicate (n - (k + j)) (Value.int .i64 0) := by
    rw [List.drop_append, List.drop_of_length_le (by simp), List.nil_append, List.length_replicate, List.drop_replicate]
    congr 1
    omega
  rw [e1, e2, ← List.append_assoc, List.replicate_append_replicate]
theorem rep_zero (x : Int) (n : Nat) : zeros n (.int .i64 0) = (rep x n 0).toArray := by unfold zeros rep; simp
theorem rep_get (x : Int) (n k j : Nat) (h : j < k) : (rep x n k)[j]? = some (.int .i64 x) := by
  unfold rep
  rw [List.getElem?_append_left (by simpa using h), List.getElem?_replicate, if_pos h]
theorem below_setRow_ {B g : Nat} {w0 w : World} (h : Below B w0 w) (hg : B ≤ g) (c : Array Value) : Below B w0 (w.setRow g c) :=
  ⟨h.os, h.tape, h.output, by simpa [World.setRow] using h.size, fun k hk => (setRow_other w g k c (by omega)).trans (h.block k hk)⟩
def RepPost (x : Int) (n : Nat) (w : World) (e : Ending) (w' : World) : Prop :=
  e = .returned (.slice (some ⟨w.heap.size, 0, none⟩) n n) ∧ Blk w' w.heap.size 3 (rep x n n).toArray ∧ Below w.heap.size w w'
set_option maxHeartbeats 1000000 in
theorem repeat_any (b off c : Nat) (x : Int) (n : Nat) (w : World) (hc : w.cell? ⟨b, off, none⟩ = some (.int .i64 x)) (hn : 1 ≤ n) (hn2 : n ≤ 100000) :
    Calls Try.prog 59 #[.slice (some ⟨b, off, none⟩) 1 c, .int .i64 n] w (RepPost x n w) := by
  obtain ⟨i0, hi0, hz0, hz1, hz2⟩ := info_parts info_int
  have hmk := fun (W : World) => run_make_one (P := Try.prog) 59 3 i0 _ Try.underlying59 hi0 hz0 hz1 rfl .i64 .i64 (n : Int) (by omega) (by rw [hz2]; omega) (by omega) W
  have HM := Lib.hid (show ∀ w, Calls Try.prog 64 #[.int .u64 1, .int .u64 n] w fun e w' => e = .returned (.tuple #[.int .u64 0, .int .u64 n]) ∧ w = w' from fun w => by
    have := Try.bits_Mul 1 n (by omega) (by omega) w
    rw [show 1 * n / 18446744073709551616 = 0 by omega, show 1 * n % 18446744073709551616 = n by omega] at this
    exact this.mono fun e w' ⟨h1, h2⟩ => ⟨h1, h2.symm⟩)
  have e1 : IntKind.u64.wrap (n : Int) = (n : Int) := by rw [IntKind.wrap_u64]; omega
  have q0 : decide ((n : Int) < 0) = false := decide_eq_false (by omega)
  have q1 : decide (9223372036854775807 < (n : Int)) = false := decide_eq_false (by omega)
  clear hi0 hz0 hz1 hz2
  have HC := Lib.hid (show ∀ j v, [Value.int .i64 x][j]? = some v → (w.alloc (.cells (zeros n (.int .i64 0)) 3)).cell? ((⟨b, off, none⟩ : Addr).add j) = some v from fun j v hv => by
    have hb := World.block_lt_of_cell? w _ hc
    match j, hv with
    | 0, hv =>
      have hv : Value.int .i64 x = v := by simpa using hv
      rw [← hv, Addr.add_lit]
      exact (((Below.refl w.heap.size w).alloc (Nat.le_refl _) _).cell (p := ⟨b, off + 0, none⟩) hb).trans hc
    | j + 1, hv => simp at hv)
  obtain ⟨W1, hcp, b1, hb1⟩ : ∃ W1, (Builtin.copy_ #[59, 59] 3 #[.slice (some ⟨w.heap.size, 0, none⟩) n n, .slice (some ⟨b, off, none⟩) 1 c]).run Try.prog (w.alloc (.cells (zeros n (.int .i64 0)) 3)) = .ok (.int .i64 1) W1 ∧ Blk W1 w.heap.size 3 (rep x n 1).toArray ∧ Below w.heap.size w W1 := by
    have F0 := Blk.new w 3 (zeros n (.int .i64 0))
    have h := run_copy_row (P := Try.prog) (w.alloc (.cells (zeros n (.int .i64 0)) 3)) 59 59 3 3 w.heap.size 0 n n ⟨b, off, none⟩ 1 c (zeros n (.int .i64 0)) 3 [.int .i64 x] Try.underlying59 size_int F0 (by show 1 = min _ _; omega) HC.out (by rw [zeros_size]; show 0 + 1 ≤ n; omega) (by intro v hv; rw [List.mem_singleton] at hv; rw [hv]; rfl)
    have e : ((zeros n (Value.int .i64 0)).toList.take 0 ++ [Value.int .i64 x] ++ (zeros n (Value.int .i64 0)).toList.drop (0 + [Value.int .i64 x].length)) = rep x n 1 := by
      rw [rep_zero x n]
      have := rep_splice x n 0 1 (by omega)
      unfold splice at this
      rw [← List.append_assoc] at this
      exact this
    rw [e] at h
    exact ⟨_, h, setRow_heap _ _ _ _ _ _ F0, below_setRow_ ((Below.refl _ _).alloc (Nat.le_refl _) _) (Nat.le_refl _) _⟩
  have B1 := Lib.hid b1
  have HB1 := Lib.hid hb1
  clear b1 hb1 HC
  have RL := Lib.hid (rep_len x n)
  have RS := Lib.hid (rep_splice x n)
  clear hc
  go_enter Try.func59, Try.ntmps59
  go_wp2_with (go_at_call 64; refine (HM.out _).mono ?_; rintro e w' ⟨rfl, rfl⟩)
  clear hcp
  clear hmk
  go_loopw [8] (fun i wr => ∃ k : Nat, 1 ≤ k ∧ k ≤ n ∧ i = .int .i64 k ∧ Blk wr w.heap.size 3 (rep x n k).toArray ∧ Below w.heap.size w wr) (fun i _ => n - (intOf i).toNat)
  case atStart => exact ⟨1, by omega, hn, rfl, B1.out, HB1.out⟩
  case round =>
    obtain ⟨k, k1, kn, rfl, hblk, hbel⟩ := hrel
    have KB := Lib.hid hblk
    have KBel := Lib.hid hbel
    by_cases hlt : k < n
    · have p1 : decide ((k : Int) < (n : Int)) = true := decide_eq_true (by omega)
      obtain ⟨q, hq, hq1, hq2⟩ : ∃ q, q = min k (n - k) ∧ 1 ≤ q ∧ k + q ≤ n := ⟨_, rfl, by omega, by omega⟩
      obtain ⟨W3, hcp, b3, hb3⟩ : ∃ W3, (Builtin.copy_ #[59, 59] 3 #[.slice (some ⟨w.heap.size, k, none⟩) (n - k) (n - k), .slice (some ⟨w.heap.size, 0, none⟩) k n]).run Try.prog wr.drew = .ok (.int .i64 q) W3 ∧ Blk W3 w.heap.size 3 (rep x n (k + q)).toArray ∧ Below w.heap.size w W3 := by
        have h := run_copy_row (P := Try.prog) wr.drew 59 59 3 3 w.heap.size k (n - k) (n - k) ⟨w.heap.size, 0, none⟩ k n (rep x n k).toArray 3 (List.replicate q (.int .i64 x)) Try.underlying59 size_int hblk.drew (by rw [List.length_replicate, hq]) (fun j v hv => by
          rw [List.getElem?_replicate] at hv
          split at hv
          · rename_i hj
            rw [Addr.add_lit, Nat.zero_add, hblk.drew.cell j, ← hv]
            simpa using rep_get x n k j (by omega)
          · cases hv) (by rw [List.length_replicate, List.size_toArray, RL.out k kn]; exact hq2) (by intro v hv; rw [List.mem_replicate] at hv; rw [hv.2]; rfl)
        have e : (rep x n k).toArray.toList.take k ++ List.replicate q (Value.int .i64 x) ++ (rep x n k).toArray.toList.drop (k + (List.replicate q (Value.int .i64 x)).length) = rep x n (k + q) := by
          have := RS.out k q hq2
          unfold splice at this
          rw [← List.append_assoc] at this
          exact this
        rw [e, List.length_replicate] at h
        exact ⟨_, h, setRow_heap _ _ _ _ _ _ hblk.drew, below_setRow_ hbel.drew (Nat.le_refl _) _⟩
      have B3 := Lib.hid b3
      have HB3 := Lib.hid hb3
      clear b3 hb3
      clear hblk hbel
      go_wp2_with fail
      go_region
      all_goals
        go_wp2_with fail
        go_roundw
        case rel => exact ⟨k + q, by omega, by omega, by go_num, B3.out, HB3.out⟩
        case measure => simp [intOf]; omega
    · obtain rfl : k = n := by omega
      have p1 : decide ((k : Int) < (k : Int)) = false := decide_eq_false (by omega)
      clear hblk hbel
      go_wp2_with fail
      go_ret
      exact ⟨rfl, KB.out, KBel.out⟩
end Go.Proofs.Ytboknpkcpeoebaa.ringC
