/- 1 texts in one. -/
import Derived.Test.YtndekicblbpkjaaPa28
/- Layer 13: what is too long, or nothing, is no packet. -/
namespace Go.Proofs.Ytndekicblbpkjaa.pktQ
open Go.ChangeShapes Go.WideShapes Go.ChangeAt Go.RowKit
open Go.Proofs.Ytndekicblbpkjaa.base Go.Proofs.Ytndekicblbpkjaa.octA Go.Proofs.Ytndekicblbpkjaa.octB Go.Proofs.Ytndekicblbpkjaa.octC Go.Proofs.Ytndekicblbpkjaa.octF Go.Proofs.Ytndekicblbpkjaa.octK Go.Proofs.Ytndekicblbpkjaa.net Go.Proofs.Ytndekicblbpkjaa.rdrA Go.Proofs.Ytndekicblbpkjaa.rdrG Go.Proofs.Ytndekicblbpkjaa.sumA Go.Proofs.Ytndekicblbpkjaa.sumB Go.Proofs.Ytndekicblbpkjaa.sixW Go.Proofs.Ytndekicblbpkjaa.sixM Go.Proofs.Ytndekicblbpkjaa.pktA Go.Proofs.Ytndekicblbpkjaa.pktB Go.Proofs.Ytndekicblbpkjaa.pktC Go.Proofs.Ytndekicblbpkjaa.pktD Go.Proofs.Ytndekicblbpkjaa.icmpH Go.Proofs.Ytndekicblbpkjaa.pktE Go.Proofs.Ytndekicblbpkjaa.pktF Go.Proofs.Ytndekicblbpkjaa.pktG Go.Proofs.Ytndekicblbpkjaa.pktN
set_option linter.unusedVariables false

theorem pk_nil : pkP [] = (zeroPk, 2) := by kernel_rfl
set_option maxHeartbeats 4000000 in
set_option maxRecDepth 100000 in
theorem parse_big (A : Option Addr) (n c : Nat) (w : World) (hn : 9000 < n) :
    Calls Try.prog 28 #[.slice A n c] w fun o w' => o = .returned (.tuple #[.agg #[.bool false, .int .i64 0, .bool false, .int .u64 0, .int .u64 0, .bool false, .int .u64 0, .int .u64 0, .int .i64 0, .int .i64 0, .int .i64 0, .int .i64 0, .bool false, .int .i64 0, .bool false, .int .u64 0, .int .u64 0, .bool false, .int .u64 0, .int .u64 0, .int .i64 0, .int .i64 0, .int .i64 0], .int .i64 25]) ∧ Below w.heap.size w w' := by
  obtain ⟨w1, hw1⟩ : ∃ w1, w1 = w.alloc (.cells #[.bool false, .int .i64 0, .bool false, .int .u64 0, .int .u64 0, .bool false, .int .u64 0, .int .u64 0, .int .i64 0, .int .i64 0, .int .i64 0, .int .i64 0, .bool false, .int .i64 0, .bool false, .int .u64 0, .int .u64 0, .bool false, .int .u64 0, .int .u64 0, .int .i64 0, .int .i64 0, .int .i64 0] 58) := ⟨_, rfl⟩
  have E1 := Lib.hid hw1
  have B1 := Lib.hid (show Below w.heap.size w w1 from by rw [hw1]; exact (Below.refl _ _).alloc (Nat.le_refl _) _)
  obtain ⟨q, hq⟩ : ∃ q, q = w.heap.size := ⟨_, rfl⟩
  have EQ := Lib.hid hq
  have KQ := Lib.hid (show Blk w1 q 58 #[.bool false, .int .i64 0, .bool false, .int .u64 0, .int .u64 0, .bool false, .int .u64 0, .int .u64 0, .int .i64 0, .int .i64 0, .int .i64 0, .int .i64 0, .bool false, .int .i64 0, .bool false, .int .u64 0, .int .u64 0, .bool false, .int .u64 0, .int .u64 0, .int .i64 0, .int .i64 0, .int .i64 0] from by rw [hw1, hq]; exact Blk.new w _ _)
  have HI := Lib.hid pk_size
  clear hw1 hq
  have t9 : decide (9000 < (n : Int)) = true := decide_eq_true (by omega)
  have t9n : decide (9000 < n) = true := decide_eq_true (by omega)
  have c0 : ((n : Int) == 0) = false := by simp; omega
  have c0n : (n == 0) = false := by simp; omega
  clear hn
  go_enter Try.func28, Try.ntmps28
  go_upto_region 1 with fail
  rw [← E1.out, ← EQ.out]
  go_wp2_with (refine wpList_store_row rfl 58 _ _ rfl q #[.bool false, .int .i64 0, .bool false, .int .u64 0, .int .u64 0, .bool false, .int .u64 0, .int .u64 0, .int .i64 0, .int .i64 0, .int .i64 0, .int .i64 0, .bool false, .int .i64 0, .bool false, .int .u64 0, .int .u64 0, .bool false, .int .u64 0, .int .u64 0, .int .i64 0, .int .i64 0, .int .i64 0] rfl rfl 58 #[.bool false, .int .i64 0, .bool false, .int .u64 0, .int .u64 0, .bool false, .int .u64 0, .int .u64 0, .int .i64 0, .int .i64 0, .int .i64 0, .int .i64 0, .bool false, .int .i64 0, .bool false, .int .u64 0, .int .u64 0, .bool false, .int .u64 0, .int .u64 0, .int .i64 0, .int .i64 0, .int .i64 0] KQ.out HI.out rfl (by kernel_rfl) ?_)
  refine bodyPost_ret (results_pk rfl _ _ q #[.bool false, .int .i64 0, .bool false, .int .u64 0, .int .u64 0, .bool false, .int .u64 0, .int .u64 0, .int .i64 0, .int .i64 0, .int .i64 0, .int .i64 0, .bool false, .int .i64 0, .bool false, .int .u64 0, .int .u64 0, .bool false, .int .u64 0, .int .u64 0, .int .i64 0, .int .i64 0, .int .i64 0] rfl (blkRow KQ.out _) rfl) rfl ?_
  exact ⟨rfl, (onlyRow _).from B1.out (by have := EQ.out; omega)⟩
set_option maxHeartbeats 4000000 in
set_option maxRecDepth 100000 in
theorem parse_v4 (b off n c : Nat) (w : World) (hn0 : 0 < n) (hn : n ≤ 9000) (y0 : w.cell? ⟨b, off, none⟩ = some (.int .u8 64)) (hb : b < w.heap.size) (e : Int)
    (HP : Hid (∀ V, Below w.heap.size w V → Calls Try.prog 56 #[.slice (some ⟨b, off, none⟩) n c] V fun o w' => o = .returned (.tuple #[.agg #[.bool false, .int .i64 0, .bool false, .int .u64 0, .int .u64 0, .bool false, .int .u64 0, .int .u64 0, .int .i64 0, .int .i64 0, .int .i64 0, .int .i64 0, .bool false, .int .i64 0, .bool false, .int .u64 0, .int .u64 0, .bool false, .int .u64 0, .int .u64 0, .int .i64 0, .int .i64 0, .int .i64 0], .int .i64 e]) ∧ Below V.heap.size V w')) :
    Calls Try.prog 28 #[.slice (some ⟨b, off, none⟩) n c] w fun o w' => o = .returned (.tuple #[.agg #[.bool false, .int .i64 0, .bool false, .int .u64 0, .int .u64 0, .bool false, .int .u64 0, .int .u64 0, .int .i64 0, .int .i64 0, .int .i64 0, .int .i64 0, .bool false, .int .i64 0, .bool false, .int .u64 0, .int .u64 0, .bool false, .int .u64 0, .int .u64 0, .int .i64 0, .int .i64 0, .int .i64 0], .int .i64 e]) ∧ Below w.heap.size w w' := by
  obtain ⟨w1, hw1⟩ : ∃ w1, w1 = w.alloc (.cells #[.bool false, .int .i64 0, .bool false, .int .u64 0, .int .u64 0, .bool false, .int .u64 0, .int .u64 0, .int .i64 0, .int .i64 0, .int .i64 0, .int .i64 0, .bool false, .int .i64 0, .bool false, .int .u64 0, .int .u64 0, .bool false, .int .u64 0, .int .u64 0, .int .i64 0, .int .i64 0, .int .i64 0] 58) := ⟨_, rfl⟩
  have E1 := Lib.hid hw1
  have B1 := Lib.hid (show Below w.heap.size w w1 from by rw [hw1]; exact (Below.refl _ _).alloc (Nat.le_refl _) _)
  have y1 : w1.cell? ⟨b, off, none⟩ = some (.int .u8 64) := (B1.out.cell (p := ⟨b, off, none⟩) hb).trans y0
  obtain ⟨q, hq⟩ : ∃ q, q = w.heap.size := ⟨_, rfl⟩
  have EQ := Lib.hid hq
  have KQ := Lib.hid (show Blk w1 q 58 #[.bool false, .int .i64 0, .bool false, .int .u64 0, .int .u64 0, .bool false, .int .u64 0, .int .u64 0, .int .i64 0, .int .i64 0, .int .i64 0, .int .i64 0, .bool false, .int .i64 0, .bool false, .int .u64 0, .int .u64 0, .bool false, .int .u64 0, .int .u64 0, .int .i64 0, .int .i64 0, .int .i64 0] from by rw [hw1, hq]; exact Blk.new w _ _)
  have HI := Lib.hid pk_size
  have HP1 := Lib.hid (HP.out w1 B1.out)
  clear hw1 hq y0 hb
  have t9 : decide (9000 < (n : Int)) = false := decide_eq_false (by omega)
  have t9n : decide (9000 < n) = false := decide_eq_false (by omega)
  have c0 : ((n : Int) == 0) = false := by simp; omega
  have c0n : (n == 0) = false := by simp; omega
  have j1 : (0 : Int) < n := by omega
  go_enter Try.func28, Try.ntmps28
  go_upto_region 1 with fail
  rw [← E1.out, ← EQ.out]
  go_wp2_with (first
    | (go_at_call 56; refine HP1.out.mono ?_; rintro o w2 ⟨rfl, hb2⟩; have KQ2 := Lib.hid (KQ.out.below hb2 KQ.out.lt); have B2 := Lib.hid (B1.out.trans (hb2.mono B1.out.size)); clear hb2)
    | (refine wpList_store_row rfl 58 _ _ rfl q #[.bool false, .int .i64 0, .bool false, .int .u64 0, .int .u64 0, .bool false, .int .u64 0, .int .u64 0, .int .i64 0, .int .i64 0, .int .i64 0, .int .i64 0, .bool false, .int .i64 0, .bool false, .int .u64 0, .int .u64 0, .bool false, .int .u64 0, .int .u64 0, .int .i64 0, .int .i64 0, .int .i64 0] rfl rfl 58 #[.bool false, .int .i64 0, .bool false, .int .u64 0, .int .u64 0, .bool false, .int .u64 0, .int .u64 0, .int .i64 0, .int .i64 0, .int .i64 0, .int .i64 0, .bool false, .int .i64 0, .bool false, .int .u64 0, .int .u64 0, .bool false, .int .u64 0, .int .u64 0, .int .i64 0, .int .i64 0, .int .i64 0] KQ2.out HI.out rfl (by kernel_rfl) ?_))
  refine bodyPost_ret (results_pk rfl _ _ q #[.bool false, .int .i64 0, .bool false, .int .u64 0, .int .u64 0, .bool false, .int .u64 0, .int .u64 0, .int .i64 0, .int .i64 0, .int .i64 0, .int .i64 0, .bool false, .int .i64 0, .bool false, .int .u64 0, .int .u64 0, .bool false, .int .u64 0, .int .u64 0, .int .i64 0, .int .i64 0, .int .i64 0] rfl (blkRow KQ2.out _) rfl) rfl ?_
  exact ⟨rfl, (onlyRow _).from B2.out (by have := EQ.out; omega)⟩
/-- Zeros behind a byte that says version 4: their header's length is wrong. -/
theorem parse_64 (b off n c : Nat) (l : List Int) (w : World) (hl : l.length = n) (h20 : 20 ≤ n) (hn : n ≤ 9000) (hb : b < w.heap.size) (hs : Lies w b off l) (hu : U8 l) (h0 : l.getD 0 0 = 64) :
    Calls Try.prog 28 #[.slice (some ⟨b, off, none⟩) n c] w fun o w' => o = .returned (.tuple #[.agg #[.bool false, .int .i64 0, .bool false, .int .u64 0, .int .u64 0, .bool false, .int .u64 0, .int .u64 0, .int .i64 0, .int .i64 0, .int .i64 0, .int .i64 0, .bool false, .int .i64 0, .bool false, .int .u64 0, .int .u64 0, .bool false, .int .u64 0, .int .u64 0, .int .i64 0, .int .i64 0, .int .i64 0], .int .i64 11]) ∧ Below w.heap.size w w' := by
  refine parse_v4 b off n c w (by omega) hn (by have := hs 0 (by omega); rw [h0] at this; exact this) hb 11 (Lib.hid fun V hV => parse4_fail _ n c 11 (by decide) V (Lib.hid fun V2 hV2 => ?_))
  have hB := hV.trans (hV2.mono hV.size)
  exact pktA.four_begin _ n c 11 (by decide) V2 fun W hW => by
    have hC := hB.trans (hW.mono hB.size)
    exact fourA.begin_no b off n c l W hl h20 (Nat.lt_of_lt_of_le hb hC.size) (hs.below hC hb) hu 11 (.inr (.inl ⟨by rw [h0]; rfl, by unfold fourA.hl; rw [h0]; decide, rfl⟩))
set_option maxHeartbeats 4000000 in
set_option maxRecDepth 100000 in
theorem big_any (n : Int) (n0 : -9223372036854775808 ≤ n) (n1 : n < 9223372036854775808) (w : World) :
    Calls Try.prog 9 #[.int .i64 n] w fun o w' => o = .returned (.bool true) ∧ Below w.heap.size w w' := by
  have HAW := Lib.hid awake_any
  have HI := Lib.hid pk_size
  have HN := Lib.hid (show Calls Try.prog 28 #[.slice none 0 0] w fun o w' => o = .returned (.tuple #[.agg #[.bool false, .int .i64 0, .bool false, .int .u64 0, .int .u64 0, .bool false, .int .u64 0, .int .u64 0, .int .i64 0, .int .i64 0, .int .i64 0, .int .i64 0, .bool false, .int .i64 0, .bool false, .int .u64 0, .int .u64 0, .bool false, .int .u64 0, .int .u64 0, .int .i64 0, .int .i64 0, .int .i64 0], .int .i64 2]) ∧ Below w.heap.size w w' from by
    have h9 := parse_any none 0 0 [] w (Sl.none_ w) (by omega)
    rw [pk_nil] at h9
    exact h9)
  by_cases h1 : n < 8990 ∨ 9010 < n
  · have hs : ∀ k : Bool, (decide (n < 8990) = true ∧ k = true) ∨ True := fun _ => .inr trivial
    rcases h1 with h1 | h1
    · have t1 : decide (n < 8990) = true := decide_eq_true h1
      clear h1 hs n0 n1
      go_enter Try.func9, Try.ntmps9
      go_wp2_with fail
      refine HN.out.mono ?_
      rintro o w1 ⟨rfl, hb1⟩
      have B2 := Lib.hid ((onlyRow (g := w1.heap.size) #[.bool false, .int .i64 0, .bool false, .int .u64 0, .int .u64 0, .bool false, .int .u64 0, .int .u64 0, .int .i64 0, .int .i64 0, .int .i64 0, .int .i64 0, .bool false, .int .i64 0, .bool false, .int .u64 0, .int .u64 0, .bool false, .int .u64 0, .int .u64 0, .int .i64 0, .int .i64 0, .int .i64 0]).from (hb1.alloc hb1.size (.cells #[.bool false, .int .i64 0, .bool false, .int .u64 0, .int .u64 0, .bool false, .int .u64 0, .int .u64 0, .int .i64 0, .int .i64 0, .int .i64 0, .int .i64 0, .bool false, .int .i64 0, .bool false, .int .u64 0, .int .u64 0, .bool false, .int .u64 0, .int .u64 0, .int .i64 0, .int .i64 0, .int .i64 0] 58)) hb1.size)
      clear hb1
      go_wp2_with (first
        | (refine wpList_store_row rfl 58 _ _ rfl w1.heap.size #[.bool false, .int .i64 0, .bool false, .int .u64 0, .int .u64 0, .bool false, .int .u64 0, .int .u64 0, .int .i64 0, .int .i64 0, .int .i64 0, .int .i64 0, .bool false, .int .i64 0, .bool false, .int .u64 0, .int .u64 0, .bool false, .int .u64 0, .int .u64 0, .int .i64 0, .int .i64 0, .int .i64 0] rfl rfl 58 #[.bool false, .int .i64 0, .bool false, .int .u64 0, .int .u64 0, .bool false, .int .u64 0, .int .u64 0, .int .i64 0, .int .i64 0, .int .i64 0, .int .i64 0, .bool false, .int .i64 0, .bool false, .int .u64 0, .int .u64 0, .bool false, .int .u64 0, .int .u64 0, .int .i64 0, .int .i64 0, .int .i64 0] (Blk.new w1 _ _) HI.out rfl (by kernel_rfl) ?_)
        | (go_at_call 32; refine (HAW.out _).mono ?_; rintro o w2 ⟨rfl, hb2⟩))
      go_ret
      exact ⟨rfl, B2.out.trans (hb2.mono B2.out.size)⟩
    · have t1 : decide (n < 8990) = false := decide_eq_false (by omega)
      have t2 : decide (9010 < n) = true := decide_eq_true h1
      clear h1 hs n0 n1
      go_enter Try.func9, Try.ntmps9
      go_wp2_with fail
      refine HN.out.mono ?_
      rintro o w1 ⟨rfl, hb1⟩
      have B2 := Lib.hid ((onlyRow (g := w1.heap.size) #[.bool false, .int .i64 0, .bool false, .int .u64 0, .int .u64 0, .bool false, .int .u64 0, .int .u64 0, .int .i64 0, .int .i64 0, .int .i64 0, .int .i64 0, .bool false, .int .i64 0, .bool false, .int .u64 0, .int .u64 0, .bool false, .int .u64 0, .int .u64 0, .int .i64 0, .int .i64 0, .int .i64 0]).from (hb1.alloc hb1.size (.cells #[.bool false, .int .i64 0, .bool false, .int .u64 0, .int .u64 0, .bool false, .int .u64 0, .int .u64 0, .int .i64 0, .int .i64 0, .int .i64 0, .int .i64 0, .bool false, .int .i64 0, .bool false, .int .u64 0, .int .u64 0, .bool false, .int .u64 0, .int .u64 0, .int .i64 0, .int .i64 0, .int .i64 0] 58)) hb1.size)
      clear hb1
      go_wp2_with (first
        | (refine wpList_store_row rfl 58 _ _ rfl w1.heap.size #[.bool false, .int .i64 0, .bool false, .int .u64 0, .int .u64 0, .bool false, .int .u64 0, .int .u64 0, .int .i64 0, .int .i64 0, .int .i64 0, .int .i64 0, .bool false, .int .i64 0, .bool false, .int .u64 0, .int .u64 0, .bool false, .int .u64 0, .int .u64 0, .int .i64 0, .int .i64 0, .int .i64 0] rfl rfl 58 #[.bool false, .int .i64 0, .bool false, .int .u64 0, .int .u64 0, .bool false, .int .u64 0, .int .u64 0, .int .i64 0, .int .i64 0, .int .i64 0, .int .i64 0, .bool false, .int .i64 0, .bool false, .int .u64 0, .int .u64 0, .bool false, .int .u64 0, .int .u64 0, .int .i64 0, .int .i64 0, .int .i64 0] (Blk.new w1 _ _) HI.out rfl (by kernel_rfl) ?_)
        | (go_at_call 32; refine (HAW.out _).mono ?_; rintro o w2 ⟨rfl, hb2⟩))
      go_ret
      exact ⟨rfl, B2.out.trans (hb2.mono B2.out.size)⟩
  · have t1 : decide (n < 8990) = false := decide_eq_false (by omega)
    have t2 : decide (9010 < n) = false := decide_eq_false (by omega)
    obtain ⟨m, rfl⟩ := Int.eq_ofNat_of_zero_le (by omega : 0 ≤ n)
    obtain ⟨i0, hi0, hz0, hz1, hz2⟩ := info_parts info_u8
    have hmk := fun (W : World) => run_make_one (P := Try.prog) 22 5 i0 _ Try.underlying22 hi0 hz0 hz1 rfl .i64 .i64 (m : Int) (by omega) (by rw [hz2]; omega) (by omega) W
    have HR := Lib.hid (show ∀ W : World, ∃ e : Int, (e = if 9000 < m then 25 else 11) ∧ ∀ V, Lies V W.heap.size 0 (64 :: List.replicate (m - 1) 0) → W.heap.size < V.heap.size → Calls Try.prog 28 #[.slice (some ⟨W.heap.size, 0, none⟩) m m] V fun o w' => o = .returned (.tuple #[.agg #[.bool false, .int .i64 0, .bool false, .int .u64 0, .int .u64 0, .bool false, .int .u64 0, .int .u64 0, .int .i64 0, .int .i64 0, .int .i64 0, .int .i64 0, .bool false, .int .i64 0, .bool false, .int .u64 0, .int .u64 0, .bool false, .int .u64 0, .int .u64 0, .int .i64 0, .int .i64 0, .int .i64 0], .int .i64 e]) ∧ Below V.heap.size V w' from fun W => ⟨_, rfl, fun V hV hb => by
      by_cases h9 : 9000 < m
      · rw [if_pos h9]
        exact parse_big _ m m V h9
      · rw [if_neg h9]
        exact parse_64 W.heap.size 0 m m _ V (by simp; omega) (by omega) (by omega) hb hV (fun x hx => by
          rcases List.mem_cons.mp hx with rfl | hx
          · omega
          · have := List.eq_of_mem_replicate hx
            omega) rfl⟩)
    have j0 : (0 : Int) < m := by omega
    clear h1 hi0 hz0 hz1 hz2
    go_enter Try.func9, Try.ntmps9
    go_wp2_with fail
    refine HN.out.mono ?_
    rintro o w1 ⟨rfl, hb1⟩
    obtain ⟨w2, hw2⟩ : ∃ w2, w2 = (w1.alloc (.cells #[.bool false, .int .i64 0, .bool false, .int .u64 0, .int .u64 0, .bool false, .int .u64 0, .int .u64 0, .int .i64 0, .int .i64 0, .int .i64 0, .int .i64 0, .bool false, .int .i64 0, .bool false, .int .u64 0, .int .u64 0, .bool false, .int .u64 0, .int .u64 0, .int .i64 0, .int .i64 0, .int .i64 0] 58)).setRow w1.heap.size #[.bool false, .int .i64 0, .bool false, .int .u64 0, .int .u64 0, .bool false, .int .u64 0, .int .u64 0, .int .i64 0, .int .i64 0, .int .i64 0, .int .i64 0, .bool false, .int .i64 0, .bool false, .int .u64 0, .int .u64 0, .bool false, .int .u64 0, .int .u64 0, .int .i64 0, .int .i64 0, .int .i64 0] := ⟨_, rfl⟩
    have B2 := Lib.hid (show Below w.heap.size w w2 from by rw [hw2]; exact (onlyRow (g := w1.heap.size) #[.bool false, .int .i64 0, .bool false, .int .u64 0, .int .u64 0, .bool false, .int .u64 0, .int .u64 0, .int .i64 0, .int .i64 0, .int .i64 0, .int .i64 0, .bool false, .int .i64 0, .bool false, .int .u64 0, .int .u64 0, .bool false, .int .u64 0, .int .u64 0, .int .i64 0, .int .i64 0, .int .i64 0]).from (hb1.alloc hb1.size (.cells #[.bool false, .int .i64 0, .bool false, .int .u64 0, .int .u64 0, .bool false, .int .u64 0, .int .u64 0, .int .i64 0, .int .i64 0, .int .i64 0, .int .i64 0, .bool false, .int .i64 0, .bool false, .int .u64 0, .int .u64 0, .bool false, .int .u64 0, .int .u64 0, .int .i64 0, .int .i64 0, .int .i64 0] 58)) hb1.size)
    have E2 := Lib.hid hw2
    clear hb1 hw2
    go_upto_region 4 with (refine wpList_store_row rfl 58 _ _ rfl w1.heap.size #[.bool false, .int .i64 0, .bool false, .int .u64 0, .int .u64 0, .bool false, .int .u64 0, .int .u64 0, .int .i64 0, .int .i64 0, .int .i64 0, .int .i64 0, .bool false, .int .i64 0, .bool false, .int .u64 0, .int .u64 0, .bool false, .int .u64 0, .int .u64 0, .int .i64 0, .int .i64 0, .int .i64 0] rfl rfl 58 #[.bool false, .int .i64 0, .bool false, .int .u64 0, .int .u64 0, .bool false, .int .u64 0, .int .u64 0, .int .i64 0, .int .i64 0, .int .i64 0, .int .i64 0, .bool false, .int .i64 0, .bool false, .int .u64 0, .int .u64 0, .bool false, .int .u64 0, .int .u64 0, .int .i64 0, .int .i64 0, .int .i64 0] (Blk.new w1 _ _) HI.out rfl (by kernel_rfl) ?_)
    rw [← E2.out]
    obtain ⟨g, hg⟩ : ∃ g, g = w2.heap.size := ⟨_, rfl⟩
    have EG := Lib.hid hg
    obtain ⟨w3, hw3⟩ : ∃ w3, w3 = w2.alloc (.cells (zeros m (.int .u8 0)) 5) := ⟨_, rfl⟩
    have E3 := Lib.hid hw3
    have B3 := Lib.hid (show Below w.heap.size w w3 from by rw [hw3]; exact B2.out.alloc B2.out.size _)
    have K3 := Lib.hid (show Blk w3 g 5 (zeros m (.int .u8 0)) from by rw [hw3, hg]; exact Blk.new w2 _ _)
    clear hw3 hg
    go_upto_region 5 with fail
    rw [← E3.out, ← EG.out]
    have hm : 0 < m := by omega
    have x0 : w3.cell? ⟨g, 0, none⟩ = some (.int .u8 0) := by rw [K3.out.cell 0]; simp [zeros, hm]
    have f0 := K3.out.frozen 0
    go_wp2_with fail
    obtain ⟨w4, hw4⟩ : ∃ w4, w4 = w3.setCell ⟨g, 0, none⟩ (.int .u8 64) := ⟨_, rfl⟩
    have K4 := Lib.hid (show Blk w4 g 5 ((zeros m (.int .u8 0)).setIfInBounds 0 (.int .u8 64)) from by rw [hw4]; exact K3.out.set_ 0 _)
    have B4 := Lib.hid (show Below w.heap.size w w4 from by rw [hw4]; exact B3.out.setCell (p := ⟨g, 0, none⟩) (by have := EG.out; have := B2.out.size; show w.heap.size ≤ g; omega) _)
    have L4 := Lib.hid (show Lies w4 g 0 (64 :: List.replicate (m - 1) 0) from fun i hi => by
      have hi2 : i < m := by simp at hi; omega
      rw [Nat.zero_add, K4.out.cell i]
      cases i with
      | zero => simp [zeros, hm]
      | succ i =>
        have h8 : i < m - 1 := by omega
        simp [zeros, hi2, h8])
    rw [← hw4]
    clear hw4 x0 f0
    obtain ⟨e, he, hp⟩ := HR.out w2
    rw [← EG.out] at hp
    have HE := Lib.hid he
    have HP := Lib.hid (hp w4 L4.out K4.out.lt)
    clear he hp HR
    refine HP.out.mono ?_
    rintro o w5 ⟨rfl, hb5⟩
    have B6 := Lib.hid ((onlyRow (g := w5.heap.size) #[.bool false, .int .i64 0, .bool false, .int .u64 0, .int .u64 0, .bool false, .int .u64 0, .int .u64 0, .int .i64 0, .int .i64 0, .int .i64 0, .int .i64 0, .bool false, .int .i64 0, .bool false, .int .u64 0, .int .u64 0, .bool false, .int .u64 0, .int .u64 0, .int .i64 0, .int .i64 0, .int .i64 0]).from ((B4.out.trans (hb5.mono B4.out.size)).alloc (B4.out.trans (hb5.mono B4.out.size)).size (.cells #[.bool false, .int .i64 0, .bool false, .int .u64 0, .int .u64 0, .bool false, .int .u64 0, .int .u64 0, .int .i64 0, .int .i64 0, .int .i64 0, .int .i64 0, .bool false, .int .i64 0, .bool false, .int .u64 0, .int .u64 0, .bool false, .int .u64 0, .int .u64 0, .int .i64 0, .int .i64 0, .int .i64 0] 58)) (B4.out.trans (hb5.mono B4.out.size)).size)
    clear hb5
    by_cases h9 : 9000 < m
    · have he := HE.out
      rw [if_pos h9] at he
      subst he
      have t9 : decide (9000 < (m : Int)) = true := decide_eq_true (by omega)
      have t9n : decide (9000 < m) = true := decide_eq_true h9
      clear h9
      go_wp2_with (first
        | (refine wpList_store_row rfl 58 _ _ rfl w5.heap.size #[.bool false, .int .i64 0, .bool false, .int .u64 0, .int .u64 0, .bool false, .int .u64 0, .int .u64 0, .int .i64 0, .int .i64 0, .int .i64 0, .int .i64 0, .bool false, .int .i64 0, .bool false, .int .u64 0, .int .u64 0, .bool false, .int .u64 0, .int .u64 0, .int .i64 0, .int .i64 0, .int .i64 0] rfl rfl 58 #[.bool false, .int .i64 0, .bool false, .int .u64 0, .int .u64 0, .bool false, .int .u64 0, .int .u64 0, .int .i64 0, .int .i64 0, .int .i64 0, .int .i64 0, .bool false, .int .i64 0, .bool false, .int .u64 0, .int .u64 0, .bool false, .int .u64 0, .int .u64 0, .int .i64 0, .int .i64 0, .int .i64 0] (Blk.new w5 _ _) HI.out rfl (by kernel_rfl) ?_)
        | (go_at_call 32; refine (HAW.out _).mono ?_; rintro o w7 ⟨rfl, hb7⟩))
      go_ret
      exact ⟨rfl, B6.out.trans (hb7.mono B6.out.size)⟩
    · have he := HE.out
      rw [if_neg h9] at he
      subst he
      have t9 : decide (9000 < (m : Int)) = false := decide_eq_false (by omega)
      have t9n : decide (9000 < m) = false := decide_eq_false h9
      clear h9
      go_wp2_with (first
        | (refine wpList_store_row rfl 58 _ _ rfl w5.heap.size #[.bool false, .int .i64 0, .bool false, .int .u64 0, .int .u64 0, .bool false, .int .u64 0, .int .u64 0, .int .i64 0, .int .i64 0, .int .i64 0, .int .i64 0, .bool false, .int .i64 0, .bool false, .int .u64 0, .int .u64 0, .bool false, .int .u64 0, .int .u64 0, .int .i64 0, .int .i64 0, .int .i64 0] rfl rfl 58 #[.bool false, .int .i64 0, .bool false, .int .u64 0, .int .u64 0, .bool false, .int .u64 0, .int .u64 0, .int .i64 0, .int .i64 0, .int .i64 0, .int .i64 0, .bool false, .int .i64 0, .bool false, .int .u64 0, .int .u64 0, .bool false, .int .u64 0, .int .u64 0, .int .i64 0, .int .i64 0, .int .i64 0] (Blk.new w5 _ _) HI.out rfl (by kernel_rfl) ?_)
        | (go_at_call 32; refine (HAW.out _).mono ?_; rintro o w7 ⟨rfl, hb7⟩))
      go_ret
      exact ⟨rfl, B6.out.trans (hb7.mono B6.out.size)⟩
end Go.Proofs.Ytndekicblbpkjaa.pktQ
