/- Layer 23: a nil set, one of a nil tree; the law of EligNobody. -/
import Derived.Test.YtlihgiannfpjfaaEliD
import Derived.Test.YtlihgiannfpjfaaTreL
namespace Go.Proofs.Ytlihgiannfpjfaa.eliF
open Go.ChangeShapes Go.WideShapes Go.ChangeAt Go.RowKit
open Go.Proofs.Ytlihgiannfpjfaa.base Go.Proofs.Ytlihgiannfpjfaa.dfA Go.Proofs.Ytlihgiannfpjfaa.treB Go.Proofs.Ytlihgiannfpjfaa.treD Go.Proofs.Ytlihgiannfpjfaa.treP Go.Proofs.Ytlihgiannfpjfaa.eliA Go.Proofs.Ytlihgiannfpjfaa.eliB Go.Proofs.Ytlihgiannfpjfaa.eliD
set_option linter.unusedVariables false

theorem empty_none (w : World) : Calls Try.prog 26 #[.pointer none] w fun e w' => e = .returned (.bool true) ∧ w' = w := by
  go_enter Try.func26, Try.ntmps26
  go_wp2
  go_ret
  exact ⟨rfl, rfl⟩
theorem empty_tree {w : World} {S : Nat} {v : Value} (h : Blk w S 55 #[.pointer none, v]) : Calls Try.prog 26 #[.pointer (some ⟨S, 0, none⟩)] w fun e w' => e = .returned (.bool true) ∧ w' = w := by
  have d0 : w.cell? ⟨S, 0, none⟩ = some (.pointer none) := h.cell 0
  clear h
  go_enter Try.func26, Try.ntmps26
  go_wp2
  go_ret
  exact ⟨rfl, rfl⟩
/-- Nothing can be told of it. -/
def Void (w : World) (p : Option Addr) : Prop := ∀ W, Below w.heap.size w W → Calls Try.prog 26 #[.pointer p] W fun e w' => e = .returned (.bool true) ∧ w' = W
theorem void_none (w : World) : Void w none := fun W _ => empty_none W
theorem void_tree {w : World} {S : Nat} {v : Value} (h : Blk w S 55 #[.pointer none, v]) : Void w (some ⟨S, 0, none⟩) := fun W hb => empty_tree (h.below hb h.lt)
theorem Void.below {w w' : World} {p : Option Addr} (h : Void w p) (hb : Below w.heap.size w w') : Void w' p := fun W hb2 => h W (hb.trans (hb2.mono hb.size))
set_option maxRecDepth 100000 in
set_option maxHeartbeats 4000000 in
theorem weight_e {w : World} {p : Option Addr} (h : Void w p) (i : Int) : Calls Try.prog 12 #[.pointer p, .int .i64 i] w fun e w' => e = .returned (.int .u64 0) ∧ ∃ q, w' = w.drewN q := by
  have HE := Lib.hid (fun k => h (w.drewN k) (below_n w k))
  clear h
  go_enter Try.func12, Try.ntmps12
  go_wp2_with fail
  go_quiet ((go_at_call 26; exact Calls.quiet_of_same (HE.out _)))
  go_wp2_with fail
  go_ret
  exact ⟨rfl, _, rfl⟩
theorem weight_b {w : World} {p : Option Addr} (h : Void w p) (i : Int) : Calls Try.prog 12 #[.pointer p, .int .i64 i] w fun e w' => e = .returned (.int .u64 0) ∧ Below w.heap.size w w' := (weight_e h i).mono (by rintro o w' ⟨rfl, q, rfl⟩; exact ⟨rfl, below_n w q⟩)
theorem has_b {w : World} {p : Option Addr} (h : Void w p) (i : Int) : Calls Try.prog 13 #[.pointer p, .int .i64 i] w fun e w' => e = .returned (.bool false) ∧ Below w.heap.size w w' := by
  have HW := Lib.hid (weight_b h i)
  clear h
  go_enter Try.func13, Try.ntmps13
  go_wp2_with fail
  refine HW.out.mono ?_
  rintro o w1 ⟨rfl, hb⟩
  have HB := Lib.hid hb
  clear hb
  go_wp2_with fail
  go_ret
  exact ⟨rfl, HB.out⟩
theorem domains_b {w : World} {p : Option Addr} (h : Void w p) (k : Int) : Calls Try.prog 18 #[.pointer p, .int .i64 k] w fun e w' => e = .returned (.slice none 0 0) ∧ Below w.heap.size w w' := by
  have HE := Lib.hid (h w (Below.refl _ _))
  have HB := Lib.hid (Below.refl w.heap.size w)
  clear h
  go_enter Try.func18, Try.ntmps18
  go_wp2_with fail
  refine HE.out.mono ?_
  rintro o w1 ⟨rfl, rfl⟩
  go_wp2_with fail
  go_ret
  exact ⟨rfl, HB.out⟩
theorem list_b {w : World} {p : Option Addr} (h : Void w p) : Calls Try.prog 11 #[.pointer p] w fun e w' => e = .returned (.slice none 0 0) ∧ Below w.heap.size w w' := by
  have HD := Lib.hid (domains_b h 4)
  clear h
  go_enter Try.func11, Try.ntmps11
  go_wp2_with fail
  refine HD.out.mono ?_
  rintro o w1 ⟨rfl, hb⟩
  have HB := Lib.hid hb
  clear hb
  go_wp2_with fail
  go_ret
  exact ⟨rfl, HB.out⟩
theorem counts_b {w : World} {p : Option Addr} (h : Void w p) : Calls Try.prog 17 #[.pointer p] w fun e w' => e = .returned (.tuple #[.slice none 0 0, .slice none 0 0]) ∧ Below w.heap.size w w' := by
  have HE := Lib.hid (h w (Below.refl _ _))
  have HB := Lib.hid (Below.refl w.heap.size w)
  clear h
  go_enter Try.func17, Try.ntmps17
  go_wp2_with fail
  refine HE.out.mono ?_
  rintro o w1 ⟨rfl, rfl⟩
  go_wp2_with fail
  go_ret2
  exact ⟨rfl, HB.out⟩
set_option maxHeartbeats 4000000 in
theorem without_b (A : Option Addr) (n c : Nat) (w : World) : Calls Try.prog 20 #[.pointer none, .slice A n c] w fun e w' => e = .returned (.pointer none) ∧ Below w.heap.size w w' := by
  obtain ⟨w1, hw1⟩ : ∃ w1, w1 = (w.alloc (.cells #[.pointer none] 28)).alloc (.cells #[.slice A n c] 23) := ⟨_, rfl⟩
  have BA := Lib.hid (show Below w.heap.size w w1 from hw1 ▸ ((Below.refl w.heap.size w).alloc (Nat.le_refl _) _).alloc (by simp) _)
  have HW1 := Lib.hid (show (w.alloc (.cells #[.pointer none] 28)).alloc (.cells #[.slice A n c] 23) = w1 from hw1.symm)
  have HE := Lib.hid (empty_none w1)
  have c1 : ((w.alloc (.cells #[.pointer none] 28)).alloc (.cells #[.slice A n c] 23)).cell? ⟨w.heap.size, 0, none⟩ = some (.pointer none) := ((Blk.new w 28 #[.pointer none]).alloc _).cell 0
  have c2 : w1.cell? ⟨w.heap.size, 0, none⟩ = some (.pointer none) := by rw [hw1]; exact c1
  clear hw1
  go_enter Try.func20, Try.ntmps20
  go_wp2_with fail
  rw [HW1.out]
  refine HE.out.mono ?_
  rintro o w2 ⟨rfl, rfl⟩
  go_wp2_with fail
  go_ret
  exact ⟨rfl, BA.out⟩
set_option maxRecDepth 100000 in
set_option maxHeartbeats 8000000 in
theorem new_none (x : Int) (b c : Nat) (w : World) (hc : w.cell? ⟨b, 0, none⟩ = some (.int .i64 x)) (hc1 : 1 ≤ c) (hc2 : c ≤ 9223372036854775807) : Calls Try.prog 9 #[.pointer none, .slice (some ⟨b, 0, none⟩) 1 c] w fun e w' => ∃ S v, e = .returned (.pointer (some ⟨S, 0, none⟩)) ∧ Blk w' S 55 #[.pointer none, v] ∧ Below w.heap.size w w' := by
  obtain ⟨i0, hi0, hz0, hz1, hz2⟩ := info_parts info_u
  have hmk := Lib.hid (fun (W : World) => run_make_one (P := Try.prog) 30 33 i0 _ Try.underlying30 hi0 hz0 hz1 rfl .i64 .i64 0 (by omega) (by rw [hz2]; omega) (by omega) W)
  have HL := Lib.hid (fun W => len_none W)
  have HN := Lib.hid (fun W => node_none x W)
  have HC := Lib.hid (show ∀ W, Below w.heap.size w W → W.cell? ⟨b, 0, none⟩ = some (.int .i64 x) from fun W hb => (hb.cell (p := ⟨b, 0, none⟩) (World.block_lt_of_cell? w _ hc)).trans hc)
  clear hi0 hz0 hz1 hz2 hc
  go_enter Try.func9, Try.ntmps9
  go_wp2_with fail
  refine (HL.out _).mono ?_
  rintro o w1 ⟨rfl, hb⟩
  have B1 := Lib.hid hb
  have hmk2 := hmk.out w1
  clear hb
  go_wp2_with fail
  obtain ⟨w2, hw2⟩ : ∃ w2, w2 = (w1.alloc (.cells (zeros 0 (.int .u64 0)) 33)).alloc (.cells #[.pointer none, .slice (some ⟨w1.heap.size, 0, none⟩) 0 0] 55) := ⟨_, rfl⟩
  rw [← hw2]
  have B2 := Lib.hid (show Below w.heap.size w w2 from hw2 ▸ (B1.out.alloc B1.out.size _).alloc (by simp; have := B1.out.size; omega) _)
  have K2 := Lib.hid (show Blk w2 (w1.heap.size + 1) 55 #[.pointer none, .slice (some ⟨w1.heap.size, 0, none⟩) 0 0] from by
    have := Blk.new (w1.alloc (.cells (zeros 0 (.int .u64 0)) 33)) 55 #[.pointer none, .slice (some ⟨w1.heap.size, 0, none⟩) 0 0]
    rw [hw2]
    simpa using this)
  clear hw2 hmk2
  go_loopw [19] (fun i wr => ∃ k : Nat, i = .int .i64 k ∧ k ≤ 1 ∧ Hid (Blk wr (w1.heap.size + 1) 55 #[.pointer none, .slice (some ⟨w1.heap.size, 0, none⟩) 0 0]) ∧ Hid (Below w.heap.size w wr)) (fun i _ => 1 - (intOf i).toNat)
  case atStart => exact ⟨0, rfl, by omega, K2, B2⟩
  case round =>
    obtain ⟨k, rfl, hk, HK, HB⟩ := hrel
    by_cases hkn : k = 0
    · subst hkn
      have d0 := HC.out wr HB.out
      go_wp2_with fail
      refine (HN.out _).mono ?_
      rintro o w3 ⟨rfl, hb⟩
      have B3 := Lib.hid ((HB.out.trans (hb.mono HB.out.size)).alloc (HB.out.trans (hb.mono HB.out.size)).size (.cells #[.string ByteArray.empty, .int .i64 0, .int .i64 0, .int .i64 0, .bool false, .int .u64 0, .int .u64 0] 44))
      have K3 := Lib.hid ((HK.out.below hb HK.out.lt).alloc (.cells #[.string ByteArray.empty, .int .i64 0, .int .i64 0, .int .i64 0, .bool false, .int .u64 0, .int .u64 0] 44))
      have x1 : (w3.alloc (.cells #[.string ByteArray.empty, .int .i64 0, .int .i64 0, .int .i64 0, .bool false, .int .u64 0, .int .u64 0] 44)).cell? ⟨w3.heap.size, 1, none⟩ = some (.int .i64 0) := (Blk.new w3 44 #[.string ByteArray.empty, .int .i64 0, .int .i64 0, .int .i64 0, .bool false, .int .u64 0, .int .u64 0]).cell 1
      clear hb d0
      unfold zNd Nd.cells
      dsimp only
      go_wp2_with fail
      go_roundw
      case rel => exact ⟨1, rfl, by omega, K3, B3⟩
      case measure => simp [intOf]
    · obtain rfl : k = 1 := by omega
      go_wp2_with fail
      refine (HL.out _).mono ?_
      rintro o w3 ⟨rfl, hb⟩
      have B3 := Lib.hid (HB.out.trans (hb.mono HB.out.size))
      have K3 := Lib.hid (HK.out.below hb HK.out.lt)
      clear hb
      go_wp2_with fail
      go_loopw [9] (fun i wr => i = .int .i64 (-1) ∧ wr = w3) (fun _ _ => 0)
      case atStart => exact ⟨rfl, rfl⟩
      case round =>
        obtain ⟨rfl, rfl⟩ := hrel
        have t0 : decide ((0 : Int) ≤ -1) = false := by decide
        go_wp2_with fail
        go_ret
        exact ⟨_, _, rfl, K3.out, B3.out⟩
set_option maxRecDepth 100000 in
set_option maxHeartbeats 8000000 in
theorem nobody_any (i : Int) (w : World) : Calls Try.prog 6 #[.int .i64 i] w fun o w' => o = .returned (.bool true) ∧ Below w.heap.size w w' := by
  have HC := Lib.hid (counts_b (void_none w))
  have HAW := Lib.hid (fun W => awake_any W)
  go_enter Try.func6, Try.ntmps6
  go_wp2_with fail
  refine HC.out.mono ?_
  rintro o w1 ⟨rfl, hb⟩
  have B1 := Lib.hid hb
  have BA := Lib.hid (B1.out.alloc B1.out.size (.cells #[.int .i64 i] 3))
  have HN := Lib.hid (new_none i w1.heap.size 1 (w1.alloc (.cells #[.int .i64 i] 3)) ((Blk.new w1 3 #[.int .i64 i]).cell 0) (Nat.le_refl _) (by omega))
  clear hb
  go_wp2_with fail
  refine HN.out.mono ?_
  rintro o w2 ⟨S, v, rfl, hk, hb⟩
  have B2 := Lib.hid (BA.out.trans (hb.mono BA.out.size))
  have V2 := Lib.hid (void_tree hk)
  have HW := Lib.hid (weight_b (void_none w2) i)
  clear hk hb
  go_wp2_with fail
  refine HW.out.mono ?_
  rintro o w3 ⟨rfl, hb⟩
  have B3 := Lib.hid (B2.out.trans (hb.mono B2.out.size))
  have V3 := Lib.hid (V2.out.below hb)
  have HH := Lib.hid (has_b (void_none w3) i)
  clear hb
  go_wp2_with fail
  refine HH.out.mono ?_
  rintro o w4 ⟨rfl, hb⟩
  have B4 := Lib.hid (B3.out.trans (hb.mono B3.out.size))
  have V4 := Lib.hid (V3.out.below hb)
  have HL := Lib.hid (list_b (void_none w4))
  clear hb
  go_wp2_with fail
  refine HL.out.mono ?_
  rintro o w5 ⟨rfl, hb⟩
  have B5 := Lib.hid (B4.out.trans (hb.mono B4.out.size))
  have V5 := Lib.hid (V4.out.below hb)
  have HD := Lib.hid (domains_b (void_none w5) 4)
  clear hb
  go_wp2_with fail
  refine HD.out.mono ?_
  rintro o w6 ⟨rfl, hb⟩
  have B6 := Lib.hid (B5.out.trans (hb.mono B5.out.size))
  have V6 := Lib.hid (V5.out.below hb)
  have B7 := Lib.hid (B6.out.alloc B6.out.size (.cells #[.int .i64 i] 3))
  have V7 := Lib.hid (V6.out.below (show Below w6.heap.size w6 (w6.alloc (.cells #[.int .i64 i] 3)) from (Below.refl _ _).alloc (Nat.le_refl _) _))
  have HO := Lib.hid (without_b (some ⟨w6.heap.size, 0, none⟩) 1 1 (w6.alloc (.cells #[.int .i64 i] 3)))
  clear hb
  go_wp2_with fail
  refine HO.out.mono ?_
  rintro o w8 ⟨rfl, hb⟩
  have B8 := Lib.hid (B7.out.trans (hb.mono B7.out.size))
  have V8 := Lib.hid (V7.out.below hb)
  have HX := Lib.hid (weight_b V8.out i)
  clear hb
  go_wp2_with fail
  refine HX.out.mono ?_
  rintro o w9 ⟨rfl, hb⟩
  have B9 := Lib.hid (B8.out.trans (hb.mono B8.out.size))
  have HY := Lib.hid (list_b (V8.out.below hb))
  clear hb
  go_wp2_with fail
  refine HY.out.mono ?_
  rintro o w10 ⟨rfl, hb⟩
  have B10 := Lib.hid (B9.out.trans (hb.mono B9.out.size))
  clear hb
  go_wp2_with fail
  refine (HAW.out _).mono ?_
  rintro o w11 ⟨rfl, hb⟩
  have B11 := Lib.hid (B10.out.trans (hb.mono B10.out.size))
  clear hb
  go_wp2_with fail
  go_ret
  exact ⟨rfl, B11.out⟩
end Go.Proofs.Ytlihgiannfpjfaa.eliF
