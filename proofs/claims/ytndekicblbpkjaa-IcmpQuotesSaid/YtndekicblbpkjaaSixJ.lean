/- Layer 5: the bytes of an address of version 6. -/
import Derived.Test.YtndekicblbpkjaaSixB
namespace Go.Proofs.Ytndekicblbpkjaa.sixJ
open Go.ChangeShapes Go.WideShapes Go.ChangeAt Go.RowKit
open Go.Proofs.Ytndekicblbpkjaa.base Go.Proofs.Ytndekicblbpkjaa.octA Go.Proofs.Ytndekicblbpkjaa.octB Go.Proofs.Ytndekicblbpkjaa.octC Go.Proofs.Ytndekicblbpkjaa.octF Go.Proofs.Ytndekicblbpkjaa.octK Go.Proofs.Ytndekicblbpkjaa.net Go.Proofs.Ytndekicblbpkjaa.rdrA Go.Proofs.Ytndekicblbpkjaa.rdrG Go.Proofs.Ytndekicblbpkjaa.sumA Go.Proofs.Ytndekicblbpkjaa.sumB Go.Proofs.Ytndekicblbpkjaa.udpA Go.Proofs.Ytndekicblbpkjaa.tcpC Go.Proofs.Ytndekicblbpkjaa.sixW Go.Proofs.Ytndekicblbpkjaa.sixM Go.Proofs.Ytndekicblbpkjaa.sixA Go.Proofs.Ytndekicblbpkjaa.sixB
set_option linter.unusedVariables false

theorem bits_six (a b : Int) (w : World) : Calls Try.prog 77 #[.agg #[.bool true, .int .u64 a, .int .u64 b]] w fun o w' => o = .returned (.int .i64 128) ∧ Below w.heap.size w w' := by
  go_enter Try.func77, Try.ntmps77
  go_wp2
  go_ret
  exact ⟨rfl, (Below.refl _ _).alloc (Nat.le_refl _) _⟩
/-- What is in the array behind some rounds. -/
def aB (hh ll : Int) (j i : Nat) : Int := if i < 8 then (if i < j then byteZ hh (7 - i) else 0) else (if i - 8 < j then byteZ ll (7 - (i - 8)) else 0)
structure Ar (hh ll : Int) (j : Nat) (cs : Array Value) : Prop where
  size : cs.size = 16
  at_ : ∀ i, i < 16 → cs[i]? = some (.int .u8 (aB hh ll j i))
theorem Ar.zero (hh ll : Int) : Ar hh ll 0 #[.int .u8 0, .int .u8 0, .int .u8 0, .int .u8 0, .int .u8 0, .int .u8 0, .int .u8 0, .int .u8 0, .int .u8 0, .int .u8 0, .int .u8 0, .int .u8 0, .int .u8 0, .int .u8 0, .int .u8 0, .int .u8 0] := ⟨rfl, fun i hi => by
  have : aB hh ll 0 i = 0 := by unfold aB; simp
  rw [this]
  show ((List.replicate 16 (Value.int .u8 0)).toArray)[i]? = _
  rw [List.getElem?_toArray, List.getElem?_replicate, if_pos hi]⟩
theorem Ar.next {hh ll : Int} {j : Nat} {cs : Array Value} (h : Ar hh ll j cs) (hj : j < 8) : Ar hh ll (j + 1) ((cs.setIfInBounds j (.int .u8 (byteZ hh (7 - j)))).setIfInBounds (8 + j) (.int .u8 (byteZ ll (7 - j)))) := by
  refine ⟨by rw [Array.size_setIfInBounds, Array.size_setIfInBounds]; exact h.size, fun i hi => ?_⟩
  have hs := h.size
  rw [Array.getElem?_setIfInBounds, Array.getElem?_setIfInBounds, Array.size_setIfInBounds]
  by_cases h1 : 8 + j = i
  · subst h1
    rw [if_pos rfl, if_pos (by omega)]
    unfold aB
    rw [if_neg (by omega), show 8 + j - 8 = j by omega, if_pos (by omega)]
  · rw [if_neg h1]
    by_cases h2 : j = i
    · subst h2
      rw [if_pos rfl, if_pos (by omega)]
      unfold aB
      rw [if_pos (by omega), if_pos (by omega)]
    · rw [if_neg h2, h.at_ i hi]
      congr 2
      unfold aB
      by_cases h3 : i < 8
      · rw [if_pos h3, if_pos h3]
        by_cases h4 : i < j
        · rw [if_pos h4, if_pos (by omega)]
        · rw [if_neg h4, if_neg (by omega)]
      · rw [if_neg h3, if_neg h3]
        by_cases h4 : i - 8 < j
        · rw [if_pos h4, if_pos (by omega)]
        · rw [if_neg h4, if_neg (by omega)]
theorem aB_list (hh ll : Int) (i : Nat) (hi : i < 16) : some (Value.int .u8 (aB hh ll 8 i)) = ((pb hh 8 8 ++ pb ll 8 8).map (Value.int .u8))[i]? := by
  have e1 : (pb hh 8 8).length = 8 := pb_len hh 8 8
  rw [List.getElem?_map]
  unfold aB
  by_cases h : i < 8
  · rw [if_pos h, if_pos h, List.getElem?_append_left (by omega)]
    unfold pb
    rw [List.getElem?_map, List.getElem?_range (by omega)]
    rfl
  · rw [if_neg h, if_pos (by omega), List.getElem?_append_right (by omega), e1]
    unfold pb
    rw [List.getElem?_map, List.getElem?_range (by omega)]
    rfl
set_option maxHeartbeats 4000000 in
set_option maxRecDepth 100000 in
theorem abytes_any (hh ll : Int) (w : World) (h0 : 0 ≤ hh) (h1 : hh < 18446744073709551616) (l0 : 0 ≤ ll) (l1 : ll < 18446744073709551616) :
    Calls Try.prog 44 #[.agg #[.bool true, .int .u64 hh, .int .u64 ll]] w fun o w' => ∃ v, o = .returned v ∧ w'.ownsRow w.heap.size 5 1 v 16 ((pb hh 8 8 ++ pb ll 8 8).map (.int .u8)) ∧ Below w.heap.size w w' := by
  obtain ⟨i0, hi0, hz0, hz1, hz2⟩ := info_parts info_u8
  obtain ⟨g, hg⟩ : ∃ g, g = w.heap.size := ⟨_, rfl⟩
  obtain ⟨w1, hw1⟩ : ∃ w1, w1 = w.alloc (.cells #[.bool true, .int .u64 hh, .int .u64 ll] 26) := ⟨_, rfl⟩
  have E1 := Lib.hid hw1
  have EG := Lib.hid hg
  have s1 : w1.heap.size = g + 1 := by rw [hw1, hg]; simp
  have K1 := Lib.hid (show Blk w1 g 26 #[.bool true, .int .u64 hh, .int .u64 ll] from by rw [hw1, hg]; exact Blk.new w _ _)
  obtain ⟨w2, hw2⟩ : ∃ w2, w2 = w1.alloc (.cells #[.int .u8 0, .int .u8 0, .int .u8 0, .int .u8 0, .int .u8 0, .int .u8 0, .int .u8 0, .int .u8 0, .int .u8 0, .int .u8 0, .int .u8 0, .int .u8 0, .int .u8 0, .int .u8 0, .int .u8 0, .int .u8 0] 112) := ⟨_, rfl⟩
  have E2 := Lib.hid hw2
  have B2 := Lib.hid (show Below g w w2 from by rw [hw2, hw1, hg]; exact ((Below.refl _ _).alloc (Nat.le_refl _) _).alloc (by simp) _)
  have BB := Lib.hid (show Below w1.heap.size w1 w2 from by rw [hw2]; exact (Below.refl _ _).alloc (Nat.le_refl _) _)
  have K2 := Lib.hid (show Blk w2 (g + 1) 112 #[.int .u8 0, .int .u8 0, .int .u8 0, .int .u8 0, .int .u8 0, .int .u8 0, .int .u8 0, .int .u8 0, .int .u8 0, .int .u8 0, .int .u8 0, .int .u8 0, .int .u8 0, .int .u8 0, .int .u8 0, .int .u8 0] from by rw [hw2, ← s1]; exact Blk.new w1 _ _)
  have S2 := Lib.hid (show w2.heap.size = g + 2 from by rw [hw2]; simp; omega)
  have KA := Lib.hid (K1.out.below BB.out K1.out.lt)
  have S1 := Lib.hid s1
  rw [← EG.out]
  clear hw1 hw2 hg s1
  go_enter Try.func44, Try.ntmps44
  go_upto_region 2 with fail
  rw [← EG.out, ← E1.out, ← E2.out]
  go_wp2_with fail
  go_loopw [7] (fun i wr => ∃ (j : Nat) (cs : Array Value), j ≤ 8 ∧ i = .int .i64 j ∧ Hid (Ar hh ll j cs) ∧ Hid (Blk wr (g + 1) 112 cs) ∧ Hid (Blk wr g 26 #[.bool true, .int .u64 hh, .int .u64 ll]) ∧ Hid (Below g w wr) ∧ Hid (g + 2 ≤ wr.heap.size)) (fun i _ => 8 - (intOf i).toNat)
  case atStart => exact ⟨0, _, by omega, rfl, Lib.hid (Ar.zero hh ll), K2, KA, B2, Lib.hid (by have := S2.out; omega)⟩
  case round =>
    obtain ⟨j, cs, hj, rfl, HA, HK, HKA, HB, HZ⟩ := hrel
    have d1 := HKA.out.cell 1
    have d2 := HKA.out.cell 2
    by_cases hlt : j < 8
    · obtain ⟨q, hq⟩ : ∃ q, q = 7 - j := ⟨_, rfl⟩
      have w8 : IntKind.i64.wrap (8 * (j : Int)) = 8 * (j : Int) := IntWalk.i64_in _ (by omega)
      have w56 : IntKind.i64.wrap (56 - 8 * (j : Int)) = ((8 * q : Nat) : Int) := by rw [IntWalk.i64_in _ (by omega)]; omega
      have c1 := (HK.out.cell j).trans (HA.out.at_ j (by omega))
      have c2 := (HK.out.cell (8 + j)).trans (HA.out.at_ (8 + j) (by omega))
      have f1 := HK.out.frozen j
      have f2 := HK.out.frozen (8 + j)
      have t1 : decide ((j : Int) < 8) = true := decide_eq_true (by omega)
      have i0 : (0 : Int) ≤ j := by omega
      have i1 : (j : Int) < 16 := by omega
      have w88 : IntKind.i64.wrap (8 + (j : Int)) = 8 + (j : Int) := IntWalk.i64_in _ (by omega)
      have HK2 := Lib.hid (show Blk (wr.setCell ⟨g + 1, j, none⟩ (.int .u8 (byteZ hh q))) (g + 1) 112 (cs.setIfInBounds j (.int .u8 (byteZ hh q))) from HK.out.set_ j _)
      have c3 : (wr.setCell ⟨g + 1, j, none⟩ (.int .u8 (byteZ hh q))).cell? ⟨g + 1, 8 + j, none⟩ = some (.int .u8 (aB hh ll j (8 + j))) := by
        rw [HK2.out.cell, Array.getElem?_setIfInBounds, if_neg (by omega)]
        exact HA.out.at_ (8 + j) (by omega)
      have f3 := HK2.out.frozen (8 + j)
      have i2 : (0 : Int) ≤ 8 + j := by omega
      have i3 : 8 + (j : Int) < 16 := by omega
      have HKZ := Lib.hid (show Blk ((wr.setCell ⟨g + 1, j, none⟩ (.int .u8 (byteZ hh q))).setCell ⟨g + 1, 8 + j, none⟩ (.int .u8 (byteZ ll q))) (g + 1) 112 ((cs.setIfInBounds j (.int .u8 (byteZ hh q))).setIfInBounds (8 + j) (.int .u8 (byteZ ll q))) from HK2.out.set_ (8 + j) _)
      have BZ := Lib.hid (show Below (g + 1) wr ((wr.setCell ⟨g + 1, j, none⟩ (.int .u8 (byteZ hh q))).setCell ⟨g + 1, 8 + j, none⟩ (.int .u8 (byteZ ll q))) from ((Below.refl _ _).setCell (p := ⟨g + 1, j, none⟩) (Nat.le_refl (g + 1)) _).setCell (p := ⟨g + 1, 8 + j, none⟩) (Nat.le_refl (g + 1)) _)
      have hq8 : (q : Int) ≤ 7 := by omega
      have hq9 : q ≤ 7 := by omega
      have hdh : 0 ≤ hh / 2 ^ (8 * q) := Int.ediv_nonneg h0 (Int.le_of_lt (Int.pow_pos (by decide)))
      have hdl : 0 ≤ ll / 2 ^ (8 * q) := Int.ediv_nonneg l0 (Int.le_of_lt (Int.pow_pos (by decide)))
      have hbh : IntKind.u8.wrap (hh / 2 ^ (8 * q)) = byteZ hh q := by rw [IntKind.wrap_u8']; rfl
      have hbl : IntKind.u8.wrap (ll / 2 ^ (8 * q)) = byteZ ll q := by rw [IntKind.wrap_u8']; rfl
      have HAN := Lib.hid (show Ar hh ll (j + 1) ((cs.setIfInBounds j (.int .u8 (byteZ hh q))).setIfInBounds (8 + j) (.int .u8 (byteZ ll q))) from hq ▸ Ar.next HA.out hlt)
      clear hq
      go_wp2_with fail
      go_roundw
      case rel => exact ⟨j + 1, _, by omega, by go_num, HAN, HKZ, Lib.hid (HKA.out.below BZ.out (Nat.lt_succ_self g)), Lib.hid (HB.out.trans (BZ.out.mono (Nat.le_succ g))), Lib.hid (Nat.le_trans HZ.out BZ.out.size)⟩
      case measure => simp [intOf]; omega
    · obtain rfl : j = 8 := by omega
      have d0 := HKA.out.cell 0
      have hmk := fun (W : World) => run_make_one (P := Try.prog) 22 5 i0 _ Try.underlying22 hi0 hz0 hz1 rfl .i64 .i64 (16 : Int) (by omega) (by rw [hz2]; omega) (by omega) W
      have HBT := Lib.hid (fun V => bits_six hh ll V)
      have t1 : decide (((8 : Nat) : Int) < 8) = false := by decide
      go_wp2_with fail
      refine (HBT.out _).mono ?_
      rintro e w5 ⟨rfl, hb5⟩
      have B5 := Lib.hid (HK.out.below hb5 HK.out.lt)
      have L5 := Lib.hid (show Below g w w5 from HB.out.trans (hb5.mono (by have := HZ.out; omega)))
      have Z5 := Lib.hid (show g + 2 ≤ w5.heap.size from Nat.le_trans HZ.out hb5.size)
      have BZ := Lib.hid (show Blk (w5.alloc (.cells (zeros 16 (.int .u8 0)) 5)) w5.heap.size 5 ([Value.int .u8 0, .int .u8 0, .int .u8 0, .int .u8 0, .int .u8 0, .int .u8 0, .int .u8 0, .int .u8 0, .int .u8 0, .int .u8 0, .int .u8 0, .int .u8 0, .int .u8 0, .int .u8 0, .int .u8 0, .int .u8 0] : List Value).toArray from Blk.new w5 5 (zeros 16 (.int .u8 0)))
      have BA := Lib.hid (B5.out.alloc (.cells (zeros 16 (.int .u8 0)) 5))
      have LZ := Lib.hid (L5.out.alloc (by have := Z5.out; omega) (.cells (zeros 16 (.int .u8 0)) 5))
      have SRC := Lib.hid (show ∀ i v, ((pb hh 8 8 ++ pb ll 8 8).map (Value.int .u8))[i]? = some v → (w5.alloc (.cells (zeros 16 (.int .u8 0)) 5)).cell? ((⟨g + 1, 0, none⟩ : Addr).add i) = some v from fun i v hv => by
        have hi : i < 16 := by have := (List.getElem?_eq_some_iff.1 hv).1; simpa [pb] using this
        rw [Addr.add_lit, Nat.zero_add, BA.out.cell, HA.out.at_ i hi, ← hv, aB_list hh ll i hi])
      have ONE := Lib.hid (show ∀ v ∈ (pb hh 8 8 ++ pb ll 8 8).map (Value.int .u8), v.oneCell' = true from fun v hv => by
        rw [List.mem_map] at hv
        obtain ⟨x, _, rfl⟩ := hv
        rfl)
      have LE := Lib.hid (show g ≤ w5.heap.size from by have := Z5.out; omega)
      clear hb5 d0 d1 d2
      go_wp2_with (refine wpList_copy_splice (o := ⟨some 39, _, _, _, _, _⟩) rfl (.tmp 34) (.tmp 38) 22 22 rfl 5 Try.underlying22 info1 (some ⟨w5.heap.size, 0, none⟩) (some ⟨g + 1, 0, none⟩) 16 16 16 16 rfl rfl w5.heap.size 0 [Value.int .u8 0, .int .u8 0, .int .u8 0, .int .u8 0, .int .u8 0, .int .u8 0, .int .u8 0, .int .u8 0, .int .u8 0, .int .u8 0, .int .u8 0, .int .u8 0, .int .u8 0, .int .u8 0, .int .u8 0, .int .u8 0] 5 BZ.out ((pb hh 8 8 ++ pb ll 8 8).map (Value.int .u8)) rfl (fun _ => ⟨rfl, _, rfl, SRC.out⟩) (Nat.le_refl _) ONE.out g w LZ.out LE.out ?_; intro w6 hg6 hb6; have G6 := hg6; have L6 := Lib.hid hb6; clear hg6 hb6)
      go_ret
      refine ⟨_, rfl, ⟨rfl, .inr ⟨w5.heap.size, 16, _, rfl, LE.out, G6.out, Nat.le_refl _, by unfold maxLen; omega, rfl, rfl⟩⟩, L6.out⟩
end Go.Proofs.Ytndekicblbpkjaa.sixJ
