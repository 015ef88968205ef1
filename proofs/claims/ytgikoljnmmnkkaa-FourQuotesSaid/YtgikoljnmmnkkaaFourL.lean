/- Layer 5: the bytes of an address that isn't V6. -/
import Derived.Test.YtgikoljnmmnkkaaFourE
namespace Go.Proofs.Ytgikoljnmmnkkaa.fourL
open Go.ChangeShapes Go.WideShapes Go.ChangeAt Go.RowKit
open Go.Proofs.Ytgikoljnmmnkkaa.base Go.Proofs.Ytgikoljnmmnkkaa.sumA Go.Proofs.Ytgikoljnmmnkkaa.sumB Go.Proofs.Ytgikoljnmmnkkaa.octA Go.Proofs.Ytgikoljnmmnkkaa.octB Go.Proofs.Ytgikoljnmmnkkaa.octC Go.Proofs.Ytgikoljnmmnkkaa.octD Go.Proofs.Ytgikoljnmmnkkaa.octE Go.Proofs.Ytgikoljnmmnkkaa.octF Go.Proofs.Ytgikoljnmmnkkaa.octK Go.Proofs.Ytgikoljnmmnkkaa.rdrA Go.Proofs.Ytgikoljnmmnkkaa.udpA Go.Proofs.Ytgikoljnmmnkkaa.tcpC Go.Proofs.Ytgikoljnmmnkkaa.net Go.Proofs.Ytgikoljnmmnkkaa.fourA Go.Proofs.Ytgikoljnmmnkkaa.fourB Go.Proofs.Ytgikoljnmmnkkaa.fourC Go.Proofs.Ytgikoljnmmnkkaa.fourD Go.Proofs.Ytgikoljnmmnkkaa.fourE
set_option linter.unusedVariables false

def bt (lo : Int) (k : Nat) : Int := lo / (2 : Int) ^ (56 - 8 * k) % 256
def Arr (lo : Int) (j : Nat) (cs : Array Value) : Prop := cs.size = 16 ∧ (∀ (i : Nat) (v : Value), cs[i]? = some v → v.oneCell' = true) ∧ ∀ k, k < j → cs[8 + k]? = some (.int .u8 (bt lo k))
theorem arr_zero (lo : Int) : Arr lo 0 (Array.replicate 16 (.int .u8 0)) := by
  refine ⟨by simp, ?_, fun k hk => by omega⟩
  intro i v h
  rw [Array.getElem?_replicate] at h
  split at h
  · obtain rfl := Option.some.inj h; rfl
  · cases h
theorem arr_next {lo : Int} {j : Nat} {cs : Array Value} (h : Arr lo j cs) (hj : j < 8) (x y : Int) (hy : y = bt lo j) : Arr lo (j + 1) ((cs.setIfInBounds j (.int .u8 x)).setIfInBounds (8 + j) (.int .u8 y)) := by
  obtain ⟨h1, h2, h3⟩ := h
  refine ⟨by simp [h1], ?_, ?_⟩
  · intro i v hv
    rw [Array.getElem?_setIfInBounds] at hv
    split at hv
    · split at hv
      · obtain rfl := Option.some.inj hv; rfl
      · cases hv
    · rw [Array.getElem?_setIfInBounds] at hv
      split at hv
      · split at hv
        · obtain rfl := Option.some.inj hv; rfl
        · cases hv
      · exact h2 i v hv
  · intro k hk
    rw [Array.getElem?_setIfInBounds]
    by_cases hkj : k = j
    · subst hkj
      rw [if_pos rfl, if_pos (by simp [h1]; omega), hy]
    · rw [if_neg (by omega), Array.getElem?_setIfInBounds, if_neg (by omega)]
      exact h3 k (by omega)
theorem arr_at {lo : Int} {j : Nat} {cs : Array Value} (h : Arr lo j cs) (i : Nat) (hi : i < 16) : ∃ v, cs[i]? = some v := by
  obtain ⟨h1, _⟩ := h
  exact ⟨_, Array.getElem?_eq_getElem (by omega)⟩
theorem arr_src {lo : Int} {w : World} {g : Nat} {t : TypeId} {cs : Array Value} (h : Arr lo 8 cs) (hB : Blk w g t cs) : ∀ j v, ([bt lo 4, bt lo 5, bt lo 6, bt lo 7].map (Value.int .u8))[j]? = some v → w.cell? ((⟨g, 12, none⟩ : Addr).add j) = some v := by
  intro j v hv
  rw [Addr.add_lit, hB.cell]
  have hj : j < 4 := by
    have := (List.getElem?_eq_some_iff.mp hv).1
    simpa using this
  have := h.2.2 (4 + j) (by omega)
  rw [show 12 + j = 8 + (4 + j) by omega, this, ← hv]
  match j, hj with
  | 0, _ => rfl
  | 1, _ => rfl
  | 2, _ => rfl
  | 3, _ => rfl
theorem arr_one (lo : Int) : ∀ u ∈ [bt lo 4, bt lo 5, bt lo 6, bt lo 7].map (Value.int .u8), u.oneCell' = true := by
  intro u hu
  rw [List.mem_map] at hu
  obtain ⟨x, _, rfl⟩ := hu
  rfl
set_option maxRecDepth 100000 in
theorem bits_four (hi lo : Int) (w : World) :
    Calls Try.prog 68 #[.agg #[.bool false, .int .u64 hi, .int .u64 lo]] w fun e w' => e = .returned (.int .i64 32) ∧ Below w.heap.size w w' := by
  go_enter Try.func68, Try.ntmps68
  go_wp2
  go_ret
  exact ⟨rfl, (Below.refl _ _).alloc (Nat.le_refl _) _⟩
set_option maxRecDepth 100000 in
set_option maxHeartbeats 4000000 in
theorem addr_four (hi lo : Int) (w : World) (h0 : 0 ≤ hi) (h1 : 0 ≤ lo) :
    Calls Try.prog 34 #[.agg #[.bool false, .int .u64 hi, .int .u64 lo]] w fun e w' => ∃ v, e = .returned v ∧ w'.ownsRow w.heap.size 5 1 v 4 ([bt lo 4, bt lo 5, bt lo 6, bt lo 7].map (.int .u8)) ∧ Below w.heap.size w w' := by
  have HSZ := Lib.hid (show (w.alloc (.cells #[.bool false, .int .u64 hi, .int .u64 lo] 41)).heap.size = w.heap.size + 1 by simp)
  have BOX := Lib.hid (Blk.new w 41 #[.bool false, .int .u64 hi, .int .u64 lo])
  have HB0 := Lib.hid (show Below w.heap.size w (w.alloc (.cells #[.bool false, .int .u64 hi, .int .u64 lo] 41)) from (Below.refl _ _).alloc (Nat.le_refl _) _)
  have HBT := Lib.hid (bits_four hi lo)
  obtain ⟨i0, hi0, hz0, hz1, hz2⟩ := info_parts info_u8
  go_enter Try.func34, Try.ntmps34
  go_wp2_with fail
  go_loopw [7, 4] (fun i _ wr => ∃ (j : Nat) (cs : Array Value), j ≤ 8 ∧ i = .int .i64 j ∧ Arr lo j cs ∧ Blk wr (w.heap.size + 1) 100 cs ∧ Blk wr w.heap.size 41 #[.bool false, .int .u64 hi, .int .u64 lo] ∧ Below w.heap.size w wr) (fun i _ _ => 8 - (intOf i).toNat)
  case atStart =>
    refine ⟨0, _, by omega, rfl, arr_zero lo, ?_, ?_, ?_⟩
    · have := Blk.new (w.alloc (.cells #[.bool false, .int .u64 hi, .int .u64 lo] 41)) 100 (Array.replicate 16 (.int .u8 0))
      rw [HSZ.out] at this
      exact this
    · exact BOX.out.alloc _
    · exact HB0.out.alloc (by rw [HSZ.out]; omega) _
  case round =>
    obtain ⟨j, cs, hj, rfl, hA, hB, hX, hbel⟩ := hrel
    have q0 := hX.cell 0
    have q1 := hX.cell 1
    have q2 := hX.cell 2
    by_cases hj8 : j < 8
    · obtain ⟨u, hu⟩ := arr_at hA j (by omega)
      obtain ⟨u', hu'⟩ := arr_at hA (8 + j) (by omega)
      have p1 : decide ((j : Int) < 8) = true := decide_eq_true (by omega)
      have d1 := (hB.cell j).trans hu
      have d2 := (hB.cell (8 + j)).trans hu'
      have d3 := hB.frozen j
      have d4 := hB.frozen (8 + j)
      go_wp2_with fail
      refine ⟨⟨j + 1, _, by omega, rfl, arr_next hA hj8 _ _ rfl, (hB.set_ _ _).set_ _ _, (hX.far (by show w.heap.size ≠ w.heap.size + 1; omega) _).far (by show w.heap.size ≠ w.heap.size + 1; omega) _, (hbel.setCell (by show w.heap.size ≤ w.heap.size + 1; omega) _).setCell (by show w.heap.size ≤ w.heap.size + 1; omega) _⟩, ?_⟩
      show 8 - ((j : Int) + 1).toNat < 8 - ((j : Int)).toNat
      omega
    · obtain rfl : j = 8 := by omega
      have hmk := fun (W : World) => run_make_one (P := Try.prog) 22 5 i0 _ Try.underlying22 hi0 hz0 hz1 rfl .i64 .i64 (4 : Int) (by omega) (by rw [hz2]; omega) (by omega) W
      go_wp2_with fail
      refine (HBT.out _).mono ?_
      rintro e w5 ⟨rfl, hb5⟩
      have B5 := Lib.hid (hB.below hb5 hB.lt)
      have L5 := Lib.hid (bel_to hbel hb5 hbel.size)
      have BZ := Lib.hid (show Blk (w5.alloc (.cells (zeros 4 (.int .u8 0)) 5)) w5.heap.size 5 [Value.int .u8 0, .int .u8 0, .int .u8 0, .int .u8 0].toArray from Blk.new w5 5 (zeros 4 (.int .u8 0)))
      have BA := Lib.hid (B5.out.alloc (.cells (zeros 4 (.int .u8 0)) 5))
      have LZ := Lib.hid (L5.out.alloc L5.out.size (.cells (zeros 4 (.int .u8 0)) 5))
      have SRC := Lib.hid (arr_src hA BA.out)
      have ONE := Lib.hid (arr_one lo)
      have LE := Lib.hid L5.out.size
      clear hB hX hb5 hbel
      go_wp2_with (refine wpList_copy_splice (o := ⟨some 39, _, _, _, _, _⟩) rfl (.tmp 34) (.tmp 38) 22 22 rfl 5 Try.underlying22 info1 (some ⟨w5.heap.size, 0, none⟩) (some ⟨w.heap.size + 1, 12, none⟩) 4 4 4 4 rfl rfl w5.heap.size 0 [Value.int .u8 0, .int .u8 0, .int .u8 0, .int .u8 0] 5 BZ.out ([bt lo 4, bt lo 5, bt lo 6, bt lo 7].map (Value.int .u8)) rfl (fun _ => ⟨rfl, _, rfl, SRC.out⟩) (Nat.le_refl _) ONE.out w.heap.size w LZ.out LE.out ?_; intro w6 hg6 hb6; have G6 := hg6; have L6 := Lib.hid hb6; clear hg6 hb6)
      go_ret
      refine ⟨_, rfl, ⟨rfl, .inr ⟨w5.heap.size, 4, _, rfl, by have := LE.out; omega, G6.out, Nat.le_refl _, by unfold maxLen; omega, rfl, rfl⟩⟩, L6.out⟩
end Go.Proofs.Ytgikoljnmmnkkaa.fourL
