/- Layer 5: a bit of an address. -/
import Derived.Test.YtamndmlaikgogaaVdC
namespace Go.Proofs.Ytamndmlaikgogaa.vpA
open Go.ChangeShapes Go.WideShapes Go.ChangeAt Go.RowKit
open Go.Proofs.Ytamndmlaikgogaa.base Go.Proofs.Ytamndmlaikgogaa.dfA Go.Proofs.Ytamndmlaikgogaa.treB Go.Proofs.Ytamndmlaikgogaa.vdB Go.Proofs.Ytamndmlaikgogaa.vdC
set_option linter.unusedVariables false

theorem shr_run {x n : Int} (h0 : 0 ≤ n) (h1 : n < 64) (W : World) : (Op.shift .shr .u64 x .i64 n).run Try.prog W = .ok (.int .u64 (x / 2 ^ n.toNat)) W := by
  unfold Op.shift
  rw [if_neg (by omega)]
  show Result.ok (Value.int .u64 (x.fdiv (2 ^ min n.toNat 64))) W = _
  rw [show min n.toNat 64 = n.toNat from by omega, Int.fdiv_eq_ediv_of_nonneg _ (Int.le_of_lt (Int.pow_pos (by omega)))]
theorem and_one {y : Int} (h0 : 0 ≤ y) (h1 : y < 18446744073709551616) : Go.bits .and .u64 y 1 = y % 2 := by
  obtain ⟨n, rfl⟩ := Int.eq_ofNat_of_zero_le h0
  show IntKind.u64.wrap (((BitVec.ofInt 64 (n : Int)) &&& (BitVec.ofInt 64 ((1 : Nat) : Int))).toNat : Int) = _
  rw [ofInt_nat, ofInt_nat, BitVec.toNat_and, BitVec.toNat_ofNat, BitVec.toNat_ofNat]
  have e : (n % 2 ^ 64 &&& 1 % 2 ^ 64) = n % 2 := by
    rw [Nat.mod_eq_of_lt (show n < 2 ^ 64 by omega), Nat.mod_eq_of_lt (show 1 < 2 ^ 64 by omega), Nat.and_one_is_mod]
  rw [e]
  show ((n % 2 : Nat) : Int) % 18446744073709551616 = _
  omega
/-- The bit i of an address, from the highest one on. -/
def bitZ (v6 : Bool) (hi lo : Int) (i : Nat) : Int := if v6 = true then (if i < 64 then hi / 2 ^ (63 - i) % 2 else lo / 2 ^ (127 - i) % 2) else lo / 2 ^ (31 - i) % 2
theorem div_in {x : Int} (h0 : 0 ≤ x) (h1 : x < 18446744073709551616) (n : Nat) : 0 ≤ x / 2 ^ n ∧ x / 2 ^ n < 18446744073709551616 := by
  obtain ⟨m, rfl⟩ := Int.eq_ofNat_of_zero_le h0
  have e : (m : Int) / 2 ^ n = ((m / 2 ^ n : Nat) : Int) := by push_cast; rfl
  rw [e]
  have := Nat.div_le_self m (2 ^ n)
  generalize m / 2 ^ n = q at *
  omega
theorem bitZ_in (v6 : Bool) (hi lo : Int) (i : Nat) : bitZ v6 hi lo i = 0 ∨ bitZ v6 hi lo i = 1 := by
  unfold bitZ
  split
  · split <;> omega
  · omega
/-- What a bit's walk ends with. -/
theorem bit_end {hi : Int} (n : Nat) (h0 : 0 ≤ hi) (h1 : hi < 18446744073709551616) : IntKind.i64.wrap (Go.bits .and .u64 (hi / 2 ^ n) 1) = hi / 2 ^ n % 2 := by
  have hd := div_in h0 h1 n
  rw [and_one hd.1 hd.2]
  exact IntWalk.i64_in _ (by omega)
set_option maxHeartbeats 4000000 in
theorem bit_hi (hi lo : Int) (i : Nat) (w : World) (hc : i < 64) (h0 : 0 ≤ hi) (h1 : hi < 18446744073709551616) :
    Calls Try.prog 53 #[.agg #[.bool true, .int .u64 hi, .int .u64 lo], .int .i64 i] w fun e w' => e = .returned (.int .i64 (bitZ true hi lo i)) ∧ Below w.heap.size w w' := by
  obtain ⟨w1, hw1⟩ : ∃ w1, w1 = w.alloc (.cells #[.bool true, .int .u64 hi, .int .u64 lo] 27) := ⟨_, rfl⟩
  have E1 := Lib.hid hw1
  have K1 := Lib.hid (show Blk w1 w.heap.size 27 #[.bool true, .int .u64 hi, .int .u64 lo] from hw1 ▸ Blk.new w _ _)
  have B1 := Lib.hid (show Below w.heap.size w w1 from hw1 ▸ (Below.refl _ _).alloc (Nat.le_refl _) _)
  have HB := Lib.hid (show Calls Try.prog 54 #[.agg #[.bool true, .int .u64 hi, .int .u64 lo]] w1 (fun e w' => e = .returned (.int .i64 128) ∧ Below w1.heap.size w1 w') from bits_any true hi lo w1)
  have d0 : w1.cell? ⟨w.heap.size, 0, none⟩ = some (.bool true) := K1.out.cell 0
  have d1 : w1.cell? ⟨w.heap.size, 1, none⟩ = some (.int .u64 hi) := K1.out.cell 1
  have d2 : w1.cell? ⟨w.heap.size, 2, none⟩ = some (.int .u64 lo) := K1.out.cell 2
  obtain ⟨n, hn⟩ : ∃ n : Int, n = 63 - (i : Int) := ⟨_, rfl⟩
  have n0 : 0 ≤ n := by omega
  have n1 : n < 64 := by omega
  have hz : IntKind.i64.wrap (Go.bits .and .u64 (hi / 2 ^ n.toNat) 1) = bitZ true hi lo i := by
    rw [bit_end _ h0 h1]
    unfold bitZ
    rw [if_pos rfl, if_pos hc, show n.toNat = 63 - i from by omega]
  have e0 : IntKind.i64.wrap (127 - (i : Int)) = 64 + n := by rw [show 127 - (i : Int) = 64 + n from by omega]; exact IntWalk.i64_in _ (by omega)
  have e1 : (128 : Int) - 1 - i = 64 + n := by omega
  have e3 : (127 : Int) - i = 64 + n := by omega
  have t1 : decide ((i : Int) < 0) = false := decide_eq_false (by omega)
  have t2 : decide (64 + n < 0) = false := decide_eq_false (by omega)
  have e2 : 64 + n - 64 = n := by omega
  have t3 : decide (64 ≤ 64 + n) = true := decide_eq_true (by omega)
  have HZ := Lib.hid hz
  clear hw1 hz h0 h1 hc
  go_enter Try.func53, Try.ntmps53
  go_upto_region 1 with fail
  rw [← E1.out]
  go_wp2_with fail
  refine HB.out.mono ?_
  rintro o w2 ⟨rfl, hb2⟩
  have B2 := Lib.hid (B1.out.trans (hb2.mono B1.out.size))
  have K2 := Lib.hid (show Blk w2 w.heap.size 27 #[.bool true, .int .u64 hi, .int .u64 lo] from K1.out.below hb2 K1.out.lt)
  have c1 : w2.cell? ⟨w.heap.size, 1, none⟩ = some (.int .u64 hi) := K2.out.cell 1
  clear hb2 d0 d1 d2 hn
  go_wp2_with fail
  go_ret
  exact ⟨ret_int ((IntWalk.i64_left _).symm.trans HZ.out), B2.out⟩
set_option maxHeartbeats 4000000 in
theorem bit_lo (hi lo : Int) (i : Nat) (w : World) (hc : 64 ≤ i ∧ i < 128) (h0 : 0 ≤ lo) (h1 : lo < 18446744073709551616) :
    Calls Try.prog 53 #[.agg #[.bool true, .int .u64 hi, .int .u64 lo], .int .i64 i] w fun e w' => e = .returned (.int .i64 (bitZ true hi lo i)) ∧ Below w.heap.size w w' := by
  obtain ⟨w1, hw1⟩ : ∃ w1, w1 = w.alloc (.cells #[.bool true, .int .u64 hi, .int .u64 lo] 27) := ⟨_, rfl⟩
  have E1 := Lib.hid hw1
  have K1 := Lib.hid (show Blk w1 w.heap.size 27 #[.bool true, .int .u64 hi, .int .u64 lo] from hw1 ▸ Blk.new w _ _)
  have B1 := Lib.hid (show Below w.heap.size w w1 from hw1 ▸ (Below.refl _ _).alloc (Nat.le_refl _) _)
  have HB := Lib.hid (show Calls Try.prog 54 #[.agg #[.bool true, .int .u64 hi, .int .u64 lo]] w1 (fun e w' => e = .returned (.int .i64 128) ∧ Below w1.heap.size w1 w') from bits_any true hi lo w1)
  have d0 : w1.cell? ⟨w.heap.size, 0, none⟩ = some (.bool true) := K1.out.cell 0
  have d1 : w1.cell? ⟨w.heap.size, 1, none⟩ = some (.int .u64 hi) := K1.out.cell 1
  have d2 : w1.cell? ⟨w.heap.size, 2, none⟩ = some (.int .u64 lo) := K1.out.cell 2
  obtain ⟨n, hn⟩ : ∃ n : Int, n = 127 - (i : Int) := ⟨_, rfl⟩
  have n0 : 0 ≤ n := by omega
  have n1 : n < 64 := by omega
  have hz : IntKind.i64.wrap (Go.bits .and .u64 (lo / 2 ^ n.toNat) 1) = bitZ true hi lo i := by
    rw [bit_end _ h0 h1]
    unfold bitZ
    rw [if_pos rfl, if_neg (show ¬ i < 64 by omega), show n.toNat = 127 - i from by omega]
  have e0 : IntKind.i64.wrap (127 - (i : Int)) = n := by rw [show 127 - (i : Int) = n from by omega]; exact IntWalk.i64_in _ (by omega)
  have e1 : (128 : Int) - 1 - i = n := by omega
  have e3 : (127 : Int) - i = n := by omega
  have t1 : decide ((i : Int) < 0) = false := decide_eq_false (by omega)
  have t2 : decide (n < 0) = false := decide_eq_false (by omega)
  have t3 : decide (64 ≤ n) = false := decide_eq_false (by omega)
  have HZ := Lib.hid hz
  clear hw1 hz h0 h1 hc
  go_enter Try.func53, Try.ntmps53
  go_upto_region 1 with fail
  rw [← E1.out]
  go_wp2_with fail
  refine HB.out.mono ?_
  rintro o w2 ⟨rfl, hb2⟩
  have B2 := Lib.hid (B1.out.trans (hb2.mono B1.out.size))
  have K2 := Lib.hid (show Blk w2 w.heap.size 27 #[.bool true, .int .u64 hi, .int .u64 lo] from K1.out.below hb2 K1.out.lt)
  have c1 : w2.cell? ⟨w.heap.size, 2, none⟩ = some (.int .u64 lo) := K2.out.cell 2
  clear hb2 d0 d1 d2 hn
  go_wp2_with fail
  go_ret
  exact ⟨ret_int ((IntWalk.i64_left _).symm.trans HZ.out), B2.out⟩
set_option maxHeartbeats 4000000 in
theorem bit_4 (hi lo : Int) (i : Nat) (w : World) (hc : i < 32) (h0 : 0 ≤ lo) (h1 : lo < 18446744073709551616) :
    Calls Try.prog 53 #[.agg #[.bool false, .int .u64 hi, .int .u64 lo], .int .i64 i] w fun e w' => e = .returned (.int .i64 (bitZ false hi lo i)) ∧ Below w.heap.size w w' := by
  obtain ⟨w1, hw1⟩ : ∃ w1, w1 = w.alloc (.cells #[.bool false, .int .u64 hi, .int .u64 lo] 27) := ⟨_, rfl⟩
  have E1 := Lib.hid hw1
  have K1 := Lib.hid (show Blk w1 w.heap.size 27 #[.bool false, .int .u64 hi, .int .u64 lo] from hw1 ▸ Blk.new w _ _)
  have B1 := Lib.hid (show Below w.heap.size w w1 from hw1 ▸ (Below.refl _ _).alloc (Nat.le_refl _) _)
  have HB := Lib.hid (show Calls Try.prog 54 #[.agg #[.bool false, .int .u64 hi, .int .u64 lo]] w1 (fun e w' => e = .returned (.int .i64 32) ∧ Below w1.heap.size w1 w') from bits_any false hi lo w1)
  have d0 : w1.cell? ⟨w.heap.size, 0, none⟩ = some (.bool false) := K1.out.cell 0
  have d1 : w1.cell? ⟨w.heap.size, 1, none⟩ = some (.int .u64 hi) := K1.out.cell 1
  have d2 : w1.cell? ⟨w.heap.size, 2, none⟩ = some (.int .u64 lo) := K1.out.cell 2
  obtain ⟨n, hn⟩ : ∃ n : Int, n = 31 - (i : Int) := ⟨_, rfl⟩
  have n0 : 0 ≤ n := by omega
  have n1 : n < 64 := by omega
  have hz : IntKind.i64.wrap (Go.bits .and .u64 (lo / 2 ^ n.toNat) 1) = bitZ false hi lo i := by
    rw [bit_end _ h0 h1]
    unfold bitZ
    rw [if_neg (by simp), show n.toNat = 31 - i from by omega]
  have e0 : IntKind.i64.wrap (31 - (i : Int)) = n := by rw [show 31 - (i : Int) = n from by omega]; exact IntWalk.i64_in _ (by omega)
  have e1 : (32 : Int) - 1 - i = n := by omega
  have e3 : (31 : Int) - i = n := by omega
  have t1 : decide ((i : Int) < 0) = false := decide_eq_false (by omega)
  have t2 : decide (n < 0) = false := decide_eq_false (by omega)
  have t3 : decide (64 ≤ n) = false := decide_eq_false (by omega)
  have HZ := Lib.hid hz
  clear hw1 hz h0 h1 hc
  go_enter Try.func53, Try.ntmps53
  go_upto_region 1 with fail
  rw [← E1.out]
  go_wp2_with fail
  refine HB.out.mono ?_
  rintro o w2 ⟨rfl, hb2⟩
  have B2 := Lib.hid (B1.out.trans (hb2.mono B1.out.size))
  have K2 := Lib.hid (show Blk w2 w.heap.size 27 #[.bool false, .int .u64 hi, .int .u64 lo] from K1.out.below hb2 K1.out.lt)
  have c1 : w2.cell? ⟨w.heap.size, 2, none⟩ = some (.int .u64 lo) := K2.out.cell 2
  clear hb2 d0 d1 d2 hn
  go_wp2_with fail
  go_ret
  exact ⟨ret_int ((IntWalk.i64_left _).symm.trans HZ.out), B2.out⟩
/-- Of an address its bit i. -/
theorem bit_any (v6 : Bool) (hi lo : Int) (i : Nat) (w : World) (hc : i < if v6 = true then 128 else 32) (h0 : 0 ≤ hi) (h1 : hi < 18446744073709551616) (l0 : 0 ≤ lo) (l1 : lo < 18446744073709551616) :
    Calls Try.prog 53 #[.agg #[.bool v6, .int .u64 hi, .int .u64 lo], .int .i64 i] w fun e w' => e = .returned (.int .i64 (bitZ v6 hi lo i)) ∧ Below w.heap.size w w' := by
  cases v6 with
  | false => exact bit_4 hi lo i w (by simpa using hc) l0 l1
  | true =>
    have hc : i < 128 := by simpa using hc
    by_cases h : i < 64
    · exact bit_hi hi lo i w h h0 h1
    · exact bit_lo hi lo i w ⟨by omega, hc⟩ l0 l1
end Go.Proofs.Ytamndmlaikgogaa.vpA
