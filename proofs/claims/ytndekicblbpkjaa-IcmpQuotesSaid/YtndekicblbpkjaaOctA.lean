/- Layer 7: numbers as bytes: put behind bytes of the call's own. -/
import Derived.Test.YtndekicblbpkjaaApp
import Derived.Test.YtndekicblbpkjaaKeep
import Derived.Laws.BytesArg
namespace Go.Proofs.Ytndekicblbpkjaa.octA
open Go.ChangeShapes Go.WideShapes Go.ChangeAt Go.RowKit
open Go.Proofs.Ytndekicblbpkjaa.base
set_option linter.unusedVariables false

theorem info_u8 : (Try.prog.info? 5).map (fun i => (i.zero, i.size, i.bytes)) = some (some (.int .u8 0), 1, 1) := by kernel_rfl
/-- a size, held within 0 and 8 -/
def hs (s : Int) : Nat := (min (max s 0) 8).toNat
theorem hs_le (s : Int) : hs s ≤ 8 := by unfold hs; omega
theorem held_any (s : Int) (w : World) :
    Calls Try.prog 70 #[.int .i64 s] w fun e w' => e = .returned (.int .i64 (hs s)) ∧ w = w' := by
  rcases Int.lt_or_le s 0 with h | h
  · have hv : ((hs s : Nat) : Int) = 0 := by unfold hs; omega
    rw [hv]; clear hv
    have e1 : max s 0 = 0 := by omega
    have e2 : min (0 : Int) 8 = 0 := by omega
    go_enter Try.func70, Try.ntmps70
    go_wp2
    go_ret
    exact ⟨rfl, rfl⟩
  · rcases Int.lt_or_le 8 s with h2 | h2
    · have hv : ((hs s : Nat) : Int) = 8 := by unfold hs; omega
      rw [hv]; clear hv
      have e1 : max s 0 = s := by omega
      have e2 : min s 8 = 8 := by omega
      go_enter Try.func70, Try.ntmps70
      go_wp2
      go_ret
      exact ⟨rfl, rfl⟩
    · have hv : ((hs s : Nat) : Int) = s := by unfold hs; omega
      rw [hv]; clear hv
      have e1 : max s 0 = s := by omega
      have e2 : min s 8 = s := by omega
      go_enter Try.func70, Try.ntmps70
      go_wp2
      go_ret
      exact ⟨rfl, rfl⟩
/-- the byte of a number that has i bytes behind it -/
def byteZ (n : Int) (i : Nat) : Int := n / 2 ^ (8 * i) % 256
theorem byteZ_in (n : Int) (i : Nat) : 0 ≤ byteZ n i ∧ byteZ n i ≤ 255 := by unfold byteZ; omega
/-- the first j of a number's k bytes -/
def pb (n : Int) (k j : Nat) : List Int := (List.range j).map fun t => byteZ n (k - 1 - t)
theorem pb_len (n : Int) (k j : Nat) : (pb n k j).length = j := by simp [pb]
theorem pb_snoc (n : Int) (k j : Nat) : pb n k (j + 1) = pb n k j ++ [byteZ n (k - 1 - j)] := by simp [pb, List.range_succ]
def PutPost (base B : Nat) (a : World) (m k : Nat) (xs : List Value) (ys : List Int) (e : Ending) (w' : World) : Prop :=
  ∃ v', e = .returned v' ∧ w'.ownsRow base 5 1 v' (m + k) (xs ++ ys.map (.int .u8)) ∧ Below B a w' ∧ base ≤ w'.heap.size
set_option maxHeartbeats 400000 in
set_option maxRecDepth 100000 in
theorem put_any (v : Value) (m : Nat) (xs : List Value) (n s : Int) (base B : Nat) (a w : World) (hown : w.ownsRow base 5 1 v m xs) (hbase : base ≤ w.heap.size) (hm : m ≤ 1000000) (hbel : Below B a w) (hB : B ≤ base) (n0 : 0 ≤ n) (n1 : n < 18446744073709551616) :
    Calls Try.prog 45 #[v, .int .u64 n, .int .i64 s] w (PutPost base B a m (hs s) xs (pb n (hs s) (hs s))) := by
  obtain ⟨i0, hi0, hz0, hz1, hz2⟩ := info_parts info_u8
  have HI0 := Lib.hid hi0
  have HZ0 := Lib.hid hz0
  have HZ1 := Lib.hid hz1
  have HZ2 := Lib.hid hz2
  have HOwn0 := Lib.hid hown
  have HBel0 := Lib.hid hbel
  have hk8 := hs_le s
  have HH := Lib.hid (fun w => held_any s w)
  clear hi0 hz0 hz1 hz2 hown hbel
  generalize hs s = k at *
  go_enter Try.func45, Try.ntmps45
  go_wp2_with fail
  refine (HH.out _).mono ?_
  rintro e w' ⟨rfl, rfl⟩
  go_wp2_with fail
  go_loopw [0, 7] (fun out i wr => ∃ (j : Nat), j ≤ k ∧ i = .int .i64 ((k : Int) - 1 - j) ∧ wr.ownsRow base 5 1 out (m + j) (xs ++ (pb n k j).map (.int .u8)) ∧ Below B a wr ∧ base ≤ wr.heap.size) (fun _ i _ => (intOf i + 1).toNat)
  case atStart => exact ⟨0, by omega, by simp, by simpa [pb] using HOwn0.out, HBel0.out, hbase⟩
  case round =>
    obtain ⟨j, hj, rfl, hown, hbel, hbs⟩ := hrel
    obtain ⟨A3, c3, rfl⟩ := own_slice hown
    have HOwn := Lib.hid hown
    have HBel := Lib.hid hbel
    by_cases hlt : j < k
    · obtain ⟨q, hq⟩ : ∃ q : Nat, k = j + q + 1 := ⟨k - j - 1, by omega⟩
      have e1 : (k : Int) - 1 - j = (q : Int) := by omega
      have hsn := pb_snoc n k j
      rw [show k - 1 - j = q by omega] at hsn
      have HSN := Lib.hid hsn
      have hq8 : (q : Int) ≤ 7 := by omega
      have hq9 : q ≤ 7 := by omega
      have HQ := Lib.hid hq
      have hdiv : 0 ≤ n / 2 ^ (8 * q) := Int.ediv_nonneg n0 (Int.le_of_lt (Int.pow_pos (by decide)))
      have hby : IntKind.u8.wrap (n / 2 ^ (8 * q)) = byteZ n q := by rw [IntKind.wrap_u8']; rfl
      have hb1 := byteZ_in n q
      rw [e1]
      have hnx : (q : Int) - 1 = (k : Int) - 1 - ((j + 1 : Nat) : Int) := by omega
      have HNX := Lib.hid hnx
      clear hown hbel e1 hsn hq hnx
      go_wp2_with (at_builtin; refine wpList_append_own _ rfl (.tmp 15) (.tmp 21) _ rfl base 5 i0 _ 1 1 Try.underlying22 HI0.out HZ0.out HZ1.out HZ2.out rfl (by omega) _ (m + j) _ rfl (HOwn.out.alloc _) ⟨wr.heap.size, 0, none⟩ 1 1 [.int .u8 (byteZ n q)] rfl rfl (one_new _ _ _) (by simp [Value.oneCell']) (by unfold maxLen; omega) (by omega) (by simp; omega) ?_; intro v1 w1 hown1 hg1 _; have HO1 := Lib.hid hown1; have HG1 := Lib.hid hg1; clear hown1 hg1)
      go_roundw
      case rel =>
        refine ⟨j + 1, by omega, congrArg (Value.int .i64) HNX.out, ?_, below_grown (HBel.out.alloc (by omega) _) (HOwn.out.alloc _) hB (by simp; omega) HG1.out, by have := HG1.out.size; simp at this; omega⟩
        rw [HSN.out, List.map_append, ← List.append_assoc]
        exact HO1.out
      case measure => first | (simp [intOf]; done) | (simp [intOf]; omega)
    · obtain rfl : j = k := by omega
      clear hown hbel
      go_wp2_with fail
      go_ret
      exact ⟨_, rfl, HOwn.out, HBel.out, hbs⟩
end Go.Proofs.Ytndekicblbpkjaa.octA
