/- Layer 4: the words of a number. -/
import Derived.Test.YtlipemjidjjenaaSumD
namespace Go.Proofs.Ytlipemjidjjenaa.sumE
open Go.ChangeShapes Go.WideShapes Go.ChangeAt Go.RowKit
open Go.Proofs.Ytlipemjidjjenaa.base Go.Proofs.Ytlipemjidjjenaa.sumA
set_option linter.unusedVariables false

theorem info_u16 : (Try.prog.info? 65).map (fun i => (i.zero, i.size, i.bytes)) = some (some (.int .u16 0), 1, 2) := by kernel_rfl
def held4 (n : Int) : Nat := (max (min n 4) 0).toNat
/-- The k-th of so many words. -/
def wordAt (n : Int) (size k : Nat) : Int := n / 2 ^ (16 * (size - 1 - k)) % 65536
def words (n : Int) (size k : Nat) : List Int := (List.range k).map (wordAt n size)
theorem words_snoc (n : Int) (size k : Nat) : words n size (k + 1) = words n size k ++ [wordAt n size k] := by simp [words, List.range_succ]

theorem split_any (n : Int) (size : Int) (n0 : 0 ≤ n) (n1 : n < 18446744073709551616) (w : World) :
    Calls Try.prog 57 #[.int .u64 n, .int .i64 size] w fun e w' => ∃ v, e = .returned v ∧ w'.ownsRow w.heap.size 65 1 v (held4 size) ((words n (held4 size) (held4 size)).map (.int .u16)) ∧ Below w.heap.size w w' := by
  obtain ⟨i0, hi0, hz0, hz1, hz2⟩ := info_parts info_u16
  have HI0 := Lib.hid hi0
  have HZ0 := Lib.hid hz0
  have HZ1 := Lib.hid hz1
  have HZ2 := Lib.hid hz2
  clear hi0 hz0 hz1 hz2
  obtain ⟨S, hS⟩ : ∃ S : Nat, S = held4 size := ⟨_, rfl⟩
  have hS4 : S ≤ 4 := by rw [hS]; unfold held4; omega
  have hd : max (min size 4) 0 = (S : Int) := by rw [hS]; unfold held4; omega
  rw [← hS]
  have HS := Lib.hid hS
  have HD := Lib.hid hd
  clear hS hd
  rcases Int.lt_or_le size 0 with h0 | h0
  · have hS0 : S = 0 := by have := HD.out; omega
    go_enter Try.func57, Try.ntmps57
    go_wp2_with fail
    go_loopw [5, 6] (fun out i wr => ∃ (k : Nat) (z : Int), k ≤ S ∧ i = .int .i64 z ∧ Hid (z = (S : Int) - 1 - k) ∧ wr.ownsRow w.heap.size 65 1 out k ((words n S k).map (.int .u16)) ∧ Below w.heap.size w wr) (fun _ i _ => (intOf i + 1).toNat)
    case atStart => exact ⟨0, (-1), by omega, rfl, by show (-1) = (S : Int) - 1 - 0; omega, World.ownsRow_lit w #[] 0 (Nat.le_refl _) (by unfold maxLen; omega) rfl, (Below.refl _ _).alloc (Nat.le_refl _) _⟩
    case round =>
      obtain ⟨k, z, hk, rfl, HZ, hown, hbel⟩ := hrel
      have hz : z = -1 := by have := HZ.out; omega
      subst hz
      have hk2 : k = S := by omega
      obtain ⟨A, c, rfl⟩ := own_slice hown
      have HOwn := Lib.hid hown
      have HBel := Lib.hid hbel
      have HK := Lib.hid hk2
      clear hown hbel hk2
      go_wp2
      go_ret
      exact ⟨_, rfl, by have e := HK.out; subst e; exact HOwn.out, HBel.out⟩
  · rcases Int.lt_or_le 4 size with h4 | h4
    · have hS0 : 4 = S := by have := HD.out; omega
      subst hS0
      go_enter Try.func57, Try.ntmps57
      go_wp2_with fail
      go_loopw [5, 6] (fun out i wr => ∃ (k : Nat) (z : Int), k ≤ 4 ∧ i = .int .i64 z ∧ Hid (z = ((4 : Nat) : Int) - 1 - k) ∧ wr.ownsRow w.heap.size 65 1 out k ((words n 4 k).map (.int .u16)) ∧ Below w.heap.size w wr) (fun _ i _ => (intOf i + 1).toNat)
      case atStart => exact ⟨0, 3, by omega, rfl, by show 3 = ((4 : Nat) : Int) - 1 - 0; omega, World.ownsRow_lit w #[] 0 (Nat.le_refl _) (by unfold maxLen; omega) rfl, (Below.refl _ _).alloc (Nat.le_refl _) _⟩
      case round =>
        obtain ⟨k, z, hk, rfl, HZ, hown, hbel⟩ := hrel
        by_cases hlt : k < 4
        · obtain ⟨j, rfl⟩ : ∃ j : Nat, z = j := ⟨4 - 1 - k, by have := HZ.out; omega⟩
          have hj4 : j ≤ 3 := by have := HZ.out; omega
          have hjk : 4 - 1 - k = j := by have := HZ.out; omega
          have hsn := words_snoc n 4 k
          have hwa : wordAt n 4 k = n / 2 ^ (16 * j) % 65536 := by unfold wordAt; rw [hjk]
          rw [hwa] at hsn
          have HSN := Lib.hid hsn
          have HJK := Lib.hid hjk
          have HOwn := Lib.hid hown
          have HBel := Lib.hid hbel
          have hbs := hbel.size
          have hcv : IntKind.u16.wrap (n / 2 ^ (16 * j)) = n / 2 ^ (16 * j) % 65536 := by simp [IntKind.wrap_u16]
          clear hsn hwa hjk hown hbel
          go_wp2_with (at_builtin; refine wpList_append_own _ rfl (.tmp 16) (.tmp 22) _ rfl w.heap.size 65 i0 _ 1 2 Try.underlying72 HI0.out HZ0.out HZ1.out HZ2.out rfl (by omega) _ k _ rfl (HOwn.out.alloc _) ⟨wr.heap.size, 0, none⟩ 1 1 [.int .u16 (n / 2 ^ (16 * j) % 65536)] rfl rfl (one_new _ _ _) (by simp [Value.oneCell']) (by unfold maxLen; omega) (by omega) (by simp; omega) ?_; intro v1 w1 hown1 hg1 _; have HO1 := Lib.hid hown1; have HG1 := Lib.hid hg1; clear hown1 hg1)
          go_roundw
          case rel =>
            refine ⟨k + 1, (j : Int) - 1, by omega, rfl, by show (j : Int) - 1 = ((4 : Nat) : Int) - 1 - ((k + 1 : Nat) : Int); have := HZ.out; omega, ?_, below_grown (HBel.out.alloc hbs _) (HOwn.out.alloc _) (Nat.le_refl _) (by simp; omega) HG1.out⟩
            rw [HSN.out, List.map_append]
            exact HO1.out
          case measure => simp [intOf]
        · have hz : z = -1 := by have := HZ.out; omega
          subst hz
          have hk2 : k = 4 := by omega
          obtain ⟨A, c, rfl⟩ := own_slice hown
          have HOwn := Lib.hid hown
          have HBel := Lib.hid hbel
          have HK := Lib.hid hk2
          clear hown hbel hk2
          go_wp2
          go_ret
          exact ⟨_, rfl, by have e := HK.out; subst e; exact HOwn.out, HBel.out⟩
    · obtain rfl : size = (S : Int) := by have := HD.out; omega
      go_enter Try.func57, Try.ntmps57
      go_wp2_with fail
      go_loopw [5, 6] (fun out i wr => ∃ (k : Nat) (z : Int), k ≤ S ∧ i = .int .i64 z ∧ Hid (z = (S : Int) - 1 - k) ∧ wr.ownsRow w.heap.size 65 1 out k ((words n S k).map (.int .u16)) ∧ Below w.heap.size w wr) (fun _ i _ => (intOf i + 1).toNat)
      case atStart => exact ⟨0, ((S : Int) - 1), by omega, rfl, by show ((S : Int) - 1) = (S : Int) - 1 - 0; omega, World.ownsRow_lit w #[] 0 (Nat.le_refl _) (by unfold maxLen; omega) rfl, (Below.refl _ _).alloc (Nat.le_refl _) _⟩
      case round =>
        obtain ⟨k, z, hk, rfl, HZ, hown, hbel⟩ := hrel
        by_cases hlt : k < S
        · obtain ⟨j, rfl⟩ : ∃ j : Nat, z = j := ⟨S - 1 - k, by have := HZ.out; omega⟩
          have hj4 : j ≤ 3 := by have := HZ.out; omega
          have hjk : S - 1 - k = j := by have := HZ.out; omega
          have hsn := words_snoc n S k
          have hwa : wordAt n S k = n / 2 ^ (16 * j) % 65536 := by unfold wordAt; rw [hjk]
          rw [hwa] at hsn
          have HSN := Lib.hid hsn
          have HJK := Lib.hid hjk
          have HOwn := Lib.hid hown
          have HBel := Lib.hid hbel
          have hbs := hbel.size
          have hcv : IntKind.u16.wrap (n / 2 ^ (16 * j)) = n / 2 ^ (16 * j) % 65536 := by simp [IntKind.wrap_u16]
          clear hsn hwa hjk hown hbel
          go_wp2_with (at_builtin; refine wpList_append_own _ rfl (.tmp 16) (.tmp 22) _ rfl w.heap.size 65 i0 _ 1 2 Try.underlying72 HI0.out HZ0.out HZ1.out HZ2.out rfl (by omega) _ k _ rfl (HOwn.out.alloc _) ⟨wr.heap.size, 0, none⟩ 1 1 [.int .u16 (n / 2 ^ (16 * j) % 65536)] rfl rfl (one_new _ _ _) (by simp [Value.oneCell']) (by unfold maxLen; omega) (by omega) (by simp; omega) ?_; intro v1 w1 hown1 hg1 _; have HO1 := Lib.hid hown1; have HG1 := Lib.hid hg1; clear hown1 hg1)
          go_roundw
          case rel =>
            refine ⟨k + 1, (j : Int) - 1, by omega, rfl, by show (j : Int) - 1 = (S : Int) - 1 - ((k + 1 : Nat) : Int); have := HZ.out; omega, ?_, below_grown (HBel.out.alloc hbs _) (HOwn.out.alloc _) (Nat.le_refl _) (by simp; omega) HG1.out⟩
            rw [HSN.out, List.map_append]
            exact HO1.out
          case measure => simp [intOf]
        · have hz : z = -1 := by have := HZ.out; omega
          subst hz
          have hk2 : k = S := by omega
          obtain ⟨A, c, rfl⟩ := own_slice hown
          have HOwn := Lib.hid hown
          have HBel := Lib.hid hbel
          have HK := Lib.hid hk2
          clear hown hbel hk2
          go_wp2
          go_ret
          exact ⟨_, rfl, by have e := HK.out; subst e; exact HOwn.out, HBel.out⟩
end Go.Proofs.Ytlipemjidjjenaa.sumE
