/- Layer 44: a number put behind bytes that are full (those of a constant). -/
import Derived.Test.YtmlicmcphecakaaSnK
import Derived.Test.YtmlicmcphecakaaRdrA
import Derived.ArgAppend
namespace Go.Proofs.Ytmlicmcphecakaa.snE
open Go.ChangeShapes Go.WideShapes Go.ChangeAt Go.RowKit
open Go.Proofs.Ytmlicmcphecakaa.base Go.Proofs.Ytmlicmcphecakaa.octA Go.Proofs.Ytmlicmcphecakaa.octB Go.Proofs.Ytmlicmcphecakaa.octC Go.Proofs.Ytmlicmcphecakaa.octK Go.Proofs.Ytmlicmcphecakaa.snK Go.Proofs.Ytmlicmcphecakaa.rdrA
set_option linter.unusedVariables false

/-- What stands in Put's loop: nothing put yet, or bytes of the call's own. -/
def PcSt (w : World) (base B : Nat) (a : World) (g n0 : Nat) (xs : List Value) (n : Int) (k j : Nat) (out : Value) (wr : World) : Prop :=
  (j = 0 ∧ out = .slice (some ⟨g, 0, none⟩) n0 n0 ∧ wr = w) ∨ (1 ≤ j ∧ wr.ownsRow base 5 1 out (n0 + j) (xs ++ (pb n k j).map (.int .u8)) ∧ Below B a wr ∧ base ≤ wr.heap.size ∧ KT w wr)
set_option maxHeartbeats 4000000 in
set_option maxRecDepth 100000 in
theorem put_c (g n0 : Nat) (xs : List Value) (n s : Int) (base B : Nat) (a w : World) (hxl : xs.length = n0) (hcs : ∀ j u, xs[j]? = some u → w.cell? ⟨g, j, none⟩ = some u) (hbase : base ≤ w.heap.size) (hm : n0 ≤ 1000000) (hbel : Below B a w) (hB : B ≤ base) (n0' : 0 ≤ n) (n1 : n < 18446744073709551616) (hs1 : 1 ≤ hs s) :
    Calls Try.prog 13 #[.slice (some ⟨g, 0, none⟩) n0 n0, .int .u64 n, .int .i64 s] w (PutPostT w base B a n0 (hs s) xs (pb n (hs s) (hs s))) := by
  obtain ⟨i0, hi0, hz0, hz1, hz2⟩ := info_parts info_u8
  have HI0 := Lib.hid hi0
  have HZ0 := Lib.hid hz0
  have HZ1 := Lib.hid hz1
  have HZ2 := Lib.hid hz2
  have HBel0 := Lib.hid hbel
  have HCS := Lib.hid hcs
  have HXL := Lib.hid hxl
  have hk8 := hs_le s
  have HH := Lib.hid (fun w => held_any s w)
  clear hi0 hz0 hz1 hz2 hbel hcs hxl
  generalize hs s = k at *
  go_enter Try.func13, Try.ntmps13
  go_wp2_with fail
  refine (HH.out _).mono ?_
  rintro e w' ⟨rfl, rfl⟩
  go_wp2_with fail
  go_loopw [0, 7] (fun out i wr => ∃ (j : Nat), j ≤ k ∧ i = .int .i64 ((k : Int) - 1 - j) ∧ Hid (PcSt w base B a g n0 xs n k j out wr)) (fun _ i _ => (intOf i + 1).toNat)
  case atStart => exact ⟨0, by omega, by simp, Lib.hid (.inl ⟨rfl, rfl, rfl⟩)⟩
  case round =>
    obtain ⟨j, hj, rfl, HST⟩ := hrel
    by_cases hlt : j < k
    · obtain ⟨q, hq⟩ : ∃ q : Nat, k = j + q + 1 := ⟨k - j - 1, by omega⟩
      have e1 : (k : Int) - 1 - j = (q : Int) := by omega
      have hsn := pb_snoc n k j
      rw [show k - 1 - j = q by omega] at hsn
      have HSN := Lib.hid hsn
      have hq8 : (q : Int) ≤ 7 := by omega
      have hq9 : q ≤ 7 := by omega
      have HQ := Lib.hid hq
      have hdiv : 0 ≤ n / 2 ^ (8 * q) := Int.ediv_nonneg n0' (Int.le_of_lt (Int.pow_pos (by decide)))
      have hby : IntKind.u8.wrap (n / 2 ^ (8 * q)) = byteZ n q := by rw [IntKind.wrap_u8']; rfl
      have hb1 := byteZ_in n q
      rw [e1]
      have hnx : (q : Int) - 1 = (k : Int) - 1 - ((j + 1 : Nat) : Int) := by omega
      have HNX := Lib.hid hnx
      have HPB0 := Lib.hid (show j = 0 → (pb n k j) = [] from fun h => by subst h; rfl)
      rcases HST.out with ⟨hj0, hout, hwr⟩ | ⟨hj1, hown, hbel, hbs, hkt⟩
      · subst hout
        rw [hwr]
        clear hwr
        have HJ0 := Lib.hid hj0
        have HA := Lib.hid ((Below.refl w.heap.size w).alloc (Nat.le_refl _) (.cells #[.int .u8 (byteZ n q)] 5))
        have HOL := Lib.hid (show ∀ b : Addr, some (⟨g, 0, none⟩ : Addr) = some b → ∀ j u, xs[j]? = some u → (w.alloc (.cells #[.int .u8 (byteZ n q)] 5)).cell? (b.add j) = some u from fun b hb j u hu => by
          injection hb with hb
          subst hb
          have h1 := HCS.out j u hu
          rw [Addr.add_lit, Nat.zero_add, ← h1]
          exact HA.out.cell (p := ⟨g, j, none⟩) (World.block_lt_of_cell? _ _ h1))
        clear e1 hsn hq hnx hj0
        go_wp2_with (at_builtin; refine wpList_append_grows _ rfl (.tmp 15) (.tmp 21) _ rfl 5 i0 _ 1 1 Try.underlying25 HI0.out HZ0.out HZ1.out HZ2.out rfl (by omega) (some ⟨g, 0, none⟩) n0 n0 xs rfl (fun h => by cases h) (by rw [HXL.out, Nat.mul_one]) HOL.out ⟨w.heap.size, 0, none⟩ 1 1 [.int .u8 (byteZ n q)] rfl rfl (one_new _ _ _) (by simp [Value.oneCell']) (by omega) (by unfold maxLen; omega) (by omega) ?_; intro v1 w1 hown1 hg1; have HO1 := Lib.hid hown1; have HG1 := Lib.hid hg1; clear hown1 hg1)
        go_roundw
        case rel =>
          refine ⟨j + 1, by omega, congrArg (Value.int .i64) HNX.out, Lib.hid (.inr ⟨by omega, ?_, ?_, ?_, ?_⟩)⟩
          · rw [HSN.out, HPB0.out HJ0.out, HJ0.out]
            exact own_base HO1.out (Nat.le_trans hbase HA.out.size)
          · exact (HBel0.out.trans (HA.out.mono (Nat.le_trans hB hbase))).grown HG1.out (Nat.le_trans hB (Nat.le_trans hbase HA.out.size)) (fun k hk => by cases hk)
          · exact Nat.le_trans hbase (Nat.le_trans HA.out.size HG1.out.size)
          · exact fun k t cs ht hb => (HG1.out.block k (Nat.lt_of_lt_of_le hb.lt HA.out.size) (by simp)).trans (hb.below HA.out hb.lt)
        case measure => first | (simp [intOf]; done) | (simp [intOf]; omega)
      · obtain ⟨A3, c3, rfl⟩ := own_slice hown
        have HOwn := Lib.hid hown
        have HBel := Lib.hid hbel
        have HKT := Lib.hid hkt
        clear hown hbel e1 hsn hq hnx hkt
        go_wp2_with (at_builtin; refine wpList_append_own _ rfl (.tmp 15) (.tmp 21) _ rfl base 5 i0 _ 1 1 Try.underlying25 HI0.out HZ0.out HZ1.out HZ2.out rfl (by omega) _ (n0 + j) _ rfl (HOwn.out.alloc _) ⟨wr.heap.size, 0, none⟩ 1 1 [.int .u8 (byteZ n q)] rfl rfl (one_new _ _ _) (by simp [Value.oneCell']) (by unfold maxLen; omega) (by omega) (by simp; omega) ?_; intro v1 w1 hown1 hg1 _; have HO1 := Lib.hid hown1; have HG1 := Lib.hid hg1; clear hown1 hg1)
        go_roundw
        case rel =>
          refine ⟨j + 1, by omega, congrArg (Value.int .i64) HNX.out, Lib.hid (.inr ⟨by omega, ?_, below_grown (HBel.out.alloc (by omega) _) (HOwn.out.alloc _) hB (by simp; omega) HG1.out, by have := HG1.out.size; simp at this; omega, kt_step HKT.out (HOwn.out.alloc (.cells #[.int .u8 (byteZ n q)] 5)) HG1.out⟩)⟩
          rw [HSN.out, List.map_append, ← List.append_assoc]
          exact HO1.out
        case measure => first | (simp [intOf]; done) | (simp [intOf]; omega)
    · obtain rfl : j = k := by omega
      rcases HST.out with ⟨hj0, _, _⟩ | ⟨hj1, hown, hbel, hbs, hkt⟩
      · omega
      · obtain ⟨A3, c3, rfl⟩ := own_slice hown
        have HOwn := Lib.hid hown
        have HBel := Lib.hid hbel
        have HKT := Lib.hid hkt
        clear hown hbel hkt
        go_wp2_with fail
        go_ret
        exact ⟨_, rfl, HOwn.out, HBel.out, hbs, HKT.out⟩
end Go.Proofs.Ytmlicmcphecakaa.snE
