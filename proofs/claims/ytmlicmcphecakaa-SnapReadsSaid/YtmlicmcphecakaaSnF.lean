/- Layer 44: the law's four bytes. -/
import Derived.Test.YtmlicmcphecakaaSnA
import Derived.Test.YtmlicmcphecakaaSnE
namespace Go.Proofs.Ytmlicmcphecakaa.snF
open Go.ChangeShapes Go.WideShapes Go.ChangeAt Go.RowKit
open Go.Proofs.Ytmlicmcphecakaa.base Go.Proofs.Ytmlicmcphecakaa.octA Go.Proofs.Ytmlicmcphecakaa.octB Go.Proofs.Ytmlicmcphecakaa.octC Go.Proofs.Ytmlicmcphecakaa.octK Go.Proofs.Ytmlicmcphecakaa.net Go.Proofs.Ytmlicmcphecakaa.snA Go.Proofs.Ytmlicmcphecakaa.snK Go.Proofs.Ytmlicmcphecakaa.rdrA
set_option linter.unusedVariables false

theorem pb4 (n : Int) : pb n 4 4 = [byteZ n 3, byteZ n 2, byteZ n 1, byteZ n 0] := by rfl
theorem by3 (n : Int) : byteZ n 3 = n / 16777216 % 256 := rfl
theorem by2 (n : Int) : byteZ n 2 = n / 65536 % 256 := rfl
theorem by1 (n : Int) : byteZ n 1 = n / 256 % 256 := rfl
theorem by0 (n : Int) : byteZ n 0 = n % 256 := by unfold byteZ; simp
theorem one4 (a b c d : Int) : ∀ u ∈ [Value.int .u8 a, .int .u8 b, .int .u8 c, .int .u8 d], u.oneCell' = true := fun u hu => by
  simp at hu
  rcases hu with rfl | rfl | rfl | rfl <;> rfl
theorem news4 (w : World) (cs : Array Value) (t : TypeId) : ∀ j u, cs.toList[j]? = some u → (w.alloc (.cells cs t)).cell? ((⟨w.heap.size, 0, none⟩ : Addr).add j) = some u := fun j u hu => by
  rw [Addr.add_lit, Nat.zero_add, (Blk.new w t cs).cell j]
  simpa using hu
set_option maxHeartbeats 4000000 in
set_option maxRecDepth 100000 in
theorem four_t (v : Value) (m : Nat) (xs : List Value) (n : Int) (base B : Nat) (a w : World) (hown : w.ownsRow base 5 1 v m xs) (hbase : base ≤ w.heap.size) (hm : m ≤ 1000000) (hbel : Below B a w) (hB : B ≤ base) (n0 : 0 ≤ n) (n1 : n < 9223372036854775808) :
    Calls Try.prog 22 #[v, .int .i64 n] w (PutPostT w base B a m 4 xs (pb n 4 4)) := by
  obtain ⟨i0, hi0, hz0, hz1, hz2⟩ := info_parts info_u8
  have HI0 := Lib.hid hi0
  have HZ0 := Lib.hid hz0
  have HZ1 := Lib.hid hz1
  have HZ2 := Lib.hid hz2
  obtain ⟨A3, c3, hv⟩ := own_slice hown
  subst hv
  have HO := Lib.hid hown
  have HB := Lib.hid hbel
  rw [pb4, by3, by2, by1, by0]
  clear hi0 hz0 hz1 hz2 hown hbel
  go_enter Try.func22, Try.ntmps22
  go_wp2_with (at_builtin; refine wpList_append_own _ rfl (.tmp 5) (.tmp 17) _ rfl base 5 i0 _ 1 1 Try.underlying25 HI0.out HZ0.out HZ1.out HZ2.out rfl (by omega) (.slice A3 m c3) m xs rfl (HO.out.alloc _) ⟨w.heap.size, 0, none⟩ 4 4 [.int .u8 (n / 16777216 % 256), .int .u8 (n / 65536 % 256), .int .u8 (n / 256 % 256), .int .u8 (n % 256)] rfl rfl (news4 w #[.int .u8 (n / 16777216 % 256), .int .u8 (n / 65536 % 256), .int .u8 (n / 256 % 256), .int .u8 (n % 256)] 5) (one4 _ _ _ _) (by unfold maxLen; omega) (by omega) (by simp; omega) ?_; intro v1 w1 ho1 hg1 _; have HO1 := Lib.hid ho1; have HG1 := Lib.hid hg1; obtain ⟨A4, c4, hv4⟩ := own_slice ho1; subst hv4; clear ho1 hg1)
  go_ret
  exact ⟨.slice A4 (m + 4) c4, rfl, HO1.out, below_grown (HB.out.alloc (by omega) _) (HO.out.alloc _) hB (by simp; omega) HG1.out, by have := HG1.out.size; simp at this; omega, kt_step (KT.refl w) (HO.out.alloc (.cells #[.int .u8 (n / 16777216 % 256), .int .u8 (n / 65536 % 256), .int .u8 (n / 256 % 256), .int .u8 (n % 256)] 5)) HG1.out⟩
set_option maxHeartbeats 4000000 in
set_option maxRecDepth 100000 in
theorem four_c (g m : Nat) (xs : List Value) (n : Int) (base B : Nat) (a w : World) (hxl : xs.length = m) (hcs : ∀ j u, xs[j]? = some u → w.cell? ⟨g, j, none⟩ = some u) (hbase : base ≤ w.heap.size) (hm : m ≤ 1000000) (hbel : Below B a w) (hB : B ≤ base) (n0 : 0 ≤ n) (n1 : n < 9223372036854775808) :
    Calls Try.prog 22 #[.slice (some ⟨g, 0, none⟩) m m, .int .i64 n] w (PutPostT w base B a m 4 xs (pb n 4 4)) := by
  obtain ⟨i0, hi0, hz0, hz1, hz2⟩ := info_parts info_u8
  have HI0 := Lib.hid hi0
  have HZ0 := Lib.hid hz0
  have HZ1 := Lib.hid hz1
  have HZ2 := Lib.hid hz2
  have HCS := Lib.hid hcs
  have HB := Lib.hid hbel
  have HXL := Lib.hid hxl
  have HA := Lib.hid ((Below.refl w.heap.size w).alloc (Nat.le_refl _) (.cells #[.int .u8 (n / 16777216 % 256), .int .u8 (n / 65536 % 256), .int .u8 (n / 256 % 256), .int .u8 (n % 256)] 5))
  have HOL := Lib.hid (show ∀ b : Addr, some (⟨g, 0, none⟩ : Addr) = some b → ∀ j u, xs[j]? = some u → (w.alloc (.cells #[.int .u8 (n / 16777216 % 256), .int .u8 (n / 65536 % 256), .int .u8 (n / 256 % 256), .int .u8 (n % 256)] 5)).cell? (b.add j) = some u from fun b hb j u hu => by
    injection hb with hb
    subst hb
    have h1 := HCS.out j u hu
    rw [Addr.add_lit, Nat.zero_add, ← h1]
    exact HA.out.cell (p := ⟨g, j, none⟩) (World.block_lt_of_cell? _ _ h1))
  rw [pb4, by3, by2, by1, by0]
  clear hi0 hz0 hz1 hz2 hbel hcs hxl
  go_enter Try.func22, Try.ntmps22
  go_wp2_with (at_builtin; refine wpList_append_grows _ rfl (.tmp 5) (.tmp 17) _ rfl 5 i0 _ 1 1 Try.underlying25 HI0.out HZ0.out HZ1.out HZ2.out rfl (by omega) (some ⟨g, 0, none⟩) m m xs rfl (fun h => by cases h) (by rw [HXL.out, Nat.mul_one]) HOL.out ⟨w.heap.size, 0, none⟩ 4 4 [.int .u8 (n / 16777216 % 256), .int .u8 (n / 65536 % 256), .int .u8 (n / 256 % 256), .int .u8 (n % 256)] rfl rfl (news4 w #[.int .u8 (n / 16777216 % 256), .int .u8 (n / 65536 % 256), .int .u8 (n / 256 % 256), .int .u8 (n % 256)] 5) (one4 _ _ _ _) (by omega) (by unfold maxLen; omega) (by omega) ?_; intro v1 w1 ho1 hg1; have HO1 := Lib.hid ho1; have HG1 := Lib.hid hg1; obtain ⟨A4, c4, hv4⟩ := own_slice ho1; subst hv4; clear ho1 hg1)
  go_ret
  exact ⟨.slice A4 (m + 4) c4, rfl, own_base HO1.out (Nat.le_trans hbase HA.out.size), (HB.out.trans (HA.out.mono (Nat.le_trans hB hbase))).grown HG1.out (Nat.le_trans hB (Nat.le_trans hbase HA.out.size)) (fun k hk => by cases hk), Nat.le_trans hbase (Nat.le_trans HA.out.size HG1.out.size), fun k t cs ht hb => (HG1.out.block k (Nat.lt_of_lt_of_le hb.lt HA.out.size) (by simp)).trans (hb.below HA.out hb.lt)⟩
end Go.Proofs.Ytmlicmcphecakaa.snF
