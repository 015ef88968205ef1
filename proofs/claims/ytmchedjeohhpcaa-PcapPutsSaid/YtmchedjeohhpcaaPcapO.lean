/- Layer 36: the law's bytes of a file. -/
import Derived.Test.YtmchedjeohhpcaaPcapM
namespace Go.Proofs.Ytmchedjeohhpcaa.pcapO
open Go.ChangeShapes Go.WideShapes Go.ChangeAt Go.RowKit
open Go.Proofs.Ytmchedjeohhpcaa.base Go.Proofs.Ytmchedjeohhpcaa.pcapA Go.Proofs.Ytmchedjeohhpcaa.pcapB Go.Proofs.Ytmchedjeohhpcaa.pcapC Go.Proofs.Ytmchedjeohhpcaa.pcapD Go.Proofs.Ytmchedjeohhpcaa.pcapE Go.Proofs.Ytmchedjeohhpcaa.pcapF Go.Proofs.Ytmchedjeohhpcaa.pcapG Go.Proofs.Ytmchedjeohhpcaa.pcapI Go.Proofs.Ytmchedjeohhpcaa.pcapJ Go.Proofs.Ytmchedjeohhpcaa.pcapK Go.Proofs.Ytmchedjeohhpcaa.pcapL Go.Proofs.Ytmchedjeohhpcaa.pcapM
set_option linter.unusedVariables false

theorem four_low (n : Nat) : fourZ (ordN false n) = [(n : Int) % 256, (n : Int) / 256 % 256, (n : Int) / 65536 % 256, (n : Int) / 16777216 % 256] := by
  have e : ordN false n = n % 256 * 16777216 + n / 256 % 256 * 65536 + n / 65536 % 256 * 256 + n / 16777216 % 256 := rfl
  have h1 : n % 256 < 256 := Nat.mod_lt _ (by decide)
  have h2 : n / 256 % 256 < 256 := Nat.mod_lt _ (by decide)
  have h3 : n / 65536 % 256 < 256 := Nat.mod_lt _ (by decide)
  have h4 : n / 16777216 % 256 < 256 := Nat.mod_lt _ (by decide)
  have i1 : ((n % 256 : Nat) : Int) = (n : Int) % 256 := by omega
  have i2 : ((n / 256 % 256 : Nat) : Int) = (n : Int) / 256 % 256 := by omega
  have i3 : ((n / 65536 % 256 : Nat) : Int) = (n : Int) / 65536 % 256 := by omega
  have i4 : ((n / 16777216 % 256 : Nat) : Int) = (n : Int) / 16777216 % 256 := by omega
  rw [e, ← i1, ← i2, ← i3, ← i4]
  clear e i1 i2 i3 i4
  generalize n % 256 = a at *
  generalize n / 256 % 256 = b at *
  generalize n / 65536 % 256 = c at *
  generalize n / 16777216 % 256 = d at *
  unfold fourZ
  have j1 : ((a * 16777216 + b * 65536 + c * 256 + d : Nat) : Int) / 16777216 % 256 = (a : Int) := by omega
  have j2 : ((a * 16777216 + b * 65536 + c * 256 + d : Nat) : Int) / 65536 % 256 = (b : Int) := by omega
  have j3 : ((a * 16777216 + b * 65536 + c * 256 + d : Nat) : Int) / 256 % 256 = (c : Int) := by omega
  have j4 : ((a * 16777216 + b * 65536 + c * 256 + d : Nat) : Int) % 256 = (d : Int) := by omega
  rw [j1, j2, j3, j4]
set_option maxHeartbeats 400000 in
set_option maxRecDepth 100000 in
theorem four_big (v : Value) (m : Nat) (xs : List Value) (n : Nat) (base B : Nat) (a w : World) (hown : w.ownsRow base 5 1 v m xs) (hbase : base ≤ w.heap.size) (hm : m + 4 ≤ 1000000000) (hbel : Below B a w) (hB : B ≤ base) (hn : n < 4294967296) :
    Calls Try.prog 23 #[v, .bool true, .int .u32 (n : Int)] w (PutPost w base B a m 4 xs (fourZ (ordN true n))) := by
  obtain ⟨i0, hi0, hz0, hz1, hz2⟩ := info_parts info_u8
  have HI0 := Lib.hid hi0
  have HZ0 := Lib.hid hz0
  have HZ1 := Lib.hid hz1
  have HZ2 := Lib.hid hz2
  have HO := Lib.hid hown
  have HB := Lib.hid hbel
  have c1 : IntKind.u8.wrap ((n : Int) / 16777216) = (n : Int) / 16777216 % 256 := by rw [IntKind.wrap_u8]
  have c2 : IntKind.u8.wrap ((n : Int) / 65536) = (n : Int) / 65536 % 256 := by rw [IntKind.wrap_u8]
  have c3' : IntKind.u8.wrap ((n : Int) / 256) = (n : Int) / 256 % 256 := by rw [IntKind.wrap_u8]
  have c4 : IntKind.u8.wrap (n : Int) = (n : Int) % 256 := by rw [IntKind.wrap_u8]
  rw [show ordN true n = n from rfl]
  clear hi0 hz0 hz1 hz2 hown hbel
  go_enter Try.func23, Try.ntmps23
  go_wp2_with (at_builtin; refine wpList_append_own _ rfl (.tmp 8) (.tmp 20) _ rfl base 5 i0 _ 1 1 Try.underlying27 HI0.out HZ0.out HZ1.out HZ2.out rfl (by omega) _ m _ rfl (HO.out.alloc _) ⟨w.heap.size, 0, none⟩ 4 4 ((fourZ n).map (.int .u8)) rfl rfl (lit_new _ _ _) (four_one n) (by unfold maxLen; omega) (by omega) (by simp; omega) ?_; intro v1 w1 hown1 hg1 _; have HO1 := Lib.hid hown1; have HG1 := Lib.hid hg1; clear hown1 hg1)
  go_ret
  refine ⟨_, rfl, HO1.out, below_grown (HB.out.alloc (by omega) _) (HO.out.alloc _) hB (by simp; omega) HG1.out, by have := HG1.out.size; simp at this; omega, fun g t cs' ht hb => (hb.alloc (.cells #[.int .u8 ((n : Int) / 16777216 % 256), .int .u8 ((n : Int) / 65536 % 256), .int .u8 ((n : Int) / 256 % 256), .int .u8 ((n : Int) % 256)] 5)).grown HG1.out (own_ne (v := v) ht (HO.out.alloc (.cells #[.int .u8 ((n : Int) / 16777216 % 256), .int .u8 ((n : Int) / 65536 % 256), .int .u8 ((n : Int) / 256 % 256), .int .u8 ((n : Int) % 256)] 5)) (hb.alloc (.cells #[.int .u8 ((n : Int) / 16777216 % 256), .int .u8 ((n : Int) / 65536 % 256), .int .u8 ((n : Int) / 256 % 256), .int .u8 ((n : Int) % 256)] 5)))⟩
set_option maxHeartbeats 400000 in
set_option maxRecDepth 100000 in
theorem four_small (v : Value) (m : Nat) (xs : List Value) (n : Nat) (base B : Nat) (a w : World) (hown : w.ownsRow base 5 1 v m xs) (hbase : base ≤ w.heap.size) (hm : m + 4 ≤ 1000000000) (hbel : Below B a w) (hB : B ≤ base) (hn : n < 4294967296) :
    Calls Try.prog 23 #[v, .bool false, .int .u32 (n : Int)] w (PutPost w base B a m 4 xs (fourZ (ordN false n))) := by
  obtain ⟨i0, hi0, hz0, hz1, hz2⟩ := info_parts info_u8
  have HI0 := Lib.hid hi0
  have HZ0 := Lib.hid hz0
  have HZ1 := Lib.hid hz1
  have HZ2 := Lib.hid hz2
  have HO := Lib.hid hown
  have HB := Lib.hid hbel
  have c1 : IntKind.u8.wrap ((n : Int) / 16777216) = (n : Int) / 16777216 % 256 := by rw [IntKind.wrap_u8]
  have c2 : IntKind.u8.wrap ((n : Int) / 65536) = (n : Int) / 65536 % 256 := by rw [IntKind.wrap_u8]
  have c3' : IntKind.u8.wrap ((n : Int) / 256) = (n : Int) / 256 % 256 := by rw [IntKind.wrap_u8]
  have c4 : IntKind.u8.wrap (n : Int) = (n : Int) % 256 := by rw [IntKind.wrap_u8]
  rw [four_low n]
  clear hi0 hz0 hz1 hz2 hown hbel
  go_enter Try.func23, Try.ntmps23
  go_wp2_with (at_builtin; refine wpList_append_own _ rfl (.tmp 22) (.tmp 34) _ rfl base 5 i0 _ 1 1 Try.underlying27 HI0.out HZ0.out HZ1.out HZ2.out rfl (by omega) _ m _ rfl (HO.out.alloc _) ⟨w.heap.size, 0, none⟩ 4 4 ([(n : Int) % 256, (n : Int) / 256 % 256, (n : Int) / 65536 % 256, (n : Int) / 16777216 % 256].map (.int .u8)) rfl rfl (lit_new _ _ _) (one_u8 _) (by unfold maxLen; omega) (by omega) (by simp; omega) ?_; intro v1 w1 hown1 hg1 _; have HO1 := Lib.hid hown1; have HG1 := Lib.hid hg1; clear hown1 hg1)
  go_ret
  refine ⟨_, rfl, HO1.out, below_grown (HB.out.alloc (by omega) _) (HO.out.alloc _) hB (by simp; omega) HG1.out, by have := HG1.out.size; simp at this; omega, fun g t cs' ht hb => (hb.alloc (.cells #[.int .u8 ((n : Int) % 256), .int .u8 ((n : Int) / 256 % 256), .int .u8 ((n : Int) / 65536 % 256), .int .u8 ((n : Int) / 16777216 % 256)] 5)).grown HG1.out (own_ne (v := v) ht (HO.out.alloc (.cells #[.int .u8 ((n : Int) % 256), .int .u8 ((n : Int) / 256 % 256), .int .u8 ((n : Int) / 65536 % 256), .int .u8 ((n : Int) / 16777216 % 256)] 5)) (hb.alloc (.cells #[.int .u8 ((n : Int) % 256), .int .u8 ((n : Int) / 256 % 256), .int .u8 ((n : Int) / 65536 % 256), .int .u8 ((n : Int) / 16777216 % 256)] 5)))⟩
theorem lfour_any (big : Bool) (v : Value) (m : Nat) (xs : List Value) (n : Nat) (base B : Nat) (a w : World) (hown : w.ownsRow base 5 1 v m xs) (hbase : base ≤ w.heap.size) (hm : m + 4 ≤ 1000000000) (hbel : Below B a w) (hB : B ≤ base) (hn : n < 4294967296) :
    Calls Try.prog 23 #[v, .bool big, .int .u32 (n : Int)] w (PutPost w base B a m 4 xs (fourZ (ordN big n))) := by
  cases big
  · exact four_small v m xs n base B a w hown hbase hm hbel hB hn
  · exact four_big v m xs n base B a w hown hbase hm hbel hB hn
end Go.Proofs.Ytmchedjeohhpcaa.pcapO
