/- Layer 11: the example, the law's bytes of a datagram. -/
import Derived.Test.YtjgeknkfinaimaaUdpC
import Derived.Test.YtjgeknkfinaimaaSumH
namespace Go.Proofs.Ytjgeknkfinaimaa.udpD
open Go.ChangeShapes Go.WideShapes Go.ChangeAt Go.RowKit
open Go.Proofs.Ytjgeknkfinaimaa.base Go.Proofs.Ytjgeknkfinaimaa.sumA Go.Proofs.Ytjgeknkfinaimaa.sumB Go.Proofs.Ytjgeknkfinaimaa.octA Go.Proofs.Ytjgeknkfinaimaa.octB Go.Proofs.Ytjgeknkfinaimaa.octC Go.Proofs.Ytjgeknkfinaimaa.octE Go.Proofs.Ytjgeknkfinaimaa.octF Go.Proofs.Ytjgeknkfinaimaa.rdrA Go.Proofs.Ytjgeknkfinaimaa.udpA Go.Proofs.Ytjgeknkfinaimaa.udpB
set_option linter.unusedVariables false

set_option maxRecDepth 100000 in
theorem awake_any (w : World) :
    Calls Try.prog 8 #[] w fun e w' => e = .returned (.bool true) ∧ Below w.heap.size w w' := by
  have hub : ub 1 2 [] 0 = [0, 1, 0, 2, 0, 8, 0, 0] := by decide
  have hstr : ((strOfNums [0, 1, 0, 2, 0, 8, 0, 0]).toList == [0, 1, 0, 2, 0, 8, 0, 0]) = true := by rw [ByteArray.toList_eq]; decide
  have hb := Go.Proofs.Ytjgeknkfinaimaa.udpC.bytes_any 1 2 true none none 0 0 0 0 [] [] w ⟨by omega, by omega, by omega, by omega⟩ rfl (by omega) (.inl rfl) (by simp) rfl (by omega) (.inl rfl) (by simp)
  rw [if_pos rfl, hub] at hb
  have HB := Lib.hid hb
  clear hb hub
  go_enter Try.func8, Try.ntmps8
  go_wp2_with fail
  refine HB.out.mono ?_
  rintro e w1 ⟨v, rfl, hown, hbel⟩
  obtain ⟨A, c, rfl⟩ := own_slice hown
  have hcv := conv_any (n := 8 + 0) (c := c) (own_row hown) rfl
  have HBE := Lib.hid hbel
  clear hown hbel
  go_wp2_with fail
  go_ret
  exact ⟨rfl, HBE.out⟩
theorem pb_two (x : Int) (h0 : 0 ≤ x) (h1 : x ≤ 65535) : pb x 2 2 = [x / 256, x % 256] := by
  show [byteZ x (2 - 1 - 0), byteZ x (2 - 1 - 1)] = _
  unfold byteZ
  have a : x / 2 ^ (8 * (2 - 1 - 0)) = x / 256 := rfl
  have b : x / 2 ^ (8 * (2 - 1 - 1)) = x := by show x / 1 = x; omega
  rw [a, b]
  congr 1
  omega
theorem ub_eight (sp dp : Int) (pl : List Int) (h : ports sp dp) (hn : pl.length ≤ 65527) : ub sp dp pl 0 = [sp / 256, sp % 256, dp / 256, dp % 256, ((8 + pl.length : Nat) : Int) / 256, ((8 + pl.length : Nat) : Int) % 256, 0, 0] ++ pl := by
  obtain ⟨h1, h2, h3, h4⟩ := h
  rw [ub_zero]
  simp only [allb, List.flatMap_cons, List.flatMap_nil]
  rw [pb_two sp h1 h2, pb_two dp h3 h4, pb_two _ (by omega) (by omega)]
  rfl
def LBPost (w : World) (n : Nat) (l : List Int) (e : Ending) (w' : World) : Prop :=
  ∃ v, e = .returned v ∧ w'.ownsRow w.heap.size 5 1 v n (l.map (.int .u8)) ∧ Below w.heap.size w w'
set_option maxRecDepth 100000 in
theorem lawbytes_any (sp dp : Int) (bare : Bool) (A : Option Addr) (n c : Nat) (pl : List Int) (w : World) (h : ports sp dp) (hl : pl.length = n) (hn : n ≤ 65527) (hr : Row w w.heap.size A (pl.map (.int .u8))) (hz : A = none → c = 0) :
    Calls Try.prog 13 #[.agg #[.int .i64 sp, .int .i64 dp, .bool bare], .slice A n c] w (LBPost w (8 + n) (ub sp dp pl 0)) := by
  have hub := ub_eight sp dp pl h (by omega)
  obtain ⟨h1, h2, h3, h4⟩ := h
  obtain ⟨i0, hi0, hz0, hz1, hz2⟩ := info_parts info_u8
  have HI0 := Lib.hid hi0
  have HZ0 := Lib.hid hz0
  have HZ1 := Lib.hid hz1
  have HZ2 := Lib.hid hz2
  have HR := Lib.hid hr
  have HL := Lib.hid hl
  have HZ := Lib.hid hz
  have oneC : ∀ l : List Int, ∀ u ∈ l.map (Value.int .u8), u.oneCell' = true := by
    intro l u hu
    rw [List.mem_map] at hu
    obtain ⟨x, _, rfl⟩ := hu
    rfl
  have ONE := Lib.hid oneC
  rw [hub, hl]
  generalize hN : ((8 + n : Nat) : Int) = N at *
  have e8 : (8 : Int) + (n : Int) = N := by omega
  have N0 : 0 ≤ N := by omega
  have N1 : N ≤ 65535 := by omega
  have a1 : IntKind.u8.wrap (sp / 256) = sp / 256 := by rw [IntKind.wrap_u8]; omega
  have a2 : IntKind.u8.wrap (sp % 256) = sp % 256 := by rw [IntKind.wrap_u8]; omega
  have a3 : IntKind.u8.wrap (dp / 256) = dp / 256 := by rw [IntKind.wrap_u8]; omega
  have a4 : IntKind.u8.wrap (dp % 256) = dp % 256 := by rw [IntKind.wrap_u8]; omega
  have a5 : IntKind.u8.wrap (N / 256) = N / 256 := by rw [IntKind.wrap_u8]; omega
  have a6 : IntKind.u8.wrap (N % 256) = N % 256 := by rw [IntKind.wrap_u8]; omega
  have HE8 := Lib.hid (show (8 + n) * 1 ≤ 140737488355328 by omega)
  have HE9 := Lib.hid (show 8 + n ≤ maxLen by unfold maxLen; omega)
  have E8 := Lib.hid (show 8 ≤ maxLen from Nat.le_trans (Nat.le_add_right 8 n) HE9.out)
  have hz3 : (w.alloc (.cells #[.int .i64 sp, .int .i64 dp, .bool bare] 28)).heap.size = w.heap.size + 1 := by simp
  have hlit := World.ownsRow_lit (base := w.heap.size) (e := 5) (size := 1) (w.alloc (.cells #[.int .i64 sp, .int .i64 dp, .bool bare] 28)) #[.int .u8 (sp / 256), .int .u8 (sp % 256), .int .u8 (dp / 256), .int .u8 (dp % 256), .int .u8 (N / 256), .int .u8 (N % 256), .int .u8 0, .int .u8 0] 8 (by simp) E8.out rfl
  rw [hz3] at hlit
  have HLIT := Lib.hid hlit
  have HBX := Lib.hid (((Below.refl w.heap.size w).alloc (Nat.le_refl _) (.cells #[.int .i64 sp, .int .i64 dp, .bool bare] 28)).alloc (by simp) (.cells #[.int .u8 (sp / 256), .int .u8 (sp % 256), .int .u8 (dp / 256), .int .u8 (dp % 256), .int .u8 (N / 256), .int .u8 (N % 256), .int .u8 0, .int .u8 0] 5))
  clear hlit hz3
  clear hi0 hz0 hz1 hz2 hr hl hz oneC hub hN
  go_enter Try.func13, Try.ntmps13
  go_wp2_with (at_builtin; clear a1 a2 a3 a4 a5 a6 e8; refine wpList_append_row rfl (.tmp 33) (.tmp 34) _ rfl w.heap.size 5 i0 _ 1 Try.underlying23 HI0.out HZ0.out HZ1.out HZ2.out rfl (.slice (some ⟨w.heap.size + 1, 0, none⟩) 8 8) 8 _ rfl HLIT.out A n c w.heap.size (pl.map (.int .u8)) rfl HZ.out (by rw [List.length_map]; exact HL.out) (HR.out.below HBX.out) (ONE.out _) HE9.out HE8.out HBX.out.size ?_; intro va wa owna ga; have HOa := Lib.hid owna; have HBa := Lib.hid (below_grown HBX.out HLIT.out (Nat.le_refl _) HBX.out.size ga); clear owna ga)
  go_ret
  refine ⟨_, rfl, ?_, HBa.out⟩
  have := HOa.out
  simpa using this
end Go.Proofs.Ytjgeknkfinaimaa.udpD
