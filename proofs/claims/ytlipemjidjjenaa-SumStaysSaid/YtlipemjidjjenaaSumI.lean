/- Layer 4: the law on sums of bytes. -/
import Derived.Test.YtlipemjidjjenaaSumH
import Derived.Test.YtlipemjidjjenaaIsRow
namespace Go.Proofs.Ytlipemjidjjenaa.sumI
open Go.ChangeShapes Go.WideShapes Go.ChangeAt Go.RowKit
open Go.Proofs.Ytlipemjidjjenaa.base Go.Proofs.Ytlipemjidjjenaa.sumA Go.Proofs.Ytlipemjidjjenaa.sumB Go.Proofs.Ytlipemjidjjenaa.sumC Go.Proofs.Ytlipemjidjjenaa.sumE Go.Proofs.Ytlipemjidjjenaa.sumH
set_option linter.unusedVariables false

theorem info_u8 : (Try.prog.info? 5).map (fun i => (i.zero, i.size, i.bytes)) = some (some (.int .u8 0), 1, 1) := by kernel_rfl
theorem row3 {w : World} {g : Nat} {t : TypeId} {a b c : Value} (h : Blk w g t #[a, b, c]) : Row w w.heap.size (some ⟨g, 0, none⟩) [a, b, c] := row_blk h

theorem three {w W : World} {A1 A2 A3 : Option Addr} {n1 n2 n3 c1 c2 c3 : Nat} {l1 l2 l3 : List Int} (h1 : l1.length = n1) (h2 : l2.length = n2) (h3 : l3.length = n3)
    (r1 : Row w w.heap.size A1 (l1.map (.int .u8))) (r2 : Row w w.heap.size A2 (l2.map (.int .u8))) (r3 : Row w w.heap.size A3 (l3.map (.int .u8)))
    (b1 : ∀ x ∈ l1, 0 ≤ x ∧ x ≤ 255) (b2 : ∀ x ∈ l2, 0 ≤ x ∧ x ≤ 255) (b3 : ∀ x ∈ l3, 0 ≤ x ∧ x ≤ 255) (hb : Below w.heap.size w W) (t : TypeId) :
    Row (W.alloc (.cells #[.slice A1 n1 c1, .slice A2 n2 c2, .slice A3 n3 c3] t)) (W.heap.size + 1) (some ⟨W.heap.size, 0, none⟩) (([⟨A1, c1, l1⟩, ⟨A2, c2, l2⟩, ⟨A3, c3, l3⟩] : List Part).map Part.val) ∧
      ∀ p ∈ ([⟨A1, c1, l1⟩, ⟨A2, c2, l2⟩, ⟨A3, c3, l3⟩] : List Part), p.ok (W.alloc (.cells #[.slice A1 n1 c1, .slice A2 n2 c2, .slice A3 n3 c3] t)) (W.heap.size + 1) := by
  subst h1 h2 h3
  have hs := hb.size
  refine ⟨(row3 (Blk.new W t _)).more (by simp), fun p hp => ?_⟩
  have hb2 := hb.alloc hs (.cells #[.slice A1 l1.length c1, .slice A2 l2.length c2, .slice A3 l3.length c3] t)
  simp only [List.mem_cons, List.not_mem_nil, or_false] at hp
  rcases hp with rfl | rfl | rfl
  · exact ⟨(r1.below hb2).more (by omega), b1⟩
  · exact ⟨(r2.below hb2).more (by omega), b2⟩
  · exact ⟨(r3.below hb2).more (by omega), b3⟩

set_option maxHeartbeats 400000 in
theorem sumBytes_any (A1 A2 A3 : Option Addr) (n1 n2 n3 c1 c2 c3 : Nat) (l1 l2 l3 : List Int) (w : World)
    (h1 : l1.length = n1) (h2 : l2.length = n2) (h3 : l3.length = n3) (k1 : n1 ≤ 400) (k2 : n2 ≤ 400) (k3 : n3 ≤ 400)
    (z1 : A1 = none → c1 = 0) (z2 : A2 = none → c2 = 0) (z3 : A3 = none → c3 = 0)
    (r1 : Row w w.heap.size A1 (l1.map (.int .u8))) (r2 : Row w w.heap.size A2 (l2.map (.int .u8))) (r3 : Row w w.heap.size A3 (l3.map (.int .u8)))
    (b1 : ∀ x ∈ l1, 0 ≤ x ∧ x ≤ 255) (b2 : ∀ x ∈ l2, 0 ≤ x ∧ x ≤ 255) (b3 : ∀ x ∈ l3, 0 ≤ x ∧ x ≤ 255) (v1 v2 v3 : Value)
    (C1 : Hid (∀ w : World, Calls Try.prog 48 #[v1] w fun e w' => e = .returned (.slice A1 n1 c1) ∧ w = w'))
    (C2 : Hid (∀ w : World, Calls Try.prog 48 #[v2] w fun e w' => e = .returned (.slice A2 n2 c2) ∧ w = w'))
    (C3 : Hid (∀ w : World, Calls Try.prog 48 #[v3] w fun e w' => e = .returned (.slice A3 n3 c3) ∧ w = w')) :
    Calls Try.prog 13 #[v1, v2, v3] w fun e w' => e = .returned (.bool true) ∧ Below w.heap.size w w' := by
  obtain ⟨i0, hi0, hz0, hz1, hz2⟩ := info_parts info_u8
  have HI0 := Lib.hid hi0
  have HZ0 := Lib.hid hz0
  have HZ1 := Lib.hid hz1
  have HZ2 := Lib.hid hz2
  have Z1 := Lib.hid z1
  have Z2 := Lib.hid z2
  have Z3 := Lib.hid z3
  have R1 := Lib.hid r1
  have R2 := Lib.hid r2
  have R3 := Lib.hid r3
  have B1 := Lib.hid b1
  have B2 := Lib.hid b2
  have B3 := Lib.hid b3
  have L1 := Lib.hid h1
  have L2 := Lib.hid h2
  have L3 := Lib.hid h3
  obtain ⟨L, hL⟩ : ∃ L, L = l1 ++ l2 ++ l3 := ⟨_, rfl⟩
  have hbL : ∀ x ∈ L, 0 ≤ x ∧ x ≤ 255 := by
    intro x hx
    rw [hL, List.mem_append, List.mem_append] at hx
    rcases hx with (hx | hx) | hx
    · exact b1 x hx
    · exact b2 x hx
    · exact b3 x hx
  have hlL : L.length = n1 + n2 + n3 := by rw [hL, List.length_append, List.length_append, h1, h2, h3]
  have hfl : flat [⟨A1, c1, l1⟩, ⟨A2, c2, l2⟩, ⟨A3, c3, l3⟩] = L := by rw [hL]; simp [flat]
  have hbd := wsum_bd L hbL
  have hs0 := hbd.1
  have hs9 : wsum L ≤ 1200 * 65280 := by have := hbd.2; omega
  have hfb := fo_bd (wsum L) hs0
  have hfz := fo_zero hs0
  have hfm := fo_mod hs0
  have oneC : ∀ l : List Int, ∀ u ∈ l.map (Value.int .u8), u.oneCell' = true := by
    intro l u hu
    rw [List.mem_map] at hu
    obtain ⟨x, _, rfl⟩ := hu
    rfl
  have ONE := Lib.hid oneC
  have HL := Lib.hid hL
  have HBL := Lib.hid hbL
  have HLL := Lib.hid hlL
  have HFL := Lib.hid hfl
  clear hi0 hz0 hz1 hz2 z1 z2 z3 r1 r2 r3 b1 b2 b3 h1 h2 h3 hL hbL hlL hfl hbd oneC
  generalize hS : fo (wsum L) = S at *
  have HS := Lib.hid hS
  clear hS
  go_enter Try.func13, Try.ntmps13
  go_wp2_with fail
  refine (C1.out _).mono ?_
  rintro e w' ⟨rfl, rfl⟩
  go_wp2_with fail
  refine (C2.out _).mono ?_
  rintro e w' ⟨rfl, rfl⟩
  go_wp2_with fail
  refine (C3.out _).mono ?_
  rintro e w' ⟨rfl, rfl⟩
  go_wp2_with (first
    | (at_builtin; refine wpList_append_row rfl (.tmp 19) (.tmp 20) _ rfl w.heap.size 5 i0 _ 1 Try.underlying63 HI0.out HZ0.out HZ1.out HZ2.out rfl (.slice (some ⟨w.heap.size, 0, none⟩) 0 0) 0 [] rfl (World.ownsRow_lit w #[] 0 (Nat.le_refl _) (by unfold maxLen; omega) rfl) A1 n1 c1 w.heap.size (l1.map (.int .u8)) rfl Z1.out (by simp; exact L1.out) (R1.out.below ((Below.refl _ _).alloc (Nat.le_refl _) _)) (ONE.out _) (by unfold maxLen; omega) (by omega) (by simp) ?_; intro va wa owna ga; have HOa := Lib.hid owna; have HBa := Lib.hid (below_grown ((Below.refl _ _).alloc (Nat.le_refl _) _) (World.ownsRow_lit w #[] 0 (Nat.le_refl _) (by unfold maxLen; omega) rfl) (Nat.le_refl _) (by simp) ga); clear owna ga)
    | (at_builtin; have hsa := HBa.out.size; refine wpList_append_row rfl (.tmp 22) (.tmp 23) _ rfl w.heap.size 5 i0 _ 1 Try.underlying63 HI0.out HZ0.out HZ1.out HZ2.out rfl va (0 + n1) _ rfl HOa.out A2 n2 c2 w.heap.size (l2.map (.int .u8)) rfl Z2.out (by simp; exact L2.out) (R2.out.below HBa.out) (ONE.out _) (by unfold maxLen; omega) (by omega) hsa ?_; intro vb wb ownb gb; have HOb := Lib.hid ownb; have HBb := Lib.hid (below_grown HBa.out HOa.out (Nat.le_refl _) hsa gb); clear ownb gb)
    | (at_builtin; have hsb := HBb.out.size; refine wpList_append_row rfl (.tmp 25) (.tmp 26) _ rfl w.heap.size 5 i0 _ 1 Try.underlying63 HI0.out HZ0.out HZ1.out HZ2.out rfl vb (0 + n1 + n2) _ rfl HOb.out A3 n3 c3 w.heap.size (l3.map (.int .u8)) rfl Z3.out (by simp; exact L3.out) (R3.out.below HBb.out) (ONE.out _) (by unfold maxLen; omega) (by omega) hsb ?_; intro vc wc ownc gc; have HOc := Lib.hid ownc; have HBc := Lib.hid (below_grown HBb.out HOb.out (Nat.le_refl _) hsb gc); clear ownc gc))
  have hsc := HBc.out.size
  have T3 := three (c1 := c1) (c2 := c2) (c3 := c3) L1.out L2.out L3.out R1.out R2.out R3.out B1.out B2.out B3.out HBc.out 63
  have HT := Lib.hid T3
  have hsl : (flat [⟨A1, c1, l1⟩, ⟨A2, c2, l2⟩, ⟨A3, c3, l3⟩]).length ≤ 1099511627776 := by rw [HFL.out, HLL.out]; omega
  have HSL := Lib.hid hsl
  clear T3 hsl
  refine (of_any _ 3 3 _ _ _ rfl (by omega) HSL.out HT.out.1 HT.out.2).mono ?_
  rintro e w' ⟨rfl, rfl⟩
  rw [HFL.out, HS.out]
  have HB1 := Lib.hid (HBc.out.alloc hsc (.cells #[.slice A1 n1 c1, .slice A2 n2 c2, .slice A3 n3 c3] 63))
  have HO1 := Lib.hid (HOc.out.alloc (.cells #[.slice A1 n1 c1, .slice A2 n2 c2, .slice A3 n3 c3] 63))
  generalize (wc.alloc (.cells #[.slice A1 n1 c1, .slice A2 n2 c2, .slice A3 n3 c3] 63)) = we at *
  clear HT HSL
  obtain ⟨N, hN⟩ : ∃ N, N = n1 + n2 + n3 := ⟨_, rfl⟩
  have ho2 := HO1.out
  have eL : [] ++ l1.map (Value.int .u8) ++ l2.map (Value.int .u8) ++ l3.map (Value.int .u8) = L.map (Value.int .u8) := by rw [HL.out]; simp
  rw [eL, Nat.zero_add, ← hN] at ho2
  have hlc : L.length = N := by rw [HLL.out, hN]
  have hN9 : N ≤ 1200 := by omega
  have HLC := Lib.hid hlc
  clear HO1 eL hlc hN
  obtain ⟨Ac, cc, rfl⟩ := own_slice ho2
  have HRC := Lib.hid (own_row ho2)
  clear ho2
  have e1 : IntKind.i64.wrap S = S := by rw [IntKind.wrap_i64]; omega
  go_wp2_with fail
  refine (refWords_any _ _ _ L _ HLC.out (by omega) HRC.out HBL.out).mono ?_
  rintro e w1 ⟨v, rfl, hown, hbel⟩
  obtain ⟨Aw, cw, rfl⟩ := own_slice hown
  have hrow := own_row hown
  have HROW := Lib.hid hrow
  have HBEL := Lib.hid hbel
  clear hown hbel hrow
  go_wp2_with fail
  clear HOa HOb HOc HBa HBb HI0 HZ0 HZ1 HZ2 Z1 Z2 Z3 ONE C1 C2 C3
  go_loop [9, 10, 12] (fun z s i => ∃ k : Nat, k ≤ (N + 1) / 2 ∧ i = .int .i64 k ∧ z = .bool (decide (wsum (L.take (2 * k)) = 0)) ∧ s = .int .i64 (wsum (L.take (2 * k))) ∧ 0 ≤ wsum (L.take (2 * k)) ∧ wsum (L.take (2 * k)) ≤ k * 65535) (fun _ _ i => (N + 1) / 2 - (intOf i).toNat)
  case atStart => exact ⟨0, by omega, rfl, by simp [wsum], by simp [wsum], by simp [wsum], by simp [wsum]⟩
  case round =>
    obtain ⟨k, hk, rfl, rfl, rfl, s0, s9⟩ := hrel
    by_cases hlt : k < (N + 1) / 2
    · obtain ⟨g, off, rfl, hbl, hc⟩ := HROW.out.at_ (by intro h; have h2 := congrArg List.length h; rw [List.length_map] at h2; simp only [wds, List.length_map, List.length_range, List.length_nil] at h2; omega)
      have hcell : w1.cell? ⟨g, off + k, none⟩ = some (.int .i64 (wd L k)) := hc k _ (by simp [wds, hlt])
      have hst := wsum_step L k (by rw [HLC.out]; omega)
      have hwb := wd_bd L HBL.out k
      have HST := Lib.hid hst
      clear hc hst
      generalize wd L k = x at *
      generalize wsum (L.take (2 * k)) = s at *
      obtain ⟨x0, x9⟩ := hwb
      have q1 : IntKind.i64.wrap (s + x) = s + x := by rw [IntKind.wrap_i64]; omega
      by_cases h0 : s = 0
      · have hz : decide (s = 0) = true := by simp [h0]
        have hxx : (x == 0) = decide (s + x = 0) := by rw [h0, Int.zero_add]; by_cases hx : x = 0 <;> simp [hx]
        rw [hz]
        have HXX := Lib.hid hxx
        clear hz hxx h0
        go_wp2_with fail
        go_round
        case rel => exact ⟨k + 1, by omega, by go_num, by rw [HST.out, HXX.out], by rw [HST.out], by rw [HST.out]; omega, by rw [HST.out]; omega⟩
        case measure => simp [intOf]; omega
      · have hz : decide (s = 0) = false := by simp [h0]
        have hxx : decide (s + x = 0) = false := by simp; omega
        rw [hz]
        have HXX := Lib.hid hxx
        clear hz hxx h0
        go_wp2_with fail
        go_round
        case rel => exact ⟨k + 1, by omega, by go_num, by rw [HST.out, HXX.out], by rw [HST.out], by rw [HST.out]; omega, by rw [HST.out]; omega⟩
        case measure => simp [intOf]; omega
    · have hkn : L.take (2 * k) = L := List.take_of_length_le (by rw [HLC.out]; omega)
      rw [hkn]
      have hsw := HB1.out.size
      have hrc1 := HRC.out.below HBEL.out
      have hrc2 := hrc1.more HBEL.out.size
      have HRC2 := Lib.hid hrc2
      have HBw1 := Lib.hid (HB1.out.trans (HBEL.out.mono hsw))
      have hq0 : (S != S) = false := by simp
      have hq1 : (65535 - S == 65535 - S) = true := by simp
      clear hrc1 hrc2 hkn s0 s9 HRC HROW HBEL hsw HB1
      go_wp2_with fail
      refine (refOf_any _ _ _ L _ HLC.out (by omega) HRC2.out HBL.out).mono ?_
      rintro e w5 ⟨rfl, hb5⟩
      rw [HS.out]
      have HB5 := Lib.hid (HBw1.out.trans (hb5.mono HBw1.out.size))
      clear hb5
      have hfm2 : (S % 65535 != wsum L % 65535) = false := by rw [hfm]; simp
      have hsz1 : (S == 0) = decide (S = 0) := by by_cases h : S = 0 <;> simp [h]
      have hsz : (S == 0) = decide (wsum L = 0) := hsz1.trans (decide_eq_decide.2 hfz)
      have HFS : Hid (fo (wsum L) = S) := HS
      have hsl : (flat [⟨A1, c1, l1⟩, ⟨A2, c2, l2⟩, ⟨A3, c3, l3⟩]).length ≤ 1099511627776 := by rw [HFL.out, HLC.out]; omega
      have HSL := Lib.hid hsl
      clear hsz1 hsl
      clear hfz hfm
      generalize decide (wsum L = 0) = z at *
      have hzz : (z != z) = false := by cases z <;> rfl
      generalize hW : wsum L = W at *
      have HW := Lib.hid hW
      clear hW
      go_wp2_with fail
      have hs5 := HB5.out.size
      have T5 := Lib.hid (three (c1 := c1) (c2 := c2) (c3 := c3) L1.out L2.out L3.out R1.out R2.out R3.out B1.out B2.out B3.out HB5.out 63)
      refine (check_any _ 3 3 _ _ _ rfl (by omega) HSL.out T5.out.1 T5.out.2).mono ?_
      rintro e w' ⟨rfl, rfl⟩
      rw [HFL.out, HW.out, HS.out]
      have HB6 := Lib.hid (HB5.out.alloc hs5 (.cells #[.slice A1 n1 c1, .slice A2 n2 c2, .slice A3 n3 c3] 63))
      generalize (w5.alloc (.cells #[.slice A1 n1 c1, .slice A2 n2 c2, .slice A3 n3 c3] 63)) = w6 at *
      clear T5 HB5
      have e2 : IntKind.i64.wrap (65535 - S) = 65535 - S := by rw [IntKind.wrap_i64]; omega
      go_wp2_with fail
      have hs6 := HB6.out.size
      have T6 := Lib.hid (three (c1 := c1) (c2 := c2) (c3 := c3) L1.out L2.out L3.out R1.out R2.out R3.out B1.out B2.out B3.out HB6.out 63)
      refine (right_any _ 3 3 _ _ _ rfl (by omega) HSL.out T6.out.1 T6.out.2).mono ?_
      rintro e w' ⟨rfl, rfl⟩
      rw [HFL.out, HW.out, HS.out]
      have HB7 := Lib.hid (HB6.out.alloc hs6 (.cells #[.slice A1 n1 c1, .slice A2 n2 c2, .slice A3 n3 c3] 63))
      generalize (w6.alloc (.cells #[.slice A1 n1 c1, .slice A2 n2 c2, .slice A3 n3 c3] 63)) = w7 at *
      clear T6 HB6
      have hq2 : ((S == 65535) == (S == 65535)) = true := by simp
      go_wp2_with fail
      refine (awake_any _).mono ?_
      rintro e w8 ⟨rfl, hb8⟩
      have HB8 := Lib.hid (HB7.out.trans (hb8.mono HB7.out.size))
      clear hb8
      go_wp2_with fail
      go_ret
      exact ⟨rfl, HB8.out⟩
end Go.Proofs.Ytlipemjidjjenaa.sumI
