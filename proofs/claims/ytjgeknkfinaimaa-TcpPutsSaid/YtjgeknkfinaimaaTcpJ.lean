/- Layer 10: a segment as bytes. -/
import Derived.Test.YtjgeknkfinaimaaTcpI
import Derived.Test.YtjgeknkfinaimaaSumI
namespace Go.Proofs.Ytjgeknkfinaimaa.tcpJ
open Go.ChangeShapes Go.WideShapes Go.ChangeAt Go.RowKit
open Go.Proofs.Ytjgeknkfinaimaa.base Go.Proofs.Ytjgeknkfinaimaa.sumA Go.Proofs.Ytjgeknkfinaimaa.sumB Go.Proofs.Ytjgeknkfinaimaa.octA Go.Proofs.Ytjgeknkfinaimaa.octB Go.Proofs.Ytjgeknkfinaimaa.octC Go.Proofs.Ytjgeknkfinaimaa.octE Go.Proofs.Ytjgeknkfinaimaa.octF Go.Proofs.Ytjgeknkfinaimaa.octK Go.Proofs.Ytjgeknkfinaimaa.rdrA Go.Proofs.Ytjgeknkfinaimaa.udpA Go.Proofs.Ytjgeknkfinaimaa.udpE Go.Proofs.Ytjgeknkfinaimaa.tcpC Go.Proofs.Ytjgeknkfinaimaa.tcpD Go.Proofs.Ytjgeknkfinaimaa.tcpE Go.Proofs.Ytjgeknkfinaimaa.tcpI
set_option linter.unusedVariables false

/-- A header, its check 0, with its options. -/
def hd0 (sp dp sq ak fl wn ur : Int) (os : List Int) : List Int :=
  allb 2 [sp, dp] ++ allb 4 [sq, ak] ++ allb 1 [(20 + (os.length : Int)) / 4 * 16, fl] ++ allb 2 [wn, 0, ur] ++ os
theorem hd0_len (sp dp sq ak fl wn ur : Int) (os : List Int) : (hd0 sp dp sq ak fl wn ur os).length = 20 + os.length := by
  simp only [hd0, List.length_append, allb_len, List.length_cons, List.length_nil]
theorem hd0_in (sp dp sq ak fl wn ur : Int) (os : List Int) (h : ∀ x ∈ os, 0 ≤ x ∧ x ≤ 255) : ∀ x ∈ hd0 sp dp sq ak fl wn ur os, 0 ≤ x ∧ x ≤ 255 := by
  intro x hx
  unfold hd0 at hx
  rw [List.mem_append, List.mem_append, List.mem_append, List.mem_append] at hx
  rcases hx with (((hx | hx) | hx) | hx) | hx
  · exact allb_in _ _ x hx
  · exact allb_in _ _ x hx
  · exact allb_in _ _ x hx
  · exact allb_in _ _ x hx
  · exact h x hx
def BPost (w : World) (l : List Int) (e : Ending) (w' : World) : Prop :=
  ∃ v, e = .returned (.tuple #[v, .int .i64 0]) ∧ w'.ownsRow w.heap.size 5 1 v l.length (l.map (.int .u8)) ∧ Below w.heap.size w w'
set_option maxRecDepth 100000 in
set_option maxHeartbeats 4000000 in
theorem bytes_any (sp dp sq ak fl wn ur : Int) (AO : Option Addr) (no co : Nat) (os : List Int) (A A2 : Option Addr) (n c n2 c2 : Nat) (pl ps : List Int) (w : World) (h1 : 0 ≤ sp) (h2 : sp ≤ 65535) (h3 : 0 ≤ dp) (h4 : dp ≤ 65535) (h9 : 0 ≤ fl) (h10 : fl ≤ 255) (h11 : 0 ≤ wn) (h12 : wn ≤ 65535) (h13 : 0 ≤ ur) (h14 : ur ≤ 65535) (ho : no ≤ 40) (hm : no % 4 = 0) (h5 : 0 ≤ sq) (h6 : sq ≤ 4294967295) (h7 : 0 ≤ ak) (h8 : ak ≤ 4294967295)
    (hol : os.length = no) (hor : Row w w.heap.size AO (os.map (.int .u8))) (hoz : AO = none → co = 0) (hox : ∀ x ∈ os, 0 ≤ x ∧ x ≤ 255)
    (hl : pl.length = n) (hn : n ≤ 500) (hr : Row w w.heap.size A (pl.map (.int .u8))) (hz : A = none → c = 0) (hx : ∀ x ∈ pl, 0 ≤ x ∧ x ≤ 255)
    (pll : ps.length = n2) (pn : n2 ≤ 1000) (pr : Row w w.heap.size A2 (ps.map (.int .u8))) (px : ∀ x ∈ ps, 0 ≤ x ∧ x ≤ 255) :
    Calls Try.prog 23 #[.agg #[.int .i64 sp, .int .i64 dp, .int .u32 sq, .int .u32 ak, .int .i64 fl, .int .i64 wn, .int .i64 ur, .slice AO no co], .slice A n c, .slice A2 n2 c2] w (BPost w (splice (hd0 sp dp sq ak fl wn ur os) 16 (pb (65535 - fo (wsum (ps ++ hd0 sp dp sq ak fl wn ur os ++ pl))) 2 2) ++ pl)) := by
  have HSZ := Lib.hid (show (w.alloc (.cells #[.int .i64 sp, .int .i64 dp, .int .u32 sq, .int .u32 ak, .int .i64 fl, .int .i64 wn, .int .i64 ur, .slice AO no co] 40)).heap.size = w.heap.size + 1 by simp)
  have HB0 := Lib.hid (show Below w.heap.size w (w.alloc (.cells #[.int .i64 sp, .int .i64 dp, .int .u32 sq, .int .u32 ak, .int .i64 fl, .int .i64 wn, .int .i64 ur, .slice AO no co] 40)) from (Below.refl _ _).alloc (Nat.le_refl _) _)
  have BOX := Lib.hid (Blk.new w 40 #[.int .i64 sp, .int .i64 dp, .int .u32 sq, .int .u32 ak, .int .i64 fl, .int .i64 wn, .int .i64 ur, .slice AO no co])
  have HRT := Lib.hid (right_yes sp dp sq ak fl wn ur AO no co (w.alloc (.cells #[.int .i64 sp, .int .i64 dp, .int .u32 sq, .int .u32 ak, .int .i64 fl, .int .i64 wn, .int .i64 ur, .slice AO no co] 40)) h1 h2 h3 h4 h9 h10 h11 h12 h13 h14 ho hm)
  have HOR := Lib.hid hor
  have HOZ := Lib.hid hoz
  have HOX := Lib.hid hox
  have HOL := Lib.hid hol
  have HR := Lib.hid hr
  have HZ := Lib.hid hz
  have HX := Lib.hid hx
  have HL := Lib.hid hl
  have PR := Lib.hid pr
  have PX := Lib.hid px
  have PL := Lib.hid pll
  have ONE := Lib.hid (show ∀ l : List Int, ∀ u ∈ l.map (Value.int .u8), u.oneCell' = true from by
    intro l u hu
    rw [List.mem_map] at hu
    obtain ⟨x, _, rfl⟩ := hu
    rfl)
  obtain ⟨i0, hi0, hz0, hz1, hz2⟩ := info_parts info_u8
  have HI0 := Lib.hid hi0
  have HZ0 := Lib.hid hz0
  have HZ1 := Lib.hid hz1
  have HZ2 := Lib.hid hz2
  have HQ := Lib.hid (show (0 ≤ sp ∧ sp < 18446744073709551616) ∧ (0 ≤ dp ∧ dp < 18446744073709551616) ∧ (0 ≤ sq ∧ sq < 18446744073709551616) ∧ (0 ≤ ak ∧ ak < 18446744073709551616) ∧ (0 ≤ ((20 + (no : Int)) / 4 * 16) ∧ ((20 + (no : Int)) / 4 * 16) < 18446744073709551616) ∧ (0 ≤ fl ∧ fl < 18446744073709551616) ∧ (0 ≤ wn ∧ wn < 18446744073709551616) ∧ (0 ≤ ur ∧ ur < 18446744073709551616) by omega)
  have HU := Lib.hid (show IntKind.u64.wrap sp = sp ∧ IntKind.u64.wrap dp = dp ∧ IntKind.u64.wrap sq = sq ∧ IntKind.u64.wrap ak = ak ∧ IntKind.u64.wrap ((20 + (no : Int)) / 4 * 16) = ((20 + (no : Int)) / 4 * 16) ∧ IntKind.u64.wrap fl = fl ∧ IntKind.u64.wrap wn = wn ∧ IntKind.u64.wrap ur = ur by
    refine ⟨?_, ?_, ?_, ?_, ?_, ?_, ?_, ?_⟩ <;> (rw [IntKind.wrap_u64]; omega))
  have HS1 := Lib.hid (show hs 1 = 1 by decide)
  have HS2 := Lib.hid (show hs 2 = 2 by decide)
  have HS4 := Lib.hid (show hs 4 = 4 by decide)
  clear hor hoz hox hol hr hz hx hl pr px pll hi0 hz0 hz1 hz2
  go_enter Try.func23, Try.ntmps23
  go_wp2_with fail
  refine HRT.out.mono ?_
  rintro e w1 ⟨rfl, hb⟩
  rw [HSZ.out] at hb
  have HB1 := Lib.hid hb
  clear hb
  have hcs1 : w1.heap.size < (w1.alloc (.cells #[.int .u64 sp, .int .u64 dp] 50)).heap.size := by simp
  have HV1 := Lib.hid (HB1.out.alloc (Nat.le_trans (Nat.le_of_eq HSZ.out.symm) HB1.out.size) (.cells #[.int .u64 sp, .int .u64 dp] 50))
  have HW1 := Lib.hid (show (w1.alloc (.cells #[.int .u64 sp, .int .u64 dp] 50)).ownsRow (w.heap.size + 1) 5 1 (.slice none 0 0) 0 [] from World.ownsRow_nil _ _ _ _)
  have hal1 := all_keep w1.heap.size #[.int .u64 sp, .int .u64 dp] (.slice none 0 0) 0 [] 2 2 2 ([sp, dp] : List Int) (w.heap.size + 1) (w.heap.size + 1) (w.alloc (.cells #[.int .i64 sp, .int .i64 dp, .int .u32 sq, .int .u32 ak, .int .i64 fl, .int .i64 wn, .int .i64 ur, .slice AO no co] 40)) (w1.alloc (.cells #[.int .u64 sp, .int .u64 dp] 50)) HW1.out (Nat.le_trans (Nat.le_of_eq HSZ.out.symm) HV1.out.size) (by omega) HV1.out (Nat.le_refl _) rfl (Blk.new w1 50 #[.int .u64 sp, .int .u64 dp]) rfl (by
    intro x hx
    simp only [List.mem_cons, List.not_mem_nil, or_false] at hx
    rcases hx with rfl | rfl <;> first | exact HQ.out.1 | exact HQ.out.2.1)
  rw [HS2.out] at hal1
  have HAL1 := Lib.hid hal1
  clear hal1 hcs1 HV1 HW1
  have o0 : w1.cell? ⟨w.heap.size, 0, none⟩ = some (.int .i64 sp) := (HB1.out.cell (p := ⟨w.heap.size, 0, none⟩) (Nat.lt_succ_self _)).trans (BOX.out.cell 0)
  have o1 : w1.cell? ⟨w.heap.size, 1, none⟩ = some (.int .i64 dp) := (HB1.out.cell (p := ⟨w.heap.size, 1, none⟩) (Nat.lt_succ_self _)).trans (BOX.out.cell 1)
  have u0 := HU.out.1
  have u1 := HU.out.2.1
  go_wp2_with fail
  clear u0 u1 o0 o1
  refine HAL1.out.mono ?_
  rintro e w2 ⟨v1, rfl, hown, hbel, _, _⟩
  have HO1 := Lib.hid hown
  have HB2 := Lib.hid hbel
  clear hown hbel HAL1
  have hcs2 : w2.heap.size < (w2.alloc (.cells #[.int .u64 sq, .int .u64 ak] 50)).heap.size := by simp
  have HV2 := Lib.hid (HB2.out.alloc (Nat.le_trans (Nat.le_of_eq HSZ.out.symm) HB2.out.size) (.cells #[.int .u64 sq, .int .u64 ak] 50))
  have HW2 := Lib.hid (show (w2.alloc (.cells #[.int .u64 sq, .int .u64 ak] 50)).ownsRow (w.heap.size + 1) 5 1 v1 (0 + 2 * 2) ([] ++ (allb 2 [sp, dp]).map (Value.int .u8)) from HO1.out.alloc _)
  have hal2 := all_keep w2.heap.size #[.int .u64 sq, .int .u64 ak] v1 (0 + 2 * 2) ([] ++ (allb 2 [sp, dp]).map (Value.int .u8)) 4 2 2 ([sq, ak] : List Int) (w.heap.size + 1) (w.heap.size + 1) (w.alloc (.cells #[.int .i64 sp, .int .i64 dp, .int .u32 sq, .int .u32 ak, .int .i64 fl, .int .i64 wn, .int .i64 ur, .slice AO no co] 40)) (w2.alloc (.cells #[.int .u64 sq, .int .u64 ak] 50)) HW2.out (Nat.le_trans (Nat.le_of_eq HSZ.out.symm) HV2.out.size) (by omega) HV2.out (Nat.le_refl _) rfl (Blk.new w2 50 #[.int .u64 sq, .int .u64 ak]) rfl (by
    intro x hx
    simp only [List.mem_cons, List.not_mem_nil, or_false] at hx
    rcases hx with rfl | rfl <;> first | exact HQ.out.2.2.1 | exact HQ.out.2.2.2.1)
  rw [HS4.out] at hal2
  have HAL2 := Lib.hid hal2
  clear hal2 hcs2 HV2 HW2
  have o2 : w2.cell? ⟨w.heap.size, 2, none⟩ = some (.int .u32 sq) := (HB2.out.cell (p := ⟨w.heap.size, 2, none⟩) (Nat.lt_succ_self _)).trans (BOX.out.cell 2)
  have o3 : w2.cell? ⟨w.heap.size, 3, none⟩ = some (.int .u32 ak) := (HB2.out.cell (p := ⟨w.heap.size, 3, none⟩) (Nat.lt_succ_self _)).trans (BOX.out.cell 3)
  have u2 := HU.out.2.2.1
  have u3 := HU.out.2.2.2.1
  go_wp2_with fail
  clear u2 u3 o2 o3
  refine HAL2.out.mono ?_
  rintro e w3 ⟨v2, rfl, hown, hbel, _, _⟩
  have HO2 := Lib.hid hown
  have HB3 := Lib.hid hbel
  clear hown hbel HAL2
  have hcs3 : w3.heap.size < (w3.alloc (.cells #[.int .u64 ((20 + (no : Int)) / 4 * 16), .int .u64 fl] 50)).heap.size := by simp
  have HV3 := Lib.hid (HB3.out.alloc (Nat.le_trans (Nat.le_of_eq HSZ.out.symm) HB3.out.size) (.cells #[.int .u64 ((20 + (no : Int)) / 4 * 16), .int .u64 fl] 50))
  have HW3 := Lib.hid (show (w3.alloc (.cells #[.int .u64 ((20 + (no : Int)) / 4 * 16), .int .u64 fl] 50)).ownsRow (w.heap.size + 1) 5 1 v2 ((0 + 2 * 2) + 4 * 2) (([] ++ (allb 2 [sp, dp]).map (Value.int .u8)) ++ (allb 4 [sq, ak]).map (Value.int .u8)) from HO2.out.alloc _)
  have hal3 := all_keep w3.heap.size #[.int .u64 ((20 + (no : Int)) / 4 * 16), .int .u64 fl] v2 ((0 + 2 * 2) + 4 * 2) (([] ++ (allb 2 [sp, dp]).map (Value.int .u8)) ++ (allb 4 [sq, ak]).map (Value.int .u8)) 1 2 2 ([((20 + (no : Int)) / 4 * 16), fl] : List Int) (w.heap.size + 1) (w.heap.size + 1) (w.alloc (.cells #[.int .i64 sp, .int .i64 dp, .int .u32 sq, .int .u32 ak, .int .i64 fl, .int .i64 wn, .int .i64 ur, .slice AO no co] 40)) (w3.alloc (.cells #[.int .u64 ((20 + (no : Int)) / 4 * 16), .int .u64 fl] 50)) HW3.out (Nat.le_trans (Nat.le_of_eq HSZ.out.symm) HV3.out.size) (by omega) HV3.out (Nat.le_refl _) rfl (Blk.new w3 50 #[.int .u64 ((20 + (no : Int)) / 4 * 16), .int .u64 fl]) rfl (by
    intro x hx
    simp only [List.mem_cons, List.not_mem_nil, or_false] at hx
    rcases hx with rfl | rfl <;> first | exact HQ.out.2.2.2.2.1 | exact HQ.out.2.2.2.2.2.1)
  rw [HS1.out] at hal3
  have HAL3 := Lib.hid hal3
  clear hal3 hcs3 HV3 HW3
  have o4 : w3.cell? ⟨w.heap.size, 4, none⟩ = some (.int .i64 fl) := (HB3.out.cell (p := ⟨w.heap.size, 4, none⟩) (Nat.lt_succ_self _)).trans (BOX.out.cell 4)
  have o7 : w3.cell? ⟨w.heap.size, 7, none⟩ = some (.slice AO no co) := (HB3.out.cell (p := ⟨w.heap.size, 7, none⟩) (Nat.lt_succ_self _)).trans (BOX.out.cell 7)
  have u4 := HU.out.2.2.2.2.1
  have u5 := HU.out.2.2.2.2.2.1
  go_wp2_with fail
  clear u4 u5 o4 o7
  refine HAL3.out.mono ?_
  rintro e w4 ⟨v3, rfl, hown, hbel, _, _⟩
  have HO3 := Lib.hid hown
  have HB4 := Lib.hid hbel
  clear hown hbel HAL3
  have hcs4 : w4.heap.size < (w4.alloc (.cells #[.int .u64 wn, .int .u64 0, .int .u64 ur] 50)).heap.size := by simp
  have HV4 := Lib.hid (HB4.out.alloc (Nat.le_trans (Nat.le_of_eq HSZ.out.symm) HB4.out.size) (.cells #[.int .u64 wn, .int .u64 0, .int .u64 ur] 50))
  have HW4 := Lib.hid (show (w4.alloc (.cells #[.int .u64 wn, .int .u64 0, .int .u64 ur] 50)).ownsRow (w.heap.size + 1) 5 1 v3 (((0 + 2 * 2) + 4 * 2) + 1 * 2) ((([] ++ (allb 2 [sp, dp]).map (Value.int .u8)) ++ (allb 4 [sq, ak]).map (Value.int .u8)) ++ (allb 1 [((20 + (no : Int)) / 4 * 16), fl]).map (Value.int .u8)) from HO3.out.alloc _)
  have hal4 := all_keep w4.heap.size #[.int .u64 wn, .int .u64 0, .int .u64 ur] v3 (((0 + 2 * 2) + 4 * 2) + 1 * 2) ((([] ++ (allb 2 [sp, dp]).map (Value.int .u8)) ++ (allb 4 [sq, ak]).map (Value.int .u8)) ++ (allb 1 [((20 + (no : Int)) / 4 * 16), fl]).map (Value.int .u8)) 2 3 3 ([wn, 0, ur] : List Int) (w.heap.size + 1) (w.heap.size + 1) (w.alloc (.cells #[.int .i64 sp, .int .i64 dp, .int .u32 sq, .int .u32 ak, .int .i64 fl, .int .i64 wn, .int .i64 ur, .slice AO no co] 40)) (w4.alloc (.cells #[.int .u64 wn, .int .u64 0, .int .u64 ur] 50)) HW4.out (Nat.le_trans (Nat.le_of_eq HSZ.out.symm) HV4.out.size) (by omega) HV4.out (Nat.le_refl _) rfl (Blk.new w4 50 #[.int .u64 wn, .int .u64 0, .int .u64 ur]) rfl (by
    intro x hx
    simp only [List.mem_cons, List.not_mem_nil, or_false] at hx
    rcases hx with rfl | rfl | rfl <;> first | exact HQ.out.2.2.2.2.2.2.1 | omega | exact HQ.out.2.2.2.2.2.2.2)
  rw [HS2.out] at hal4
  have HAL4 := Lib.hid hal4
  clear hal4 hcs4 HV4 HW4
  have o5 : w4.cell? ⟨w.heap.size, 5, none⟩ = some (.int .i64 wn) := (HB4.out.cell (p := ⟨w.heap.size, 5, none⟩) (Nat.lt_succ_self _)).trans (BOX.out.cell 5)
  have o6 : w4.cell? ⟨w.heap.size, 6, none⟩ = some (.int .i64 ur) := (HB4.out.cell (p := ⟨w.heap.size, 6, none⟩) (Nat.lt_succ_self _)).trans (BOX.out.cell 6)
  have u6 := HU.out.2.2.2.2.2.2.1
  have u7 := HU.out.2.2.2.2.2.2.2
  go_wp2_with fail
  clear u6 u7 o5 o6
  refine HAL4.out.mono ?_
  rintro e w5 ⟨v4, rfl, hown, hbel, _, _⟩
  have HO4 := Lib.hid hown
  have HB5 := Lib.hid hbel
  clear hown hbel HAL4
  obtain ⟨N0, hN0⟩ : ∃ N0, N0 = 20 + no := ⟨_, rfl⟩
  have HN0 := Lib.hid hN0
  have N60 : N0 ≤ 60 := by omega
  have N20 : 20 ≤ N0 := by omega
  have SZ5 := Lib.hid (Nat.le_trans (Nat.le_of_eq HSZ.out.symm) HB5.out.size)
  have o7 : w5.cell? ⟨w.heap.size, 7, none⟩ = some (.slice AO no co) := (HB5.out.cell (p := ⟨w.heap.size, 7, none⟩) (Nat.lt_succ_self _)).trans (BOX.out.cell 7)
  have P1 := Lib.hid (show ((((0 + 2 * 2) + 4 * 2) + 1 * 2) + 2 * 3) + no ≤ maxLen by unfold maxLen; omega)
  have Q1 := Lib.hid (show (((((0 + 2 * 2) + 4 * 2) + 1 * 2) + 2 * 3) + no) * 1 ≤ 140737488355328 by omega)
  have RO := Lib.hid (HOR.out.below (HB0.out.trans (HB5.out.mono (Nat.le_succ _))))
  have EH := Lib.hid (show (((([] ++ (allb 2 [sp, dp]).map (Value.int .u8)) ++ (allb 4 [sq, ak]).map (Value.int .u8)) ++ (allb 1 [((20 + (no : Int)) / 4 * 16), fl]).map (Value.int .u8)) ++ (allb 2 [wn, 0, ur]).map (Value.int .u8)) ++ os.map (Value.int .u8) = (hd0 sp dp sq ak fl wn ur os).map (Value.int .u8) by unfold hd0; rw [HOL.out]; simp only [List.map_append, List.nil_append])
  have EM := Lib.hid (show ((((0 + 2 * 2) + 4 * 2) + 1 * 2) + 2 * 3) + no = N0 by omega)
  have HHL := Lib.hid (show (hd0 sp dp sq ak fl wn ur os).length = N0 by rw [hd0_len, HOL.out, hN0])
  have HHX := Lib.hid (hd0_in sp dp sq ak fl wn ur os HOX.out)
  have hfin : ∀ x ∈ ps ++ (hd0 sp dp sq ak fl wn ur os) ++ pl, 0 ≤ x ∧ x ≤ 255 := fun x hx => by
    rw [List.mem_append, List.mem_append] at hx
    rcases hx with (hx | hx) | hx
    · exact PX.out x hx
    · exact HHX.out x hx
    · exact HX.out x hx
  have HFB := Lib.hid (fo_bd _ (wsum_bd _ hfin).1)
  clear hfin hN0
  go_wp2_with (at_builtin; refine wpList_append_row rfl (.tmp 51) (.tmp 53) _ rfl (w.heap.size + 1) 5 i0 _ 1 Try.underlying23 HI0.out HZ0.out HZ1.out HZ2.out rfl v4 ((((0 + 2 * 2) + 4 * 2) + 1 * 2) + 2 * 3) (((([] ++ (allb 2 [sp, dp]).map (Value.int .u8)) ++ (allb 4 [sq, ak]).map (Value.int .u8)) ++ (allb 1 [((20 + (no : Int)) / 4 * 16), fl]).map (Value.int .u8)) ++ (allb 2 [wn, 0, ur]).map (Value.int .u8)) rfl HO4.out AO no co w.heap.size (os.map (.int .u8)) rfl HOZ.out (by rw [List.length_map]; exact HOL.out) RO.out (ONE.out _) P1.out Q1.out SZ5.out ?_; intro va wa owna ga; rw [EH.out, EM.out] at owna; obtain ⟨Aa, ca, rfl⟩ := own_slice owna; have HOa := Lib.hid owna; have HBa := Lib.hid (below_grown HB5.out HO4.out (Nat.le_refl _) SZ5.out ga); clear owna ga)
  have hoa := HOa.out
  have hza := own_none hoa
  have HBW := Lib.hid (HB0.out.trans (HBa.out.mono (Nat.le_succ _)))
  have hth := Go.Proofs.Ytjgeknkfinaimaa.sumI.three (w := wa) (W := wa) (c1 := c2) (c2 := ca) (c3 := c) PL.out HHL.out HL.out ((PR.out.below HBW.out).more HBW.out.size) (own_row hoa) ((HR.out.below HBW.out).more HBW.out.size) PX.out HHX.out HX.out (Below.refl _ _) 23
  have efl : flat [⟨A2, c2, ps⟩, ⟨Aa, ca, (hd0 sp dp sq ak fl wn ur os)⟩, ⟨A, c, pl⟩] = ps ++ (hd0 sp dp sq ak fl wn ur os) ++ pl := by simp [flat]
  have hck := Go.Proofs.Ytjgeknkfinaimaa.sumC.check_any (some ⟨wa.heap.size, 0, none⟩) 3 3 _ (wa.alloc (.cells #[.slice A2 n2 c2, .slice Aa N0 ca, .slice A n c] 23)) (wa.heap.size + 1) rfl (by omega) (by rw [efl, List.length_append, List.length_append, PL.out, HHL.out, HL.out]; omega) hth.1 hth.2
  rw [efl] at hck
  have HCK := Lib.hid hck
  have HBX := Lib.hid (HBW.out.alloc HBW.out.size (.cells #[.slice A2 n2 c2, .slice Aa N0 ca, .slice A n c] 23))
  have HRX := Lib.hid (own_row (hoa.alloc (.cells #[.slice A2 n2 c2, .slice Aa N0 ca, .slice A n c] 23)))
  have HZA := Lib.hid hza
  have HSX := Lib.hid (show (wa.alloc (.cells #[.slice A2 n2 c2, .slice Aa N0 ca, .slice A n c] 23)).heap.size = wa.heap.size + 1 by simp)
  clear hth efl hck hza hoa o7 SZ5 P1 Q1 RO
  refine HCK.out.mono ?_
  rintro e wk ⟨rfl, rfl⟩
  have hset := set_yes Aa N0 ca (hd0 sp dp sq ak fl wn ur os) 16 2 (65535 - fo (wsum (ps ++ hd0 sp dp sq ak fl wn ur os ++ pl))) (wa.alloc (.cells #[.slice A2 n2 c2, .slice Aa N0 ca, .slice A n c] 23)) HHL.out (by omega) HZA.out HRX.out (by omega) (by omega) (by have := HFB.out; omega) (by have := HFB.out; omega)
  have HSET := Lib.hid hset
  have HFC := Lib.hid (show IntKind.u64.wrap (65535 - fo (wsum (ps ++ hd0 sp dp sq ak fl wn ur os ++ pl))) = (65535 - fo (wsum (ps ++ hd0 sp dp sq ak fl wn ur os ++ pl))) by have := HFB.out; rw [IntKind.wrap_u64]; omega)
  clear hset
  generalize (65535 - fo (wsum (ps ++ hd0 sp dp sq ak fl wn ur os ++ pl))) = ck at *
  generalize (hd0 sp dp sq ak fl wn ur os) = H at *
  have hfc := HFC.out
  generalize wa.alloc (.cells #[.slice A2 n2 c2, .slice Aa N0 ca, .slice A n c] 23) = X at *
  go_wp2_with fail
  clear hfc
  refine HSET.out.mono ?_
  rintro e w9 ⟨vs, rfl, hown, hbel, hsz⟩
  have HO9 := Lib.hid hown
  have HB9 := Lib.hid hbel
  have HS9 := Lib.hid hsz
  have HBWX := Lib.hid (HBX.out.trans (hbel.mono HBX.out.size))
  have P2 := Lib.hid (show N0 + n ≤ maxLen by unfold maxLen; omega)
  have Q2 := Lib.hid (show (N0 + n) * 1 ≤ 140737488355328 by omega)
  have RP := Lib.hid (HR.out.below HBWX.out)
  have LEN := Lib.hid (show (splice H 16 (pb ck 2 2) ++ pl).length = N0 + n by
    have hs := hown.1
    rw [List.length_map, Nat.mul_one] at hs
    rw [List.length_append, hs, HL.out])
  clear hown hbel hsz
  go_wp2_with (at_builtin; refine wpList_append_row rfl (.tmp 63) (.tmp 64) _ rfl X.heap.size 5 i0 _ 1 Try.underlying23 HI0.out HZ0.out HZ1.out HZ2.out rfl vs N0 _ rfl HO9.out A n c w.heap.size (pl.map (.int .u8)) rfl HZ.out (by rw [List.length_map]; exact HL.out) RP.out (ONE.out _) P2.out Q2.out HS9.out ?_; intro vd wd ownd gd; have HOd := Lib.hid ownd; have HBd := Lib.hid (below_grown HB9.out HO9.out (Nat.le_refl _) HS9.out gd); clear ownd gd)
  go_ret2
  have hfin := HOd.out
  rw [← List.map_append, ← LEN.out] at hfin
  exact ⟨_, rfl, own_base hfin HBX.out.size, HBX.out.trans (HBd.out.mono HBX.out.size)⟩
end Go.Proofs.Ytjgeknkfinaimaa.tcpJ
