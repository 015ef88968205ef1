/- Layer 8: what bytes quote. -/
import Derived.Test.YtgikoljnmmnkkaaFourG
import Derived.Test.YtgikoljnmmnkkaaFourL
import Derived.Test.YtgikoljnmmnkkaaFourS
import Derived.Deep.RegionHeld3
import Derived.Deep.AppendLies
import Derived.Deep.DeepCutAuto
import Derived.Deep.RegionWith
namespace Go.Proofs.Ytgikoljnmmnkkaa.fourU
open Go.ChangeShapes Go.WideShapes Go.ChangeAt Go.RowKit
open Go.Proofs.Ytgikoljnmmnkkaa.base Go.Proofs.Ytgikoljnmmnkkaa.sumA Go.Proofs.Ytgikoljnmmnkkaa.sumB Go.Proofs.Ytgikoljnmmnkkaa.octA Go.Proofs.Ytgikoljnmmnkkaa.octB Go.Proofs.Ytgikoljnmmnkkaa.octC Go.Proofs.Ytgikoljnmmnkkaa.octD Go.Proofs.Ytgikoljnmmnkkaa.octE Go.Proofs.Ytgikoljnmmnkkaa.octF Go.Proofs.Ytgikoljnmmnkkaa.octK Go.Proofs.Ytgikoljnmmnkkaa.rdrA Go.Proofs.Ytgikoljnmmnkkaa.udpA Go.Proofs.Ytgikoljnmmnkkaa.tcpC Go.Proofs.Ytgikoljnmmnkkaa.net Go.Proofs.Ytgikoljnmmnkkaa.fourA Go.Proofs.Ytgikoljnmmnkkaa.fourB Go.Proofs.Ytgikoljnmmnkkaa.fourC Go.Proofs.Ytgikoljnmmnkkaa.fourD Go.Proofs.Ytgikoljnmmnkkaa.fourE Go.Proofs.Ytgikoljnmmnkkaa.fourF Go.Proofs.Ytgikoljnmmnkkaa.fourG Go.Proofs.Ytgikoljnmmnkkaa.fourL Go.Proofs.Ytgikoljnmmnkkaa.fourS
set_option linter.unusedVariables false

theorem pseq (sl dl proto size : Int) : allb 4 [sl, dl] ++ allb 1 [0, IntKind.u64.wrap proto] ++ pb (IntKind.u64.wrap size) 2 2 = [bt sl 4, bt sl 5, bt sl 6, bt sl 7, bt dl 4, bt dl 5, bt dl 6, bt dl 7, 0, proto % 256, size / 256 % 256, size % 256] := by
  rw [IntKind.wrap_u64, IntKind.wrap_u64]
  show [byteZ sl 3, byteZ sl 2, byteZ sl 1, byteZ sl 0, byteZ dl 3, byteZ dl 2, byteZ dl 1, byteZ dl 0, byteZ 0 0, byteZ (proto % 18446744073709551616) 0, byteZ (size % 18446744073709551616) 1, byteZ (size % 18446744073709551616) 0] = _
  have e0 : byteZ 0 0 = 0 := by decide
  have e1 : byteZ (proto % 18446744073709551616) 0 = proto % 256 := by show proto % 18446744073709551616 / 1 % 256 = _; omega
  have e2 : byteZ (size % 18446744073709551616) 1 = size / 256 % 256 := by show size % 18446744073709551616 / 256 % 256 = _; omega
  have e3 : byteZ (size % 18446744073709551616) 0 = size % 256 := by show size % 18446744073709551616 / 1 % 256 = _; omega
  rw [e0, e1, e2, e3]
  rfl
set_option maxRecDepth 100000 in
set_option maxHeartbeats 4000000 in
theorem short_f (v1 : Value) (A : Option Addr) (n c : Nat) (sh sl dh dl : Int) (proto size : Int) (w : World) (l0 : 0 ≤ sl ∧ sl < 18446744073709551616) (l1 : 0 ≤ dl ∧ dl < 18446744073709551616) (l2 : 0 ≤ sh) (l3 : 0 ≤ dh)
    (C1 : Hid (∀ w : World, Calls Try.prog 24 #[v1] w fun e w' => e = .returned (.slice A n c) ∧ w = w')) (k : Int) (hk0 : k ≠ 0)
    (HQ : Hid (∀ W : World, Below w.heap.size w W → Calls Try.prog 23 #[.slice A n c] W fun e w' => e = .returned (err k) ∧ Below W.heap.size W w'))
    (HW : Hid (∀ W : World, Below w.heap.size w W → Calls Try.prog 26 #[.slice A n c] W fun e w' => e = .returned (.int .i64 k) ∧ Below W.heap.size W w')) (hn : n < 20) :
    Calls Try.prog 8 #[v1, .agg #[.bool false, .int .u64 sh, .int .u64 sl], .agg #[.bool false, .int .u64 dh, .int .u64 dl], .int .i64 proto, .int .i64 size] w fun e w' => e = .returned (.bool true) ∧ Below w.heap.size w w' := by
  have HAW := Lib.hid awake_any
  have HZ := Lib.hid (show ((w.alloc (.cells #[.bool false, .int .u64 sh, .int .u64 sl] 41)).alloc (.cells #[.bool false, .int .u64 dh, .int .u64 dl] 41)).heap.size = w.heap.size + 1 + 1 by simp)
  have HB0 := Lib.hid (show Below w.heap.size w ((w.alloc (.cells #[.bool false, .int .u64 sh, .int .u64 sl] 41)).alloc (.cells #[.bool false, .int .u64 dh, .int .u64 dl] 41)) from ((Below.refl _ _).alloc (Nat.le_refl _) _).alloc (by simp) _)
  have BS0 := Lib.hid ((Blk.new w 41 #[.bool false, .int .u64 sh, .int .u64 sl]).alloc (.cells #[.bool false, .int .u64 dh, .int .u64 dl] 41))
  have hbd := Blk.new (w.alloc (.cells #[.bool false, .int .u64 sh, .int .u64 sl] 41)) 41 #[.bool false, .int .u64 dh, .int .u64 dl]
  rw [show (w.alloc (.cells #[.bool false, .int .u64 sh, .int .u64 sl] 41)).heap.size = w.heap.size + 1 by simp] at hbd
  have BD0 := Lib.hid hbd
  clear hbd
  have tn : decide ((20 : Int) ≤ (n : Int)) = false := decide_eq_false (by omega)
  have tk : (k != 0) = true := bneT hk0
  have tk2 : (k == 0) = false := eqF hk0
  clear hk0
  go_enter Try.func8, Try.ntmps8
  go_wp2_with fail
  refine (C1.out _).mono ?_
  rintro e w' ⟨rfl, rfl⟩
  go_wp2_with fail
  refine (HQ.out _ HB0.out).mono ?_
  rintro e w1 ⟨rfl, hb⟩
  unfold err
  have HB1 := Lib.hid ((bel_to HB0.out hb HB0.out.size).alloc (Nat.le_trans HB0.out.size hb.size) (.cells #[.int .i64 0, .int .i64 0, .bool false, .bool false, .int .i64 0, .int .i64 0, .int .i64 0, .bool false, .int .u64 0, .int .u64 0, .bool false, .int .u64 0, .int .u64 0, .slice none 0 0] 54))
  have BS1 := Lib.hid ((BS0.out.below hb BS0.out.lt).alloc (.cells #[.int .i64 0, .int .i64 0, .bool false, .bool false, .int .i64 0, .int .i64 0, .int .i64 0, .bool false, .int .u64 0, .int .u64 0, .bool false, .int .u64 0, .int .u64 0, .slice none 0 0] 54))
  have BD1 := Lib.hid ((BD0.out.below hb BD0.out.lt).alloc (.cells #[.int .i64 0, .int .i64 0, .bool false, .bool false, .int .i64 0, .int .i64 0, .int .i64 0, .bool false, .int .u64 0, .int .u64 0, .bool false, .int .u64 0, .int .u64 0, .slice none 0 0] 54))
  have HW2 := Lib.hid (HW.out (w1.alloc (.cells #[.int .i64 0, .int .i64 0, .bool false, .bool false, .int .i64 0, .int .i64 0, .int .i64 0, .bool false, .int .u64 0, .int .u64 0, .bool false, .int .u64 0, .int .u64 0, .slice none 0 0] 54)) HB1.out)
  clear hb BS0 BD0
  go_wp2_with fail
  refine HW2.out.mono ?_
  rintro e w2 ⟨rfl, hb2⟩
  have HB2 := Lib.hid (bel_to HB1.out hb2 HB1.out.size)
  have BS2 := Lib.hid (BS1.out.below hb2 BS1.out.lt)
  have BD2 := Lib.hid (BD1.out.below hb2 BD1.out.lt)
  clear hb2 BS1 BD1 HW2 HB1
  have q0 : w2.cell? ⟨w.heap.size, 0, none⟩ = some (.bool false) := BS2.out.cell 0
  have q1 : w2.cell? ⟨w.heap.size, 1, none⟩ = some (.int .u64 sh) := BS2.out.cell 1
  have q2 : w2.cell? ⟨w.heap.size, 2, none⟩ = some (.int .u64 sl) := BS2.out.cell 2
  have r0 : w2.cell? ⟨w.heap.size + 1, 0, none⟩ = some (.bool false) := BD2.out.cell 0
  have r1 : w2.cell? ⟨w.heap.size + 1, 1, none⟩ = some (.int .u64 dh) := BD2.out.cell 1
  have r2 : w2.cell? ⟨w.heap.size + 1, 2, none⟩ = some (.int .u64 dl) := BD2.out.cell 2
  go_wp2_with fail
  clear q0 q1 q2 r0 r1 r2
  obtain ⟨i0, hi0, hz0, hz1, hz2⟩ := info_parts info_u8
  have HI0 := Lib.hid hi0
  have HZ0 := Lib.hid hz0
  have HZ1 := Lib.hid hz1
  have HZ2 := Lib.hid hz2
  clear hi0 hz0 hz1 hz2
  have HS := Lib.hid (fun w => addr_four sh sl w l2 l0.1)
  have HD := Lib.hid (fun w => addr_four dh dl w l3 l1.1)
  have LE0 := Lib.hid HB2.out.size
  have ls := BS2.out.lt
  have ld := BD2.out.lt
  have NE1a : some w.heap.size ≠ (Value.slice (some ⟨w2.heap.size, 0, none⟩) 0 0).ownBlock := by simp [Value.ownBlock]; omega
  have NE1b : some (w.heap.size + 1) ≠ (Value.slice (some ⟨w2.heap.size, 0, none⟩) 0 0).ownBlock := by simp [Value.ownBlock]; omega
  have NX := Lib.hid (show ∀ g n c, w2.heap.size ≤ g → some w.heap.size ≠ (Value.slice (some ⟨g, 0, none⟩) n c).ownBlock ∧ some (w.heap.size + 1) ≠ (Value.slice (some ⟨g, 0, none⟩) n c).ownBlock by intro g n c h; simp [Value.ownBlock]; omega)
  have NY := Lib.hid (And.intro NE1a NE1b)
  clear NE1a NE1b ls ld
  have BS1 := Lib.hid (show Blk ((w2.alloc (.cells #[] 5)).drew) w.heap.size 41 #[.bool false, .int .u64 sh, .int .u64 sl] from (BS2.out.alloc _).drew)
  have BD1 := Lib.hid (show Blk ((w2.alloc (.cells #[] 5)).drew) (w.heap.size + 1) 41 #[.bool false, .int .u64 dh, .int .u64 dl] from (BD2.out.alloc _).drew)
  have HB1 := Lib.hid (show Below w.heap.size w ((w2.alloc (.cells #[] 5)).drew) from (HB2.out.alloc HB2.out.size _).drew)
  have LE1 := Lib.hid (show w2.heap.size ≤ ((w2.alloc (.cells #[] 5)).drew).heap.size from ((Below.refl w2.heap.size w2).alloc (Nat.le_refl _) _).size)
  have OW1 := Lib.hid (show ((w2.alloc (.cells #[] 5)).drew).ownsRow w2.heap.size 5 1 (.slice (some ⟨w2.heap.size, 0, none⟩) 0 0) 0 [] from World.ownsRow_lit (base := w2.heap.size) (e := 5) (size := 1) w2 #[] 0 (Nat.le_refl _) (Nat.zero_le _) rfl)
  have HK1 := Lib.hid (show ((w2.alloc (.cells #[] 5)).drew).cell? ⟨w.heap.size, 0, none⟩ = some (.bool false) ∧ ((w2.alloc (.cells #[] 5)).drew).cell? ⟨w.heap.size, 1, none⟩ = some (.int .u64 sh) ∧ ((w2.alloc (.cells #[] 5)).drew).cell? ⟨w.heap.size, 2, none⟩ = some (.int .u64 sl) ∧ ((w2.alloc (.cells #[] 5)).drew).cell? ⟨w.heap.size + 1, 0, none⟩ = some (.bool false) ∧ ((w2.alloc (.cells #[] 5)).drew).cell? ⟨w.heap.size + 1, 1, none⟩ = some (.int .u64 dh) ∧ ((w2.alloc (.cells #[] 5)).drew).cell? ⟨w.heap.size + 1, 2, none⟩ = some (.int .u64 dl) from ⟨BS1.out.cell 0, BS1.out.cell 1, BS1.out.cell 2, BD1.out.cell 0, BD1.out.cell 1, BD1.out.cell 2⟩)
  have HKD := Lib.hid (show w2.drew.cell? ⟨w.heap.size, 0, none⟩ = some (.bool false) ∧ w2.drew.cell? ⟨w.heap.size, 1, none⟩ = some (.int .u64 sh) ∧ w2.drew.cell? ⟨w.heap.size, 2, none⟩ = some (.int .u64 sl) ∧ w2.drew.cell? ⟨w.heap.size + 1, 0, none⟩ = some (.bool false) ∧ w2.drew.cell? ⟨w.heap.size + 1, 1, none⟩ = some (.int .u64 dh) ∧ w2.drew.cell? ⟨w.heap.size + 1, 2, none⟩ = some (.int .u64 dl) from ⟨BS2.out.drew.cell 0, BS2.out.drew.cell 1, BS2.out.drew.cell 2, BD2.out.drew.cell 0, BD2.out.drew.cell 1, BD2.out.drew.cell 2⟩)
  go_cut [16] (fun s16 wx => ∃ g c, s16 = .slice (some ⟨g, 0, none⟩) 8 c ∧ wx.ownsRow w2.heap.size 5 1 (.slice (some ⟨g, 0, none⟩) 8 c) 8 (([bt sl 4, bt sl 5, bt sl 6, bt sl 7].map (Value.int .u8)) ++ ([bt dl 4, bt dl 5, bt dl 6, bt dl 7].map (Value.int .u8))) ∧ Blk wx w.heap.size 41 #[.bool false, .int .u64 sh, .int .u64 sl] ∧ Blk wx (w.heap.size + 1) 41 #[.bool false, .int .u64 dh, .int .u64 dl] ∧ Below w.heap.size w wx ∧ w2.heap.size ≤ wx.heap.size)
  case first =>
    go_region_held3 (fun w' => w'.cell? ⟨w.heap.size, 0, none⟩ = some (.bool false) ∧ w'.cell? ⟨w.heap.size, 1, none⟩ = some (.int .u64 sh) ∧ w'.cell? ⟨w.heap.size, 2, none⟩ = some (.int .u64 sl) ∧ w'.cell? ⟨w.heap.size + 1, 0, none⟩ = some (.bool false) ∧ w'.cell? ⟨w.heap.size + 1, 1, none⟩ = some (.int .u64 dh) ∧ w'.cell? ⟨w.heap.size + 1, 2, none⟩ = some (.int .u64 dl)) (first | with_reducible assumption | with_reducible exact HK6.out | with_reducible exact HK5.out | with_reducible exact HK4.out | with_reducible exact HK3.out | with_reducible exact HK3b.out | with_reducible exact HK1.out | with_reducible exact HKD.out) (first
      | (go_at_call 34; (with_reducible refine (HS.out _).mono ?_); rintro e w3 ⟨v3, rfl, own3, hb3⟩; obtain ⟨A3, c3, rfl⟩ := own_slice own3; obtain ⟨ad3, rfl, hc3⟩ := src_of (own_row own3) (by simp); have OW3 := Lib.hid (own_keep OW1.out hb3); have HC3 := Lib.hid hc3; have HB3 := Lib.hid (bel_to HB1.out hb3 HB1.out.size); have BS3 := Lib.hid (BS1.out.below hb3 BS1.out.lt); have BD3 := Lib.hid (BD1.out.below hb3 BD1.out.lt); have HK3 := Lib.hid (show w3.cell? ⟨w.heap.size, 0, none⟩ = some (.bool false) ∧ w3.cell? ⟨w.heap.size, 1, none⟩ = some (.int .u64 sh) ∧ w3.cell? ⟨w.heap.size, 2, none⟩ = some (.int .u64 sl) ∧ w3.cell? ⟨w.heap.size + 1, 0, none⟩ = some (.bool false) ∧ w3.cell? ⟨w.heap.size + 1, 1, none⟩ = some (.int .u64 dh) ∧ w3.cell? ⟨w.heap.size + 1, 2, none⟩ = some (.int .u64 dl) from ⟨BS3.out.cell 0, BS3.out.cell 1, BS3.out.cell 2, BD3.out.cell 0, BD3.out.cell 1, BD3.out.cell 2⟩); have LE3 := Lib.hid (Nat.le_trans LE1.out hb3.size); clear hb3 hc3 own3)
      | (refine step_append_lies _ (by rfl) _ _ _ (by rfl) w2.heap.size 5 i0 _ 1 1 Try.underlying22 HI0.out HZ0.out HZ1.out HZ2.out rfl (by omega) (.slice (some ⟨w2.heap.size, 0, none⟩) 0 0) 0 [] (by rfl) OW3.out ad3 4 c3 ([bt sl 4, bt sl 5, bt sl 6, bt sl 7].map (Value.int .u8)) (by rfl) (by rfl) HC3.out (arr_one sl) (by omega) (by unfold maxLen; omega) (by omega) LE3.out w3.heap.size rfl ?_; intro g4 c4 w4 own4 gr4 _ _; have OW4 := Lib.hid (show w4.ownsRow w2.heap.size 5 1 (.slice (some ⟨g4, 0, none⟩) 4 c4) 4 ([] ++ ([bt sl 4, bt sl 5, bt sl 6, bt sl 7].map (Value.int .u8))) from own4); have HB4 := Lib.hid (below_grown HB3.out OW3.out LE0.out HB3.out.size gr4); have GE4 := Lib.hid (show w2.heap.size ≤ g4 by obtain ⟨g_, c_, e_, hg1, _⟩ := own_form own4 (by omega); cases e_; exact hg1); have LE4 := Lib.hid (show w2.heap.size ≤ w4.heap.size by obtain ⟨_, _, _, hg1, hg2, _⟩ := own_form own4 (by omega); omega); have BS4 := Lib.hid (BS3.out.grown gr4 NY.out.1); have BD4 := Lib.hid (BD3.out.grown gr4 NY.out.2); have HK4 := Lib.hid (show w4.cell? ⟨w.heap.size, 0, none⟩ = some (.bool false) ∧ w4.cell? ⟨w.heap.size, 1, none⟩ = some (.int .u64 sh) ∧ w4.cell? ⟨w.heap.size, 2, none⟩ = some (.int .u64 sl) ∧ w4.cell? ⟨w.heap.size + 1, 0, none⟩ = some (.bool false) ∧ w4.cell? ⟨w.heap.size + 1, 1, none⟩ = some (.int .u64 dh) ∧ w4.cell? ⟨w.heap.size + 1, 2, none⟩ = some (.int .u64 dl) from ⟨BS4.out.cell 0, BS4.out.cell 1, BS4.out.cell 2, BD4.out.cell 0, BD4.out.cell 1, BD4.out.cell 2⟩); clear gr4 own4)
      | (go_at_call 34; (with_reducible refine (HS.out _).mono ?_); rintro e w3 ⟨v3, rfl, own3, hb3⟩; obtain ⟨A3, c3, rfl⟩ := own_slice own3; have rw3 := (own_row own3).below ((Below.refl w3.heap.size w3).alloc (Nat.le_refl _) (.cells #[] 5)); obtain ⟨ad3, rfl, hc3⟩ := src_of rw3 (by simp); have HC3 := Lib.hid hc3; have LX3 := Lib.hid (show w2.heap.size ≤ w3.heap.size from hb3.size); have hB3 := bel_to HB2.out.drew hb3 HB2.out.drew.size; have bS3 := BS2.out.drew.below hb3 BS2.out.drew.lt; have bD3 := BD2.out.drew.below hb3 BD2.out.drew.lt; have HK3b := Lib.hid (show w3.cell? ⟨w.heap.size, 0, none⟩ = some (.bool false) ∧ w3.cell? ⟨w.heap.size, 1, none⟩ = some (.int .u64 sh) ∧ w3.cell? ⟨w.heap.size, 2, none⟩ = some (.int .u64 sl) ∧ w3.cell? ⟨w.heap.size + 1, 0, none⟩ = some (.bool false) ∧ w3.cell? ⟨w.heap.size + 1, 1, none⟩ = some (.int .u64 dh) ∧ w3.cell? ⟨w.heap.size + 1, 2, none⟩ = some (.int .u64 dl) from ⟨bS3.cell 0, bS3.cell 1, bS3.cell 2, bD3.cell 0, bD3.cell 1, bD3.cell 2⟩); have HB3 := Lib.hid (hB3.alloc hB3.size (.cells #[] 5)); have BS3 := Lib.hid (bS3.alloc (.cells #[] 5)); have BD3 := Lib.hid (bD3.alloc (.cells #[] 5)); have HK3 := Lib.hid (show (w3.alloc (.cells #[] 5)).cell? ⟨w.heap.size, 0, none⟩ = some (.bool false) ∧ (w3.alloc (.cells #[] 5)).cell? ⟨w.heap.size, 1, none⟩ = some (.int .u64 sh) ∧ (w3.alloc (.cells #[] 5)).cell? ⟨w.heap.size, 2, none⟩ = some (.int .u64 sl) ∧ (w3.alloc (.cells #[] 5)).cell? ⟨w.heap.size + 1, 0, none⟩ = some (.bool false) ∧ (w3.alloc (.cells #[] 5)).cell? ⟨w.heap.size + 1, 1, none⟩ = some (.int .u64 dh) ∧ (w3.alloc (.cells #[] 5)).cell? ⟨w.heap.size + 1, 2, none⟩ = some (.int .u64 dl) from ⟨BS3.out.cell 0, BS3.out.cell 1, BS3.out.cell 2, BD3.out.cell 0, BD3.out.cell 1, BD3.out.cell 2⟩); have OW3 := Lib.hid (show (w3.alloc (.cells #[] 5)).ownsRow w2.heap.size 5 1 (.slice (some ⟨w3.heap.size, 0, none⟩) 0 0) 0 [] from World.ownsRow_lit (base := w2.heap.size) (e := 5) (size := 1) w3 #[] 0 LX3.out (Nat.zero_le _) rfl); have LE3 := Lib.hid (Nat.le_trans LX3.out ((Below.refl w3.heap.size w3).alloc (Nat.le_refl _) (.cells #[] 5)).size); clear hb3 hc3 own3 rw3 hB3 bS3 bD3)
      | (refine step_append_lies _ (by rfl) _ _ _ (by rfl) w2.heap.size 5 i0 _ 1 1 Try.underlying22 HI0.out HZ0.out HZ1.out HZ2.out rfl (by omega) (.slice (some ⟨w3.heap.size, 0, none⟩) 0 0) 0 [] (by rfl) OW3.out ad3 4 c3 ([bt sl 4, bt sl 5, bt sl 6, bt sl 7].map (Value.int .u8)) (by rfl) (by rfl) HC3.out (arr_one sl) (by omega) (by unfold maxLen; omega) (by omega) LE3.out (w3.alloc (.cells #[] 5)).heap.size rfl ?_; intro g4 c4 w4 own4 gr4 _ _; have OW4 := Lib.hid (show w4.ownsRow w2.heap.size 5 1 (.slice (some ⟨g4, 0, none⟩) 4 c4) 4 ([] ++ ([bt sl 4, bt sl 5, bt sl 6, bt sl 7].map (Value.int .u8))) from own4); have HB4 := Lib.hid (below_grown HB3.out OW3.out LE0.out HB3.out.size gr4); have GE4 := Lib.hid (show w2.heap.size ≤ g4 by obtain ⟨g_, c_, e_, hg1, _⟩ := own_form own4 (by omega); cases e_; exact hg1); have LE4 := Lib.hid (show w2.heap.size ≤ w4.heap.size by obtain ⟨_, _, _, hg1, hg2, _⟩ := own_form own4 (by omega); omega); have BS4 := Lib.hid (BS3.out.grown gr4 (NX.out w3.heap.size 0 0 LX3.out).1); have BD4 := Lib.hid (BD3.out.grown gr4 (NX.out w3.heap.size 0 0 LX3.out).2); have HK4 := Lib.hid (show w4.cell? ⟨w.heap.size, 0, none⟩ = some (.bool false) ∧ w4.cell? ⟨w.heap.size, 1, none⟩ = some (.int .u64 sh) ∧ w4.cell? ⟨w.heap.size, 2, none⟩ = some (.int .u64 sl) ∧ w4.cell? ⟨w.heap.size + 1, 0, none⟩ = some (.bool false) ∧ w4.cell? ⟨w.heap.size + 1, 1, none⟩ = some (.int .u64 dh) ∧ w4.cell? ⟨w.heap.size + 1, 2, none⟩ = some (.int .u64 dl) from ⟨BS4.out.cell 0, BS4.out.cell 1, BS4.out.cell 2, BD4.out.cell 0, BD4.out.cell 1, BD4.out.cell 2⟩); clear gr4 own4)
      | (go_at_call 34; (with_reducible refine (HD.out _).mono ?_); rintro e w5 ⟨v5, rfl, own5, hb5⟩; obtain ⟨A5, c5, rfl⟩ := own_slice own5; obtain ⟨ad5, rfl, hc5⟩ := src_of (own_row own5) (by simp); have OW5 := Lib.hid (own_keep OW4.out hb5); have HC5 := Lib.hid hc5; have HB5 := Lib.hid (bel_to HB4.out hb5 HB4.out.size); have BS5 := Lib.hid (BS4.out.below hb5 BS4.out.lt); have BD5 := Lib.hid (BD4.out.below hb5 BD4.out.lt); have HK5 := Lib.hid (show w5.cell? ⟨w.heap.size, 0, none⟩ = some (.bool false) ∧ w5.cell? ⟨w.heap.size, 1, none⟩ = some (.int .u64 sh) ∧ w5.cell? ⟨w.heap.size, 2, none⟩ = some (.int .u64 sl) ∧ w5.cell? ⟨w.heap.size + 1, 0, none⟩ = some (.bool false) ∧ w5.cell? ⟨w.heap.size + 1, 1, none⟩ = some (.int .u64 dh) ∧ w5.cell? ⟨w.heap.size + 1, 2, none⟩ = some (.int .u64 dl) from ⟨BS5.out.cell 0, BS5.out.cell 1, BS5.out.cell 2, BD5.out.cell 0, BD5.out.cell 1, BD5.out.cell 2⟩); have LE5 := Lib.hid (Nat.le_trans LE4.out hb5.size); clear hb5 hc5 own5)
      | (refine step_append_lies _ (by rfl) _ _ _ (by rfl) w2.heap.size 5 i0 _ 1 1 Try.underlying22 HI0.out HZ0.out HZ1.out HZ2.out rfl (by omega) (.slice (some ⟨g4, 0, none⟩) 4 c4) 4 ([bt sl 4, bt sl 5, bt sl 6, bt sl 7].map (Value.int .u8)) (by rfl) OW5.out ad5 4 c5 ([bt dl 4, bt dl 5, bt dl 6, bt dl 7].map (Value.int .u8)) (by rfl) (by rfl) HC5.out (arr_one dl) (by omega) (by unfold maxLen; omega) (by omega) LE5.out w5.heap.size rfl ?_; intro g6 c6 w6 own6 gr6 _ _; have OW6 := Lib.hid (show w6.ownsRow w2.heap.size 5 1 (.slice (some ⟨g6, 0, none⟩) 8 c6) 8 (([bt sl 4, bt sl 5, bt sl 6, bt sl 7].map (Value.int .u8)) ++ ([bt dl 4, bt dl 5, bt dl 6, bt dl 7].map (Value.int .u8))) from own6); have HB6 := Lib.hid (below_grown HB5.out OW5.out LE0.out HB5.out.size gr6); have GE6 := Lib.hid (show w2.heap.size ≤ g6 by obtain ⟨g_, c_, e_, hg1, _⟩ := own_form own6 (by omega); cases e_; exact hg1); have LE6 := Lib.hid (show w2.heap.size ≤ w6.heap.size by obtain ⟨_, _, _, hg1, hg2, _⟩ := own_form own6 (by omega); omega); have BS6 := Lib.hid (BS5.out.grown gr6 (NX.out g4 4 c4 GE4.out).1); have BD6 := Lib.hid (BD5.out.grown gr6 (NX.out g4 4 c4 GE4.out).2); have HK6 := Lib.hid (show w6.cell? ⟨w.heap.size, 0, none⟩ = some (.bool false) ∧ w6.cell? ⟨w.heap.size, 1, none⟩ = some (.int .u64 sh) ∧ w6.cell? ⟨w.heap.size, 2, none⟩ = some (.int .u64 sl) ∧ w6.cell? ⟨w.heap.size + 1, 0, none⟩ = some (.bool false) ∧ w6.cell? ⟨w.heap.size + 1, 1, none⟩ = some (.int .u64 dh) ∧ w6.cell? ⟨w.heap.size + 1, 2, none⟩ = some (.int .u64 dl) from ⟨BS6.out.cell 0, BS6.out.cell 1, BS6.out.cell 2, BD6.out.cell 0, BD6.out.cell 1, BD6.out.cell 2⟩); clear gr6 own6))
    all_goals (go_wp2_with fail; go_meet; exact ⟨g6, c6, rfl, OW6.out, BS6.out, BD6.out, HB6.out, LE6.out⟩)
  case rest =>
    obtain ⟨g6, c6, rfl, ow6, bs6, bd6, hb6, le6⟩ := hcut
    obtain ⟨w6, rfl⟩ : ∃ w6 : World, w6 = wc := ⟨_, rfl⟩
    have OW7 := Lib.hid (ow6.alloc (.cells #[Value.int .u8 0, .int .u8 (proto % 256), .int .u8 (size / 256 % 256), .int .u8 (size % 256)] 5))
    have RW7 := Lib.hid (show Row (w6.alloc (.cells #[Value.int .u8 0, .int .u8 (proto % 256), .int .u8 (size / 256 % 256), .int .u8 (size % 256)] 5)) (w6.alloc (.cells #[Value.int .u8 0, .int .u8 (proto % 256), .int .u8 (size / 256 % 256), .int .u8 (size % 256)] 5)).heap.size (some ⟨w6.heap.size, 0, none⟩) (([0, proto % 256, size / 256 % 256, size % 256] : List Int).map (.int .u8)) from Go.Proofs.Ytgikoljnmmnkkaa.sumC.row_blk (Blk.new w6 5 #[Value.int .u8 0, .int .u8 (proto % 256), .int .u8 (size / 256 % 256), .int .u8 (size % 256)]))
    have HB7 := Lib.hid (hb6.alloc hb6.size (.cells #[Value.int .u8 0, .int .u8 (proto % 256), .int .u8 (size / 256 % 256), .int .u8 (size % 256)] 5))
    have BS7 := Lib.hid (bs6.alloc (.cells #[Value.int .u8 0, .int .u8 (proto % 256), .int .u8 (size / 256 % 256), .int .u8 (size % 256)] 5))
    have BD7 := Lib.hid (bd6.alloc (.cells #[Value.int .u8 0, .int .u8 (proto % 256), .int .u8 (size / 256 % 256), .int .u8 (size % 256)] 5))
    have LE7 := Lib.hid (Nat.le_trans le6 ((Below.refl w6.heap.size w6).alloc (Nat.le_refl _) (.cells #[Value.int .u8 0, .int .u8 (proto % 256), .int .u8 (size / 256 % 256), .int .u8 (size % 256)] 5)).size)
    have GE7 := Lib.hid (show w2.heap.size ≤ g6 by obtain ⟨g_, c_, e_, hg1, _⟩ := own_form ow6 (by omega); cases e_; exact hg1)
    have ONE4 := Lib.hid (show ∀ u ∈ ([0, proto % 256, size / 256 % 256, size % 256] : List Int).map (Value.int .u8), u.oneCell' = true by intro u hu; rw [List.mem_map] at hu; obtain ⟨x, _, rfl⟩ := hu; rfl)
    clear ow6 bs6 bd6 hb6 le6
    go_wp2_with (at_builtin; refine wpList_append_row rfl (.tmp 145) (.tmp 153) _ rfl w2.heap.size 5 i0 _ 1 Try.underlying22 HI0.out HZ0.out HZ1.out HZ2.out rfl (.slice (some ⟨g6, 0, none⟩) 8 c6) 8 _ rfl OW7.out (some ⟨w6.heap.size, 0, none⟩) 4 4 _ (([0, proto % 256, size / 256 % 256, size % 256] : List Int).map (.int .u8)) rfl (by intro h; cases h) rfl RW7.out ONE4.out (by unfold maxLen; omega) (by omega) LE7.out ?_; intro v8 w8 own8 gr8; obtain ⟨A8, c8, rfl⟩ := own_slice own8; have OW8 := Lib.hid (show w8.ownsRow w2.heap.size 5 1 (.slice A8 12 c8) 12 (([bt sl 4, bt sl 5, bt sl 6, bt sl 7, bt dl 4, bt dl 5, bt dl 6, bt dl 7, 0, proto % 256, size / 256 % 256, size % 256] : List Int).map (.int .u8)) from own8); have HB8 := Lib.hid (below_grown HB7.out OW7.out LE0.out HB7.out.size gr8); have BS8 := Lib.hid (BS7.out.grown gr8 (NX.out g6 8 c6 GE7.out).1); have BD8 := Lib.hid (BD7.out.grown gr8 (NX.out g6 8 c6 GE7.out).2); clear own8 gr8)
    go_upto_region 18 with fail
    go_cut [10] (fun s10 wx => s10 = .bool true ∧ Below w.heap.size w wx)
    case first =>
      have HPS := Lib.hid (fun w => pseudo_any false sh sl false dh dl proto size w l0 l1 _ _ rfl rfl)
      have cv0 := conv_any (w := w8.drew) (n := 12) (c := c8) (own_row OW8.out) (l := ([bt sl 4, bt sl 5, bt sl 6, bt sl 7, bt dl 4, bt dl 5, bt dl 6, bt dl 7, 0, proto % 256, size / 256 % 256, size % 256] : List Int)) rfl
      have q0 : w8.drew.cell? ⟨w.heap.size, 0, none⟩ = some (.bool false) := BS8.out.drew.cell 0
      have q1 : w8.drew.cell? ⟨w.heap.size, 1, none⟩ = some (.int .u64 sh) := BS8.out.drew.cell 1
      have q2 : w8.drew.cell? ⟨w.heap.size, 2, none⟩ = some (.int .u64 sl) := BS8.out.drew.cell 2
      have r0 : w8.drew.cell? ⟨w.heap.size + 1, 0, none⟩ = some (.bool false) := BD8.out.drew.cell 0
      have r1 : w8.drew.cell? ⟨w.heap.size + 1, 1, none⟩ = some (.int .u64 dh) := BD8.out.drew.cell 1
      have r2 : w8.drew.cell? ⟨w.heap.size + 1, 2, none⟩ = some (.int .u64 dl) := BD8.out.drew.cell 2
      go_region_with (first
        | (go_at_call 35; (with_reducible refine (HPS.out _).mono ?_); rintro e w9 ⟨v9, rfl, own9, hb9⟩; rw [pseq] at own9; obtain ⟨A9, c9, rfl⟩ := own_slice own9; have cv1 := conv_any (n := 12) (c := c9) (own_row own9) (l := ([bt sl 4, bt sl 5, bt sl 6, bt sl 7, bt dl 4, bt dl 5, bt dl 6, bt dl 7, 0, proto % 256, size / 256 % 256, size % 256] : List Int)) rfl; have cv2 := conv_any (n := 12) (c := c8) (own_row (own_keep (w := w8.drew) OW8.out hb9)) (l := ([bt sl 4, bt sl 5, bt sl 6, bt sl 7, bt dl 4, bt dl 5, bt dl 6, bt dl 7, 0, proto % 256, size / 256 % 256, size % 256] : List Int)) rfl; have HB9 := Lib.hid (bel_to HB8.out.drew hb9 HB8.out.drew.size); clear hb9 own9)
        | (go_at_call 28; refine (HAW.out _).mono ?_; rintro e w10 ⟨rfl, hb10⟩; have HB10 := Lib.hid (bel_to HB9.out hb10 HB9.out.size); clear hb10))
      all_goals (go_wp2_with fail; go_meet; exact ⟨rfl, HB10.out⟩)
    case rest =>
      obtain ⟨rfl, hbz⟩ := hcut
      go_wp2_with fail
      go_ret
      exact ⟨rfl, hbz⟩
end Go.Proofs.Ytgikoljnmmnkkaa.fourU
