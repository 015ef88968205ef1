/- Layer 8: what bytes quote. -/
import Derived.Test.YtgikoljnmmnkkaaFourG
import Derived.Test.YtgikoljnmmnkkaaFourL
import Derived.Test.YtgikoljnmmnkkaaFourS
import Derived.Test.YtgikoljnmmnkkaaFourH
import Derived.Test.YtgikoljnmmnkkaaFourY0
import Derived.Deep.RegionHeld3
import Derived.Deep.AppendLies
import Derived.Deep.DeepCutAuto
import Derived.Deep.RegionWith
import Derived.Deep.RegionHeldLaw
namespace Go.Proofs.Ytgikoljnmmnkkaa.fourZb
open Go.ChangeShapes Go.WideShapes Go.ChangeAt Go.RowKit
open Go.Proofs.Ytgikoljnmmnkkaa.base Go.Proofs.Ytgikoljnmmnkkaa.sumA Go.Proofs.Ytgikoljnmmnkkaa.sumB Go.Proofs.Ytgikoljnmmnkkaa.octA Go.Proofs.Ytgikoljnmmnkkaa.octB Go.Proofs.Ytgikoljnmmnkkaa.octC Go.Proofs.Ytgikoljnmmnkkaa.octD Go.Proofs.Ytgikoljnmmnkkaa.octE Go.Proofs.Ytgikoljnmmnkkaa.octF Go.Proofs.Ytgikoljnmmnkkaa.octK Go.Proofs.Ytgikoljnmmnkkaa.rdrA Go.Proofs.Ytgikoljnmmnkkaa.udpA Go.Proofs.Ytgikoljnmmnkkaa.tcpC Go.Proofs.Ytgikoljnmmnkkaa.net Go.Proofs.Ytgikoljnmmnkkaa.fourA Go.Proofs.Ytgikoljnmmnkkaa.fourB Go.Proofs.Ytgikoljnmmnkkaa.fourC Go.Proofs.Ytgikoljnmmnkkaa.fourD Go.Proofs.Ytgikoljnmmnkkaa.fourE Go.Proofs.Ytgikoljnmmnkkaa.fourF Go.Proofs.Ytgikoljnmmnkkaa.fourG Go.Proofs.Ytgikoljnmmnkkaa.fourL Go.Proofs.Ytgikoljnmmnkkaa.fourS Go.Proofs.Ytgikoljnmmnkkaa.fourH
set_option linter.unusedVariables false

set_option maxRecDepth 100000 in
set_option maxHeartbeats 4000000 in
theorem good_x (v1 : Value) (n : Nat) (sh sl dh dl : Int) (proto size : Int) (w : World) (l0 : 0 ≤ sl ∧ sl < 18446744073709551616) (l1 : 0 ≤ dl ∧ dl < 18446744073709551616) (l2 : 0 ≤ sh) (l3 : 0 ≤ dh) (b off c s : Nat) (l : List Int) (hl : l.length = n) (x0 x6 x7 x8 x9 : Int) (hb : b < w.heap.size) (hn : 20 ≤ n) (hn2 : n ≤ 300) (hnc : n ≤ c) (hc : c ≤ 9223372036854775807) (h2 : 20 ≤ s) (h3 : s ≤ n)
    (x0a : 0 ≤ x0) (x0b : x0 ≤ 255) (x6a : 0 ≤ x6) (x6b : x6 ≤ 255) (x7a : 0 ≤ x7) (x7b : x7 ≤ 255) (x8a : 0 ≤ x8) (x8b : x8 ≤ 255) (x9a : 0 ≤ x9) (x9b : x9 ≤ 255) (h0 : x0 / 16 = 4) (hsz : x0 % 16 * 4 = (s : Int)) (HL : Hid (Lies w b off l))
    (HC0 : Hid (∀ W : World, Below w.heap.size w W → W.cell? ⟨b, off, none⟩ = some (.int .u8 x0))) (HC6 : Hid (∀ W : World, Below w.heap.size w W → W.cell? ⟨b, off + 6, none⟩ = some (.int .u8 x6))) (HC7 : Hid (∀ W : World, Below w.heap.size w W → W.cell? ⟨b, off + 7, none⟩ = some (.int .u8 x7))) (HC8 : Hid (∀ W : World, Below w.heap.size w W → W.cell? ⟨b, off + 8, none⟩ = some (.int .u8 x8))) (HC9 : Hid (∀ W : World, Below w.heap.size w W → W.cell? ⟨b, off + 9, none⟩ = some (.int .u8 x9))) (tos id : Int) (df mf : Bool) (p q : Int) (p0 : 0 ≤ p) (q0 : 0 ≤ q) (eP : Hid ([bt p 4, bt p 5, bt p 6, bt p 7] = (l.drop 12).take 4)) (eQ : Hid ([bt q 4, bt q 5, bt q 6, bt q 7] = (l.drop 16).take 4)) (kw : Int)
    (C1 : Hid (∀ w : World, Calls Try.prog 24 #[v1] w fun e w' => e = .returned (.slice (some ⟨b, off, none⟩) n c) ∧ w = w'))
    (HQ : Hid (∀ W : World, Below w.heap.size w W → Calls Try.prog 23 #[.slice (some ⟨b, off, none⟩) n c] W fun e w' => ∃ A2 c2 A3 c3, e = .returned (.tuple #[.agg #[.int .i64 tos, .int .i64 id, .bool df, .bool mf, .int .i64 (256 * (x6 % 32) + x7), .int .i64 x8, .int .i64 x9, .bool false, .int .u64 0, .int .u64 p, .bool false, .int .u64 0, .int .u64 q, .slice A2 (s - 20 : Nat) c2], .slice A3 (n - s : Nat) c3, .int .i64 0]) ∧ Row w' w'.heap.size A3 ((l.drop s).map (.int .u8)) ∧ Below W.heap.size W w'))
    (HW : Hid (∀ W : World, Below w.heap.size w W → Calls Try.prog 26 #[.slice (some ⟨b, off, none⟩) n c] W fun e w' => e = .returned (.int .i64 kw) ∧ Below W.heap.size W w')) :
    Calls Try.prog 8 #[v1, .agg #[.bool false, .int .u64 sh, .int .u64 sl], .agg #[.bool true, .int .u64 dh, .int .u64 dl], .int .i64 proto, .int .i64 size] w fun e w' => e = .returned (.bool true) ∧ Below w.heap.size w w' := by
  have HAW := Lib.hid awake_any
  have HZ := Lib.hid (show ((w.alloc (.cells #[.bool false, .int .u64 sh, .int .u64 sl] 41)).alloc (.cells #[.bool true, .int .u64 dh, .int .u64 dl] 41)).heap.size = w.heap.size + 1 + 1 by simp)
  have HB0 := Lib.hid (show Below w.heap.size w ((w.alloc (.cells #[.bool false, .int .u64 sh, .int .u64 sl] 41)).alloc (.cells #[.bool true, .int .u64 dh, .int .u64 dl] 41)) from ((Below.refl _ _).alloc (Nat.le_refl _) _).alloc (by simp) _)
  have BS0 := Lib.hid ((Blk.new w 41 #[.bool false, .int .u64 sh, .int .u64 sl]).alloc (.cells #[.bool true, .int .u64 dh, .int .u64 dl] 41))
  have hbd := Blk.new (w.alloc (.cells #[.bool false, .int .u64 sh, .int .u64 sl] 41)) 41 #[.bool true, .int .u64 dh, .int .u64 dl]
  rw [show (w.alloc (.cells #[.bool false, .int .u64 sh, .int .u64 sl] 41)).heap.size = w.heap.size + 1 by simp] at hbd
  have BD0 := Lib.hid hbd
  clear hbd
  have tn : decide ((20 : Int) ≤ (n : Int)) = true := decide_eq_true (by omega)
  have y0 : 0 < n := by omega
  have y6 : 6 < n := by omega
  have y7 : 7 < n := by omega
  have y8 : 8 < n := by omega
  have y9 : 9 < n := by omega
  have i6 : (6 : Int) < (n : Int) := by omega
  have i7 : (7 : Int) < (n : Int) := by omega
  have i8 : (8 : Int) < (n : Int) := by omega
  have i9 : (9 : Int) < (n : Int) := by omega
  have t0 : (x0 / 16 == 4) = true := eqT h0
  have t1 : decide (x0 % 16 < 5) = false := decide_eq_false (by omega)
  have t2 : decide ((n : Int) < (s : Int)) = false := decide_eq_false (by omega)
  have ws : IntKind.i64.wrap (s : Int) = (s : Int) := IntWalk.i64_in _ (by omega)
  have j1 : (0 : Int) ≤ (s : Int) := by omega
  have j2 : (s : Int) ≤ (n : Int) := by omega
  have j3 : (s : Int) ≤ (c : Int) := by omega
  have j4 : (16 : Int) ≤ (c : Int) := by omega
  have j5 : (20 : Int) ≤ (c : Int) := by omega
  have j6 : ¬ c = 12 := by omega
  have j7 : ¬ c = 16 := by omega
  have u9 : IntKind.i64.wrap x9 = x9 := IntWalk.i64_in _ (by omega)
  have u8 : IntKind.i64.wrap x8 = x8 := IntWalk.i64_in _ (by omega)
  have u7 : IntKind.i64.wrap x7 = x7 := IntWalk.i64_in _ (by omega)
  have u6 : IntKind.i64.wrap (x6 % 32) = x6 % 32 := IntWalk.i64_in _ (by omega)
  have u5 : IntKind.i64.wrap (256 * (x6 % 32)) = 256 * (x6 % 32) := IntWalk.i64_in _ (by omega)
  have u4 : IntKind.i64.wrap (256 * (x6 % 32) + x7) = 256 * (x6 % 32) + x7 := IntWalk.i64_in _ (by omega)
  have u3 : x6.tmod 32 = x6 % 32 := Int.tmod_eq_emod_of_nonneg x6a
  have u2 : IntKind.u8.wrap (x6 % 32) = x6 % 32 := by rw [IntKind.wrap_u8]; omega
  have HLN0 := fun w A2 c2 => len_any tos id df mf (256 * (x6 % 32) + x7) x8 x9 p q A2 (s - 20) c2 w (by omega)
  rw [show (20 : Int) + ((s - 20 : Nat) : Int) = (s : Int) by omega] at HLN0
  have HLN := Lib.hid HLN0
  have HP := Lib.hid (fun w => addr_four 0 p w (Int.le_refl _) p0)
  have HQQ := Lib.hid (fun w => addr_four 0 q w (Int.le_refl _) q0)
  have LL := Lib.hid hl
  obtain ⟨AX, sl1, sl2, sr⟩ := Go.Proofs.Ytgikoljnmmnkkaa.fourY0.slice_from b off n c s h3 hnc
  have SL1 := Lib.hid sl1
  have SL2 := Lib.hid sl2
  have SR := Lib.hid sr
  clear sl1 sl2 sr
  clear HLN0 hl p0 q0 h0 hc
  go_enter Try.func8, Try.ntmps8
  go_wp2_with fail
  refine (C1.out _).mono ?_
  rintro e w' ⟨rfl, rfl⟩
  go_wp2_with fail
  refine (HQ.out _ HB0.out).mono ?_
  rintro e w1 ⟨A2, c2, A3, c3, rfl, hr3, hb1⟩
  have HB1 := Lib.hid ((bel_to HB0.out hb1 HB0.out.size).alloc (Nat.le_trans HB0.out.size hb1.size) (.cells #[.int .i64 tos, .int .i64 id, .bool df, .bool mf, .int .i64 (256 * (x6 % 32) + x7), .int .i64 x8, .int .i64 x9, .bool false, .int .u64 0, .int .u64 p, .bool false, .int .u64 0, .int .u64 q, .slice A2 (s - 20 : Nat) c2] 54))
  have BS1 := Lib.hid ((BS0.out.below hb1 BS0.out.lt).alloc (.cells #[.int .i64 tos, .int .i64 id, .bool df, .bool mf, .int .i64 (256 * (x6 % 32) + x7), .int .i64 x8, .int .i64 x9, .bool false, .int .u64 0, .int .u64 p, .bool false, .int .u64 0, .int .u64 q, .slice A2 (s - 20 : Nat) c2] 54))
  have BD1 := Lib.hid ((BD0.out.below hb1 BD0.out.lt).alloc (.cells #[.int .i64 tos, .int .i64 id, .bool df, .bool mf, .int .i64 (256 * (x6 % 32) + x7), .int .i64 x8, .int .i64 x9, .bool false, .int .u64 0, .int .u64 p, .bool false, .int .u64 0, .int .u64 q, .slice A2 (s - 20 : Nat) c2] 54))
  have BH1 := Lib.hid (Blk.new w1 54 #[.int .i64 tos, .int .i64 id, .bool df, .bool mf, .int .i64 (256 * (x6 % 32) + x7), .int .i64 x8, .int .i64 x9, .bool false, .int .u64 0, .int .u64 p, .bool false, .int .u64 0, .int .u64 q, .slice A2 (s - 20 : Nat) c2])
  have R31 := Lib.hid ((hr3.below ((Below.refl _ _).alloc (Nat.le_refl _) (.cells #[.int .i64 tos, .int .i64 id, .bool df, .bool mf, .int .i64 (256 * (x6 % 32) + x7), .int .i64 x8, .int .i64 x9, .bool false, .int .u64 0, .int .u64 p, .bool false, .int .u64 0, .int .u64 q, .slice A2 (s - 20 : Nat) c2] 54))).more ((Below.refl 0 _).alloc (Nat.zero_le _) (.cells #[.int .i64 tos, .int .i64 id, .bool df, .bool mf, .int .i64 (256 * (x6 % 32) + x7), .int .i64 x8, .int .i64 x9, .bool false, .int .u64 0, .int .u64 p, .bool false, .int .u64 0, .int .u64 q, .slice A2 (s - 20 : Nat) c2] 54)).size)
  have HW2 := Lib.hid (HW.out (w1.alloc (.cells #[.int .i64 tos, .int .i64 id, .bool df, .bool mf, .int .i64 (256 * (x6 % 32) + x7), .int .i64 x8, .int .i64 x9, .bool false, .int .u64 0, .int .u64 p, .bool false, .int .u64 0, .int .u64 q, .slice A2 (s - 20 : Nat) c2] 54)) HB1.out)
  clear hb1 hr3 BS0 BD0
  go_wp2_with fail
  refine HW2.out.mono ?_
  rintro e w2 ⟨rfl, hb2⟩
  have HB2 := Lib.hid (bel_to HB1.out hb2 HB1.out.size)
  have BS2 := Lib.hid (BS1.out.below hb2 BS1.out.lt)
  have BD2 := Lib.hid (BD1.out.below hb2 BD1.out.lt)
  have BH2 := Lib.hid (BH1.out.below hb2 BH1.out.lt)
  have R32 := Lib.hid ((R31.out.below hb2).more hb2.size)
  clear hb2 BS1 BD1 BH1 HW2 HB1 R31
  have c0 := HC0.out w2 HB2.out
  go_upto_region 12 with fail
  go_cut [130] (fun s130 wx => s130 = .bool false ∧ Blk wx w.heap.size 41 #[.bool false, .int .u64 sh, .int .u64 sl] ∧ Blk wx (w.heap.size + 1) 41 #[.bool true, .int .u64 dh, .int .u64 dl] ∧ Below w.heap.size w wx)
  case first =>
    clear l0 l1
    have HS := Lib.hid (show ∀ W : World, Below w2.heap.size w2 W → W.cell? ⟨w1.heap.size, 0, none⟩ = some (.int .i64 tos) ∧ W.cell? ⟨w1.heap.size, 1, none⟩ = some (.int .i64 id) ∧ W.cell? ⟨w1.heap.size, 2, none⟩ = some (.bool df) ∧ W.cell? ⟨w1.heap.size, 3, none⟩ = some (.bool mf) ∧ W.cell? ⟨w1.heap.size, 4, none⟩ = some (.int .i64 (256 * (x6 % 32) + x7)) ∧ W.cell? ⟨w1.heap.size, 5, none⟩ = some (.int .i64 x8) ∧ W.cell? ⟨w1.heap.size, 6, none⟩ = some (.int .i64 x9) ∧ W.cell? ⟨w1.heap.size, 7, none⟩ = some (.bool false) ∧ W.cell? ⟨w1.heap.size, 8, none⟩ = some (.int .u64 0) ∧ W.cell? ⟨w1.heap.size, 9, none⟩ = some (.int .u64 p) ∧ W.cell? ⟨w1.heap.size, 10, none⟩ = some (.bool false) ∧ W.cell? ⟨w1.heap.size, 11, none⟩ = some (.int .u64 0) ∧ W.cell? ⟨w1.heap.size, 12, none⟩ = some (.int .u64 q) ∧ W.cell? ⟨w1.heap.size, 13, none⟩ = some (.slice A2 (s - 20 : Nat) c2) ∧ W.cell? ⟨b, off + 6, none⟩ = some (.int .u8 x6) ∧ W.cell? ⟨b, off + 7, none⟩ = some (.int .u8 x7) ∧ W.cell? ⟨b, off + 8, none⟩ = some (.int .u8 x8) ∧ W.cell? ⟨b, off + 9, none⟩ = some (.int .u8 x9) ∧ (convert 22 9 (.slice A3 (n - s) c3)).run Try.prog W = .ok (.string (strOfNums (l.drop s))) W ∧ (convert 22 9 (.slice AX (n - s) (c - s))).run Try.prog W = .ok (.string (strOfNums (l.drop s))) W ∧ (convert 22 9 (.slice (some ⟨b, off + 12, none⟩) 4 (c - 12))).run Try.prog W = .ok (.string (strOfNums [bt p 4, bt p 5, bt p 6, bt p 7])) W ∧ (convert 22 9 (.slice (some ⟨b, off + 16, none⟩) 4 (c - 16))).run Try.prog W = .ok (.string (strOfNums [bt q 4, bt q 5, bt q 6, bt q 7])) W from by
      intro W hW
      have hh := BH2.out.below hW BH2.out.lt
      have hb_ := bel_to HB2.out hW HB2.out.size
      have hl_ := HL.out.below hb_ hb
      have hlt := Nat.lt_of_lt_of_le hb hb_.size
      exact ⟨hh.cell 0, hh.cell 1, hh.cell 2, hh.cell 3, hh.cell 4, hh.cell 5, hh.cell 6, hh.cell 7, hh.cell 8, hh.cell 9, hh.cell 10, hh.cell 11, hh.cell 12, hh.cell 13, HC6.out W hb_, HC7.out W hb_, HC8.out W hb_, HC9.out W hb_, conv_any (R32.out.below hW) (by rw [List.length_drop, LL.out]), conv_any (SR.out W W.heap.size l hlt LL.out hl_) (by rw [List.length_drop, LL.out]), conv_any (l := [bt p 4, bt p 5, bt p 6, bt p 7]) (by rw [eP.out]; exact ((hl_.drop 12).take 4).row hlt) rfl, conv_any (l := [bt q 4, bt q 5, bt q 6, bt q 7]) (by rw [eQ.out]; exact ((hl_.drop 16).take 4).row hlt) rfl⟩)
    have K2 := Lib.hid ((Below.refl w2.heap.size w2).drew)
    have sl1 := SL1.out
    have sl2 := SL2.out
    simp only [List.append]
    go_region_held_law (fun w' => w'.cell? ⟨w1.heap.size, 0, none⟩ = some (.int .i64 tos) ∧ w'.cell? ⟨w1.heap.size, 1, none⟩ = some (.int .i64 id) ∧ w'.cell? ⟨w1.heap.size, 2, none⟩ = some (.bool df) ∧ w'.cell? ⟨w1.heap.size, 3, none⟩ = some (.bool mf) ∧ w'.cell? ⟨w1.heap.size, 4, none⟩ = some (.int .i64 (256 * (x6 % 32) + x7)) ∧ w'.cell? ⟨w1.heap.size, 5, none⟩ = some (.int .i64 x8) ∧ w'.cell? ⟨w1.heap.size, 6, none⟩ = some (.int .i64 x9) ∧ w'.cell? ⟨w1.heap.size, 7, none⟩ = some (.bool false) ∧ w'.cell? ⟨w1.heap.size, 8, none⟩ = some (.int .u64 0) ∧ w'.cell? ⟨w1.heap.size, 9, none⟩ = some (.int .u64 p) ∧ w'.cell? ⟨w1.heap.size, 10, none⟩ = some (.bool false) ∧ w'.cell? ⟨w1.heap.size, 11, none⟩ = some (.int .u64 0) ∧ w'.cell? ⟨w1.heap.size, 12, none⟩ = some (.int .u64 q) ∧ w'.cell? ⟨w1.heap.size, 13, none⟩ = some (.slice A2 (s - 20 : Nat) c2) ∧ w'.cell? ⟨b, off + 6, none⟩ = some (.int .u8 x6) ∧ w'.cell? ⟨b, off + 7, none⟩ = some (.int .u8 x7) ∧ w'.cell? ⟨b, off + 8, none⟩ = some (.int .u8 x8) ∧ w'.cell? ⟨b, off + 9, none⟩ = some (.int .u8 x9) ∧ (convert 22 9 (.slice A3 (n - s) c3)).run Try.prog w' = .ok (.string (strOfNums (l.drop s))) w' ∧ (convert 22 9 (.slice AX (n - s) (c - s))).run Try.prog w' = .ok (.string (strOfNums (l.drop s))) w' ∧ (convert 22 9 (.slice (some ⟨b, off + 12, none⟩) 4 (c - 12))).run Try.prog w' = .ok (.string (strOfNums [bt p 4, bt p 5, bt p 6, bt p 7])) w' ∧ (convert 22 9 (.slice (some ⟨b, off + 16, none⟩) 4 (c - 16))).run Try.prog w' = .ok (.string (strOfNums [bt q 4, bt q 5, bt q 6, bt q 7])) w') (first | with_reducible exact HS.out _ K5.out | with_reducible exact HS.out _ K4.out | with_reducible exact HS.out _ K3.out | with_reducible exact HS.out _ K2.out) (first
      | (go_at_call 33; (with_reducible refine (HLN.out _ _ _).mono ?_); rintro e w3 ⟨rfl, hb3⟩; have K3 := Lib.hid (bel_to K2.out hb3 K2.out.size); clear hb3)
      | (go_at_call 34; (with_reducible refine (HP.out _).mono ?_); rintro e w4 ⟨v4, rfl, own4, hb4⟩; obtain ⟨A4, c4x, rfl⟩ := own_slice own4; have cvr4 := conv_any (n := 4) (c := c4x) (own_row own4) (l := [bt p 4, bt p 5, bt p 6, bt p 7]) rfl; have K4 := Lib.hid (bel_to K3.out hb4 K3.out.size); clear hb4 own4)
      | (go_at_call 34; (with_reducible refine (HQQ.out _).mono ?_); rintro e w5 ⟨v5, rfl, own5, hb5⟩; obtain ⟨A5, c5x, rfl⟩ := own_slice own5; have cvr5 := conv_any (n := 4) (c := c5x) (own_row own5) (l := [bt q 4, bt q 5, bt q 6, bt q 7]) rfl; have K5 := Lib.hid (bel_to K4.out hb5 K4.out.size); clear hb5 own5))
    all_goals (go_wp2_with fail; go_meet; exact ⟨rfl, BS2.out.below K5.out BS2.out.lt, BD2.out.below K5.out BD2.out.lt, bel_to HB2.out K5.out HB2.out.size⟩)
  case rest =>
    obtain ⟨rfl, bs2, bd2, hb2⟩ := hcut
    clear HB2 BS2 BD2 BH2 R32 c0
    obtain ⟨w2, rfl⟩ : ∃ w2 : World, w2 = wc := ⟨_, rfl⟩
    have BS2 := Lib.hid bs2
    have BD2 := Lib.hid bd2
    have HB2 := Lib.hid hb2
    clear bs2 bd2 hb2
    have q0 : w2.cell? ⟨w.heap.size, 0, none⟩ = some (.bool false) := BS2.out.cell 0
    have q1 : w2.cell? ⟨w.heap.size, 1, none⟩ = some (.int .u64 sh) := BS2.out.cell 1
    have q2 : w2.cell? ⟨w.heap.size, 2, none⟩ = some (.int .u64 sl) := BS2.out.cell 2
    have r0 : w2.cell? ⟨w.heap.size + 1, 0, none⟩ = some (.bool true) := BD2.out.cell 0
    have r1 : w2.cell? ⟨w.heap.size + 1, 1, none⟩ = some (.int .u64 dh) := BD2.out.cell 1
    have r2 : w2.cell? ⟨w.heap.size + 1, 2, none⟩ = some (.int .u64 dl) := BD2.out.cell 2
    go_wp2_with fail
    refine (HAW.out _).mono ?_
    rintro e w4 ⟨rfl, hb4⟩
    go_wp2_with fail
    go_ret
    exact ⟨rfl, bel_to HB2.out hb4 HB2.out.size⟩
end Go.Proofs.Ytgikoljnmmnkkaa.fourZb
