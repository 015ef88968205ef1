/- Layer 12: the law on bytes that are parsed as a message. -/
import Derived.Test.YtgikoljnmmnkkaaIcmpC
namespace Go.Proofs.Ytgikoljnmmnkkaa.icmpD
open Go.ChangeShapes Go.WideShapes Go.ChangeAt Go.RowKit
open Go.Proofs.Ytgikoljnmmnkkaa.base Go.Proofs.Ytgikoljnmmnkkaa.sumA Go.Proofs.Ytgikoljnmmnkkaa.sumB Go.Proofs.Ytgikoljnmmnkkaa.octA Go.Proofs.Ytgikoljnmmnkkaa.octB Go.Proofs.Ytgikoljnmmnkkaa.octC Go.Proofs.Ytgikoljnmmnkkaa.octD Go.Proofs.Ytgikoljnmmnkkaa.octE Go.Proofs.Ytgikoljnmmnkkaa.octF Go.Proofs.Ytgikoljnmmnkkaa.rdrA Go.Proofs.Ytgikoljnmmnkkaa.udpA Go.Proofs.Ytgikoljnmmnkkaa.tcpC Go.Proofs.Ytgikoljnmmnkkaa.net Go.Proofs.Ytgikoljnmmnkkaa.icmpA Go.Proofs.Ytgikoljnmmnkkaa.icmpC
set_option linter.unusedVariables false

theorem cut_any (A : Option Addr) (n c : Nat) (w : World) (hnc : n ≤ c) (hc : c ≤ 9223372036854775807) (hA : ∀ x, A = some x → 300 < n → ∃ b off, x = ⟨b, off, none⟩) (hA2 : A = none → n = 0) :
    Calls Try.prog 11 #[.slice A n c] w fun e w' => e = .returned (.slice A (min n 300 : Nat) c) ∧ w = w' := by
  by_cases h : 300 < n
  · have hm : min n 300 = 300 := by omega
    rw [hm]
    have hd : decide ((300 : Int) < (n : Int)) = true := by simp; omega
    cases A with
    | none => have := hA2 rfl; omega
    | some x =>
      obtain ⟨b, off, rfl⟩ := hA x rfl h
      clear hA hA2 hm
      go_enter Try.func11, Try.ntmps11
      go_wp2_with fail
      go_ret
      exact ⟨rfl, rfl⟩
  · have hm : min n 300 = n := by omega
    rw [hm]
    have hd : decide ((300 : Int) < (n : Int)) = false := by simp; omega
    clear hA hA2 hm
    go_enter Try.func11, Try.ntmps11
    go_wp2_with fail
    go_ret
    exact ⟨rfl, rfl⟩
theorem cut12_arg {w : World} {B : Nat} {A : Option Addr} {n c : Nat} {l : List Int} (hl : l.length = n) (hr : Row w B A (l.map (.int .u8))) (hnc : n ≤ c) (hc : c ≤ 9223372036854775807) :
    (l.take (min n 300)).length = min n 300 ∧ Row w B A ((l.take (min n 300)).map (.int .u8)) ∧
      Hid (∀ w : World, Calls Try.prog 11 #[.slice A n c] w fun e w' => e = .returned (.slice A (min n 300 : Nat) c) ∧ w = w') := by
  refine ⟨by rw [List.length_take]; omega, ?_, Lib.hid fun w => ?_⟩
  · have := hr.take (min n 300)
    rwa [← List.map_take] at this
  · refine cut_any A n c w hnc hc (fun x hx h => ?_) (fun h => ?_)
    · rcases hr with h0 | ⟨b, off, hA, _⟩
      · have := congrArg List.length h0; simp at this; rw [this] at hl; simp at hl; omega
      · rw [hx] at hA; injection hA with hA; exact ⟨b, off, hA⟩
    · rcases hr with h0 | ⟨b, off, hA, _⟩
      · have := congrArg List.length h0; simp at this; rw [this] at hl; simpa using hl.symm
      · rw [h] at hA; cases hA
theorem same_one (w : World) (ty co wd wd' : Int) (A B : Option Addr) (n ca cb : Nat) (os : List Int) (hw : wd' = wd) (hl : os.length = n) (ha : Row w w.heap.size A (os.map (.int .u8))) (hb : Row w w.heap.size B (os.map (.int .u8))) :
    Calls Try.prog 13 #[.agg #[.int .i64 ty, .int .i64 co, .int .u32 wd, .slice A n ca], .agg #[.int .i64 ty, .int .i64 co, .int .u32 wd', .slice B n cb]] w fun e w' => e = .returned (.bool true) ∧ Below w.heap.size w w' := by
  subst hw
  have bel := ((Below.refl w.heap.size w).alloc (Nat.le_refl _) (.cells #[.int .i64 ty, .int .i64 co, .int .u32 wd', .slice A n ca] 26)).alloc (by simp) (.cells #[.int .i64 ty, .int .i64 co, .int .u32 wd', .slice B n cb] 26)
  have c1 := conv_any (c := ca) (ha.below bel) hl
  have c2 := conv_any (c := cb) (hb.below bel) hl
  have HB := Lib.hid bel
  clear ha hb bel hl
  go_enter Try.func13, Try.ntmps13
  go_wp2
  go_ret
  exact ⟨rfl, HB.out⟩
theorem parses_short (v1 v2 : Value) (A1 A2 : Option Addr) (n1 n2 c1 c2 : Nat) (w : World) (hn : n1 < 8)
    (C1 : Hid (∀ w : World, Calls Try.prog 11 #[v1] w fun e w' => e = .returned (.slice A1 n1 c1) ∧ w = w'))
    (C2 : Hid (∀ w : World, Calls Try.prog 11 #[v2] w fun e w' => e = .returned (.slice A2 n2 c2) ∧ w = w')) :
    Calls Try.prog 3 #[v1, v2] w fun e w' => e = .returned (.bool true) ∧ Below w.heap.size w w' := by
  have HP := Lib.hid (fun w => parse_short A1 A2 n1 c1 n2 c2 w hn)
  have HSA := Lib.hid (fun w => same_one w 0 0 0 0 none none 0 0 0 [] rfl rfl (.inl rfl) (.inl rfl))
  go_enter Try.func3, Try.ntmps3
  go_wp2_with fail
  refine (C1.out _).mono ?_
  rintro e w' ⟨rfl, rfl⟩
  go_wp2_with fail
  refine (C2.out _).mono ?_
  rintro e w' ⟨rfl, rfl⟩
  go_wp2_with fail
  refine (HP.out _).mono ?_
  rintro e w1 ⟨rfl, hb⟩
  have HB := Lib.hid (bel_alloc hb (.cells #[.int .i64 0, .int .i64 0, .int .u32 0, .slice none 0 0] 26))
  clear hb
  go_wp2_with fail
  refine (HSA.out _).mono ?_
  rintro e w2 ⟨rfl, hb2⟩
  have HB2 := Lib.hid (bel_call HB.out hb2)
  clear hb2
  go_wp2_with fail
  refine (awake_any _).mono ?_
  rintro e w' ⟨rfl, rfl⟩
  go_wp2_with fail
  go_ret
  exact ⟨rfl, HB2.out⟩
set_option maxRecDepth 100000 in
set_option maxHeartbeats 4000000 in
theorem parses_sum (v1 v2 : Value) (b off : Nat) (A2 : Option Addr) (n1 n2 c1 c2 : Nat) (l1 l2 : List Int) (w : World) (h1 : l1.length = n1) (h2 : l2.length = n2) (k8 : 8 ≤ n1) (k1 : n1 ≤ 300) (k2 : n2 ≤ 300) (hnc : n1 ≤ c1) (hc : c1 ≤ 9223372036854775807) (hb : b < w.heap.size) (hs : Lies w b off l1) (z2 : A2 = none → c2 = 0) (r2 : Row w w.heap.size A2 (l2.map (.int .u8))) (b1 : ∀ x ∈ l1, 0 ≤ x ∧ x ≤ 255) (b2 : ∀ x ∈ l2, 0 ≤ x ∧ x ≤ 255)
    (C1 : Hid (∀ w : World, Calls Try.prog 11 #[v1] w fun e w' => e = .returned (.slice (some ⟨b, off, none⟩) n1 c1) ∧ w = w'))
    (C2 : Hid (∀ w : World, Calls Try.prog 11 #[v2] w fun e w' => e = .returned (.slice A2 n2 c2) ∧ w = w')) (hS : fo (wsum (l2 ++ l1)) ≠ 65535) :
    Calls Try.prog 3 #[v1, v2] w fun e w' => e = .returned (.bool true) ∧ Below w.heap.size w w' := by
  have HP := Lib.hid (parse_sum b off n1 c1 n2 c2 A2 l1 l2 w h1 k8 (by omega) hb hs b1 h2 (by omega) r2 b2 hS)
  have HSA := Lib.hid (fun w => same_one w 0 0 0 0 none none 0 0 0 [] rfl rfl (.inl rfl) (.inl rfl))
  have HSUM := Lib.hid (show (fo (wsum (l2 ++ l1)) != 65535) = true from bneT hS)
  have HS := Lib.hid hs
  have R2 := Lib.hid r2
  have L1 := Lib.hid h1
  have L2 := Lib.hid h2
  have Z2 := Lib.hid z2
  have HREF := Lib.hid (fun (A : Option Addr) (c : Nat) (W : World) hr => Go.Proofs.Ytgikoljnmmnkkaa.sumH.refOf_any A (n2 + n1) c (l2 ++ l1) W (by rw [List.length_append, h1, h2]) (by omega) hr (fun x hx => (List.mem_append.1 hx).elim (b2 x) (b1 x)))
  obtain ⟨i0, hi0, hz0, hz1, hz2⟩ := info_parts info_u8
  have HI0 := Lib.hid hi0
  have HZ0 := Lib.hid hz0
  have HZ1 := Lib.hid hz1
  have HZ2 := Lib.hid hz2
  have ONE := Lib.hid (show ∀ l : List Int, ∀ u ∈ l.map (Value.int .u8), u.oneCell' = true from by
    intro l u hu
    rw [List.mem_map] at hu
    obtain ⟨x, _, rfl⟩ := hu
    rfl)
  have ME1 := Lib.hid (show 0 + n2 ≤ maxLen by unfold maxLen; omega)
  have ME2 := Lib.hid (show (0 + n2) * 1 ≤ 140737488355328 by omega)
  have ME3 := Lib.hid (show 0 + n2 + n1 ≤ maxLen by unfold maxLen; omega)
  have ME4 := Lib.hid (show (0 + n2 + n1) * 1 ≤ 140737488355328 by omega)
  have EL := Lib.hid (show [] ++ l2.map (Value.int .u8) ++ l1.map (Value.int .u8) = (l2 ++ l1).map (Value.int .u8) by simp)
  clear hi0 hz0 hz1 hz2 hs r2 h1 h2 b1 b2 z2
  clear hS
  generalize fo (wsum (l2 ++ l1)) = sv at *
  have tsv := HSUM.out
  clear HSUM
  go_enter Try.func3, Try.ntmps3
  go_wp2_with fail
  refine (C1.out _).mono ?_
  rintro e w' ⟨rfl, rfl⟩
  go_wp2_with fail
  refine (C2.out _).mono ?_
  rintro e w' ⟨rfl, rfl⟩
  go_wp2_with fail
  refine HP.out.mono ?_
  rintro e w1 ⟨rfl, hbel⟩
  have HV := Lib.hid (bel_alloc hbel (.cells #[.int .i64 0, .int .i64 0, .int .u32 0, .slice none 0 0] 26))
  have HRB := Lib.hid (Blk.new w1 26 #[.int .i64 0, .int .i64 0, .int .u32 0, .slice none 0 0])
  have HSZ := Lib.hid (show (w1.alloc (.cells #[.int .i64 0, .int .i64 0, .int .u32 0, .slice none 0 0] 26)).heap.size = w1.heap.size + 1 by simp)
  clear hbel
  have HVA := Lib.hid (HV.out.alloc HV.out.size (.cells #[] 5))
  have HVB := Lib.hid (show Below (w1.heap.size + 1) (w1.alloc (.cells #[.int .i64 0, .int .i64 0, .int .u32 0, .slice none 0 0] 26)) ((w1.alloc (.cells #[.int .i64 0, .int .i64 0, .int .u32 0, .slice none 0 0] 26)).alloc (.cells #[] 5)) from (Below.refl _ _).alloc (Nat.le_of_eq HSZ.out.symm) _)
  have hlit := World.ownsRow_lit (base := w1.heap.size + 1) (e := 5) (size := 1) (w1.alloc (.cells #[.int .i64 0, .int .i64 0, .int .u32 0, .slice none 0 0] 26)) #[] 0 (Nat.le_of_eq HSZ.out.symm) (Nat.zero_le _) rfl
  rw [HSZ.out] at hlit
  have HLIT := Lib.hid hlit
  have HSB := Lib.hid (show w1.heap.size + 1 ≤ ((w1.alloc (.cells #[.int .i64 0, .int .i64 0, .int .u32 0, .slice none 0 0] 26)).alloc (.cells #[] 5)).heap.size from Nat.le_trans (Nat.le_of_eq HSZ.out.symm) ((Below.refl 0 _).alloc (Nat.zero_le _) _).size)
  clear hlit
  go_wp2_with (first
    | (at_builtin; refine wpList_append_row rfl (.tmp 31) (.tmp 32) _ rfl (w1.heap.size + 1) 5 i0 _ 1 Try.underlying22 HI0.out HZ0.out HZ1.out HZ2.out rfl (.slice (some ⟨w1.heap.size + 1, 0, none⟩) 0 0) 0 [] rfl HLIT.out A2 n2 c2 w.heap.size (l2.map (.int .u8)) rfl Z2.out (by rw [List.length_map]; exact L2.out) (R2.out.below HVA.out) (ONE.out _) ME1.out ME2.out HSB.out ?_; intro va wa owna ga; have HOa := Lib.hid owna; have HBa := Lib.hid (below_grown HVB.out HLIT.out (Nat.le_refl _) HSB.out ga); have HSa := Lib.hid (Nat.le_trans HSB.out ga.size); clear owna ga)
    | (at_builtin; refine wpList_append_row rfl (.tmp 33) (.tmp 34) _ rfl (w1.heap.size + 1) 5 i0 _ 1 Try.underlying22 HI0.out HZ0.out HZ1.out HZ2.out rfl va (0 + n2) _ rfl HOa.out (some ⟨b, off, none⟩) n1 c1 w.heap.size (l1.map (.int .u8)) rfl (by intro h; cases h) (by rw [List.length_map]; exact L1.out) ((HS.out.row hb).below (HV.out.trans (HBa.out.mono (Nat.le_trans HV.out.size (Nat.le_of_eq HSZ.out))))) (ONE.out _) ME3.out ME4.out HSa.out ?_; intro vb wb ownb gb; have HOb := Lib.hid ownb; have HBb := Lib.hid (below_grown HBa.out HOa.out (Nat.le_refl _) HSa.out gb); have HSb := Lib.hid (Nat.le_trans HSa.out gb.size); clear ownb gb))
  have hob := HOb.out
  rw [EL.out, Nat.zero_add] at hob
  obtain ⟨Ab, cb, rfl⟩ := own_slice hob
  have HRW := Lib.hid (HREF.out Ab cb wb (own_row hob))
  clear hob HOa HOb
  refine HRW.out.mono ?_
  rintro e w5 ⟨rfl, hb5⟩
  have HBV := Lib.hid (HBb.out.trans (hb5.mono HSb.out))
  have HB5 := Lib.hid (HV.out.trans (HBV.out.mono (Nat.le_trans HV.out.size (Nat.le_of_eq HSZ.out))))
  clear hb5 HVA HVB HLIT HBa HBb HRW HSa HSb HSB
  have HR5 := Lib.hid (HRB.out.below HBV.out (Nat.lt_succ_self _))
  have x0 : w5.cell? ⟨w1.heap.size, 0, none⟩ = some (.int .i64 0) := HR5.out.cell 0
  have x1 : w5.cell? ⟨w1.heap.size, 1, none⟩ = some (.int .i64 0) := HR5.out.cell 1
  have x2 : w5.cell? ⟨w1.heap.size, 2, none⟩ = some (.int .u32 0) := HR5.out.cell 2
  have x3 : w5.cell? ⟨w1.heap.size, 3, none⟩ = some (.slice none 0 0) := HR5.out.cell 3
  go_wp2_with fail
  refine (HSA.out _).mono ?_
  rintro e w6 ⟨rfl, hb6⟩
  have HB6 := Lib.hid (bel_call HB5.out hb6)
  clear hb6
  go_wp2_with fail
  refine (awake_any _).mono ?_
  rintro e w' ⟨rfl, rfl⟩
  go_wp2_with fail
  go_ret
  exact ⟨rfl, HB6.out⟩
set_option maxRecDepth 100000 in
set_option maxHeartbeats 4000000 in
theorem parses_one (v1 v2 : Value) (b off : Nat) (A2 : Option Addr) (n1 n2 c1 c2 : Nat) (l1 l2 : List Int) (w : World) (h1 : l1.length = n1) (h2 : l2.length = n2) (k8 : 8 ≤ n1) (k1 : n1 ≤ 300) (k2 : n2 ≤ 300) (hnc : n1 ≤ c1) (hc : c1 ≤ 9223372036854775807) (hb : b < w.heap.size) (hs : Lies w b off l1) (z2 : A2 = none → c2 = 0) (r2 : Row w w.heap.size A2 (l2.map (.int .u8))) (b1 : ∀ x ∈ l1, 0 ≤ x ∧ x ≤ 255) (b2 : ∀ x ∈ l2, 0 ≤ x ∧ x ≤ 255)
    (C1 : Hid (∀ w : World, Calls Try.prog 11 #[v1] w fun e w' => e = .returned (.slice (some ⟨b, off, none⟩) n1 c1) ∧ w = w'))
    (C2 : Hid (∀ w : World, Calls Try.prog 11 #[v2] w fun e w' => e = .returned (.slice A2 n2 c2) ∧ w = w')) (hS : fo (wsum (l2 ++ l1)) = 65535) (hc8 : Hid (c1 = 8 ∧ n1 = 8)) :
    Calls Try.prog 3 #[v1, v2] w fun e w' => e = .returned (.bool true) ∧ Below w.heap.size w w' := by
  have HP := Lib.hid (parse_ok b off n1 c1 n2 c2 A2 l1 l2 w h1 k8 (by omega) hnc hc hb hs b1 h2 (by omega) r2 b2 hS)
  have HSUM := Lib.hid (show (fo (wsum (l2 ++ l1)) != 65535) = false from bneF hS)
  have HLD := Lib.hid (show (l1.drop 8).length = n1 - 8 by rw [List.length_drop, h1])
  have LIE := Lib.hid (show ∀ i, i < n1 → ∀ W : World, Below w.heap.size w W → W.cell? ⟨b, off + i, none⟩ = some (.int .u8 (l1.getD i 0)) from fun i hi W hW => (hs.below hW hb) i (by rw [h1]; exact hi))
  have LR := Lib.hid (show ∀ W : World, Below w.heap.size w W → Row W W.heap.size (some ⟨b, off, none⟩) ((l1.drop 8).map (.int .u8)) from fun W hW => .inl (by rw [List.drop_eq_nil_of_le (by rw [h1]; have := hc8.out.2; omega)]; rfl))
  have g0 := getD_in l1 b1 0
  have g1 := getD_in l1 b1 1
  have g4 := getD_in l1 b1 4
  have g5 := getD_in l1 b1 5
  have g6 := getD_in l1 b1 6
  have g7 := getD_in l1 b1 7
  have HWD := Lib.hid (show l1.getD 4 0 * 16777216 + l1.getD 5 0 * 65536 + l1.getD 6 0 * 256 + l1.getD 7 0 = w32 l1 4 by
    show _ = (l1.getD 4 0 * 256 + l1.getD 5 0) * 65536 + (l1.getD 6 0 * 256 + l1.getD 7 0)
    omega)
  have HS := Lib.hid hs
  have R2 := Lib.hid r2
  have L1 := Lib.hid h1
  have L2 := Lib.hid h2
  have Z2 := Lib.hid z2
  have HREF := Lib.hid (fun (A : Option Addr) (c : Nat) (W : World) hr => Go.Proofs.Ytgikoljnmmnkkaa.sumH.refOf_any A (n2 + n1) c (l2 ++ l1) W (by rw [List.length_append, h1, h2]) (by omega) hr (fun x hx => (List.mem_append.1 hx).elim (b2 x) (b1 x)))
  obtain ⟨i0, hi0, hz0, hz1, hz2⟩ := info_parts info_u8
  have HI0 := Lib.hid hi0
  have HZ0 := Lib.hid hz0
  have HZ1 := Lib.hid hz1
  have HZ2 := Lib.hid hz2
  have ONE := Lib.hid (show ∀ l : List Int, ∀ u ∈ l.map (Value.int .u8), u.oneCell' = true from by
    intro l u hu
    rw [List.mem_map] at hu
    obtain ⟨x, _, rfl⟩ := hu
    rfl)
  have ME1 := Lib.hid (show 0 + n2 ≤ maxLen by unfold maxLen; omega)
  have ME2 := Lib.hid (show (0 + n2) * 1 ≤ 140737488355328 by omega)
  have ME3 := Lib.hid (show 0 + n2 + n1 ≤ maxLen by unfold maxLen; omega)
  have ME4 := Lib.hid (show (0 + n2 + n1) * 1 ≤ 140737488355328 by omega)
  have EL := Lib.hid (show [] ++ l2.map (Value.int .u8) ++ l1.map (Value.int .u8) = (l2 ++ l1).map (Value.int .u8) by simp)
  clear hi0 hz0 hz1 hz2 hs r2 h1 h2 b1 b2 z2
  clear hS
  generalize fo (wsum (l2 ++ l1)) = sv at *
  have tsv := HSUM.out
  clear HSUM
  have Q4 := Lib.hid (LIE.out 4 (by omega))
  have Q5 := Lib.hid (LIE.out 5 (by omega))
  have Q6 := Lib.hid (LIE.out 6 (by omega))
  have Q7 := Lib.hid (LIE.out 7 (by omega))
  have Q0 := Lib.hid (LIE.out 0 (by omega))
  have Q1 := Lib.hid (LIE.out 1 (by omega))
  generalize hwd : w32 l1 4 = wd at *
  have HW32 := Lib.hid hwd
  clear hwd
  generalize hy0 : l1.getD 0 0 = y0 at *
  generalize hy1 : l1.getD 1 0 = y1 at *
  have HY0 := Lib.hid hy0
  have HY1 := Lib.hid hy1
  clear hy0 hy1
  generalize l1.getD 4 0 = y4 at *
  generalize l1.getD 5 0 = y5 at *
  generalize l1.getD 6 0 = y6 at *
  generalize l1.getD 7 0 = y7 at *
  obtain ⟨x00, x01⟩ := g0
  obtain ⟨x10, x11⟩ := g1
  obtain ⟨x40, x41⟩ := g4
  obtain ⟨x50, x51⟩ := g5
  obtain ⟨x60, x61⟩ := g6
  obtain ⟨x70, x71⟩ := g7
  have u4 : IntKind.u32.wrap y4 = y4 := by rw [IntKind.wrap_u32]; omega
  have u5 : IntKind.u32.wrap y5 = y5 := by rw [IntKind.wrap_u32]; omega
  have u6 : IntKind.u32.wrap y6 = y6 := by rw [IntKind.wrap_u32]; omega
  have u7 : IntKind.u32.wrap y7 = y7 := by rw [IntKind.wrap_u32]; omega
  have s4 : IntKind.u32.wrap (y4 * 16777216) = y4 * 16777216 := by rw [IntKind.wrap_u32]; omega
  have s5 : IntKind.u32.wrap (y5 * 65536) = y5 * 65536 := by rw [IntKind.wrap_u32]; omega
  have s6 : IntKind.u32.wrap (y6 * 256) = y6 * 256 := by rw [IntKind.wrap_u32]; omega
  have p5 : IntKind.u32.wrap (y4 * 16777216 + y5 * 65536) = y4 * 16777216 + y5 * 65536 := by rw [IntKind.wrap_u32]; omega
  have p6 : IntKind.u32.wrap (y4 * 16777216 + y5 * 65536 + y6 * 256) = y4 * 16777216 + y5 * 65536 + y6 * 256 := by rw [IntKind.wrap_u32]; omega
  have p7 : IntKind.u32.wrap (y4 * 16777216 + y5 * 65536 + y6 * 256 + y7) = y4 * 16777216 + y5 * 65536 + y6 * 256 + y7 := by rw [IntKind.wrap_u32]; omega
  have U := Lib.hid (And.intro u4 (And.intro u5 (And.intro u6 (And.intro u7 (And.intro s4 (And.intro s5 (And.intro s6 (And.intro p5 (And.intro p6 p7)))))))))
  clear u4 u5 u6 u7 s4 s5 s6 p5 p6 p7
  obtain ⟨e1, e2⟩ := hc8.out
  subst e1 e2
  clear hc8
  rw [show 8 - 8 = 0 from rfl] at HLD
  go_enter Try.func3, Try.ntmps3
  go_wp2_with fail
  refine (C1.out _).mono ?_
  rintro e w' ⟨rfl, rfl⟩
  go_wp2_with fail
  refine (C2.out _).mono ?_
  rintro e w' ⟨rfl, rfl⟩
  go_wp2_with fail
  refine HP.out.mono ?_
  rintro e w1 ⟨A, m, c9, hm, he, hnn, hown, hbel⟩
  rw [L1.out] at hm
  rw [HY0.out, HY1.out, HW32.out] at he
  subst he
  rw [show 8 - 8 = 0 from rfl] at hm
  subst hm
  have HO1 := Lib.hid (own_row (hown.alloc (.cells #[.int .i64 y0, .int .i64 y1, .int .u32 wd, .slice A 0 c9] 26)))
  have HV := Lib.hid (bel_alloc hbel (.cells #[.int .i64 y0, .int .i64 y1, .int .u32 wd, .slice A 0 c9] 26))
  have HRB := Lib.hid (Blk.new w1 26 #[.int .i64 y0, .int .i64 y1, .int .u32 wd, .slice A 0 c9])
  have HSZ := Lib.hid (show (w1.alloc (.cells #[.int .i64 y0, .int .i64 y1, .int .u32 wd, .slice A 0 c9] 26)).heap.size = w1.heap.size + 1 by simp)
  clear hbel hown hnn
  have HVA := Lib.hid (HV.out.alloc HV.out.size (.cells #[] 5))
  have HVB := Lib.hid (show Below (w1.heap.size + 1) (w1.alloc (.cells #[.int .i64 y0, .int .i64 y1, .int .u32 wd, .slice A 0 c9] 26)) ((w1.alloc (.cells #[.int .i64 y0, .int .i64 y1, .int .u32 wd, .slice A 0 c9] 26)).alloc (.cells #[] 5)) from (Below.refl _ _).alloc (Nat.le_of_eq HSZ.out.symm) _)
  have hlit := World.ownsRow_lit (base := w1.heap.size + 1) (e := 5) (size := 1) (w1.alloc (.cells #[.int .i64 y0, .int .i64 y1, .int .u32 wd, .slice A 0 c9] 26)) #[] 0 (Nat.le_of_eq HSZ.out.symm) (Nat.zero_le _) rfl
  rw [HSZ.out] at hlit
  have HLIT := Lib.hid hlit
  have HSB := Lib.hid (show w1.heap.size + 1 ≤ ((w1.alloc (.cells #[.int .i64 y0, .int .i64 y1, .int .u32 wd, .slice A 0 c9] 26)).alloc (.cells #[] 5)).heap.size from Nat.le_trans (Nat.le_of_eq HSZ.out.symm) ((Below.refl 0 _).alloc (Nat.zero_le _) _).size)
  clear hlit
  go_wp2_with (first
    | (at_builtin; refine wpList_append_row rfl (.tmp 31) (.tmp 32) _ rfl (w1.heap.size + 1) 5 i0 _ 1 Try.underlying22 HI0.out HZ0.out HZ1.out HZ2.out rfl (.slice (some ⟨w1.heap.size + 1, 0, none⟩) 0 0) 0 [] rfl HLIT.out A2 n2 c2 w.heap.size (l2.map (.int .u8)) rfl Z2.out (by rw [List.length_map]; exact L2.out) (R2.out.below HVA.out) (ONE.out _) ME1.out ME2.out HSB.out ?_; intro va wa owna ga; have HOa := Lib.hid owna; have HBa := Lib.hid (below_grown HVB.out HLIT.out (Nat.le_refl _) HSB.out ga); have HSa := Lib.hid (Nat.le_trans HSB.out ga.size); clear owna ga)
    | (at_builtin; refine wpList_append_row rfl (.tmp 33) (.tmp 34) _ rfl (w1.heap.size + 1) 5 i0 _ 1 Try.underlying22 HI0.out HZ0.out HZ1.out HZ2.out rfl va (0 + n2) _ rfl HOa.out (some ⟨b, off, none⟩) 8 8 w.heap.size (l1.map (.int .u8)) rfl (by intro h; cases h) (by rw [List.length_map]; exact L1.out) ((HS.out.row hb).below (HV.out.trans (HBa.out.mono (Nat.le_trans HV.out.size (Nat.le_of_eq HSZ.out))))) (ONE.out _) ME3.out ME4.out HSa.out ?_; intro vb wb ownb gb; have HOb := Lib.hid ownb; have HBb := Lib.hid (below_grown HBa.out HOa.out (Nat.le_refl _) HSa.out gb); have HSb := Lib.hid (Nat.le_trans HSa.out gb.size); clear ownb gb))
  have hob := HOb.out
  rw [EL.out, Nat.zero_add] at hob
  obtain ⟨Ab, cb, rfl⟩ := own_slice hob
  have HRW := Lib.hid (HREF.out Ab cb wb (own_row hob))
  clear hob HOa HOb
  refine HRW.out.mono ?_
  rintro e w5 ⟨rfl, hb5⟩
  have HBV := Lib.hid (HBb.out.trans (hb5.mono HSb.out))
  have HB5 := Lib.hid (HV.out.trans (HBV.out.mono (Nat.le_trans HV.out.size (Nat.le_of_eq HSZ.out))))
  clear hb5 HVA HVB HLIT HBa HBb HRW HSa HSb HSB
  have HR5 := Lib.hid (HRB.out.below HBV.out (Nat.lt_succ_self _))
  have HO5 := Lib.hid ((HO1.out.below (HBV.out.mono (Nat.le_of_eq HSZ.out))).more (HBV.out.size))
  clear HO1 HRB HBV HSZ HV
  generalize w1.heap.size = k at *
  have y4i : (4 : Int) < (8 : Int) := by omega
  have y5i : (5 : Int) < (8 : Int) := by omega
  have y6i : (6 : Int) < (8 : Int) := by omega
  have y7i : (7 : Int) < (8 : Int) := by omega
  have y0i : 0 < 8 := by omega
  have y1i : (1 : Int) < (8 : Int) := by omega
  have y8i : (8 : Int) ≤ (8 : Int) := by omega
  have d4 := Q4.out w5 HB5.out
  have d5 := Q5.out w5 HB5.out
  have d6 := Q6.out w5 HB5.out
  have d7 := Q7.out w5 HB5.out
  obtain ⟨u4, u5, u6, u7, s4, s5, s6, p5, p6, p7⟩ := U.out
  go_wp2_with fail
  go_quiet (fail)
  have HWX := HWD.out
  clear d4 d5 d6 d7 u4 u5 u6 u7 s4 s5 s6 p5 p6 p7
  have HR7 := Lib.hid (HR5.out.drewN nq)
  have HO7 := Lib.hid (show Row (w5.drewN nq) (w5.drewN nq).heap.size A ((l1.drop 8).map (.int .u8)) from HO5.out)
  have HB7 := Lib.hid (below_drewN HB5.out nq)
  clear HR5 HO5 HB5
  generalize w5.drewN nq = V at *
  have HWE := Lib.hid HWX
  clear HWX
  generalize y4 * 16777216 + y5 * 65536 + y6 * 256 + y7 = wz at *
  have HK0 := Lib.hid (show V.drew.cell? ⟨k, 0, none⟩ = some (.int .i64 y0) ∧ V.drew.cell? ⟨k, 1, none⟩ = some (.int .i64 y1) ∧ V.drew.cell? ⟨k, 2, none⟩ = some (.int .u32 wd) ∧ V.drew.cell? ⟨k, 3, none⟩ = some (.slice A 0 c9) ∧ V.drew.cell? ⟨b, off, none⟩ = some (.int .u8 y0) ∧ V.drew.cell? ⟨b, off + 1, none⟩ = some (.int .u8 y1) from ⟨HR7.out.cell 0, HR7.out.cell 1, HR7.out.cell 2, HR7.out.cell 3, Q0.out V HB7.out, Q1.out V HB7.out⟩)
  have HSM := Lib.hid (same_one V.drew y0 y1 wd wz A (some ⟨b, off, none⟩) 0 c9 0 (l1.drop 8) HWE.out HLD.out HO7.out (LR.out V.drew HB7.out.drew))
  have HBD := Lib.hid HB7.out.drew
  clear HR7 HO7 Q0 Q1
  have wy0 : IntKind.i64.wrap y0 = y0 := by rw [IntKind.wrap_i64]; omega
  have wy1 : IntKind.i64.wrap y1 = y1 := by rw [IntKind.wrap_i64]; omega
  go_wp2_with fail
  go_region_held3 (fun w' => w'.cell? ⟨k, 0, none⟩ = some (.int .i64 y0) ∧ w'.cell? ⟨k, 1, none⟩ = some (.int .i64 y1) ∧ w'.cell? ⟨k, 2, none⟩ = some (.int .u32 wd) ∧ w'.cell? ⟨k, 3, none⟩ = some (.slice A 0 c9) ∧ w'.cell? ⟨b, off, none⟩ = some (.int .u8 y0) ∧ w'.cell? ⟨b, off + 1, none⟩ = some (.int .u8 y1)) (first | with_reducible assumption | with_reducible exact HK6.out | with_reducible exact HK0.out) (first
    | (go_at_call 13; refine HSM.out.mono ?_; rintro e w6 ⟨rfl, hb6⟩; have HK6 := Lib.hid (show w6.cell? ⟨k, 0, none⟩ = some (.int .i64 y0) ∧ w6.cell? ⟨k, 1, none⟩ = some (.int .i64 y1) ∧ w6.cell? ⟨k, 2, none⟩ = some (.int .u32 wd) ∧ w6.cell? ⟨k, 3, none⟩ = some (.slice A 0 c9) ∧ w6.cell? ⟨b, off, none⟩ = some (.int .u8 y0) ∧ w6.cell? ⟨b, off + 1, none⟩ = some (.int .u8 y1) from ⟨kept HK0.out.1 hb6, kept HK0.out.2.1 hb6, kept HK0.out.2.2.1 hb6, kept HK0.out.2.2.2.1 hb6, kept HK0.out.2.2.2.2.1 hb6, kept HK0.out.2.2.2.2.2 hb6⟩); have HB6 := Lib.hid (bel_call HBD.out hb6); clear hb6)
    | (go_at_call 14; refine (awake_any _).mono ?_; rintro e w9 ⟨rfl, rfl⟩))
  go_wp2_with fail
  go_ret
  exact ⟨rfl, HB6.out⟩
set_option maxRecDepth 100000 in
set_option maxHeartbeats 4000000 in
theorem parses_far (v1 v2 : Value) (b off : Nat) (A2 : Option Addr) (n1 n2 c1 c2 : Nat) (l1 l2 : List Int) (w : World) (h1 : l1.length = n1) (h2 : l2.length = n2) (k8 : 8 ≤ n1) (k1 : n1 ≤ 300) (k2 : n2 ≤ 300) (hnc : n1 ≤ c1) (hc : c1 ≤ 9223372036854775807) (hb : b < w.heap.size) (hs : Lies w b off l1) (z2 : A2 = none → c2 = 0) (r2 : Row w w.heap.size A2 (l2.map (.int .u8))) (b1 : ∀ x ∈ l1, 0 ≤ x ∧ x ≤ 255) (b2 : ∀ x ∈ l2, 0 ≤ x ∧ x ≤ 255)
    (C1 : Hid (∀ w : World, Calls Try.prog 11 #[v1] w fun e w' => e = .returned (.slice (some ⟨b, off, none⟩) n1 c1) ∧ w = w'))
    (C2 : Hid (∀ w : World, Calls Try.prog 11 #[v2] w fun e w' => e = .returned (.slice A2 n2 c2) ∧ w = w')) (hS : fo (wsum (l2 ++ l1)) = 65535) (hc8 : ¬ c1 = 8) :
    Calls Try.prog 3 #[v1, v2] w fun e w' => e = .returned (.bool true) ∧ Below w.heap.size w w' := by
  have HP := Lib.hid (parse_ok b off n1 c1 n2 c2 A2 l1 l2 w h1 k8 (by omega) hnc hc hb hs b1 h2 (by omega) r2 b2 hS)
  have HSUM := Lib.hid (show (fo (wsum (l2 ++ l1)) != 65535) = false from bneF hS)
  have HLD := Lib.hid (show (l1.drop 8).length = n1 - 8 by rw [List.length_drop, h1])
  have LIE := Lib.hid (show ∀ i, i < n1 → ∀ W : World, Below w.heap.size w W → W.cell? ⟨b, off + i, none⟩ = some (.int .u8 (l1.getD i 0)) from fun i hi W hW => (hs.below hW hb) i (by rw [h1]; exact hi))
  have LR := Lib.hid (show ∀ W : World, Below w.heap.size w W → Row W W.heap.size (some ⟨b, off + 8, none⟩) ((l1.drop 8).map (.int .u8)) from fun W hW => ((hs.below hW hb).drop 8).row (Nat.lt_of_lt_of_le hb hW.size))
  have g0 := getD_in l1 b1 0
  have g1 := getD_in l1 b1 1
  have g4 := getD_in l1 b1 4
  have g5 := getD_in l1 b1 5
  have g6 := getD_in l1 b1 6
  have g7 := getD_in l1 b1 7
  have HWD := Lib.hid (show l1.getD 4 0 * 16777216 + l1.getD 5 0 * 65536 + l1.getD 6 0 * 256 + l1.getD 7 0 = w32 l1 4 by
    show _ = (l1.getD 4 0 * 256 + l1.getD 5 0) * 65536 + (l1.getD 6 0 * 256 + l1.getD 7 0)
    omega)
  have HS := Lib.hid hs
  have R2 := Lib.hid r2
  have L1 := Lib.hid h1
  have L2 := Lib.hid h2
  have Z2 := Lib.hid z2
  have HREF := Lib.hid (fun (A : Option Addr) (c : Nat) (W : World) hr => Go.Proofs.Ytgikoljnmmnkkaa.sumH.refOf_any A (n2 + n1) c (l2 ++ l1) W (by rw [List.length_append, h1, h2]) (by omega) hr (fun x hx => (List.mem_append.1 hx).elim (b2 x) (b1 x)))
  obtain ⟨i0, hi0, hz0, hz1, hz2⟩ := info_parts info_u8
  have HI0 := Lib.hid hi0
  have HZ0 := Lib.hid hz0
  have HZ1 := Lib.hid hz1
  have HZ2 := Lib.hid hz2
  have ONE := Lib.hid (show ∀ l : List Int, ∀ u ∈ l.map (Value.int .u8), u.oneCell' = true from by
    intro l u hu
    rw [List.mem_map] at hu
    obtain ⟨x, _, rfl⟩ := hu
    rfl)
  have ME1 := Lib.hid (show 0 + n2 ≤ maxLen by unfold maxLen; omega)
  have ME2 := Lib.hid (show (0 + n2) * 1 ≤ 140737488355328 by omega)
  have ME3 := Lib.hid (show 0 + n2 + n1 ≤ maxLen by unfold maxLen; omega)
  have ME4 := Lib.hid (show (0 + n2 + n1) * 1 ≤ 140737488355328 by omega)
  have EL := Lib.hid (show [] ++ l2.map (Value.int .u8) ++ l1.map (Value.int .u8) = (l2 ++ l1).map (Value.int .u8) by simp)
  clear hi0 hz0 hz1 hz2 hs r2 h1 h2 b1 b2 z2
  clear hS
  generalize fo (wsum (l2 ++ l1)) = sv at *
  have tsv := HSUM.out
  clear HSUM
  have Q4 := Lib.hid (LIE.out 4 (by omega))
  have Q5 := Lib.hid (LIE.out 5 (by omega))
  have Q6 := Lib.hid (LIE.out 6 (by omega))
  have Q7 := Lib.hid (LIE.out 7 (by omega))
  have Q0 := Lib.hid (LIE.out 0 (by omega))
  have Q1 := Lib.hid (LIE.out 1 (by omega))
  generalize hwd : w32 l1 4 = wd at *
  have HW32 := Lib.hid hwd
  clear hwd
  generalize hy0 : l1.getD 0 0 = y0 at *
  generalize hy1 : l1.getD 1 0 = y1 at *
  have HY0 := Lib.hid hy0
  have HY1 := Lib.hid hy1
  clear hy0 hy1
  generalize l1.getD 4 0 = y4 at *
  generalize l1.getD 5 0 = y5 at *
  generalize l1.getD 6 0 = y6 at *
  generalize l1.getD 7 0 = y7 at *
  obtain ⟨x00, x01⟩ := g0
  obtain ⟨x10, x11⟩ := g1
  obtain ⟨x40, x41⟩ := g4
  obtain ⟨x50, x51⟩ := g5
  obtain ⟨x60, x61⟩ := g6
  obtain ⟨x70, x71⟩ := g7
  have u4 : IntKind.u32.wrap y4 = y4 := by rw [IntKind.wrap_u32]; omega
  have u5 : IntKind.u32.wrap y5 = y5 := by rw [IntKind.wrap_u32]; omega
  have u6 : IntKind.u32.wrap y6 = y6 := by rw [IntKind.wrap_u32]; omega
  have u7 : IntKind.u32.wrap y7 = y7 := by rw [IntKind.wrap_u32]; omega
  have s4 : IntKind.u32.wrap (y4 * 16777216) = y4 * 16777216 := by rw [IntKind.wrap_u32]; omega
  have s5 : IntKind.u32.wrap (y5 * 65536) = y5 * 65536 := by rw [IntKind.wrap_u32]; omega
  have s6 : IntKind.u32.wrap (y6 * 256) = y6 * 256 := by rw [IntKind.wrap_u32]; omega
  have p5 : IntKind.u32.wrap (y4 * 16777216 + y5 * 65536) = y4 * 16777216 + y5 * 65536 := by rw [IntKind.wrap_u32]; omega
  have p6 : IntKind.u32.wrap (y4 * 16777216 + y5 * 65536 + y6 * 256) = y4 * 16777216 + y5 * 65536 + y6 * 256 := by rw [IntKind.wrap_u32]; omega
  have p7 : IntKind.u32.wrap (y4 * 16777216 + y5 * 65536 + y6 * 256 + y7) = y4 * 16777216 + y5 * 65536 + y6 * 256 + y7 := by rw [IntKind.wrap_u32]; omega
  have U := Lib.hid (And.intro u4 (And.intro u5 (And.intro u6 (And.intro u7 (And.intro s4 (And.intro s5 (And.intro s6 (And.intro p5 (And.intro p6 p7)))))))))
  clear u4 u5 u6 u7 s4 s5 s6 p5 p6 p7
  go_enter Try.func3, Try.ntmps3
  go_wp2_with fail
  refine (C1.out _).mono ?_
  rintro e w' ⟨rfl, rfl⟩
  go_wp2_with fail
  refine (C2.out _).mono ?_
  rintro e w' ⟨rfl, rfl⟩
  go_wp2_with fail
  refine HP.out.mono ?_
  rintro e w1 ⟨A, m, c9, hm, he, hnn, hown, hbel⟩
  rw [L1.out] at hm
  rw [HY0.out, HY1.out, HW32.out] at he
  subst he
  subst hm
  have HO1 := Lib.hid (own_row (hown.alloc (.cells #[.int .i64 y0, .int .i64 y1, .int .u32 wd, .slice A (n1 - 8) c9] 26)))
  have HV := Lib.hid (bel_alloc hbel (.cells #[.int .i64 y0, .int .i64 y1, .int .u32 wd, .slice A (n1 - 8) c9] 26))
  have HRB := Lib.hid (Blk.new w1 26 #[.int .i64 y0, .int .i64 y1, .int .u32 wd, .slice A (n1 - 8) c9])
  have HSZ := Lib.hid (show (w1.alloc (.cells #[.int .i64 y0, .int .i64 y1, .int .u32 wd, .slice A (n1 - 8) c9] 26)).heap.size = w1.heap.size + 1 by simp)
  clear hbel hown hnn
  have HVA := Lib.hid (HV.out.alloc HV.out.size (.cells #[] 5))
  have HVB := Lib.hid (show Below (w1.heap.size + 1) (w1.alloc (.cells #[.int .i64 y0, .int .i64 y1, .int .u32 wd, .slice A (n1 - 8) c9] 26)) ((w1.alloc (.cells #[.int .i64 y0, .int .i64 y1, .int .u32 wd, .slice A (n1 - 8) c9] 26)).alloc (.cells #[] 5)) from (Below.refl _ _).alloc (Nat.le_of_eq HSZ.out.symm) _)
  have hlit := World.ownsRow_lit (base := w1.heap.size + 1) (e := 5) (size := 1) (w1.alloc (.cells #[.int .i64 y0, .int .i64 y1, .int .u32 wd, .slice A (n1 - 8) c9] 26)) #[] 0 (Nat.le_of_eq HSZ.out.symm) (Nat.zero_le _) rfl
  rw [HSZ.out] at hlit
  have HLIT := Lib.hid hlit
  have HSB := Lib.hid (show w1.heap.size + 1 ≤ ((w1.alloc (.cells #[.int .i64 y0, .int .i64 y1, .int .u32 wd, .slice A (n1 - 8) c9] 26)).alloc (.cells #[] 5)).heap.size from Nat.le_trans (Nat.le_of_eq HSZ.out.symm) ((Below.refl 0 _).alloc (Nat.zero_le _) _).size)
  clear hlit
  go_wp2_with (first
    | (at_builtin; refine wpList_append_row rfl (.tmp 31) (.tmp 32) _ rfl (w1.heap.size + 1) 5 i0 _ 1 Try.underlying22 HI0.out HZ0.out HZ1.out HZ2.out rfl (.slice (some ⟨w1.heap.size + 1, 0, none⟩) 0 0) 0 [] rfl HLIT.out A2 n2 c2 w.heap.size (l2.map (.int .u8)) rfl Z2.out (by rw [List.length_map]; exact L2.out) (R2.out.below HVA.out) (ONE.out _) ME1.out ME2.out HSB.out ?_; intro va wa owna ga; have HOa := Lib.hid owna; have HBa := Lib.hid (below_grown HVB.out HLIT.out (Nat.le_refl _) HSB.out ga); have HSa := Lib.hid (Nat.le_trans HSB.out ga.size); clear owna ga)
    | (at_builtin; refine wpList_append_row rfl (.tmp 33) (.tmp 34) _ rfl (w1.heap.size + 1) 5 i0 _ 1 Try.underlying22 HI0.out HZ0.out HZ1.out HZ2.out rfl va (0 + n2) _ rfl HOa.out (some ⟨b, off, none⟩) n1 c1 w.heap.size (l1.map (.int .u8)) rfl (by intro h; cases h) (by rw [List.length_map]; exact L1.out) ((HS.out.row hb).below (HV.out.trans (HBa.out.mono (Nat.le_trans HV.out.size (Nat.le_of_eq HSZ.out))))) (ONE.out _) ME3.out ME4.out HSa.out ?_; intro vb wb ownb gb; have HOb := Lib.hid ownb; have HBb := Lib.hid (below_grown HBa.out HOa.out (Nat.le_refl _) HSa.out gb); have HSb := Lib.hid (Nat.le_trans HSa.out gb.size); clear ownb gb))
  have hob := HOb.out
  rw [EL.out, Nat.zero_add] at hob
  obtain ⟨Ab, cb, rfl⟩ := own_slice hob
  have HRW := Lib.hid (HREF.out Ab cb wb (own_row hob))
  clear hob HOa HOb
  refine HRW.out.mono ?_
  rintro e w5 ⟨rfl, hb5⟩
  have HBV := Lib.hid (HBb.out.trans (hb5.mono HSb.out))
  have HB5 := Lib.hid (HV.out.trans (HBV.out.mono (Nat.le_trans HV.out.size (Nat.le_of_eq HSZ.out))))
  clear hb5 HVA HVB HLIT HBa HBb HRW HSa HSb HSB
  have HR5 := Lib.hid (HRB.out.below HBV.out (Nat.lt_succ_self _))
  have HO5 := Lib.hid ((HO1.out.below (HBV.out.mono (Nat.le_of_eq HSZ.out))).more (HBV.out.size))
  clear HO1 HRB HBV HSZ HV
  generalize w1.heap.size = k at *
  have y4i : (4 : Int) < (n1 : Int) := by omega
  have y5i : (5 : Int) < (n1 : Int) := by omega
  have y6i : (6 : Int) < (n1 : Int) := by omega
  have y7i : (7 : Int) < (n1 : Int) := by omega
  have y0i : 0 < n1 := by omega
  have y1i : (1 : Int) < (n1 : Int) := by omega
  have y8i : (8 : Int) ≤ (n1 : Int) := by omega
  have d4 := Q4.out w5 HB5.out
  have d5 := Q5.out w5 HB5.out
  have d6 := Q6.out w5 HB5.out
  have d7 := Q7.out w5 HB5.out
  obtain ⟨u4, u5, u6, u7, s4, s5, s6, p5, p6, p7⟩ := U.out
  go_wp2_with fail
  go_quiet (fail)
  have HWX := HWD.out
  clear d4 d5 d6 d7 u4 u5 u6 u7 s4 s5 s6 p5 p6 p7
  have HR7 := Lib.hid (HR5.out.drewN nq)
  have HO7 := Lib.hid (show Row (w5.drewN nq) (w5.drewN nq).heap.size A ((l1.drop 8).map (.int .u8)) from HO5.out)
  have HB7 := Lib.hid (below_drewN HB5.out nq)
  clear HR5 HO5 HB5
  generalize w5.drewN nq = V at *
  have HWE := Lib.hid HWX
  clear HWX
  generalize y4 * 16777216 + y5 * 65536 + y6 * 256 + y7 = wz at *
  have HK0 := Lib.hid (show V.drew.cell? ⟨k, 0, none⟩ = some (.int .i64 y0) ∧ V.drew.cell? ⟨k, 1, none⟩ = some (.int .i64 y1) ∧ V.drew.cell? ⟨k, 2, none⟩ = some (.int .u32 wd) ∧ V.drew.cell? ⟨k, 3, none⟩ = some (.slice A (n1 - 8) c9) ∧ V.drew.cell? ⟨b, off, none⟩ = some (.int .u8 y0) ∧ V.drew.cell? ⟨b, off + 1, none⟩ = some (.int .u8 y1) from ⟨HR7.out.cell 0, HR7.out.cell 1, HR7.out.cell 2, HR7.out.cell 3, Q0.out V HB7.out, Q1.out V HB7.out⟩)
  have HSM := Lib.hid (same_one V.drew y0 y1 wd wz A (some ⟨b, off + 8, none⟩) (n1 - 8) c9 (c1 - 8) (l1.drop 8) HWE.out HLD.out HO7.out (LR.out V.drew HB7.out.drew))
  have HBD := Lib.hid HB7.out.drew
  clear HR7 HO7 Q0 Q1
  have wy0 : IntKind.i64.wrap y0 = y0 := by rw [IntKind.wrap_i64]; omega
  have wy1 : IntKind.i64.wrap y1 = y1 := by rw [IntKind.wrap_i64]; omega
  go_wp2_with fail
  go_region_held3 (fun w' => w'.cell? ⟨k, 0, none⟩ = some (.int .i64 y0) ∧ w'.cell? ⟨k, 1, none⟩ = some (.int .i64 y1) ∧ w'.cell? ⟨k, 2, none⟩ = some (.int .u32 wd) ∧ w'.cell? ⟨k, 3, none⟩ = some (.slice A (n1 - 8) c9) ∧ w'.cell? ⟨b, off, none⟩ = some (.int .u8 y0) ∧ w'.cell? ⟨b, off + 1, none⟩ = some (.int .u8 y1)) (first | with_reducible assumption | with_reducible exact HK6.out | with_reducible exact HK0.out) (first
    | (go_at_call 13; refine HSM.out.mono ?_; rintro e w6 ⟨rfl, hb6⟩; have HK6 := Lib.hid (show w6.cell? ⟨k, 0, none⟩ = some (.int .i64 y0) ∧ w6.cell? ⟨k, 1, none⟩ = some (.int .i64 y1) ∧ w6.cell? ⟨k, 2, none⟩ = some (.int .u32 wd) ∧ w6.cell? ⟨k, 3, none⟩ = some (.slice A (n1 - 8) c9) ∧ w6.cell? ⟨b, off, none⟩ = some (.int .u8 y0) ∧ w6.cell? ⟨b, off + 1, none⟩ = some (.int .u8 y1) from ⟨kept HK0.out.1 hb6, kept HK0.out.2.1 hb6, kept HK0.out.2.2.1 hb6, kept HK0.out.2.2.2.1 hb6, kept HK0.out.2.2.2.2.1 hb6, kept HK0.out.2.2.2.2.2 hb6⟩); have HB6 := Lib.hid (bel_call HBD.out hb6); clear hb6)
    | (go_at_call 14; refine (awake_any _).mono ?_; rintro e w9 ⟨rfl, rfl⟩))
  go_wp2_with fail
  go_ret
  exact ⟨rfl, HB6.out⟩
theorem parses_any (v1 v2 : Value) (A1 A2 : Option Addr) (n1 n2 c1 c2 : Nat) (l1 l2 : List Int) (w : World) (h1 : l1.length = n1) (h2 : l2.length = n2) (k1 : n1 ≤ 300) (k2 : n2 ≤ 300) (hnc : n1 ≤ c1) (hc : c1 ≤ 9223372036854775807) (z2 : A2 = none → c2 = 0) (r1 : Row w w.heap.size A1 (l1.map (.int .u8))) (r2 : Row w w.heap.size A2 (l2.map (.int .u8))) (b1 : ∀ x ∈ l1, 0 ≤ x ∧ x ≤ 255) (b2 : ∀ x ∈ l2, 0 ≤ x ∧ x ≤ 255)
    (C1 : Hid (∀ w : World, Calls Try.prog 11 #[v1] w fun e w' => e = .returned (.slice A1 n1 c1) ∧ w = w'))
    (C2 : Hid (∀ w : World, Calls Try.prog 11 #[v2] w fun e w' => e = .returned (.slice A2 n2 c2) ∧ w = w')) :
    Calls Try.prog 3 #[v1, v2] w fun e w' => e = .returned (.bool true) ∧ Below w.heap.size w w' := by
  by_cases h8 : n1 < 8
  · exact parses_short v1 v2 A1 A2 n1 n2 c1 c2 w h8 C1 C2
  obtain ⟨b, off, rfl, hb, hs⟩ := lies_of r1 (by omega)
  by_cases hS : fo (wsum (l2 ++ l1)) = 65535
  · by_cases h9 : c1 = 8
    · exact parses_one v1 v2 b off A2 n1 n2 c1 c2 l1 l2 w h1 h2 (by omega) k1 k2 hnc hc hb hs z2 r2 b1 b2 C1 C2 hS (Lib.hid ⟨h9, by omega⟩)
    · exact parses_far v1 v2 b off A2 n1 n2 c1 c2 l1 l2 w h1 h2 (by omega) k1 k2 hnc hc hb hs z2 r2 b1 b2 C1 C2 hS h9
  · exact parses_sum v1 v2 b off A2 n1 n2 c1 c2 l1 l2 w h1 h2 (by omega) k1 k2 hnc hc hb hs z2 r2 b1 b2 C1 C2 hS
end Go.Proofs.Ytgikoljnmmnkkaa.icmpD
