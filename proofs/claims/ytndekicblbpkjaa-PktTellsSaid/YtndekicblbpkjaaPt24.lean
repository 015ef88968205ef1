/- 2 texts in one. -/
import Derived.Laws.CopyOwn
import Derived.Test.YtndekicblbpkjaaPt03
/- Layer 11: a datagram as bytes. -/
namespace Go.Proofs.Ytndekicblbpkjaa.udpB
open Go.ChangeShapes Go.WideShapes Go.ChangeAt Go.RowKit
open Go.Proofs.Ytndekicblbpkjaa.base Go.Proofs.Ytndekicblbpkjaa.sumA Go.Proofs.Ytndekicblbpkjaa.sumB Go.Proofs.Ytndekicblbpkjaa.octA Go.Proofs.Ytndekicblbpkjaa.octB Go.Proofs.Ytndekicblbpkjaa.octE Go.Proofs.Ytndekicblbpkjaa.rdrA Go.Proofs.Ytndekicblbpkjaa.udpA
set_option linter.unusedVariables false

def ports (sp dp : Int) : Prop := 0 ≤ sp ∧ sp ≤ 65535 ∧ 0 ≤ dp ∧ dp ≤ 65535
theorem right_yes (sp dp : Int) (bare : Bool) (w : World) (h : ports sp dp) :
    Calls Try.prog 90 #[.agg #[.int .i64 sp, .int .i64 dp, .bool bare]] w fun e w' => e = .returned (.bool true) ∧ w.alloc (.cells #[.int .i64 sp, .int .i64 dp, .bool bare] 94) = w' := by
  obtain ⟨h1, h2, h3, h4⟩ := h
  go_enter Try.func90, Try.ntmps90
  go_wp2
  go_ret
  exact ⟨rfl, rfl⟩
theorem right_no (sp dp : Int) (bare : Bool) (w : World) (h : ¬ ports sp dp) :
    Calls Try.prog 90 #[.agg #[.int .i64 sp, .int .i64 dp, .bool bare]] w fun e w' => e = .returned (.bool false) ∧ w.alloc (.cells #[.int .i64 sp, .int .i64 dp, .bool bare] 94) = w' := by
  have h' : sp < 0 ∨ (0 ≤ sp ∧ 65535 < sp) ∨ (0 ≤ sp ∧ sp ≤ 65535 ∧ dp < 0) ∨ (0 ≤ sp ∧ sp ≤ 65535 ∧ 0 ≤ dp ∧ 65535 < dp) := by unfold ports at h; omega
  clear h
  rcases h' with h | ⟨h1, h⟩ | ⟨h1, h2, h⟩ | ⟨h1, h2, h3, h⟩
  all_goals
    first | (have q : decide (dp ≤ 65535) = false := decide_eq_false (by omega)) | skip
    go_enter Try.func90, Try.ntmps90
    go_wp2
    go_ret
    exact ⟨rfl, rfl⟩
def chkZ (l : List Int) : Int := if 65535 - fo (wsum l) = 0 then 65535 else 65535 - fo (wsum l)
theorem chkZ_in (l : List Int) (hb : ∀ x ∈ l, 0 ≤ x ∧ x ≤ 255) : 0 ≤ chkZ l ∧ chkZ l ≤ 65535 := by
  have := fo_bd (wsum l) (wsum_bd l hb).1
  unfold chkZ
  split <;> omega
theorem check_any (A1 A2 : Option Addr) (n1 n2 c1 c2 : Nat) (l1 l2 : List Int) (W : World) (h1 : l1.length = n1) (h2 : l2.length = n2) (k1 : n1 ≤ 100000) (k2 : n2 ≤ 100000)
    (r1 : Row W W.heap.size A1 (l1.map (.int .u8))) (r2 : Row W W.heap.size A2 (l2.map (.int .u8)))
    (b1 : ∀ x ∈ l1, 0 ≤ x ∧ x ≤ 255) (b2 : ∀ x ∈ l2, 0 ≤ x ∧ x ≤ 255) :
    Calls Try.prog 91 #[.slice A1 n1 c1, .slice A2 n2 c2] W fun e w' => e = .returned (.int .u16 (chkZ (l1 ++ l2))) ∧ Below W.heap.size W w' := by
  obtain ⟨x, y⟩ := two (c1 := c1) (c2 := c2) h1 h2 r1 r2 b1 b2 (Below.refl _ _) 22
  have e : flat [⟨A1, c1, l1⟩, ⟨A2, c2, l2⟩] = l1 ++ l2 := by simp [flat]
  have hc := Go.Proofs.Ytndekicblbpkjaa.sumC.check_any (some ⟨W.heap.size, 0, none⟩) 2 2 [⟨A1, c1, l1⟩, ⟨A2, c2, l2⟩] (W.alloc (.cells #[.slice A1 n1 c1, .slice A2 n2 c2] 22)) (W.heap.size + 1) rfl (by omega) (by rw [e, List.length_append, h1, h2]; omega) x y
  rw [e] at hc
  have hbd := fo_bd (wsum (l1 ++ l2)) (wsum_bd _ (fun x hx => (List.mem_append.1 hx).elim (b1 x) (b2 x))).1
  have HC := Lib.hid hc
  have hz : chkZ (l1 ++ l2) = if 65535 - fo (wsum (l1 ++ l2)) = 0 then 65535 else 65535 - fo (wsum (l1 ++ l2)) := rfl
  have HZ := Lib.hid hz
  clear hc x y e r1 r2 b1 b2 h1 h2 hz
  generalize 65535 - fo (wsum (l1 ++ l2)) = s at *
  by_cases hs : s = 0
  · rw [if_pos hs] at HZ
    subst hs
    rw [HZ.out]
    go_enter Try.func91, Try.ntmps91
    go_wp2_with fail
    refine HC.out.mono ?_
    rintro e w' ⟨rfl, rfl⟩
    go_wp2_with fail
    go_ret
    exact ⟨rfl, (Below.refl _ _).alloc (Nat.le_refl _) _⟩
  · rw [if_neg hs] at HZ
    rw [HZ.out]
    have t1 : (s != 0) = true := by simpa using hs
    go_enter Try.func91, Try.ntmps91
    go_wp2_with fail
    refine HC.out.mono ?_
    rintro e w' ⟨rfl, rfl⟩
    go_wp2_with fail
    go_ret
    exact ⟨rfl, (Below.refl _ _).alloc (Nat.le_refl _) _⟩
def ub (sp dp : Int) (pl : List Int) (chk : Int) : List Int := allb 2 [sp, dp, ((8 + pl.length : Nat) : Int)] ++ pb chk 2 2 ++ pl
theorem ub_len (sp dp : Int) (pl : List Int) (chk : Int) : (ub sp dp pl chk).length = 8 + pl.length := by
  simp [ub, allb_len, pb_len]; omega
theorem splice_one (six pl : List Int) (h6 : six.length = 6) : splice (splice (List.replicate (8 + pl.length) (0 : Int)) 0 six) 8 pl = six ++ [0, 0] ++ pl := by
  have e : List.replicate (8 + pl.length) (0 : Int) = List.replicate 6 0 ++ ([0, 0] ++ List.replicate pl.length 0) := by
    rw [show 8 + pl.length = 6 + (2 + pl.length) by omega, ← List.replicate_append_replicate, ← List.replicate_append_replicate]
    rfl
  have s1 : splice (List.replicate (8 + pl.length) (0 : Int)) 0 six = six ++ [0, 0] ++ List.replicate pl.length 0 := by
    rw [e]
    unfold splice
    rw [h6, List.take_zero, List.nil_append, Nat.zero_add, List.drop_append, List.drop_of_length_le (by simp)]
    simp
  rw [s1]
  unfold splice
  rw [List.take_append, List.take_of_length_le (by simp [h6]), List.drop_append, List.drop_of_length_le (by simp [h6])]
  simp [h6]
theorem splice_two (six pl ck : List Int) (h6 : six.length = 6) (h2 : ck.length = 2) : splice (six ++ [0, 0] ++ pl) 6 ck = six ++ ck ++ pl := by
  unfold splice
  rw [List.append_assoc, List.take_append, List.take_of_length_le (by omega), List.drop_append, List.drop_of_length_le (by omega), h6, h2]
  simp
theorem ub_zero (sp dp : Int) (pl : List Int) : ub sp dp pl 0 = allb 2 [sp, dp, ((8 + pl.length : Nat) : Int)] ++ [0, 0] ++ pl := by
  unfold ub
  rw [show pb 0 2 2 = [0, 0] by decide]
theorem ub_in (sp dp : Int) (pl : List Int) (chk : Int) (hb : ∀ x ∈ pl, 0 ≤ x ∧ x ≤ 255) : ∀ x ∈ ub sp dp pl chk, 0 ≤ x ∧ x ≤ 255 := by
  intro x hx
  unfold ub at hx
  rw [List.mem_append, List.mem_append] at hx
  rcases hx with (hx | hx) | hx
  · exact allb_in 2 _ x hx
  · unfold pb at hx
    rw [List.mem_map] at hx
    obtain ⟨i, _, rfl⟩ := hx
    exact byteZ_in _ _
  · exact hb x hx
theorem bytes_wrong (sp dp : Int) (bare : Bool) (A A2 : Option Addr) (n c n2 c2 : Nat) (w : World) (h : ¬ ports sp dp) :
    Calls Try.prog 65 #[.agg #[.int .i64 sp, .int .i64 dp, .bool bare], .slice A n c, .slice A2 n2 c2] w fun e w' => e = .returned (.tuple #[.slice none 0 0, .int .i64 1]) ∧ Below w.heap.size w w' := by
  have H := Lib.hid (fun w => right_no sp dp bare w h)
  clear h
  go_enter Try.func65, Try.ntmps65
  go_wp2_with fail
  refine (H.out _).mono ?_
  rintro e w' ⟨rfl, rfl⟩
  go_wp2_with fail
  go_ret2
  exact ⟨rfl, ((Below.refl _ _).alloc (Nat.le_refl _) _).alloc (by simp) _⟩
def BPost (w : World) (n : Nat) (l : List Int) (e : Ending) (w' : World) : Prop :=
  ∃ v, e = .returned (.tuple #[v, .int .i64 0]) ∧ w'.ownsRow w.heap.size 5 1 v n (l.map (.int .u8)) ∧ Below w.heap.size w w'
end Go.Proofs.Ytndekicblbpkjaa.udpB
/- Layer 11: a datagram as bytes: the walks. -/
namespace Go.Proofs.Ytndekicblbpkjaa.udpC
open Go.ChangeShapes Go.WideShapes Go.ChangeAt Go.RowKit
open Go.Proofs.Ytndekicblbpkjaa.base Go.Proofs.Ytndekicblbpkjaa.octA Go.Proofs.Ytndekicblbpkjaa.octB Go.Proofs.Ytndekicblbpkjaa.octF Go.Proofs.Ytndekicblbpkjaa.rdrA Go.Proofs.Ytndekicblbpkjaa.udpA Go.Proofs.Ytndekicblbpkjaa.udpB
set_option linter.unusedVariables false

set_option maxRecDepth 100000 in
set_option maxHeartbeats 8000000 in
theorem bytes_eight_sum (sp dp : Int) (A A2 : Option Addr) (n c n2 c2 : Nat) (pl ps : List Int) (w : World) (h : ports sp dp) (hl : pl.length = n) (hn : n ≤ 65527) (hn8 : n = 0) (hr : Row w w.heap.size A (pl.map (.int .u8))) (hx : ∀ x ∈ pl, 0 ≤ x ∧ x ≤ 255)
    (pll : ps.length = n2) (pn : n2 ≤ 1000) (pr : Row w w.heap.size A2 (ps.map (.int .u8))) (px : ∀ x ∈ ps, 0 ≤ x ∧ x ≤ 255) :
    Calls Try.prog 65 #[.agg #[.int .i64 sp, .int .i64 dp, .bool false], .slice A n c, .slice A2 n2 c2] w (BPost w (8 + n) (ub sp dp pl (chkZ (ps ++ ub sp dp pl 0)))) := by
  have H := Lib.hid (fun w => right_yes sp dp false w h)
  obtain ⟨h1, h2, h3, h4⟩ := h
  obtain ⟨i0, hi0, hz0, hz1, hz2⟩ := info_parts info_u8
  obtain ⟨N, hN⟩ : ∃ N : Nat, N = 8 + n := ⟨_, rfl⟩
  have e8 : (8 : Int) + (n : Int) = (N : Int) := by omega
  have hmk := fun (W : World) => run_make_one (P := Try.prog) 22 5 i0 _ Try.underlying22 hi0 hz0 hz1 rfl .i64 .i64 (N : Int) (by omega) (by rw [hz2]; omega) (by omega) W
  have HL := Lib.hid hl
  have HR := Lib.hid hr
  have HX := Lib.hid hx
  have PL := Lib.hid pll
  have PR := Lib.hid pr
  have PX := Lib.hid px
  have HN := Lib.hid hN
  have N1 : N ≤ 65535 := by omega
  have N8 : 8 ≤ N := by omega
  have HN8 := Lib.hid (show N = 8 by omega)
  clear hn8
  rw [show BPost w (8 + n) = BPost w N by rw [hN]]
  clear hl hr hx pll pr px hi0 hz0 hz1 hz2 hN
  generalize hLL : ub sp dp pl (chkZ (ps ++ ub sp dp pl 0)) = L
  have HLL := Lib.hid hLL
  clear hLL
  have u1 : IntKind.u64.wrap sp = sp := by rw [IntKind.wrap_u64]; omega
  have u2 : IntKind.u64.wrap dp = dp := by rw [IntKind.wrap_u64]; omega
  have u3 : IntKind.u64.wrap (N : Int) = (N : Int) := by rw [IntKind.wrap_u64]; omega
  go_enter Try.func65, Try.ntmps65
  go_wp2_with fail
  refine (H.out _).mono ?_
  rintro e w' ⟨rfl, rfl⟩
  go_wp2_with fail
  clear hmk
  have z2 : ((w.alloc (.cells #[.int .i64 sp, .int .i64 dp, .bool false] 94)).alloc (.cells #[.int .i64 sp, .int .i64 dp, .bool false] 94)).heap.size = w.heap.size + 1 + 1 := by simp
  have z3 : (((w.alloc (.cells #[.int .i64 sp, .int .i64 dp, .bool false] 94)).alloc (.cells #[.int .i64 sp, .int .i64 dp, .bool false] 94)).alloc (.cells (zeros N (.int .u8 0)) 5)).heap.size = w.heap.size + 1 + 1 + 1 := by simp
  have b0 := (((Blk.new w 94 #[.int .i64 sp, .int .i64 dp, .bool false]).alloc (.cells #[.int .i64 sp, .int .i64 dp, .bool false] 94)).alloc (.cells (zeros N (.int .u8 0)) 5)).alloc (.cells #[.int .u64 sp, .int .u64 dp, .int .u64 N] 24)
  have b2 := (Blk.new ((w.alloc (.cells #[.int .i64 sp, .int .i64 dp, .bool false] 94)).alloc (.cells #[.int .i64 sp, .int .i64 dp, .bool false] 94)) 5 (zeros N (.int .u8 0))).alloc (.cells #[.int .u64 sp, .int .u64 dp, .int .u64 N] 24)
  have b3 := Blk.new (((w.alloc (.cells #[.int .i64 sp, .int .i64 dp, .bool false] 94)).alloc (.cells #[.int .i64 sp, .int .i64 dp, .bool false] 94)).alloc (.cells (zeros N (.int .u8 0)) 5)) 24 #[.int .u64 sp, .int .u64 dp, .int .u64 N]
  have bel := ((((Below.refl w.heap.size w).alloc (Nat.le_refl _) (.cells #[.int .i64 sp, .int .i64 dp, .bool false] 94)).alloc (by simp) (.cells #[.int .i64 sp, .int .i64 dp, .bool false] 94)).alloc (by simp; omega) (.cells (zeros N (.int .u8 0)) 5)).alloc (by simp; omega) (.cells #[.int .u64 sp, .int .u64 dp, .int .u64 N] 24)
  have zW : (((((w.alloc (.cells #[.int .i64 sp, .int .i64 dp, .bool false] 94)).alloc (.cells #[.int .i64 sp, .int .i64 dp, .bool false] 94)).alloc (.cells (zeros N (.int .u8 0)) 5)).alloc (.cells #[.int .u64 sp, .int .u64 dp, .int .u64 N] 24))).heap.size = w.heap.size + 1 + 1 + 1 + 1 := by simp
  rw [z2] at b2
  rw [z3] at b3
  clear z2 z3
  generalize ((((w.alloc (.cells #[.int .i64 sp, .int .i64 dp, .bool false] 94)).alloc (.cells #[.int .i64 sp, .int .i64 dp, .bool false] 94)).alloc (.cells (zeros N (.int .u8 0)) 5)).alloc (.cells #[.int .u64 sp, .int .u64 dp, .int .u64 N] 24)) = W at *
  have hrow : Row W W.heap.size (some ⟨w.heap.size + 1 + 1 + 1, 0, none⟩) ([sp, dp, (N : Int)].map (.int .u64)) := Go.Proofs.Ytndekicblbpkjaa.sumC.row_blk b3
  have hall := all_any (.slice none 0 0) 0 [] 2 (some ⟨w.heap.size + 1 + 1 + 1, 0, none⟩) 3 3 [sp, dp, (N : Int)] W.heap.size W.heap.size W W (World.ownsRow_nil _ _ _ _) (Nat.le_refl _) (by omega) (Below.refl _ _) (Nat.le_refl _) rfl hrow (by
    intro x hx
    simp only [List.mem_cons, List.not_mem_nil, or_false] at hx
    rcases hx with rfl | rfl | rfl <;> omega)
  have hs2 : hs 2 = 2 := by decide
  rw [hs2] at hall
  have h6 : (allb 2 [sp, dp, (N : Int)]).length = 6 := by rw [allb_len]; rfl
  have H6 := Lib.hid h6
  have HSIX := Lib.hid (show allb 2 [sp, dp, ((8 + n : Nat) : Int)] = allb 2 [sp, dp, (N : Int)] by rw [HN.out])
  have B0 := Lib.hid b0
  have B2 := Lib.hid b2
  have BEL := Lib.hid bel
  have ZW := Lib.hid zW
  have HALL := Lib.hid hall
  have zl : w.heap.size + 1 + 1 + 1 < W.heap.size := by omega
  clear b0 b2 b3 bel hrow hs2 h6 zW hall
  generalize allb 2 [sp, dp, (N : Int)] = six at *
  refine HALL.out.mono ?_
  rintro e w5 ⟨v5, rfl, hown5, hbel5, hs5⟩
  obtain ⟨A5, c5, rfl⟩ := own_slice hown5
  have hrow5 := own_row hown5
  rw [List.nil_append] at hrow5
  have HSRC := Lib.hid (src_of hrow5)
  have B05 := Lib.hid (B0.out.below hbel5 (by omega))
  have B25 := Lib.hid (B2.out.below hbel5 (by omega))
  have BEL5 := Lib.hid (BEL.out.trans (hbel5.mono (by omega)))
  clear hown5 hbel5 hrow5 HALL B0 B2 BEL
  have HX6 := Lib.hid (show (six.map (Value.int .u8)).length = 6 by rw [List.length_map, H6.out])
  have one : ∀ (l : List Int), ∀ u ∈ l.map (Value.int .u8), u.oneCell' = true := by
    intro l u hu
    rw [List.mem_map] at hu
    obtain ⟨x, _, rfl⟩ := hu
    rfl
  have ONE := Lib.hid one
  clear one
  clear u1 u2 u3 e8
  have HS0 := Lib.hid (show w.heap.size + 1 + 1 < w5.heap.size from B25.out.lt)
  have HMAP := Lib.hid (show ∀ (a b : List Int) (q : Nat), splice (a.map (Value.int .u8)) q (b.map (Value.int .u8)) = (splice a q b).map (Value.int .u8) from splice_map)
  have HFULL := Lib.hid (show splice (splice (List.replicate N (Value.int .u8 0)) 0 (six.map (Value.int .u8))) 8 (pl.map (Value.int .u8)) = (six ++ [0, 0] ++ pl).map (Value.int .u8) by
    have e : List.replicate N (Value.int .u8 0) = (List.replicate (8 + pl.length) (0 : Int)).map (Value.int .u8) := by rw [List.map_replicate, HL.out, HN.out]
    rw [e, splice_map, splice_map, splice_one _ _ H6.out])
  have HLX := Lib.hid (show (pl.map (Value.int .u8)).length = n by rw [List.length_map, HL.out])
  have HSPL := Lib.hid (src_of HR.out)
  have UBZ := Lib.hid (show ub sp dp pl 0 = six ++ [0, 0] ++ pl by rw [ub_zero, HL.out, HSIX.out])
  have UBC := Lib.hid (show ∀ ck, ub sp dp pl ck = six ++ pb ck 2 2 ++ pl from fun ck => by unfold ub; rw [HL.out, HSIX.out])
  have LZ := Lib.hid (show (six ++ [0, 0] ++ pl).length = N by rw [List.length_append, List.length_append, H6.out, HL.out, HN.out]; first | (simp; done) | (simp; omega))
  have hN8 := HN8.out
  subst hN8
  obtain rfl : n = 0 := by have := HN.out; omega
  go_wp2_with (first | (refine wpList_copy_splice (o := ⟨some 31, _, _, _, _, _⟩) rfl (.tmp 20) (.tmp 30) 22 22 rfl 5 Try.underlying22 info1 (some ⟨w.heap.size + 1 + 1, 0, none⟩) A5 8 8 (0 + 2 * 3) c5 rfl rfl (w.heap.size + 1 + 1) 0 (List.replicate 8 (.int .u8 0)) 5 B25.out (six.map (Value.int .u8)) (by rw [HX6.out]; show 6 = min _ _; omega) (fun h0 => ⟨rfl, HSRC.out h0⟩) (by rw [HX6.out, List.length_replicate]; omega) (ONE.out six) (w.heap.size + 1 + 1) w5 (Below.refl _ _) (Nat.le_refl _) ?_; intro w6 hg6 hb6; have B26 := hg6; have BEL6 := Lib.hid (BEL5.out.trans (hb6.mono (by omega))); have B06 := Lib.hid (B05.out.below hb6 (by omega)); have HSP6 := Lib.hid (src_of (HR.out.below BEL6.out)); clear hb6 hg6) | (refine wpList_copy_splice (o := ⟨some 35, _, _, _, _, _⟩) rfl (.tmp 33) (.tmp 34) 22 22 rfl 5 Try.underlying22 info1 (some ⟨w.heap.size + 1 + 1, 0, none⟩) A 0 0 0 c rfl rfl (w.heap.size + 1 + 1) 8 (splice (List.replicate 8 (.int .u8 0)) 0 (six.map (Value.int .u8))) 5 B26.out (pl.map (Value.int .u8)) (by rw [HLX.out]; show 0 = min _ _; have := HN.out; omega) (fun h0 => absurd h0 (by rw [HLX.out]; omega)) (by rw [HLX.out]; unfold splice; simp only [List.length_append, List.length_take, List.length_drop, List.length_replicate, HX6.out]; have := HN.out; omega) (ONE.out pl) (w.heap.size + 1 + 1) w6 (Below.refl _ _) (Nat.le_refl _) ?_; intro w7 hg7 hb7; have B27 := hg7; have BEL7 := Lib.hid (BEL6.out.trans (hb7.mono (by omega))); have B07 := Lib.hid (B06.out.below hb7 (by omega)); have bb : w7.cell? ⟨w.heap.size, 2, none⟩ = some (.bool false) := B07.out.cell 2; clear hb7 hg7))
  rw [HFULL.out] at B27
  have GL7 : w.heap.size + 1 + 1 < w7.heap.size := Blk.lt (t := 5) B27.out
  clear B05 B06 B25 B26 BEL5 BEL6
  have HLF := Lib.hid HLL.out
  rw [UBC.out, UBZ.out] at HLF
  have XZ := Lib.hid (show ∀ x ∈ six ++ [0, 0] ++ pl, 0 ≤ x ∧ x ≤ 255 by rw [← UBZ.out]; exact ub_in sp dp pl 0 HX.out)
  have CIN := chkZ_in (ps ++ (six ++ [0, 0] ++ pl)) (fun x hx => (List.mem_append.1 hx).elim (PX.out x) (XZ.out x))
  have PR7 := Lib.hid (PR.out.below (BEL7.out.drew))
  have BR7 := Lib.hid (show Row w7.drew w7.drew.heap.size (some ⟨w.heap.size + 1 + 1, 0, none⟩) ((six ++ [0, 0] ++ pl).map (.int .u8)) from by
    have := Go.Proofs.Ytndekicblbpkjaa.sumC.row_blk (show Blk w7 (w.heap.size + 1 + 1) 5 _ from B27.out).drew
    simpa using this)
  have HCK := Lib.hid (check_any A2 (some ⟨w.heap.size + 1 + 1, 0, none⟩) n2 8 c2 8 ps (six ++ [0, 0] ++ pl) w7.drew PL.out LZ.out (by omega) (by omega) (PR7.out.more BEL7.out.drew.size) BR7.out PX.out XZ.out)
  generalize hck : chkZ (ps ++ (six ++ [0, 0] ++ pl)) = ck at *
  have HCKV := Lib.hid hck
  clear hck
  have hs2 : hs 2 = 2 := by decide
  have HP := Lib.hid (fun (w1 w' : World) (hb : Below w1.heap.size w1 w') (hs' : w1.heap.size ≤ w'.heap.size) => put_any (.slice none 0 0) 0 [] ck 2 w1.heap.size w1.heap.size w1 w' (World.ownsRow_nil _ _ _ _) hs' (by omega) hb (Nat.le_refl _) CIN.1 (by omega))
  rw [hs2] at HP
  clear hs2
  have u4 : IntKind.u64.wrap ck = ck := by rw [IntKind.wrap_u64]; omega
  have HPB := Lib.hid (show ((pb ck 2 2).map (Value.int .u8)).length = 2 by rw [List.length_map, pb_len])
  have HFIN := Lib.hid (show splice ((six ++ [0, 0] ++ pl).map (Value.int .u8)) 6 ((pb ck 2 2).map (Value.int .u8)) = (six ++ pb ck 2 2 ++ pl).map (Value.int .u8) by rw [splice_map, splice_two _ _ _ H6.out (pb_len _ _ _)])
  have LF := Lib.hid (show (six ++ pb ck 2 2 ++ pl).length = 8 by rw [List.length_append, List.length_append, H6.out, HL.out, pb_len])
  clear CIN
  generalize pb ck 2 2 = two at *
  go_region_held3 (fun w' => Below w.heap.size w w') (first | exact HB10.out | exact HB9.out | exact HB8.out | exact BEL7.out.drew | exact BEL7.out) (first
    | (go_at_call 91; refine HCK.out.mono ?_; rintro e w8 ⟨rfl, hb8⟩; have HG8 := Lib.hid ((hb8.block _ (show w.heap.size + 1 + 1 < w7.drew.heap.size from GL7)).trans B27.out); have HB8 := Lib.hid (bel_call BEL7.out.drew hb8); have GL8 : w.heap.size + 1 + 1 < w8.heap.size := Nat.lt_of_lt_of_le GL7 hb8.size; clear hb8)
    | (go_at_call 45; refine (HP.out w8 w8 (Below.refl _ _) (Nat.le_refl _)).mono ?_; rintro e w9 ⟨v9, rfl, hown9, hb9, hs9⟩; obtain ⟨A9, c9, rfl⟩ := own_slice hown9; have HG9 := Lib.hid ((hb9.block _ GL8).trans HG8.out); have HB9 := Lib.hid (bel_call HB8.out hb9); have HSRC9 := Lib.hid (src_of (X := two.map (Value.int .u8)) (by have t := own_row hown9; rwa [List.nil_append] at t)); clear hown9 hb9 hs9)
    | (refine step_copy_splice rfl (.tmp 40) (.tmp 45) _ _ rfl 5 Try.underlying22 info1 (some ⟨w.heap.size + 1 + 1, 6, none⟩) A9 (8 - 6) (8 - 6) (0 + 2) c9 rfl rfl (w.heap.size + 1 + 1) 6 ((six ++ [0, 0] ++ pl).map (.int .u8)) 5 HG9.out (two.map (Value.int .u8)) (by rw [HPB.out]; show 2 = min _ _; omega) (fun h0 => ⟨rfl, HSRC9.out h0⟩) (by rw [HPB.out, List.length_map, LZ.out]; omega) (ONE.out two) w.heap.size w ⟨HB9.out.os, HB9.out.tape, HB9.out.output, HB9.out.size, HB9.out.block⟩ (by omega) ?_; intro w10 hg10 hb10; have HG10 := hg10; have HB10 := Lib.hid hb10; clear hb10 hg10))
  go_wp2_with fail
  go_ret2
  rw [HFIN.out] at HG10
  have HLG := HLF.out
  subst HLG
  refine ⟨_, rfl, ⟨by rw [List.length_map, LF.out, Nat.mul_one], .inr ⟨w.heap.size + 1 + 1, 8, _, rfl, by omega, HG10.out, Nat.le_refl _, by unfold maxLen; omega, ?_, ?_⟩⟩, HB10.out⟩
  · rw [List.size_toArray, List.length_map, LF.out, Nat.mul_one]
  · rw [List.toList_toArray, List.take_of_length_le (by rw [List.length_map, LF.out]; omega)]
set_option maxRecDepth 100000 in
set_option maxHeartbeats 8000000 in
theorem bytes_far_sum (sp dp : Int) (A A2 : Option Addr) (n c n2 c2 : Nat) (pl ps : List Int) (w : World) (h : ports sp dp) (hl : pl.length = n) (hn : n ≤ 65527) (hn8 : ¬ n = 0) (hr : Row w w.heap.size A (pl.map (.int .u8))) (hx : ∀ x ∈ pl, 0 ≤ x ∧ x ≤ 255)
    (pll : ps.length = n2) (pn : n2 ≤ 1000) (pr : Row w w.heap.size A2 (ps.map (.int .u8))) (px : ∀ x ∈ ps, 0 ≤ x ∧ x ≤ 255) :
    Calls Try.prog 65 #[.agg #[.int .i64 sp, .int .i64 dp, .bool false], .slice A n c, .slice A2 n2 c2] w (BPost w (8 + n) (ub sp dp pl (chkZ (ps ++ ub sp dp pl 0)))) := by
  have H := Lib.hid (fun w => right_yes sp dp false w h)
  obtain ⟨h1, h2, h3, h4⟩ := h
  obtain ⟨i0, hi0, hz0, hz1, hz2⟩ := info_parts info_u8
  obtain ⟨N, hN⟩ : ∃ N : Nat, N = 8 + n := ⟨_, rfl⟩
  have e8 : (8 : Int) + (n : Int) = (N : Int) := by omega
  have hmk := fun (W : World) => run_make_one (P := Try.prog) 22 5 i0 _ Try.underlying22 hi0 hz0 hz1 rfl .i64 .i64 (N : Int) (by omega) (by rw [hz2]; omega) (by omega) W
  have HL := Lib.hid hl
  have HR := Lib.hid hr
  have HX := Lib.hid hx
  have PL := Lib.hid pll
  have PR := Lib.hid pr
  have PX := Lib.hid px
  have HN := Lib.hid hN
  have N1 : N ≤ 65535 := by omega
  have N8 : 8 ≤ N := by omega
  have hN8 : ¬ N = 8 := by omega
  clear hn8
  rw [show BPost w (8 + n) = BPost w N by rw [hN]]
  clear hl hr hx pll pr px hi0 hz0 hz1 hz2 hN
  generalize hLL : ub sp dp pl (chkZ (ps ++ ub sp dp pl 0)) = L
  have HLL := Lib.hid hLL
  clear hLL
  have u1 : IntKind.u64.wrap sp = sp := by rw [IntKind.wrap_u64]; omega
  have u2 : IntKind.u64.wrap dp = dp := by rw [IntKind.wrap_u64]; omega
  have u3 : IntKind.u64.wrap (N : Int) = (N : Int) := by rw [IntKind.wrap_u64]; omega
  go_enter Try.func65, Try.ntmps65
  go_wp2_with fail
  refine (H.out _).mono ?_
  rintro e w' ⟨rfl, rfl⟩
  go_wp2_with fail
  clear hmk
  have z2 : ((w.alloc (.cells #[.int .i64 sp, .int .i64 dp, .bool false] 94)).alloc (.cells #[.int .i64 sp, .int .i64 dp, .bool false] 94)).heap.size = w.heap.size + 1 + 1 := by simp
  have z3 : (((w.alloc (.cells #[.int .i64 sp, .int .i64 dp, .bool false] 94)).alloc (.cells #[.int .i64 sp, .int .i64 dp, .bool false] 94)).alloc (.cells (zeros N (.int .u8 0)) 5)).heap.size = w.heap.size + 1 + 1 + 1 := by simp
  have b0 := (((Blk.new w 94 #[.int .i64 sp, .int .i64 dp, .bool false]).alloc (.cells #[.int .i64 sp, .int .i64 dp, .bool false] 94)).alloc (.cells (zeros N (.int .u8 0)) 5)).alloc (.cells #[.int .u64 sp, .int .u64 dp, .int .u64 N] 24)
  have b2 := (Blk.new ((w.alloc (.cells #[.int .i64 sp, .int .i64 dp, .bool false] 94)).alloc (.cells #[.int .i64 sp, .int .i64 dp, .bool false] 94)) 5 (zeros N (.int .u8 0))).alloc (.cells #[.int .u64 sp, .int .u64 dp, .int .u64 N] 24)
  have b3 := Blk.new (((w.alloc (.cells #[.int .i64 sp, .int .i64 dp, .bool false] 94)).alloc (.cells #[.int .i64 sp, .int .i64 dp, .bool false] 94)).alloc (.cells (zeros N (.int .u8 0)) 5)) 24 #[.int .u64 sp, .int .u64 dp, .int .u64 N]
  have bel := ((((Below.refl w.heap.size w).alloc (Nat.le_refl _) (.cells #[.int .i64 sp, .int .i64 dp, .bool false] 94)).alloc (by simp) (.cells #[.int .i64 sp, .int .i64 dp, .bool false] 94)).alloc (by simp; omega) (.cells (zeros N (.int .u8 0)) 5)).alloc (by simp; omega) (.cells #[.int .u64 sp, .int .u64 dp, .int .u64 N] 24)
  have zW : (((((w.alloc (.cells #[.int .i64 sp, .int .i64 dp, .bool false] 94)).alloc (.cells #[.int .i64 sp, .int .i64 dp, .bool false] 94)).alloc (.cells (zeros N (.int .u8 0)) 5)).alloc (.cells #[.int .u64 sp, .int .u64 dp, .int .u64 N] 24))).heap.size = w.heap.size + 1 + 1 + 1 + 1 := by simp
  rw [z2] at b2
  rw [z3] at b3
  clear z2 z3
  generalize ((((w.alloc (.cells #[.int .i64 sp, .int .i64 dp, .bool false] 94)).alloc (.cells #[.int .i64 sp, .int .i64 dp, .bool false] 94)).alloc (.cells (zeros N (.int .u8 0)) 5)).alloc (.cells #[.int .u64 sp, .int .u64 dp, .int .u64 N] 24)) = W at *
  have hrow : Row W W.heap.size (some ⟨w.heap.size + 1 + 1 + 1, 0, none⟩) ([sp, dp, (N : Int)].map (.int .u64)) := Go.Proofs.Ytndekicblbpkjaa.sumC.row_blk b3
  have hall := all_any (.slice none 0 0) 0 [] 2 (some ⟨w.heap.size + 1 + 1 + 1, 0, none⟩) 3 3 [sp, dp, (N : Int)] W.heap.size W.heap.size W W (World.ownsRow_nil _ _ _ _) (Nat.le_refl _) (by omega) (Below.refl _ _) (Nat.le_refl _) rfl hrow (by
    intro x hx
    simp only [List.mem_cons, List.not_mem_nil, or_false] at hx
    rcases hx with rfl | rfl | rfl <;> omega)
  have hs2 : hs 2 = 2 := by decide
  rw [hs2] at hall
  have h6 : (allb 2 [sp, dp, (N : Int)]).length = 6 := by rw [allb_len]; rfl
  have H6 := Lib.hid h6
  have HSIX := Lib.hid (show allb 2 [sp, dp, ((8 + n : Nat) : Int)] = allb 2 [sp, dp, (N : Int)] by rw [HN.out])
  have B0 := Lib.hid b0
  have B2 := Lib.hid b2
  have BEL := Lib.hid bel
  have ZW := Lib.hid zW
  have HALL := Lib.hid hall
  have zl : w.heap.size + 1 + 1 + 1 < W.heap.size := by omega
  clear b0 b2 b3 bel hrow hs2 h6 zW hall
  generalize allb 2 [sp, dp, (N : Int)] = six at *
  refine HALL.out.mono ?_
  rintro e w5 ⟨v5, rfl, hown5, hbel5, hs5⟩
  obtain ⟨A5, c5, rfl⟩ := own_slice hown5
  have hrow5 := own_row hown5
  rw [List.nil_append] at hrow5
  have HSRC := Lib.hid (src_of hrow5)
  have B05 := Lib.hid (B0.out.below hbel5 (by omega))
  have B25 := Lib.hid (B2.out.below hbel5 (by omega))
  have BEL5 := Lib.hid (BEL.out.trans (hbel5.mono (by omega)))
  clear hown5 hbel5 hrow5 HALL B0 B2 BEL
  have HX6 := Lib.hid (show (six.map (Value.int .u8)).length = 6 by rw [List.length_map, H6.out])
  have one : ∀ (l : List Int), ∀ u ∈ l.map (Value.int .u8), u.oneCell' = true := by
    intro l u hu
    rw [List.mem_map] at hu
    obtain ⟨x, _, rfl⟩ := hu
    rfl
  have ONE := Lib.hid one
  clear one
  clear u1 u2 u3 e8
  have HS0 := Lib.hid (show w.heap.size + 1 + 1 < w5.heap.size from B25.out.lt)
  have HMAP := Lib.hid (show ∀ (a b : List Int) (q : Nat), splice (a.map (Value.int .u8)) q (b.map (Value.int .u8)) = (splice a q b).map (Value.int .u8) from splice_map)
  have HFULL := Lib.hid (show splice (splice (List.replicate N (Value.int .u8 0)) 0 (six.map (Value.int .u8))) 8 (pl.map (Value.int .u8)) = (six ++ [0, 0] ++ pl).map (Value.int .u8) by
    have e : List.replicate N (Value.int .u8 0) = (List.replicate (8 + pl.length) (0 : Int)).map (Value.int .u8) := by rw [List.map_replicate, HL.out, HN.out]
    rw [e, splice_map, splice_map, splice_one _ _ H6.out])
  have HLX := Lib.hid (show (pl.map (Value.int .u8)).length = n by rw [List.length_map, HL.out])
  have HSPL := Lib.hid (src_of HR.out)
  have UBZ := Lib.hid (show ub sp dp pl 0 = six ++ [0, 0] ++ pl by rw [ub_zero, HL.out, HSIX.out])
  have UBC := Lib.hid (show ∀ ck, ub sp dp pl ck = six ++ pb ck 2 2 ++ pl from fun ck => by unfold ub; rw [HL.out, HSIX.out])
  have LZ := Lib.hid (show (six ++ [0, 0] ++ pl).length = N by rw [List.length_append, List.length_append, H6.out, HL.out, HN.out]; first | (simp; done) | (simp; omega))
  go_wp2_with (first | (refine wpList_copy_splice (o := ⟨some 31, _, _, _, _, _⟩) rfl (.tmp 20) (.tmp 30) 22 22 rfl 5 Try.underlying22 info1 (some ⟨w.heap.size + 1 + 1, 0, none⟩) A5 N N (0 + 2 * 3) c5 rfl rfl (w.heap.size + 1 + 1) 0 (List.replicate N (.int .u8 0)) 5 B25.out (six.map (Value.int .u8)) (by rw [HX6.out]; show 6 = min _ _; omega) (fun h0 => ⟨rfl, HSRC.out h0⟩) (by rw [HX6.out, List.length_replicate]; omega) (ONE.out six) (w.heap.size + 1 + 1) w5 (Below.refl _ _) (Nat.le_refl _) ?_; intro w6 hg6 hb6; have B26 := hg6; have BEL6 := Lib.hid (BEL5.out.trans (hb6.mono (by omega))); have B06 := Lib.hid (B05.out.below hb6 (by omega)); have HSP6 := Lib.hid (src_of (HR.out.below BEL6.out)); clear hb6 hg6) | (refine wpList_copy_splice (o := ⟨some 35, _, _, _, _, _⟩) rfl (.tmp 33) (.tmp 34) 22 22 rfl 5 Try.underlying22 info1 (some ⟨w.heap.size + 1 + 1, 8, none⟩) A (N - 8) (N - 8) n c rfl rfl (w.heap.size + 1 + 1) 8 (splice (List.replicate N (.int .u8 0)) 0 (six.map (Value.int .u8))) 5 B26.out (pl.map (Value.int .u8)) (by rw [HLX.out]; show n = min _ _; have := HN.out; omega) (fun h0 => ⟨rfl, HSP6.out h0⟩) (by rw [HLX.out]; unfold splice; simp only [List.length_append, List.length_take, List.length_drop, List.length_replicate, HX6.out]; have := HN.out; omega) (ONE.out pl) (w.heap.size + 1 + 1) w6 (Below.refl _ _) (Nat.le_refl _) ?_; intro w7 hg7 hb7; have B27 := hg7; have BEL7 := Lib.hid (BEL6.out.trans (hb7.mono (by omega))); have B07 := Lib.hid (B06.out.below hb7 (by omega)); have bb : w7.cell? ⟨w.heap.size, 2, none⟩ = some (.bool false) := B07.out.cell 2; clear hb7 hg7))
  rw [HFULL.out] at B27
  have GL7 : w.heap.size + 1 + 1 < w7.heap.size := Blk.lt (t := 5) B27.out
  clear B05 B06 B25 B26 BEL5 BEL6
  have HLF := Lib.hid HLL.out
  rw [UBC.out, UBZ.out] at HLF
  have XZ := Lib.hid (show ∀ x ∈ six ++ [0, 0] ++ pl, 0 ≤ x ∧ x ≤ 255 by rw [← UBZ.out]; exact ub_in sp dp pl 0 HX.out)
  have CIN := chkZ_in (ps ++ (six ++ [0, 0] ++ pl)) (fun x hx => (List.mem_append.1 hx).elim (PX.out x) (XZ.out x))
  have PR7 := Lib.hid (PR.out.below (BEL7.out.drew))
  have BR7 := Lib.hid (show Row w7.drew w7.drew.heap.size (some ⟨w.heap.size + 1 + 1, 0, none⟩) ((six ++ [0, 0] ++ pl).map (.int .u8)) from by
    have := Go.Proofs.Ytndekicblbpkjaa.sumC.row_blk (show Blk w7 (w.heap.size + 1 + 1) 5 _ from B27.out).drew
    simpa using this)
  have HCK := Lib.hid (check_any A2 (some ⟨w.heap.size + 1 + 1, 0, none⟩) n2 N c2 N ps (six ++ [0, 0] ++ pl) w7.drew PL.out LZ.out (by omega) (by omega) (PR7.out.more BEL7.out.drew.size) BR7.out PX.out XZ.out)
  generalize hck : chkZ (ps ++ (six ++ [0, 0] ++ pl)) = ck at *
  have HCKV := Lib.hid hck
  clear hck
  have hs2 : hs 2 = 2 := by decide
  have HP := Lib.hid (fun (w1 w' : World) (hb : Below w1.heap.size w1 w') (hs' : w1.heap.size ≤ w'.heap.size) => put_any (.slice none 0 0) 0 [] ck 2 w1.heap.size w1.heap.size w1 w' (World.ownsRow_nil _ _ _ _) hs' (by omega) hb (Nat.le_refl _) CIN.1 (by omega))
  rw [hs2] at HP
  clear hs2
  have u4 : IntKind.u64.wrap ck = ck := by rw [IntKind.wrap_u64]; omega
  have HPB := Lib.hid (show ((pb ck 2 2).map (Value.int .u8)).length = 2 by rw [List.length_map, pb_len])
  have HFIN := Lib.hid (show splice ((six ++ [0, 0] ++ pl).map (Value.int .u8)) 6 ((pb ck 2 2).map (Value.int .u8)) = (six ++ pb ck 2 2 ++ pl).map (Value.int .u8) by rw [splice_map, splice_two _ _ _ H6.out (pb_len _ _ _)])
  have LF := Lib.hid (show (six ++ pb ck 2 2 ++ pl).length = N by rw [List.length_append, List.length_append, H6.out, HL.out, HN.out, pb_len]; first | done | omega)
  clear CIN
  generalize pb ck 2 2 = two at *
  have x6 : (6 : Int) ≤ (N : Int) := by omega
  have x7 : 6 ≤ N := by omega
  have x8 : ¬ N = 6 := by omega
  go_region_held3 (fun w' => Below w.heap.size w w') (first | exact HB10.out | exact HB9.out | exact HB8.out | exact BEL7.out.drew | exact BEL7.out) (first
    | (go_at_call 91; refine HCK.out.mono ?_; rintro e w8 ⟨rfl, hb8⟩; have HG8 := Lib.hid ((hb8.block _ (show w.heap.size + 1 + 1 < w7.drew.heap.size from GL7)).trans B27.out); have HB8 := Lib.hid (bel_call BEL7.out.drew hb8); have GL8 : w.heap.size + 1 + 1 < w8.heap.size := Nat.lt_of_lt_of_le GL7 hb8.size; clear hb8)
    | (go_at_call 45; refine (HP.out w8 w8 (Below.refl _ _) (Nat.le_refl _)).mono ?_; rintro e w9 ⟨v9, rfl, hown9, hb9, hs9⟩; obtain ⟨A9, c9, rfl⟩ := own_slice hown9; have HG9 := Lib.hid ((hb9.block _ GL8).trans HG8.out); have HB9 := Lib.hid (bel_call HB8.out hb9); have HSRC9 := Lib.hid (src_of (X := two.map (Value.int .u8)) (by have t := own_row hown9; rwa [List.nil_append] at t)); clear hown9 hb9 hs9)
    | (refine step_copy_splice rfl (.tmp 40) (.tmp 45) _ _ rfl 5 Try.underlying22 info1 (some ⟨w.heap.size + 1 + 1, 6, none⟩) A9 (N - 6) (N - 6) (0 + 2) c9 rfl rfl (w.heap.size + 1 + 1) 6 ((six ++ [0, 0] ++ pl).map (.int .u8)) 5 HG9.out (two.map (Value.int .u8)) (by rw [HPB.out]; show 2 = min _ _; omega) (fun h0 => ⟨rfl, HSRC9.out h0⟩) (by rw [HPB.out, List.length_map, LZ.out]; omega) (ONE.out two) w.heap.size w ⟨HB9.out.os, HB9.out.tape, HB9.out.output, HB9.out.size, HB9.out.block⟩ (by omega) ?_; intro w10 hg10 hb10; have HG10 := hg10; have HB10 := Lib.hid hb10; clear hb10 hg10))
  go_wp2_with fail
  go_ret2
  rw [HFIN.out] at HG10
  have HLG := HLF.out
  subst HLG
  refine ⟨_, rfl, ⟨by rw [List.length_map, LF.out, Nat.mul_one], .inr ⟨w.heap.size + 1 + 1, N, _, rfl, by omega, HG10.out, Nat.le_refl _, by unfold maxLen; omega, ?_, ?_⟩⟩, HB10.out⟩
  · rw [List.size_toArray, List.length_map, LF.out, Nat.mul_one]
  · rw [List.toList_toArray, List.take_of_length_le (by rw [List.length_map, LF.out]; omega)]
end Go.Proofs.Ytndekicblbpkjaa.udpC
