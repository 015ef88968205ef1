/- 3 texts in one. -/
import Derived.Laws.CopyRow
import Derived.Deep.RegionHeld3
import Derived.Test.YtodckfgfbcnkoaaTa04
import Derived.Test.YtodckfgfbcnkoaaTa22
import Derived.Test.YtodckfgfbcnkoaaTa26
/- Layer 14: a time to live that is one less. -/
namespace Go.Proofs.Ytodckfgfbcnkoaa.tunH
open Go.ChangeShapes Go.WideShapes Go.ChangeAt Go.RowKit
open Go.Proofs.Ytodckfgfbcnkoaa.base Go.Proofs.Ytodckfgfbcnkoaa.octA Go.Proofs.Ytodckfgfbcnkoaa.octB Go.Proofs.Ytodckfgfbcnkoaa.octF Go.Proofs.Ytodckfgfbcnkoaa.rdrA Go.Proofs.Ytodckfgfbcnkoaa.rdrG Go.Proofs.Ytodckfgfbcnkoaa.sumB Go.Proofs.Ytodckfgfbcnkoaa.sixW Go.Proofs.Ytodckfgfbcnkoaa.sixM Go.Proofs.Ytodckfgfbcnkoaa.pktA Go.Proofs.Ytodckfgfbcnkoaa.pktB Go.Proofs.Ytodckfgfbcnkoaa.pktC Go.Proofs.Ytodckfgfbcnkoaa.pktD Go.Proofs.Ytodckfgfbcnkoaa.pktE Go.Proofs.Ytodckfgfbcnkoaa.sixE Go.Proofs.Ytodckfgfbcnkoaa.sixF Go.Proofs.Ytodckfgfbcnkoaa.pktL
set_option linter.unusedVariables false

theorem copy_run (W : World) (g o d dc : Nat) (xs ys : List Int) (A : Option Addr) (n c k : Nat) (hg : Blk W g 5 (xs.map (Value.int .u8)).toArray) (hs : Sl W A n c ys) (hk : k = min n d) (h0 : 0 < k) (hfit : o + k ≤ xs.length) :
    ∃ W', (Builtin.copy_ #[22, 22] 3 #[.slice (some ⟨g, o, none⟩) d dc, .slice A n c]).run Try.prog W = .ok (.int .i64 k) W' ∧ Blk W' g 5 ((splice xs o (ys.take k)).map (Value.int .u8)).toArray ∧ OnlyG g W W' := by
  have hl := hs.len
  obtain ⟨b, off, rfl, hb, hc⟩ := lies_of hs.row (by omega)
  have hlk : ((ys.take k).map (Value.int .u8)).length = k := by rw [List.length_map, List.length_take]; omega
  have h := run_copy_row (P := Try.prog) W 22 22 3 5 g o d dc ⟨b, off, none⟩ n c (xs.map (Value.int .u8)).toArray 5 ((ys.take k).map (Value.int .u8)) Try.underlying22 octF.info1 hg (by rw [hlk]; exact hk) (fun j v hv => by
    rw [Addr.add_lit, List.getElem?_map, List.getElem?_take] at *
    split at hv
    · rename_i hj
      rw [hc j (by omega)]
      rw [List.getD_eq_getElem?_getD, List.getElem?_eq_getElem (by omega)]
      rw [List.getElem?_eq_getElem (by omega)] at hv
      exact hv
    · cases hv) (by rw [hlk, List.size_toArray, List.length_map]; exact hfit) (by
    intro v hv
    rw [List.mem_map] at hv
    obtain ⟨x, _, rfl⟩ := hv
    rfl)
  rw [hlk] at h
  have e : ((xs.map (Value.int .u8)).toArray.toList.take o ++ (ys.take k).map (Value.int .u8) ++ (xs.map (Value.int .u8)).toArray.toList.drop (o + k)) = (splice xs o (ys.take k)).map (Value.int .u8) := by
    have hl2 : (ys.take k).length = k := by rw [List.length_take]; omega
    unfold splice
    simp [List.map_take, List.map_drop, hl2]
  rw [e] at h
  exact ⟨_, h, blkRow hg _, onlyRow _⟩
theorem Sl_take {w : World} {A : Option Addr} {n c : Nat} {l : List Int} (h : Sl w A n c l) (k : Nat) (hk : k ≤ n) : Sl w A k c (l.take k) := by
  have hl := h.len
  have hnc := h.nc
  refine ⟨by rw [List.length_take]; omega, ?_, by omega, h.mx, h.nil, h.u8.take k⟩
  have := h.row.take k
  rwa [← List.map_take] at this
theorem Sl_blk {w : World} {g n : Nat} {xs : List Int} (h : Blk w g 5 (xs.map (Value.int .u8)).toArray) (hl : xs.length = n) (hu : U8 xs) (hn : n ≤ 1000000) : Sl w (some ⟨g, 0, none⟩) n n xs := by
  refine ⟨hl, ?_, Nat.le_refl _, by omega, (fun h => by cases h), hu⟩
  have := Go.Proofs.Ytodckfgfbcnkoaa.sumC.row_blk h
  simpa using this
theorem splice_full (xs ys : List Int) (h : xs.length = ys.length) : splice xs 0 ys = ys := by
  unfold splice
  rw [List.take_zero, List.nil_append, Nat.zero_add, ← h, List.drop_length, List.append_nil]
set_option maxHeartbeats 4000000 in
set_option maxRecDepth 100000 in
theorem less_4e (A : Option Addr) (n c : Nat) (mf : Bool) (fr ttl pr sl dl : Int) (no : Nat) (r : List Int) (e : Int) (he : e ≠ 0) (w : World)
    (HC : Hid (∀ V, Below w.heap.size w V → Calls Try.prog 21 #[.slice A n c] V fun o w' => Below V.heap.size V w' ∧ ∃ (tos id : Int) (df : Bool) (AO : Option Addr) (co : Nat) (AR : Option Addr) (cr : Nat), o = .returned (.tuple #[.agg #[.int .i64 tos, .int .i64 id, .bool df, .bool mf, .int .i64 fr, .int .i64 ttl, .int .i64 pr, .bool false, .int .u64 0, .int .u64 sl, .bool false, .int .u64 0, .int .u64 dl, .slice AO no co], .slice AR r.length cr, .int .i64 e]) ∧ Sl w' AR r.length cr r)) :
    Calls Try.prog 31 #[.slice A n c] w (MkP e [] w) := by
  obtain ⟨m, hm0⟩ : ∃ m, m = r.length := ⟨_, rfl⟩
  rw [← hm0] at HC
  clear hm0
  have te : (e != 0) = true := by simpa using he
  clear he
  go_enter Try.func31, Try.ntmps31
  go_wp2_with fail
  refine (HC.out _ (Below.refl _ _)).mono ?_
  rintro o w2 ⟨hb2, tos, id, df, AO, co, AR, cr, rfl, hsl⟩
  obtain ⟨w3, hw3⟩ : ∃ w3, w3 = w2.alloc (.cells #[.int .i64 tos, .int .i64 id, .bool df, .bool mf, .int .i64 fr, .int .i64 ttl, .int .i64 pr, .bool false, .int .u64 0, .int .u64 sl, .bool false, .int .u64 0, .int .u64 dl, .slice AO no co] 53) := ⟨_, rfl⟩
  obtain ⟨h, hh⟩ : ∃ h, h = w2.heap.size := ⟨_, rfl⟩
  have EH := Lib.hid hh
  have E3 := Lib.hid hw3
  have B23 := Lib.hid (show Below w2.heap.size w2 w3 from by rw [hw3]; exact (Below.refl _ _).alloc (Nat.le_refl _) _)
  have KH3 := Lib.hid (show Blk w3 h 53 #[.int .i64 tos, .int .i64 id, .bool df, .bool mf, .int .i64 fr, .int .i64 ttl, .int .i64 pr, .bool false, .int .u64 0, .int .u64 sl, .bool false, .int .u64 0, .int .u64 dl, .slice AO no co] from by rw [hw3, hh]; exact Blk.new w2 _ _)
  have B3 := Lib.hid (hb2.trans (B23.out.mono hb2.size))
  clear hw3 hb2 hh hsl
  go_upto_region 2 with fail
  rw [← E3.out, ← EH.out]
  have k0 := KH3.out.cell 0
  have k1 := KH3.out.cell 1
  have k2 := KH3.out.cell 2
  have k3 := KH3.out.cell 3
  have k4 := KH3.out.cell 4
  have k5 := KH3.out.cell 5
  have k6 := KH3.out.cell 6
  have k7 := KH3.out.cell 7
  have k8 := KH3.out.cell 8
  have k9 := KH3.out.cell 9
  have k10 := KH3.out.cell 10
  have k11 := KH3.out.cell 11
  have k12 := KH3.out.cell 12
  have k13 := KH3.out.cell 13
  go_wp2_with fail
  go_ret2
  exact MkP.nil_ B3.out
set_option maxHeartbeats 4000000 in
set_option maxRecDepth 100000 in
theorem less_4t (A : Option Addr) (n c : Nat) (mf : Bool) (fr ttl pr sl dl : Int) (no : Nat) (r : List Int) (ht : ttl < 2) (w : World)
    (HC : Hid (∀ V, Below w.heap.size w V → Calls Try.prog 21 #[.slice A n c] V fun o w' => Below V.heap.size V w' ∧ ∃ (tos id : Int) (df : Bool) (AO : Option Addr) (co : Nat) (AR : Option Addr) (cr : Nat), o = .returned (.tuple #[.agg #[.int .i64 tos, .int .i64 id, .bool df, .bool mf, .int .i64 fr, .int .i64 ttl, .int .i64 pr, .bool false, .int .u64 0, .int .u64 sl, .bool false, .int .u64 0, .int .u64 dl, .slice AO no co], .slice AR r.length cr, .int .i64 0]) ∧ Sl w' AR r.length cr r)) :
    Calls Try.prog 31 #[.slice A n c] w (MkP 20 [] w) := by
  obtain ⟨m, hm0⟩ : ∃ m, m = r.length := ⟨_, rfl⟩
  rw [← hm0] at HC
  clear hm0
  have tt : decide (ttl < 2) = true := decide_eq_true ht
  clear ht
  go_enter Try.func31, Try.ntmps31
  go_wp2_with fail
  refine (HC.out _ (Below.refl _ _)).mono ?_
  rintro o w2 ⟨hb2, tos, id, df, AO, co, AR, cr, rfl, hsl⟩
  obtain ⟨w3, hw3⟩ : ∃ w3, w3 = w2.alloc (.cells #[.int .i64 tos, .int .i64 id, .bool df, .bool mf, .int .i64 fr, .int .i64 ttl, .int .i64 pr, .bool false, .int .u64 0, .int .u64 sl, .bool false, .int .u64 0, .int .u64 dl, .slice AO no co] 53) := ⟨_, rfl⟩
  obtain ⟨h, hh⟩ : ∃ h, h = w2.heap.size := ⟨_, rfl⟩
  have EH := Lib.hid hh
  have E3 := Lib.hid hw3
  have B23 := Lib.hid (show Below w2.heap.size w2 w3 from by rw [hw3]; exact (Below.refl _ _).alloc (Nat.le_refl _) _)
  have KH3 := Lib.hid (show Blk w3 h 53 #[.int .i64 tos, .int .i64 id, .bool df, .bool mf, .int .i64 fr, .int .i64 ttl, .int .i64 pr, .bool false, .int .u64 0, .int .u64 sl, .bool false, .int .u64 0, .int .u64 dl, .slice AO no co] from by rw [hw3, hh]; exact Blk.new w2 _ _)
  have B3 := Lib.hid (hb2.trans (B23.out.mono hb2.size))
  clear hw3 hb2 hh hsl
  go_upto_region 2 with fail
  rw [← E3.out, ← EH.out]
  have k0 := KH3.out.cell 0
  have k1 := KH3.out.cell 1
  have k2 := KH3.out.cell 2
  have k3 := KH3.out.cell 3
  have k4 := KH3.out.cell 4
  have k5 := KH3.out.cell 5
  have k6 := KH3.out.cell 6
  have k7 := KH3.out.cell 7
  have k8 := KH3.out.cell 8
  have k9 := KH3.out.cell 9
  have k10 := KH3.out.cell 10
  have k11 := KH3.out.cell 11
  have k12 := KH3.out.cell 12
  have k13 := KH3.out.cell 13
  go_wp2_with fail
  go_ret2
  exact MkP.nil_ B3.out
set_option maxHeartbeats 4000000 in
set_option maxRecDepth 100000 in
theorem less_4g (A : Option Addr) (n c : Nat) (mf : Bool) (fr ttl pr sl dl : Int) (no : Nat) (r : List Int) (ht : 2 ≤ ttl) (l X : List Int) (f q C : Int) (N : Nat) (hN : N = 20 + no + r.length) (hNn : N ≤ n) (hN20 : 20 ≤ N) (hn : n ≤ 1000) (f0 : 256 ≤ f) (f9 : f ≤ 65535) (q0 : 0 ≤ q) (q9 : q ≤ 65535) (C0 : 0 ≤ C) (C9 : C ≤ 65535) (hX : splice (l.take N) 8 (allb 2 [f - 256, C]) = X) (hXu : U8 X) (hXl : X.length = N) (w : World) (hs : Sl w A n c l)
    (HC : Hid (∀ V, Below w.heap.size w V → Calls Try.prog 21 #[.slice A n c] V fun o w' => Below V.heap.size V w' ∧ ∃ (tos id : Int) (df : Bool) (AO : Option Addr) (co : Nat) (AR : Option Addr) (cr : Nat), o = .returned (.tuple #[.agg #[.int .i64 tos, .int .i64 id, .bool df, .bool mf, .int .i64 fr, .int .i64 ttl, .int .i64 pr, .bool false, .int .u64 0, .int .u64 sl, .bool false, .int .u64 0, .int .u64 dl, .slice AO no co], .slice AR r.length cr, .int .i64 0]) ∧ Sl w' AR r.length cr r))
    (HA8 : Hid (∀ V, Below w.heap.size w V → Calls Try.prog 43 #[.slice A n c, .int .i64 8, .int .i64 2] V fun o w' => o = .returned (.int .u64 f) ∧ V = w'))
    (HA10 : Hid (∀ V, Below w.heap.size w V → Calls Try.prog 43 #[.slice A n c, .int .i64 10, .int .i64 2] V fun o w' => o = .returned (.int .u64 q) ∧ V = w'))
    (HT : Hid (∀ V, Calls Try.prog 64 #[.int .u16 q, .int .u16 f, .int .u16 (f - 256)] V fun o w' => o = .returned (.int .u16 C) ∧ V = w')) :
    Calls Try.prog 31 #[.slice A n c] w (MkP 0 X w) := by
  obtain ⟨m, hm0⟩ : ∃ m, m = r.length := ⟨_, rfl⟩
  rw [← hm0] at HC hN
  clear hm0
  have tt : decide (ttl < 2) = false := decide_eq_false (by omega)
  clear ht
  obtain ⟨i0, hi0, hz0, hz1, hz2⟩ := info_parts info_u8
  have hmk := fun (W : World) => run_make_one (P := Try.prog) 22 5 i0 _ Try.underlying22 hi0 hz0 hz1 rfl .i64 .i64 (N : Int) (by omega) (by rw [hz2]; omega) (by omega) W
  have wN : IntKind.i64.wrap (20 + (no : Int) + (m : Int)) = (N : Int) := by rw [IntWalk.i64_in _ (by omega)]; omega
  have wf : IntKind.u16.wrap f = f := by rw [IntKind.wrap_u16]; omega
  have wt : IntKind.u16.wrap (f - 256) = f - 256 := by rw [IntKind.wrap_u16]; omega
  have wq : IntKind.u16.wrap q = q := by rw [IntKind.wrap_u16]; omega
  have wt6 : IntKind.u64.wrap (f - 256) = f - 256 := by rw [IntKind.wrap_u64]; omega
  have wC6 : IntKind.u64.wrap C = C := by rw [IntKind.wrap_u64]; omega
  have HLN := Lib.hid (fun (tos id : Int) (df : Bool) (AO : Option Addr) (co : Nat) (V : World) => len4_any tos id df mf fr ttl pr sl dl AO no co V (by omega))
  have HF := Lib.hid (show 0 ≤ f - 256 ∧ f - 256 < 18446744073709551616 ∧ 0 ≤ C ∧ C < 18446744073709551616 from by omega)
  have HNN := Lib.hid hNn
  have HN20 := Lib.hid hN20
  have HNM := Lib.hid (show N ≤ 1000 from by omega)
  have HX := Lib.hid hX
  have HXU := Lib.hid hXu
  have HXL := Lib.hid hXl
  have HS := Lib.hid hs
  have HM4 := Lib.hid (show 4 = min 4 (N - 8) from by omega)
  have HT12 := Lib.hid (show 8 + 4 ≤ (l.take N).length from by have := hs.len; rw [List.length_take]; omega)
  have HZL := Lib.hid (show (zeros N (Value.int .u8 0)) = ((List.replicate N (0 : Int)).map (Value.int .u8)).toArray from by simp [zeros])
  have n8 : ¬ N = 8 := by omega
  have j8 : 8 ≤ N := by omega
  have j8i : (8 : Int) ≤ (N : Int) := by omega
  clear hi0 hz0 hz1 hz2 hN hNn hN20 hX hXu hXl hs f0 f9 q0 q9 C0 C9 hn
  go_enter Try.func31, Try.ntmps31
  go_wp2_with fail
  refine (HC.out _ (Below.refl _ _)).mono ?_
  rintro o w2 ⟨hb2, tos, id, df, AO, co, AR, cr, rfl, hsl⟩
  obtain ⟨w3, hw3⟩ : ∃ w3, w3 = w2.alloc (.cells #[.int .i64 tos, .int .i64 id, .bool df, .bool mf, .int .i64 fr, .int .i64 ttl, .int .i64 pr, .bool false, .int .u64 0, .int .u64 sl, .bool false, .int .u64 0, .int .u64 dl, .slice AO no co] 53) := ⟨_, rfl⟩
  obtain ⟨h, hh⟩ : ∃ h, h = w2.heap.size := ⟨_, rfl⟩
  have EH := Lib.hid hh
  have E3 := Lib.hid hw3
  have B23 := Lib.hid (show Below w2.heap.size w2 w3 from by rw [hw3]; exact (Below.refl _ _).alloc (Nat.le_refl _) _)
  have KH3 := Lib.hid (show Blk w3 h 53 #[.int .i64 tos, .int .i64 id, .bool df, .bool mf, .int .i64 fr, .int .i64 ttl, .int .i64 pr, .bool false, .int .u64 0, .int .u64 sl, .bool false, .int .u64 0, .int .u64 dl, .slice AO no co] from by rw [hw3, hh]; exact Blk.new w2 _ _)
  have B3 := Lib.hid (hb2.trans (B23.out.mono hb2.size))
  clear hw3 hb2 hh hsl
  go_upto_region 2 with fail
  rw [← E3.out, ← EH.out]
  have k0 := KH3.out.cell 0
  have k1 := KH3.out.cell 1
  have k2 := KH3.out.cell 2
  have k3 := KH3.out.cell 3
  have k4 := KH3.out.cell 4
  have k5 := KH3.out.cell 5
  have k6 := KH3.out.cell 6
  have k7 := KH3.out.cell 7
  have k8 := KH3.out.cell 8
  have k9 := KH3.out.cell 9
  have k10 := KH3.out.cell 10
  have k11 := KH3.out.cell 11
  have k12 := KH3.out.cell 12
  have k13 := KH3.out.cell 13
  go_wp2_with fail
  refine (HA8.out _ B3.out).mono ?_
  rintro o w' ⟨rfl, rfl⟩
  go_wp2_with fail
  refine (HA10.out _ B3.out).mono ?_
  rintro o w' ⟨rfl, rfl⟩
  go_wp2_with fail
  refine (HT.out _).mono ?_
  rintro o w' ⟨rfl, rfl⟩
  go_wp2_with fail
  refine (HLN.out _ _ _ _ _ _).mono ?_
  rintro o w4 ⟨rfl, hb4⟩
  have B4 := Lib.hid (B3.out.trans (hb4.mono B3.out.size))
  obtain ⟨g, hg⟩ : ∃ g, g = w4.heap.size := ⟨_, rfl⟩
  have EG := Lib.hid hg
  obtain ⟨w5, hw5⟩ : ∃ w5, w5 = w4.alloc (.cells (zeros N (.int .u8 0)) 5) := ⟨_, rfl⟩
  have E5 := Lib.hid hw5
  have B45 := Lib.hid (show Below g w4 w5 from by rw [hw5, hg]; exact (Below.refl _ _).alloc (Nat.le_refl _) _)
  have B5 := Lib.hid (show Below w.heap.size w w5 from by rw [hw5]; exact B4.out.alloc B4.out.size _)
  have K5 := Lib.hid (show Blk w5 g 5 ((List.replicate N (0 : Int)).map (Value.int .u8)).toArray from by rw [← HZL.out, hw5, hg]; exact Blk.new w4 _ _)
  clear hw5 hg hb4 k0 k1 k2 k3 k4 k5 k6 k7 k8 k9 k10 k11 k12 k13
  go_upto_region 10 with fail
  rw [← E5.out, ← EG.out]
  obtain ⟨w6, hcp, b6, o6⟩ := copy_run w5 g 0 N N (List.replicate N 0) l A n c N K5.out (HS.out.below B5.out) (by have := HNN.out; omega) (by have := HN20.out; omega) (by simp)
  have K6 := Lib.hid (show Blk w6 g 5 ((l.take N).map (Value.int .u8)).toArray from by
    rw [splice_full _ _ (by have := HS.out.len; have := HNN.out; simp; omega)] at b6
    exact b6)
  have B6 := Lib.hid (show Below w.heap.size w w6 from o6.from B5.out (by have := EG.out; have := B4.out.size; omega))
  clear b6 o6
  go_upto_region 11 with fail
  clear hcp
  have HGW := Lib.hid (show w.heap.size ≤ g from by have := EG.out; have := B4.out.size; omega)
  have HLA := Lib.hid (show (allb 2 [f - 256, C]).length = 4 from by rw [allb_len]; rfl)
  have S0 := Lib.hid (show pktB.PS w6 (w6.alloc (.cells #[.int .u64 (f - 256), .int .u64 C] 30)).drew (.slice none 0 0) 0 [] from ⟨World.ownsRow_nil _ _ _ _, ((Below.refl _ _).alloc (Nat.le_refl _) _).drew⟩)
  have HAL := Lib.hid (S0.out.all 2 w6.heap.size 2 2 #[.int .u64 (f - 256), .int .u64 C] [f - 256, C] (by omega) rfl (Blk.new w6 30 #[.int .u64 (f - 256), .int .u64 C]) rfl (fun x hx => by
    have hf := HF.out
    simp only [List.mem_cons, List.not_mem_nil, or_false] at hx
    rcases hx with rfl | rfl <;> omega))
  go_region_held3 (fun V => Below w.heap.size w V) (first | with_reducible assumption | with_reducible exact B9.out | with_reducible exact B8.out | with_reducible exact B6.out.drew | with_reducible exact B6.out | with_reducible exact (B6.out.alloc B6.out.size _).drew) (first | (go_at_call 65; (with_reducible refine HAL.out.mono ?_); rintro o w8 ⟨v8, rfl, hs8⟩; have hs8 : pktB.PS w6 w8 v8 4 (allb 2 [f - 256, C]) := hs8; obtain ⟨A8, c8, rfl⟩ := own_slice hs8.own; have B68 := Lib.hid hs8.bel; have S8 := Lib.hid (show Sl w8 A8 4 c8 (allb 2 [f - 256, C]) from Sl.own hs8.own (by rw [allb_len]; rfl) (pktB.allb_u8 _ _)); have K8 := Lib.hid (K6.out.below B68.out K6.out.lt); have B8 := Lib.hid (B6.out.trans (B68.out.mono B6.out.size)); obtain ⟨w9, hcp9, hb9, ho9⟩ := copy_run w8 g 8 (N - 8) (N - 8) (l.take N) (allb 2 [f - 256, C]) A8 4 c8 4 K8.out S8.out HM4.out (by decide) HT12.out; have K9 := Lib.hid hb9; have B9 := Lib.hid (ho9.from B8.out HGW.out); clear hb9 ho9 hs8))
  go_wp2_with fail
  go_ret2
  have b9 := K9.out
  rw [List.take_of_length_le (Nat.le_of_eq HLA.out), HX.out] at b9
  exact ⟨B9.out, some ⟨g, 0, none⟩, N, N, rfl, Sl_blk b9 HXL.out HXU.out (by have := HNM.out; omega)⟩
set_option maxHeartbeats 4000000 in
set_option maxRecDepth 100000 in
theorem less_6e (A : Option Addr) (n c : Nat) (ttl pr : Int) (s6 : Bool) (sh sl : Int) (d6 : Bool) (dh dl : Int) (r : List Int) (e : Int) (he : e ≠ 0) (w : World)
    (HC : Hid (∀ V, Below w.heap.size w V → Calls Try.prog 19 #[.slice A n c] V fun o w' => Below V.heap.size V w' ∧ ∃ (cls lab : Int) (AO : Option Addr) (no co : Nat) (AR : Option Addr) (cr : Nat), o = .returned (.tuple #[.agg #[.int .i64 cls, .int .i64 lab, .int .i64 ttl, .bool s6, .int .u64 sh, .int .u64 sl, .bool d6, .int .u64 dh, .int .u64 dl, .slice AO no co, .int .i64 pr], .slice AR r.length cr, .int .i64 e]) ∧ Sl w' AR r.length cr r)) :
    Calls Try.prog 30 #[.slice A n c] w (MkP e [] w) := by
  obtain ⟨m, hm0⟩ : ∃ m, m = r.length := ⟨_, rfl⟩
  rw [← hm0] at HC
  clear hm0
  have te : (e != 0) = true := by simpa using he
  clear he
  go_enter Try.func30, Try.ntmps30
  go_wp2_with fail
  refine (HC.out _ (Below.refl _ _)).mono ?_
  rintro o w2 ⟨hb2, cls, lab, AO, no, co, AR, cr, rfl, hsl⟩
  obtain ⟨w3, hw3⟩ : ∃ w3, w3 = w2.alloc (.cells #[.int .i64 cls, .int .i64 lab, .int .i64 ttl, .bool s6, .int .u64 sh, .int .u64 sl, .bool d6, .int .u64 dh, .int .u64 dl, .slice AO no co, .int .i64 pr] 48) := ⟨_, rfl⟩
  obtain ⟨h, hh⟩ : ∃ h, h = w2.heap.size := ⟨_, rfl⟩
  have EH := Lib.hid hh
  have E3 := Lib.hid hw3
  have B23 := Lib.hid (show Below w2.heap.size w2 w3 from by rw [hw3]; exact (Below.refl _ _).alloc (Nat.le_refl _) _)
  have KH3 := Lib.hid (show Blk w3 h 48 #[.int .i64 cls, .int .i64 lab, .int .i64 ttl, .bool s6, .int .u64 sh, .int .u64 sl, .bool d6, .int .u64 dh, .int .u64 dl, .slice AO no co, .int .i64 pr] from by rw [hw3, hh]; exact Blk.new w2 _ _)
  have B3 := Lib.hid (hb2.trans (B23.out.mono hb2.size))
  clear hw3 hb2 hh hsl
  go_upto_region 2 with fail
  rw [← E3.out, ← EH.out]
  have k0 := KH3.out.cell 0
  have k1 := KH3.out.cell 1
  have k2 := KH3.out.cell 2
  have k3 := KH3.out.cell 3
  have k4 := KH3.out.cell 4
  have k5 := KH3.out.cell 5
  have k6 := KH3.out.cell 6
  have k7 := KH3.out.cell 7
  have k8 := KH3.out.cell 8
  have k9 := KH3.out.cell 9
  have k10 := KH3.out.cell 10
  go_wp2_with fail
  go_ret2
  exact MkP.nil_ B3.out
set_option maxHeartbeats 4000000 in
set_option maxRecDepth 100000 in
theorem less_6t (A : Option Addr) (n c : Nat) (ttl pr : Int) (s6 : Bool) (sh sl : Int) (d6 : Bool) (dh dl : Int) (r : List Int) (ht : ttl < 2) (w : World)
    (HC : Hid (∀ V, Below w.heap.size w V → Calls Try.prog 19 #[.slice A n c] V fun o w' => Below V.heap.size V w' ∧ ∃ (cls lab : Int) (AO : Option Addr) (no co : Nat) (AR : Option Addr) (cr : Nat), o = .returned (.tuple #[.agg #[.int .i64 cls, .int .i64 lab, .int .i64 ttl, .bool s6, .int .u64 sh, .int .u64 sl, .bool d6, .int .u64 dh, .int .u64 dl, .slice AO no co, .int .i64 pr], .slice AR r.length cr, .int .i64 0]) ∧ Sl w' AR r.length cr r)) :
    Calls Try.prog 30 #[.slice A n c] w (MkP 20 [] w) := by
  obtain ⟨m, hm0⟩ : ∃ m, m = r.length := ⟨_, rfl⟩
  rw [← hm0] at HC
  clear hm0
  have tt : decide (ttl < 2) = true := decide_eq_true ht
  clear ht
  go_enter Try.func30, Try.ntmps30
  go_wp2_with fail
  refine (HC.out _ (Below.refl _ _)).mono ?_
  rintro o w2 ⟨hb2, cls, lab, AO, no, co, AR, cr, rfl, hsl⟩
  obtain ⟨w3, hw3⟩ : ∃ w3, w3 = w2.alloc (.cells #[.int .i64 cls, .int .i64 lab, .int .i64 ttl, .bool s6, .int .u64 sh, .int .u64 sl, .bool d6, .int .u64 dh, .int .u64 dl, .slice AO no co, .int .i64 pr] 48) := ⟨_, rfl⟩
  obtain ⟨h, hh⟩ : ∃ h, h = w2.heap.size := ⟨_, rfl⟩
  have EH := Lib.hid hh
  have E3 := Lib.hid hw3
  have B23 := Lib.hid (show Below w2.heap.size w2 w3 from by rw [hw3]; exact (Below.refl _ _).alloc (Nat.le_refl _) _)
  have KH3 := Lib.hid (show Blk w3 h 48 #[.int .i64 cls, .int .i64 lab, .int .i64 ttl, .bool s6, .int .u64 sh, .int .u64 sl, .bool d6, .int .u64 dh, .int .u64 dl, .slice AO no co, .int .i64 pr] from by rw [hw3, hh]; exact Blk.new w2 _ _)
  have B3 := Lib.hid (hb2.trans (B23.out.mono hb2.size))
  clear hw3 hb2 hh hsl
  go_upto_region 2 with fail
  rw [← E3.out, ← EH.out]
  have k0 := KH3.out.cell 0
  have k1 := KH3.out.cell 1
  have k2 := KH3.out.cell 2
  have k3 := KH3.out.cell 3
  have k4 := KH3.out.cell 4
  have k5 := KH3.out.cell 5
  have k6 := KH3.out.cell 6
  have k7 := KH3.out.cell 7
  have k8 := KH3.out.cell 8
  have k9 := KH3.out.cell 9
  have k10 := KH3.out.cell 10
  go_wp2_with fail
  go_ret2
  exact MkP.nil_ B3.out
set_option maxHeartbeats 4000000 in
set_option maxRecDepth 100000 in
theorem less_6g (A : Option Addr) (n c : Nat) (ttl pr : Int) (s6 : Bool) (sh sl : Int) (d6 : Bool) (dh dl : Int) (r : List Int) (ht : 2 ≤ ttl) (l X : List Int) (N : Nat) (L : Int) (hL : (N : Int) = L + (r.length : Int)) (hNn : N ≤ n) (hN40 : 40 ≤ N) (hn : n ≤ 1000) (x : Int) (hx : l.getD 7 0 = x) (x1 : 1 ≤ x) (x9 : x ≤ 255) (hX : (l.take N).set 7 (x - 1) = X) (hXu : U8 X) (hXl : X.length = N) (w : World) (hs : Sl w A n c l)
    (HC : Hid (∀ V, Below w.heap.size w V → Calls Try.prog 19 #[.slice A n c] V fun o w' => Below V.heap.size V w' ∧ ∃ (cls lab : Int) (AO : Option Addr) (no co : Nat) (AR : Option Addr) (cr : Nat), o = .returned (.tuple #[.agg #[.int .i64 cls, .int .i64 lab, .int .i64 ttl, .bool s6, .int .u64 sh, .int .u64 sl, .bool d6, .int .u64 dh, .int .u64 dl, .slice AO no co, .int .i64 pr], .slice AR r.length cr, .int .i64 0]) ∧ Sl w' AR r.length cr r ∧ (∀ V2, Below w'.heap.size w' V2 → Calls Try.prog 33 #[.agg #[.int .i64 cls, .int .i64 lab, .int .i64 ttl, .bool s6, .int .u64 sh, .int .u64 sl, .bool d6, .int .u64 dh, .int .u64 dl, .slice AO no co, .int .i64 pr]] V2 fun o w' => o = .returned (.int .i64 L) ∧ Below V2.heap.size V2 w'))) :
    Calls Try.prog 30 #[.slice A n c] w (MkP 0 X w) := by
  obtain ⟨m, hm0⟩ : ∃ m, m = r.length := ⟨_, rfl⟩
  rw [← hm0] at HC hL
  clear hm0
  have tt : decide (ttl < 2) = false := decide_eq_false (by omega)
  clear ht
  have wN : IntKind.i64.wrap (L + (m : Int)) = (N : Int) := by rw [← hL, IntWalk.i64_in _ (by omega)]
  have wx : IntKind.u8.wrap (x - 1) = x - 1 := by rw [IntKind.wrap_u8]; omega
  obtain ⟨b, off, rfl, hb, hc⟩ := lies_of hs.row (by have := hs.len; omega)
  obtain ⟨s1, s2⟩ := sixF.slice_to b off n c N (by have := hs.nc; omega) (by have := hs.nc; omega)
  have HTK := Lib.hid (Sl_take hs N hNn)
  have HN40 := Lib.hid hN40
  have HNM := Lib.hid (show N ≤ 1000 from by omega)
  have HXV := Lib.hid hx
  have HX := Lib.hid hX
  have HXU := Lib.hid hXu
  have HXL := Lib.hid hXl
  clear hNn hN40 hX hXu hXl hs hn hb hc x1 x9 hx hL
  go_enter Try.func30, Try.ntmps30
  go_wp2_with fail
  refine (HC.out _ (Below.refl _ _)).mono ?_
  rintro o w2 ⟨hb2, cls, lab, AO, no, co, AR, cr, rfl, hsl, hln⟩
  obtain ⟨w3, hw3⟩ : ∃ w3, w3 = w2.alloc (.cells #[.int .i64 cls, .int .i64 lab, .int .i64 ttl, .bool s6, .int .u64 sh, .int .u64 sl, .bool d6, .int .u64 dh, .int .u64 dl, .slice AO no co, .int .i64 pr] 48) := ⟨_, rfl⟩
  obtain ⟨h, hh⟩ : ∃ h, h = w2.heap.size := ⟨_, rfl⟩
  have EH := Lib.hid hh
  have E3 := Lib.hid hw3
  have B23 := Lib.hid (show Below w2.heap.size w2 w3 from by rw [hw3]; exact (Below.refl _ _).alloc (Nat.le_refl _) _)
  have KH3 := Lib.hid (show Blk w3 h 48 #[.int .i64 cls, .int .i64 lab, .int .i64 ttl, .bool s6, .int .u64 sh, .int .u64 sl, .bool d6, .int .u64 dh, .int .u64 dl, .slice AO no co, .int .i64 pr] from by rw [hw3, hh]; exact Blk.new w2 _ _)
  have B3 := Lib.hid (hb2.trans (B23.out.mono hb2.size))
  have HLN := Lib.hid hln
  clear hw3 hb2 hh hsl hln
  go_upto_region 2 with fail
  rw [← E3.out, ← EH.out]
  have k0 := KH3.out.cell 0
  have k1 := KH3.out.cell 1
  have k2 := KH3.out.cell 2
  have k3 := KH3.out.cell 3
  have k4 := KH3.out.cell 4
  have k5 := KH3.out.cell 5
  have k6 := KH3.out.cell 6
  have k7 := KH3.out.cell 7
  have k8 := KH3.out.cell 8
  have k9 := KH3.out.cell 9
  have k10 := KH3.out.cell 10
  go_wp2_with fail
  refine (HLN.out w3 B23.out).mono ?_
  rintro o w4 ⟨rfl, hb4⟩
  have B4 := Lib.hid (B3.out.trans (hb4.mono B3.out.size))
  have HCL := Lib.hid (octF.clone_any (some ⟨b, off, none⟩) N c (l.take N) w4 (HTK.out.len) (by have := HNM.out; omega) (fun h => by cases h) ((HTK.out.below B4.out).row))
  clear hb4 k0 k1 k2 k3 k4 k5 k6 k7 k8 k9 k10
  go_wp2_with fail
  refine HCL.out.mono ?_
  rintro o w5 ⟨v5, rfl, own5, hb5, _⟩
  have B5 := Lib.hid (B4.out.trans (hb5.mono B4.out.size))
  rcases octF.own_split own5 with ⟨_, h0⟩ | ⟨g, cap, cl, rfl, hg0, hg, hnc, hm, hcl, htk, hglt⟩
  · have := HN40.out; omega
  have K5 := Lib.hid (show Blk w5 g 5 cl.toArray from hg)
  have hgb := Lib.hid (show w.heap.size ≤ g from by have := B4.out.size; omega)
  have TK := Lib.hid htk
  have CP := Lib.hid (show N ≤ cap ∧ cap ≤ maxLen ∧ cl.length = cap from ⟨hnc, hm, hcl⟩)
  have y7 : w5.cell? ⟨g, 7, none⟩ = some (.int .u8 x) := by
    have hL := HTK.out.len
    have h40 := HN40.out
    rw [K5.out.cell 7]
    have h9 : cl[7]? = some (.int .u8 x) := by
      have h8 : (cl.take N)[7]? = cl[7]? := by rw [List.getElem?_take, if_pos (by omega)]
      rw [← h8, htk, List.getElem?_map, List.getElem?_take, if_pos (by omega)]
      have h7 : l[7]? = some x := by
        have h6 : 7 < l.length := by rw [List.length_take] at hL; omega
        rw [List.getElem?_eq_getElem h6]
        have := HXV.out
        rw [List.getD_eq_getElem?_getD, List.getElem?_eq_getElem h6] at this
        exact congrArg some this
      rw [h7]
      rfl
    simpa using h9
  have f7 := K5.out.frozen 7
  have j7 : 7 < N := by have := HN40.out; omega
  have j7i : (7 : Int) < (N : Int) := by omega
  clear own5 hb5 hg hnc hm hcl htk hglt hg0
  go_wp2_with fail
  go_ret2
  have OG : OnlyG g w5 (w5.setCell ⟨g, 7, none⟩ (.int .u8 (x - 1))) := (OnlyG.refl g w5).set 7 _
  have K6 := K5.out.set_ 7 (.int .u8 (x - 1))
  have hcp := CP.out
  refine ⟨OG.from B5.out hgb.out, some ⟨g, 0, none⟩, N, cap, rfl, ⟨HXL.out, ?_, hcp.1, ?_, (fun h => by cases h), HXU.out⟩⟩
  · have h9 := (Go.Proofs.Ytodckfgfbcnkoaa.sumC.row_blk K6).take N
    have e : (cl.toArray.setIfInBounds 7 (Value.int .u8 (x - 1))).toList.take N = X.map (Value.int .u8) := by
      rw [Array.toList_setIfInBounds, List.toList_toArray]
      have e8 : (cl.set 7 (Value.int .u8 (x - 1))).take N = (cl.take N).set 7 (Value.int .u8 (x - 1)) := by
        apply List.ext_getElem?
        intro i
        rw [List.getElem?_take, List.getElem?_set, List.getElem?_set, List.getElem?_take, List.length_take]
        by_cases e : 7 = i
        · subst e
          have := HN40.out
          simp only [if_true]
          rw [if_pos (by omega)]
          by_cases b : 7 < cl.length
          · rw [if_pos b, if_pos (by omega)]
          · omega
        · rw [if_neg e, if_neg e]
      rw [e8, TK.out, ← HX.out, List.map_set]
    rw [e] at h9
    exact h9
  · have := hcp.2.1
    unfold maxLen at this
    omega
end Go.Proofs.Ytodckfgfbcnkoaa.tunH
/- Layer 15: checks that are turned by words, words put into bytes: plain words. -/
namespace Go.Proofs.Ytodckfgfbcnkoaa.natW
open Go.ChangeShapes Go.WideShapes Go.ChangeAt Go.RowKit
open Go.Proofs.Ytodckfgfbcnkoaa.base Go.Proofs.Ytodckfgfbcnkoaa.octA Go.Proofs.Ytodckfgfbcnkoaa.sumE Go.Proofs.Ytodckfgfbcnkoaa.sixW Go.Proofs.Ytodckfgfbcnkoaa.sixM Go.Proofs.Ytodckfgfbcnkoaa.pktB Go.Proofs.Ytodckfgfbcnkoaa.tunV
set_option linter.unusedVariables false

def setws : List Int → Nat → List Int → List Int
  | l, _, [] => l
  | l, p, v :: vs => setws (setw l p v) (p + 2) vs
def wbytes : List Int → List Int
  | [] => []
  | v :: vs => v / 256 :: v % 256 :: wbytes vs
theorem wbytes_len : ∀ (vs : List Int), (wbytes vs).length = 2 * vs.length
  | [] => rfl
  | v :: vs => by show (wbytes vs).length + 1 + 1 = _; rw [wbytes_len vs, List.length_cons]; omega
theorem splice_words : ∀ (vs l : List Int) (p : Nat), p + 2 * vs.length ≤ l.length → l.take p ++ wbytes vs ++ l.drop (p + 2 * vs.length) = setws l p vs
  | [], l, p, _ => by show l.take p ++ [] ++ l.drop (p + 0) = l; rw [List.append_nil, Nat.add_zero, List.take_append_drop]
  | v :: vs, l, p, h => by
    rw [List.length_cons] at h ⊢
    have e := splice_words vs (setw l p v) (p + 2) (by rw [setw_len]; omega)
    show _ = setws (setw l p v) (p + 2) vs
    rw [← e, setw_take, setw_drop _ _ _ _ (by omega), show p + 2 * (vs.length + 1) = p + 2 + 2 * vs.length by omega]
    congr 1
    show l.take p ++ (v / 256 :: v % 256 :: wbytes vs) = setw (l.take (p + 2)) p v ++ wbytes vs
    have e2 : setw (l.take (p + 2)) p v = l.take p ++ [v / 256, v % 256] := by
      obtain ⟨a, b, z, hz⟩ : ∃ a b z, l.drop p = a :: b :: z := by
        have hd : 2 ≤ (l.drop p).length := by rw [List.length_drop]; omega
        match l.drop p, hd with
        | a :: b :: z, _ => exact ⟨a, b, z, rfl⟩
      have et : l.take (p + 2) = l.take p ++ [a, b] := by
        rw [List.take_add, hz]
        rfl
      have lp : (l.take p).length = p := by rw [List.length_take]; omega
      rw [et]
      unfold setw
      rw [List.set_append_right _ _ (by omega), List.set_append_right _ _ (by omega), lp, Nat.sub_self, show p + 1 - p = 1 by omega]
      rfl
    rw [e2, List.append_assoc]
    rfl
theorem pb2 (n : Int) : pb n 2 2 = [n / 256 % 256, n / 1 % 256] := rfl
end Go.Proofs.Ytodckfgfbcnkoaa.natW
/- Layer 14: Less as one contract; a time to live. -/
namespace Go.Proofs.Ytodckfgfbcnkoaa.tunI
open Go.ChangeShapes Go.WideShapes Go.ChangeAt Go.RowKit
open Go.Proofs.Ytodckfgfbcnkoaa.base Go.Proofs.Ytodckfgfbcnkoaa.octA Go.Proofs.Ytodckfgfbcnkoaa.octB Go.Proofs.Ytodckfgfbcnkoaa.rdrA Go.Proofs.Ytodckfgfbcnkoaa.rdrG Go.Proofs.Ytodckfgfbcnkoaa.sumA Go.Proofs.Ytodckfgfbcnkoaa.sixW Go.Proofs.Ytodckfgfbcnkoaa.sixM Go.Proofs.Ytodckfgfbcnkoaa.pktA Go.Proofs.Ytodckfgfbcnkoaa.pktB Go.Proofs.Ytodckfgfbcnkoaa.sixE Go.Proofs.Ytodckfgfbcnkoaa.sixF Go.Proofs.Ytodckfgfbcnkoaa.tunW Go.Proofs.Ytodckfgfbcnkoaa.tunA Go.Proofs.Ytodckfgfbcnkoaa.tunC Go.Proofs.Ytodckfgfbcnkoaa.tunV Go.Proofs.Ytodckfgfbcnkoaa.pktL Go.Proofs.Ytodckfgfbcnkoaa.tunH
set_option linter.unusedVariables false

def ttE (l : List Int) : Int := if (numP l).2 ≠ 0 then (numP l).2 else if l.getD 0 0 / 16 = 6 then (match sixP l with | .inl e => e | .inr _ => 0) else fourE l
def ttT (l : List Int) : Int := if l.getD 0 0 / 16 = 6 then l.getD 7 0 else l.getD 8 0
def ttS (l : List Int) : Nat := if l.getD 0 0 / 16 = 6 then 40 + sizeP l else (udpA.w16 l 2).toNat
def ttO (l : List Int) : List Int := if l.getD 0 0 / 16 = 6 then out6 l else out4 l
def lsP (l : List Int) : Int × List Int := if ttE l ≠ 0 then (ttE l, []) else if ttT l < 2 then (20, []) else (0, ttO l)
theorem less_N (A : Option Addr) (n c : Nat) (p e : Int) (he : e ≠ 0) (w : World)
    (HN : Hid (∀ V, Below w.heap.size w V → Calls Try.prog 29 #[.slice A n c] V fun o w' => o = .returned (.tuple #[.int .i64 p, .int .i64 e]) ∧ Below V.heap.size V w')) :
    Calls Try.prog 11 #[.slice A n c] w (MkP e [] w) := by
  have te : (e != 0) = true := by simpa using he
  clear he
  go_enter Try.func11, Try.ntmps11
  go_wp2_with fail
  refine (HN.out _ (Below.refl _ _)).mono ?_
  rintro o w2 ⟨rfl, hb2⟩
  have B2 := Lib.hid hb2
  clear hb2
  go_wp2_with fail
  go_ret2
  exact MkP.nil_ B2.out
theorem less_6 (b off n c : Nat) (p x e : Int) (X : List Int) (hx : x / 16 = 6) (w : World) (j0 : 0 < n) (hb : b < w.heap.size) (hy : w.cell? ⟨b, off, none⟩ = some (.int .u8 x)) (x0 : 0 ≤ x ∧ x ≤ 255)
    (HN : Hid (∀ V, Below w.heap.size w V → Calls Try.prog 29 #[.slice (some ⟨b, off, none⟩) n c] V fun o w' => o = .returned (.tuple #[.int .i64 p, .int .i64 0]) ∧ Below V.heap.size V w'))
    (HL : Hid (∀ V, Below w.heap.size w V → Calls Try.prog 30 #[.slice (some ⟨b, off, none⟩) n c] V (MkP e X V))) :
    Calls Try.prog 11 #[.slice (some ⟨b, off, none⟩) n c] w (MkP e X w) := by
  have t6 : (x / 16 == 6) = true := by simpa using hx
  have j1 : (0 : Int) < n := by omega
  clear hx
  go_enter Try.func11, Try.ntmps11
  go_wp2_with fail
  refine (HN.out _ (Below.refl _ _)).mono ?_
  rintro o w2 ⟨rfl, hb2⟩
  have B2 := Lib.hid hb2
  have y0 : w2.cell? ⟨b, off, none⟩ = some (.int .u8 x) := (hb2.cell (p := ⟨b, off, none⟩) hb).trans hy
  clear hb2 hy hb
  go_wp2_with fail
  refine (HL.out _ B2.out).mono ?_
  rintro o w5 ⟨hb5, A5, n5, c5, rfl, hs5⟩
  have B5 := Lib.hid (B2.out.trans (hb5.mono B2.out.size))
  have S5 := Lib.hid hs5
  clear hb5 hs5
  go_wp2_with fail
  go_ret2
  exact ⟨B5.out, A5, n5, c5, rfl, S5.out⟩
theorem less_4 (b off n c : Nat) (p x e : Int) (X : List Int) (hx : x / 16 ≠ 6) (w : World) (j0 : 0 < n) (hb : b < w.heap.size) (hy : w.cell? ⟨b, off, none⟩ = some (.int .u8 x)) (x0 : 0 ≤ x ∧ x ≤ 255)
    (HN : Hid (∀ V, Below w.heap.size w V → Calls Try.prog 29 #[.slice (some ⟨b, off, none⟩) n c] V fun o w' => o = .returned (.tuple #[.int .i64 p, .int .i64 0]) ∧ Below V.heap.size V w'))
    (HL : Hid (∀ V, Below w.heap.size w V → Calls Try.prog 31 #[.slice (some ⟨b, off, none⟩) n c] V (MkP e X V))) :
    Calls Try.prog 11 #[.slice (some ⟨b, off, none⟩) n c] w (MkP e X w) := by
  have t6 : (x / 16 == 6) = false := by simpa using hx
  have j1 : (0 : Int) < n := by omega
  clear hx
  go_enter Try.func11, Try.ntmps11
  go_wp2_with fail
  refine (HN.out _ (Below.refl _ _)).mono ?_
  rintro o w2 ⟨rfl, hb2⟩
  have B2 := Lib.hid hb2
  have y0 : w2.cell? ⟨b, off, none⟩ = some (.int .u8 x) := (hb2.cell (p := ⟨b, off, none⟩) hb).trans hy
  clear hb2 hy hb
  go_wp2_with fail
  refine (HL.out _ B2.out).mono ?_
  rintro o w5 ⟨hb5, A5, n5, c5, rfl, hs5⟩
  have B5 := Lib.hid (B2.out.trans (hb5.mono B2.out.size))
  have S5 := Lib.hid hs5
  clear hb5 hs5
  go_wp2_with fail
  go_ret2
  exact ⟨B5.out, A5, n5, c5, rfl, S5.out⟩
theorem six_len {l : List Int} {ys : List XP} {q : Int} {r : List Int} (hu : U8 l) (he : sixP l = .inr (ys, q, r)) : ((40 + sizeP l : Nat) : Int) = ((40 + extL ys : Nat) : Int) + (r.length : Int) := by
  obtain ⟨_, _, h, _⟩ := six_sizes l hu he
  omega
theorem at_two (A : Option Addr) (n c f : Nat) (l : List Int) (w : World) (h : Sl w A n c l) (hn : n ≤ 1000) (hf : f < 100) :
    Calls Try.prog 43 #[.slice A n c, .int .i64 f, .int .i64 2] w fun e w' => e = .returned (.int .u64 (udpA.w16 l f)) ∧ w = w' := by
  have h9 := fourB.at_two f A n c l w h.len hn h.nc h.mx h.nil h.row h.u8 hf
  exact h9
theorem less4_any (A : Option Addr) (n c : Nat) (l : List Int) (w : World) (h : Sl w A n c l) (hn : n ≤ 1000) : Calls Try.prog 31 #[.slice A n c] w (MkP (if fourE l ≠ 0 then fourE l else if l.getD 8 0 < 2 then 20 else 0) (if fourE l ≠ 0 then [] else if l.getD 8 0 < 2 then [] else out4 l) w) := by
  have HF := fun V (hV : Below w.heap.size w V) => four_any A n c l V (h.below hV) hn
  by_cases he : fourE l = 0
  · have hnot : ¬ fourE l ≠ 0 := by omega
    rw [if_neg hnot, if_neg hnot]
    have HG : ∀ V, Below w.heap.size w V → Calls Try.prog 21 #[.slice A n c] V fun o w' => Below V.heap.size V w' ∧ ∃ (tos id : Int) (df : Bool) (AO : Option Addr) (co : Nat) (AR : Option Addr) (cr : Nat), o = .returned (.tuple #[.agg #[.int .i64 tos, .int .i64 id, .bool df, .bool (decide (udpA.w16 l 6 / 8192 % 2 = 1)), .int .i64 (udpA.w16 l 6 % 8192), .int .i64 (l.getD 8 0), .int .i64 (l.getD 9 0), .bool false, .int .u64 0, .int .u64 (tcpC.w32 l 12), .bool false, .int .u64 0, .int .u64 (tcpC.w32 l 16), .slice AO (fourS l - 20) co], .slice AR (fourR l).length cr, .int .i64 0]) ∧ Sl w' AR (fourR l).length cr (fourR l) := fun V hV => (HF V hV).mono fun o w' k => by
      obtain ⟨hb, k⟩ := k
      rcases k with ⟨k1, _⟩ | ⟨_, _, _, _, k2⟩
      · exact absurd he k1
      · exact ⟨hb, k2⟩
    by_cases ht : l.getD 8 0 < 2
    · rw [if_pos ht, if_pos ht]
      exact less_4t A n c _ _ _ _ _ _ _ (fourR l) ht w (Lib.hid HG)
    · rw [if_neg ht, if_neg ht]
      have ht2 : 2 ≤ l.getD 8 0 := by omega
      obtain ⟨a0, s20, s60, es, ew, sw, wl, sr, _, _⟩ := four_sizes l h.u8 he
      obtain ⟨a1, a2, _, _, _, _, _, _⟩ := out4_says l h.u8 he ht2
      have hl := h.len
      have k8 := h.u8.get 8
      have k9 := h.u8.get 9
      have k10 := h.u8.get 10
      have k11 := h.u8.get 11
      have w8 : udpA.w16 l 8 = l.getD 8 0 * 256 + l.getD 9 0 := rfl
      have w10 : udpA.w16 l 10 = l.getD 10 0 * 256 + l.getD 11 0 := rfl
      have cb := fo_bd (65535 - udpA.w16 l 10 + (65535 - udpA.w16 l 8) + (udpA.w16 l 8 - 256)) (by omega)
      refine less_4g A n c _ _ _ _ _ _ (fourS l - 20) (fourR l) ht2 l (out4 l) (udpA.w16 l 8) (udpA.w16 l 10) (65535 - fo (65535 - udpA.w16 l 10 + (65535 - udpA.w16 l 8) + (udpA.w16 l 8 - 256))) (udpA.w16 l 2).toNat (by omega) (by omega) (by omega) hn (by omega) (by omega) (by omega) (by omega) (by omega) (by omega) ?_ a2 a1 w h (Lib.hid HG) (Lib.hid fun V hV => at_two A n c 8 l V (h.below hV) hn (by omega)) (Lib.hid fun V hV => at_two A n c 10 l V (h.below hV) hn (by omega)) (Lib.hid fun V => turn_any _ _ _ (by omega) (by omega) (by omega) (by omega) (by omega) (by omega) V)
      have hL : (l.take (udpA.w16 l 2).toNat).length = (udpA.w16 l 2).toNat := by rw [List.length_take]; omega
      have e9 := natW.splice_words [udpA.w16 l 8 - 256, 65535 - fo (65535 - udpA.w16 l 10 + (65535 - udpA.w16 l 8) + (udpA.w16 l 8 - 256))] (l.take (udpA.w16 l 2).toNat) 8 (by rw [hL]; show 8 + 2 * 2 ≤ _; omega)
      have ea : ∀ a b : Int, 0 ≤ a → a ≤ 65535 → 0 ≤ b → b ≤ 65535 → allb 2 [a, b] = natW.wbytes [a, b] := fun a b h1 h2 h3 h4 => by
        show pb a 2 2 ++ (pb b 2 2 ++ []) = _
        rw [natW.pb2, natW.pb2]
        simp only [natW.wbytes, List.cons_append, List.nil_append, List.append_nil, List.cons.injEq, and_true]
        omega
      rw [ea _ _ (by omega) (by omega) (by omega) (by omega)]
      unfold splice
      rw [← List.append_assoc, natW.wbytes_len]
      exact e9
  · rw [if_pos he, if_pos he]
    exact less_4e A n c false 0 0 0 0 0 0 [] (fourE l) he w (Lib.hid fun V hV => (HF V hV).mono fun o w' k => by
      obtain ⟨hb, k⟩ := k
      rcases k with ⟨_, k2⟩ | ⟨k1, _⟩
      · exact ⟨hb, 0, 0, false, none, 0, none, 0, k2, Sl.none_ w'⟩
      · exact absurd k1 he)
theorem less6_any (A : Option Addr) (n c : Nat) (l : List Int) (w : World) (h : Sl w A n c l) (hn : n ≤ 1000) (hv : l.getD 0 0 / 16 = 6) : Calls Try.prog 30 #[.slice A n c] w (MkP (match sixP l with | .inl e => e | .inr _ => if l.getD 7 0 < 2 then 20 else 0) (match sixP l with | .inl e => [] | .inr _ => if l.getD 7 0 < 2 then [] else out6 l) w) := by
  cases hc : sixP l with
  | inl e =>
    simp only
    exact less_6e A n c 0 0 false 0 0 false 0 0 [] e (sixP_ne hc) w (Lib.hid fun V hV => (six_bad A n c l V (h.below hV) hn hv hc).mono fun o w' k => ⟨k.2, 0, 0, none, 0, 0, none, 0, k.1, Sl.none_ w'⟩)
  | inr k =>
    obtain ⟨ys, q, r⟩ := k
    simp only
    have HG := fun V (hV : Below w.heap.size w V) => six_good A n c l V (h.below hV) hn hv hc
    by_cases ht : l.getD 7 0 < 2
    · rw [if_pos ht, if_pos ht]
      exact less_6t A n c _ q true _ _ true _ _ r ht w (Lib.hid fun V hV => (HG V hV).mono fun o w' k => by
        obtain ⟨hb, AX, nx, cx, cls, lab, AR, cr, e, hs, _, _⟩ := k
        exact ⟨hb, cls, lab, AX, nx, cx, AR, cr, e, hs⟩)
    · rw [if_neg ht, if_neg ht]
      have ht2 : 2 ≤ l.getD 7 0 := by omega
      have k7 := h.u8.get 7
      have hl := h.len
      obtain ⟨_, hlen, _, _, _, _⟩ := six_sizes l h.u8 hc
      obtain ⟨a1, a2, _, _, _, _⟩ := out6_says l h.u8 hc ht2
      exact less_6g A n c _ q true _ _ true _ _ r ht2 l (out6 l) (40 + sizeP l) _ (six_len h.u8 hc) (by omega) (by omega) hn _ rfl (by omega) (by omega) rfl a2 a1 w h (Lib.hid fun V hV => (HG V hV).mono fun o w' k => by
        obtain ⟨hb, AX, nx, cx, cls, lab, AR, cr, e, hs, _, hln⟩ := k
        exact ⟨hb, cls, lab, AX, nx, cx, AR, cr, e, hs, hln⟩)
theorem less_any (A : Option Addr) (n c : Nat) (l : List Int) (w : World) (h : Sl w A n c l) (hn : n ≤ 1000) : Calls Try.prog 11 #[.slice A n c] w (MkP (lsP l).1 (lsP l).2 w) := by
  have hl := h.len
  have HN := fun V (hV : Below w.heap.size w V) => number_any A n c l V (h.below hV)
  unfold lsP ttE
  by_cases he : (numP l).2 = 0
  · have h0 : 0 < n := by
      rcases Nat.eq_zero_or_pos n with h0 | h0
      · unfold numP at he
        rw [if_pos (by omega)] at he
        cases he
      · exact h0
    obtain ⟨b, off, rfl, hb, hs⟩ := lies_of h.row (by omega)
    have y0 : w.cell? ⟨b, off, none⟩ = some (.int .u8 (l.getD 0 0)) := hs 0 (by omega)
    have hnn : ¬ (numP l).2 ≠ 0 := by omega
    rw [if_neg hnn]
    unfold ttT ttO
    have HN2 : ∀ V, Below w.heap.size w V → Calls Try.prog 29 #[.slice (some ⟨b, off, none⟩) n c] V fun o w' => o = .returned (.tuple #[.int .i64 (numP l).1, .int .i64 0]) ∧ Below V.heap.size V w' := fun V hV => by
      have := HN V hV
      rwa [he] at this
    by_cases hx : l.getD 0 0 / 16 = 6
    · simp only [if_pos hx]
      have HL := fun V (hV : Below w.heap.size w V) => less6_any (some ⟨b, off, none⟩) n c l V (h.below hV) hn hx
      cases hc : sixP l with
      | inl e =>
        rw [hc] at HL
        simp only at HL ⊢
        rw [if_pos (sixP_ne hc)]
        exact less_6 b off n c _ _ e [] hx w h0 hb y0 (h.u8.get 0) (Lib.hid HN2) (Lib.hid HL)
      | inr k =>
        rw [hc] at HL
        simp only at HL ⊢
        rw [if_neg (show ¬ (0 : Int) ≠ 0 by omega)]
        by_cases ht : l.getD 7 0 < 2
        · rw [if_pos ht] at HL ⊢
          rw [if_pos ht] at HL
          exact less_6 b off n c _ _ 20 [] hx w h0 hb y0 (h.u8.get 0) (Lib.hid HN2) (Lib.hid HL)
        · rw [if_neg ht] at HL ⊢
          rw [if_neg ht] at HL
          exact less_6 b off n c _ _ 0 _ hx w h0 hb y0 (h.u8.get 0) (Lib.hid HN2) (Lib.hid HL)
    · simp only [if_neg hx]
      have HL := fun V (hV : Below w.heap.size w V) => less4_any (some ⟨b, off, none⟩) n c l V (h.below hV) hn
      by_cases hf : fourE l ≠ 0
      · rw [if_pos hf] at HL ⊢
        rw [if_pos hf] at HL
        exact less_4 b off n c _ _ _ [] hx w h0 hb y0 (h.u8.get 0) (Lib.hid HN2) (Lib.hid HL)
      · rw [if_neg hf] at HL ⊢
        rw [if_neg hf] at HL
        by_cases ht : l.getD 8 0 < 2
        · rw [if_pos ht] at HL ⊢
          rw [if_pos ht] at HL
          exact less_4 b off n c _ _ 20 [] hx w h0 hb y0 (h.u8.get 0) (Lib.hid HN2) (Lib.hid HL)
        · rw [if_neg ht] at HL ⊢
          rw [if_neg ht] at HL
          exact less_4 b off n c _ _ 0 _ hx w h0 hb y0 (h.u8.get 0) (Lib.hid HN2) (Lib.hid HL)
  · rw [if_pos he, if_pos he]
    exact less_N A n c _ _ he w (Lib.hid HN)
end Go.Proofs.Ytodckfgfbcnkoaa.tunI
