/- 7 texts in one. -/
import Derived.Deep.RegionHeld3
import Derived.Test.YtodckfgfbcnkoaaTb09
import Derived.Test.YtodckfgfbcnkoaaTb10
import Derived.Test.YtodckfgfbcnkoaaTb13
import Derived.Test.YtodckfgfbcnkoaaTb15
import Derived.Test.YtodckfgfbcnkoaaTb17
import Derived.Test.YtodckfgfbcnkoaaTb18
/- Layer 14: Open as one contract. -/
namespace Go.Proofs.Ytodckfgfbcnkoaa.tunE
open Go.ChangeShapes Go.WideShapes Go.ChangeAt Go.RowKit
open Go.Proofs.Ytodckfgfbcnkoaa.base Go.Proofs.Ytodckfgfbcnkoaa.octA Go.Proofs.Ytodckfgfbcnkoaa.rdrA Go.Proofs.Ytodckfgfbcnkoaa.rdrG Go.Proofs.Ytodckfgfbcnkoaa.sixW Go.Proofs.Ytodckfgfbcnkoaa.sixM Go.Proofs.Ytodckfgfbcnkoaa.pktA Go.Proofs.Ytodckfgfbcnkoaa.pktB Go.Proofs.Ytodckfgfbcnkoaa.sixE Go.Proofs.Ytodckfgfbcnkoaa.tunW Go.Proofs.Ytodckfgfbcnkoaa.tunA Go.Proofs.Ytodckfgfbcnkoaa.tunC Go.Proofs.Ytodckfgfbcnkoaa.tunD
set_option linter.unusedVariables false

def topR (l : List Int) : Rd := if opnE l = 0 then ⟨(rdP l).b, (rdP l).s6, (rdP l).sh, (rdP l).sl, (rdP l).d6, (rdP l).dh, (rdP l).dl, 0, 0⟩ else ⟨[], false, 0, 0, false, 0, 0, 0, opnE l⟩
theorem open_any (A : Option Addr) (n c : Nat) (l : List Int) (w : World) (h : Sl w A n c l) (hn : n ≤ 1000) : Calls Try.prog 17 #[.slice A n c] w (TopP (topR l) w) := by
  have hl := h.len
  by_cases h0 : n = 0
  · subst h0
    have eR : rdP l = rd4 l := by unfold rdP; rw [if_neg (by omega)]
    have HC := fun V (hV : Below w.heap.size w V) => open4_any A 0 c l V (h.below hV) hn
    unfold topR opnE
    rw [eR]
    generalize rd4 l = R at HC ⊢
    obtain ⟨r, s6, sh, sl, d6, dh, dl, p, e⟩ := R
    simp only
    by_cases he : e = 0
    · subst he
      simp only [if_true]
      have HR := fun (V : World) (A2 : Option Addr) (c2 : Nat) (h2 : Sl V A2 r.length c2 r) => right_any A2 r.length c2 r p V h2
      generalize rightP r p = k at HR ⊢
      by_cases hk : k = 0
      · subst hk
        rw [if_pos rfl]
        exact open_zg A c s6 sh sl d6 dh dl p r w (Lib.hid HC) (Lib.hid HR)
      · rw [if_neg hk]
        exact open_zr A c s6 sh sl d6 dh dl p r k hk w (Lib.hid HC) (Lib.hid HR)
    · rw [if_neg he, if_neg he]
      exact open_ze A c s6 sh sl d6 dh dl p r e he w (Lib.hid HC)
  · obtain ⟨b, off, rfl, hb, hs⟩ := lies_of h.row (by omega)
    have y0 : w.cell? ⟨b, off, none⟩ = some (.int .u8 (l.getD 0 0)) := hs 0 (by omega)
    by_cases hx : l.getD 0 0 / 16 = 6
    · have eR : rdP l = rd6 l := by unfold rdP; rw [if_pos ⟨by omega, hx⟩]
      have HC := fun V (hV : Below w.heap.size w V) => open6_any (some ⟨b, off, none⟩) n c l V (h.below hV) hn hx
      unfold topR opnE
      rw [eR]
      generalize rd6 l = R at HC ⊢
      obtain ⟨r, s6, sh, sl, d6, dh, dl, p, e⟩ := R
      simp only
      by_cases he : e = 0
      · subst he
        simp only [if_true]
        have HR := fun (V : World) (A2 : Option Addr) (c2 : Nat) (h2 : Sl V A2 r.length c2 r) => right_any A2 r.length c2 r p V h2
        generalize rightP r p = k at HR ⊢
        by_cases hk : k = 0
        · subst hk
          rw [if_pos rfl]
          exact open_6g b off n c s6 sh sl d6 dh dl p r (l.getD 0 0) hx w (by omega) hb y0 (h.u8.get 0) (Lib.hid HC) (Lib.hid HR)
        · rw [if_neg hk]
          exact open_6r b off n c s6 sh sl d6 dh dl p r (l.getD 0 0) hx k hk w (by omega) hb y0 (h.u8.get 0) (Lib.hid HC) (Lib.hid HR)
      · rw [if_neg he, if_neg he]
        exact open_6e b off n c s6 sh sl d6 dh dl p r (l.getD 0 0) hx e he w (by omega) hb y0 (h.u8.get 0) (Lib.hid HC)
    · have eR : rdP l = rd4 l := by unfold rdP; rw [if_neg (by omega)]
      have HC := fun V (hV : Below w.heap.size w V) => open4_any (some ⟨b, off, none⟩) n c l V (h.below hV) hn
      unfold topR opnE
      rw [eR]
      generalize rd4 l = R at HC ⊢
      obtain ⟨r, s6, sh, sl, d6, dh, dl, p, e⟩ := R
      simp only
      by_cases he : e = 0
      · subst he
        simp only [if_true]
        have HR := fun (V : World) (A2 : Option Addr) (c2 : Nat) (h2 : Sl V A2 r.length c2 r) => right_any A2 r.length c2 r p V h2
        generalize rightP r p = k at HR ⊢
        by_cases hk : k = 0
        · subst hk
          rw [if_pos rfl]
          exact open_4g b off n c s6 sh sl d6 dh dl p r (l.getD 0 0) hx w (by omega) hb y0 (h.u8.get 0) (Lib.hid HC) (Lib.hid HR)
        · rw [if_neg hk]
          exact open_4r b off n c s6 sh sl d6 dh dl p r (l.getD 0 0) hx k hk w (by omega) hb y0 (h.u8.get 0) (Lib.hid HC) (Lib.hid HR)
      · rw [if_neg he, if_neg he]
        exact open_4e b off n c s6 sh sl d6 dh dl p r (l.getD 0 0) hx e he w (by omega) hb y0 (h.u8.get 0) (Lib.hid HC)
theorem over_any (v : Bool) (w : World) : Calls Try.prog 18 #[.bool v] w fun o w' => o = .returned (.int .i64 (if v = true then 40 else 20)) ∧ w = w' := by
  cases v with
  | true =>
    go_enter Try.func18, Try.ntmps18
    go_wp2
    go_ret
    exact ⟨rfl, rfl⟩
  | false =>
    go_enter Try.func18, Try.ntmps18
    go_wp2
    go_ret
    exact ⟨rfl, rfl⟩
end Go.Proofs.Ytodckfgfbcnkoaa.tunE
namespace Go.Proofs.Ytodckfgfbcnkoaa.pktL2
end Go.Proofs.Ytodckfgfbcnkoaa.pktL2
namespace Go.Proofs.Ytodckfgfbcnkoaa.sixZn
end Go.Proofs.Ytodckfgfbcnkoaa.sixZn
namespace Go.Proofs.Ytodckfgfbcnkoaa.tcpKn
end Go.Proofs.Ytodckfgfbcnkoaa.tcpKn
namespace Go.Proofs.Ytodckfgfbcnkoaa.tcpMn
end Go.Proofs.Ytodckfgfbcnkoaa.tcpMn
/- Layer 13: Datagram and Segment of any flow. -/
namespace Go.Proofs.Ytodckfgfbcnkoaa.pktS
open Go.ChangeShapes Go.WideShapes Go.ChangeAt Go.RowKit
open Go.Proofs.Ytodckfgfbcnkoaa.base Go.Proofs.Ytodckfgfbcnkoaa.octA Go.Proofs.Ytodckfgfbcnkoaa.rdrA Go.Proofs.Ytodckfgfbcnkoaa.rdrG Go.Proofs.Ytodckfgfbcnkoaa.sixW Go.Proofs.Ytodckfgfbcnkoaa.sixM Go.Proofs.Ytodckfgfbcnkoaa.pktA Go.Proofs.Ytodckfgfbcnkoaa.pktB Go.Proofs.Ytodckfgfbcnkoaa.sixF Go.Proofs.Ytodckfgfbcnkoaa.pktL Go.Proofs.Ytodckfgfbcnkoaa.pktR
set_option linter.unusedVariables false

theorem six_bytes (ttl pr sh sl dh dl : Int) (A : Option Addr) (n c : Nat) (bl : List Int) (w : World) (h : Sl w A n c bl) (hn : n ≤ 900) (h1 : 0 ≤ ttl ∧ ttl ≤ 255) (h2 : 0 ≤ pr ∧ pr ≤ 255) (h3 : isX pr = false) (b1 : 0 ≤ sh ∧ sh < 18446744073709551616) (b2 : 0 ≤ sl ∧ sl < 18446744073709551616) (b3 : 0 ≤ dh ∧ dh < 18446744073709551616) (b4 : 0 ≤ dl ∧ dl < 18446744073709551616) :
    Calls Try.prog 37 #[.agg #[.int .i64 0, .int .i64 0, .int .i64 ttl, .bool true, .int .u64 sh, .int .u64 sl, .bool true, .int .u64 dh, .int .u64 dl, .slice none 0 0, .int .i64 pr], .slice A n c] w (MkP 0 (mkB6 ttl pr sh sl dh dl bl) w) := by
  refine (sixQ.bytes_any ⟨0, 0, ttl, true, sh, sl, true, dh, dl, pr⟩ none 0 0 [] A n c bl w rfl (⟨.inl rfl, fun o ho => by cases ho⟩ : RdX w none []) (Nat.le_refl _) (right6 ttl pr sh sl dh dl h1 h2 h3) b1 b2 b3 b4 h.len h.row (by omega) h.nil).mono ?_
  rintro o w' ⟨v, rfl, h5, h6⟩
  obtain ⟨B, d, rfl⟩ := own_slice h5
  refine ⟨h6, B, _, d, rfl, Sl.own h5 rfl ?_⟩
  have u8 : ∀ n : Int, U8 (pb n 8 8) := fun n => pb_u8 n 8 8
  intro x hx
  have hx2 : x ∈ sixK.hdB ⟨0, 0, ttl, true, sh, sl, true, dh, dl, pr⟩ pr (extL [] + bl.length) ++ ([] ++ bl) := hx
  unfold sixK.hdB sixK.hd8 at hx2
  rw [List.nil_append] at hx2
  have hbn := h.len
  rcases List.mem_append.1 hx2 with hx2 | hx2
  · rcases List.mem_append.1 hx2 with hx2 | hx2
    · rcases List.mem_append.1 hx2 with hx2 | hx2
      · simp only [List.mem_cons, List.not_mem_nil, or_false] at hx2
        rcases hx2 with rfl | rfl | rfl | rfl | rfl | rfl | rfl | rfl <;> omega
      · exact (List.mem_append.1 hx2).elim (u8 _ x) (u8 _ x)
    · exact (List.mem_append.1 hx2).elim (u8 _ x) (u8 _ x)
  · exact h.u8 x hx2
end Go.Proofs.Ytodckfgfbcnkoaa.pktS
/- Layer 14: Wrap. -/
namespace Go.Proofs.Ytodckfgfbcnkoaa.tunF
open Go.ChangeShapes Go.WideShapes Go.ChangeAt Go.RowKit
open Go.Proofs.Ytodckfgfbcnkoaa.base Go.Proofs.Ytodckfgfbcnkoaa.rdrA Go.Proofs.Ytodckfgfbcnkoaa.rdrG Go.Proofs.Ytodckfgfbcnkoaa.sumA Go.Proofs.Ytodckfgfbcnkoaa.sumB Go.Proofs.Ytodckfgfbcnkoaa.sixW Go.Proofs.Ytodckfgfbcnkoaa.sixM Go.Proofs.Ytodckfgfbcnkoaa.pktA Go.Proofs.Ytodckfgfbcnkoaa.pktB Go.Proofs.Ytodckfgfbcnkoaa.pktC Go.Proofs.Ytodckfgfbcnkoaa.pktE Go.Proofs.Ytodckfgfbcnkoaa.sixE Go.Proofs.Ytodckfgfbcnkoaa.tunW Go.Proofs.Ytodckfgfbcnkoaa.tunA Go.Proofs.Ytodckfgfbcnkoaa.pktL Go.Proofs.Ytodckfgfbcnkoaa.pktS
set_option linter.unusedVariables false

theorem four_df (pr sl dl : Int) (A : Option Addr) (n c : Nat) (bl : List Int) (w : World) (h : Sl w A n c bl) (hn : n ≤ 900) (h2 : 0 ≤ pr ∧ pr ≤ 255) (h3 : 0 ≤ sl ∧ sl ≤ 4294967295) (h4 : 0 ≤ dl ∧ dl ≤ 4294967295) :
    Calls Try.prog 38 #[.agg #[.int .i64 0, .int .i64 0, .bool true, .bool false, .int .i64 0, .int .i64 64, .int .i64 pr, .bool false, .int .u64 0, .int .u64 sl, .bool false, .int .u64 0, .int .u64 dl, .slice none 0 0], .slice A n c] w (MkP 0 (tw4 pr sl dl bl) w) := by
  have hl := h.len
  subst hl
  refine (fourE.bytes_any 0 0 true false 0 64 pr sl dl none 0 0 [] A bl.length c bl w ⟨by omega, by omega, by omega, by omega, h2, h3, h4, by omega, by omega⟩ rfl (.inl rfl) (fun _ => rfl) (fun x hx => by cases hx) rfl hn h.row h.nil _ rfl).mono ?_
  rintro o w' ⟨v, rfl, h5, h6⟩
  obtain ⟨B, d, rfl⟩ := own_slice h5
  refine ⟨h6, B, _, d, rfl, Sl.own h5 rfl ?_⟩
  have hfl : fourC.flz true false 0 = 16384 := rfl
  have hin := fourD.hk_in 0 0 (fourC.flz true false 0) 64 pr sl dl 0 (20 + ((0 : Nat) : Int) + (bl.length : Int)) [] (by omega) (by omega) (by rw [hfl]; omega) (by omega) h2 h3 h4 (by omega) (by omega) (by simp) (fun x hx => by cases hx)
  have hck := fo_bd _ (wsum_bd _ hin).1
  exact U8.join (fourD.hk_in 0 0 (fourC.flz true false 0) 64 pr sl dl _ (20 + ((0 : Nat) : Int) + (bl.length : Int)) [] (by omega) (by omega) (by rw [hfl]; omega) (by omega) h2 h3 h4 (by omega) (by omega) (by simp) (fun x hx => by cases hx)) h.u8
set_option maxHeartbeats 4000000 in
set_option maxRecDepth 100000 in
theorem wrap_N (s6 : Bool) (sh sl : Int) (d6 : Bool) (dh dl : Int) (A : Option Addr) (n c : Nat) (p e : Int) (he : e ≠ 0) (w : World)
    (HN : Hid (∀ V, Below w.heap.size w V → Calls Try.prog 29 #[.slice A n c] V fun o w' => o = .returned (.tuple #[.int .i64 p, .int .i64 e]) ∧ Below V.heap.size V w')) :
    Calls Try.prog 15 #[.agg #[.bool s6, .int .u64 sh, .int .u64 sl], .agg #[.bool d6, .int .u64 dh, .int .u64 dl], .slice A n c] w (MkP e [] w) := by
  have te : (e != 0) = true := by simpa using he
  clear he
  obtain ⟨w0, hw0⟩ : ∃ w0, w0 = w.alloc (.cells #[.bool s6, .int .u64 sh, .int .u64 sl] 32) := ⟨_, rfl⟩
  obtain ⟨w1, hw1⟩ : ∃ w1, w1 = w0.alloc (.cells #[.bool d6, .int .u64 dh, .int .u64 dl] 32) := ⟨_, rfl⟩
  obtain ⟨p1, hp1⟩ : ∃ p1, p1 = w.heap.size := ⟨_, rfl⟩
  obtain ⟨p2, hp2⟩ : ∃ p2, p2 = p1 + 1 := ⟨_, rfl⟩
  have E0 := Lib.hid hw0
  have E1 := Lib.hid hw1
  have EP1 := Lib.hid hp1
  have EP2 := Lib.hid hp2
  have B0 := Lib.hid (show Below w.heap.size w w0 from by rw [hw0]; exact (Below.refl _ _).alloc (Nat.le_refl _) _)
  have B01 := Lib.hid (show Below w0.heap.size w0 w1 from by rw [hw1]; exact (Below.refl _ _).alloc (Nat.le_refl _) _)
  have B1 := Lib.hid (B0.out.trans (B01.out.mono B0.out.size))
  have K0 := Lib.hid (show Blk w0 p1 32 #[.bool s6, .int .u64 sh, .int .u64 sl] from by rw [hw0, hp1]; exact Blk.new w _ _)
  have KA1 := Lib.hid (K0.out.below B01.out K0.out.lt)
  have KB1 := Lib.hid (show Blk w1 p2 32 #[.bool d6, .int .u64 dh, .int .u64 dl] from by
    have e9 : p2 = w0.heap.size := by rw [hp2, hp1, hw0]; simp
    rw [hw1, e9]; exact Blk.new w0 _ _)
  clear hw0 hw1 hp1 hp2
  go_enter Try.func15, Try.ntmps15
  go_upto_region 1 with fail
  rw [← E0.out, ← EP1.out, ← EP2.out, ← E1.out]
  go_wp2_with fail
  refine (HN.out _ B1.out).mono ?_
  rintro o w2 ⟨rfl, hb2⟩
  have KA2 := Lib.hid (KA1.out.below hb2 KA1.out.lt)
  have KB2 := Lib.hid (KB1.out.below hb2 KB1.out.lt)
  have B2 := Lib.hid (B1.out.trans (hb2.mono B1.out.size))
  clear hb2
  go_wp2_with fail
  go_ret2
  exact MkP.nil_ B2.out
set_option maxHeartbeats 4000000 in
set_option maxRecDepth 100000 in
theorem wrap_A (s6 : Bool) (sh sl : Int) (d6 : Bool) (dh dl : Int) (hv : s6 ≠ d6) (A : Option Addr) (n c : Nat) (p : Int) (w : World)
    (HN : Hid (∀ V, Below w.heap.size w V → Calls Try.prog 29 #[.slice A n c] V fun o w' => o = .returned (.tuple #[.int .i64 p, .int .i64 0]) ∧ Below V.heap.size V w')) :
    Calls Try.prog 15 #[.agg #[.bool s6, .int .u64 sh, .int .u64 sl], .agg #[.bool d6, .int .u64 dh, .int .u64 dl], .slice A n c] w (MkP 18 [] w) := by
  have tv : (s6 != d6) = true := by simpa using hv
  have tv2 : (s6 == d6) = false := by simpa using hv
  clear hv
  obtain ⟨w0, hw0⟩ : ∃ w0, w0 = w.alloc (.cells #[.bool s6, .int .u64 sh, .int .u64 sl] 32) := ⟨_, rfl⟩
  obtain ⟨w1, hw1⟩ : ∃ w1, w1 = w0.alloc (.cells #[.bool d6, .int .u64 dh, .int .u64 dl] 32) := ⟨_, rfl⟩
  obtain ⟨p1, hp1⟩ : ∃ p1, p1 = w.heap.size := ⟨_, rfl⟩
  obtain ⟨p2, hp2⟩ : ∃ p2, p2 = p1 + 1 := ⟨_, rfl⟩
  have E0 := Lib.hid hw0
  have E1 := Lib.hid hw1
  have EP1 := Lib.hid hp1
  have EP2 := Lib.hid hp2
  have B0 := Lib.hid (show Below w.heap.size w w0 from by rw [hw0]; exact (Below.refl _ _).alloc (Nat.le_refl _) _)
  have B01 := Lib.hid (show Below w0.heap.size w0 w1 from by rw [hw1]; exact (Below.refl _ _).alloc (Nat.le_refl _) _)
  have B1 := Lib.hid (B0.out.trans (B01.out.mono B0.out.size))
  have K0 := Lib.hid (show Blk w0 p1 32 #[.bool s6, .int .u64 sh, .int .u64 sl] from by rw [hw0, hp1]; exact Blk.new w _ _)
  have KA1 := Lib.hid (K0.out.below B01.out K0.out.lt)
  have KB1 := Lib.hid (show Blk w1 p2 32 #[.bool d6, .int .u64 dh, .int .u64 dl] from by
    have e9 : p2 = w0.heap.size := by rw [hp2, hp1, hw0]; simp
    rw [hw1, e9]; exact Blk.new w0 _ _)
  clear hw0 hw1 hp1 hp2
  go_enter Try.func15, Try.ntmps15
  go_upto_region 1 with fail
  rw [← E0.out, ← EP1.out, ← EP2.out, ← E1.out]
  go_wp2_with fail
  refine (HN.out _ B1.out).mono ?_
  rintro o w2 ⟨rfl, hb2⟩
  have KA2 := Lib.hid (KA1.out.below hb2 KA1.out.lt)
  have KB2 := Lib.hid (KB1.out.below hb2 KB1.out.lt)
  have B2 := Lib.hid (B1.out.trans (hb2.mono B1.out.size))
  clear hb2
  have x0 := KA2.out.cell 0
  have y0 := KB2.out.cell 0
  have x1 := KA2.out.cell 1
  have y1 := KB2.out.cell 1
  have x2 := KA2.out.cell 2
  have y2 := KB2.out.cell 2
  go_wp2_with fail
  go_ret2
  exact MkP.nil_ B2.out
set_option maxHeartbeats 4000000 in
set_option maxRecDepth 100000 in
theorem wrap_B (s6 : Bool) (sh sl dh dl : Int) (A : Option Addr) (n c : Nat) (p : Int) (w : World)
    (HN : Hid (∀ V, Below w.heap.size w V → Calls Try.prog 29 #[.slice A n c] V fun o w' => o = .returned (.tuple #[.int .i64 p, .int .i64 0]) ∧ Below V.heap.size V w'))
    (HRS : Hid (∀ V, Calls Try.prog 16 #[.agg #[.bool s6, .int .u64 sh, .int .u64 sl]] V fun o w' => o = .returned (.bool false) ∧ Below V.heap.size V w')) :
    Calls Try.prog 15 #[.agg #[.bool s6, .int .u64 sh, .int .u64 sl], .agg #[.bool s6, .int .u64 dh, .int .u64 dl], .slice A n c] w (MkP 18 [] w) := by
  have tv : (s6 != s6) = false := by simp
  have tv2 : (s6 == s6) = true := by simp
  obtain ⟨w0, hw0⟩ : ∃ w0, w0 = w.alloc (.cells #[.bool s6, .int .u64 sh, .int .u64 sl] 32) := ⟨_, rfl⟩
  obtain ⟨w1, hw1⟩ : ∃ w1, w1 = w0.alloc (.cells #[.bool s6, .int .u64 dh, .int .u64 dl] 32) := ⟨_, rfl⟩
  obtain ⟨p1, hp1⟩ : ∃ p1, p1 = w.heap.size := ⟨_, rfl⟩
  obtain ⟨p2, hp2⟩ : ∃ p2, p2 = p1 + 1 := ⟨_, rfl⟩
  have E0 := Lib.hid hw0
  have E1 := Lib.hid hw1
  have EP1 := Lib.hid hp1
  have EP2 := Lib.hid hp2
  have B0 := Lib.hid (show Below w.heap.size w w0 from by rw [hw0]; exact (Below.refl _ _).alloc (Nat.le_refl _) _)
  have B01 := Lib.hid (show Below w0.heap.size w0 w1 from by rw [hw1]; exact (Below.refl _ _).alloc (Nat.le_refl _) _)
  have B1 := Lib.hid (B0.out.trans (B01.out.mono B0.out.size))
  have K0 := Lib.hid (show Blk w0 p1 32 #[.bool s6, .int .u64 sh, .int .u64 sl] from by rw [hw0, hp1]; exact Blk.new w _ _)
  have KA1 := Lib.hid (K0.out.below B01.out K0.out.lt)
  have KB1 := Lib.hid (show Blk w1 p2 32 #[.bool s6, .int .u64 dh, .int .u64 dl] from by
    have e9 : p2 = w0.heap.size := by rw [hp2, hp1, hw0]; simp
    rw [hw1, e9]; exact Blk.new w0 _ _)
  clear hw0 hw1 hp1 hp2
  go_enter Try.func15, Try.ntmps15
  go_upto_region 1 with fail
  rw [← E0.out, ← EP1.out, ← EP2.out, ← E1.out]
  go_wp2_with fail
  refine (HN.out _ B1.out).mono ?_
  rintro o w2 ⟨rfl, hb2⟩
  have KA2 := Lib.hid (KA1.out.below hb2 KA1.out.lt)
  have KB2 := Lib.hid (KB1.out.below hb2 KB1.out.lt)
  have B2 := Lib.hid (B1.out.trans (hb2.mono B1.out.size))
  clear hb2
  have x0 := KA2.out.cell 0
  have y0 := KB2.out.cell 0
  have x1 := KA2.out.cell 1
  have y1 := KB2.out.cell 1
  have x2 := KA2.out.cell 2
  have y2 := KB2.out.cell 2
  go_wp2_with fail
  refine (HRS.out _).mono ?_
  rintro o w3 ⟨rfl, hb3⟩
  have KA3 := Lib.hid (KA2.out.below hb3 KA2.out.lt)
  have KB3 := Lib.hid (KB2.out.below hb3 KB2.out.lt)
  have B3 := Lib.hid (B2.out.trans (hb3.mono B2.out.size))
  clear hb3
  clear x0 y0 x1 y1 x2 y2
  have x0 := KA3.out.cell 0
  have y0 := KB3.out.cell 0
  have x1 := KA3.out.cell 1
  have y1 := KB3.out.cell 1
  have x2 := KA3.out.cell 2
  have y2 := KB3.out.cell 2
  go_wp2_with fail
  go_ret2
  exact MkP.nil_ B3.out
set_option maxHeartbeats 4000000 in
set_option maxRecDepth 100000 in
theorem wrap_C (s6 : Bool) (sh sl dh dl : Int) (A : Option Addr) (n c : Nat) (p : Int) (w : World)
    (HN : Hid (∀ V, Below w.heap.size w V → Calls Try.prog 29 #[.slice A n c] V fun o w' => o = .returned (.tuple #[.int .i64 p, .int .i64 0]) ∧ Below V.heap.size V w'))
    (HRS : Hid (∀ V, Calls Try.prog 16 #[.agg #[.bool s6, .int .u64 sh, .int .u64 sl]] V fun o w' => o = .returned (.bool true) ∧ Below V.heap.size V w'))
    (HRD : Hid (∀ V, Calls Try.prog 16 #[.agg #[.bool s6, .int .u64 dh, .int .u64 dl]] V fun o w' => o = .returned (.bool false) ∧ Below V.heap.size V w')) :
    Calls Try.prog 15 #[.agg #[.bool s6, .int .u64 sh, .int .u64 sl], .agg #[.bool s6, .int .u64 dh, .int .u64 dl], .slice A n c] w (MkP 18 [] w) := by
  have tv : (s6 != s6) = false := by simp
  have tv2 : (s6 == s6) = true := by simp
  obtain ⟨w0, hw0⟩ : ∃ w0, w0 = w.alloc (.cells #[.bool s6, .int .u64 sh, .int .u64 sl] 32) := ⟨_, rfl⟩
  obtain ⟨w1, hw1⟩ : ∃ w1, w1 = w0.alloc (.cells #[.bool s6, .int .u64 dh, .int .u64 dl] 32) := ⟨_, rfl⟩
  obtain ⟨p1, hp1⟩ : ∃ p1, p1 = w.heap.size := ⟨_, rfl⟩
  obtain ⟨p2, hp2⟩ : ∃ p2, p2 = p1 + 1 := ⟨_, rfl⟩
  have E0 := Lib.hid hw0
  have E1 := Lib.hid hw1
  have EP1 := Lib.hid hp1
  have EP2 := Lib.hid hp2
  have B0 := Lib.hid (show Below w.heap.size w w0 from by rw [hw0]; exact (Below.refl _ _).alloc (Nat.le_refl _) _)
  have B01 := Lib.hid (show Below w0.heap.size w0 w1 from by rw [hw1]; exact (Below.refl _ _).alloc (Nat.le_refl _) _)
  have B1 := Lib.hid (B0.out.trans (B01.out.mono B0.out.size))
  have K0 := Lib.hid (show Blk w0 p1 32 #[.bool s6, .int .u64 sh, .int .u64 sl] from by rw [hw0, hp1]; exact Blk.new w _ _)
  have KA1 := Lib.hid (K0.out.below B01.out K0.out.lt)
  have KB1 := Lib.hid (show Blk w1 p2 32 #[.bool s6, .int .u64 dh, .int .u64 dl] from by
    have e9 : p2 = w0.heap.size := by rw [hp2, hp1, hw0]; simp
    rw [hw1, e9]; exact Blk.new w0 _ _)
  clear hw0 hw1 hp1 hp2
  go_enter Try.func15, Try.ntmps15
  go_upto_region 1 with fail
  rw [← E0.out, ← EP1.out, ← EP2.out, ← E1.out]
  go_wp2_with fail
  refine (HN.out _ B1.out).mono ?_
  rintro o w2 ⟨rfl, hb2⟩
  have KA2 := Lib.hid (KA1.out.below hb2 KA1.out.lt)
  have KB2 := Lib.hid (KB1.out.below hb2 KB1.out.lt)
  have B2 := Lib.hid (B1.out.trans (hb2.mono B1.out.size))
  clear hb2
  have x0 := KA2.out.cell 0
  have y0 := KB2.out.cell 0
  have x1 := KA2.out.cell 1
  have y1 := KB2.out.cell 1
  have x2 := KA2.out.cell 2
  have y2 := KB2.out.cell 2
  go_wp2_with fail
  refine (HRS.out _).mono ?_
  rintro o w3 ⟨rfl, hb3⟩
  have KA3 := Lib.hid (KA2.out.below hb3 KA2.out.lt)
  have KB3 := Lib.hid (KB2.out.below hb3 KB2.out.lt)
  have B3 := Lib.hid (B2.out.trans (hb3.mono B2.out.size))
  clear hb3
  clear x0 y0 x1 y1 x2 y2
  have x0 := KA3.out.cell 0
  have y0 := KB3.out.cell 0
  have x1 := KA3.out.cell 1
  have y1 := KB3.out.cell 1
  have x2 := KA3.out.cell 2
  have y2 := KB3.out.cell 2
  go_wp2_with fail
  refine (HRD.out _).mono ?_
  rintro o w4 ⟨rfl, hb4⟩
  have KA4 := Lib.hid (KA3.out.below hb4 KA3.out.lt)
  have KB4 := Lib.hid (KB3.out.below hb4 KB3.out.lt)
  have B4 := Lib.hid (B3.out.trans (hb4.mono B3.out.size))
  clear hb4
  clear x0 y0 x1 y1 x2 y2
  have x0 := KA4.out.cell 0
  have y0 := KB4.out.cell 0
  have x1 := KA4.out.cell 1
  have y1 := KB4.out.cell 1
  have x2 := KA4.out.cell 2
  have y2 := KB4.out.cell 2
  go_wp2_with fail
  go_ret2
  exact MkP.nil_ B4.out
set_option maxHeartbeats 4000000 in
set_option maxRecDepth 100000 in
theorem wrap_6 (sh sl dh dl : Int) (A : Option Addr) (n c : Nat) (p : Int) (X : List Int) (w : World)
    (HN : Hid (∀ V, Below w.heap.size w V → Calls Try.prog 29 #[.slice A n c] V fun o w' => o = .returned (.tuple #[.int .i64 p, .int .i64 0]) ∧ Below V.heap.size V w'))
    (HRS : Hid (∀ V, Calls Try.prog 16 #[.agg #[.bool true, .int .u64 sh, .int .u64 sl]] V fun o w' => o = .returned (.bool true) ∧ Below V.heap.size V w'))
    (HRD : Hid (∀ V, Calls Try.prog 16 #[.agg #[.bool true, .int .u64 dh, .int .u64 dl]] V fun o w' => o = .returned (.bool true) ∧ Below V.heap.size V w'))
    (HB : Hid (∀ V, Below w.heap.size w V → Calls Try.prog 37 #[.agg #[.int .i64 0, .int .i64 0, .int .i64 64, .bool true, .int .u64 sh, .int .u64 sl, .bool true, .int .u64 dh, .int .u64 dl, .slice none 0 0, .int .i64 p], .slice A n c] V (MkP 0 X V))) :
    Calls Try.prog 15 #[.agg #[.bool true, .int .u64 sh, .int .u64 sl], .agg #[.bool true, .int .u64 dh, .int .u64 dl], .slice A n c] w (MkP 0 X w) := by
  obtain ⟨w0, hw0⟩ : ∃ w0, w0 = w.alloc (.cells #[.bool true, .int .u64 sh, .int .u64 sl] 32) := ⟨_, rfl⟩
  obtain ⟨w1, hw1⟩ : ∃ w1, w1 = w0.alloc (.cells #[.bool true, .int .u64 dh, .int .u64 dl] 32) := ⟨_, rfl⟩
  obtain ⟨p1, hp1⟩ : ∃ p1, p1 = w.heap.size := ⟨_, rfl⟩
  obtain ⟨p2, hp2⟩ : ∃ p2, p2 = p1 + 1 := ⟨_, rfl⟩
  have E0 := Lib.hid hw0
  have E1 := Lib.hid hw1
  have EP1 := Lib.hid hp1
  have EP2 := Lib.hid hp2
  have B0 := Lib.hid (show Below w.heap.size w w0 from by rw [hw0]; exact (Below.refl _ _).alloc (Nat.le_refl _) _)
  have B01 := Lib.hid (show Below w0.heap.size w0 w1 from by rw [hw1]; exact (Below.refl _ _).alloc (Nat.le_refl _) _)
  have B1 := Lib.hid (B0.out.trans (B01.out.mono B0.out.size))
  have K0 := Lib.hid (show Blk w0 p1 32 #[.bool true, .int .u64 sh, .int .u64 sl] from by rw [hw0, hp1]; exact Blk.new w _ _)
  have KA1 := Lib.hid (K0.out.below B01.out K0.out.lt)
  have KB1 := Lib.hid (show Blk w1 p2 32 #[.bool true, .int .u64 dh, .int .u64 dl] from by
    have e9 : p2 = w0.heap.size := by rw [hp2, hp1, hw0]; simp
    rw [hw1, e9]; exact Blk.new w0 _ _)
  clear hw0 hw1 hp1 hp2
  go_enter Try.func15, Try.ntmps15
  go_upto_region 1 with fail
  rw [← E0.out, ← EP1.out, ← EP2.out, ← E1.out]
  go_wp2_with fail
  refine (HN.out _ B1.out).mono ?_
  rintro o w2 ⟨rfl, hb2⟩
  have KA2 := Lib.hid (KA1.out.below hb2 KA1.out.lt)
  have KB2 := Lib.hid (KB1.out.below hb2 KB1.out.lt)
  have B2 := Lib.hid (B1.out.trans (hb2.mono B1.out.size))
  clear hb2
  have x0 := KA2.out.cell 0
  have y0 := KB2.out.cell 0
  have x1 := KA2.out.cell 1
  have y1 := KB2.out.cell 1
  have x2 := KA2.out.cell 2
  have y2 := KB2.out.cell 2
  go_wp2_with fail
  refine (HRS.out _).mono ?_
  rintro o w3 ⟨rfl, hb3⟩
  have KA3 := Lib.hid (KA2.out.below hb3 KA2.out.lt)
  have KB3 := Lib.hid (KB2.out.below hb3 KB2.out.lt)
  have B3 := Lib.hid (B2.out.trans (hb3.mono B2.out.size))
  clear hb3
  clear x0 y0 x1 y1 x2 y2
  have x0 := KA3.out.cell 0
  have y0 := KB3.out.cell 0
  have x1 := KA3.out.cell 1
  have y1 := KB3.out.cell 1
  have x2 := KA3.out.cell 2
  have y2 := KB3.out.cell 2
  go_wp2_with fail
  refine (HRD.out _).mono ?_
  rintro o w4 ⟨rfl, hb4⟩
  have KA4 := Lib.hid (KA3.out.below hb4 KA3.out.lt)
  have KB4 := Lib.hid (KB3.out.below hb4 KB3.out.lt)
  have B4 := Lib.hid (B3.out.trans (hb4.mono B3.out.size))
  clear hb4
  clear x0 y0 x1 y1 x2 y2
  have x0 := KA4.out.cell 0
  have y0 := KB4.out.cell 0
  have x1 := KA4.out.cell 1
  have y1 := KB4.out.cell 1
  have x2 := KA4.out.cell 2
  have y2 := KB4.out.cell 2
  go_wp2_with fail
  refine (HB.out _ B4.out).mono ?_
  rintro o w5 ⟨hb5, A5, n5, c5, rfl, hs5⟩
  have B5 := Lib.hid (B4.out.trans (hb5.mono B4.out.size))
  have S5 := Lib.hid hs5
  clear hb5 hs5
  go_wp2_with fail
  go_ret2
  exact ⟨B5.out, A5, n5, c5, rfl, S5.out⟩
set_option maxHeartbeats 4000000 in
set_option maxRecDepth 100000 in
theorem wrap_4 (sl dl : Int) (A : Option Addr) (n c : Nat) (p : Int) (X : List Int) (w : World)
    (HN : Hid (∀ V, Below w.heap.size w V → Calls Try.prog 29 #[.slice A n c] V fun o w' => o = .returned (.tuple #[.int .i64 p, .int .i64 0]) ∧ Below V.heap.size V w'))
    (HRS : Hid (∀ V, Calls Try.prog 16 #[.agg #[.bool false, .int .u64 0, .int .u64 sl]] V fun o w' => o = .returned (.bool true) ∧ Below V.heap.size V w'))
    (HRD : Hid (∀ V, Calls Try.prog 16 #[.agg #[.bool false, .int .u64 0, .int .u64 dl]] V fun o w' => o = .returned (.bool true) ∧ Below V.heap.size V w'))
    (HB : Hid (∀ V, Below w.heap.size w V → Calls Try.prog 38 #[.agg #[.int .i64 0, .int .i64 0, .bool true, .bool false, .int .i64 0, .int .i64 64, .int .i64 p, .bool false, .int .u64 0, .int .u64 sl, .bool false, .int .u64 0, .int .u64 dl, .slice none 0 0], .slice A n c] V (MkP 0 X V))) :
    Calls Try.prog 15 #[.agg #[.bool false, .int .u64 0, .int .u64 sl], .agg #[.bool false, .int .u64 0, .int .u64 dl], .slice A n c] w (MkP 0 X w) := by
  obtain ⟨w0, hw0⟩ : ∃ w0, w0 = w.alloc (.cells #[.bool false, .int .u64 0, .int .u64 sl] 32) := ⟨_, rfl⟩
  obtain ⟨w1, hw1⟩ : ∃ w1, w1 = w0.alloc (.cells #[.bool false, .int .u64 0, .int .u64 dl] 32) := ⟨_, rfl⟩
  obtain ⟨p1, hp1⟩ : ∃ p1, p1 = w.heap.size := ⟨_, rfl⟩
  obtain ⟨p2, hp2⟩ : ∃ p2, p2 = p1 + 1 := ⟨_, rfl⟩
  have E0 := Lib.hid hw0
  have E1 := Lib.hid hw1
  have EP1 := Lib.hid hp1
  have EP2 := Lib.hid hp2
  have B0 := Lib.hid (show Below w.heap.size w w0 from by rw [hw0]; exact (Below.refl _ _).alloc (Nat.le_refl _) _)
  have B01 := Lib.hid (show Below w0.heap.size w0 w1 from by rw [hw1]; exact (Below.refl _ _).alloc (Nat.le_refl _) _)
  have B1 := Lib.hid (B0.out.trans (B01.out.mono B0.out.size))
  have K0 := Lib.hid (show Blk w0 p1 32 #[.bool false, .int .u64 0, .int .u64 sl] from by rw [hw0, hp1]; exact Blk.new w _ _)
  have KA1 := Lib.hid (K0.out.below B01.out K0.out.lt)
  have KB1 := Lib.hid (show Blk w1 p2 32 #[.bool false, .int .u64 0, .int .u64 dl] from by
    have e9 : p2 = w0.heap.size := by rw [hp2, hp1, hw0]; simp
    rw [hw1, e9]; exact Blk.new w0 _ _)
  clear hw0 hw1 hp1 hp2
  go_enter Try.func15, Try.ntmps15
  go_upto_region 1 with fail
  rw [← E0.out, ← EP1.out, ← EP2.out, ← E1.out]
  go_wp2_with fail
  refine (HN.out _ B1.out).mono ?_
  rintro o w2 ⟨rfl, hb2⟩
  have KA2 := Lib.hid (KA1.out.below hb2 KA1.out.lt)
  have KB2 := Lib.hid (KB1.out.below hb2 KB1.out.lt)
  have B2 := Lib.hid (B1.out.trans (hb2.mono B1.out.size))
  clear hb2
  have x0 := KA2.out.cell 0
  have y0 := KB2.out.cell 0
  have x1 := KA2.out.cell 1
  have y1 := KB2.out.cell 1
  have x2 := KA2.out.cell 2
  have y2 := KB2.out.cell 2
  go_wp2_with fail
  refine (HRS.out _).mono ?_
  rintro o w3 ⟨rfl, hb3⟩
  have KA3 := Lib.hid (KA2.out.below hb3 KA2.out.lt)
  have KB3 := Lib.hid (KB2.out.below hb3 KB2.out.lt)
  have B3 := Lib.hid (B2.out.trans (hb3.mono B2.out.size))
  clear hb3
  clear x0 y0 x1 y1 x2 y2
  have x0 := KA3.out.cell 0
  have y0 := KB3.out.cell 0
  have x1 := KA3.out.cell 1
  have y1 := KB3.out.cell 1
  have x2 := KA3.out.cell 2
  have y2 := KB3.out.cell 2
  go_wp2_with fail
  refine (HRD.out _).mono ?_
  rintro o w4 ⟨rfl, hb4⟩
  have KA4 := Lib.hid (KA3.out.below hb4 KA3.out.lt)
  have KB4 := Lib.hid (KB3.out.below hb4 KB3.out.lt)
  have B4 := Lib.hid (B3.out.trans (hb4.mono B3.out.size))
  clear hb4
  clear x0 y0 x1 y1 x2 y2
  have x0 := KA4.out.cell 0
  have y0 := KB4.out.cell 0
  have x1 := KA4.out.cell 1
  have y1 := KB4.out.cell 1
  have x2 := KA4.out.cell 2
  have y2 := KB4.out.cell 2
  go_wp2_with fail
  refine (HB.out _ B4.out).mono ?_
  rintro o w5 ⟨hb5, A5, n5, c5, rfl, hs5⟩
  have B5 := Lib.hid (B4.out.trans (hb5.mono B4.out.size))
  have S5 := Lib.hid hs5
  clear hb5 hs5
  go_wp2_with fail
  go_ret2
  exact ⟨B5.out, A5, n5, c5, rfl, S5.out⟩
def wrP (s6 : Bool) (sh sl : Int) (d6 : Bool) (dh dl : Int) (l : List Int) : Int × List Int := if (numP l).2 ≠ 0 then ((numP l).2, []) else if s6 ≠ d6 ∨ okAd s6 sh sl = false ∨ okAd d6 dh dl = false then (18, []) else if s6 = true then (0, tw6 (numP l).1 sh sl dh dl l) else (0, tw4 (numP l).1 sl dl l)
theorem num_ok {l : List Int} (h : (numP l).2 = 0) : (numP l).1 = 4 ∨ (numP l).1 = 41 := by
  unfold numP at h ⊢
  split
  · rename_i a
    rw [if_pos a] at h
    cases h
  · rename_i a
    rw [if_neg a] at h
    split
    · exact .inl rfl
    · rename_i b
      rw [if_neg b] at h
      split
      · exact .inr rfl
      · rename_i c
        rw [if_neg c] at h
        cases h
theorem wrap_any (s6 : Bool) (sh sl : Int) (d6 : Bool) (dh dl : Int) (A : Option Addr) (n c : Nat) (l : List Int) (w : World) (h : Sl w A n c l) (hn : n ≤ 900) (b1 : 0 ≤ sh ∧ sh < 18446744073709551616) (b2 : 0 ≤ sl ∧ sl < 18446744073709551616) (b3 : 0 ≤ dh ∧ dh < 18446744073709551616) (b4 : 0 ≤ dl ∧ dl < 18446744073709551616) :
    Calls Try.prog 15 #[.agg #[.bool s6, .int .u64 sh, .int .u64 sl], .agg #[.bool d6, .int .u64 dh, .int .u64 dl], .slice A n c] w (MkP (wrP s6 sh sl d6 dh dl l).1 (wrP s6 sh sl d6 dh dl l).2 w) := by
  have HN := fun V (hV : Below w.heap.size w V) => number_any A n c l V (h.below hV)
  have hok := @num_ok l
  unfold wrP
  generalize numP l = z at HN hok ⊢
  obtain ⟨p, e⟩ := z
  simp only at HN hok ⊢
  by_cases he : e = 0
  · subst he
    rw [if_neg (by omega)]
    have hp := hok rfl
    by_cases hv : s6 = d6
    · subst hv
      have HS := fun V : World => aright_any s6 sh sl V b2.1
      have HD := fun V : World => aright_any s6 dh dl V b4.1
      cases ks : okAd s6 sh sl with
      | false =>
        rw [if_pos (.inr (.inl rfl))]
        rw [ks] at HS
        exact wrap_B s6 sh sl dh dl A n c p w (Lib.hid HN) (Lib.hid HS)
      | true =>
        rw [ks] at HS
        cases kd : okAd s6 dh dl with
        | false =>
          rw [if_pos (.inr (.inr rfl))]
          rw [kd] at HD
          exact wrap_C s6 sh sl dh dl A n c p w (Lib.hid HN) (Lib.hid HS) (Lib.hid HD)
        | true =>
          rw [if_neg (by rintro (a | a | a); · exact a rfl
                         · cases a
                         · cases a)]
          rw [kd] at HD
          cases s6 with
          | true =>
            rw [if_pos rfl]
            exact wrap_6 sh sl dh dl A n c p _ w (Lib.hid HN) (Lib.hid HS) (Lib.hid HD) (Lib.hid fun V hV => six_bytes 64 p sh sl dh dl A n c l V (h.below hV) hn (by omega) (by omega) (by rcases hp with rfl | rfl <;> decide) b1 b2 b3 b4)
          | false =>
            rw [if_neg (by decide)]
            have ks2 : sh = 0 ∧ sl < 4294967296 := by simpa [okAd] using ks
            have kd2 : dh = 0 ∧ dl < 4294967296 := by simpa [okAd] using kd
            obtain ⟨rfl, ks3⟩ := ks2
            obtain ⟨rfl, kd3⟩ := kd2
            exact wrap_4 sl dl A n c p _ w (Lib.hid HN) (Lib.hid HS) (Lib.hid HD) (Lib.hid fun V hV => four_df p sl dl A n c l V (h.below hV) hn (by omega) (by omega) (by omega))
    · rw [if_pos (.inl hv)]
      exact wrap_A s6 sh sl d6 dh dl hv A n c p w (Lib.hid HN)
  · rw [if_pos he]
    exact wrap_N s6 sh sl d6 dh dl A n c p e he w (Lib.hid HN)
end Go.Proofs.Ytodckfgfbcnkoaa.tunF
