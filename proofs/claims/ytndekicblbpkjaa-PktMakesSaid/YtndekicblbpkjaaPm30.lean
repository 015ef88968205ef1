/- 2 texts in one. -/
import Derived.Test.YtndekicblbpkjaaPm28
import Derived.Test.YtndekicblbpkjaaPm29
/- Layer 13: Datagram and Segment of any flow. -/
namespace Go.Proofs.Ytndekicblbpkjaa.pktS
open Go.ChangeShapes Go.WideShapes Go.ChangeAt Go.RowKit
open Go.Proofs.Ytndekicblbpkjaa.base Go.Proofs.Ytndekicblbpkjaa.octA Go.Proofs.Ytndekicblbpkjaa.rdrA Go.Proofs.Ytndekicblbpkjaa.rdrG Go.Proofs.Ytndekicblbpkjaa.sumA Go.Proofs.Ytndekicblbpkjaa.sumB Go.Proofs.Ytndekicblbpkjaa.sixW Go.Proofs.Ytndekicblbpkjaa.sixM Go.Proofs.Ytndekicblbpkjaa.pktA Go.Proofs.Ytndekicblbpkjaa.pktB Go.Proofs.Ytndekicblbpkjaa.pktC Go.Proofs.Ytndekicblbpkjaa.pktE Go.Proofs.Ytndekicblbpkjaa.sixE Go.Proofs.Ytndekicblbpkjaa.sixF Go.Proofs.Ytndekicblbpkjaa.pktG Go.Proofs.Ytndekicblbpkjaa.pktL Go.Proofs.Ytndekicblbpkjaa.pktL2 Go.Proofs.Ytndekicblbpkjaa.pktM Go.Proofs.Ytndekicblbpkjaa.pktR
set_option linter.unusedVariables false

def tcpM (sp dp fl : Int) (pl ps : List Int) : Int × List Int := if (0 ≤ sp ∧ sp ≤ 65535 ∧ 0 ≤ dp ∧ dp ≤ 65535) ∧ (0 ≤ fl ∧ fl ≤ 255) then (0, tcpLn.tk sp dp 0 0 fl 1024 0 (65535 - fo (wsum (ps ++ tcpLn.tk sp dp 0 0 fl 1024 0 0 [] pl))) [] pl) else (1, [])
theorem tcp_bytes (sp dp fl : Int) (A A2 : Option Addr) (n c n2 c2 : Nat) (pl ps : List Int) (w : World) (h : Sl w A n c pl) (h2 : Sl w A2 n2 c2 ps) (hn : n ≤ 500) (hn2 : n2 ≤ 1000) :
    Calls Try.prog 67 #[.agg #[.int .i64 sp, .int .i64 dp, .int .u32 0, .int .u32 0, .int .i64 fl, .int .i64 1024, .int .i64 0, .slice none 0 0], .slice A n c, .slice A2 n2 c2] w (MkP (tcpM sp dp fl pl ps).1 (tcpM sp dp fl pl ps).2 w) := by
  unfold tcpM
  by_cases hp : (0 ≤ sp ∧ sp ≤ 65535 ∧ 0 ≤ dp ∧ dp ≤ 65535) ∧ (0 ≤ fl ∧ fl ≤ 255)
  · rw [if_pos hp]
    obtain ⟨⟨p1, p2, p3, p4⟩, p5, p6⟩ := hp
    refine (tcpNn.bytes_tk sp dp 0 0 fl 1024 0 none 0 0 [] A A2 n c n2 c2 pl ps w p1 p2 p3 p4 p5 p6 (by omega) (by omega) (by omega) (by omega) (by omega) rfl (by omega) (by omega) (by omega) (by omega) rfl (.inl rfl) (fun _ => rfl) (fun x hx => by cases hx) h.len hn h.row h.nil h.u8 h2.len hn2 h2.row h2.u8).mono ?_
    rintro o w' ⟨v, rfl, h3, h4⟩
    obtain ⟨B, d, rfl⟩ := own_slice h3
    have hin : ∀ x ∈ ps ++ tcpLn.tk sp dp 0 0 fl 1024 0 0 [] pl, 0 ≤ x ∧ x ≤ 255 := fun x hx => (List.mem_append.1 hx).elim (h2.u8 x) (tcpNn.tk_in sp dp 0 0 fl 1024 0 0 [] pl p1 p2 p3 p4 (by omega) (by omega) (by omega) (by omega) p5 p6 (by omega) (by omega) (by omega) (by omega) (by omega) (by omega) (by simp) (fun x hx => by cases hx) h.u8 x)
    have fb := fo_bd _ (wsum_bd _ hin).1
    refine ⟨h4, B, _, d, rfl, Sl.own h3 ?_ (tcpNn.tk_in sp dp 0 0 fl 1024 0 _ [] pl p1 p2 p3 p4 (by omega) (by omega) (by omega) (by omega) p5 p6 (by omega) (by omega) (by omega) (by omega) (by omega) (by omega) (by simp) (fun x hx => by cases hx) h.u8)⟩
    rw [(tcpLn.tk_says sp dp 0 0 fl 1024 0 _ [] pl rfl).1, h.len]
    rfl
  · rw [if_neg hp]
    refine (tcpMn.bytes_wrong sp dp fl A A2 n c n2 c2 w (fun ⟨a, b, _, _, e, _⟩ => hp ⟨⟨a.1, a.2, b.1, b.2⟩, e⟩)).mono ?_
    rintro o w' ⟨rfl, h4⟩
    exact MkP.nil_ h4
theorem six_bytes (ttl pr sh sl dh dl : Int) (A : Option Addr) (n c : Nat) (bl : List Int) (w : World) (h : Sl w A n c bl) (hn : n ≤ 900) (h1 : 0 ≤ ttl ∧ ttl ≤ 255) (h2 : 0 ≤ pr ∧ pr ≤ 255) (h3 : isX pr = false) (b1 : 0 ≤ sh ∧ sh < 18446744073709551616) (b2 : 0 ≤ sl ∧ sl < 18446744073709551616) (b3 : 0 ≤ dh ∧ dh < 18446744073709551616) (b4 : 0 ≤ dl ∧ dl < 18446744073709551616) :
    Calls Try.prog 18 #[.agg #[.int .i64 0, .int .i64 0, .int .i64 ttl, .bool true, .int .u64 sh, .int .u64 sl, .bool true, .int .u64 dh, .int .u64 dl, .slice none 0 0, .int .i64 pr], .slice A n c] w (MkP 0 (mkB6 ttl pr sh sl dh dl bl) w) := by
  refine (sixQ.bytes_any ⟨0, 0, ttl, true, sh, sl, true, dh, dl, pr⟩ none 0 0 [] A n c bl w rfl (⟨.inl rfl, fun o ho => by cases ho⟩ : RdX w none []) (Nat.le_refl _) (right6 ttl pr sh sl dh dl h1 h2 h3) b1 b2 b3 b4 h.len h.row (by omega) h.nil).mono ?_
  rintro o w' ⟨v, rfl, h5, h6⟩
  obtain ⟨B, d, rfl⟩ := own_slice h5
  refine ⟨h6, B, _, d, rfl, Sl.own h5 rfl ?_⟩
  have u8 : ∀ n : Int, U8 (pb n 8 8) := fun n => pb_u8 n 8 8
  intro x hx
  have hx2 : x ∈ sixK.hdB ⟨0, 0, ttl, true, sh, sl, true, dh, dl, pr⟩ pr (extL [] + bl.length) ++ ([] ++ bl) := hx
  unfold sixK.hdB sixK.hd8 at hx2
  rw [List.nil_append] at hx2
  have hbn := h.len
  rcases List.mem_append.1 hx2 with hx2 | hx2
  · rcases List.mem_append.1 hx2 with hx2 | hx2
    · rcases List.mem_append.1 hx2 with hx2 | hx2
      · simp only [List.mem_cons, List.not_mem_nil, or_false] at hx2
        rcases hx2 with rfl | rfl | rfl | rfl | rfl | rfl | rfl | rfl <;> omega
      · exact (List.mem_append.1 hx2).elim (u8 _ x) (u8 _ x)
    · exact (List.mem_append.1 hx2).elim (u8 _ x) (u8 _ x)
  · exact h.u8 x hx2
theorem six_bad (ttl pr sh sl dh dl : Int) (rv : Value) (w : World) (h1 : ¬ (0 ≤ ttl ∧ ttl ≤ 255)) :
    Calls Try.prog 18 #[.agg #[.int .i64 0, .int .i64 0, .int .i64 ttl, .bool true, .int .u64 sh, .int .u64 sl, .bool true, .int .u64 dh, .int .u64 dl, .slice none 0 0, .int .i64 pr], rv] w (MkP 1 [] w) := by
  refine (sixZn.bytes_no 0 0 ttl true sh sl true dh dl pr none 0 0 rv w (Lib.hid fun V hV => ?_)).mono ?_
  · refine (sixH.right_any ⟨0, 0, ttl, true, sh, sl, true, dh, dl, pr⟩ none 0 0 [] V rfl (⟨.inl rfl, fun o ho => by cases ho⟩ : RdX V none []) (Nat.le_refl _) (by omega) (fun x hx => by cases hx)).mono ?_
    rintro o w' ⟨v, rfl, h2, h3⟩
    cases v with
    | false => exact ⟨rfl, h3⟩
    | true => exact absurd ⟨(h2.mp rfl).h0, (h2.mp rfl).h1⟩ h1
  · rintro o w' ⟨rfl, h4⟩
    exact MkP.nil_ h4
set_option maxHeartbeats 4000000 in
theorem sg_closure (pr : Int) (s6 : Bool) (sh sl : Int) (d6 : Bool) (dh dl sp dp fl : Int) (c1 c2 c3 : Nat) (A A2 : Option Addr) (n c n2 cc2 : Nat) (e : Int) (bs : List Int) (w : World)
    (K1 : Blk w c1 48 #[.int .i64 pr, .bool s6, .int .u64 sh, .int .u64 sl, .bool d6, .int .u64 dh, .int .u64 dl, .int .i64 sp, .int .i64 dp]) (K2 : Blk w c2 3 #[.int .i64 fl]) (K3 : Blk w c3 22 #[.slice A n c])
    (HC : Hid (Calls Try.prog 67 #[.agg #[.int .i64 sp, .int .i64 dp, .int .u32 0, .int .u32 0, .int .i64 fl, .int .i64 1024, .int .i64 0, .slice none 0 0], .slice A n c, .slice A2 n2 cc2] w (MkP e bs w))) :
    Calls Try.prog 66 #[.slice A2 n2 cc2, .pointer (some ⟨c1, 0, none⟩), .pointer (some ⟨c2, 0, none⟩), .pointer (some ⟨c3, 0, none⟩)] w (MkP e bs w) := by
  have p7 := K1.cell 7
  have p8 := K1.cell 8
  have q0 := K2.cell 0
  have r0 := K3.cell 0
  go_enter Try.func66, Try.ntmps66
  go_wp2_with fail
  refine HC.out.mono ?_
  rintro o w4 ⟨hb4, A4, n4, c4, rfl, hs4⟩
  go_wp2_with fail
  go_ret2
  exact ⟨hb4, A4, n4, c4, rfl, hs4⟩
set_option maxHeartbeats 4000000 in
theorem segm_not (pr : Int) (s6 : Bool) (sh sl : Int) (d6 : Bool) (dh dl sp dp ttl fl : Int) (A : Option Addr) (n c : Nat) (w : World) (h : pr ≠ 6 ∨ s6 ≠ d6) :
    Calls Try.prog 34 #[.agg #[.int .i64 pr, .bool s6, .int .u64 sh, .int .u64 sl, .bool d6, .int .u64 dh, .int .u64 dl, .int .i64 sp, .int .i64 dp], .int .i64 ttl, .int .i64 fl, .slice A n c] w (MkP 1 [] w) := by
  have B0 := Lib.hid (show Below w.heap.size w (((w.alloc (.cells #[.int .i64 pr, .bool s6, .int .u64 sh, .int .u64 sl, .bool d6, .int .u64 dh, .int .u64 dl, .int .i64 sp, .int .i64 dp] 48)).alloc (.cells #[.int .i64 fl] 3)).alloc (.cells #[.slice A n c] 22)) from (((Below.refl _ _).alloc (Nat.le_refl _) _).alloc (by simp) _).alloc (by simp; omega) _)
  by_cases h17 : pr = 6
  · have h2 : s6 ≠ d6 := by rcases h with h | h <;> first | omega | exact h
    subst h17
    have tv : (s6 == d6) = false := by simpa using h2
    clear h h2
    go_enter Try.func34, Try.ntmps34
    go_wp2_with fail
    go_ret2
    exact MkP.nil_ B0.out
  · have t17 : (pr != 6) = true := by simpa using h17
    clear h h17
    go_enter Try.func34, Try.ntmps34
    go_wp2_with fail
    go_ret2
    exact MkP.nil_ B0.out
set_option maxHeartbeats 4000000 in
theorem segm_go (s6 : Bool) (sh sl : Int) (dh dl sp dp ttl fl : Int) (A : Option Addr) (n c : Nat) (e : Int) (bs : List Int) (w : World) (hn : n ≤ 1000)
    (HW : Hid (∀ V c1 c2 c3, Below w.heap.size w V → Blk V c1 48 #[.int .i64 6, .bool s6, .int .u64 sh, .int .u64 sl, .bool s6, .int .u64 dh, .int .u64 dl, .int .i64 sp, .int .i64 dp] → Blk V c2 3 #[.int .i64 fl] → Blk V c3 22 #[.slice A n c] → Calls Try.prog 63 #[.agg #[.int .i64 6, .bool s6, .int .u64 sh, .int .u64 sl, .bool s6, .int .u64 dh, .int .u64 dl, .int .i64 sp, .int .i64 dp], .int .i64 ttl, .int .i64 (20 + (n : Int)), .func (.func 66) #[] #[.pointer (some ⟨c1, 0, none⟩), .pointer (some ⟨c2, 0, none⟩), .pointer (some ⟨c3, 0, none⟩)]] V (MkP e bs V))) :
    Calls Try.prog 34 #[.agg #[.int .i64 6, .bool s6, .int .u64 sh, .int .u64 sl, .bool s6, .int .u64 dh, .int .u64 dl, .int .i64 sp, .int .i64 dp], .int .i64 ttl, .int .i64 fl, .slice A n c] w (MkP e bs w) := by
  have hmf : ∀ (fn : Fn) (first cap : Array Value) (w : World), (Instr.makeFunc fn first cap).run Try.prog w = .ok (.func fn first cap) w := fun _ _ _ _ => rfl
  obtain ⟨w0, hw0⟩ : ∃ w0, w0 = (w.alloc (.cells #[.int .i64 6, .bool s6, .int .u64 sh, .int .u64 sl, .bool s6, .int .u64 dh, .int .u64 dl, .int .i64 sp, .int .i64 dp] 48)).alloc (.cells #[.int .i64 fl] 3) := ⟨_, rfl⟩
  obtain ⟨w1, hw1⟩ : ∃ w1, w1 = w0.alloc (.cells #[.slice A n c] 22) := ⟨_, rfl⟩
  have E1 := Lib.hid (show w1 = ((w.alloc (.cells #[.int .i64 6, .bool s6, .int .u64 sh, .int .u64 sl, .bool s6, .int .u64 dh, .int .u64 dl, .int .i64 sp, .int .i64 dp] 48)).alloc (.cells #[.int .i64 fl] 3)).alloc (.cells #[.slice A n c] 22) from by rw [hw1, hw0])
  have B0 := (show Below w.heap.size w w0 from by rw [hw0]; exact ((Below.refl _ _).alloc (Nat.le_refl _) _).alloc (by simp) _)
  have s0 : w0.heap.size = w.heap.size + 2 := by rw [hw0]; simp
  have B1 := Lib.hid (show Below w.heap.size w w1 from by rw [hw1]; exact B0.alloc B0.size _)
  obtain ⟨g, hg⟩ : ∃ g, g = w.heap.size := ⟨_, rfl⟩
  obtain ⟨q, hq⟩ : ∃ q, q = w.heap.size + 1 := ⟨_, rfl⟩
  obtain ⟨r, hr⟩ : ∃ r, r = w.heap.size + 1 + 1 := ⟨_, rfl⟩
  have EG := Lib.hid hg
  have EQ := Lib.hid hq
  have ER := Lib.hid hr
  have B01 := (show Below w0.heap.size w0 w1 from by rw [hw1]; exact (Below.refl _ _).alloc (Nat.le_refl _) _)
  have KP0 := (show Blk w0 g 48 #[.int .i64 6, .bool s6, .int .u64 sh, .int .u64 sl, .bool s6, .int .u64 dh, .int .u64 dl, .int .i64 sp, .int .i64 dp] from by rw [hw0, hg]; exact (Blk.new w _ _).below ((Below.refl _ _).alloc (Nat.le_refl _) _) (Blk.new w _ _).lt)
  have KQ0 := (show Blk w0 q 3 #[.int .i64 fl] from by
    have h9 := Blk.new (w.alloc (.cells #[.int .i64 6, .bool s6, .int .u64 sh, .int .u64 sl, .bool s6, .int .u64 dh, .int .u64 dl, .int .i64 sp, .int .i64 dp] 48)) 3 #[.int .i64 fl]
    rw [← hw0] at h9
    rw [hq]
    simpa using h9)
  have KP := Lib.hid (KP0.below B01 KP0.lt)
  have KQ := Lib.hid (KQ0.below B01 KQ0.lt)
  have KR := Lib.hid (show Blk w1 r 22 #[.slice A n c] from by rw [hw1, hr, show w.heap.size + 1 + 1 = w0.heap.size from s0.symm]; exact Blk.new w0 _ _)
  have HW1 := Lib.hid (HW.out w1 g q r B1.out KP.out KQ.out KR.out)
  have tv : (s6 == s6) = true := by simp
  clear hw0 hw1 hg hq hr B0 s0 B01 KP0 KQ0
  go_enter Try.func34, Try.ntmps34
  go_upto_region 1 with fail
  rw [← E1.out, ← ER.out, ← EQ.out, ← EG.out]
  have p0 := KP.out.cell 0
  have p1 := KP.out.cell 1
  have p2 := KP.out.cell 2
  have p3 := KP.out.cell 3
  have p4 := KP.out.cell 4
  have p5 := KP.out.cell 5
  have p6 := KP.out.cell 6
  have p7 := KP.out.cell 7
  have p8 := KP.out.cell 8
  have r0 := KR.out.cell 0
  go_wp2_with fail
  refine HW1.out.mono ?_
  rintro o w4 ⟨hb4, A4, n4, c4, rfl, hs4⟩
  have B4 := Lib.hid (B1.out.trans (hb4.mono B1.out.size))
  clear hb4
  go_wp2_with fail
  go_ret2
  exact ⟨B4.out, A4, n4, c4, rfl, hs4⟩
def Made (pr : Int) (s6 : Bool) (sh sl : Int) (d6 : Bool) (dh dl sp dp ttl fl proto : Int) : Prop := pr = proto ∧ s6 = d6 ∧ (0 ≤ ttl ∧ ttl ≤ 255) ∧ (0 ≤ sp ∧ sp ≤ 65535 ∧ 0 ≤ dp ∧ dp ≤ 65535) ∧ (0 ≤ fl ∧ fl ≤ 255) ∧ (s6 = true ∨ (sh = 0 ∧ dh = 0 ∧ sl < 4294967296 ∧ dl < 4294967296))
theorem dgram_with (s6 : Bool) (sh sl dh dl sp dp ttl fl : Int) (A : Option Addr) (n c : Nat) (pl : List Int) (w : World) (h : Sl w A n c pl) (hn : n ≤ 500) (b1 : 0 ≤ sh ∧ sh < 18446744073709551616) (b2 : 0 ≤ sl ∧ sl < 18446744073709551616) (b3 : 0 ≤ dh ∧ dh < 18446744073709551616) (b4 : 0 ≤ dl ∧ dl < 18446744073709551616) (ps : List Int) (hps : ps = psd s6 sh sl dh dl 17 (8 + (pl.length : Int))) (e e2 : Int) (bs out : List Int) (hM : udpM sp dp pl ps = (e, bs))
    (HB : (e ≠ 0 ∧ e2 = e ∧ out = []) ∨ (e = 0 ∧ s6 = false ∧ ∀ V A2 n2 k2, Below w.heap.size w V → Sl V A2 n2 k2 bs → Calls Try.prog 89 #[.agg #[.int .i64 0, .int .i64 0, .bool false, .bool false, .int .i64 0, .int .i64 ttl, .int .i64 17, .bool false, .int .u64 sh, .int .u64 sl, .bool false, .int .u64 dh, .int .u64 dl, .slice none 0 0], .slice A2 n2 k2] V (MkP e2 out V)) ∨ (e = 0 ∧ s6 = true ∧ ∀ V A2 n2 k2, Below w.heap.size w V → Sl V A2 n2 k2 bs → Calls Try.prog 18 #[.agg #[.int .i64 0, .int .i64 0, .int .i64 ttl, .bool true, .int .u64 sh, .int .u64 sl, .bool true, .int .u64 dh, .int .u64 dl, .slice none 0 0, .int .i64 17], .slice A2 n2 k2] V (MkP e2 out V))) :
    Calls Try.prog 33 #[.agg #[.int .i64 17, .bool s6, .int .u64 sh, .int .u64 sl, .bool s6, .int .u64 dh, .int .u64 dl, .int .i64 sp, .int .i64 dp], .int .i64 ttl, .slice A n c] w (MkP e2 out w) := by
  have hl := h.len
  have hp40 : ps.length ≤ 1000 := by rw [hps]; have := psd_len s6 sh sl dh dl 17 (8 + (pl.length : Int)); omega
  have HPS := fun V => psd_any s6 sh sl s6 dh dl 17 (8 + (n : Int)) V b1 b2 b3 b4 (by omega) (by omega)
  rw [← hl] at HPS
  rw [← hps] at HPS
  refine dgram_go s6 sh sl dh dl sp dp ttl A n c _ _ w (by omega) (Lib.hid fun V c1 c2 hV k1 k2 => ?_)
  have HC : ∀ W A2 n2 cc2, Below V.heap.size V W → Sl W A2 n2 cc2 ps → Calls Try.prog 64 #[.slice A2 n2 cc2, .pointer (some ⟨c1, 0, none⟩), .pointer (some ⟨c2, 0, none⟩)] W (MkP e bs W) := fun W A2 n2 cc2 hW hs => by
    have h9 := udp_bytes sp dp A A2 n c n2 cc2 pl ps W (h.below (hV.trans (hW.mono hV.size))) hs (by omega) (by have := hs.len; omega)
    rw [hM] at h9
    exact dg_closure 17 s6 sh sl s6 dh dl sp dp c1 c2 A A2 n c n2 cc2 e bs W (k1.below hW k1.lt) (k2.below hW k2.lt) (Lib.hid h9)
  rw [← hl]
  rcases HB with ⟨he, rfl, rfl⟩ | ⟨rfl, rfl, HB⟩ | ⟨rfl, rfl, HB⟩
  · exact whole_dg_bad 17 s6 sh sl s6 dh dl sp dp ttl _ c1 c2 ps bs e2 he V (Lib.hid fun W hW => HPS W) (Lib.hid HC)
  · exact whole_dg_four 17 sh sl false dh dl sp dp ttl _ c1 c2 ps bs _ _ V (Lib.hid fun W hW => HPS W) (Lib.hid HC) (Lib.hid fun W A2 n2 k2 hW hs => HB W A2 n2 k2 (hV.trans (hW.mono hV.size)) hs)
  · exact whole_dg_six 17 sh sl true dh dl sp dp ttl _ c1 c2 ps bs _ _ V (Lib.hid fun W hW => HPS W) (Lib.hid HC) (Lib.hid fun W A2 n2 k2 hW hs => HB W A2 n2 k2 (hV.trans (hW.mono hV.size)) hs)
theorem dgram_made (pr : Int) (s6 : Bool) (sh sl : Int) (d6 : Bool) (dh dl sp dp ttl fl : Int) (pl : List Int) (hn : pl.length ≤ 500) (hu : U8 pl) (b1 : 0 ≤ sh ∧ sh < 18446744073709551616) (b2 : 0 ≤ sl ∧ sl < 18446744073709551616) (b3 : 0 ≤ dh ∧ dh < 18446744073709551616) (b4 : 0 ≤ dl ∧ dl < 18446744073709551616) (hm : Made pr s6 sh sl d6 dh dl sp dp ttl 0 17) :
    ∃ B : List Int, B.length = (if s6 = true then 40 else 20) + 8 + pl.length ∧ B.drop ((if s6 = true then 40 else 20) + 8) = pl ∧ pkP B = (⟨s6, ⟨pr, s6, sh, sl, d6, dh, dl, sp, dp⟩, ttl, 0, false, zeroT, (B.length : Int)⟩, 0) ∧ ∀ (A : Option Addr) (n c : Nat) (w : World), Sl w A n c pl →
      Calls Try.prog 33 #[.agg #[.int .i64 pr, .bool s6, .int .u64 sh, .int .u64 sl, .bool d6, .int .u64 dh, .int .u64 dl, .int .i64 sp, .int .i64 dp], .int .i64 ttl, .slice A n c] w (MkP 0 B w) := by
  obtain ⟨rfl, rfl, ht, hp, hf, ha⟩ := hm
  obtain ⟨ps, hps⟩ : ∃ ps, ps = psd s6 sh sl dh dl 17 (8 + (pl.length : Int)) := ⟨_, rfl⟩
  obtain ⟨bs, hbs⟩ : ∃ bs, bs = udpB.ub sp dp pl (udpB.chkZ (ps ++ udpB.ub sp dp pl 0)) := ⟨_, rfl⟩
  have hM : udpM sp dp pl ps = (0, bs) := by unfold udpM; rw [if_pos hp, hbs]
  have hPA := fun v6 d6 sz => udp_parse v6 s6 sh sl d6 dh dl sp dp ttl sz pl hp (by omega) hu bs (by rw [hbs, hps])
  have hlb : bs.length = 8 + pl.length := by
    rw [hbs]
    exact udpB.ub_len _ _ _ _
  have hdb : bs.drop 8 = pl := by
    rw [hbs]
    rfl
  cases s6 with
  | false =>
    obtain ⟨rfl, rfl, hs, hd⟩ : sh = 0 ∧ dh = 0 ∧ sl < 4294967296 ∧ dl < 4294967296 := by
      rcases ha with ha | ha
      · cases ha
      · exact ha
    refine ⟨mkB4 ttl 17 sl dl bs, by rw [mk4_len, hlb, if_neg (by decide)]; omega, ?_, ?_, fun A n c w h => ?_⟩
    · rw [if_neg (by decide), ← List.drop_drop, mk4_drop, hdb]
    · rw [mk4_parse ttl 17 sl dl bs ht (by omega) ⟨b2.1, by omega⟩ ⟨b4.1, by omega⟩ (by omega), hPA false false, mk4_len]
      rfl
    · refine dgram_with false 0 sl 0 dl sp dp ttl fl A n c pl w h (by have := h.len; omega) b1 b2 b3 b4 ps hps 0 0 bs _ hM (.inr (.inl ⟨rfl, rfl, fun V A2 n2 k2 hV hs2 => ?_⟩))
      have h9 := four_bytes ttl 17 0 sl false 0 dl A2 n2 k2 bs V hs2 (by have := hs2.len; omega) b2.1 b4.1
      unfold fourM at h9
      rw [if_pos ⟨ht, by omega, ⟨rfl, by omega⟩, rfl, rfl, by omega⟩] at h9
      exact h9
  | true =>
    obtain ⟨m1, m2⟩ := mk6_parse ttl 17 sh sl dh dl bs ht (by omega) (by decide) b1 b2 b3 b4 (by omega)
    refine ⟨mkB6 ttl 17 sh sl dh dl bs, by rw [m2, hlb, if_pos rfl]; omega, ?_, ?_, fun A n c w h => ?_⟩
    · rw [if_pos rfl, ← List.drop_drop, mk6_drop, hdb]
    · rw [m1, hPA true true, m2]
      rfl
    · refine dgram_with true sh sl dh dl sp dp ttl fl A n c pl w h (by have := h.len; omega) b1 b2 b3 b4 ps hps 0 0 bs _ hM (.inr (.inr ⟨rfl, rfl, fun V A2 n2 k2 hV hs2 => ?_⟩))
      exact six_bytes ttl 17 sh sl dh dl A2 n2 k2 bs V hs2 (by have := hs2.len; omega) ht (by omega) (by decide) b1 b2 b3 b4
theorem dgram_bad (pr : Int) (s6 : Bool) (sh sl : Int) (d6 : Bool) (dh dl sp dp ttl fl : Int) (A : Option Addr) (n c : Nat) (pl : List Int) (w : World) (h : Sl w A n c pl) (hn : n ≤ 500) (b1 : 0 ≤ sh ∧ sh < 18446744073709551616) (b2 : 0 ≤ sl ∧ sl < 18446744073709551616) (b3 : 0 ≤ dh ∧ dh < 18446744073709551616) (b4 : 0 ≤ dl ∧ dl < 18446744073709551616) (hm : ¬ Made pr s6 sh sl d6 dh dl sp dp ttl 0 17) :
    Calls Try.prog 33 #[.agg #[.int .i64 pr, .bool s6, .int .u64 sh, .int .u64 sl, .bool d6, .int .u64 dh, .int .u64 dl, .int .i64 sp, .int .i64 dp], .int .i64 ttl, .slice A n c] w (MkP 1 [] w) := by
  have hl := h.len
  by_cases hx : pr ≠ 17 ∨ s6 ≠ d6
  · exact dgram_not pr s6 sh sl d6 dh dl sp dp ttl A n c w hx
  obtain rfl : pr = 17 := Classical.byContradiction fun e => hx (.inl e)
  obtain rfl : s6 = d6 := Classical.byContradiction fun e => hx (.inr e)
  obtain ⟨ps, hps⟩ : ∃ ps, ps = psd s6 sh sl dh dl 17 (8 + (pl.length : Int)) := ⟨_, rfl⟩
  by_cases hp : 0 ≤ sp ∧ sp ≤ 65535 ∧ 0 ≤ dp ∧ dp ≤ 65535
  · obtain ⟨bs, hbs⟩ : ∃ bs, bs = udpB.ub sp dp pl (udpB.chkZ (ps ++ udpB.ub sp dp pl 0)) := ⟨_, rfl⟩
    have hM : udpM sp dp pl ps = (0, bs) := by unfold udpM; rw [if_pos hp, hbs]
    have hlb : bs.length = 8 + pl.length := by
      rw [hbs]
      exact udpB.ub_len _ _ _ _
    cases s6 with
    | false =>
      refine dgram_with false sh sl dh dl sp dp ttl fl A n c pl w h hn b1 b2 b3 b4 ps hps 0 1 bs _ hM (.inr (.inl ⟨rfl, rfl, fun V A2 n2 k2 hV hs2 => ?_⟩))
      have h9 := four_bytes ttl 17 sh sl false dh dl A2 n2 k2 bs V hs2 (by have := hs2.len; omega) b2.1 b4.1
      unfold fourM at h9
      rw [if_neg (fun ⟨a1, _, ⟨a3, a4⟩, _, a5, a6⟩ => hm ⟨rfl, rfl, a1, hp, by omega, .inr ⟨a3, a5, by omega, by omega⟩⟩)] at h9
      exact h9
    | true =>
      refine dgram_with true sh sl dh dl sp dp ttl fl A n c pl w h hn b1 b2 b3 b4 ps hps 0 1 bs _ hM (.inr (.inr ⟨rfl, rfl, fun V A2 n2 k2 hV hs2 => ?_⟩))
      exact six_bad ttl 17 sh sl dh dl _ V (fun a => hm ⟨rfl, rfl, a, hp, by omega, .inl rfl⟩)
  · have hM : udpM sp dp pl ps = (1, []) := by unfold udpM; rw [if_neg hp]
    exact dgram_with s6 sh sl dh dl sp dp ttl fl A n c pl w h hn b1 b2 b3 b4 ps hps 1 1 [] [] hM (.inl ⟨by decide, rfl, rfl⟩)
theorem segm_with (s6 : Bool) (sh sl dh dl sp dp ttl fl : Int) (A : Option Addr) (n c : Nat) (pl : List Int) (w : World) (h : Sl w A n c pl) (hn : n ≤ 500) (b1 : 0 ≤ sh ∧ sh < 18446744073709551616) (b2 : 0 ≤ sl ∧ sl < 18446744073709551616) (b3 : 0 ≤ dh ∧ dh < 18446744073709551616) (b4 : 0 ≤ dl ∧ dl < 18446744073709551616) (ps : List Int) (hps : ps = psd s6 sh sl dh dl 6 (20 + (pl.length : Int))) (e e2 : Int) (bs out : List Int) (hM : tcpM sp dp fl pl ps = (e, bs))
    (HB : (e ≠ 0 ∧ e2 = e ∧ out = []) ∨ (e = 0 ∧ s6 = false ∧ ∀ V A2 n2 k2, Below w.heap.size w V → Sl V A2 n2 k2 bs → Calls Try.prog 89 #[.agg #[.int .i64 0, .int .i64 0, .bool false, .bool false, .int .i64 0, .int .i64 ttl, .int .i64 6, .bool false, .int .u64 sh, .int .u64 sl, .bool false, .int .u64 dh, .int .u64 dl, .slice none 0 0], .slice A2 n2 k2] V (MkP e2 out V)) ∨ (e = 0 ∧ s6 = true ∧ ∀ V A2 n2 k2, Below w.heap.size w V → Sl V A2 n2 k2 bs → Calls Try.prog 18 #[.agg #[.int .i64 0, .int .i64 0, .int .i64 ttl, .bool true, .int .u64 sh, .int .u64 sl, .bool true, .int .u64 dh, .int .u64 dl, .slice none 0 0, .int .i64 6], .slice A2 n2 k2] V (MkP e2 out V))) :
    Calls Try.prog 34 #[.agg #[.int .i64 6, .bool s6, .int .u64 sh, .int .u64 sl, .bool s6, .int .u64 dh, .int .u64 dl, .int .i64 sp, .int .i64 dp], .int .i64 ttl, .int .i64 fl, .slice A n c] w (MkP e2 out w) := by
  have hl := h.len
  have hp40 : ps.length ≤ 1000 := by rw [hps]; have := psd_len s6 sh sl dh dl 6 (20 + (pl.length : Int)); omega
  have HPS := fun V => psd_any s6 sh sl s6 dh dl 6 (20 + (n : Int)) V b1 b2 b3 b4 (by omega) (by omega)
  rw [← hl] at HPS
  rw [← hps] at HPS
  refine segm_go s6 sh sl dh dl sp dp ttl fl A n c _ _ w (by omega) (Lib.hid fun V c1 c2 c3 hV k1 k2 k3 => ?_)
  have HC : ∀ W A2 n2 cc2, Below V.heap.size V W → Sl W A2 n2 cc2 ps → Calls Try.prog 66 #[.slice A2 n2 cc2, .pointer (some ⟨c1, 0, none⟩), .pointer (some ⟨c2, 0, none⟩), .pointer (some ⟨c3, 0, none⟩)] W (MkP e bs W) := fun W A2 n2 cc2 hW hs => by
    have h9 := tcp_bytes sp dp fl A A2 n c n2 cc2 pl ps W (h.below (hV.trans (hW.mono hV.size))) hs (by omega) (by have := hs.len; omega)
    rw [hM] at h9
    exact sg_closure 6 s6 sh sl s6 dh dl sp dp fl c1 c2 c3 A A2 n c n2 cc2 e bs W (k1.below hW k1.lt) (k2.below hW k2.lt) (k3.below hW k3.lt) (Lib.hid h9)
  rw [← hl]
  rcases HB with ⟨he, rfl, rfl⟩ | ⟨rfl, rfl, HB⟩ | ⟨rfl, rfl, HB⟩
  · exact whole_sg_bad 6 s6 sh sl s6 dh dl sp dp ttl _ c1 c2 c3 ps bs e2 he V (Lib.hid fun W hW => HPS W) (Lib.hid HC)
  · exact whole_sg_four 6 sh sl false dh dl sp dp ttl _ c1 c2 c3 ps bs _ _ V (Lib.hid fun W hW => HPS W) (Lib.hid HC) (Lib.hid fun W A2 n2 k2 hW hs => HB W A2 n2 k2 (hV.trans (hW.mono hV.size)) hs)
  · exact whole_sg_six 6 sh sl true dh dl sp dp ttl _ c1 c2 c3 ps bs _ _ V (Lib.hid fun W hW => HPS W) (Lib.hid HC) (Lib.hid fun W A2 n2 k2 hW hs => HB W A2 n2 k2 (hV.trans (hW.mono hV.size)) hs)
theorem segm_made (pr : Int) (s6 : Bool) (sh sl : Int) (d6 : Bool) (dh dl sp dp ttl fl : Int) (pl : List Int) (hn : pl.length ≤ 500) (hu : U8 pl) (b1 : 0 ≤ sh ∧ sh < 18446744073709551616) (b2 : 0 ≤ sl ∧ sl < 18446744073709551616) (b3 : 0 ≤ dh ∧ dh < 18446744073709551616) (b4 : 0 ≤ dl ∧ dl < 18446744073709551616) (hm : Made pr s6 sh sl d6 dh dl sp dp ttl fl 6) :
    ∃ B : List Int, B.length = (if s6 = true then 40 else 20) + 20 + pl.length ∧ B.drop ((if s6 = true then 40 else 20) + 20) = pl ∧ pkP B = (⟨s6, ⟨pr, s6, sh, sl, d6, dh, dl, sp, dp⟩, ttl, fl, false, zeroT, (B.length : Int)⟩, 0) ∧ ∀ (A : Option Addr) (n c : Nat) (w : World), Sl w A n c pl →
      Calls Try.prog 34 #[.agg #[.int .i64 pr, .bool s6, .int .u64 sh, .int .u64 sl, .bool d6, .int .u64 dh, .int .u64 dl, .int .i64 sp, .int .i64 dp], .int .i64 ttl, .int .i64 fl, .slice A n c] w (MkP 0 B w) := by
  obtain ⟨rfl, rfl, ht, hp, hf, ha⟩ := hm
  obtain ⟨ps, hps⟩ : ∃ ps, ps = psd s6 sh sl dh dl 6 (20 + (pl.length : Int)) := ⟨_, rfl⟩
  obtain ⟨bs, hbs⟩ : ∃ bs, bs = tcpLn.tk sp dp 0 0 fl 1024 0 (65535 - fo (wsum (ps ++ tcpLn.tk sp dp 0 0 fl 1024 0 0 [] pl))) [] pl := ⟨_, rfl⟩
  have hM : tcpM sp dp fl pl ps = (0, bs) := by unfold tcpM; rw [if_pos ⟨hp, hf⟩, hbs]
  have hPA := fun v6 d6 sz => tcp_parse v6 s6 sh sl d6 dh dl sp dp ttl fl sz pl hp hf (by omega) hu bs (by rw [hbs, hps])
  have hlb : bs.length = 20 + pl.length := by
    rw [hbs]
    rw [(tcpLn.tk_says sp dp 0 0 fl 1024 0 _ [] pl rfl).1]; rfl
  have hdb : bs.drop 20 = pl := by
    rw [hbs]
    rfl
  cases s6 with
  | false =>
    obtain ⟨rfl, rfl, hs, hd⟩ : sh = 0 ∧ dh = 0 ∧ sl < 4294967296 ∧ dl < 4294967296 := by
      rcases ha with ha | ha
      · cases ha
      · exact ha
    refine ⟨mkB4 ttl 6 sl dl bs, by rw [mk4_len, hlb, if_neg (by decide)]; omega, ?_, ?_, fun A n c w h => ?_⟩
    · rw [if_neg (by decide), ← List.drop_drop, mk4_drop, hdb]
    · rw [mk4_parse ttl 6 sl dl bs ht (by omega) ⟨b2.1, by omega⟩ ⟨b4.1, by omega⟩ (by omega), hPA false false, mk4_len]
      rfl
    · refine segm_with false 0 sl 0 dl sp dp ttl fl A n c pl w h (by have := h.len; omega) b1 b2 b3 b4 ps hps 0 0 bs _ hM (.inr (.inl ⟨rfl, rfl, fun V A2 n2 k2 hV hs2 => ?_⟩))
      have h9 := four_bytes ttl 6 0 sl false 0 dl A2 n2 k2 bs V hs2 (by have := hs2.len; omega) b2.1 b4.1
      unfold fourM at h9
      rw [if_pos ⟨ht, by omega, ⟨rfl, by omega⟩, rfl, rfl, by omega⟩] at h9
      exact h9
  | true =>
    obtain ⟨m1, m2⟩ := mk6_parse ttl 6 sh sl dh dl bs ht (by omega) (by decide) b1 b2 b3 b4 (by omega)
    refine ⟨mkB6 ttl 6 sh sl dh dl bs, by rw [m2, hlb, if_pos rfl]; omega, ?_, ?_, fun A n c w h => ?_⟩
    · rw [if_pos rfl, ← List.drop_drop, mk6_drop, hdb]
    · rw [m1, hPA true true, m2]
      rfl
    · refine segm_with true sh sl dh dl sp dp ttl fl A n c pl w h (by have := h.len; omega) b1 b2 b3 b4 ps hps 0 0 bs _ hM (.inr (.inr ⟨rfl, rfl, fun V A2 n2 k2 hV hs2 => ?_⟩))
      exact six_bytes ttl 6 sh sl dh dl A2 n2 k2 bs V hs2 (by have := hs2.len; omega) ht (by omega) (by decide) b1 b2 b3 b4
theorem segm_bad (pr : Int) (s6 : Bool) (sh sl : Int) (d6 : Bool) (dh dl sp dp ttl fl : Int) (A : Option Addr) (n c : Nat) (pl : List Int) (w : World) (h : Sl w A n c pl) (hn : n ≤ 500) (b1 : 0 ≤ sh ∧ sh < 18446744073709551616) (b2 : 0 ≤ sl ∧ sl < 18446744073709551616) (b3 : 0 ≤ dh ∧ dh < 18446744073709551616) (b4 : 0 ≤ dl ∧ dl < 18446744073709551616) (hm : ¬ Made pr s6 sh sl d6 dh dl sp dp ttl fl 6) :
    Calls Try.prog 34 #[.agg #[.int .i64 pr, .bool s6, .int .u64 sh, .int .u64 sl, .bool d6, .int .u64 dh, .int .u64 dl, .int .i64 sp, .int .i64 dp], .int .i64 ttl, .int .i64 fl, .slice A n c] w (MkP 1 [] w) := by
  have hl := h.len
  by_cases hx : pr ≠ 6 ∨ s6 ≠ d6
  · exact segm_not pr s6 sh sl d6 dh dl sp dp ttl fl A n c w hx
  obtain rfl : pr = 6 := Classical.byContradiction fun e => hx (.inl e)
  obtain rfl : s6 = d6 := Classical.byContradiction fun e => hx (.inr e)
  obtain ⟨ps, hps⟩ : ∃ ps, ps = psd s6 sh sl dh dl 6 (20 + (pl.length : Int)) := ⟨_, rfl⟩
  by_cases hp : (0 ≤ sp ∧ sp ≤ 65535 ∧ 0 ≤ dp ∧ dp ≤ 65535) ∧ (0 ≤ fl ∧ fl ≤ 255)
  · obtain ⟨bs, hbs⟩ : ∃ bs, bs = tcpLn.tk sp dp 0 0 fl 1024 0 (65535 - fo (wsum (ps ++ tcpLn.tk sp dp 0 0 fl 1024 0 0 [] pl))) [] pl := ⟨_, rfl⟩
    have hM : tcpM sp dp fl pl ps = (0, bs) := by unfold tcpM; rw [if_pos hp, hbs]
    have hlb : bs.length = 20 + pl.length := by
      rw [hbs]
      rw [(tcpLn.tk_says sp dp 0 0 fl 1024 0 _ [] pl rfl).1]; rfl
    cases s6 with
    | false =>
      refine segm_with false sh sl dh dl sp dp ttl fl A n c pl w h hn b1 b2 b3 b4 ps hps 0 1 bs _ hM (.inr (.inl ⟨rfl, rfl, fun V A2 n2 k2 hV hs2 => ?_⟩))
      have h9 := four_bytes ttl 6 sh sl false dh dl A2 n2 k2 bs V hs2 (by have := hs2.len; omega) b2.1 b4.1
      unfold fourM at h9
      rw [if_neg (fun ⟨a1, _, ⟨a3, a4⟩, _, a5, a6⟩ => hm ⟨rfl, rfl, a1, hp.1, hp.2, .inr ⟨a3, a5, by omega, by omega⟩⟩)] at h9
      exact h9
    | true =>
      refine segm_with true sh sl dh dl sp dp ttl fl A n c pl w h hn b1 b2 b3 b4 ps hps 0 1 bs _ hM (.inr (.inr ⟨rfl, rfl, fun V A2 n2 k2 hV hs2 => ?_⟩))
      exact six_bad ttl 6 sh sl dh dl _ V (fun a => hm ⟨rfl, rfl, a, hp.1, hp.2, .inl rfl⟩)
  · have hM : tcpM sp dp fl pl ps = (1, []) := by unfold tcpM; rw [if_neg hp]
    exact segm_with s6 sh sl dh dl sp dp ttl fl A n c pl w h hn b1 b2 b3 b4 ps hps 1 1 [] [] hM (.inl ⟨by decide, rfl, rfl⟩)
end Go.Proofs.Ytndekicblbpkjaa.pktS
/- Layer 13: whether a flow's packet can be made, as the law says. -/
namespace Go.Proofs.Ytndekicblbpkjaa.pktT
open Go.ChangeShapes Go.WideShapes Go.ChangeAt Go.RowKit
open Go.Proofs.Ytndekicblbpkjaa.base Go.Proofs.Ytndekicblbpkjaa.pktS
set_option linter.unusedVariables false

set_option maxHeartbeats 8000000 in
theorem made_no (pr : Int) (s6 : Bool) (sh sl : Int) (d6 : Bool) (dh dl sp dp ttl fl proto : Int) (w : World) (h : ¬ Made pr s6 sh sl d6 dh dl sp dp ttl fl proto) :
    Calls Try.prog 35 #[.agg #[.int .i64 pr, .bool s6, .int .u64 sh, .int .u64 sl, .bool d6, .int .u64 dh, .int .u64 dl, .int .i64 sp, .int .i64 dp], .int .i64 ttl, .int .i64 fl, .int .i64 proto] w fun o w' => o = .returned (.bool false) ∧ Below w.heap.size w w' := by
  have B0 := Lib.hid (show Below w.heap.size w (w.alloc (.cells #[.int .i64 pr, .bool s6, .int .u64 sh, .int .u64 sl, .bool d6, .int .u64 dh, .int .u64 dl, .int .i64 sp, .int .i64 dp] 48)) from (Below.refl _ _).alloc (Nat.le_refl _) _)
  by_cases c0 : pr = proto
  case neg =>
    have t0 : (pr != proto) = true := by simpa using c0
    clear h c0
    go_enter Try.func35, Try.ntmps35
    go_wp2_with fail
    go_ret
    exact ⟨rfl, B0.out⟩
  subst c0
  have t0 : (pr != pr) = false := by simp
  by_cases c1 : s6 = d6
  case neg =>
    have t1 : (s6 == d6) = false := by simpa using c1
    clear h c1
    go_enter Try.func35, Try.ntmps35
    go_wp2_with fail
    go_ret
    exact ⟨rfl, B0.out⟩
  subst c1
  have t1 : (s6 == s6) = true := by simp
  by_cases c2 : ttl < 0
  case pos =>
    have t2 : decide (ttl < 0) = true := decide_eq_true c2
    clear h c2
    go_enter Try.func35, Try.ntmps35
    go_wp2_with fail
    go_ret
    exact ⟨rfl, B0.out⟩
  have t2 : decide (ttl < 0) = false := decide_eq_false c2
  by_cases c3 : 255 < ttl
  case pos =>
    have t3 : decide (255 < ttl) = true := decide_eq_true c3
    clear h c3 c2
    go_enter Try.func35, Try.ntmps35
    go_wp2_with fail
    go_ret
    exact ⟨rfl, B0.out⟩
  have t3 : decide (255 < ttl) = false := decide_eq_false c3
  by_cases c4 : sp < 0
  case pos =>
    have t4 : decide (sp < 0) = true := decide_eq_true c4
    clear h c4 c2 c3
    go_enter Try.func35, Try.ntmps35
    go_wp2_with fail
    go_ret
    exact ⟨rfl, B0.out⟩
  have t4 : decide (sp < 0) = false := decide_eq_false c4
  by_cases c5 : 65535 < sp
  case pos =>
    have t5 : decide (65535 < sp) = true := decide_eq_true c5
    clear h c5 c2 c3 c4
    go_enter Try.func35, Try.ntmps35
    go_wp2_with fail
    go_ret
    exact ⟨rfl, B0.out⟩
  have t5 : decide (65535 < sp) = false := decide_eq_false c5
  by_cases c6 : dp < 0
  case pos =>
    have t6 : decide (dp < 0) = true := decide_eq_true c6
    clear h c6 c2 c3 c4 c5
    go_enter Try.func35, Try.ntmps35
    go_wp2_with fail
    go_ret
    exact ⟨rfl, B0.out⟩
  have t6 : decide (dp < 0) = false := decide_eq_false c6
  by_cases c7 : 65535 < dp
  case pos =>
    have t7 : decide (65535 < dp) = true := decide_eq_true c7
    clear h c7 c2 c3 c4 c5 c6
    go_enter Try.func35, Try.ntmps35
    go_wp2_with fail
    go_ret
    exact ⟨rfl, B0.out⟩
  have t7 : decide (65535 < dp) = false := decide_eq_false c7
  by_cases c8 : fl < 0
  case pos =>
    have t8 : decide (fl < 0) = true := decide_eq_true c8
    clear h c8 c2 c3 c4 c5 c6 c7
    go_enter Try.func35, Try.ntmps35
    go_wp2_with fail
    go_ret
    exact ⟨rfl, B0.out⟩
  have t8 : decide (fl < 0) = false := decide_eq_false c8
  by_cases c9 : 255 < fl
  case pos =>
    have t9 : decide (255 < fl) = true := decide_eq_true c9
    clear h c9 c2 c3 c4 c5 c6 c7 c8
    go_enter Try.func35, Try.ntmps35
    go_wp2_with fail
    go_ret
    exact ⟨rfl, B0.out⟩
  have t9 : decide (255 < fl) = false := decide_eq_false c9
  cases s6 with
  | true => exact absurd ⟨rfl, rfl, ⟨by omega, by omega⟩, ⟨by omega, by omega, by omega, by omega⟩, ⟨by omega, by omega⟩, .inl rfl⟩ h
  | false =>
    by_cases a1 : sh = 0
    case neg =>
      have u1 : (sh == 0) = false := by simpa using a1
      clear h a1 c2 c3 c4 c5 c6 c7 c8 c9
      go_enter Try.func35, Try.ntmps35
      go_wp2_with fail
      go_ret
      exact ⟨rfl, B0.out⟩
    have u1 : (sh == 0) = true := by simpa using a1
    by_cases a2 : dh = 0
    case neg =>
      have u2 : (dh == 0) = false := by simpa using a2
      clear h a1 a2 c2 c3 c4 c5 c6 c7 c8 c9
      go_enter Try.func35, Try.ntmps35
      go_wp2_with fail
      go_ret
      exact ⟨rfl, B0.out⟩
    have u2 : (dh == 0) = true := by simpa using a2
    by_cases a3 : sl < 4294967296
    case neg =>
      have u3 : decide (sl < 4294967296) = false := decide_eq_false a3
      clear h a1 a2 a3 c2 c3 c4 c5 c6 c7 c8 c9
      go_enter Try.func35, Try.ntmps35
      go_wp2_with fail
      go_ret
      exact ⟨rfl, B0.out⟩
    have u3 : decide (sl < 4294967296) = true := decide_eq_true a3
    by_cases a4 : dl < 4294967296
    case neg =>
      have u4 : decide (dl < 4294967296) = false := decide_eq_false a4
      clear h a1 a2 a3 a4 c2 c3 c4 c5 c6 c7 c8 c9
      go_enter Try.func35, Try.ntmps35
      go_wp2_with fail
      go_ret
      exact ⟨rfl, B0.out⟩
    exact absurd ⟨rfl, rfl, ⟨by omega, by omega⟩, ⟨by omega, by omega, by omega, by omega⟩, ⟨by omega, by omega⟩, .inr ⟨a1, a2, a3, a4⟩⟩ h
set_option maxHeartbeats 8000000 in
theorem made_yes (pr : Int) (s6 : Bool) (sh sl : Int) (d6 : Bool) (dh dl sp dp ttl fl proto : Int) (w : World) (h : Made pr s6 sh sl d6 dh dl sp dp ttl fl proto) :
    Calls Try.prog 35 #[.agg #[.int .i64 pr, .bool s6, .int .u64 sh, .int .u64 sl, .bool d6, .int .u64 dh, .int .u64 dl, .int .i64 sp, .int .i64 dp], .int .i64 ttl, .int .i64 fl, .int .i64 proto] w fun o w' => o = .returned (.bool true) ∧ Below w.heap.size w w' := by
  have B0 := Lib.hid (show Below w.heap.size w (w.alloc (.cells #[.int .i64 pr, .bool s6, .int .u64 sh, .int .u64 sl, .bool d6, .int .u64 dh, .int .u64 dl, .int .i64 sp, .int .i64 dp] 48)) from (Below.refl _ _).alloc (Nat.le_refl _) _)
  obtain ⟨rfl, rfl, ⟨c2, c3⟩, ⟨c4, c5, c6, c7⟩, ⟨c8, c9⟩, ha⟩ := h
  have t0 : (pr != pr) = false := by simp
  have t1 : (s6 == s6) = true := by simp
  have t2 : decide (ttl < 0) = false := decide_eq_false (by omega)
  have t3 : decide (255 < ttl) = false := decide_eq_false (by omega)
  have t4 : decide (sp < 0) = false := decide_eq_false (by omega)
  have t5 : decide (65535 < sp) = false := decide_eq_false (by omega)
  have t6 : decide (dp < 0) = false := decide_eq_false (by omega)
  have t7 : decide (65535 < dp) = false := decide_eq_false (by omega)
  have t8 : decide (fl < 0) = false := decide_eq_false (by omega)
  have t9 : decide (255 < fl) = false := decide_eq_false (by omega)
  clear c2 c3 c4 c5 c6 c7 c8 c9
  cases s6 with
  | true =>
    clear ha
    go_enter Try.func35, Try.ntmps35
    go_wp2_with fail
    go_ret
    exact ⟨rfl, B0.out⟩
  | false =>
    obtain ⟨rfl, rfl, a3, a4⟩ : sh = 0 ∧ dh = 0 ∧ sl < 4294967296 ∧ dl < 4294967296 := by
      rcases ha with ha | ha
      · cases ha
      · exact ha
    have u3 : decide (sl < 4294967296) = true := decide_eq_true a3
    have u4 : decide (dl < 4294967296) = true := decide_eq_true a4
    clear ha a3 a4
    go_enter Try.func35, Try.ntmps35
    go_wp2_with fail
    go_ret
    exact ⟨rfl, B0.out⟩
end Go.Proofs.Ytndekicblbpkjaa.pktT
