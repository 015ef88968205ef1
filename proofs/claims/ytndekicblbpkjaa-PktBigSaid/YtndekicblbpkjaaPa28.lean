/- 6 texts in one. -/
import Derived.Deep.RegionHeld3
import Derived.Deep.DeepCutAuto
import Derived.Test.YtndekicblbpkjaaPa25
import Derived.Test.YtndekicblbpkjaaPa26
import Derived.Test.YtndekicblbpkjaaPa27
namespace Go.Proofs.Ytndekicblbpkjaa.fourOn
end Go.Proofs.Ytndekicblbpkjaa.fourOn
namespace Go.Proofs.Ytndekicblbpkjaa.fourJn
end Go.Proofs.Ytndekicblbpkjaa.fourJn
/- Layer 13: a datagram that is made. -/
namespace Go.Proofs.Ytndekicblbpkjaa.pktM
open Go.ChangeShapes Go.WideShapes Go.ChangeAt Go.RowKit
open Go.Proofs.Ytndekicblbpkjaa.base Go.Proofs.Ytndekicblbpkjaa.octA Go.Proofs.Ytndekicblbpkjaa.octB Go.Proofs.Ytndekicblbpkjaa.octC Go.Proofs.Ytndekicblbpkjaa.octF Go.Proofs.Ytndekicblbpkjaa.octK Go.Proofs.Ytndekicblbpkjaa.net Go.Proofs.Ytndekicblbpkjaa.rdrA Go.Proofs.Ytndekicblbpkjaa.rdrG Go.Proofs.Ytndekicblbpkjaa.sumA Go.Proofs.Ytndekicblbpkjaa.sumB Go.Proofs.Ytndekicblbpkjaa.sixW Go.Proofs.Ytndekicblbpkjaa.sixM Go.Proofs.Ytndekicblbpkjaa.pktA Go.Proofs.Ytndekicblbpkjaa.pktB Go.Proofs.Ytndekicblbpkjaa.pktL
set_option linter.unusedVariables false

set_option maxHeartbeats 4000000 in
theorem dg_closure (pr : Int) (s6 : Bool) (sh sl : Int) (d6 : Bool) (dh dl sp dp : Int) (c1 c2 : Nat) (A A2 : Option Addr) (n c n2 cc2 : Nat) (e : Int) (bs : List Int) (w : World)
    (K1 : Blk w c1 48 #[.int .i64 pr, .bool s6, .int .u64 sh, .int .u64 sl, .bool d6, .int .u64 dh, .int .u64 dl, .int .i64 sp, .int .i64 dp]) (K2 : Blk w c2 22 #[.slice A n c])
    (HC : Hid (Calls Try.prog 65 #[.agg #[.int .i64 sp, .int .i64 dp, .bool false], .slice A n c, .slice A2 n2 cc2] w (MkP e bs w))) :
    Calls Try.prog 64 #[.slice A2 n2 cc2, .pointer (some ⟨c1, 0, none⟩), .pointer (some ⟨c2, 0, none⟩)] w (MkP e bs w) := by
  have p7 := K1.cell 7
  have p8 := K1.cell 8
  have q0 := K2.cell 0
  go_enter Try.func64, Try.ntmps64
  go_wp2_with fail
  refine HC.out.mono ?_
  rintro o w4 ⟨hb4, A4, n4, c4, rfl, hs4⟩
  go_wp2_with fail
  go_ret2
  exact ⟨hb4, A4, n4, c4, rfl, hs4⟩
set_option maxHeartbeats 4000000 in
theorem dgram_go (s6 : Bool) (sh sl : Int) (dh dl sp dp ttl : Int) (A : Option Addr) (n c : Nat) (e : Int) (bs : List Int) (w : World) (hn : n ≤ 1000)
    (HW : Hid (∀ V c1 c2, Below w.heap.size w V → Blk V c1 48 #[.int .i64 17, .bool s6, .int .u64 sh, .int .u64 sl, .bool s6, .int .u64 dh, .int .u64 dl, .int .i64 sp, .int .i64 dp] → Blk V c2 22 #[.slice A n c] → Calls Try.prog 63 #[.agg #[.int .i64 17, .bool s6, .int .u64 sh, .int .u64 sl, .bool s6, .int .u64 dh, .int .u64 dl, .int .i64 sp, .int .i64 dp], .int .i64 ttl, .int .i64 (8 + (n : Int)), .func (.func 64) #[] #[.pointer (some ⟨c1, 0, none⟩), .pointer (some ⟨c2, 0, none⟩)]] V (MkP e bs V))) :
    Calls Try.prog 33 #[.agg #[.int .i64 17, .bool s6, .int .u64 sh, .int .u64 sl, .bool s6, .int .u64 dh, .int .u64 dl, .int .i64 sp, .int .i64 dp], .int .i64 ttl, .slice A n c] w (MkP e bs w) := by
  have hmf : ∀ (fn : Fn) (first cap : Array Value) (w : World), (Instr.makeFunc fn first cap).run Try.prog w = .ok (.func fn first cap) w := fun _ _ _ _ => rfl
  obtain ⟨w1, hw1⟩ : ∃ w1, w1 = (w.alloc (.cells #[.int .i64 17, .bool s6, .int .u64 sh, .int .u64 sl, .bool s6, .int .u64 dh, .int .u64 dl, .int .i64 sp, .int .i64 dp] 48)).alloc (.cells #[.slice A n c] 22) := ⟨_, rfl⟩
  have E1 := Lib.hid hw1
  have B1 := Lib.hid (show Below w.heap.size w w1 from by rw [hw1]; exact ((Below.refl _ _).alloc (Nat.le_refl _) _).alloc (by simp) _)
  obtain ⟨g, hg⟩ : ∃ g, g = w.heap.size := ⟨_, rfl⟩
  obtain ⟨q, hq⟩ : ∃ q, q = w.heap.size + 1 := ⟨_, rfl⟩
  have EG := Lib.hid hg
  have EQ := Lib.hid hq
  have KP := Lib.hid (show Blk w1 g 48 #[.int .i64 17, .bool s6, .int .u64 sh, .int .u64 sl, .bool s6, .int .u64 dh, .int .u64 dl, .int .i64 sp, .int .i64 dp] from by rw [hw1, hg]; exact (Blk.new w _ _).below ((Below.refl _ _).alloc (Nat.le_refl _) _) (Blk.new w _ _).lt)
  have KQ := Lib.hid (show Blk w1 q 22 #[.slice A n c] from by
    have h9 := Blk.new (w.alloc (.cells #[.int .i64 17, .bool s6, .int .u64 sh, .int .u64 sl, .bool s6, .int .u64 dh, .int .u64 dl, .int .i64 sp, .int .i64 dp] 48)) 22 #[.slice A n c]
    rw [← hw1] at h9
    rw [hq]
    simpa using h9)
  have HW1 := Lib.hid (HW.out w1 g q B1.out KP.out KQ.out)
  have tv : (s6 == s6) = true := by simp
  clear hw1 hg hq
  go_enter Try.func33, Try.ntmps33
  go_upto_region 1 with fail
  rw [← E1.out, ← EQ.out, ← EG.out]
  have p0 := KP.out.cell 0
  have p1 := KP.out.cell 1
  have p2 := KP.out.cell 2
  have p3 := KP.out.cell 3
  have p4 := KP.out.cell 4
  have p5 := KP.out.cell 5
  have p6 := KP.out.cell 6
  have p7 := KP.out.cell 7
  have p8 := KP.out.cell 8
  have q0 := KQ.out.cell 0
  go_wp2_with fail
  refine HW1.out.mono ?_
  rintro o w4 ⟨hb4, A4, n4, c4, rfl, hs4⟩
  have B4 := Lib.hid (B1.out.trans (hb4.mono B1.out.size))
  clear hb4
  go_wp2_with fail
  go_ret2
  exact ⟨B4.out, A4, n4, c4, rfl, hs4⟩
end Go.Proofs.Ytndekicblbpkjaa.pktM
/- Layer 13: the datagram of the chapter's example. -/
namespace Go.Proofs.Ytndekicblbpkjaa.pktMe
open Go.ChangeShapes Go.WideShapes Go.ChangeAt Go.RowKit
open Go.Proofs.Ytndekicblbpkjaa.base Go.Proofs.Ytndekicblbpkjaa.octA Go.Proofs.Ytndekicblbpkjaa.octB Go.Proofs.Ytndekicblbpkjaa.octC Go.Proofs.Ytndekicblbpkjaa.octF Go.Proofs.Ytndekicblbpkjaa.octK Go.Proofs.Ytndekicblbpkjaa.net Go.Proofs.Ytndekicblbpkjaa.rdrA Go.Proofs.Ytndekicblbpkjaa.rdrG Go.Proofs.Ytndekicblbpkjaa.sumA Go.Proofs.Ytndekicblbpkjaa.sumB Go.Proofs.Ytndekicblbpkjaa.sixW Go.Proofs.Ytndekicblbpkjaa.sixM Go.Proofs.Ytndekicblbpkjaa.pktA Go.Proofs.Ytndekicblbpkjaa.pktB Go.Proofs.Ytndekicblbpkjaa.pktL Go.Proofs.Ytndekicblbpkjaa.pktM
set_option linter.unusedVariables false

def exU : List Int := [0, 0, 0, 53, 0, 8, 255, 169]
def exB : List Int := [69, 0, 0, 28, 0, 0, 0, 0, 9, 17, 177, 210, 0, 0, 0, 0, 0, 0, 0, 0, 0, 0, 0, 53, 0, 8, 255, 169]
theorem ex_udp : udpB.ub 0 53 [] (udpB.chkZ (psd false 0 0 0 0 17 8 ++ udpB.ub 0 53 [] 0)) = exU := by kernel_rfl
theorem ex_four : fourD.hk 0 0 (fourC.flz false false 0) 9 17 0 0 (65535 - fo (wsum (fourD.hk 0 0 (fourC.flz false false 0) 9 17 0 0 0 (20 + ((0 : Nat) : Int) + ((8 : Nat) : Int)) []))) (20 + ((0 : Nat) : Int) + ((8 : Nat) : Int)) [] ++ exU = exB := by kernel_rfl
theorem dgram_ex (w : World) : Calls Try.prog 33 #[.agg #[.int .i64 17, .bool false, .int .u64 0, .int .u64 0, .bool false, .int .u64 0, .int .u64 0, .int .i64 0, .int .i64 53], .int .i64 9, .slice none 0 0] w (MkP 0 exB w) := by
  refine dgram_go false 0 0 0 0 0 53 9 none 0 0 _ _ w (by omega) (Lib.hid fun V c1 c2 hV k1 k2 => ?_)
  refine whole_dg_four 17 0 0 false 0 0 0 53 9 _ c1 c2 (psd false 0 0 0 0 17 8) exU _ _ V (Lib.hid fun W hW => psd_any false 0 0 false 0 0 17 8 W (by omega) (by omega) (by omega) (by omega) (by omega) (by omega)) (Lib.hid fun W A2 n2 k2' hW hs => ?_) (Lib.hid fun W A2 n2 k2' hW hs => ?_)
  · refine dg_closure 17 false 0 0 false 0 0 0 53 c1 c2 none A2 0 0 n2 k2' 0 exU W (k1.below hW k1.lt) (k2.below hW k2.lt) (Lib.hid ?_)
    refine (udpC.bytes_eight_sum 0 53 none A2 0 0 n2 k2' [] (psd false 0 0 0 0 17 8) W ⟨by omega, by omega, by omega, by omega⟩ rfl (by omega) rfl (.inl rfl) (fun x hx => by cases hx) hs.len (by have := hs.len; have := psd_len false 0 0 0 0 17 8; omega) hs.row hs.u8).mono ?_
    rintro o w' ⟨v, rfl, h3, h4⟩
    obtain ⟨B, d, rfl⟩ := own_slice h3
    rw [ex_udp] at h3
    exact ⟨h4, B, _, d, rfl, Sl.own h3 rfl (by intro x hx; simp [exU] at hx; omega)⟩
  · obtain rfl : n2 = 8 := hs.len.symm
    refine (fourE.bytes_any 0 0 false false 0 9 17 0 0 none 0 0 [] A2 8 k2' exU W ⟨by omega, by omega, by omega, by omega, by omega, by omega, by omega, by omega, by omega⟩ rfl (.inl rfl) (fun _ => rfl) (fun x hx => by cases hx) rfl (by omega) hs.row hs.nil _ rfl).mono ?_
    rintro o w' ⟨v, rfl, h5, h6⟩
    obtain ⟨B, d, rfl⟩ := own_slice h5
    rw [ex_four] at h5
    exact ⟨h6, B, exB.length, d, by rw [ex_four], Sl.own h5 rfl (by intro x hx; simp [exB] at hx; omega)⟩
end Go.Proofs.Ytndekicblbpkjaa.pktMe
/- Layer 13: the chapter's example. -/
namespace Go.Proofs.Ytndekicblbpkjaa.pktN
open Go.ChangeShapes Go.WideShapes Go.ChangeAt Go.RowKit
open Go.Proofs.Ytndekicblbpkjaa.base Go.Proofs.Ytndekicblbpkjaa.octA Go.Proofs.Ytndekicblbpkjaa.octB Go.Proofs.Ytndekicblbpkjaa.octC Go.Proofs.Ytndekicblbpkjaa.octF Go.Proofs.Ytndekicblbpkjaa.octK Go.Proofs.Ytndekicblbpkjaa.net Go.Proofs.Ytndekicblbpkjaa.rdrA Go.Proofs.Ytndekicblbpkjaa.rdrG Go.Proofs.Ytndekicblbpkjaa.sumA Go.Proofs.Ytndekicblbpkjaa.sumB Go.Proofs.Ytndekicblbpkjaa.sixW Go.Proofs.Ytndekicblbpkjaa.sixM Go.Proofs.Ytndekicblbpkjaa.pktA Go.Proofs.Ytndekicblbpkjaa.pktB Go.Proofs.Ytndekicblbpkjaa.pktC Go.Proofs.Ytndekicblbpkjaa.pktD Go.Proofs.Ytndekicblbpkjaa.icmpH Go.Proofs.Ytndekicblbpkjaa.pktE Go.Proofs.Ytndekicblbpkjaa.pktG Go.Proofs.Ytndekicblbpkjaa.pktK Go.Proofs.Ytndekicblbpkjaa.pktL Go.Proofs.Ytndekicblbpkjaa.pktM Go.Proofs.Ytndekicblbpkjaa.pktMe
set_option linter.unusedVariables false

theorem ex_parse : pkP exB = (⟨false, ⟨17, false, 0, 0, false, 0, 0, 0, 53⟩, 9, 0, false, zeroT, 28⟩, 0) := by kernel_rfl
theorem ex_zero : pkP [0] = (zeroPk, 10) := by kernel_rfl
set_option maxHeartbeats 4000000 in
set_option maxRecDepth 100000 in
theorem awake_any (w : World) : Calls Try.prog 32 #[] w fun o w' => o = .returned (.bool true) ∧ Below w.heap.size w w' := by
  have H1 := Lib.hid (show ∀ (A : Option Addr) (n c : Nat) (V : World), Sl V A n c [0] → Calls Try.prog 28 #[.slice A n c] V fun o w' => o = .returned (.tuple #[.agg #[.bool false, .int .i64 0, .bool false, .int .u64 0, .int .u64 0, .bool false, .int .u64 0, .int .u64 0, .int .i64 0, .int .i64 0, .int .i64 0, .int .i64 0, .bool false, .int .i64 0, .bool false, .int .u64 0, .int .u64 0, .bool false, .int .u64 0, .int .u64 0, .int .i64 0, .int .i64 0, .int .i64 0], .int .i64 10]) ∧ Below V.heap.size V w' from fun A n c V h => by
    have h9 := parse_any A n c [0] V h (by have := h.len; simp at this; omega)
    rw [ex_zero] at h9
    exact h9)
  have H2 := Lib.hid (show ∀ (A : Option Addr) (n c : Nat) (V : World), Sl V A n c exB → Calls Try.prog 28 #[.slice A n c] V fun o w' => o = .returned (.tuple #[.agg #[.bool false, .int .i64 17, .bool false, .int .u64 0, .int .u64 0, .bool false, .int .u64 0, .int .u64 0, .int .i64 0, .int .i64 53, .int .i64 9, .int .i64 0, .bool false, .int .i64 0, .bool false, .int .u64 0, .int .u64 0, .bool false, .int .u64 0, .int .u64 0, .int .i64 0, .int .i64 0, .int .i64 28], .int .i64 0]) ∧ Below V.heap.size V w' from fun A n c V h => by
    have h9 := parse_any A n c exB V h (by have := h.len; simp [exB] at this; omega)
    rw [ex_parse] at h9
    exact h9)
  have HD := Lib.hid (show ∀ V : World, Calls Try.prog 33 #[.agg #[.int .i64 17, .bool false, .int .u64 0, .int .u64 0, .bool false, .int .u64 0, .int .u64 0, .int .i64 0, .int .i64 53], .int .i64 9, .slice none 0 0] V (MkP 0 exB V) from dgram_ex)
  have HI := Lib.hid pk_size
  obtain ⟨w1, hw1⟩ : ∃ w1, w1 = w.alloc (.cells #[.int .u8 0] 5) := ⟨_, rfl⟩
  have E1 := Lib.hid hw1
  have B1 := Lib.hid (show Below w.heap.size w w1 from by rw [hw1]; exact (Below.refl _ _).alloc (Nat.le_refl _) _)
  have S1 := Lib.hid (show Sl w1 (some ⟨w.heap.size, 0, none⟩) 1 1 [0] from by
    rw [hw1]
    exact Sl.own (B := w.heap.size) (sixK.own_lit w w.heap.size [.int .u8 0] 1 rfl (Nat.le_refl _) (by omega)) rfl (fun x hx => by simp at hx; omega))
  clear hw1
  go_enter Try.func32, Try.ntmps32
  go_upto_region 1 with fail
  go_wp2_with fail
  rw [← E1.out]
  refine (H1.out _ _ _ _ S1.out).mono ?_
  rintro o w2 ⟨rfl, hb2⟩
  have B2 := Lib.hid (B1.out.trans (hb2.mono B1.out.size))
  clear hb2
  go_wp2_with (refine wpList_store_row rfl 58 _ _ rfl w2.heap.size #[.bool false, .int .i64 0, .bool false, .int .u64 0, .int .u64 0, .bool false, .int .u64 0, .int .u64 0, .int .i64 0, .int .i64 0, .int .i64 0, .int .i64 0, .bool false, .int .i64 0, .bool false, .int .u64 0, .int .u64 0, .bool false, .int .u64 0, .int .u64 0, .int .i64 0, .int .i64 0, .int .i64 0] rfl rfl 58 #[.bool false, .int .i64 0, .bool false, .int .u64 0, .int .u64 0, .bool false, .int .u64 0, .int .u64 0, .int .i64 0, .int .i64 0, .int .i64 0, .int .i64 0, .bool false, .int .i64 0, .bool false, .int .u64 0, .int .u64 0, .bool false, .int .u64 0, .int .u64 0, .int .i64 0, .int .i64 0, .int .i64 0] (Blk.new w2 _ _) HI.out rfl (by kernel_rfl) ?_)
  obtain ⟨w3, hw3⟩ : ∃ w3, w3 = (w2.alloc (.cells #[.bool false, .int .i64 0, .bool false, .int .u64 0, .int .u64 0, .bool false, .int .u64 0, .int .u64 0, .int .i64 0, .int .i64 0, .int .i64 0, .int .i64 0, .bool false, .int .i64 0, .bool false, .int .u64 0, .int .u64 0, .bool false, .int .u64 0, .int .u64 0, .int .i64 0, .int .i64 0, .int .i64 0] 58)).setRow w2.heap.size #[.bool false, .int .i64 0, .bool false, .int .u64 0, .int .u64 0, .bool false, .int .u64 0, .int .u64 0, .int .i64 0, .int .i64 0, .int .i64 0, .int .i64 0, .bool false, .int .i64 0, .bool false, .int .u64 0, .int .u64 0, .bool false, .int .u64 0, .int .u64 0, .int .i64 0, .int .i64 0, .int .i64 0] := ⟨_, rfl⟩
  have B3 := Lib.hid (show Below w.heap.size w w3 from by rw [hw3]; exact (onlyRow _).from (B2.out.alloc B2.out.size _) B2.out.size)
  rw [← hw3]
  clear hw3
  refine (HD.out w3).mono ?_
  rintro o w4 ⟨hb4, A4, n4, c4, rfl, hs4⟩
  have B4 := Lib.hid (B3.out.trans (hb4.mono B3.out.size))
  have H4 := Lib.hid (H2.out A4 n4 c4 w4 hs4)
  clear hb4 hs4
  go_wp2_with fail
  refine H4.out.mono ?_
  rintro o w5 ⟨rfl, hb5⟩
  have B5 := Lib.hid (B4.out.trans (hb5.mono B4.out.size))
  clear hb5
  have KN := Lib.hid (blkRow (Blk.new w5 58 #[.bool false, .int .i64 0, .bool false, .int .u64 0, .int .u64 0, .bool false, .int .u64 0, .int .u64 0, .int .i64 0, .int .i64 0, .int .i64 0, .int .i64 0, .bool false, .int .i64 0, .bool false, .int .u64 0, .int .u64 0, .bool false, .int .u64 0, .int .u64 0, .int .i64 0, .int .i64 0, .int .i64 0]) #[.bool false, .int .i64 17, .bool false, .int .u64 0, .int .u64 0, .bool false, .int .u64 0, .int .u64 0, .int .i64 0, .int .i64 53, .int .i64 9, .int .i64 0, .bool false, .int .i64 0, .bool false, .int .u64 0, .int .u64 0, .bool false, .int .u64 0, .int .u64 0, .int .i64 0, .int .i64 0, .int .i64 28])
  have x0 := KN.out.cell 9
  have x1 := KN.out.cell 10
  have x2 := KN.out.cell 22
  go_wp2_with (refine wpList_store_row rfl 58 _ _ rfl w5.heap.size #[.bool false, .int .i64 17, .bool false, .int .u64 0, .int .u64 0, .bool false, .int .u64 0, .int .u64 0, .int .i64 0, .int .i64 53, .int .i64 9, .int .i64 0, .bool false, .int .i64 0, .bool false, .int .u64 0, .int .u64 0, .bool false, .int .u64 0, .int .u64 0, .int .i64 0, .int .i64 0, .int .i64 28] rfl rfl 58 #[.bool false, .int .i64 0, .bool false, .int .u64 0, .int .u64 0, .bool false, .int .u64 0, .int .u64 0, .int .i64 0, .int .i64 0, .int .i64 0, .int .i64 0, .bool false, .int .i64 0, .bool false, .int .u64 0, .int .u64 0, .bool false, .int .u64 0, .int .u64 0, .int .i64 0, .int .i64 0, .int .i64 0] (Blk.new w5 _ _) HI.out rfl (by kernel_rfl) ?_)
  go_ret
  exact ⟨rfl, (onlyRow _).from (B5.out.alloc B5.out.size _) B5.out.size⟩
end Go.Proofs.Ytndekicblbpkjaa.pktN
/- Layer 13: the law on bytes that are parsed. -/
namespace Go.Proofs.Ytndekicblbpkjaa.pktO
open Go.ChangeShapes Go.WideShapes Go.ChangeAt Go.RowKit
open Go.Proofs.Ytndekicblbpkjaa.base Go.Proofs.Ytndekicblbpkjaa.octA Go.Proofs.Ytndekicblbpkjaa.octB Go.Proofs.Ytndekicblbpkjaa.octC Go.Proofs.Ytndekicblbpkjaa.octF Go.Proofs.Ytndekicblbpkjaa.octK Go.Proofs.Ytndekicblbpkjaa.net Go.Proofs.Ytndekicblbpkjaa.rdrA Go.Proofs.Ytndekicblbpkjaa.rdrG Go.Proofs.Ytndekicblbpkjaa.sumA Go.Proofs.Ytndekicblbpkjaa.sumB Go.Proofs.Ytndekicblbpkjaa.sixW Go.Proofs.Ytndekicblbpkjaa.sixM Go.Proofs.Ytndekicblbpkjaa.pktA Go.Proofs.Ytndekicblbpkjaa.pktB Go.Proofs.Ytndekicblbpkjaa.pktC Go.Proofs.Ytndekicblbpkjaa.pktD Go.Proofs.Ytndekicblbpkjaa.icmpH Go.Proofs.Ytndekicblbpkjaa.pktE Go.Proofs.Ytndekicblbpkjaa.pktG Go.Proofs.Ytndekicblbpkjaa.pktK Go.Proofs.Ytndekicblbpkjaa.pktN
set_option linter.unusedVariables false

theorem range_blk {W : World} {g : Nat} {t : TypeId} {cs : Array Value} (h : Blk W g t cs) : W.rangeAt g 0 cs.toList := fun j v hv => by
  rw [Nat.zero_add, h.cell j]
  simpa using hv
theorem yield_row {P : Program} {ops : Array Oper} {S : World → Prop} {op : Oper} {a : Act} (hw : Region.wanted op (yielded ops a.tmps) = true) (ty : TypeId) (x : Operand) (ho : op.op = .load ty x)
    (b : Nat) (hx : a.eval x = .pointer (some ⟨b, 0, none⟩)) (Y : Array Value) (d : TypeDesc) (hS : ∀ w, S w → w.rangeAt b 0 Y.toList)
    (hu : P.underlying ty = some d) (hd : d.isRow = true) (hi : (P.info? ty).map (·.size) = some Y.size) : YieldsIf P ops S op (.agg Y) a :=
  yieldsIf_load_mid hw ty x ho b 0 hx Y.toList d hS hu hd (by rw [hi]; simp)
theorem tp_same (t : Tp) (W : World) : (binOp .eql 48 (.agg t.cells) (.agg t.cells)).run Try.prog W = .ok (.bool true) W := by
  unfold Tp.cells
  go_simp
def opB (pr fl : Int) : Bool := decide (pr = 6) && (decide (fl / 2 % 2 = 1) && decide (fl % 2 = 0) && decide (fl / 4 % 2 = 0) && decide (fl / 16 % 2 = 0))
set_option maxHeartbeats 8000000 in
set_option maxRecDepth 100000 in
theorem law_any (pr : Int) (v6 : Bool) (s6 : Bool) (sh sl : Int) (d6 : Bool) (dh dl sp dp ttl fl : Int) (er : Bool) (apr : Int) (as6 : Bool) (ash asl : Int) (ad6 : Bool) (adh adl asp adp sz : Int) (f0 : 0 ≤ fl) (f1 : fl ≤ 255) (e : Int) (A : Option Addr) (n0 n c : Nat) (w : World)
    (HC : Hid (∀ W, Calls Try.prog 27 #[.slice A n0 c] W fun o w' => o = .returned (.slice A n c) ∧ W = w'))
    (HP : Hid (∀ V, Below w.heap.size w V → Calls Try.prog 28 #[.slice A n c] V fun o w' => o = .returned (.tuple #[.agg #[.bool v6, .int .i64 pr, .bool s6, .int .u64 sh, .int .u64 sl, .bool d6, .int .u64 dh, .int .u64 dl, .int .i64 sp, .int .i64 dp, .int .i64 ttl, .int .i64 fl, .bool er, .int .i64 apr, .bool as6, .int .u64 ash, .int .u64 asl, .bool ad6, .int .u64 adh, .int .u64 adl, .int .i64 asp, .int .i64 adp, .int .i64 sz], .int .i64 e]) ∧ Below V.heap.size V w'))
    (HL : Hid (∀ V, Below w.heap.size w V → Calls Try.prog 29 #[.slice A n c] V fun o w' => o = .returned (.tuple #[.agg #[.bool v6, .int .i64 pr, .bool s6, .int .u64 sh, .int .u64 sl, .bool d6, .int .u64 dh, .int .u64 dl, .int .i64 sp, .int .i64 dp, .int .i64 ttl, .int .i64 fl, .bool er, .int .i64 apr, .bool as6, .int .u64 ash, .int .u64 asl, .bool ad6, .int .u64 adh, .int .u64 adl, .int .i64 asp, .int .i64 adp, .int .i64 sz], .int .i64 e]) ∧ Below V.heap.size V w'))
    (HO : Hid (∀ V, Calls Try.prog 31 #[.agg #[.bool v6, .int .i64 pr, .bool s6, .int .u64 sh, .int .u64 sl, .bool d6, .int .u64 dh, .int .u64 dl, .int .i64 sp, .int .i64 dp, .int .i64 ttl, .int .i64 fl, .bool er, .int .i64 apr, .bool as6, .int .u64 ash, .int .u64 asl, .bool ad6, .int .u64 adh, .int .u64 adl, .int .i64 asp, .int .i64 adp, .int .i64 sz]] V fun o w' => o = .returned (.bool (opB pr fl)) ∧ Below V.heap.size V w')) :
    Calls Try.prog 6 #[.slice A n0 c] w fun o w' => o = .returned (.bool true) ∧ Below w.heap.size w w' := by
  obtain ⟨Y, hY⟩ : ∃ Y : Array Value, Y = #[.bool v6, .int .i64 pr, .bool s6, .int .u64 sh, .int .u64 sl, .bool d6, .int .u64 dh, .int .u64 dl, .int .i64 sp, .int .i64 dp, .int .i64 ttl, .int .i64 fl, .bool er, .int .i64 apr, .bool as6, .int .u64 ash, .int .u64 asl, .bool ad6, .int .u64 adh, .int .u64 adl, .int .i64 asp, .int .i64 adp, .int .i64 sz] := ⟨_, rfl⟩
  obtain ⟨K, hK⟩ : ∃ K : Array Value, K = (keyP (⟨v6, ⟨pr, s6, sh, sl, d6, dh, dl, sp, dp⟩, ttl, fl, er, ⟨apr, as6, ash, asl, ad6, adh, adl, asp, adp⟩, sz⟩ : Pk)).cells := ⟨_, rfl⟩
  have HKY := Lib.hid (show ∀ V : World, Calls Try.prog 30 #[.agg Y] V fun o w' => o = .returned (.agg K) ∧ Below V.heap.size V w' from fun V => by rw [hY, hK]; exact key_any (⟨v6, ⟨pr, s6, sh, sl, d6, dh, dl, sp, dp⟩, ttl, fl, er, ⟨apr, as6, ash, asl, ad6, adh, adl, asp, adp⟩, sz⟩ : Pk) V)
  have QK : ∀ W : World, (binOp .eql 48 (.agg K) (.agg K)).run Try.prog W = .ok (.bool true) W := fun W => by rw [hK]; exact tp_same _ W
  have hKs : K = (if er = true then #[.int .i64 apr, .bool as6, .int .u64 ash, .int .u64 asl, .bool ad6, .int .u64 adh, .int .u64 adl, .int .i64 asp, .int .i64 adp] else #[.int .i64 pr, .bool s6, .int .u64 sh, .int .u64 sl, .bool d6, .int .u64 dh, .int .u64 dl, .int .i64 sp, .int .i64 dp]) := by rw [hK]; cases er <;> rfl
  have ys : Y.size = 23 := by rw [hY]; rfl
  have ks : K.size = 9 := by rw [hKs]; cases er <;> rfl
  have ONE := Lib.hid (show Y.all (·.oneCell') = true from by rw [hY]; simp [Value.oneCell'])
  have HIY := Lib.hid (show (Try.prog.info? 58).map (·.size) = some Y.size from by rw [ys]; exact pk_size)
  have ZY := Lib.hid (show (#[.bool false, .int .i64 0, .bool false, .int .u64 0, .int .u64 0, .bool false, .int .u64 0, .int .u64 0, .int .i64 0, .int .i64 0, .int .i64 0, .int .i64 0, .bool false, .int .i64 0, .bool false, .int .u64 0, .int .u64 0, .bool false, .int .u64 0, .int .u64 0, .int .i64 0, .int .i64 0, .int .i64 0] : Array Value).size = Y.size from by rw [ys]; rfl)
  have HIT := Lib.hid tp_size
  have HIK := Lib.hid (show (Try.prog.info? 48).map (·.size) = some K.size from by rw [ks]; exact tp_size)
  rw [← hY] at HP HL HO
  have HY := Lib.hid hY
  have HKK := Lib.hid hKs
  have HKP := Lib.hid hK
  have HAW := Lib.hid awake_any
  have F0 := Lib.hid f0
  have F1 := Lib.hid f1
  obtain ⟨ob, hob⟩ : ∃ ob, ob = opB pr fl := ⟨_, rfl⟩
  rw [← hob] at HO
  have HOB := Lib.hid hob
  clear hY hK hKs ys ks f0 f1 QK hob
  go_enter Try.func6, Try.ntmps6
  go_wp2_with fail
  refine (HC.out _).mono ?_
  rintro o w' ⟨rfl, rfl⟩
  go_wp2_with fail
  refine (HP.out _ (Below.refl _ _)).mono ?_
  rintro o w1 ⟨rfl, hb1⟩
  obtain ⟨w2, hw2⟩ : ∃ w2, w2 = (w1.alloc (.cells #[.bool false, .int .i64 0, .bool false, .int .u64 0, .int .u64 0, .bool false, .int .u64 0, .int .u64 0, .int .i64 0, .int .i64 0, .int .i64 0, .int .i64 0, .bool false, .int .i64 0, .bool false, .int .u64 0, .int .u64 0, .bool false, .int .u64 0, .int .u64 0, .int .i64 0, .int .i64 0, .int .i64 0] 58)).setRow w1.heap.size Y := ⟨_, rfl⟩
  have E2 := Lib.hid hw2
  have K2 := Lib.hid (show Blk w2 w1.heap.size 58 Y from by rw [hw2]; exact blkRow (Blk.new w1 _ _) _)
  have B2 := Lib.hid (show Below w.heap.size w w2 from by rw [hw2]; exact (onlyRow _).from (hb1.alloc hb1.size _) hb1.size)
  clear hw2 hb1
  go_upto_region 3 with (refine wpList_store_row rfl 58 _ _ rfl w1.heap.size Y rfl rfl 58 #[.bool false, .int .i64 0, .bool false, .int .u64 0, .int .u64 0, .bool false, .int .u64 0, .int .u64 0, .int .i64 0, .int .i64 0, .int .i64 0, .int .i64 0, .bool false, .int .i64 0, .bool false, .int .u64 0, .int .u64 0, .bool false, .int .u64 0, .int .u64 0, .int .i64 0, .int .i64 0, .int .i64 0] (Blk.new w1 _ _) HIY.out ZY.out ONE.out ?_)
  rw [← E2.out]
  go_wp2_with fail
  refine (HL.out _ B2.out).mono ?_
  rintro o w3 ⟨rfl, hb3⟩
  obtain ⟨w4, hw4⟩ : ∃ w4, w4 = (w3.alloc (.cells #[.bool false, .int .i64 0, .bool false, .int .u64 0, .int .u64 0, .bool false, .int .u64 0, .int .u64 0, .int .i64 0, .int .i64 0, .int .i64 0, .int .i64 0, .bool false, .int .i64 0, .bool false, .int .u64 0, .int .u64 0, .bool false, .int .u64 0, .int .u64 0, .int .i64 0, .int .i64 0, .int .i64 0] 58)).setRow w3.heap.size Y := ⟨_, rfl⟩
  have E4 := Lib.hid hw4
  have B3 := Lib.hid (B2.out.trans (hb3.mono B2.out.size))
  have B34 := Lib.hid (show Below w3.heap.size w3 w4 from by rw [hw4]; exact (onlyRow _).from ((Below.refl _ _).alloc (Nat.le_refl _) _) (Nat.le_refl _))
  have K3 := Lib.hid (K2.out.below hb3 K2.out.lt)
  have K4 := Lib.hid (K3.out.below B34.out K3.out.lt)
  have L4 := Lib.hid (show Blk w4 w3.heap.size 58 Y from by rw [hw4]; exact blkRow (Blk.new w3 _ _) _)
  have B4 := Lib.hid (B3.out.trans (B34.out.mono B3.out.size))
  clear hw4 hb3
  go_upto_region 4 with (refine wpList_store_row rfl 58 _ _ rfl w3.heap.size Y rfl rfl 58 #[.bool false, .int .i64 0, .bool false, .int .u64 0, .int .u64 0, .bool false, .int .u64 0, .int .u64 0, .int .i64 0, .int .i64 0, .int .i64 0, .int .i64 0, .bool false, .int .i64 0, .bool false, .int .u64 0, .int .u64 0, .bool false, .int .u64 0, .int .u64 0, .int .i64 0, .int .i64 0, .int .i64 0] (Blk.new w3 _ _) HIY.out ZY.out ONE.out ?_)
  rw [← E4.out]
  obtain ⟨w5, hw5⟩ : ∃ w5, w5 = (w4.alloc (.cells #[.int .i64 0, .bool false, .int .u64 0, .int .u64 0, .bool false, .int .u64 0, .int .u64 0, .int .i64 0, .int .i64 0] 48)).setRow w4.heap.size #[.int .i64 pr, .bool s6, .int .u64 sh, .int .u64 sl, .bool d6, .int .u64 dh, .int .u64 dl, .int .i64 sp, .int .i64 dp] := ⟨_, rfl⟩
  have E5 := Lib.hid hw5
  have B45 := Lib.hid (show Below w4.heap.size w4 w5 from by rw [hw5]; exact (onlyRow _).from ((Below.refl _ _).alloc (Nat.le_refl _) _) (Nat.le_refl _))
  have K5 := Lib.hid (K4.out.below B45.out K4.out.lt)
  have L5 := Lib.hid (L4.out.below B45.out L4.out.lt)
  have M5 := Lib.hid (show Blk w5 w4.heap.size 48 #[.int .i64 pr, .bool s6, .int .u64 sh, .int .u64 sl, .bool d6, .int .u64 dh, .int .u64 dl, .int .i64 sp, .int .i64 dp] from by rw [hw5]; exact blkRow (Blk.new w4 _ _) _)
  have B5 := Lib.hid (B4.out.trans (B45.out.mono B4.out.size))
  clear hw5
  have L4Y := L4.out
  have L5Y := L5.out
  rw [HY.out] at L4Y L5Y
  have y1 := L4Y.cell 1
  have y2 := L4Y.cell 2
  have y3 := L4Y.cell 3
  have y4 := L4Y.cell 4
  have y5 := L4Y.cell 5
  have y6 := L4Y.cell 6
  have y7 := L4Y.cell 7
  have y8 := L4Y.cell 8
  have y9 := L4Y.cell 9
  go_upto_region 5 with (refine wpList_store_row rfl 48 _ _ rfl w4.heap.size #[.int .i64 pr, .bool s6, .int .u64 sh, .int .u64 sl, .bool d6, .int .u64 dh, .int .u64 dl, .int .i64 sp, .int .i64 dp] rfl rfl 48 #[.int .i64 0, .bool false, .int .u64 0, .int .u64 0, .bool false, .int .u64 0, .int .u64 0, .int .i64 0, .int .i64 0] (Blk.new w4 _ _) HIT.out rfl (by kernel_rfl) ?_)
  rw [← E5.out]
  clear y1 y2 y3 y4 y5 y6 y7 y8 y9 L4Y
  have y12 := L5Y.cell 12
  have y13 := L5Y.cell 13
  have y14 := L5Y.cell 14
  have y15 := L5Y.cell 15
  have y16 := L5Y.cell 16
  have y17 := L5Y.cell 17
  have y18 := L5Y.cell 18
  have y19 := L5Y.cell 19
  have y20 := L5Y.cell 20
  have y21 := L5Y.cell 21
  go_upto_if 24 with fail
  go_cut [] (fun wx => Hid (Blk wx w1.heap.size 58 Y ∧ Blk wx w3.heap.size 58 Y ∧ Blk wx w4.heap.size 48 K ∧ Below w.heap.size w wx))
  case first =>
    cases er with
    | true =>
      go_wp2_with (refine wpList_store_row rfl 48 _ _ rfl w4.heap.size #[.int .i64 apr, .bool as6, .int .u64 ash, .int .u64 asl, .bool ad6, .int .u64 adh, .int .u64 adl, .int .i64 asp, .int .i64 adp] rfl rfl 48 #[.int .i64 pr, .bool s6, .int .u64 sh, .int .u64 sl, .bool d6, .int .u64 dh, .int .u64 dl, .int .i64 sp, .int .i64 dp] M5.out HIT.out rfl (by kernel_rfl) ?_)
      have hk : K = #[.int .i64 apr, .bool as6, .int .u64 ash, .int .u64 asl, .bool ad6, .int .u64 adh, .int .u64 adl, .int .i64 asp, .int .i64 adp] := HKK.out
      have O56 := onlyRow (g := w4.heap.size) (w := w5) #[.int .i64 apr, .bool as6, .int .u64 ash, .int .u64 asl, .bool ad6, .int .u64 adh, .int .u64 adl, .int .i64 asp, .int .i64 adp]
      go_meet
      exact Lib.hid ⟨O56.blk K5.out (by have := K4.out.lt; omega), O56.blk L5.out (by have := L4.out.lt; omega), by rw [hk]; exact blkRow M5.out _, O56.from B5.out B4.out.size⟩
    | false =>
      have hk : K = #[.int .i64 pr, .bool s6, .int .u64 sh, .int .u64 sl, .bool d6, .int .u64 dh, .int .u64 dl, .int .i64 sp, .int .i64 dp] := HKK.out
      go_wp2_with fail
      go_meet
      exact Lib.hid ⟨K5.out, L5.out, by rw [hk]; exact M5.out, B5.out⟩
  case rest =>
  rename World => w6
  clear y12 y13 y14 y15 y16 y17 y18 y19 y20 y21 L5Y
  have K6 := Lib.hid hcut.out.1
  have L6 := Lib.hid hcut.out.2.1
  have M6 := Lib.hid hcut.out.2.2.1
  have B6 := Lib.hid hcut.out.2.2.2
  clear hcut
  have L6Y := L6.out
  rw [HY.out] at L6Y
  have y1 := L6Y.cell 1
  have y11 := L6Y.cell 11
  clear L6Y
  go_upto_region 7 with fail
  go_cut [8] (fun v wx => v = .bool ob ∧ wx = w6)
  case first =>
    have f0 := F0.out
    have f1 := F1.out
    by_cases h6 : pr = 6
    · have t6 : (pr == 6) = true := by simp [h6]
      by_cases h2 : fl / 2 % 2 = 1
      · have t2 : (fl / 2 % 2 == 1) = true := by simp [h2]
        by_cases h1 : fl % 2 = 0
        · have t1 : (fl % 2 == 0) = true := by simp [h1]
          by_cases h4 : fl / 4 % 2 = 0
          · have t4 : (fl / 4 % 2 == 0) = true := by simp [h4]
            by_cases h16 : fl / 16 % 2 = 0
            · have t16 : (fl / 16 % 2 == 0) = true := by simp [h16]
              go_wp2_with fail
              go_meet
              exact ⟨by rw [HOB.out]; simp [opB, h6, h2, h1, h4, h16], rfl⟩
            · have t16 : (fl / 16 % 2 == 0) = false := by simp [h16]
              go_wp2_with fail
              go_meet
              exact ⟨by rw [HOB.out]; simp [opB, h6, h2, h1, h4, h16], rfl⟩
          · have t4 : (fl / 4 % 2 == 0) = false := by simp [h4]
            go_wp2_with fail
            go_meet
            exact ⟨by rw [HOB.out]; simp [opB, h6, h2, h1, h4], rfl⟩
        · have t1 : (fl % 2 == 0) = false := by simp [h1]
          go_wp2_with fail
          go_meet
          exact ⟨by rw [HOB.out]; simp [opB, h6, h2, h1], rfl⟩
      · have t2 : (fl / 2 % 2 == 1) = false := by simp [h2]
        go_wp2_with fail
        go_meet
        exact ⟨by rw [HOB.out]; simp [opB, h6, h2], rfl⟩
    · have t6 : (pr == 6) = false := by simp [h6]
      go_wp2_with fail
      go_meet
      exact ⟨by rw [HOB.out]; simp [opB, h6], rfl⟩
  case rest =>
  obtain ⟨rfl, hwc⟩ := hcut
  rw [hwc]
  clear hwc y1 y11
  go_upto_region 8 with fail
  have HU := Lib.hid Try.underlying58
  have HV := Lib.hid Try.underlying48
  have HS := Lib.hid (show ∀ W, Below w6.heap.size w6 W → (W.rangeAt w1.heap.size 0 Y.toList ∧ W.rangeAt w3.heap.size 0 Y.toList ∧ W.rangeAt w4.heap.size 0 K.toList) from fun W hW => ⟨range_blk (K6.out.below hW K6.out.lt), range_blk (L6.out.below hW L6.out.lt), range_blk (M6.out.below hW M6.out.lt)⟩)
  have D0 := Lib.hid ((Below.refl w6.heap.size w6).drew)
  have s0 := HS.out w6.drew D0.out
  refine wp_region_held_drew (S := fun V => V.rangeAt w1.heap.size 0 Y.toList ∧ V.rangeAt w3.heap.size 0 Y.toList ∧ V.rangeAt w4.heap.size 0 K.toList) (by kernel_rfl) s0 (fun hHeld => ?_)
  refine wpAnyH_take (i := 0) (v := .agg Y) rfl (by kernel_rfl) (by kernel_rfl) (by kernel_rfl) (fun _ _ _ h => h) (yield_row (by rfl) _ _ rfl w1.heap.size rfl Y _ (fun _ h => h.1) HU.out rfl HIY.out) (by assumption) ?_
  try simp only [List.getElem_toArray, List.getElem_cons_zero, Act.put, List.setIfInBounds_toArray, List.set_cons_zero, List.set_cons_succ]
  refine wpAnyH_take (i := 1) (v := .agg Y) rfl (by kernel_rfl) (by kernel_rfl) (by kernel_rfl) (fun _ _ _ h => h) (yield_row (by rfl) _ _ rfl w3.heap.size rfl Y _ (fun _ h => h.2.1) HU.out rfl HIY.out) (by assumption) ?_
  try simp only [List.getElem_toArray, List.getElem_cons_zero, List.getElem_cons_succ, Act.put, List.setIfInBounds_toArray, List.set_cons_zero, List.set_cons_succ]
  refine wpAnyH_take (i := 2) (v := .bool true) rfl (by kernel_rfl) (by kernel_rfl) (by kernel_rfl) (fun _ _ _ h => h) (Or.inl ⟨by rfl, ?_⟩) (by assumption) ?_
  · intro V hV
    rw [HY.out]
    go_simp
  try simp only [List.getElem_toArray, List.getElem_cons_zero, List.getElem_cons_succ, Act.put, List.setIfInBounds_toArray, List.set_cons_zero, List.set_cons_succ]
  refine wpAnyH_take (i := 3) (v := .bool true) rfl (by kernel_rfl) (by kernel_rfl) (by kernel_rfl) (fun _ _ _ h => h) (Or.inl ⟨by rfl, ?_⟩) (by assumption) ?_
  · intro V hV
    go_simp
  try simp only [List.getElem_toArray, List.getElem_cons_zero, List.getElem_cons_succ, Act.put, List.setIfInBounds_toArray, List.set_cons_zero, List.set_cons_succ]
  refine wpAnyH_take (i := 4) (v := .int .i64 e) rfl (by kernel_rfl) (by kernel_rfl) (by kernel_rfl) (fun _ _ _ h => h) (Or.inl ⟨by rfl, ?_⟩) (by assumption) ?_
  · intro V hV
    go_simp
  try simp only [List.getElem_toArray, List.getElem_cons_zero, List.getElem_cons_succ, Act.put, List.setIfInBounds_toArray, List.set_cons_zero, List.set_cons_succ]
  refine wpAnyH_take (i := 5) (v := .int .i64 e) rfl (by kernel_rfl) (by kernel_rfl) (by kernel_rfl) (fun _ _ _ h => h) (Or.inl ⟨by rfl, ?_⟩) (by assumption) ?_
  · intro V hV
    go_simp
  try simp only [List.getElem_toArray, List.getElem_cons_zero, List.getElem_cons_succ, Act.put, List.setIfInBounds_toArray, List.set_cons_zero, List.set_cons_succ]
  refine wpAnyH_take (i := 6) (v := .bool true) rfl (by kernel_rfl) (by kernel_rfl) (by kernel_rfl) (fun _ _ _ h => h) (Or.inl ⟨by rfl, ?_⟩) (by assumption) ?_
  · intro V hV
    go_simp
  try simp only [List.getElem_toArray, List.getElem_cons_zero, List.getElem_cons_succ, Act.put, List.setIfInBounds_toArray, List.set_cons_zero, List.set_cons_succ]
  refine wpAnyH_take (i := 7) (v := .bool true) rfl (by kernel_rfl) (by kernel_rfl) (by kernel_rfl) (fun _ _ _ h => h) (Or.inl ⟨by rfl, ?_⟩) (by assumption) ?_
  · intro V hV
    go_simp
  try simp only [List.getElem_toArray, List.getElem_cons_zero, List.getElem_cons_succ, Act.put, List.setIfInBounds_toArray, List.set_cons_zero, List.set_cons_succ]
  refine wpAnyH_take (i := 8) (v := .bool true) rfl (by kernel_rfl) (by kernel_rfl) (by kernel_rfl) (fun _ _ _ h => h) (Or.inl ⟨by rfl, ?_⟩) (by assumption) ?_
  · intro V hV
    go_simp
  try simp only [List.getElem_toArray, List.getElem_cons_zero, List.getElem_cons_succ, Act.put, List.setIfInBounds_toArray, List.set_cons_zero, List.set_cons_succ]
  refine wpAnyH_take (i := 9) (v := .agg Y) rfl (by kernel_rfl) (by kernel_rfl) (by kernel_rfl) (fun _ _ _ h => h) (yield_row (by rfl) _ _ rfl w1.heap.size rfl Y _ (fun _ h => h.1) HU.out rfl HIY.out) (by assumption) ?_
  try simp only [List.getElem_toArray, List.getElem_cons_zero, List.getElem_cons_succ, Act.put, List.setIfInBounds_toArray, List.set_cons_zero, List.set_cons_succ]
  refine wpAnyH_take (i := 11) (v := .agg K) rfl (by kernel_rfl) (by kernel_rfl) (by kernel_rfl) (fun _ _ _ h => h) (yield_row (by rfl) _ _ rfl w4.heap.size rfl K _ (fun _ h => h.2.2) HV.out rfl HIK.out) (by assumption) ?_
  try simp only [List.getElem_toArray, List.getElem_cons_zero, List.getElem_cons_succ, Act.put, List.setIfInBounds_toArray, List.set_cons_zero, List.set_cons_succ]
  refine wpAnyH_ready (rs := [10]) (by kernel_rfl) (by simp) ?_
  refine AllReadyH.cons rfl (fun K hK => ?_) AllReadyH.nil
  go_simp
  go_at_call 30
  (with_reducible refine (HKY.out _).mono ?_)
  rintro o wk_D1 ⟨rfl, hbk⟩
  have D1 := Lib.hid (D0.out.trans (hbk.mono D0.out.size))
  have s1 := HS.out wk_D1 D1.out
  clear hbk
  refine hK.out _ _ ?_ (fun hHeld => ?_)
  · exact s1
  clear hK K
  try simp only [List.getElem_toArray, List.getElem_cons_zero, List.getElem_cons_succ, Act.put, List.setIfInBounds_toArray, List.set_cons_zero, List.set_cons_succ]
  refine wpAnyH_take (i := 12) (v := .bool true) rfl (by kernel_rfl) (by kernel_rfl) (by kernel_rfl) (fun _ _ _ h => h) (Or.inl ⟨by rfl, ?_⟩) (by assumption) ?_
  · intro V hV
    rw [HKP.out]
    unfold Tp.cells
    go_simp
  try simp only [List.getElem_toArray, List.getElem_cons_zero, List.getElem_cons_succ, Act.put, List.setIfInBounds_toArray, List.set_cons_zero, List.set_cons_succ]
  refine wpAnyH_take (i := 13) (v := .bool true) rfl (by kernel_rfl) (by kernel_rfl) (by kernel_rfl) (fun _ _ _ h => h) (Or.inl ⟨by rfl, ?_⟩) (by assumption) ?_
  · intro V hV
    go_simp
  try simp only [List.getElem_toArray, List.getElem_cons_zero, List.getElem_cons_succ, Act.put, List.setIfInBounds_toArray, List.set_cons_zero, List.set_cons_succ]
  refine wpAnyH_take (i := 14) (v := .bool true) rfl (by kernel_rfl) (by kernel_rfl) (by kernel_rfl) (fun _ _ _ h => h) (Or.inl ⟨by rfl, ?_⟩) (by assumption) ?_
  · intro V hV
    go_simp
  try simp only [List.getElem_toArray, List.getElem_cons_zero, List.getElem_cons_succ, Act.put, List.setIfInBounds_toArray, List.set_cons_zero, List.set_cons_succ]
  refine wpAnyH_take (i := 15) (v := .agg Y) rfl (by kernel_rfl) (by kernel_rfl) (by kernel_rfl) (fun _ _ _ h => h) (yield_row (by rfl) _ _ rfl w1.heap.size rfl Y _ (fun _ h => h.1) HU.out rfl HIY.out) (by assumption) ?_
  try simp only [List.getElem_toArray, List.getElem_cons_zero, List.getElem_cons_succ, Act.put, List.setIfInBounds_toArray, List.set_cons_zero, List.set_cons_succ]
  refine wpAnyH_take (i := 17) (v := .bool ob) rfl (by kernel_rfl) (by kernel_rfl) (by kernel_rfl) (fun _ _ _ h => h) (Or.inl ⟨by rfl, ?_⟩) (by assumption) ?_
  · intro V hV
    go_simp
  try simp only [List.getElem_toArray, List.getElem_cons_zero, List.getElem_cons_succ, Act.put, List.setIfInBounds_toArray, List.set_cons_zero, List.set_cons_succ]
  refine wpAnyH_ready (rs := [16]) (by kernel_rfl) (by simp) ?_
  refine AllReadyH.cons rfl (fun K hK => ?_) AllReadyH.nil
  go_simp
  go_at_call 31
  (with_reducible refine (HO.out _).mono ?_)
  rintro o wk_D2 ⟨rfl, hbk⟩
  have D2 := Lib.hid (D1.out.trans (hbk.mono D1.out.size))
  have s2 := HS.out wk_D2 D2.out
  clear hbk
  refine hK.out _ _ ?_ (fun hHeld => ?_)
  · exact s2
  clear hK K
  try simp only [List.getElem_toArray, List.getElem_cons_zero, List.getElem_cons_succ, Act.put, List.setIfInBounds_toArray, List.set_cons_zero, List.set_cons_succ]
  refine wpAnyH_take (i := 18) (v := .bool true) rfl (by kernel_rfl) (by kernel_rfl) (by kernel_rfl) (fun _ _ _ h => h) (Or.inl ⟨by rfl, ?_⟩) (by assumption) ?_
  · intro V hV
    go_simp
  try simp only [List.getElem_toArray, List.getElem_cons_zero, List.getElem_cons_succ, Act.put, List.setIfInBounds_toArray, List.set_cons_zero, List.set_cons_succ]
  refine wpAnyH_take (i := 19) (v := .bool true) rfl (by kernel_rfl) (by kernel_rfl) (by kernel_rfl) (fun _ _ _ h => h) (Or.inl ⟨by rfl, ?_⟩) (by assumption) ?_
  · intro V hV
    go_simp
  try simp only [List.getElem_toArray, List.getElem_cons_zero, List.getElem_cons_succ, Act.put, List.setIfInBounds_toArray, List.set_cons_zero, List.set_cons_succ]
  refine wpAnyH_take (i := 20) (v := .bool true) rfl (by kernel_rfl) (by kernel_rfl) (by kernel_rfl) (fun _ _ _ h => h) (Or.inl ⟨by rfl, ?_⟩) (by assumption) ?_
  · intro V hV
    go_simp
  try simp only [List.getElem_toArray, List.getElem_cons_zero, List.getElem_cons_succ, Act.put, List.setIfInBounds_toArray, List.set_cons_zero, List.set_cons_succ]
  refine wpAnyH_ready (rs := [21]) (by kernel_rfl) (by simp) ?_
  refine AllReadyH.cons rfl (fun K hK => ?_) AllReadyH.nil
  go_simp
  go_at_call 32
  (with_reducible refine (HAW.out _).mono ?_)
  rintro o wk_D3 ⟨rfl, hbk⟩
  have D3 := Lib.hid (D2.out.trans (hbk.mono D2.out.size))
  have s3 := HS.out wk_D3 D3.out
  clear hbk
  refine hK.out _ _ ?_ (fun hHeld => ?_)
  · exact s3
  clear hK K
  try simp only [List.getElem_toArray, List.getElem_cons_zero, List.getElem_cons_succ, Act.put, List.setIfInBounds_toArray, List.set_cons_zero, List.set_cons_succ]
  refine wpAnyH_take (i := 22) (v := .bool true) rfl (by kernel_rfl) (by kernel_rfl) (by kernel_rfl) (fun _ _ _ h => h) (Or.inl ⟨by rfl, ?_⟩) (by assumption) ?_
  · intro V hV
    go_simp
  try simp only [List.getElem_toArray, List.getElem_cons_zero, List.getElem_cons_succ, Act.put, List.setIfInBounds_toArray, List.set_cons_zero, List.set_cons_succ]
  refine wpAnyH_take (i := 23) (v := .bool true) rfl (by kernel_rfl) (by kernel_rfl) (by kernel_rfl) (fun _ _ _ h => h) (Or.inl ⟨by rfl, ?_⟩) (by assumption) ?_
  · intro V hV
    go_simp
  try simp only [List.getElem_toArray, List.getElem_cons_zero, List.getElem_cons_succ, Act.put, List.setIfInBounds_toArray, List.set_cons_zero, List.set_cons_succ]
  refine wpAnyH_done (by kernel_rfl) ?_ _
  go_wp2_with fail
  go_ret
  exact ⟨rfl, B6.out.trans (D3.out.mono B6.out.size)⟩
end Go.Proofs.Ytndekicblbpkjaa.pktO
