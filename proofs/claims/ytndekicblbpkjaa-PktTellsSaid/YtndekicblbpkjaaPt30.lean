/- 2 texts in one. -/
import Derived.Test.YtndekicblbpkjaaPt23
import Derived.Test.YtndekicblbpkjaaPt29
/- Layer 13: a message of an error about a packet. -/
namespace Go.Proofs.Ytndekicblbpkjaa.pktX
open Go.ChangeShapes Go.WideShapes Go.ChangeAt Go.RowKit
open Go.Proofs.Ytndekicblbpkjaa.base Go.Proofs.Ytndekicblbpkjaa.rdrA Go.Proofs.Ytndekicblbpkjaa.rdrG Go.Proofs.Ytndekicblbpkjaa.sumB Go.Proofs.Ytndekicblbpkjaa.sixW Go.Proofs.Ytndekicblbpkjaa.sixM Go.Proofs.Ytndekicblbpkjaa.pktA Go.Proofs.Ytndekicblbpkjaa.pktB Go.Proofs.Ytndekicblbpkjaa.pktC Go.Proofs.Ytndekicblbpkjaa.pktD Go.Proofs.Ytndekicblbpkjaa.pktE Go.Proofs.Ytndekicblbpkjaa.sixE Go.Proofs.Ytndekicblbpkjaa.sixF Go.Proofs.Ytndekicblbpkjaa.pktL Go.Proofs.Ytndekicblbpkjaa.pktW
set_option linter.unusedVariables false

theorem icmp_bytes (ty : Int) (A A2 : Option Addr) (n c n2 c2 : Nat) (d ps : List Int) (w : World) (h : Sl w A n c d) (h2 : Sl w A2 n2 c2 ps) (hn : n ≤ 800) (hn2 : n2 ≤ 1000) (ht : 0 ≤ ty ∧ ty ≤ 255) :
    Calls Try.prog 69 #[.agg #[.int .i64 ty, .int .i64 0, .int .u32 0, .slice A n c], .slice A2 n2 c2] w (MkP 0 (msg ty ps d) w) := by
  refine (icmpEn.bytes_any ty 0 0 A A2 n c n2 c2 d ps w ⟨ht, by omega, by omega⟩ (by omega) (by omega) h.len (by omega) h.row h.nil h.u8 h2.len hn2 h2.row h2.u8).mono ?_
  rintro o w' ⟨v, rfl, h3, h4⟩
  obtain ⟨B, e, rfl⟩ := own_slice h3
  exact ⟨h4, B, _, e, rfl, Sl.own h3 rfl (msg_in ty ps d ht h2.u8 h.u8)⟩
set_option maxHeartbeats 4000000 in
theorem ur_closure (ty : Int) (c1 : Nat) (A A2 : Option Addr) (n c n2 cc2 : Nat) (e : Int) (bs : List Int) (w : World)
    (K1 : Blk w c1 46 #[.int .i64 ty, .int .i64 0, .int .u32 0, .slice A n c])
    (HC : Hid (Calls Try.prog 69 #[.agg #[.int .i64 ty, .int .i64 0, .int .u32 0, .slice A n c], .slice A2 n2 cc2] w (MkP e bs w))) :
    Calls Try.prog 68 #[.slice A2 n2 cc2, .pointer (some ⟨c1, 0, none⟩)] w (MkP e bs w) := by
  have p0 := K1.cell 0
  have p1 := K1.cell 1
  have p2 := K1.cell 2
  have p3 := K1.cell 3
  go_enter Try.func68, Try.ntmps68
  go_wp2_with fail
  refine HC.out.mono ?_
  rintro o w4 ⟨hb4, A4, n4, c4, rfl, hs4⟩
  go_wp2_with fail
  go_ret2
  exact ⟨hb4, A4, n4, c4, rfl, hs4⟩
set_option maxHeartbeats 4000000 in
set_option maxRecDepth 100000 in
theorem unr_ver (f6 : Bool) (fh fl ttl most : Int) (v6 er : Bool) (pr : Int) (s6 : Bool) (sh sl : Int) (d6 : Bool) (dh dl sp dp ptl pfl : Int) (apr : Int) (as6 : Bool) (ash asl : Int) (ad6 : Bool) (adh adl asp adp sz : Int) (h : f6 ≠ v6) (A : Option Addr) (n c : Nat) (w : World)
    (HP : Hid (∀ V, Below w.heap.size w V → Calls Try.prog 28 #[.slice A n c] V fun o w' => o = .returned (.tuple #[.agg #[.bool v6, .int .i64 pr, .bool s6, .int .u64 sh, .int .u64 sl, .bool d6, .int .u64 dh, .int .u64 dl, .int .i64 sp, .int .i64 dp, .int .i64 ptl, .int .i64 pfl, .bool er, .int .i64 apr, .bool as6, .int .u64 ash, .int .u64 asl, .bool ad6, .int .u64 adh, .int .u64 adl, .int .i64 asp, .int .i64 adp, .int .i64 sz], .int .i64 0]) ∧ Below V.heap.size V w')) :
    Calls Try.prog 36 #[.agg #[.bool f6, .int .u64 fh, .int .u64 fl], .int .i64 ttl, .slice A n c, .int .i64 most] w (MkP 1 [] w) := by
  have tv : (f6 == v6) = false := by simpa using h
  clear h
  obtain ⟨w1, hw1⟩ : ∃ w1, w1 = w.alloc (.cells #[.bool f6, .int .u64 fh, .int .u64 fl] 26) := ⟨_, rfl⟩
  have E1 := Lib.hid hw1
  have B1 := Lib.hid (show Below w.heap.size w w1 from by rw [hw1]; exact (Below.refl _ _).alloc (Nat.le_refl _) _)
  obtain ⟨g, hg⟩ : ∃ g, g = w.heap.size := ⟨_, rfl⟩
  have EG := Lib.hid hg
  have K1 := Lib.hid (show Blk w1 g 26 #[.bool f6, .int .u64 fh, .int .u64 fl] from by rw [hw1, hg]; exact Blk.new w _ _)
  have HI := Lib.hid pk_size
  have ONE := Lib.hid (show (#[.bool v6, .int .i64 pr, .bool s6, .int .u64 sh, .int .u64 sl, .bool d6, .int .u64 dh, .int .u64 dl, .int .i64 sp, .int .i64 dp, .int .i64 ptl, .int .i64 pfl, .bool er, .int .i64 apr, .bool as6, .int .u64 ash, .int .u64 asl, .bool ad6, .int .u64 adh, .int .u64 adl, .int .i64 asp, .int .i64 adp, .int .i64 sz] : Array Value).all (·.oneCell') = true from by simp [Value.oneCell'])
  clear hw1 hg
  go_enter Try.func36, Try.ntmps36
  go_upto_region 1 with fail
  rw [← E1.out, ← EG.out]
  go_wp2_with fail
  refine (HP.out _ B1.out).mono ?_
  rintro o w2 ⟨rfl, hb2⟩
  obtain ⟨w3, hw3⟩ : ∃ w3, w3 = (w2.alloc (.cells #[.bool false, .int .i64 0, .bool false, .int .u64 0, .int .u64 0, .bool false, .int .u64 0, .int .u64 0, .int .i64 0, .int .i64 0, .int .i64 0, .int .i64 0, .bool false, .int .i64 0, .bool false, .int .u64 0, .int .u64 0, .bool false, .int .u64 0, .int .u64 0, .int .i64 0, .int .i64 0, .int .i64 0] 58)).setRow w2.heap.size #[.bool v6, .int .i64 pr, .bool s6, .int .u64 sh, .int .u64 sl, .bool d6, .int .u64 dh, .int .u64 dl, .int .i64 sp, .int .i64 dp, .int .i64 ptl, .int .i64 pfl, .bool er, .int .i64 apr, .bool as6, .int .u64 ash, .int .u64 asl, .bool ad6, .int .u64 adh, .int .u64 adl, .int .i64 asp, .int .i64 adp, .int .i64 sz] := ⟨_, rfl⟩
  have E3 := Lib.hid hw3
  have B23 := Lib.hid (show Below w2.heap.size w2 w3 from by rw [hw3]; exact (onlyRow _).from ((Below.refl _ _).alloc (Nat.le_refl _) _) (Nat.le_refl _))
  have B13 := Lib.hid (hb2.trans (B23.out.mono hb2.size))
  have K3 := Lib.hid (K1.out.below B13.out K1.out.lt)
  have L3 := Lib.hid (show Blk w3 w2.heap.size 58 #[.bool v6, .int .i64 pr, .bool s6, .int .u64 sh, .int .u64 sl, .bool d6, .int .u64 dh, .int .u64 dl, .int .i64 sp, .int .i64 dp, .int .i64 ptl, .int .i64 pfl, .bool er, .int .i64 apr, .bool as6, .int .u64 ash, .int .u64 asl, .bool ad6, .int .u64 adh, .int .u64 adl, .int .i64 asp, .int .i64 adp, .int .i64 sz] from by rw [hw3]; exact blkRow (Blk.new w2 _ _) _)
  have B3 := Lib.hid (B1.out.trans (B13.out.mono B1.out.size))
  clear hw3 hb2
  go_upto_region 2 with (refine wpList_store_row rfl 58 _ _ rfl w2.heap.size #[.bool v6, .int .i64 pr, .bool s6, .int .u64 sh, .int .u64 sl, .bool d6, .int .u64 dh, .int .u64 dl, .int .i64 sp, .int .i64 dp, .int .i64 ptl, .int .i64 pfl, .bool er, .int .i64 apr, .bool as6, .int .u64 ash, .int .u64 asl, .bool ad6, .int .u64 adh, .int .u64 adl, .int .i64 asp, .int .i64 adp, .int .i64 sz] rfl rfl 58 #[.bool false, .int .i64 0, .bool false, .int .u64 0, .int .u64 0, .bool false, .int .u64 0, .int .u64 0, .int .i64 0, .int .i64 0, .int .i64 0, .int .i64 0, .bool false, .int .i64 0, .bool false, .int .u64 0, .int .u64 0, .bool false, .int .u64 0, .int .u64 0, .int .i64 0, .int .i64 0, .int .i64 0] (Blk.new w2 _ _) HI.out rfl ONE.out ?_)
  rw [← E3.out]
  have f0 := K3.out.cell 0
  have q0 := L3.out.cell 0
  have q12 := L3.out.cell 12
  go_wp2_with fail
  go_ret2
  exact MkP.nil_ B3.out
set_option maxHeartbeats 4000000 in
set_option maxRecDepth 100000 in
theorem unr_err (f6 : Bool) (fh fl ttl most : Int) (pr : Int) (s6 : Bool) (sh sl : Int) (d6 : Bool) (dh dl sp dp ptl pfl : Int) (apr : Int) (as6 : Bool) (ash asl : Int) (ad6 : Bool) (adh adl asp adp sz : Int) (A : Option Addr) (n c : Nat) (w : World)
    (HP : Hid (∀ V, Below w.heap.size w V → Calls Try.prog 28 #[.slice A n c] V fun o w' => o = .returned (.tuple #[.agg #[.bool f6, .int .i64 pr, .bool s6, .int .u64 sh, .int .u64 sl, .bool d6, .int .u64 dh, .int .u64 dl, .int .i64 sp, .int .i64 dp, .int .i64 ptl, .int .i64 pfl, .bool true, .int .i64 apr, .bool as6, .int .u64 ash, .int .u64 asl, .bool ad6, .int .u64 adh, .int .u64 adl, .int .i64 asp, .int .i64 adp, .int .i64 sz], .int .i64 0]) ∧ Below V.heap.size V w')) :
    Calls Try.prog 36 #[.agg #[.bool f6, .int .u64 fh, .int .u64 fl], .int .i64 ttl, .slice A n c, .int .i64 most] w (MkP 1 [] w) := by
  have tv : (f6 == f6) = true := by simp
  obtain ⟨w1, hw1⟩ : ∃ w1, w1 = w.alloc (.cells #[.bool f6, .int .u64 fh, .int .u64 fl] 26) := ⟨_, rfl⟩
  have E1 := Lib.hid hw1
  have B1 := Lib.hid (show Below w.heap.size w w1 from by rw [hw1]; exact (Below.refl _ _).alloc (Nat.le_refl _) _)
  obtain ⟨g, hg⟩ : ∃ g, g = w.heap.size := ⟨_, rfl⟩
  have EG := Lib.hid hg
  have K1 := Lib.hid (show Blk w1 g 26 #[.bool f6, .int .u64 fh, .int .u64 fl] from by rw [hw1, hg]; exact Blk.new w _ _)
  have HI := Lib.hid pk_size
  have ONE := Lib.hid (show (#[.bool f6, .int .i64 pr, .bool s6, .int .u64 sh, .int .u64 sl, .bool d6, .int .u64 dh, .int .u64 dl, .int .i64 sp, .int .i64 dp, .int .i64 ptl, .int .i64 pfl, .bool true, .int .i64 apr, .bool as6, .int .u64 ash, .int .u64 asl, .bool ad6, .int .u64 adh, .int .u64 adl, .int .i64 asp, .int .i64 adp, .int .i64 sz] : Array Value).all (·.oneCell') = true from by simp [Value.oneCell'])
  clear hw1 hg
  go_enter Try.func36, Try.ntmps36
  go_upto_region 1 with fail
  rw [← E1.out, ← EG.out]
  go_wp2_with fail
  refine (HP.out _ B1.out).mono ?_
  rintro o w2 ⟨rfl, hb2⟩
  obtain ⟨w3, hw3⟩ : ∃ w3, w3 = (w2.alloc (.cells #[.bool false, .int .i64 0, .bool false, .int .u64 0, .int .u64 0, .bool false, .int .u64 0, .int .u64 0, .int .i64 0, .int .i64 0, .int .i64 0, .int .i64 0, .bool false, .int .i64 0, .bool false, .int .u64 0, .int .u64 0, .bool false, .int .u64 0, .int .u64 0, .int .i64 0, .int .i64 0, .int .i64 0] 58)).setRow w2.heap.size #[.bool f6, .int .i64 pr, .bool s6, .int .u64 sh, .int .u64 sl, .bool d6, .int .u64 dh, .int .u64 dl, .int .i64 sp, .int .i64 dp, .int .i64 ptl, .int .i64 pfl, .bool true, .int .i64 apr, .bool as6, .int .u64 ash, .int .u64 asl, .bool ad6, .int .u64 adh, .int .u64 adl, .int .i64 asp, .int .i64 adp, .int .i64 sz] := ⟨_, rfl⟩
  have E3 := Lib.hid hw3
  have B23 := Lib.hid (show Below w2.heap.size w2 w3 from by rw [hw3]; exact (onlyRow _).from ((Below.refl _ _).alloc (Nat.le_refl _) _) (Nat.le_refl _))
  have B13 := Lib.hid (hb2.trans (B23.out.mono hb2.size))
  have K3 := Lib.hid (K1.out.below B13.out K1.out.lt)
  have L3 := Lib.hid (show Blk w3 w2.heap.size 58 #[.bool f6, .int .i64 pr, .bool s6, .int .u64 sh, .int .u64 sl, .bool d6, .int .u64 dh, .int .u64 dl, .int .i64 sp, .int .i64 dp, .int .i64 ptl, .int .i64 pfl, .bool true, .int .i64 apr, .bool as6, .int .u64 ash, .int .u64 asl, .bool ad6, .int .u64 adh, .int .u64 adl, .int .i64 asp, .int .i64 adp, .int .i64 sz] from by rw [hw3]; exact blkRow (Blk.new w2 _ _) _)
  have B3 := Lib.hid (B1.out.trans (B13.out.mono B1.out.size))
  clear hw3 hb2
  go_upto_region 2 with (refine wpList_store_row rfl 58 _ _ rfl w2.heap.size #[.bool f6, .int .i64 pr, .bool s6, .int .u64 sh, .int .u64 sl, .bool d6, .int .u64 dh, .int .u64 dl, .int .i64 sp, .int .i64 dp, .int .i64 ptl, .int .i64 pfl, .bool true, .int .i64 apr, .bool as6, .int .u64 ash, .int .u64 asl, .bool ad6, .int .u64 adh, .int .u64 adl, .int .i64 asp, .int .i64 adp, .int .i64 sz] rfl rfl 58 #[.bool false, .int .i64 0, .bool false, .int .u64 0, .int .u64 0, .bool false, .int .u64 0, .int .u64 0, .int .i64 0, .int .i64 0, .int .i64 0, .int .i64 0, .bool false, .int .i64 0, .bool false, .int .u64 0, .int .u64 0, .bool false, .int .u64 0, .int .u64 0, .int .i64 0, .int .i64 0, .int .i64 0] (Blk.new w2 _ _) HI.out rfl ONE.out ?_)
  rw [← E3.out]
  have f0 := K3.out.cell 0
  have q0 := L3.out.cell 0
  have q12 := L3.out.cell 12
  go_wp2_with fail
  go_ret2
  exact MkP.nil_ B3.out
set_option maxHeartbeats 8000000 in
set_option maxRecDepth 100000 in
theorem unr_four (fh fl ttl most : Int) (pr : Int) (s6 : Bool) (sh sl : Int) (d6 : Bool) (dh dl sp dp ptl pfl : Int) (apr : Int) (as6 : Bool) (ash asl : Int) (ad6 : Bool) (adh adl asp adp sz : Int) (b off n c k : Nat) (e : Int) (out : List Int) (w : World) (hn : 0 < n) (hn2 : n ≤ 1000) (hnc : n ≤ c) (hk : (k : Int) = min (max most 0) (n : Int))
    (HP : Hid (∀ V, Below w.heap.size w V → Calls Try.prog 28 #[.slice (some ⟨b, off, none⟩) n c] V fun o w' => o = .returned (.tuple #[.agg #[.bool false, .int .i64 pr, .bool s6, .int .u64 sh, .int .u64 sl, .bool d6, .int .u64 dh, .int .u64 dl, .int .i64 sp, .int .i64 dp, .int .i64 ptl, .int .i64 pfl, .bool false, .int .i64 apr, .bool as6, .int .u64 ash, .int .u64 asl, .bool ad6, .int .u64 adh, .int .u64 adl, .int .i64 asp, .int .i64 adp, .int .i64 sz], .int .i64 0]) ∧ Below V.heap.size V w'))
    (HW : Hid (∀ V c1, Below w.heap.size w V → Blk V c1 46 #[.int .i64 3, .int .i64 0, .int .u32 0, .slice (some ⟨b, off, none⟩) k c] → Calls Try.prog 63 #[.agg #[.int .i64 1, .bool false, .int .u64 fh, .int .u64 fl, .bool s6, .int .u64 sh, .int .u64 sl, .int .i64 0, .int .i64 0], .int .i64 ttl, .int .i64 (8 + (k : Int)), .func (.func 68) #[] #[.pointer (some ⟨c1, 0, none⟩)]] V (MkP e out V))) :
    Calls Try.prog 36 #[.agg #[.bool false, .int .u64 fh, .int .u64 fl], .int .i64 ttl, .slice (some ⟨b, off, none⟩) n c, .int .i64 most] w (MkP e out w) := by
  have hmf : ∀ (fn : Fn) (first cap : Array Value) (w : World), (Instr.makeFunc fn first cap).run Try.prog w = .ok (.func fn first cap) w := fun _ _ _ _ => rfl
  have hkn : k ≤ n := by omega
  obtain ⟨s1, s2⟩ := sixF.slice_to b off n c k (by omega) (by omega)
  have HK := Lib.hid hk
  clear hk
  obtain ⟨w1, hw1⟩ : ∃ w1, w1 = w.alloc (.cells #[.bool false, .int .u64 fh, .int .u64 fl] 26) := ⟨_, rfl⟩
  have E1 := Lib.hid hw1
  have B1 := Lib.hid (show Below w.heap.size w w1 from by rw [hw1]; exact (Below.refl _ _).alloc (Nat.le_refl _) _)
  obtain ⟨g, hg⟩ : ∃ g, g = w.heap.size := ⟨_, rfl⟩
  have EG := Lib.hid hg
  have K1 := Lib.hid (show Blk w1 g 26 #[.bool false, .int .u64 fh, .int .u64 fl] from by rw [hw1, hg]; exact Blk.new w _ _)
  have HI := Lib.hid pk_size
  have ONE := Lib.hid (show (#[.bool false, .int .i64 pr, .bool s6, .int .u64 sh, .int .u64 sl, .bool d6, .int .u64 dh, .int .u64 dl, .int .i64 sp, .int .i64 dp, .int .i64 ptl, .int .i64 pfl, .bool false, .int .i64 apr, .bool as6, .int .u64 ash, .int .u64 asl, .bool ad6, .int .u64 adh, .int .u64 adl, .int .i64 asp, .int .i64 adp, .int .i64 sz] : Array Value).all (·.oneCell') = true from by simp [Value.oneCell'])
  clear hw1 hg
  go_enter Try.func36, Try.ntmps36
  go_upto_region 1 with fail
  rw [← E1.out, ← EG.out]
  go_wp2_with fail
  refine (HP.out _ B1.out).mono ?_
  rintro o w2 ⟨rfl, hb2⟩
  obtain ⟨w3, hw3⟩ : ∃ w3, w3 = (w2.alloc (.cells #[.bool false, .int .i64 0, .bool false, .int .u64 0, .int .u64 0, .bool false, .int .u64 0, .int .u64 0, .int .i64 0, .int .i64 0, .int .i64 0, .int .i64 0, .bool false, .int .i64 0, .bool false, .int .u64 0, .int .u64 0, .bool false, .int .u64 0, .int .u64 0, .int .i64 0, .int .i64 0, .int .i64 0] 58)).setRow w2.heap.size #[.bool false, .int .i64 pr, .bool s6, .int .u64 sh, .int .u64 sl, .bool d6, .int .u64 dh, .int .u64 dl, .int .i64 sp, .int .i64 dp, .int .i64 ptl, .int .i64 pfl, .bool false, .int .i64 apr, .bool as6, .int .u64 ash, .int .u64 asl, .bool ad6, .int .u64 adh, .int .u64 adl, .int .i64 asp, .int .i64 adp, .int .i64 sz] := ⟨_, rfl⟩
  have E3 := Lib.hid hw3
  have B23 := Lib.hid (show Below w2.heap.size w2 w3 from by rw [hw3]; exact (onlyRow _).from ((Below.refl _ _).alloc (Nat.le_refl _) _) (Nat.le_refl _))
  have B13 := Lib.hid (hb2.trans (B23.out.mono hb2.size))
  have K3 := Lib.hid (K1.out.below B13.out K1.out.lt)
  have L3 := Lib.hid (show Blk w3 w2.heap.size 58 #[.bool false, .int .i64 pr, .bool s6, .int .u64 sh, .int .u64 sl, .bool d6, .int .u64 dh, .int .u64 dl, .int .i64 sp, .int .i64 dp, .int .i64 ptl, .int .i64 pfl, .bool false, .int .i64 apr, .bool as6, .int .u64 ash, .int .u64 asl, .bool ad6, .int .u64 adh, .int .u64 adl, .int .i64 asp, .int .i64 adp, .int .i64 sz] from by rw [hw3]; exact blkRow (Blk.new w2 _ _) _)
  have B3 := Lib.hid (B1.out.trans (B13.out.mono B1.out.size))
  clear hw3 hb2
  go_upto_region 2 with (refine wpList_store_row rfl 58 _ _ rfl w2.heap.size #[.bool false, .int .i64 pr, .bool s6, .int .u64 sh, .int .u64 sl, .bool d6, .int .u64 dh, .int .u64 dl, .int .i64 sp, .int .i64 dp, .int .i64 ptl, .int .i64 pfl, .bool false, .int .i64 apr, .bool as6, .int .u64 ash, .int .u64 asl, .bool ad6, .int .u64 adh, .int .u64 adl, .int .i64 asp, .int .i64 adp, .int .i64 sz] rfl rfl 58 #[.bool false, .int .i64 0, .bool false, .int .u64 0, .int .u64 0, .bool false, .int .u64 0, .int .u64 0, .int .i64 0, .int .i64 0, .int .i64 0, .int .i64 0, .bool false, .int .i64 0, .bool false, .int .u64 0, .int .u64 0, .bool false, .int .u64 0, .int .u64 0, .int .i64 0, .int .i64 0, .int .i64 0] (Blk.new w2 _ _) HI.out rfl ONE.out ?_)
  rw [← E3.out]
  have f0 := K3.out.cell 0
  have q0 := L3.out.cell 0
  have q12 := L3.out.cell 12
  have f1 := K3.out.cell 1
  have f2 := K3.out.cell 2
  have q2 := L3.out.cell 2
  have q3 := L3.out.cell 3
  have q4 := L3.out.cell 4
  go_upto_region 7 with fail
  obtain ⟨w4, hw4⟩ : ∃ w4, w4 = w3.alloc (.cells #[.int .i64 1, .bool false, .int .u64 fh, .int .u64 fl, .bool s6, .int .u64 sh, .int .u64 sl, .int .i64 0, .int .i64 0] 48) := ⟨_, rfl⟩
  have E4 := Lib.hid hw4
  have B34 := Lib.hid (show Below w3.heap.size w3 w4 from by rw [hw4]; exact (Below.refl _ _).alloc (Nat.le_refl _) _)
  have T4 := Lib.hid (show Blk w4 w3.heap.size 48 #[.int .i64 1, .bool false, .int .u64 fh, .int .u64 fl, .bool s6, .int .u64 sh, .int .u64 sl, .int .i64 0, .int .i64 0] from by rw [hw4]; exact Blk.new w3 _ _)
  have L4 := Lib.hid (L3.out.below B34.out L3.out.lt)
  have B4 := Lib.hid (B3.out.trans (B34.out.mono B3.out.size))
  clear hw4 f0 f1 f2 q0 q2 q3 q4 q12
  rw [← E4.out]
  go_upto_region 8 with fail
  have hkk : (if (n : Int) < (if most < 0 then 0 else most) then (n : Int) else (if most < 0 then 0 else most)) = (k : Int) := by
    have hk := HK.out
    split <;> split at * <;> omega
  simp only [hkk, Int.toNat_natCast]
  obtain ⟨w5, hw5⟩ : ∃ w5, w5 = w4.alloc (.cells #[.int .i64 3, .int .i64 0, .int .u32 0, .slice (some ⟨b, off, none⟩) k c] 46) := ⟨_, rfl⟩
  have E5 := Lib.hid hw5
  have B45 := Lib.hid (show Below w4.heap.size w4 w5 from by rw [hw5]; exact (Below.refl _ _).alloc (Nat.le_refl _) _)
  have M5 := Lib.hid (show Blk w5 w4.heap.size 46 #[.int .i64 3, .int .i64 0, .int .u32 0, .slice (some ⟨b, off, none⟩) k c] from by rw [hw5]; exact Blk.new w4 _ _)
  have T5 := Lib.hid (T4.out.below B45.out T4.out.lt)
  have L5 := Lib.hid (L4.out.below B45.out L4.out.lt)
  have B5 := Lib.hid (B4.out.trans (B45.out.mono B4.out.size))
  clear hw5 hkk
  rw [← E5.out]
  have q0 := L5.out.cell 0
  have t0 := T5.out.cell 0
  have t1 := T5.out.cell 1
  have t2 := T5.out.cell 2
  have t3 := T5.out.cell 3
  have t4 := T5.out.cell 4
  have t5 := T5.out.cell 5
  have t6 := T5.out.cell 6
  have t7 := T5.out.cell 7
  have t8 := T5.out.cell 8
  have m3 := M5.out.cell 3
  have HW5 := Lib.hid (HW.out w5 w4.heap.size B5.out M5.out)
  have w8 : IntKind.i64.wrap (8 + (k : Int)) = 8 + (k : Int) := IntWalk.i64_in _ (by omega)
  go_wp2_with fail
  all_goals
    refine HW5.out.mono ?_
    rintro o w6 ⟨hb6, A6, n6, c6, rfl, hs6⟩
    have B6 := Lib.hid (B5.out.trans (hb6.mono B5.out.size))
    clear hb6
    go_wp2_with fail
    go_ret2
    exact ⟨B6.out, A6, n6, c6, rfl, hs6⟩
set_option maxHeartbeats 8000000 in
set_option maxRecDepth 100000 in
theorem unr_six (fh fl ttl most : Int) (pr : Int) (s6 : Bool) (sh sl : Int) (d6 : Bool) (dh dl sp dp ptl pfl : Int) (apr : Int) (as6 : Bool) (ash asl : Int) (ad6 : Bool) (adh adl asp adp sz : Int) (b off n c k : Nat) (e : Int) (out : List Int) (w : World) (hn : 0 < n) (hn2 : n ≤ 1000) (hnc : n ≤ c) (hk : (k : Int) = min (max most 0) (n : Int))
    (HP : Hid (∀ V, Below w.heap.size w V → Calls Try.prog 28 #[.slice (some ⟨b, off, none⟩) n c] V fun o w' => o = .returned (.tuple #[.agg #[.bool true, .int .i64 pr, .bool s6, .int .u64 sh, .int .u64 sl, .bool d6, .int .u64 dh, .int .u64 dl, .int .i64 sp, .int .i64 dp, .int .i64 ptl, .int .i64 pfl, .bool false, .int .i64 apr, .bool as6, .int .u64 ash, .int .u64 asl, .bool ad6, .int .u64 adh, .int .u64 adl, .int .i64 asp, .int .i64 adp, .int .i64 sz], .int .i64 0]) ∧ Below V.heap.size V w'))
    (HW : Hid (∀ V c1, Below w.heap.size w V → Blk V c1 46 #[.int .i64 1, .int .i64 0, .int .u32 0, .slice (some ⟨b, off, none⟩) k c] → Calls Try.prog 63 #[.agg #[.int .i64 58, .bool true, .int .u64 fh, .int .u64 fl, .bool s6, .int .u64 sh, .int .u64 sl, .int .i64 0, .int .i64 0], .int .i64 ttl, .int .i64 (8 + (k : Int)), .func (.func 68) #[] #[.pointer (some ⟨c1, 0, none⟩)]] V (MkP e out V))) :
    Calls Try.prog 36 #[.agg #[.bool true, .int .u64 fh, .int .u64 fl], .int .i64 ttl, .slice (some ⟨b, off, none⟩) n c, .int .i64 most] w (MkP e out w) := by
  have hmf : ∀ (fn : Fn) (first cap : Array Value) (w : World), (Instr.makeFunc fn first cap).run Try.prog w = .ok (.func fn first cap) w := fun _ _ _ _ => rfl
  have hkn : k ≤ n := by omega
  obtain ⟨s1, s2⟩ := sixF.slice_to b off n c k (by omega) (by omega)
  have HK := Lib.hid hk
  clear hk
  obtain ⟨w1, hw1⟩ : ∃ w1, w1 = w.alloc (.cells #[.bool true, .int .u64 fh, .int .u64 fl] 26) := ⟨_, rfl⟩
  have E1 := Lib.hid hw1
  have B1 := Lib.hid (show Below w.heap.size w w1 from by rw [hw1]; exact (Below.refl _ _).alloc (Nat.le_refl _) _)
  obtain ⟨g, hg⟩ : ∃ g, g = w.heap.size := ⟨_, rfl⟩
  have EG := Lib.hid hg
  have K1 := Lib.hid (show Blk w1 g 26 #[.bool true, .int .u64 fh, .int .u64 fl] from by rw [hw1, hg]; exact Blk.new w _ _)
  have HI := Lib.hid pk_size
  have ONE := Lib.hid (show (#[.bool true, .int .i64 pr, .bool s6, .int .u64 sh, .int .u64 sl, .bool d6, .int .u64 dh, .int .u64 dl, .int .i64 sp, .int .i64 dp, .int .i64 ptl, .int .i64 pfl, .bool false, .int .i64 apr, .bool as6, .int .u64 ash, .int .u64 asl, .bool ad6, .int .u64 adh, .int .u64 adl, .int .i64 asp, .int .i64 adp, .int .i64 sz] : Array Value).all (·.oneCell') = true from by simp [Value.oneCell'])
  clear hw1 hg
  go_enter Try.func36, Try.ntmps36
  go_upto_region 1 with fail
  rw [← E1.out, ← EG.out]
  go_wp2_with fail
  refine (HP.out _ B1.out).mono ?_
  rintro o w2 ⟨rfl, hb2⟩
  obtain ⟨w3, hw3⟩ : ∃ w3, w3 = (w2.alloc (.cells #[.bool false, .int .i64 0, .bool false, .int .u64 0, .int .u64 0, .bool false, .int .u64 0, .int .u64 0, .int .i64 0, .int .i64 0, .int .i64 0, .int .i64 0, .bool false, .int .i64 0, .bool false, .int .u64 0, .int .u64 0, .bool false, .int .u64 0, .int .u64 0, .int .i64 0, .int .i64 0, .int .i64 0] 58)).setRow w2.heap.size #[.bool true, .int .i64 pr, .bool s6, .int .u64 sh, .int .u64 sl, .bool d6, .int .u64 dh, .int .u64 dl, .int .i64 sp, .int .i64 dp, .int .i64 ptl, .int .i64 pfl, .bool false, .int .i64 apr, .bool as6, .int .u64 ash, .int .u64 asl, .bool ad6, .int .u64 adh, .int .u64 adl, .int .i64 asp, .int .i64 adp, .int .i64 sz] := ⟨_, rfl⟩
  have E3 := Lib.hid hw3
  have B23 := Lib.hid (show Below w2.heap.size w2 w3 from by rw [hw3]; exact (onlyRow _).from ((Below.refl _ _).alloc (Nat.le_refl _) _) (Nat.le_refl _))
  have B13 := Lib.hid (hb2.trans (B23.out.mono hb2.size))
  have K3 := Lib.hid (K1.out.below B13.out K1.out.lt)
  have L3 := Lib.hid (show Blk w3 w2.heap.size 58 #[.bool true, .int .i64 pr, .bool s6, .int .u64 sh, .int .u64 sl, .bool d6, .int .u64 dh, .int .u64 dl, .int .i64 sp, .int .i64 dp, .int .i64 ptl, .int .i64 pfl, .bool false, .int .i64 apr, .bool as6, .int .u64 ash, .int .u64 asl, .bool ad6, .int .u64 adh, .int .u64 adl, .int .i64 asp, .int .i64 adp, .int .i64 sz] from by rw [hw3]; exact blkRow (Blk.new w2 _ _) _)
  have B3 := Lib.hid (B1.out.trans (B13.out.mono B1.out.size))
  clear hw3 hb2
  go_upto_region 2 with (refine wpList_store_row rfl 58 _ _ rfl w2.heap.size #[.bool true, .int .i64 pr, .bool s6, .int .u64 sh, .int .u64 sl, .bool d6, .int .u64 dh, .int .u64 dl, .int .i64 sp, .int .i64 dp, .int .i64 ptl, .int .i64 pfl, .bool false, .int .i64 apr, .bool as6, .int .u64 ash, .int .u64 asl, .bool ad6, .int .u64 adh, .int .u64 adl, .int .i64 asp, .int .i64 adp, .int .i64 sz] rfl rfl 58 #[.bool false, .int .i64 0, .bool false, .int .u64 0, .int .u64 0, .bool false, .int .u64 0, .int .u64 0, .int .i64 0, .int .i64 0, .int .i64 0, .int .i64 0, .bool false, .int .i64 0, .bool false, .int .u64 0, .int .u64 0, .bool false, .int .u64 0, .int .u64 0, .int .i64 0, .int .i64 0, .int .i64 0] (Blk.new w2 _ _) HI.out rfl ONE.out ?_)
  rw [← E3.out]
  have f0 := K3.out.cell 0
  have q0 := L3.out.cell 0
  have q12 := L3.out.cell 12
  have f1 := K3.out.cell 1
  have f2 := K3.out.cell 2
  have q2 := L3.out.cell 2
  have q3 := L3.out.cell 3
  have q4 := L3.out.cell 4
  go_upto_region 7 with fail
  obtain ⟨w4, hw4⟩ : ∃ w4, w4 = w3.alloc (.cells #[.int .i64 1, .bool true, .int .u64 fh, .int .u64 fl, .bool s6, .int .u64 sh, .int .u64 sl, .int .i64 0, .int .i64 0] 48) := ⟨_, rfl⟩
  have E4 := Lib.hid hw4
  have B34 := Lib.hid (show Below w3.heap.size w3 w4 from by rw [hw4]; exact (Below.refl _ _).alloc (Nat.le_refl _) _)
  have T4 := Lib.hid (show Blk w4 w3.heap.size 48 #[.int .i64 1, .bool true, .int .u64 fh, .int .u64 fl, .bool s6, .int .u64 sh, .int .u64 sl, .int .i64 0, .int .i64 0] from by rw [hw4]; exact Blk.new w3 _ _)
  have L4 := Lib.hid (L3.out.below B34.out L3.out.lt)
  have B4 := Lib.hid (B3.out.trans (B34.out.mono B3.out.size))
  clear hw4 f0 f1 f2 q0 q2 q3 q4 q12
  rw [← E4.out]
  go_upto_region 8 with fail
  have hkk : (if (n : Int) < (if most < 0 then 0 else most) then (n : Int) else (if most < 0 then 0 else most)) = (k : Int) := by
    have hk := HK.out
    split <;> split at * <;> omega
  simp only [hkk, Int.toNat_natCast]
  obtain ⟨w5, hw5⟩ : ∃ w5, w5 = w4.alloc (.cells #[.int .i64 3, .int .i64 0, .int .u32 0, .slice (some ⟨b, off, none⟩) k c] 46) := ⟨_, rfl⟩
  have E5 := Lib.hid hw5
  have B45 := Lib.hid (show Below w4.heap.size w4 w5 from by rw [hw5]; exact (Below.refl _ _).alloc (Nat.le_refl _) _)
  have M5 := Lib.hid (show Blk w5 w4.heap.size 46 #[.int .i64 3, .int .i64 0, .int .u32 0, .slice (some ⟨b, off, none⟩) k c] from by rw [hw5]; exact Blk.new w4 _ _)
  have T5 := Lib.hid (T4.out.below B45.out T4.out.lt)
  have L5 := Lib.hid (L4.out.below B45.out L4.out.lt)
  have B5 := Lib.hid (B4.out.trans (B45.out.mono B4.out.size))
  clear hw5 hkk
  rw [← E5.out]
  have q0 := L5.out.cell 0
  have z0 := T5.out.cell 0
  have z1 := T5.out.frozen 0
  have y0 := M5.out.cell 0
  have y1 := M5.out.frozen 0
  have NE := (show w4.heap.size ≠ w3.heap.size from by have := T4.out.lt; omega)
  go_upto_region 10 with fail
  obtain ⟨w6, hw6⟩ : ∃ w6, w6 = (w5.setCell ⟨w3.heap.size, 0, none⟩ (.int .i64 58)).setCell ⟨w4.heap.size, 0, none⟩ (.int .i64 1) := ⟨_, rfl⟩
  have E6 := Lib.hid hw6
  have T6 := Lib.hid (show Blk w6 w3.heap.size 48 #[.int .i64 58, .bool true, .int .u64 fh, .int .u64 fl, .bool s6, .int .u64 sh, .int .u64 sl, .int .i64 0, .int .i64 0] from by rw [hw6]; exact (T5.out.set_ 0 _).far (p := ⟨w4.heap.size, 0, none⟩) (Ne.symm NE) _)
  have M6 := Lib.hid (show Blk w6 w4.heap.size 46 #[.int .i64 1, .int .i64 0, .int .u32 0, .slice (some ⟨b, off, none⟩) k c] from by rw [hw6]; exact (M5.out.far (p := ⟨w3.heap.size, 0, none⟩) NE _).set_ 0 _)
  have B6 := Lib.hid (show Below w.heap.size w w6 from by rw [hw6]; exact (B5.out.setCell (p := ⟨w3.heap.size, 0, none⟩) B3.out.size _).setCell (p := ⟨w4.heap.size, 0, none⟩) B4.out.size _)
  clear hw6 z0 z1 y0 y1 NE q0
  have HW6 := Lib.hid (HW.out w6 w4.heap.size B6.out M6.out)
  have w8 : IntKind.i64.wrap (8 + (k : Int)) = 8 + (k : Int) := IntWalk.i64_in _ (by omega)
  have t0 := T6.out.cell 0
  have t1 := T6.out.cell 1
  have t2 := T6.out.cell 2
  have t3 := T6.out.cell 3
  have t4 := T6.out.cell 4
  have t5 := T6.out.cell 5
  have t6 := T6.out.cell 6
  have t7 := T6.out.cell 7
  have t8 := T6.out.cell 8
  have m3 := M6.out.cell 3
  all_goals (try rw [← E6.out])
  go_wp2_with fail
  all_goals
    refine HW6.out.mono ?_
    rintro o w7 ⟨hb7, A7, n7, c7, rfl, hs7⟩
    have B7 := Lib.hid (B6.out.trans (hb7.mono B6.out.size))
    clear hb7
    go_wp2_with fail
    go_ret2
    exact ⟨B7.out, A7, n7, c7, rfl, hs7⟩
end Go.Proofs.Ytndekicblbpkjaa.pktX
/- Layer 13: Unreach about a datagram that is made. -/
namespace Go.Proofs.Ytndekicblbpkjaa.pktY
open Go.ChangeShapes Go.WideShapes Go.ChangeAt Go.RowKit
open Go.Proofs.Ytndekicblbpkjaa.base Go.Proofs.Ytndekicblbpkjaa.octA Go.Proofs.Ytndekicblbpkjaa.rdrA Go.Proofs.Ytndekicblbpkjaa.rdrG Go.Proofs.Ytndekicblbpkjaa.sumA Go.Proofs.Ytndekicblbpkjaa.sumB Go.Proofs.Ytndekicblbpkjaa.sixW Go.Proofs.Ytndekicblbpkjaa.sixM Go.Proofs.Ytndekicblbpkjaa.pktA Go.Proofs.Ytndekicblbpkjaa.pktB Go.Proofs.Ytndekicblbpkjaa.pktC Go.Proofs.Ytndekicblbpkjaa.sixE Go.Proofs.Ytndekicblbpkjaa.pktG Go.Proofs.Ytndekicblbpkjaa.pktL Go.Proofs.Ytndekicblbpkjaa.pktL3 Go.Proofs.Ytndekicblbpkjaa.pktM Go.Proofs.Ytndekicblbpkjaa.pktR Go.Proofs.Ytndekicblbpkjaa.pktS Go.Proofs.Ytndekicblbpkjaa.pktW Go.Proofs.Ytndekicblbpkjaa.pktX
set_option linter.unusedVariables false

def mkD (s6 : Bool) (sh sl dh dl : Int) (bs : List Int) : List Int := if s6 = true then mkB6 64 17 sh sl dh dl bs else mkB4 64 17 sl dl bs
theorem dgram_told (s6 : Bool) (sh sl dh dl sp dp : Int) (pl : List Int) (hn : pl.length ≤ 500) (hu : U8 pl) (b1 : 0 ≤ sh ∧ sh < 18446744073709551616) (b2 : 0 ≤ sl ∧ sl < 18446744073709551616) (b3 : 0 ≤ dh ∧ dh < 18446744073709551616) (b4 : 0 ≤ dl ∧ dl < 18446744073709551616) (hm : Made 17 s6 sh sl s6 dh dl sp dp 64 0 17) :
    ∃ bs : List Int, U8 bs ∧ bs.length = 8 + pl.length ∧ udpA.w16 bs 0 = sp ∧ udpA.w16 bs 2 = dp ∧ (mkD s6 sh sl dh dl bs).length = (if s6 = true then 40 else 20) + bs.length ∧ pkP (mkD s6 sh sl dh dl bs) = (⟨s6, ⟨17, s6, sh, sl, s6, dh, dl, sp, dp⟩, 64, 0, false, zeroT, ((mkD s6 sh sl dh dl bs).length : Int)⟩, 0) ∧ ∀ (A : Option Addr) (n c : Nat) (w : World), Sl w A n c pl →
      Calls Try.prog 33 #[.agg #[.int .i64 17, .bool s6, .int .u64 sh, .int .u64 sl, .bool s6, .int .u64 dh, .int .u64 dl, .int .i64 sp, .int .i64 dp], .int .i64 64, .slice A n c] w (MkP 0 (mkD s6 sh sl dh dl bs) w) := by
  obtain ⟨_, _, ht, hp, hf, ha⟩ := hm
  obtain ⟨ps, hps⟩ : ∃ ps, ps = psd s6 sh sl dh dl 17 (8 + (pl.length : Int)) := ⟨_, rfl⟩
  obtain ⟨bs, hbs⟩ : ∃ bs, bs = udpB.ub sp dp pl (udpB.chkZ (ps ++ udpB.ub sp dp pl 0)) := ⟨_, rfl⟩
  have hM : udpM sp dp pl ps = (0, bs) := by unfold udpM; rw [if_pos hp, hbs]
  have hPA := fun v6 d6 sz => udp_parse v6 s6 sh sl d6 dh dl sp dp 64 sz pl hp (by omega) hu bs (by rw [hbs, hps])
  have hlb : bs.length = 8 + pl.length := by
    rw [hbs]
    exact udpB.ub_len _ _ _ _
  have hps8 : U8 ps := by
    rw [hps]
    unfold psd
    rw [if_neg (show ¬ (17 : Int) = 1 by decide)]
    split
    · exact psd6_u8 _ _ _ _ _ _
    · exact psd4_u8 _ _ _ _
  have hin : ∀ x ∈ ps ++ udpB.ub sp dp pl 0, 0 ≤ x ∧ x ≤ 255 := fun x hx => (List.mem_append.1 hx).elim (hps8 x) (udpB.ub_in sp dp pl 0 hu x)
  have cz := udpB.chkZ_in _ hin
  obtain ⟨u1, u2, _, _, _⟩ := udpJn.ub_says sp dp pl (udpB.chkZ (ps ++ udpB.ub sp dp pl 0)) hp (by omega) cz.1 cz.2
  rw [← hbs] at u1 u2
  refine ⟨bs, by rw [hbs]; exact udpB.ub_in sp dp pl _ hu, hlb, u1, u2, ?_⟩
  cases s6 with
  | false =>
    obtain ⟨rfl, rfl, hs, hd⟩ : sh = 0 ∧ dh = 0 ∧ sl < 4294967296 ∧ dl < 4294967296 := by
      rcases ha with ha | ha
      · cases ha
      · exact ha
    have e : mkD false 0 sl 0 dl bs = mkB4 64 17 sl dl bs := rfl
    rw [e]
    refine ⟨by rw [mk4_len, if_neg (by decide)], ?_, fun A n c w h => ?_⟩
    · rw [mk4_parse 64 17 sl dl bs ht (by omega) ⟨b2.1, by omega⟩ ⟨b4.1, by omega⟩ (by omega), hPA false false, mk4_len]
      rfl
    · refine dgram_with false 0 sl 0 dl sp dp 64 0 A n c pl w h (by have := h.len; omega) b1 b2 b3 b4 ps hps 0 0 bs _ hM (.inr (.inl ⟨rfl, rfl, fun V A2 n2 k2 hV hs2 => ?_⟩))
      have h9 := four_bytes 64 17 0 sl false 0 dl A2 n2 k2 bs V hs2 (by have := hs2.len; omega) b2.1 b4.1
      unfold fourM at h9
      rw [if_pos ⟨ht, by omega, ⟨rfl, by omega⟩, rfl, rfl, by omega⟩] at h9
      exact h9
  | true =>
    obtain ⟨m1, m2⟩ := mk6_parse 64 17 sh sl dh dl bs ht (by omega) (by decide) b1 b2 b3 b4 (by omega)
    have e : mkD true sh sl dh dl bs = mkB6 64 17 sh sl dh dl bs := rfl
    rw [e]
    refine ⟨by rw [m2, if_pos rfl], ?_, fun A n c w h => ?_⟩
    · rw [m1, hPA true true, m2]
      rfl
    · refine dgram_with true sh sl dh dl sp dp 64 0 A n c pl w h (by have := h.len; omega) b1 b2 b3 b4 ps hps 0 0 bs _ hM (.inr (.inr ⟨rfl, rfl, fun V A2 n2 k2 hV hs2 => ?_⟩))
      exact six_bytes 64 17 sh sl dh dl A2 n2 k2 bs V hs2 (by have := hs2.len; omega) ht (by omega) (by decide) b1 b2 b3 b4
theorem mkD_u8 (s6 : Bool) (sh sl dh dl : Int) (bs : List Int) (hu : U8 bs) (hb : bs.length ≤ 900) (h4 : s6 = false → (0 ≤ sl ∧ sl ≤ 4294967295) ∧ (0 ≤ dl ∧ dl ≤ 4294967295)) : U8 (mkD s6 sh sl dh dl bs) := by
  cases s6 with
  | false =>
    obtain ⟨a, b⟩ := h4 rfl
    have hin := fourD.hk_in 0 0 0 64 17 sl dl 0 (20 + ((0 : Nat) : Int) + (bs.length : Int)) [] (by omega) (by omega) (by omega) (by omega) (by omega) a b (by omega) (by omega) (by simp) (fun x hx => by cases hx)
    have hck := fo_bd _ (wsum_bd _ hin).1
    exact U8.join (fourD.hk_in 0 0 0 64 17 sl dl _ (20 + ((0 : Nat) : Int) + (bs.length : Int)) [] (by omega) (by omega) (by omega) (by omega) (by omega) a b (by omega) (by omega) (by simp) (fun x hx => by cases hx)) hu
  | true =>
    have u8 : ∀ n : Int, U8 (pb n 8 8) := fun n => pb_u8 n 8 8
    intro x hx
    have hx2 : x ∈ sixK.hdB ⟨0, 0, 64, true, sh, sl, true, dh, dl, 17⟩ 17 (extL [] + bs.length) ++ ([] ++ bs) := hx
    unfold sixK.hdB sixK.hd8 at hx2
    rw [List.nil_append] at hx2
    rcases List.mem_append.1 hx2 with hx2 | hx2
    · rcases List.mem_append.1 hx2 with hx2 | hx2
      · rcases List.mem_append.1 hx2 with hx2 | hx2
        · simp only [List.mem_cons, List.not_mem_nil, or_false] at hx2
          rcases hx2 with rfl | rfl | rfl | rfl | rfl | rfl | rfl | rfl <;> omega
        · exact (List.mem_append.1 hx2).elim (u8 _ x) (u8 _ x)
      · exact (List.mem_append.1 hx2).elim (u8 _ x) (u8 _ x)
    · exact hu x hx2
def mkE (s6 : Bool) (fh fl sh sl ttl : Int) (d : List Int) : List Int := if s6 = true then mkB6 ttl 58 fh fl sh sl (msg 1 (psd6 fh fl sh sl 58 (8 + (d.length : Int))) d) else mkB4 ttl 1 fl sl (msg 3 [] d)
def okE (s6 : Bool) (fh fl ttl : Int) : Prop := (0 ≤ ttl ∧ ttl ≤ 255) ∧ (s6 = true ∨ (fh = 0 ∧ fl < 4294967296))
theorem unr_any (s6 : Bool) (fh fl ttl most : Int) (sh sl dh dl sp dp sz : Int) (A : Option Addr) (n c : Nat) (B : List Int) (w : World) (h : Sl w A n c B) (h0 : 0 < n) (hn : n ≤ 700) (b1 : 0 ≤ sh ∧ sh < 18446744073709551616) (b2 : 0 ≤ sl ∧ sl < 18446744073709551616) (b3 : 0 ≤ dh ∧ dh < 18446744073709551616) (b4 : 0 ≤ dl ∧ dl < 18446744073709551616) (c1' : 0 ≤ fh ∧ fh < 18446744073709551616) (c2 : 0 ≤ fl ∧ fl < 18446744073709551616) (hz : s6 = false → sh = 0 ∧ sl < 4294967296)
    (hP : pkP B = (⟨s6, ⟨17, s6, sh, sl, s6, dh, dl, sp, dp⟩, 64, 0, false, zeroT, sz⟩, 0)) (k : Nat) (hk : (k : Int) = min (max most 0) (n : Int)) :
    (okE s6 fh fl ttl → Calls Try.prog 36 #[.agg #[.bool s6, .int .u64 fh, .int .u64 fl], .int .i64 ttl, .slice A n c, .int .i64 most] w (MkP 0 (mkE s6 fh fl sh sl ttl (B.take k)) w)) ∧
    (¬ okE s6 fh fl ttl → Calls Try.prog 36 #[.agg #[.bool s6, .int .u64 fh, .int .u64 fl], .int .i64 ttl, .slice A n c, .int .i64 most] w (MkP 1 [] w)) := by
  have hl := h.len
  obtain ⟨b, off, rfl, hb, hs⟩ := lies_of h.row (by omega)
  have hkn : k ≤ n := by omega
  have HP := fun V (hV : Below w.heap.size w V) => by
    have h9 := parse_any (some ⟨b, off, none⟩) n c B V (h.below hV) (by omega)
    rw [hP] at h9
    exact h9
  have hd8 : U8 (B.take k) := h.u8.take k
  have ld : (B.take k).length = k := by rw [List.length_take]; omega
  have SD : ∀ V, Below w.heap.size w V → Sl V (some ⟨b, off, none⟩) k c (B.take k) := fun V hV => by
    have h9 := h.below hV
    refine ⟨ld, ?_, by have := h9.nc; omega, h9.mx, h9.nil, hd8⟩
    have := h9.row.take k
    rw [← List.map_take] at this
    exact this
  cases s6 with
  | false =>
    obtain ⟨rfl, hsl⟩ := hz rfl
    have HC : ∀ V c1, Below w.heap.size w V → Blk V c1 46 #[.int .i64 3, .int .i64 0, .int .u32 0, .slice (some ⟨b, off, none⟩) k c] → ∀ W A2 n2 k2, Below V.heap.size V W → Sl W A2 n2 k2 [] → Calls Try.prog 68 #[.slice A2 n2 k2, .pointer (some ⟨c1, 0, none⟩)] W (MkP 0 (msg 3 [] (B.take k)) W) := fun V c1 hV kb W A2 n2 k2 hW hs2 =>
      ur_closure 3 c1 _ A2 k c n2 k2 0 _ W (kb.below hW kb.lt) (Lib.hid (icmp_bytes 3 _ A2 k c n2 k2 (B.take k) [] W (SD W (hV.trans (hW.mono hV.size))) hs2 (by omega) (by have := hs2.len; simp at this; omega) (by omega)))
    have key : ∀ (e : Int) (out : List Int), (∀ V A2 n2 k2, Below w.heap.size w V → Sl V A2 n2 k2 (msg 3 [] (B.take k)) → Calls Try.prog 89 #[.agg #[.int .i64 0, .int .i64 0, .bool false, .bool false, .int .i64 0, .int .i64 ttl, .int .i64 1, .bool false, .int .u64 fh, .int .u64 fl, .bool false, .int .u64 0, .int .u64 sl, .slice none 0 0], .slice A2 n2 k2] V (MkP e out V)) →
        Calls Try.prog 36 #[.agg #[.bool false, .int .u64 fh, .int .u64 fl], .int .i64 ttl, .slice (some ⟨b, off, none⟩) n c, .int .i64 most] w (MkP e out w) := fun e out HB =>
      unr_four fh fl ttl most 17 false 0 sl false dh dl sp dp 64 0 0 false 0 0 false 0 0 0 0 sz b off n c k e out w h0 (by omega) h.nc hk (Lib.hid HP) (Lib.hid fun V c1 hV kb =>
        whole_ur_four 1 fh fl false 0 sl 0 0 ttl _ c1 [] (msg 3 [] (B.take k)) e out V (Lib.hid fun W hW => psd_any false fh fl false 0 sl 1 (8 + (k : Int)) W c1' c2 b1 b2 (by omega) (by omega)) (Lib.hid (HC V c1 hV kb)) (Lib.hid fun W A2 n2 k2 hW hs2 => HB W A2 n2 k2 (hV.trans (hW.mono hV.size)) hs2))
    have HM := fun V A2 n2 k2 (hs2 : Sl V A2 n2 k2 (msg 3 [] (B.take k))) => four_bytes ttl 1 fh fl false 0 sl A2 n2 k2 (msg 3 [] (B.take k)) V hs2 (by have := hs2.len; rw [msg_len, ld] at this; omega) c2.1 b2.1
    refine ⟨fun hok => key 0 _ fun V A2 n2 k2 hV hs2 => ?_, fun hno => key 1 _ fun V A2 n2 k2 hV hs2 => ?_⟩
    · have h9 := HM V A2 n2 k2 hs2
      obtain ⟨ht, hf⟩ := hok
      have hf' : fh = 0 ∧ fl < 4294967296 := by rcases hf with hf | hf; cases hf; exact hf
      obtain ⟨rfl, hf2⟩ := hf'
      unfold fourM at h9
      rw [if_pos ⟨ht, by omega, ⟨rfl, by omega⟩, rfl, rfl, by omega⟩] at h9
      exact h9
    · have h9 := HM V A2 n2 k2 hs2
      unfold fourM at h9
      rw [if_neg (fun ⟨a1, _, ⟨a2, a3⟩, _⟩ => hno ⟨a1, .inr ⟨a2, by omega⟩⟩)] at h9
      exact h9
  | true =>
    obtain ⟨ps, hps⟩ : ∃ ps, ps = psd6 fh fl sh sl 58 (8 + (k : Int)) := ⟨_, rfl⟩
    have HC : ∀ V c1, Below w.heap.size w V → Blk V c1 46 #[.int .i64 1, .int .i64 0, .int .u32 0, .slice (some ⟨b, off, none⟩) k c] → ∀ W A2 n2 k2, Below V.heap.size V W → Sl W A2 n2 k2 ps → Calls Try.prog 68 #[.slice A2 n2 k2, .pointer (some ⟨c1, 0, none⟩)] W (MkP 0 (msg 1 ps (B.take k)) W) := fun V c1 hV kb W A2 n2 k2 hW hs2 =>
      ur_closure 1 c1 _ A2 k c n2 k2 0 _ W (kb.below hW kb.lt) (Lib.hid (icmp_bytes 1 _ A2 k c n2 k2 (B.take k) ps W (SD W (hV.trans (hW.mono hV.size))) hs2 (by omega) (by have := hs2.len; rw [hps, psd6_len] at this; omega) (by omega)))
    have key : ∀ (e : Int) (out : List Int), (∀ V A2 n2 k2, Below w.heap.size w V → Sl V A2 n2 k2 (msg 1 ps (B.take k)) → Calls Try.prog 18 #[.agg #[.int .i64 0, .int .i64 0, .int .i64 ttl, .bool true, .int .u64 fh, .int .u64 fl, .bool true, .int .u64 sh, .int .u64 sl, .slice none 0 0, .int .i64 58], .slice A2 n2 k2] V (MkP e out V)) →
        Calls Try.prog 36 #[.agg #[.bool true, .int .u64 fh, .int .u64 fl], .int .i64 ttl, .slice (some ⟨b, off, none⟩) n c, .int .i64 most] w (MkP e out w) := fun e out HB =>
      unr_six fh fl ttl most 17 true sh sl true dh dl sp dp 64 0 0 false 0 0 false 0 0 0 0 sz b off n c k e out w h0 (by omega) h.nc hk (Lib.hid HP) (Lib.hid fun V c1 hV kb =>
        whole_ur_six 58 fh fl true sh sl 0 0 ttl _ c1 ps (msg 1 ps (B.take k)) e out V (Lib.hid fun W hW => by
          have h9 := psd_any true fh fl true sh sl 58 (8 + (k : Int)) W c1' c2 b1 b2 (by omega) (by omega)
          rw [show psd true fh fl sh sl 58 (8 + (k : Int)) = ps from by unfold psd; rw [if_pos rfl, hps]] at h9
          exact h9) (Lib.hid (HC V c1 hV kb)) (Lib.hid fun W A2 n2 k2 hW hs2 => HB W A2 n2 k2 (hV.trans (hW.mono hV.size)) hs2))
    refine ⟨fun hok => key 0 _ fun V A2 n2 k2 hV hs2 => ?_, fun hno => key 1 _ fun V A2 n2 k2 hV hs2 => six_bad ttl 58 fh fl sh sl _ V (fun a => hno ⟨a, .inl rfl⟩)⟩
    have h9 := six_bytes ttl 58 fh fl sh sl A2 n2 k2 (msg 1 ps (B.take k)) V hs2 (by have := hs2.len; rw [msg_len, ld] at this; omega) hok.1 (by omega) (by decide) c1' c2 b1 b2
    have e : mkE true fh fl sh sl ttl (B.take k) = mkB6 ttl 58 fh fl sh sl (msg 1 ps (B.take k)) := by
      unfold mkE
      rw [if_pos rfl, ld, hps]
    rw [e]
    exact h9
end Go.Proofs.Ytndekicblbpkjaa.pktY
