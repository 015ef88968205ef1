/- 1 texts in one. -/
import Derived.Deep.RegionHeld3
import Derived.Deep.DeepCutAuto
import Derived.Test.YtndekicblbpkjaaPm14
import Derived.Test.YtndekicblbpkjaaPm15
import Derived.Test.YtndekicblbpkjaaPm26
import Derived.Test.YtndekicblbpkjaaPm30
/- Layer 13: the law on flows' packets that are made. -/
namespace Go.Proofs.Ytndekicblbpkjaa.pktU
open Go.ChangeShapes Go.WideShapes Go.ChangeAt Go.RowKit
open Go.Proofs.Ytndekicblbpkjaa.base Go.Proofs.Ytndekicblbpkjaa.rdrA Go.Proofs.Ytndekicblbpkjaa.rdrG Go.Proofs.Ytndekicblbpkjaa.sumB Go.Proofs.Ytndekicblbpkjaa.sixW Go.Proofs.Ytndekicblbpkjaa.sixM Go.Proofs.Ytndekicblbpkjaa.pktA Go.Proofs.Ytndekicblbpkjaa.pktB Go.Proofs.Ytndekicblbpkjaa.pktC Go.Proofs.Ytndekicblbpkjaa.pktD Go.Proofs.Ytndekicblbpkjaa.pktE Go.Proofs.Ytndekicblbpkjaa.pktG Go.Proofs.Ytndekicblbpkjaa.pktK Go.Proofs.Ytndekicblbpkjaa.pktL Go.Proofs.Ytndekicblbpkjaa.pktN Go.Proofs.Ytndekicblbpkjaa.pktO Go.Proofs.Ytndekicblbpkjaa.sixL
set_option linter.unusedVariables false

set_option maxHeartbeats 8000000 in
set_option maxRecDepth 100000 in
theorem makes_N (pr : Int) (s6 : Bool) (sh sl : Int) (d6 : Bool) (dh dl sp dp ttl fl : Int) (A : Option Addr) (n0 n c : Nat) (w : World)
    (HC : Hid (∀ W, Calls Try.prog 27 #[.slice A n0 c] W fun o w' => o = .returned (.slice A n c) ∧ W = w'))
    (HD : Hid (∀ V, Below w.heap.size w V → Calls Try.prog 33 #[.agg #[.int .i64 pr, .bool s6, .int .u64 sh, .int .u64 sl, .bool d6, .int .u64 dh, .int .u64 dl, .int .i64 sp, .int .i64 dp], .int .i64 ttl, .slice A n c] V (MkP 1 [] V)))
    (HS : Hid (∀ V, Below w.heap.size w V → Calls Try.prog 34 #[.agg #[.int .i64 pr, .bool s6, .int .u64 sh, .int .u64 sl, .bool d6, .int .u64 dh, .int .u64 dl, .int .i64 sp, .int .i64 dp], .int .i64 ttl, .int .i64 fl, .slice A n c] V (MkP 1 [] V)))
    (HM1 : Hid (∀ V, Calls Try.prog 35 #[.agg #[.int .i64 pr, .bool s6, .int .u64 sh, .int .u64 sl, .bool d6, .int .u64 dh, .int .u64 dl, .int .i64 sp, .int .i64 dp], .int .i64 ttl, .int .i64 0, .int .i64 17] V fun o w' => o = .returned (.bool false) ∧ Below V.heap.size V w'))
    (HM2 : Hid (∀ V, Calls Try.prog 35 #[.agg #[.int .i64 pr, .bool s6, .int .u64 sh, .int .u64 sl, .bool d6, .int .u64 dh, .int .u64 dl, .int .i64 sp, .int .i64 dp], .int .i64 ttl, .int .i64 fl, .int .i64 6] V fun o w' => o = .returned (.bool false) ∧ Below V.heap.size V w')) :
    Calls Try.prog 7 #[.agg #[.int .i64 pr, .bool s6, .int .u64 sh, .int .u64 sl, .bool d6, .int .u64 dh, .int .u64 dl, .int .i64 sp, .int .i64 dp], .int .i64 ttl, .int .i64 fl, .slice A n0 c] w fun o w' => o = .returned (.bool true) ∧ Below w.heap.size w w' := by
  have HAW := Lib.hid awake_any
  obtain ⟨w1, hw1⟩ : ∃ w1, w1 = w.alloc (.cells #[.int .i64 pr, .bool s6, .int .u64 sh, .int .u64 sl, .bool d6, .int .u64 dh, .int .u64 dl, .int .i64 sp, .int .i64 dp] 48) := ⟨_, rfl⟩
  have E1 := Lib.hid hw1
  have B1 := Lib.hid (show Below w.heap.size w w1 from by rw [hw1]; exact (Below.refl _ _).alloc (Nat.le_refl _) _)
  obtain ⟨g, hg⟩ : ∃ g, g = w.heap.size := ⟨_, rfl⟩
  have EG := Lib.hid hg
  have K1 := Lib.hid (show Blk w1 g 48 #[.int .i64 pr, .bool s6, .int .u64 sh, .int .u64 sl, .bool d6, .int .u64 dh, .int .u64 dl, .int .i64 sp, .int .i64 dp] from by rw [hw1, hg]; exact Blk.new w _ _)
  clear hw1 hg
  go_enter Try.func7, Try.ntmps7
  go_upto_region 1 with fail
  rw [← E1.out, ← EG.out]
  go_wp2_with fail
  refine (HC.out _).mono ?_
  rintro o w' ⟨rfl, rfl⟩
  have p0 := K1.out.cell 0
  have p1 := K1.out.cell 1
  have p2 := K1.out.cell 2
  have p3 := K1.out.cell 3
  have p4 := K1.out.cell 4
  have p5 := K1.out.cell 5
  have p6 := K1.out.cell 6
  have p7 := K1.out.cell 7
  have p8 := K1.out.cell 8
  go_wp2_with fail
  refine (HD.out _ B1.out).mono ?_
  rintro o w2 ⟨hb2, A2, n2, c2, rfl, hs2⟩
  have K2 := Lib.hid (K1.out.below hb2 K1.out.lt)
  have B2 := Lib.hid (B1.out.trans (hb2.mono B1.out.size))
  have S2 := Lib.hid hs2
  clear hb2 hs2
  clear p0 p1 p2 p3 p4 p5 p6 p7 p8
  have p0 := K2.out.cell 0
  have p1 := K2.out.cell 1
  have p2 := K2.out.cell 2
  have p3 := K2.out.cell 3
  have p4 := K2.out.cell 4
  have p5 := K2.out.cell 5
  have p6 := K2.out.cell 6
  have p7 := K2.out.cell 7
  have p8 := K2.out.cell 8
  go_wp2_with fail
  refine (HS.out _ B2.out).mono ?_
  rintro o w3 ⟨hb3, A3, n3, c3, rfl, hs3⟩
  have K3 := Lib.hid (K2.out.below hb3 K2.out.lt)
  have B3 := Lib.hid (B2.out.trans (hb3.mono B2.out.size))
  have S23 := Lib.hid (S2.out.below hb3)
  have S3 := Lib.hid hs3
  clear hb3 hs3
  clear p0 p1 p2 p3 p4 p5 p6 p7 p8
  have p0 := K3.out.cell 0
  have p1 := K3.out.cell 1
  have p2 := K3.out.cell 2
  have p3 := K3.out.cell 3
  have p4 := K3.out.cell 4
  have p5 := K3.out.cell 5
  have p6 := K3.out.cell 6
  have p7 := K3.out.cell 7
  have p8 := K3.out.cell 8
  go_wp2_with fail
  refine (HM1.out _).mono ?_
  rintro o w4 ⟨rfl, hb4⟩
  have K4 := Lib.hid (K3.out.below hb4 K3.out.lt)
  have B4 := Lib.hid (B3.out.trans (hb4.mono B3.out.size))
  have S24 := Lib.hid (S23.out.below hb4)
  have S34 := Lib.hid (S3.out.below hb4)
  clear hb4
  clear p0 p1 p2 p3 p4 p5 p6 p7 p8
  have p0 := K4.out.cell 0
  have p1 := K4.out.cell 1
  have p2 := K4.out.cell 2
  have p3 := K4.out.cell 3
  have p4 := K4.out.cell 4
  have p5 := K4.out.cell 5
  have p6 := K4.out.cell 6
  have p7 := K4.out.cell 7
  have p8 := K4.out.cell 8
  go_wp2_with fail
  refine (HM2.out _).mono ?_
  rintro o w5 ⟨rfl, hb5⟩
  have K5 := Lib.hid (K4.out.below hb5 K4.out.lt)
  have B5 := Lib.hid (B4.out.trans (hb5.mono B4.out.size))
  have S25 := Lib.hid (S24.out.below hb5)
  have S35 := Lib.hid (S34.out.below hb5)
  clear hb5
  clear p0 p1 p2 p3 p4 p5 p6 p7 p8
  have p1 := K5.out.cell 1
  cases s6 with
  | true =>
    go_wp2_with fail
    refine (HAW.out _).mono ?_
    rintro o w6 ⟨rfl, hb6⟩
    have B6 := B5.out.trans (hb6.mono B5.out.size)
    go_wp2_with fail
    go_ret
    exact ⟨rfl, B6⟩
  | false =>
    go_wp2_with fail
    refine (HAW.out _).mono ?_
    rintro o w6 ⟨rfl, hb6⟩
    have B6 := B5.out.trans (hb6.mono B5.out.size)
    go_wp2_with fail
    go_ret
    exact ⟨rfl, B6⟩
set_option maxHeartbeats 8000000 in
set_option maxRecDepth 100000 in
theorem makes_D (pr : Int) (s6 : Bool) (sh sl : Int) (d6 : Bool) (dh dl sp dp ttl fl : Int) (A : Option Addr) (n0 n c : Nat) (w : World) (B pl : List Int) (sz : Nat) (hsz : sz = if s6 = true then 40 else 20) (hB : B.length = sz + 8 + n) (hd : B.drop (sz + 8) = pl) (hn : n ≤ 500) (hsl : Sl w A n c pl)
    (HC : Hid (∀ W, Calls Try.prog 27 #[.slice A n0 c] W fun o w' => o = .returned (.slice A n c) ∧ W = w'))
    (HD : Hid (∀ V, Below w.heap.size w V → Calls Try.prog 33 #[.agg #[.int .i64 pr, .bool s6, .int .u64 sh, .int .u64 sl, .bool d6, .int .u64 dh, .int .u64 dl, .int .i64 sp, .int .i64 dp], .int .i64 ttl, .slice A n c] V (MkP 0 B V)))
    (HS : Hid (∀ V, Below w.heap.size w V → Calls Try.prog 34 #[.agg #[.int .i64 pr, .bool s6, .int .u64 sh, .int .u64 sl, .bool d6, .int .u64 dh, .int .u64 dl, .int .i64 sp, .int .i64 dp], .int .i64 ttl, .int .i64 fl, .slice A n c] V (MkP 1 [] V)))
    (HM1 : Hid (∀ V, Calls Try.prog 35 #[.agg #[.int .i64 pr, .bool s6, .int .u64 sh, .int .u64 sl, .bool d6, .int .u64 dh, .int .u64 dl, .int .i64 sp, .int .i64 dp], .int .i64 ttl, .int .i64 0, .int .i64 17] V fun o w' => o = .returned (.bool true) ∧ Below V.heap.size V w'))
    (HM2 : Hid (∀ V, Calls Try.prog 35 #[.agg #[.int .i64 pr, .bool s6, .int .u64 sh, .int .u64 sl, .bool d6, .int .u64 dh, .int .u64 dl, .int .i64 sp, .int .i64 dp], .int .i64 ttl, .int .i64 fl, .int .i64 6] V fun o w' => o = .returned (.bool false) ∧ Below V.heap.size V w'))
    (HP : Hid (∀ V A2 n2 c2, Sl V A2 n2 c2 B → Calls Try.prog 28 #[.slice A2 n2 c2] V fun o w' => o = .returned (.tuple #[.agg #[.bool s6, .int .i64 pr, .bool s6, .int .u64 sh, .int .u64 sl, .bool d6, .int .u64 dh, .int .u64 dl, .int .i64 sp, .int .i64 dp, .int .i64 ttl, .int .i64 0, .bool false, .int .i64 0, .bool false, .int .u64 0, .int .u64 0, .bool false, .int .u64 0, .int .u64 0, .int .i64 0, .int .i64 0, .int .i64 (B.length : Int)], .int .i64 0]) ∧ Below V.heap.size V w')) :
    Calls Try.prog 7 #[.agg #[.int .i64 pr, .bool s6, .int .u64 sh, .int .u64 sl, .bool d6, .int .u64 dh, .int .u64 dl, .int .i64 sp, .int .i64 dp], .int .i64 ttl, .int .i64 fl, .slice A n0 c] w fun o w' => o = .returned (.bool true) ∧ Below w.heap.size w w' := by
  have HAW := Lib.hid awake_any
  obtain ⟨w1, hw1⟩ : ∃ w1, w1 = w.alloc (.cells #[.int .i64 pr, .bool s6, .int .u64 sh, .int .u64 sl, .bool d6, .int .u64 dh, .int .u64 dl, .int .i64 sp, .int .i64 dp] 48) := ⟨_, rfl⟩
  have E1 := Lib.hid hw1
  have B1 := Lib.hid (show Below w.heap.size w w1 from by rw [hw1]; exact (Below.refl _ _).alloc (Nat.le_refl _) _)
  obtain ⟨g, hg⟩ : ∃ g, g = w.heap.size := ⟨_, rfl⟩
  have EG := Lib.hid hg
  have K1 := Lib.hid (show Blk w1 g 48 #[.int .i64 pr, .bool s6, .int .u64 sh, .int .u64 sl, .bool d6, .int .u64 dh, .int .u64 dl, .int .i64 sp, .int .i64 dp] from by rw [hw1, hg]; exact Blk.new w _ _)
  clear hw1 hg
  have HSZ := Lib.hid hsz
  have HBL := Lib.hid hB
  have HDR := Lib.hid hd
  have HN := Lib.hid hn
  have HSL := Lib.hid hsl
  clear hsz hB hd hn hsl
  go_enter Try.func7, Try.ntmps7
  go_upto_region 1 with fail
  rw [← E1.out, ← EG.out]
  go_wp2_with fail
  refine (HC.out _).mono ?_
  rintro o w' ⟨rfl, rfl⟩
  have p0 := K1.out.cell 0
  have p1 := K1.out.cell 1
  have p2 := K1.out.cell 2
  have p3 := K1.out.cell 3
  have p4 := K1.out.cell 4
  have p5 := K1.out.cell 5
  have p6 := K1.out.cell 6
  have p7 := K1.out.cell 7
  have p8 := K1.out.cell 8
  go_wp2_with fail
  refine (HD.out _ B1.out).mono ?_
  rintro o w2 ⟨hb2, A2, n2, c2, rfl, hs2⟩
  have K2 := Lib.hid (K1.out.below hb2 K1.out.lt)
  have B2 := Lib.hid (B1.out.trans (hb2.mono B1.out.size))
  have S2 := Lib.hid hs2
  clear hb2 hs2
  clear p0 p1 p2 p3 p4 p5 p6 p7 p8
  have p0 := K2.out.cell 0
  have p1 := K2.out.cell 1
  have p2 := K2.out.cell 2
  have p3 := K2.out.cell 3
  have p4 := K2.out.cell 4
  have p5 := K2.out.cell 5
  have p6 := K2.out.cell 6
  have p7 := K2.out.cell 7
  have p8 := K2.out.cell 8
  go_wp2_with fail
  refine (HS.out _ B2.out).mono ?_
  rintro o w3 ⟨hb3, A3, n3, c3, rfl, hs3⟩
  have K3 := Lib.hid (K2.out.below hb3 K2.out.lt)
  have B3 := Lib.hid (B2.out.trans (hb3.mono B2.out.size))
  have S23 := Lib.hid (S2.out.below hb3)
  have S3 := Lib.hid hs3
  clear hb3 hs3
  clear p0 p1 p2 p3 p4 p5 p6 p7 p8
  have p0 := K3.out.cell 0
  have p1 := K3.out.cell 1
  have p2 := K3.out.cell 2
  have p3 := K3.out.cell 3
  have p4 := K3.out.cell 4
  have p5 := K3.out.cell 5
  have p6 := K3.out.cell 6
  have p7 := K3.out.cell 7
  have p8 := K3.out.cell 8
  go_wp2_with fail
  refine (HM1.out _).mono ?_
  rintro o w4 ⟨rfl, hb4⟩
  have K4 := Lib.hid (K3.out.below hb4 K3.out.lt)
  have B4 := Lib.hid (B3.out.trans (hb4.mono B3.out.size))
  have S24 := Lib.hid (S23.out.below hb4)
  have S34 := Lib.hid (S3.out.below hb4)
  clear hb4
  clear p0 p1 p2 p3 p4 p5 p6 p7 p8
  have p0 := K4.out.cell 0
  have p1 := K4.out.cell 1
  have p2 := K4.out.cell 2
  have p3 := K4.out.cell 3
  have p4 := K4.out.cell 4
  have p5 := K4.out.cell 5
  have p6 := K4.out.cell 6
  have p7 := K4.out.cell 7
  have p8 := K4.out.cell 8
  go_wp2_with fail
  refine (HM2.out _).mono ?_
  rintro o w5 ⟨rfl, hb5⟩
  have K5 := Lib.hid (K4.out.below hb5 K4.out.lt)
  have B5 := Lib.hid (B4.out.trans (hb5.mono B4.out.size))
  have S25 := Lib.hid (S24.out.below hb5)
  have S35 := Lib.hid (S34.out.below hb5)
  clear hb5
  clear p0 p1 p2 p3 p4 p5 p6 p7 p8
  have p1 := K5.out.cell 1
  go_upto_if 68 with fail
  go_cut [13] (fun v wx => v = .int .i64 (sz : Int) ∧ wx = w5)
  case first =>
    have hz := HSZ.out
    cases s6 with
    | true =>
      rw [if_pos rfl] at hz
      go_wp2_with fail
      go_meet
      exact ⟨by rw [hz]; rfl, rfl⟩
    | false =>
      rw [if_neg (by decide)] at hz
      go_wp2_with fail
      go_meet
      exact ⟨by rw [hz]; rfl, rfl⟩
  case rest =>
  obtain ⟨rfl, hwc⟩ := hcut
  rw [hwc]
  clear hwc wc p1
  obtain ⟨N, hN⟩ : ∃ N, N = B.length := ⟨_, rfl⟩
  have hsz := HSZ.out
  have hz40 : sz ≤ 40 := by rw [hsz]; split <;> omega
  have hbl := HBL.out
  have hn5 := HN.out
  obtain rfl : n2 = N := by rw [hN]; exact S25.out.len.symm
  obtain ⟨Y, hY⟩ : ∃ Y : Array Value, Y = #[.bool s6, .int .i64 pr, .bool s6, .int .u64 sh, .int .u64 sl, .bool d6, .int .u64 dh, .int .u64 dl, .int .i64 sp, .int .i64 dp, .int .i64 ttl, .int .i64 0, .bool false, .int .i64 0, .bool false, .int .u64 0, .int .u64 0, .bool false, .int .u64 0, .int .u64 0, .int .i64 0, .int .i64 0, .int .i64 (n2 : Int)] := ⟨_, rfl⟩
  have HP5 := Lib.hid (show ∀ V, Below w5.heap.size w5 V → Calls Try.prog 28 #[.slice A2 n2 c2] V fun o w' => o = .returned (.tuple #[.agg Y, .int .i64 0]) ∧ Below V.heap.size V w' from fun V hV => by
    have h9 := HP.out V A2 n2 c2 (S25.out.below hV)
    rw [← hN, ← hY] at h9
    exact h9)
  have ys : Y.size = 23 := by rw [hY]; rfl
  have ONE := Lib.hid (show Y.all (·.oneCell') = true from by rw [hY]; simp [Value.oneCell'])
  have HIY := Lib.hid (show (Try.prog.info? 58).map (·.size) = some Y.size from by rw [ys]; exact pk_size)
  have ZY := Lib.hid (show (#[.bool false, .int .i64 0, .bool false, .int .u64 0, .int .u64 0, .bool false, .int .u64 0, .int .u64 0, .int .i64 0, .int .i64 0, .int .i64 0, .int .i64 0, .bool false, .int .i64 0, .bool false, .int .u64 0, .int .u64 0, .bool false, .int .u64 0, .int .u64 0, .int .i64 0, .int .i64 0, .int .i64 0] : Array Value).size = Y.size from by rw [ys]; rfl)
  have HY := Lib.hid hY
  obtain ⟨s8, hs8⟩ : ∃ s8 : Int, s8 = ((sz + 8 : Nat) : Int) := ⟨_, rfl⟩
  have k1 : IntKind.i64.wrap ((sz : Int) + 8) = s8 := by rw [IntWalk.i64_in _ (by omega)]; omega
  have k2 : IntKind.i64.wrap (s8 + (n : Int)) = (n2 : Int) := by rw [IntWalk.i64_in _ (by omega)]; omega
  have HNB := Lib.hid (show n2 = sz + 8 + n from by omega)
  obtain ⟨bb, off, hAB, hbb, hlies⟩ := lies_of S25.out.row (by omega)
  subst hAB
  have hnc := S25.out.nc
  obtain ⟨AX, x1, x2, x3, x4⟩ := slice_fr bb off n2 c2 (sz + 8) s8 hs8 (by omega) hnc
  have HX4 := Lib.hid (show ∀ V, Below w5.heap.size w5 V → Row V V.heap.size AX (pl.map (.int .u8)) from fun V hV => by
    have h9 := x4 V V.heap.size B (Nat.lt_of_lt_of_le hbb hV.size) (by rw [← hN]) (hlies.below hV hbb)
    rw [HDR.out] at h9
    exact h9)
  obtain ⟨TX, hTX⟩ : ∃ TX, TX = strOfNums pl := ⟨_, rfl⟩
  have HTX := Lib.hid hTX
  have x1' : ∀ W : World, (Instr.slice 22 (.slice (some ⟨bb, off, none⟩) n2 c2) (some (.int .i64 s8)) none none).run Try.prog W = .ok (.slice AX n (c2 - (sz + 8))) W := fun W => by have := x1 W; rw [show n2 - (sz + 8) = n from by omega] at this; exact this
  have x2' : ∀ W : World, (Instr.sliceAt 22 (.slice (some ⟨bb, off, none⟩) n2 c2) (some (.int .i64 s8)) none none).run Try.prog W = .ok (.slice AX n (c2 - (sz + 8))) W := fun W => by have := x2 W; rw [show n2 - (sz + 8) = n from by omega] at this; exact this
  have HPL := Lib.hid (show Sl w5 A n c pl from HSL.out.below B5.out)
  have HPN := Lib.hid (show pl.length = n from HSL.out.len)
  obtain ⟨CX, hCX⟩ : ∃ CX, CX = c2 - (sz + 8) := ⟨_, rfl⟩
  rw [← hCX] at x1' x2'
  clear hsz hz40 hbl hn5 hN hY ys hs8 hnc x1 x2 x3 x4 hTX hCX hbb hlies
  go_wp2_with fail
  refine (HP5.out _ (Below.refl _ _)).mono ?_
  rintro o w6 ⟨rfl, hb6⟩
  obtain ⟨w7, hw7⟩ : ∃ w7, w7 = (w6.alloc (.cells #[.bool false, .int .i64 0, .bool false, .int .u64 0, .int .u64 0, .bool false, .int .u64 0, .int .u64 0, .int .i64 0, .int .i64 0, .int .i64 0, .int .i64 0, .bool false, .int .i64 0, .bool false, .int .u64 0, .int .u64 0, .bool false, .int .u64 0, .int .u64 0, .int .i64 0, .int .i64 0, .int .i64 0] 58)).setRow w6.heap.size Y := ⟨_, rfl⟩
  have E7 := Lib.hid hw7
  have B67 := Lib.hid (show Below w6.heap.size w6 w7 from by rw [hw7]; exact (onlyRow _).from ((Below.refl _ _).alloc (Nat.le_refl _) _) (Nat.le_refl _))
  have B57 := Lib.hid (hb6.trans (B67.out.mono hb6.size))
  have K7 := Lib.hid (K5.out.below B57.out K5.out.lt)
  have L7 := Lib.hid (show Blk w7 w6.heap.size 58 Y from by rw [hw7]; exact blkRow (Blk.new w6 _ _) _)
  have B7 := Lib.hid (B5.out.trans (B57.out.mono B5.out.size))
  clear hw7 hb6
  go_upto_region 11 with (refine wpList_store_row rfl 58 _ _ rfl w6.heap.size Y rfl rfl 58 #[.bool false, .int .i64 0, .bool false, .int .u64 0, .int .u64 0, .bool false, .int .u64 0, .int .u64 0, .int .i64 0, .int .i64 0, .int .i64 0, .int .i64 0, .bool false, .int .i64 0, .bool false, .int .u64 0, .int .u64 0, .bool false, .int .u64 0, .int .u64 0, .int .i64 0, .int .i64 0, .int .i64 0] (Blk.new w6 _ _) HIY.out ZY.out ONE.out ?_)
  rw [← E7.out]
  have HU := Lib.hid Try.underlying58
  have HV := Lib.hid Try.underlying48
  have HIT := Lib.hid tp_size
  have HS_ := Lib.hid (show ∀ W, Below w7.heap.size w7 W → (W.rangeAt w6.heap.size 0 Y.toList ∧ W.rangeAt g 0 (#[.int .i64 pr, .bool s6, .int .u64 sh, .int .u64 sl, .bool d6, .int .u64 dh, .int .u64 dl, .int .i64 sp, .int .i64 dp] : Array Value).toList ∧ (convert 22 9 (.slice AX n CX)).run Try.prog W = .ok (.string TX) W ∧ (convert 22 9 (.slice A n c)).run Try.prog W = .ok (.string TX) W ∧ W.cell? ⟨g, 1, none⟩ = some (.bool s6)) from fun W hW => ⟨range_blk (L7.out.below hW L7.out.lt), range_blk (K7.out.below hW K7.out.lt), by rw [HTX.out]; exact sixN.conv_row (HX4.out W (B57.out.trans (hW.mono B57.out.size))) HPN.out, by rw [HTX.out]; exact sixN.conv_row (HPL.out.below (B57.out.trans (hW.mono B57.out.size))).row HPN.out, (K7.out.below hW K7.out.lt).cell 1⟩)
  have D0 := Lib.hid ((Below.refl w7.heap.size w7).drew)
  have s0 := HS_.out w7.drew D0.out
  refine wp_region_held_drew (S := fun V => V.rangeAt w6.heap.size 0 Y.toList ∧ V.rangeAt g 0 (#[.int .i64 pr, .bool s6, .int .u64 sh, .int .u64 sl, .bool d6, .int .u64 dh, .int .u64 dl, .int .i64 sp, .int .i64 dp] : Array Value).toList ∧ (convert 22 9 (.slice AX n CX)).run Try.prog V = .ok (.string TX) V ∧ (convert 22 9 (.slice A n c)).run Try.prog V = .ok (.string TX) V ∧ V.cell? ⟨g, 1, none⟩ = some (.bool s6)) (by kernel_rfl) s0 (fun hHeld => ?_)
  refine wpAnyH_take (i := 0) (v := .slice (some ⟨bb, off, none⟩) n2 c2) rfl (by kernel_rfl) (by kernel_rfl) (by kernel_rfl) (fun _ _ _ h => h) (Or.inl ⟨by rfl, ?_⟩) (by assumption) ?_
  · intro V hV
    obtain ⟨_, _, v1, v2, v3⟩ := hV
    go_simp
  try simp only [List.getElem_toArray, List.getElem_cons_zero, Act.put, List.setIfInBounds_toArray, List.set_cons_zero, List.set_cons_succ]
  refine wpAnyH_take (i := 1) (v := .int .i64 n2) rfl (by kernel_rfl) (by kernel_rfl) (by kernel_rfl) (fun _ _ _ h => h) (Or.inl ⟨by rfl, ?_⟩) (by assumption) ?_
  · intro V hV
    obtain ⟨_, _, v1, v2, v3⟩ := hV
    go_simp
  try simp only [List.getElem_toArray, List.getElem_cons_zero, List.getElem_cons_succ, Act.put, List.setIfInBounds_toArray, List.set_cons_zero, List.set_cons_succ]
  refine wpAnyH_take (i := 2) (v := .int .i64 sz) rfl (by kernel_rfl) (by kernel_rfl) (by kernel_rfl) (fun _ _ _ h => h) (Or.inl ⟨by rfl, ?_⟩) (by assumption) ?_
  · intro V hV
    obtain ⟨_, _, v1, v2, v3⟩ := hV
    go_simp
  try simp only [List.getElem_toArray, List.getElem_cons_zero, List.getElem_cons_succ, Act.put, List.setIfInBounds_toArray, List.set_cons_zero, List.set_cons_succ]
  refine wpAnyH_take (i := 3) (v := .int .i64 s8) rfl (by kernel_rfl) (by kernel_rfl) (by kernel_rfl) (fun _ _ _ h => h) (Or.inl ⟨by rfl, ?_⟩) (by assumption) ?_
  · intro V hV
    obtain ⟨_, _, v1, v2, v3⟩ := hV
    go_simp
  try simp only [List.getElem_toArray, List.getElem_cons_zero, List.getElem_cons_succ, Act.put, List.setIfInBounds_toArray, List.set_cons_zero, List.set_cons_succ]
  refine wpAnyH_take (i := 4) (v := .slice A n c) rfl (by kernel_rfl) (by kernel_rfl) (by kernel_rfl) (fun _ _ _ h => h) (Or.inl ⟨by rfl, ?_⟩) (by assumption) ?_
  · intro V hV
    obtain ⟨_, _, v1, v2, v3⟩ := hV
    go_simp
  try simp only [List.getElem_toArray, List.getElem_cons_zero, List.getElem_cons_succ, Act.put, List.setIfInBounds_toArray, List.set_cons_zero, List.set_cons_succ]
  refine wpAnyH_take (i := 5) (v := .int .i64 n) rfl (by kernel_rfl) (by kernel_rfl) (by kernel_rfl) (fun _ _ _ h => h) (Or.inl ⟨by rfl, ?_⟩) (by assumption) ?_
  · intro V hV
    obtain ⟨_, _, v1, v2, v3⟩ := hV
    go_simp
  try simp only [List.getElem_toArray, List.getElem_cons_zero, List.getElem_cons_succ, Act.put, List.setIfInBounds_toArray, List.set_cons_zero, List.set_cons_succ]
  refine wpAnyH_take (i := 6) (v := .int .i64 n2) rfl (by kernel_rfl) (by kernel_rfl) (by kernel_rfl) (fun _ _ _ h => h) (Or.inl ⟨by rfl, ?_⟩) (by assumption) ?_
  · intro V hV
    obtain ⟨_, _, v1, v2, v3⟩ := hV
    go_simp
  try simp only [List.getElem_toArray, List.getElem_cons_zero, List.getElem_cons_succ, Act.put, List.setIfInBounds_toArray, List.set_cons_zero, List.set_cons_succ]
  refine wpAnyH_take (i := 7) (v := .bool false) rfl (by kernel_rfl) (by kernel_rfl) (by kernel_rfl) (fun _ _ _ h => h) (Or.inl ⟨by rfl, ?_⟩) (by assumption) ?_
  · intro V hV
    obtain ⟨_, _, v1, v2, v3⟩ := hV
    go_simp
  try simp only [List.getElem_toArray, List.getElem_cons_zero, List.getElem_cons_succ, Act.put, List.setIfInBounds_toArray, List.set_cons_zero, List.set_cons_succ]
  refine wpAnyH_take (i := 8) (v := .bool false) rfl (by kernel_rfl) (by kernel_rfl) (by kernel_rfl) (fun _ _ _ h => h) (Or.inl ⟨by rfl, ?_⟩) (by assumption) ?_
  · intro V hV
    obtain ⟨_, _, v1, v2, v3⟩ := hV
    go_simp
  try simp only [List.getElem_toArray, List.getElem_cons_zero, List.getElem_cons_succ, Act.put, List.setIfInBounds_toArray, List.set_cons_zero, List.set_cons_succ]
  refine wpAnyH_take (i := 9) (v := .int .i64 0) rfl (by kernel_rfl) (by kernel_rfl) (by kernel_rfl) (fun _ _ _ h => h) (Or.inl ⟨by rfl, ?_⟩) (by assumption) ?_
  · intro V hV
    obtain ⟨_, _, v1, v2, v3⟩ := hV
    go_simp
  try simp only [List.getElem_toArray, List.getElem_cons_zero, List.getElem_cons_succ, Act.put, List.setIfInBounds_toArray, List.set_cons_zero, List.set_cons_succ]
  refine wpAnyH_take (i := 10) (v := .bool false) rfl (by kernel_rfl) (by kernel_rfl) (by kernel_rfl) (fun _ _ _ h => h) (Or.inl ⟨by rfl, ?_⟩) (by assumption) ?_
  · intro V hV
    obtain ⟨_, _, v1, v2, v3⟩ := hV
    go_simp
  try simp only [List.getElem_toArray, List.getElem_cons_zero, List.getElem_cons_succ, Act.put, List.setIfInBounds_toArray, List.set_cons_zero, List.set_cons_succ]
  refine wpAnyH_take (i := 11) (v := .bool false) rfl (by kernel_rfl) (by kernel_rfl) (by kernel_rfl) (fun _ _ _ h => h) (Or.inl ⟨by rfl, ?_⟩) (by assumption) ?_
  · intro V hV
    obtain ⟨_, _, v1, v2, v3⟩ := hV
    go_simp
  try simp only [List.getElem_toArray, List.getElem_cons_zero, List.getElem_cons_succ, Act.put, List.setIfInBounds_toArray, List.set_cons_zero, List.set_cons_succ]
  refine wpAnyH_take (i := 12) (v := .bool false) rfl (by kernel_rfl) (by kernel_rfl) (by kernel_rfl) (fun _ _ _ h => h) (Or.inl ⟨by rfl, ?_⟩) (by assumption) ?_
  · intro V hV
    obtain ⟨_, _, v1, v2, v3⟩ := hV
    go_simp
  try simp only [List.getElem_toArray, List.getElem_cons_zero, List.getElem_cons_succ, Act.put, List.setIfInBounds_toArray, List.set_cons_zero, List.set_cons_succ]
  refine wpAnyH_take (i := 13) (v := .agg Y) rfl (by kernel_rfl) (by kernel_rfl) (by kernel_rfl) (fun _ _ _ h => h) (yield_row (by rfl) _ _ rfl w6.heap.size rfl Y _ (fun _ h => h.1) HU.out rfl HIY.out) (by assumption) ?_
  try simp only [List.getElem_toArray, List.getElem_cons_zero, List.getElem_cons_succ, Act.put, List.setIfInBounds_toArray, List.set_cons_zero, List.set_cons_succ]
  refine wpAnyH_take (i := 14) (v := .pointer (some ⟨g, 1, none⟩)) rfl (by kernel_rfl) (by kernel_rfl) (by kernel_rfl) (fun _ _ _ h => h) (Or.inl ⟨by rfl, ?_⟩) (by assumption) ?_
  · intro V hV
    obtain ⟨_, _, v1, v2, v3⟩ := hV
    go_simp
  try simp only [List.getElem_toArray, List.getElem_cons_zero, List.getElem_cons_succ, Act.put, List.setIfInBounds_toArray, List.set_cons_zero, List.set_cons_succ]
  refine wpAnyH_take (i := 15) (v := .pointer (some ⟨g, 1, none⟩)) rfl (by kernel_rfl) (by kernel_rfl) (by kernel_rfl) (fun _ _ _ h => h) (Or.inl ⟨by rfl, ?_⟩) (by assumption) ?_
  · intro V hV
    obtain ⟨_, _, v1, v2, v3⟩ := hV
    go_simp
  try simp only [List.getElem_toArray, List.getElem_cons_zero, List.getElem_cons_succ, Act.put, List.setIfInBounds_toArray, List.set_cons_zero, List.set_cons_succ]
  refine wpAnyH_take (i := 16) (v := .bool s6) rfl (by kernel_rfl) (by kernel_rfl) (by kernel_rfl) (fun _ _ _ h => h) (Or.inl ⟨by rfl, ?_⟩) (by assumption) ?_
  · intro V hV
    obtain ⟨_, _, v1, v2, v3⟩ := hV
    go_simp
  try simp only [List.getElem_toArray, List.getElem_cons_zero, List.getElem_cons_succ, Act.put, List.setIfInBounds_toArray, List.set_cons_zero, List.set_cons_succ]
  refine wpAnyH_take (i := 17) (v := .agg #[.int .i64 pr, .bool s6, .int .u64 sh, .int .u64 sl, .bool d6, .int .u64 dh, .int .u64 dl, .int .i64 sp, .int .i64 dp]) rfl (by kernel_rfl) (by kernel_rfl) (by kernel_rfl) (fun _ _ _ h => h) (yield_row (by rfl) _ _ rfl g rfl #[.int .i64 pr, .bool s6, .int .u64 sh, .int .u64 sl, .bool d6, .int .u64 dh, .int .u64 dl, .int .i64 sp, .int .i64 dp] _ (fun _ h => h.2.1) HV.out rfl HIT.out) (by assumption) ?_
  try simp only [List.getElem_toArray, List.getElem_cons_zero, List.getElem_cons_succ, Act.put, List.setIfInBounds_toArray, List.set_cons_zero, List.set_cons_succ]
  refine wpAnyH_take (i := 18) (v := .int .i64 ttl) rfl (by kernel_rfl) (by kernel_rfl) (by kernel_rfl) (fun _ _ _ h => h) (Or.inl ⟨by rfl, ?_⟩) (by assumption) ?_
  · intro V hV
    obtain ⟨_, _, v1, v2, v3⟩ := hV
    go_simp
  try simp only [List.getElem_toArray, List.getElem_cons_zero, List.getElem_cons_succ, Act.put, List.setIfInBounds_toArray, List.set_cons_zero, List.set_cons_succ]
  refine wpAnyH_take (i := 19) (v := .slice (some ⟨bb, off, none⟩) n2 c2) rfl (by kernel_rfl) (by kernel_rfl) (by kernel_rfl) (fun _ _ _ h => h) (Or.inl ⟨by rfl, ?_⟩) (by assumption) ?_
  · intro V hV
    obtain ⟨_, _, v1, v2, v3⟩ := hV
    go_simp
  try simp only [List.getElem_toArray, List.getElem_cons_zero, List.getElem_cons_succ, Act.put, List.setIfInBounds_toArray, List.set_cons_zero, List.set_cons_succ]
  refine wpAnyH_take (i := 20) (v := .int .i64 n2) rfl (by kernel_rfl) (by kernel_rfl) (by kernel_rfl) (fun _ _ _ h => h) (Or.inl ⟨by rfl, ?_⟩) (by assumption) ?_
  · intro V hV
    obtain ⟨_, _, v1, v2, v3⟩ := hV
    go_simp
  try simp only [List.getElem_toArray, List.getElem_cons_zero, List.getElem_cons_succ, Act.put, List.setIfInBounds_toArray, List.set_cons_zero, List.set_cons_succ]
  refine wpAnyH_take (i := 21) (v := .agg Y) rfl (by kernel_rfl) (by kernel_rfl) (by kernel_rfl) (fun _ _ _ h => h) (Or.inl ⟨by rfl, ?_⟩) (by assumption) ?_
  · intro V hV
    obtain ⟨_, _, v1, v2, v3⟩ := hV
    rw [HY.out]
    go_simp
  try simp only [List.getElem_toArray, List.getElem_cons_zero, List.getElem_cons_succ, Act.put, List.setIfInBounds_toArray, List.set_cons_zero, List.set_cons_succ]
  refine wpAnyH_take (i := 22) (v := .bool false) rfl (by kernel_rfl) (by kernel_rfl) (by kernel_rfl) (fun _ _ _ h => h) (Or.inl ⟨by rfl, ?_⟩) (by assumption) ?_
  · intro V hV
    obtain ⟨_, _, v1, v2, v3⟩ := hV
    rw [HY.out]
    go_simp
  try simp only [List.getElem_toArray, List.getElem_cons_zero, List.getElem_cons_succ, Act.put, List.setIfInBounds_toArray, List.set_cons_zero, List.set_cons_succ]
  refine wpAnyH_take (i := 23) (v := .bool false) rfl (by kernel_rfl) (by kernel_rfl) (by kernel_rfl) (fun _ _ _ h => h) (Or.inl ⟨by rfl, ?_⟩) (by assumption) ?_
  · intro V hV
    obtain ⟨_, _, v1, v2, v3⟩ := hV
    go_simp
  try simp only [List.getElem_toArray, List.getElem_cons_zero, List.getElem_cons_succ, Act.put, List.setIfInBounds_toArray, List.set_cons_zero, List.set_cons_succ]
  refine wpAnyH_take (i := 24) (v := .bool false) rfl (by kernel_rfl) (by kernel_rfl) (by kernel_rfl) (fun _ _ _ h => h) (Or.inl ⟨by rfl, ?_⟩) (by assumption) ?_
  · intro V hV
    obtain ⟨_, _, v1, v2, v3⟩ := hV
    go_simp
  try simp only [List.getElem_toArray, List.getElem_cons_zero, List.getElem_cons_succ, Act.put, List.setIfInBounds_toArray, List.set_cons_zero, List.set_cons_succ]
  refine wpAnyH_take (i := 25) (v := .slice (some ⟨bb, off, none⟩) n2 c2) rfl (by kernel_rfl) (by kernel_rfl) (by kernel_rfl) (fun _ _ _ h => h) (Or.inl ⟨by rfl, ?_⟩) (by assumption) ?_
  · intro V hV
    obtain ⟨_, _, v1, v2, v3⟩ := hV
    go_simp
  try simp only [List.getElem_toArray, List.getElem_cons_zero, List.getElem_cons_succ, Act.put, List.setIfInBounds_toArray, List.set_cons_zero, List.set_cons_succ]
  refine wpAnyH_take (i := 26) (v := .int .i64 sz) rfl (by kernel_rfl) (by kernel_rfl) (by kernel_rfl) (fun _ _ _ h => h) (Or.inl ⟨by rfl, ?_⟩) (by assumption) ?_
  · intro V hV
    obtain ⟨_, _, v1, v2, v3⟩ := hV
    go_simp
  try simp only [List.getElem_toArray, List.getElem_cons_zero, List.getElem_cons_succ, Act.put, List.setIfInBounds_toArray, List.set_cons_zero, List.set_cons_succ]
  refine wpAnyH_take (i := 27) (v := .int .i64 s8) rfl (by kernel_rfl) (by kernel_rfl) (by kernel_rfl) (fun _ _ _ h => h) (Or.inl ⟨by rfl, ?_⟩) (by assumption) ?_
  · intro V hV
    obtain ⟨_, _, v1, v2, v3⟩ := hV
    go_simp
  try simp only [List.getElem_toArray, List.getElem_cons_zero, List.getElem_cons_succ, Act.put, List.setIfInBounds_toArray, List.set_cons_zero, List.set_cons_succ]
  refine wpAnyH_take (i := 28) (v := .slice AX n CX) rfl (by kernel_rfl) (by kernel_rfl) (by kernel_rfl) (fun _ _ _ h => h) (Or.inl ⟨by rfl, ?_⟩) (by assumption) ?_
  · intro V hV
    obtain ⟨_, _, v1, v2, v3⟩ := hV
    go_simp
  try simp only [List.getElem_toArray, List.getElem_cons_zero, List.getElem_cons_succ, Act.put, List.setIfInBounds_toArray, List.set_cons_zero, List.set_cons_succ]
  refine wpAnyH_take (i := 29) (v := .string TX) rfl (by kernel_rfl) (by kernel_rfl) (by kernel_rfl) (fun _ _ _ h => h) (Or.inl ⟨by rfl, ?_⟩) (by assumption) ?_
  · intro V hV
    obtain ⟨_, _, v1, v2, v3⟩ := hV
    go_simp
  try simp only [List.getElem_toArray, List.getElem_cons_zero, List.getElem_cons_succ, Act.put, List.setIfInBounds_toArray, List.set_cons_zero, List.set_cons_succ]
  refine wpAnyH_take (i := 30) (v := .slice A n c) rfl (by kernel_rfl) (by kernel_rfl) (by kernel_rfl) (fun _ _ _ h => h) (Or.inl ⟨by rfl, ?_⟩) (by assumption) ?_
  · intro V hV
    obtain ⟨_, _, v1, v2, v3⟩ := hV
    go_simp
  try simp only [List.getElem_toArray, List.getElem_cons_zero, List.getElem_cons_succ, Act.put, List.setIfInBounds_toArray, List.set_cons_zero, List.set_cons_succ]
  refine wpAnyH_take (i := 31) (v := .string TX) rfl (by kernel_rfl) (by kernel_rfl) (by kernel_rfl) (fun _ _ _ h => h) (Or.inl ⟨by rfl, ?_⟩) (by assumption) ?_
  · intro V hV
    obtain ⟨_, _, v1, v2, v3⟩ := hV
    go_simp
  try simp only [List.getElem_toArray, List.getElem_cons_zero, List.getElem_cons_succ, Act.put, List.setIfInBounds_toArray, List.set_cons_zero, List.set_cons_succ]
  refine wpAnyH_take (i := 32) (v := .bool false) rfl (by kernel_rfl) (by kernel_rfl) (by kernel_rfl) (fun _ _ _ h => h) (Or.inl ⟨by rfl, ?_⟩) (by assumption) ?_
  · intro V hV
    obtain ⟨_, _, v1, v2, v3⟩ := hV
    go_simp
  try simp only [List.getElem_toArray, List.getElem_cons_zero, List.getElem_cons_succ, Act.put, List.setIfInBounds_toArray, List.set_cons_zero, List.set_cons_succ]
  refine wpAnyH_take (i := 33) (v := .bool false) rfl (by kernel_rfl) (by kernel_rfl) (by kernel_rfl) (fun _ _ _ h => h) (Or.inl ⟨by rfl, ?_⟩) (by assumption) ?_
  · intro V hV
    obtain ⟨_, _, v1, v2, v3⟩ := hV
    go_simp
  try simp only [List.getElem_toArray, List.getElem_cons_zero, List.getElem_cons_succ, Act.put, List.setIfInBounds_toArray, List.set_cons_zero, List.set_cons_succ]
  refine wpAnyH_done (by kernel_rfl) ?_ _
  go_wp2_with fail
  refine (HAW.out _).mono ?_
  rintro o w8 ⟨rfl, hb8⟩
  have B8 := Lib.hid (B7.out.trans ((D0.out.trans (hb8.mono D0.out.size)).mono B7.out.size))
  clear hb8
  go_wp2_with fail
  go_ret
  exact ⟨rfl, B8.out⟩
set_option maxHeartbeats 8000000 in
set_option maxRecDepth 100000 in
theorem makes_S (pr : Int) (s6 : Bool) (sh sl : Int) (d6 : Bool) (dh dl sp dp ttl fl : Int) (A : Option Addr) (n0 n c : Nat) (w : World) (B pl : List Int) (sz : Nat) (hsz : sz = if s6 = true then 40 else 20) (hB : B.length = sz + 20 + n) (hd : B.drop (sz + 20) = pl) (hn : n ≤ 500) (hsl : Sl w A n c pl)
    (HC : Hid (∀ W, Calls Try.prog 27 #[.slice A n0 c] W fun o w' => o = .returned (.slice A n c) ∧ W = w'))
    (HD : Hid (∀ V, Below w.heap.size w V → Calls Try.prog 33 #[.agg #[.int .i64 pr, .bool s6, .int .u64 sh, .int .u64 sl, .bool d6, .int .u64 dh, .int .u64 dl, .int .i64 sp, .int .i64 dp], .int .i64 ttl, .slice A n c] V (MkP 1 [] V)))
    (HS : Hid (∀ V, Below w.heap.size w V → Calls Try.prog 34 #[.agg #[.int .i64 pr, .bool s6, .int .u64 sh, .int .u64 sl, .bool d6, .int .u64 dh, .int .u64 dl, .int .i64 sp, .int .i64 dp], .int .i64 ttl, .int .i64 fl, .slice A n c] V (MkP 0 B V)))
    (HM1 : Hid (∀ V, Calls Try.prog 35 #[.agg #[.int .i64 pr, .bool s6, .int .u64 sh, .int .u64 sl, .bool d6, .int .u64 dh, .int .u64 dl, .int .i64 sp, .int .i64 dp], .int .i64 ttl, .int .i64 0, .int .i64 17] V fun o w' => o = .returned (.bool false) ∧ Below V.heap.size V w'))
    (HM2 : Hid (∀ V, Calls Try.prog 35 #[.agg #[.int .i64 pr, .bool s6, .int .u64 sh, .int .u64 sl, .bool d6, .int .u64 dh, .int .u64 dl, .int .i64 sp, .int .i64 dp], .int .i64 ttl, .int .i64 fl, .int .i64 6] V fun o w' => o = .returned (.bool true) ∧ Below V.heap.size V w'))
    (HP : Hid (∀ V A2 n2 c2, Sl V A2 n2 c2 B → Calls Try.prog 28 #[.slice A2 n2 c2] V fun o w' => o = .returned (.tuple #[.agg #[.bool s6, .int .i64 pr, .bool s6, .int .u64 sh, .int .u64 sl, .bool d6, .int .u64 dh, .int .u64 dl, .int .i64 sp, .int .i64 dp, .int .i64 ttl, .int .i64 fl, .bool false, .int .i64 0, .bool false, .int .u64 0, .int .u64 0, .bool false, .int .u64 0, .int .u64 0, .int .i64 0, .int .i64 0, .int .i64 (B.length : Int)], .int .i64 0]) ∧ Below V.heap.size V w')) :
    Calls Try.prog 7 #[.agg #[.int .i64 pr, .bool s6, .int .u64 sh, .int .u64 sl, .bool d6, .int .u64 dh, .int .u64 dl, .int .i64 sp, .int .i64 dp], .int .i64 ttl, .int .i64 fl, .slice A n0 c] w fun o w' => o = .returned (.bool true) ∧ Below w.heap.size w w' := by
  have HAW := Lib.hid awake_any
  obtain ⟨w1, hw1⟩ : ∃ w1, w1 = w.alloc (.cells #[.int .i64 pr, .bool s6, .int .u64 sh, .int .u64 sl, .bool d6, .int .u64 dh, .int .u64 dl, .int .i64 sp, .int .i64 dp] 48) := ⟨_, rfl⟩
  have E1 := Lib.hid hw1
  have B1 := Lib.hid (show Below w.heap.size w w1 from by rw [hw1]; exact (Below.refl _ _).alloc (Nat.le_refl _) _)
  obtain ⟨g, hg⟩ : ∃ g, g = w.heap.size := ⟨_, rfl⟩
  have EG := Lib.hid hg
  have K1 := Lib.hid (show Blk w1 g 48 #[.int .i64 pr, .bool s6, .int .u64 sh, .int .u64 sl, .bool d6, .int .u64 dh, .int .u64 dl, .int .i64 sp, .int .i64 dp] from by rw [hw1, hg]; exact Blk.new w _ _)
  clear hw1 hg
  have HSZ := Lib.hid hsz
  have HBL := Lib.hid hB
  have HDR := Lib.hid hd
  have HN := Lib.hid hn
  have HSL := Lib.hid hsl
  clear hsz hB hd hn hsl
  go_enter Try.func7, Try.ntmps7
  go_upto_region 1 with fail
  rw [← E1.out, ← EG.out]
  go_wp2_with fail
  refine (HC.out _).mono ?_
  rintro o w' ⟨rfl, rfl⟩
  have p0 := K1.out.cell 0
  have p1 := K1.out.cell 1
  have p2 := K1.out.cell 2
  have p3 := K1.out.cell 3
  have p4 := K1.out.cell 4
  have p5 := K1.out.cell 5
  have p6 := K1.out.cell 6
  have p7 := K1.out.cell 7
  have p8 := K1.out.cell 8
  go_wp2_with fail
  refine (HD.out _ B1.out).mono ?_
  rintro o w2 ⟨hb2, A2, n2, c2, rfl, hs2⟩
  have K2 := Lib.hid (K1.out.below hb2 K1.out.lt)
  have B2 := Lib.hid (B1.out.trans (hb2.mono B1.out.size))
  have S2 := Lib.hid hs2
  clear hb2 hs2
  clear p0 p1 p2 p3 p4 p5 p6 p7 p8
  have p0 := K2.out.cell 0
  have p1 := K2.out.cell 1
  have p2 := K2.out.cell 2
  have p3 := K2.out.cell 3
  have p4 := K2.out.cell 4
  have p5 := K2.out.cell 5
  have p6 := K2.out.cell 6
  have p7 := K2.out.cell 7
  have p8 := K2.out.cell 8
  go_wp2_with fail
  refine (HS.out _ B2.out).mono ?_
  rintro o w3 ⟨hb3, A3, n3, c3, rfl, hs3⟩
  have K3 := Lib.hid (K2.out.below hb3 K2.out.lt)
  have B3 := Lib.hid (B2.out.trans (hb3.mono B2.out.size))
  have S23 := Lib.hid (S2.out.below hb3)
  have S3 := Lib.hid hs3
  clear hb3 hs3
  clear p0 p1 p2 p3 p4 p5 p6 p7 p8
  have p0 := K3.out.cell 0
  have p1 := K3.out.cell 1
  have p2 := K3.out.cell 2
  have p3 := K3.out.cell 3
  have p4 := K3.out.cell 4
  have p5 := K3.out.cell 5
  have p6 := K3.out.cell 6
  have p7 := K3.out.cell 7
  have p8 := K3.out.cell 8
  go_wp2_with fail
  refine (HM1.out _).mono ?_
  rintro o w4 ⟨rfl, hb4⟩
  have K4 := Lib.hid (K3.out.below hb4 K3.out.lt)
  have B4 := Lib.hid (B3.out.trans (hb4.mono B3.out.size))
  have S24 := Lib.hid (S23.out.below hb4)
  have S34 := Lib.hid (S3.out.below hb4)
  clear hb4
  clear p0 p1 p2 p3 p4 p5 p6 p7 p8
  have p0 := K4.out.cell 0
  have p1 := K4.out.cell 1
  have p2 := K4.out.cell 2
  have p3 := K4.out.cell 3
  have p4 := K4.out.cell 4
  have p5 := K4.out.cell 5
  have p6 := K4.out.cell 6
  have p7 := K4.out.cell 7
  have p8 := K4.out.cell 8
  go_wp2_with fail
  refine (HM2.out _).mono ?_
  rintro o w5 ⟨rfl, hb5⟩
  have K5 := Lib.hid (K4.out.below hb5 K4.out.lt)
  have B5 := Lib.hid (B4.out.trans (hb5.mono B4.out.size))
  have S25 := Lib.hid (S24.out.below hb5)
  have S35 := Lib.hid (S34.out.below hb5)
  clear hb5
  clear p0 p1 p2 p3 p4 p5 p6 p7 p8
  have p1 := K5.out.cell 1
  go_upto_if 68 with fail
  go_cut [13] (fun v wx => v = .int .i64 (sz : Int) ∧ wx = w5)
  case first =>
    have hz := HSZ.out
    cases s6 with
    | true =>
      rw [if_pos rfl] at hz
      go_wp2_with fail
      go_meet
      exact ⟨by rw [hz]; rfl, rfl⟩
    | false =>
      rw [if_neg (by decide)] at hz
      go_wp2_with fail
      go_meet
      exact ⟨by rw [hz]; rfl, rfl⟩
  case rest =>
  obtain ⟨rfl, hwc⟩ := hcut
  rw [hwc]
  clear hwc wc p1
  obtain ⟨N, hN⟩ : ∃ N, N = B.length := ⟨_, rfl⟩
  have hsz := HSZ.out
  have hz40 : sz ≤ 40 := by rw [hsz]; split <;> omega
  have hbl := HBL.out
  have hn5 := HN.out
  obtain rfl : n3 = N := by rw [hN]; exact S35.out.len.symm
  obtain ⟨Y, hY⟩ : ∃ Y : Array Value, Y = #[.bool s6, .int .i64 pr, .bool s6, .int .u64 sh, .int .u64 sl, .bool d6, .int .u64 dh, .int .u64 dl, .int .i64 sp, .int .i64 dp, .int .i64 ttl, .int .i64 fl, .bool false, .int .i64 0, .bool false, .int .u64 0, .int .u64 0, .bool false, .int .u64 0, .int .u64 0, .int .i64 0, .int .i64 0, .int .i64 (n3 : Int)] := ⟨_, rfl⟩
  have HP5 := Lib.hid (show ∀ V, Below w5.heap.size w5 V → Calls Try.prog 28 #[.slice A3 n3 c3] V fun o w' => o = .returned (.tuple #[.agg Y, .int .i64 0]) ∧ Below V.heap.size V w' from fun V hV => by
    have h9 := HP.out V A3 n3 c3 (S35.out.below hV)
    rw [← hN, ← hY] at h9
    exact h9)
  have ys : Y.size = 23 := by rw [hY]; rfl
  have ONE := Lib.hid (show Y.all (·.oneCell') = true from by rw [hY]; simp [Value.oneCell'])
  have HIY := Lib.hid (show (Try.prog.info? 58).map (·.size) = some Y.size from by rw [ys]; exact pk_size)
  have ZY := Lib.hid (show (#[.bool false, .int .i64 0, .bool false, .int .u64 0, .int .u64 0, .bool false, .int .u64 0, .int .u64 0, .int .i64 0, .int .i64 0, .int .i64 0, .int .i64 0, .bool false, .int .i64 0, .bool false, .int .u64 0, .int .u64 0, .bool false, .int .u64 0, .int .u64 0, .int .i64 0, .int .i64 0, .int .i64 0] : Array Value).size = Y.size from by rw [ys]; rfl)
  have HY := Lib.hid hY
  obtain ⟨s8, hs8⟩ : ∃ s8 : Int, s8 = ((sz + 20 : Nat) : Int) := ⟨_, rfl⟩
  have k1 : IntKind.i64.wrap ((sz : Int) + 20) = s8 := by rw [IntWalk.i64_in _ (by omega)]; omega
  have k2 : IntKind.i64.wrap (s8 + (n : Int)) = (n3 : Int) := by rw [IntWalk.i64_in _ (by omega)]; omega
  have HNB := Lib.hid (show n3 = sz + 20 + n from by omega)
  obtain ⟨bb, off, hAB, hbb, hlies⟩ := lies_of S35.out.row (by omega)
  subst hAB
  have hnc := S35.out.nc
  obtain ⟨AX, x1, x2, x3, x4⟩ := slice_fr bb off n3 c3 (sz + 20) s8 hs8 (by omega) hnc
  have HX4 := Lib.hid (show ∀ V, Below w5.heap.size w5 V → Row V V.heap.size AX (pl.map (.int .u8)) from fun V hV => by
    have h9 := x4 V V.heap.size B (Nat.lt_of_lt_of_le hbb hV.size) (by rw [← hN]) (hlies.below hV hbb)
    rw [HDR.out] at h9
    exact h9)
  obtain ⟨TX, hTX⟩ : ∃ TX, TX = strOfNums pl := ⟨_, rfl⟩
  have HTX := Lib.hid hTX
  have x1' : ∀ W : World, (Instr.slice 22 (.slice (some ⟨bb, off, none⟩) n3 c3) (some (.int .i64 s8)) none none).run Try.prog W = .ok (.slice AX n (c3 - (sz + 20))) W := fun W => by have := x1 W; rw [show n3 - (sz + 20) = n from by omega] at this; exact this
  have x2' : ∀ W : World, (Instr.sliceAt 22 (.slice (some ⟨bb, off, none⟩) n3 c3) (some (.int .i64 s8)) none none).run Try.prog W = .ok (.slice AX n (c3 - (sz + 20))) W := fun W => by have := x2 W; rw [show n3 - (sz + 20) = n from by omega] at this; exact this
  have HPL := Lib.hid (show Sl w5 A n c pl from HSL.out.below B5.out)
  have HPN := Lib.hid (show pl.length = n from HSL.out.len)
  obtain ⟨CX, hCX⟩ : ∃ CX, CX = c3 - (sz + 20) := ⟨_, rfl⟩
  rw [← hCX] at x1' x2'
  clear hsz hz40 hbl hn5 hN hY ys hs8 hnc x1 x2 x3 x4 hTX hCX hbb hlies
  go_wp2_with fail
  refine (HP5.out _ (Below.refl _ _)).mono ?_
  rintro o w6 ⟨rfl, hb6⟩
  obtain ⟨w7, hw7⟩ : ∃ w7, w7 = (w6.alloc (.cells #[.bool false, .int .i64 0, .bool false, .int .u64 0, .int .u64 0, .bool false, .int .u64 0, .int .u64 0, .int .i64 0, .int .i64 0, .int .i64 0, .int .i64 0, .bool false, .int .i64 0, .bool false, .int .u64 0, .int .u64 0, .bool false, .int .u64 0, .int .u64 0, .int .i64 0, .int .i64 0, .int .i64 0] 58)).setRow w6.heap.size Y := ⟨_, rfl⟩
  have E7 := Lib.hid hw7
  have B67 := Lib.hid (show Below w6.heap.size w6 w7 from by rw [hw7]; exact (onlyRow _).from ((Below.refl _ _).alloc (Nat.le_refl _) _) (Nat.le_refl _))
  have B57 := Lib.hid (hb6.trans (B67.out.mono hb6.size))
  have K7 := Lib.hid (K5.out.below B57.out K5.out.lt)
  have L7 := Lib.hid (show Blk w7 w6.heap.size 58 Y from by rw [hw7]; exact blkRow (Blk.new w6 _ _) _)
  have B7 := Lib.hid (B5.out.trans (B57.out.mono B5.out.size))
  clear hw7 hb6
  go_upto_region 15 with (refine wpList_store_row rfl 58 _ _ rfl w6.heap.size Y rfl rfl 58 #[.bool false, .int .i64 0, .bool false, .int .u64 0, .int .u64 0, .bool false, .int .u64 0, .int .u64 0, .int .i64 0, .int .i64 0, .int .i64 0, .int .i64 0, .bool false, .int .i64 0, .bool false, .int .u64 0, .int .u64 0, .bool false, .int .u64 0, .int .u64 0, .int .i64 0, .int .i64 0, .int .i64 0] (Blk.new w6 _ _) HIY.out ZY.out ONE.out ?_)
  rw [← E7.out]
  have HU := Lib.hid Try.underlying58
  have HV := Lib.hid Try.underlying48
  have HIT := Lib.hid tp_size
  have HS_ := Lib.hid (show ∀ W, Below w7.heap.size w7 W → (W.rangeAt w6.heap.size 0 Y.toList ∧ W.rangeAt g 0 (#[.int .i64 pr, .bool s6, .int .u64 sh, .int .u64 sl, .bool d6, .int .u64 dh, .int .u64 dl, .int .i64 sp, .int .i64 dp] : Array Value).toList ∧ (convert 22 9 (.slice AX n CX)).run Try.prog W = .ok (.string TX) W ∧ (convert 22 9 (.slice A n c)).run Try.prog W = .ok (.string TX) W ∧ W.cell? ⟨g, 1, none⟩ = some (.bool s6)) from fun W hW => ⟨range_blk (L7.out.below hW L7.out.lt), range_blk (K7.out.below hW K7.out.lt), by rw [HTX.out]; exact sixN.conv_row (HX4.out W (B57.out.trans (hW.mono B57.out.size))) HPN.out, by rw [HTX.out]; exact sixN.conv_row (HPL.out.below (B57.out.trans (hW.mono B57.out.size))).row HPN.out, (K7.out.below hW K7.out.lt).cell 1⟩)
  have D0 := Lib.hid ((Below.refl w7.heap.size w7).drew)
  have s0 := HS_.out w7.drew D0.out
  refine wp_region_held_drew (S := fun V => V.rangeAt w6.heap.size 0 Y.toList ∧ V.rangeAt g 0 (#[.int .i64 pr, .bool s6, .int .u64 sh, .int .u64 sl, .bool d6, .int .u64 dh, .int .u64 dl, .int .i64 sp, .int .i64 dp] : Array Value).toList ∧ (convert 22 9 (.slice AX n CX)).run Try.prog V = .ok (.string TX) V ∧ (convert 22 9 (.slice A n c)).run Try.prog V = .ok (.string TX) V ∧ V.cell? ⟨g, 1, none⟩ = some (.bool s6)) (by kernel_rfl) s0 (fun hHeld => ?_)
  refine wpAnyH_take (i := 0) (v := .slice (some ⟨bb, off, none⟩) n3 c3) rfl (by kernel_rfl) (by kernel_rfl) (by kernel_rfl) (fun _ _ _ h => h) (Or.inl ⟨by rfl, ?_⟩) (by assumption) ?_
  · intro V hV
    obtain ⟨_, _, v1, v2, v3⟩ := hV
    go_simp
  try simp only [List.getElem_toArray, List.getElem_cons_zero, Act.put, List.setIfInBounds_toArray, List.set_cons_zero, List.set_cons_succ]
  refine wpAnyH_take (i := 1) (v := .int .i64 n3) rfl (by kernel_rfl) (by kernel_rfl) (by kernel_rfl) (fun _ _ _ h => h) (Or.inl ⟨by rfl, ?_⟩) (by assumption) ?_
  · intro V hV
    obtain ⟨_, _, v1, v2, v3⟩ := hV
    go_simp
  try simp only [List.getElem_toArray, List.getElem_cons_zero, List.getElem_cons_succ, Act.put, List.setIfInBounds_toArray, List.set_cons_zero, List.set_cons_succ]
  refine wpAnyH_take (i := 2) (v := .int .i64 sz) rfl (by kernel_rfl) (by kernel_rfl) (by kernel_rfl) (fun _ _ _ h => h) (Or.inl ⟨by rfl, ?_⟩) (by assumption) ?_
  · intro V hV
    obtain ⟨_, _, v1, v2, v3⟩ := hV
    go_simp
  try simp only [List.getElem_toArray, List.getElem_cons_zero, List.getElem_cons_succ, Act.put, List.setIfInBounds_toArray, List.set_cons_zero, List.set_cons_succ]
  refine wpAnyH_take (i := 3) (v := .int .i64 s8) rfl (by kernel_rfl) (by kernel_rfl) (by kernel_rfl) (fun _ _ _ h => h) (Or.inl ⟨by rfl, ?_⟩) (by assumption) ?_
  · intro V hV
    obtain ⟨_, _, v1, v2, v3⟩ := hV
    go_simp
  try simp only [List.getElem_toArray, List.getElem_cons_zero, List.getElem_cons_succ, Act.put, List.setIfInBounds_toArray, List.set_cons_zero, List.set_cons_succ]
  refine wpAnyH_take (i := 4) (v := .slice A n c) rfl (by kernel_rfl) (by kernel_rfl) (by kernel_rfl) (fun _ _ _ h => h) (Or.inl ⟨by rfl, ?_⟩) (by assumption) ?_
  · intro V hV
    obtain ⟨_, _, v1, v2, v3⟩ := hV
    go_simp
  try simp only [List.getElem_toArray, List.getElem_cons_zero, List.getElem_cons_succ, Act.put, List.setIfInBounds_toArray, List.set_cons_zero, List.set_cons_succ]
  refine wpAnyH_take (i := 5) (v := .int .i64 n) rfl (by kernel_rfl) (by kernel_rfl) (by kernel_rfl) (fun _ _ _ h => h) (Or.inl ⟨by rfl, ?_⟩) (by assumption) ?_
  · intro V hV
    obtain ⟨_, _, v1, v2, v3⟩ := hV
    go_simp
  try simp only [List.getElem_toArray, List.getElem_cons_zero, List.getElem_cons_succ, Act.put, List.setIfInBounds_toArray, List.set_cons_zero, List.set_cons_succ]
  refine wpAnyH_take (i := 6) (v := .int .i64 n3) rfl (by kernel_rfl) (by kernel_rfl) (by kernel_rfl) (fun _ _ _ h => h) (Or.inl ⟨by rfl, ?_⟩) (by assumption) ?_
  · intro V hV
    obtain ⟨_, _, v1, v2, v3⟩ := hV
    go_simp
  try simp only [List.getElem_toArray, List.getElem_cons_zero, List.getElem_cons_succ, Act.put, List.setIfInBounds_toArray, List.set_cons_zero, List.set_cons_succ]
  refine wpAnyH_take (i := 7) (v := .bool false) rfl (by kernel_rfl) (by kernel_rfl) (by kernel_rfl) (fun _ _ _ h => h) (Or.inl ⟨by rfl, ?_⟩) (by assumption) ?_
  · intro V hV
    obtain ⟨_, _, v1, v2, v3⟩ := hV
    go_simp
  try simp only [List.getElem_toArray, List.getElem_cons_zero, List.getElem_cons_succ, Act.put, List.setIfInBounds_toArray, List.set_cons_zero, List.set_cons_succ]
  refine wpAnyH_take (i := 8) (v := .bool false) rfl (by kernel_rfl) (by kernel_rfl) (by kernel_rfl) (fun _ _ _ h => h) (Or.inl ⟨by rfl, ?_⟩) (by assumption) ?_
  · intro V hV
    obtain ⟨_, _, v1, v2, v3⟩ := hV
    go_simp
  try simp only [List.getElem_toArray, List.getElem_cons_zero, List.getElem_cons_succ, Act.put, List.setIfInBounds_toArray, List.set_cons_zero, List.set_cons_succ]
  refine wpAnyH_take (i := 9) (v := .int .i64 0) rfl (by kernel_rfl) (by kernel_rfl) (by kernel_rfl) (fun _ _ _ h => h) (Or.inl ⟨by rfl, ?_⟩) (by assumption) ?_
  · intro V hV
    obtain ⟨_, _, v1, v2, v3⟩ := hV
    go_simp
  try simp only [List.getElem_toArray, List.getElem_cons_zero, List.getElem_cons_succ, Act.put, List.setIfInBounds_toArray, List.set_cons_zero, List.set_cons_succ]
  refine wpAnyH_take (i := 10) (v := .bool false) rfl (by kernel_rfl) (by kernel_rfl) (by kernel_rfl) (fun _ _ _ h => h) (Or.inl ⟨by rfl, ?_⟩) (by assumption) ?_
  · intro V hV
    obtain ⟨_, _, v1, v2, v3⟩ := hV
    go_simp
  try simp only [List.getElem_toArray, List.getElem_cons_zero, List.getElem_cons_succ, Act.put, List.setIfInBounds_toArray, List.set_cons_zero, List.set_cons_succ]
  refine wpAnyH_take (i := 11) (v := .bool false) rfl (by kernel_rfl) (by kernel_rfl) (by kernel_rfl) (fun _ _ _ h => h) (Or.inl ⟨by rfl, ?_⟩) (by assumption) ?_
  · intro V hV
    obtain ⟨_, _, v1, v2, v3⟩ := hV
    go_simp
  try simp only [List.getElem_toArray, List.getElem_cons_zero, List.getElem_cons_succ, Act.put, List.setIfInBounds_toArray, List.set_cons_zero, List.set_cons_succ]
  refine wpAnyH_take (i := 12) (v := .bool false) rfl (by kernel_rfl) (by kernel_rfl) (by kernel_rfl) (fun _ _ _ h => h) (Or.inl ⟨by rfl, ?_⟩) (by assumption) ?_
  · intro V hV
    obtain ⟨_, _, v1, v2, v3⟩ := hV
    go_simp
  try simp only [List.getElem_toArray, List.getElem_cons_zero, List.getElem_cons_succ, Act.put, List.setIfInBounds_toArray, List.set_cons_zero, List.set_cons_succ]
  refine wpAnyH_take (i := 13) (v := .agg Y) rfl (by kernel_rfl) (by kernel_rfl) (by kernel_rfl) (fun _ _ _ h => h) (yield_row (by rfl) _ _ rfl w6.heap.size rfl Y _ (fun _ h => h.1) HU.out rfl HIY.out) (by assumption) ?_
  try simp only [List.getElem_toArray, List.getElem_cons_zero, List.getElem_cons_succ, Act.put, List.setIfInBounds_toArray, List.set_cons_zero, List.set_cons_succ]
  refine wpAnyH_take (i := 14) (v := .pointer (some ⟨g, 1, none⟩)) rfl (by kernel_rfl) (by kernel_rfl) (by kernel_rfl) (fun _ _ _ h => h) (Or.inl ⟨by rfl, ?_⟩) (by assumption) ?_
  · intro V hV
    obtain ⟨_, _, v1, v2, v3⟩ := hV
    go_simp
  try simp only [List.getElem_toArray, List.getElem_cons_zero, List.getElem_cons_succ, Act.put, List.setIfInBounds_toArray, List.set_cons_zero, List.set_cons_succ]
  refine wpAnyH_take (i := 15) (v := .pointer (some ⟨g, 1, none⟩)) rfl (by kernel_rfl) (by kernel_rfl) (by kernel_rfl) (fun _ _ _ h => h) (Or.inl ⟨by rfl, ?_⟩) (by assumption) ?_
  · intro V hV
    obtain ⟨_, _, v1, v2, v3⟩ := hV
    go_simp
  try simp only [List.getElem_toArray, List.getElem_cons_zero, List.getElem_cons_succ, Act.put, List.setIfInBounds_toArray, List.set_cons_zero, List.set_cons_succ]
  refine wpAnyH_take (i := 16) (v := .bool s6) rfl (by kernel_rfl) (by kernel_rfl) (by kernel_rfl) (fun _ _ _ h => h) (Or.inl ⟨by rfl, ?_⟩) (by assumption) ?_
  · intro V hV
    obtain ⟨_, _, v1, v2, v3⟩ := hV
    go_simp
  try simp only [List.getElem_toArray, List.getElem_cons_zero, List.getElem_cons_succ, Act.put, List.setIfInBounds_toArray, List.set_cons_zero, List.set_cons_succ]
  refine wpAnyH_take (i := 17) (v := .agg #[.int .i64 pr, .bool s6, .int .u64 sh, .int .u64 sl, .bool d6, .int .u64 dh, .int .u64 dl, .int .i64 sp, .int .i64 dp]) rfl (by kernel_rfl) (by kernel_rfl) (by kernel_rfl) (fun _ _ _ h => h) (yield_row (by rfl) _ _ rfl g rfl #[.int .i64 pr, .bool s6, .int .u64 sh, .int .u64 sl, .bool d6, .int .u64 dh, .int .u64 dl, .int .i64 sp, .int .i64 dp] _ (fun _ h => h.2.1) HV.out rfl HIT.out) (by assumption) ?_
  try simp only [List.getElem_toArray, List.getElem_cons_zero, List.getElem_cons_succ, Act.put, List.setIfInBounds_toArray, List.set_cons_zero, List.set_cons_succ]
  refine wpAnyH_take (i := 18) (v := .int .i64 ttl) rfl (by kernel_rfl) (by kernel_rfl) (by kernel_rfl) (fun _ _ _ h => h) (Or.inl ⟨by rfl, ?_⟩) (by assumption) ?_
  · intro V hV
    obtain ⟨_, _, v1, v2, v3⟩ := hV
    go_simp
  try simp only [List.getElem_toArray, List.getElem_cons_zero, List.getElem_cons_succ, Act.put, List.setIfInBounds_toArray, List.set_cons_zero, List.set_cons_succ]
  refine wpAnyH_take (i := 19) (v := .int .i64 fl) rfl (by kernel_rfl) (by kernel_rfl) (by kernel_rfl) (fun _ _ _ h => h) (Or.inl ⟨by rfl, ?_⟩) (by assumption) ?_
  · intro V hV
    obtain ⟨_, _, v1, v2, v3⟩ := hV
    go_simp
  try simp only [List.getElem_toArray, List.getElem_cons_zero, List.getElem_cons_succ, Act.put, List.setIfInBounds_toArray, List.set_cons_zero, List.set_cons_succ]
  refine wpAnyH_take (i := 20) (v := .slice (some ⟨bb, off, none⟩) n3 c3) rfl (by kernel_rfl) (by kernel_rfl) (by kernel_rfl) (fun _ _ _ h => h) (Or.inl ⟨by rfl, ?_⟩) (by assumption) ?_
  · intro V hV
    obtain ⟨_, _, v1, v2, v3⟩ := hV
    go_simp
  try simp only [List.getElem_toArray, List.getElem_cons_zero, List.getElem_cons_succ, Act.put, List.setIfInBounds_toArray, List.set_cons_zero, List.set_cons_succ]
  refine wpAnyH_take (i := 21) (v := .int .i64 n3) rfl (by kernel_rfl) (by kernel_rfl) (by kernel_rfl) (fun _ _ _ h => h) (Or.inl ⟨by rfl, ?_⟩) (by assumption) ?_
  · intro V hV
    obtain ⟨_, _, v1, v2, v3⟩ := hV
    go_simp
  try simp only [List.getElem_toArray, List.getElem_cons_zero, List.getElem_cons_succ, Act.put, List.setIfInBounds_toArray, List.set_cons_zero, List.set_cons_succ]
  refine wpAnyH_take (i := 22) (v := .agg Y) rfl (by kernel_rfl) (by kernel_rfl) (by kernel_rfl) (fun _ _ _ h => h) (Or.inl ⟨by rfl, ?_⟩) (by assumption) ?_
  · intro V hV
    obtain ⟨_, _, v1, v2, v3⟩ := hV
    rw [HY.out]
    go_simp
  try simp only [List.getElem_toArray, List.getElem_cons_zero, List.getElem_cons_succ, Act.put, List.setIfInBounds_toArray, List.set_cons_zero, List.set_cons_succ]
  refine wpAnyH_take (i := 23) (v := .bool false) rfl (by kernel_rfl) (by kernel_rfl) (by kernel_rfl) (fun _ _ _ h => h) (Or.inl ⟨by rfl, ?_⟩) (by assumption) ?_
  · intro V hV
    obtain ⟨_, _, v1, v2, v3⟩ := hV
    rw [HY.out]
    go_simp
  try simp only [List.getElem_toArray, List.getElem_cons_zero, List.getElem_cons_succ, Act.put, List.setIfInBounds_toArray, List.set_cons_zero, List.set_cons_succ]
  refine wpAnyH_take (i := 24) (v := .bool false) rfl (by kernel_rfl) (by kernel_rfl) (by kernel_rfl) (fun _ _ _ h => h) (Or.inl ⟨by rfl, ?_⟩) (by assumption) ?_
  · intro V hV
    obtain ⟨_, _, v1, v2, v3⟩ := hV
    go_simp
  try simp only [List.getElem_toArray, List.getElem_cons_zero, List.getElem_cons_succ, Act.put, List.setIfInBounds_toArray, List.set_cons_zero, List.set_cons_succ]
  refine wpAnyH_take (i := 25) (v := .bool false) rfl (by kernel_rfl) (by kernel_rfl) (by kernel_rfl) (fun _ _ _ h => h) (Or.inl ⟨by rfl, ?_⟩) (by assumption) ?_
  · intro V hV
    obtain ⟨_, _, v1, v2, v3⟩ := hV
    go_simp
  try simp only [List.getElem_toArray, List.getElem_cons_zero, List.getElem_cons_succ, Act.put, List.setIfInBounds_toArray, List.set_cons_zero, List.set_cons_succ]
  refine wpAnyH_take (i := 26) (v := .slice (some ⟨bb, off, none⟩) n3 c3) rfl (by kernel_rfl) (by kernel_rfl) (by kernel_rfl) (fun _ _ _ h => h) (Or.inl ⟨by rfl, ?_⟩) (by assumption) ?_
  · intro V hV
    obtain ⟨_, _, v1, v2, v3⟩ := hV
    go_simp
  try simp only [List.getElem_toArray, List.getElem_cons_zero, List.getElem_cons_succ, Act.put, List.setIfInBounds_toArray, List.set_cons_zero, List.set_cons_succ]
  refine wpAnyH_take (i := 27) (v := .int .i64 sz) rfl (by kernel_rfl) (by kernel_rfl) (by kernel_rfl) (fun _ _ _ h => h) (Or.inl ⟨by rfl, ?_⟩) (by assumption) ?_
  · intro V hV
    obtain ⟨_, _, v1, v2, v3⟩ := hV
    go_simp
  try simp only [List.getElem_toArray, List.getElem_cons_zero, List.getElem_cons_succ, Act.put, List.setIfInBounds_toArray, List.set_cons_zero, List.set_cons_succ]
  refine wpAnyH_take (i := 28) (v := .int .i64 s8) rfl (by kernel_rfl) (by kernel_rfl) (by kernel_rfl) (fun _ _ _ h => h) (Or.inl ⟨by rfl, ?_⟩) (by assumption) ?_
  · intro V hV
    obtain ⟨_, _, v1, v2, v3⟩ := hV
    go_simp
  try simp only [List.getElem_toArray, List.getElem_cons_zero, List.getElem_cons_succ, Act.put, List.setIfInBounds_toArray, List.set_cons_zero, List.set_cons_succ]
  refine wpAnyH_take (i := 29) (v := .slice AX n CX) rfl (by kernel_rfl) (by kernel_rfl) (by kernel_rfl) (fun _ _ _ h => h) (Or.inl ⟨by rfl, ?_⟩) (by assumption) ?_
  · intro V hV
    obtain ⟨_, _, v1, v2, v3⟩ := hV
    go_simp
  try simp only [List.getElem_toArray, List.getElem_cons_zero, List.getElem_cons_succ, Act.put, List.setIfInBounds_toArray, List.set_cons_zero, List.set_cons_succ]
  refine wpAnyH_take (i := 30) (v := .string TX) rfl (by kernel_rfl) (by kernel_rfl) (by kernel_rfl) (fun _ _ _ h => h) (Or.inl ⟨by rfl, ?_⟩) (by assumption) ?_
  · intro V hV
    obtain ⟨_, _, v1, v2, v3⟩ := hV
    go_simp
  try simp only [List.getElem_toArray, List.getElem_cons_zero, List.getElem_cons_succ, Act.put, List.setIfInBounds_toArray, List.set_cons_zero, List.set_cons_succ]
  refine wpAnyH_take (i := 31) (v := .slice A n c) rfl (by kernel_rfl) (by kernel_rfl) (by kernel_rfl) (fun _ _ _ h => h) (Or.inl ⟨by rfl, ?_⟩) (by assumption) ?_
  · intro V hV
    obtain ⟨_, _, v1, v2, v3⟩ := hV
    go_simp
  try simp only [List.getElem_toArray, List.getElem_cons_zero, List.getElem_cons_succ, Act.put, List.setIfInBounds_toArray, List.set_cons_zero, List.set_cons_succ]
  refine wpAnyH_take (i := 32) (v := .string TX) rfl (by kernel_rfl) (by kernel_rfl) (by kernel_rfl) (fun _ _ _ h => h) (Or.inl ⟨by rfl, ?_⟩) (by assumption) ?_
  · intro V hV
    obtain ⟨_, _, v1, v2, v3⟩ := hV
    go_simp
  try simp only [List.getElem_toArray, List.getElem_cons_zero, List.getElem_cons_succ, Act.put, List.setIfInBounds_toArray, List.set_cons_zero, List.set_cons_succ]
  refine wpAnyH_take (i := 33) (v := .bool false) rfl (by kernel_rfl) (by kernel_rfl) (by kernel_rfl) (fun _ _ _ h => h) (Or.inl ⟨by rfl, ?_⟩) (by assumption) ?_
  · intro V hV
    obtain ⟨_, _, v1, v2, v3⟩ := hV
    go_simp
  try simp only [List.getElem_toArray, List.getElem_cons_zero, List.getElem_cons_succ, Act.put, List.setIfInBounds_toArray, List.set_cons_zero, List.set_cons_succ]
  refine wpAnyH_take (i := 34) (v := .bool false) rfl (by kernel_rfl) (by kernel_rfl) (by kernel_rfl) (fun _ _ _ h => h) (Or.inl ⟨by rfl, ?_⟩) (by assumption) ?_
  · intro V hV
    obtain ⟨_, _, v1, v2, v3⟩ := hV
    go_simp
  try simp only [List.getElem_toArray, List.getElem_cons_zero, List.getElem_cons_succ, Act.put, List.setIfInBounds_toArray, List.set_cons_zero, List.set_cons_succ]
  refine wpAnyH_done (by kernel_rfl) ?_ _
  go_wp2_with fail
  refine (HAW.out _).mono ?_
  rintro o w8 ⟨rfl, hb8⟩
  have B8 := Lib.hid (B7.out.trans ((D0.out.trans (hb8.mono D0.out.size)).mono B7.out.size))
  clear hb8
  go_wp2_with fail
  go_ret
  exact ⟨rfl, B8.out⟩
end Go.Proofs.Ytndekicblbpkjaa.pktU
