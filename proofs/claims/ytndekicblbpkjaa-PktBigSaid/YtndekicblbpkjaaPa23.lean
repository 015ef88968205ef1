/- 1 texts in one. -/
import Derived.Test.YtndekicblbpkjaaPa17
import Derived.Test.YtndekicblbpkjaaPa21
/- Layer 13: the law's parse, way by way. -/
namespace Go.Proofs.Ytndekicblbpkjaa.pktH
open Go.ChangeShapes Go.WideShapes Go.ChangeAt Go.RowKit
open Go.Proofs.Ytndekicblbpkjaa.base Go.Proofs.Ytndekicblbpkjaa.octA Go.Proofs.Ytndekicblbpkjaa.octB Go.Proofs.Ytndekicblbpkjaa.octC Go.Proofs.Ytndekicblbpkjaa.octF Go.Proofs.Ytndekicblbpkjaa.octK Go.Proofs.Ytndekicblbpkjaa.net Go.Proofs.Ytndekicblbpkjaa.rdrA Go.Proofs.Ytndekicblbpkjaa.rdrG Go.Proofs.Ytndekicblbpkjaa.sumA Go.Proofs.Ytndekicblbpkjaa.sumB Go.Proofs.Ytndekicblbpkjaa.sixW Go.Proofs.Ytndekicblbpkjaa.sixM Go.Proofs.Ytndekicblbpkjaa.pktA Go.Proofs.Ytndekicblbpkjaa.pktB Go.Proofs.Ytndekicblbpkjaa.pktC Go.Proofs.Ytndekicblbpkjaa.pktD Go.Proofs.Ytndekicblbpkjaa.icmpI
set_option linter.unusedVariables false

set_option maxHeartbeats 8000000 in
set_option maxRecDepth 100000 in
theorem lp_fail_no (pr : Int) (v6 : Bool) (e : Int) (he : e ≠ 0) (s6 : Bool) (sh sl : Int) (d6 : Bool) (dh dl ttl sz : Int) (A : Option Addr) (n c m : Nat) (r ps : List Int) (w : World)
    (HO : Hid (∀ V, Below w.heap.size w V → Calls Try.prog 58 #[.slice A n c] V fun o w' => Below V.heap.size V w' ∧ ∃ (AR : Option Addr) (cr : Nat) (AP : Option Addr) (np cp : Nat), o = .returned (.tuple #[.agg #[.bool v6, .int .i64 pr, .bool s6, .int .u64 sh, .int .u64 sl, .bool d6, .int .u64 dh, .int .u64 dl, .int .i64 0, .int .i64 0, .int .i64 ttl, .int .i64 0, .bool false, .int .i64 0, .bool false, .int .u64 0, .int .u64 0, .bool false, .int .u64 0, .int .u64 0, .int .i64 0, .int .i64 0, .int .i64 sz], .slice AR m cr, .slice AP np cp, .int .i64 e]) ∧ Sl w' AR m cr r ∧ Sl w' AP np cp ps)) :
    Calls Try.prog 29 #[.slice A n c] w fun o w' => o = .returned (.tuple #[.agg #[.bool false, .int .i64 0, .bool false, .int .u64 0, .int .u64 0, .bool false, .int .u64 0, .int .u64 0, .int .i64 0, .int .i64 0, .int .i64 0, .int .i64 0, .bool false, .int .i64 0, .bool false, .int .u64 0, .int .u64 0, .bool false, .int .u64 0, .int .u64 0, .int .i64 0, .int .i64 0, .int .i64 0], .int .i64 e]) ∧ Below w.heap.size w w' := by
  have te : (e != 0) = true := by simpa using he
  have te2 : (e == 0) = false := by simpa using he
  clear he
  obtain ⟨Z, hZ⟩ : ∃ Z : Array Value, Z = #[.bool false, .int .i64 0, .bool false, .int .u64 0, .int .u64 0, .bool false, .int .u64 0, .int .u64 0, .int .i64 0, .int .i64 0, .int .i64 0, .int .i64 0, .bool false, .int .i64 0, .bool false, .int .u64 0, .int .u64 0, .bool false, .int .u64 0, .int .u64 0, .int .i64 0, .int .i64 0, .int .i64 0] := ⟨_, rfl⟩
  have hz : ∀ w : World, (zeroValue 58).run Try.prog w = .ok (.agg Z) w := by rw [hZ]; exact (zero_of_info pktF.zeroPkI).1
  have zs : Z.size = 23 := by rw [hZ]; rfl
  have zs2 : ¬ Z = #[] := by intro h; rw [h] at zs; cases zs
  have ZS := Lib.hid zs
  have HZ := Lib.hid hZ
  have ZO := Lib.hid (show Z.all (·.oneCell') = true from by rw [hZ]; kernel_rfl)
  clear hZ
  obtain ⟨w1, hw1⟩ : ∃ w1, w1 = w.alloc (.cells Z 58) := ⟨_, rfl⟩
  have E1 := Lib.hid hw1
  have B1 := Lib.hid (show Below w.heap.size w w1 from by rw [hw1]; exact (Below.refl _ _).alloc (Nat.le_refl _) _)
  obtain ⟨q, hq⟩ : ∃ q, q = w.heap.size := ⟨_, rfl⟩
  have EQ := Lib.hid hq
  have KQ1 := Lib.hid (show Blk w1 q 58 Z from by rw [hw1, hq]; exact Blk.new w _ _)
  have HI := Lib.hid pk_size
  have HIZ := Lib.hid (show (Try.prog.info? 58).map (·.size) = some Z.size from by rw [zs]; exact pk_size)
  clear hw1 hq
  go_enter Try.func29, Try.ntmps29
  go_upto_region 1 with fail
  rw [← E1.out, ← EQ.out]
  go_wp2_with fail
  refine (HO.out _ B1.out).mono ?_
  rintro o w2 ⟨hb2, AR, cr, AP, np, cp, rfl, hr, hp⟩
  obtain ⟨g, hg⟩ : ∃ g, g = w2.heap.size := ⟨_, rfl⟩
  have EG := Lib.hid hg
  have KN := Lib.hid (show Blk (w2.alloc (.cells Z 58)) w2.heap.size 58 Z from Blk.new w2 _ _)
  have KR := Lib.hid (show Blk ((w2.alloc (.cells Z 58)).setRow w2.heap.size #[.bool v6, .int .i64 pr, .bool s6, .int .u64 sh, .int .u64 sl, .bool d6, .int .u64 dh, .int .u64 dl, .int .i64 0, .int .i64 0, .int .i64 ttl, .int .i64 0, .bool false, .int .i64 0, .bool false, .int .u64 0, .int .u64 0, .bool false, .int .u64 0, .int .u64 0, .int .i64 0, .int .i64 0, .int .i64 sz]) w2.heap.size 58 #[.bool v6, .int .i64 pr, .bool s6, .int .u64 sh, .int .u64 sl, .bool d6, .int .u64 dh, .int .u64 dl, .int .i64 0, .int .i64 0, .int .i64 ttl, .int .i64 0, .bool false, .int .i64 0, .bool false, .int .u64 0, .int .u64 0, .bool false, .int .u64 0, .int .u64 0, .int .i64 0, .int .i64 0, .int .i64 sz] from blkRow KN.out _)
  have BR := Lib.hid (show Below w2.heap.size w2 ((w2.alloc (.cells Z 58)).setRow w2.heap.size #[.bool v6, .int .i64 pr, .bool s6, .int .u64 sh, .int .u64 sl, .bool d6, .int .u64 dh, .int .u64 dl, .int .i64 0, .int .i64 0, .int .i64 ttl, .int .i64 0, .bool false, .int .i64 0, .bool false, .int .u64 0, .int .u64 0, .bool false, .int .u64 0, .int .u64 0, .int .i64 0, .int .i64 0, .int .i64 sz]) from (onlyRow _).from ((Below.refl _ _).alloc (Nat.le_refl _) _) (Nat.le_refl _))
  obtain ⟨w3, hw3⟩ : ∃ w3, w3 = (w2.alloc (.cells Z 58)).setRow w2.heap.size #[.bool v6, .int .i64 pr, .bool s6, .int .u64 sh, .int .u64 sl, .bool d6, .int .u64 dh, .int .u64 dl, .int .i64 0, .int .i64 0, .int .i64 ttl, .int .i64 0, .bool false, .int .i64 0, .bool false, .int .u64 0, .int .u64 0, .bool false, .int .u64 0, .int .u64 0, .int .i64 0, .int .i64 0, .int .i64 sz] := ⟨_, rfl⟩
  have E3 := Lib.hid hw3
  have B23 := Lib.hid (show Below w2.heap.size w2 w3 from by rw [hw3]; exact BR.out)
  have B13 := Lib.hid (hb2.trans (B23.out.mono hb2.size))
  have KP3 := Lib.hid (show Blk w3 g 58 #[.bool v6, .int .i64 pr, .bool s6, .int .u64 sh, .int .u64 sl, .bool d6, .int .u64 dh, .int .u64 dl, .int .i64 0, .int .i64 0, .int .i64 ttl, .int .i64 0, .bool false, .int .i64 0, .bool false, .int .u64 0, .int .u64 0, .bool false, .int .u64 0, .int .u64 0, .int .i64 0, .int .i64 0, .int .i64 sz] from by rw [hw3, hg]; exact KR.out)
  have KQ3 := Lib.hid (KQ1.out.below B13.out KQ1.out.lt)
  have B3 := Lib.hid (B1.out.trans (B13.out.mono B1.out.size))
  have HR3 := Lib.hid (hr.below B23.out)
  have HP3 := Lib.hid (hp.below B23.out)
  have NE := Lib.hid (show g ≠ q from by have := KQ1.out.lt; have := hb2.size; omega)
  have GW := Lib.hid (show w.heap.size ≤ g from by have := B1.out.size; have := hb2.size; omega)
  clear hw3 hb2 hr hp hg
  go_upto_region 2 with (refine wpList_store_row rfl 58 _ _ rfl w2.heap.size #[.bool v6, .int .i64 pr, .bool s6, .int .u64 sh, .int .u64 sl, .bool d6, .int .u64 dh, .int .u64 dl, .int .i64 0, .int .i64 0, .int .i64 ttl, .int .i64 0, .bool false, .int .i64 0, .bool false, .int .u64 0, .int .u64 0, .bool false, .int .u64 0, .int .u64 0, .int .i64 0, .int .i64 0, .int .i64 sz] rfl rfl 58 Z KN.out HI.out ZS.out (by kernel_rfl) ?_)
  rw [← E3.out, ← EG.out]
  go_wp2_with (refine wpList_store_row rfl 58 _ _ rfl q Z rfl rfl 58 Z KQ3.out HIZ.out rfl ZO.out ?_)
  refine bodyPost_ret (results_pk rfl _ _ q Z rfl (blkRow KQ3.out _) ZS.out) rfl ?_
  exact ⟨by rw [HZ.out]; rfl, (onlyRow _).from B3.out (by have := EQ.out; omega)⟩
set_option maxHeartbeats 8000000 in
set_option maxRecDepth 100000 in
theorem lp_none_no (pr : Int) (v6 : Bool) (h6 : pr ≠ 6) (h17 : pr ≠ 17) (h1 : ¬ (pr = 1 ∧ v6 = false)) (h58 : ¬ (pr = 58 ∧ v6 = true)) (s6 : Bool) (sh sl : Int) (d6 : Bool) (dh dl ttl sz : Int) (A : Option Addr) (n c m : Nat) (r ps : List Int) (w : World)
    (HO : Hid (∀ V, Below w.heap.size w V → Calls Try.prog 58 #[.slice A n c] V fun o w' => Below V.heap.size V w' ∧ ∃ (AR : Option Addr) (cr : Nat) (AP : Option Addr) (np cp : Nat), o = .returned (.tuple #[.agg #[.bool v6, .int .i64 pr, .bool s6, .int .u64 sh, .int .u64 sl, .bool d6, .int .u64 dh, .int .u64 dl, .int .i64 0, .int .i64 0, .int .i64 ttl, .int .i64 0, .bool false, .int .i64 0, .bool false, .int .u64 0, .int .u64 0, .bool false, .int .u64 0, .int .u64 0, .int .i64 0, .int .i64 0, .int .i64 sz], .slice AR m cr, .slice AP np cp, .int .i64 0]) ∧ Sl w' AR m cr r ∧ Sl w' AP np cp ps)) :
    Calls Try.prog 29 #[.slice A n c] w fun o w' => o = .returned (.tuple #[.agg #[.bool false, .int .i64 0, .bool false, .int .u64 0, .int .u64 0, .bool false, .int .u64 0, .int .u64 0, .int .i64 0, .int .i64 0, .int .i64 0, .int .i64 0, .bool false, .int .i64 0, .bool false, .int .u64 0, .int .u64 0, .bool false, .int .u64 0, .int .u64 0, .int .i64 0, .int .i64 0, .int .i64 0], .int .i64 14]) ∧ Below w.heap.size w w' := by
  have t6 : (pr == 6) = false := by simpa using h6
  have t17 : (pr == 17) = false := by simpa using h17
  have H1 := Lib.hid h1
  have H58 := Lib.hid h58
  clear h6 h17 h1 h58
  obtain ⟨Z, hZ⟩ : ∃ Z : Array Value, Z = #[.bool false, .int .i64 0, .bool false, .int .u64 0, .int .u64 0, .bool false, .int .u64 0, .int .u64 0, .int .i64 0, .int .i64 0, .int .i64 0, .int .i64 0, .bool false, .int .i64 0, .bool false, .int .u64 0, .int .u64 0, .bool false, .int .u64 0, .int .u64 0, .int .i64 0, .int .i64 0, .int .i64 0] := ⟨_, rfl⟩
  have hz : ∀ w : World, (zeroValue 58).run Try.prog w = .ok (.agg Z) w := by rw [hZ]; exact (zero_of_info pktF.zeroPkI).1
  have zs : Z.size = 23 := by rw [hZ]; rfl
  have zs2 : ¬ Z = #[] := by intro h; rw [h] at zs; cases zs
  have ZS := Lib.hid zs
  have HZ := Lib.hid hZ
  have ZO := Lib.hid (show Z.all (·.oneCell') = true from by rw [hZ]; kernel_rfl)
  clear hZ
  obtain ⟨w1, hw1⟩ : ∃ w1, w1 = w.alloc (.cells Z 58) := ⟨_, rfl⟩
  have E1 := Lib.hid hw1
  have B1 := Lib.hid (show Below w.heap.size w w1 from by rw [hw1]; exact (Below.refl _ _).alloc (Nat.le_refl _) _)
  obtain ⟨q, hq⟩ : ∃ q, q = w.heap.size := ⟨_, rfl⟩
  have EQ := Lib.hid hq
  have KQ1 := Lib.hid (show Blk w1 q 58 Z from by rw [hw1, hq]; exact Blk.new w _ _)
  have HI := Lib.hid pk_size
  have HIZ := Lib.hid (show (Try.prog.info? 58).map (·.size) = some Z.size from by rw [zs]; exact pk_size)
  clear hw1 hq
  go_enter Try.func29, Try.ntmps29
  go_upto_region 1 with fail
  rw [← E1.out, ← EQ.out]
  go_wp2_with fail
  refine (HO.out _ B1.out).mono ?_
  rintro o w2 ⟨hb2, AR, cr, AP, np, cp, rfl, hr, hp⟩
  obtain ⟨g, hg⟩ : ∃ g, g = w2.heap.size := ⟨_, rfl⟩
  have EG := Lib.hid hg
  have KN := Lib.hid (show Blk (w2.alloc (.cells Z 58)) w2.heap.size 58 Z from Blk.new w2 _ _)
  have KR := Lib.hid (show Blk ((w2.alloc (.cells Z 58)).setRow w2.heap.size #[.bool v6, .int .i64 pr, .bool s6, .int .u64 sh, .int .u64 sl, .bool d6, .int .u64 dh, .int .u64 dl, .int .i64 0, .int .i64 0, .int .i64 ttl, .int .i64 0, .bool false, .int .i64 0, .bool false, .int .u64 0, .int .u64 0, .bool false, .int .u64 0, .int .u64 0, .int .i64 0, .int .i64 0, .int .i64 sz]) w2.heap.size 58 #[.bool v6, .int .i64 pr, .bool s6, .int .u64 sh, .int .u64 sl, .bool d6, .int .u64 dh, .int .u64 dl, .int .i64 0, .int .i64 0, .int .i64 ttl, .int .i64 0, .bool false, .int .i64 0, .bool false, .int .u64 0, .int .u64 0, .bool false, .int .u64 0, .int .u64 0, .int .i64 0, .int .i64 0, .int .i64 sz] from blkRow KN.out _)
  have BR := Lib.hid (show Below w2.heap.size w2 ((w2.alloc (.cells Z 58)).setRow w2.heap.size #[.bool v6, .int .i64 pr, .bool s6, .int .u64 sh, .int .u64 sl, .bool d6, .int .u64 dh, .int .u64 dl, .int .i64 0, .int .i64 0, .int .i64 ttl, .int .i64 0, .bool false, .int .i64 0, .bool false, .int .u64 0, .int .u64 0, .bool false, .int .u64 0, .int .u64 0, .int .i64 0, .int .i64 0, .int .i64 sz]) from (onlyRow _).from ((Below.refl _ _).alloc (Nat.le_refl _) _) (Nat.le_refl _))
  obtain ⟨w3, hw3⟩ : ∃ w3, w3 = (w2.alloc (.cells Z 58)).setRow w2.heap.size #[.bool v6, .int .i64 pr, .bool s6, .int .u64 sh, .int .u64 sl, .bool d6, .int .u64 dh, .int .u64 dl, .int .i64 0, .int .i64 0, .int .i64 ttl, .int .i64 0, .bool false, .int .i64 0, .bool false, .int .u64 0, .int .u64 0, .bool false, .int .u64 0, .int .u64 0, .int .i64 0, .int .i64 0, .int .i64 sz] := ⟨_, rfl⟩
  have E3 := Lib.hid hw3
  have B23 := Lib.hid (show Below w2.heap.size w2 w3 from by rw [hw3]; exact BR.out)
  have B13 := Lib.hid (hb2.trans (B23.out.mono hb2.size))
  have KP3 := Lib.hid (show Blk w3 g 58 #[.bool v6, .int .i64 pr, .bool s6, .int .u64 sh, .int .u64 sl, .bool d6, .int .u64 dh, .int .u64 dl, .int .i64 0, .int .i64 0, .int .i64 ttl, .int .i64 0, .bool false, .int .i64 0, .bool false, .int .u64 0, .int .u64 0, .bool false, .int .u64 0, .int .u64 0, .int .i64 0, .int .i64 0, .int .i64 sz] from by rw [hw3, hg]; exact KR.out)
  have KQ3 := Lib.hid (KQ1.out.below B13.out KQ1.out.lt)
  have B3 := Lib.hid (B1.out.trans (B13.out.mono B1.out.size))
  have HR3 := Lib.hid (hr.below B23.out)
  have HP3 := Lib.hid (hp.below B23.out)
  have NE := Lib.hid (show g ≠ q from by have := KQ1.out.lt; have := hb2.size; omega)
  have GW := Lib.hid (show w.heap.size ≤ g from by have := B1.out.size; have := hb2.size; omega)
  clear hw3 hb2 hr hp hg
  go_upto_region 2 with (refine wpList_store_row rfl 58 _ _ rfl w2.heap.size #[.bool v6, .int .i64 pr, .bool s6, .int .u64 sh, .int .u64 sl, .bool d6, .int .u64 dh, .int .u64 dl, .int .i64 0, .int .i64 0, .int .i64 ttl, .int .i64 0, .bool false, .int .i64 0, .bool false, .int .u64 0, .int .u64 0, .bool false, .int .u64 0, .int .u64 0, .int .i64 0, .int .i64 0, .int .i64 sz] rfl rfl 58 Z KN.out HI.out ZS.out (by kernel_rfl) ?_)
  rw [← E3.out, ← EG.out]
  have p0 := KP3.out.cell 0
  have p1 := KP3.out.cell 1
  cases v6 with
  | true =>
    have t58 : (pr == 58) = false := beq_eq_false_iff_ne.mpr fun e => H58.out ⟨e, rfl⟩
    cases t1 : (pr == 1)
    · go_wp2_with (refine wpList_store_row rfl 58 _ _ rfl q Z rfl rfl 58 Z KQ3.out HIZ.out rfl ZO.out ?_)
      refine bodyPost_ret (results_pk rfl _ _ q Z rfl (blkRow KQ3.out _) ZS.out) rfl ?_
      exact ⟨by rw [HZ.out]; rfl, (onlyRow _).from B3.out (by have := EQ.out; omega)⟩
    · go_wp2_with (refine wpList_store_row rfl 58 _ _ rfl q Z rfl rfl 58 Z KQ3.out HIZ.out rfl ZO.out ?_)
      refine bodyPost_ret (results_pk rfl _ _ q Z rfl (blkRow KQ3.out _) ZS.out) rfl ?_
      exact ⟨by rw [HZ.out]; rfl, (onlyRow _).from B3.out (by have := EQ.out; omega)⟩
  | false =>
    have t1 : (pr == 1) = false := beq_eq_false_iff_ne.mpr fun e => H1.out ⟨e, rfl⟩
    cases t58 : (pr == 58)
    · go_wp2_with (refine wpList_store_row rfl 58 _ _ rfl q Z rfl rfl 58 Z KQ3.out HIZ.out rfl ZO.out ?_)
      refine bodyPost_ret (results_pk rfl _ _ q Z rfl (blkRow KQ3.out _) ZS.out) rfl ?_
      exact ⟨by rw [HZ.out]; rfl, (onlyRow _).from B3.out (by have := EQ.out; omega)⟩
    · go_wp2_with (refine wpList_store_row rfl 58 _ _ rfl q Z rfl rfl 58 Z KQ3.out HIZ.out rfl ZO.out ?_)
      refine bodyPost_ret (results_pk rfl _ _ q Z rfl (blkRow KQ3.out _) ZS.out) rfl ?_
      exact ⟨by rw [HZ.out]; rfl, (onlyRow _).from B3.out (by have := EQ.out; omega)⟩
set_option maxHeartbeats 8000000 in
set_option maxRecDepth 100000 in
theorem lp_tcp_no (v6 : Bool) (sp dp : Int) (fl : Int) (e : Int) (he : e ≠ 0) (s6 : Bool) (sh sl : Int) (d6 : Bool) (dh dl ttl sz : Int) (A : Option Addr) (n c m : Nat) (r ps : List Int) (w : World)
    (HO : Hid (∀ V, Below w.heap.size w V → Calls Try.prog 58 #[.slice A n c] V fun o w' => Below V.heap.size V w' ∧ ∃ (AR : Option Addr) (cr : Nat) (AP : Option Addr) (np cp : Nat), o = .returned (.tuple #[.agg #[.bool v6, .int .i64 6, .bool s6, .int .u64 sh, .int .u64 sl, .bool d6, .int .u64 dh, .int .u64 dl, .int .i64 0, .int .i64 0, .int .i64 ttl, .int .i64 0, .bool false, .int .i64 0, .bool false, .int .u64 0, .int .u64 0, .bool false, .int .u64 0, .int .u64 0, .int .i64 0, .int .i64 0, .int .i64 sz], .slice AR m cr, .slice AP np cp, .int .i64 0]) ∧ Sl w' AR m cr r ∧ Sl w' AP np cp ps))
    (HT : Hid (∀ V AR cr AP np cp, Below w.heap.size w V → Sl V AR m cr r → Sl V AP np cp ps → Calls Try.prog 59 #[.slice AR m cr, .slice AP np cp] V fun o w' => Below V.heap.size V w' ∧ ∃ (sq ak wn ur : Int) (AO : Option Addr) (mm co : Nat) (v : Value), o = .returned (.tuple #[.agg #[.int .i64 sp, .int .i64 dp, .int .u32 sq, .int .u32 ak, .int .i64 fl, .int .i64 wn, .int .i64 ur, .slice AO mm co], v, .int .i64 e]))) :
    Calls Try.prog 29 #[.slice A n c] w fun o w' => o = .returned (.tuple #[.agg #[.bool false, .int .i64 0, .bool false, .int .u64 0, .int .u64 0, .bool false, .int .u64 0, .int .u64 0, .int .i64 0, .int .i64 0, .int .i64 0, .int .i64 0, .bool false, .int .i64 0, .bool false, .int .u64 0, .int .u64 0, .bool false, .int .u64 0, .int .u64 0, .int .i64 0, .int .i64 0, .int .i64 0], .int .i64 e]) ∧ Below w.heap.size w w' := by
  have te : (e != 0) = true := by simpa using he
  have te2 : (e == 0) = false := by simpa using he
  clear he
  obtain ⟨Z, hZ⟩ : ∃ Z : Array Value, Z = #[.bool false, .int .i64 0, .bool false, .int .u64 0, .int .u64 0, .bool false, .int .u64 0, .int .u64 0, .int .i64 0, .int .i64 0, .int .i64 0, .int .i64 0, .bool false, .int .i64 0, .bool false, .int .u64 0, .int .u64 0, .bool false, .int .u64 0, .int .u64 0, .int .i64 0, .int .i64 0, .int .i64 0] := ⟨_, rfl⟩
  have hz : ∀ w : World, (zeroValue 58).run Try.prog w = .ok (.agg Z) w := by rw [hZ]; exact (zero_of_info pktF.zeroPkI).1
  have zs : Z.size = 23 := by rw [hZ]; rfl
  have zs2 : ¬ Z = #[] := by intro h; rw [h] at zs; cases zs
  have ZS := Lib.hid zs
  have HZ := Lib.hid hZ
  have ZO := Lib.hid (show Z.all (·.oneCell') = true from by rw [hZ]; kernel_rfl)
  clear hZ
  obtain ⟨w1, hw1⟩ : ∃ w1, w1 = w.alloc (.cells Z 58) := ⟨_, rfl⟩
  have E1 := Lib.hid hw1
  have B1 := Lib.hid (show Below w.heap.size w w1 from by rw [hw1]; exact (Below.refl _ _).alloc (Nat.le_refl _) _)
  obtain ⟨q, hq⟩ : ∃ q, q = w.heap.size := ⟨_, rfl⟩
  have EQ := Lib.hid hq
  have KQ1 := Lib.hid (show Blk w1 q 58 Z from by rw [hw1, hq]; exact Blk.new w _ _)
  have HI := Lib.hid pk_size
  have HIZ := Lib.hid (show (Try.prog.info? 58).map (·.size) = some Z.size from by rw [zs]; exact pk_size)
  clear hw1 hq
  go_enter Try.func29, Try.ntmps29
  go_upto_region 1 with fail
  rw [← E1.out, ← EQ.out]
  go_wp2_with fail
  refine (HO.out _ B1.out).mono ?_
  rintro o w2 ⟨hb2, AR, cr, AP, np, cp, rfl, hr, hp⟩
  obtain ⟨g, hg⟩ : ∃ g, g = w2.heap.size := ⟨_, rfl⟩
  have EG := Lib.hid hg
  have KN := Lib.hid (show Blk (w2.alloc (.cells Z 58)) w2.heap.size 58 Z from Blk.new w2 _ _)
  have KR := Lib.hid (show Blk ((w2.alloc (.cells Z 58)).setRow w2.heap.size #[.bool v6, .int .i64 6, .bool s6, .int .u64 sh, .int .u64 sl, .bool d6, .int .u64 dh, .int .u64 dl, .int .i64 0, .int .i64 0, .int .i64 ttl, .int .i64 0, .bool false, .int .i64 0, .bool false, .int .u64 0, .int .u64 0, .bool false, .int .u64 0, .int .u64 0, .int .i64 0, .int .i64 0, .int .i64 sz]) w2.heap.size 58 #[.bool v6, .int .i64 6, .bool s6, .int .u64 sh, .int .u64 sl, .bool d6, .int .u64 dh, .int .u64 dl, .int .i64 0, .int .i64 0, .int .i64 ttl, .int .i64 0, .bool false, .int .i64 0, .bool false, .int .u64 0, .int .u64 0, .bool false, .int .u64 0, .int .u64 0, .int .i64 0, .int .i64 0, .int .i64 sz] from blkRow KN.out _)
  have BR := Lib.hid (show Below w2.heap.size w2 ((w2.alloc (.cells Z 58)).setRow w2.heap.size #[.bool v6, .int .i64 6, .bool s6, .int .u64 sh, .int .u64 sl, .bool d6, .int .u64 dh, .int .u64 dl, .int .i64 0, .int .i64 0, .int .i64 ttl, .int .i64 0, .bool false, .int .i64 0, .bool false, .int .u64 0, .int .u64 0, .bool false, .int .u64 0, .int .u64 0, .int .i64 0, .int .i64 0, .int .i64 sz]) from (onlyRow _).from ((Below.refl _ _).alloc (Nat.le_refl _) _) (Nat.le_refl _))
  obtain ⟨w3, hw3⟩ : ∃ w3, w3 = (w2.alloc (.cells Z 58)).setRow w2.heap.size #[.bool v6, .int .i64 6, .bool s6, .int .u64 sh, .int .u64 sl, .bool d6, .int .u64 dh, .int .u64 dl, .int .i64 0, .int .i64 0, .int .i64 ttl, .int .i64 0, .bool false, .int .i64 0, .bool false, .int .u64 0, .int .u64 0, .bool false, .int .u64 0, .int .u64 0, .int .i64 0, .int .i64 0, .int .i64 sz] := ⟨_, rfl⟩
  have E3 := Lib.hid hw3
  have B23 := Lib.hid (show Below w2.heap.size w2 w3 from by rw [hw3]; exact BR.out)
  have B13 := Lib.hid (hb2.trans (B23.out.mono hb2.size))
  have KP3 := Lib.hid (show Blk w3 g 58 #[.bool v6, .int .i64 6, .bool s6, .int .u64 sh, .int .u64 sl, .bool d6, .int .u64 dh, .int .u64 dl, .int .i64 0, .int .i64 0, .int .i64 ttl, .int .i64 0, .bool false, .int .i64 0, .bool false, .int .u64 0, .int .u64 0, .bool false, .int .u64 0, .int .u64 0, .int .i64 0, .int .i64 0, .int .i64 sz] from by rw [hw3, hg]; exact KR.out)
  have KQ3 := Lib.hid (KQ1.out.below B13.out KQ1.out.lt)
  have B3 := Lib.hid (B1.out.trans (B13.out.mono B1.out.size))
  have HR3 := Lib.hid (hr.below B23.out)
  have HP3 := Lib.hid (hp.below B23.out)
  have NE := Lib.hid (show g ≠ q from by have := KQ1.out.lt; have := hb2.size; omega)
  have GW := Lib.hid (show w.heap.size ≤ g from by have := B1.out.size; have := hb2.size; omega)
  clear hw3 hb2 hr hp hg
  go_upto_region 2 with (refine wpList_store_row rfl 58 _ _ rfl w2.heap.size #[.bool v6, .int .i64 6, .bool s6, .int .u64 sh, .int .u64 sl, .bool d6, .int .u64 dh, .int .u64 dl, .int .i64 0, .int .i64 0, .int .i64 ttl, .int .i64 0, .bool false, .int .i64 0, .bool false, .int .u64 0, .int .u64 0, .bool false, .int .u64 0, .int .u64 0, .int .i64 0, .int .i64 0, .int .i64 sz] rfl rfl 58 Z KN.out HI.out ZS.out (by kernel_rfl) ?_)
  rw [← E3.out, ← EG.out]
  have p0 := KP3.out.cell 0
  have p1 := KP3.out.cell 1
  have PC := Lib.hid (HT.out w3 AR cr AP np cp B3.out HR3.out HP3.out)
  go_wp2_with fail
  refine PC.out.mono ?_
  rintro o w4 ⟨hb4, sq, ak, wn, ur, AO, mm, co, vv, rfl⟩
  obtain ⟨w5, hw5⟩ : ∃ w5, w5 = w4.alloc (.cells #[.int .i64 sp, .int .i64 dp, .int .u32 sq, .int .u32 ak, .int .i64 fl, .int .i64 wn, .int .i64 ur, .slice AO mm co] 90) := ⟨_, rfl⟩
  obtain ⟨h, hh⟩ : ∃ h, h = w4.heap.size := ⟨_, rfl⟩
  have E5 := Lib.hid hw5
  have EH := Lib.hid hh
  have B45 := Lib.hid (show Below w4.heap.size w4 w5 from by rw [hw5]; exact (Below.refl _ _).alloc (Nat.le_refl _) _)
  have B35 := Lib.hid (hb4.trans (B45.out.mono hb4.size))
  have KH5 := Lib.hid (show Blk w5 h 90 #[.int .i64 sp, .int .i64 dp, .int .u32 sq, .int .u32 ak, .int .i64 fl, .int .i64 wn, .int .i64 ur, .slice AO mm co] from by rw [hw5, hh]; exact Blk.new w4 _ _)
  have KP5 := Lib.hid (KP3.out.below B35.out KP3.out.lt)
  have KQ5 := Lib.hid (KQ3.out.below B35.out KQ3.out.lt)
  have B5 := Lib.hid (B3.out.trans (B35.out.mono B3.out.size))
  have NGH := Lib.hid (show h ≠ g from by have := KP3.out.lt; have := hb4.size; omega)
  clear hw5 hb4 hh p0 p1
  go_upto_region 6 with fail
  rw [← E5.out, ← EH.out]
  have f0_ := KP5.out.cell 8
  have z0_ := KP5.out.frozen 8
  have l0_ := KH5.out.cell 0
  have K0_ : Blk (w5.setCell ⟨g, 8, none⟩ (.int .i64 sp)) g 58 #[.bool v6, .int .i64 6, .bool s6, .int .u64 sh, .int .u64 sl, .bool d6, .int .u64 dh, .int .u64 dl, .int .i64 sp, .int .i64 0, .int .i64 ttl, .int .i64 0, .bool false, .int .i64 0, .bool false, .int .u64 0, .int .u64 0, .bool false, .int .u64 0, .int .u64 0, .int .i64 0, .int .i64 0, .int .i64 sz] := KP5.out.set_ 8 _
  have H0_ : Blk (w5.setCell ⟨g, 8, none⟩ (.int .i64 sp)) h 90 #[.int .i64 sp, .int .i64 dp, .int .u32 sq, .int .u32 ak, .int .i64 fl, .int .i64 wn, .int .i64 ur, .slice AO mm co] := KH5.out.far (p := ⟨g, 8, none⟩) NGH.out _
  have f1_ := K0_.cell 9
  have z1_ := K0_.frozen 9
  have l1_ := H0_.cell 1
  have K1_ : Blk ((w5.setCell ⟨g, 8, none⟩ (.int .i64 sp)).setCell ⟨g, 9, none⟩ (.int .i64 dp)) g 58 #[.bool v6, .int .i64 6, .bool s6, .int .u64 sh, .int .u64 sl, .bool d6, .int .u64 dh, .int .u64 dl, .int .i64 sp, .int .i64 dp, .int .i64 ttl, .int .i64 0, .bool false, .int .i64 0, .bool false, .int .u64 0, .int .u64 0, .bool false, .int .u64 0, .int .u64 0, .int .i64 0, .int .i64 0, .int .i64 sz] := K0_.set_ 9 _
  have H1_ : Blk ((w5.setCell ⟨g, 8, none⟩ (.int .i64 sp)).setCell ⟨g, 9, none⟩ (.int .i64 dp)) h 90 #[.int .i64 sp, .int .i64 dp, .int .u32 sq, .int .u32 ak, .int .i64 fl, .int .i64 wn, .int .i64 ur, .slice AO mm co] := H0_.far (p := ⟨g, 9, none⟩) NGH.out _
  have f2_ := K1_.cell 11
  have z2_ := K1_.frozen 11
  have l2_ := H1_.cell 4
  have K2_ : Blk (((w5.setCell ⟨g, 8, none⟩ (.int .i64 sp)).setCell ⟨g, 9, none⟩ (.int .i64 dp)).setCell ⟨g, 11, none⟩ (.int .i64 fl)) g 58 #[.bool v6, .int .i64 6, .bool s6, .int .u64 sh, .int .u64 sl, .bool d6, .int .u64 dh, .int .u64 dl, .int .i64 sp, .int .i64 dp, .int .i64 ttl, .int .i64 fl, .bool false, .int .i64 0, .bool false, .int .u64 0, .int .u64 0, .bool false, .int .u64 0, .int .u64 0, .int .i64 0, .int .i64 0, .int .i64 sz] := K1_.set_ 11 _
  have H2_ : Blk (((w5.setCell ⟨g, 8, none⟩ (.int .i64 sp)).setCell ⟨g, 9, none⟩ (.int .i64 dp)).setCell ⟨g, 11, none⟩ (.int .i64 fl)) h 90 #[.int .i64 sp, .int .i64 dp, .int .u32 sq, .int .u32 ak, .int .i64 fl, .int .i64 wn, .int .i64 ur, .slice AO mm co] := H1_.far (p := ⟨g, 11, none⟩) NGH.out _
  obtain ⟨w6, hw6⟩ : ∃ w6, w6 = (((w5.setCell ⟨g, 8, none⟩ (.int .i64 sp)).setCell ⟨g, 9, none⟩ (.int .i64 dp)).setCell ⟨g, 11, none⟩ (.int .i64 fl)) := ⟨_, rfl⟩
  have E6 := Lib.hid hw6
  have OG6 := Lib.hid (show OnlyG g w5 w6 from by rw [hw6]; exact ((((OnlyG.refl g w5).set 8 (.int .i64 sp)).set 9 (.int .i64 dp)).set 11 (.int .i64 fl)))
  have KP6 := Lib.hid (show Blk w6 g 58 #[.bool v6, .int .i64 6, .bool s6, .int .u64 sh, .int .u64 sl, .bool d6, .int .u64 dh, .int .u64 dl, .int .i64 sp, .int .i64 dp, .int .i64 ttl, .int .i64 fl, .bool false, .int .i64 0, .bool false, .int .u64 0, .int .u64 0, .bool false, .int .u64 0, .int .u64 0, .int .i64 0, .int .i64 0, .int .i64 sz] from by rw [hw6]; exact K2_)
  have KQ6 := Lib.hid (OG6.out.blk KQ5.out (Ne.symm NE.out))
  have B6 := Lib.hid (OG6.out.from B5.out GW.out)
  clear hw6 K0_ H0_ K1_ H1_ K2_ H2_
  go_upto_region 9 with fail
  rw [← E6.out]
  clear f0_ z0_ l0_ f1_ z1_ l1_ f2_ z2_ l2_
  go_wp2_with (refine wpList_store_row rfl 58 _ _ rfl q Z rfl rfl 58 Z KQ6.out HIZ.out rfl ZO.out ?_)
  refine bodyPost_ret (results_pk rfl _ _ q Z rfl (blkRow KQ6.out _) ZS.out) rfl ?_
  exact ⟨by rw [HZ.out]; rfl, (onlyRow _).from B6.out (by have := EQ.out; omega)⟩
set_option maxHeartbeats 8000000 in
set_option maxRecDepth 100000 in
theorem lp_tcp_ok (v6 : Bool) (sp dp : Int) (fl : Int) (s6 : Bool) (sh sl : Int) (d6 : Bool) (dh dl ttl sz : Int) (A : Option Addr) (n c m : Nat) (r ps : List Int) (w : World)
    (HO : Hid (∀ V, Below w.heap.size w V → Calls Try.prog 58 #[.slice A n c] V fun o w' => Below V.heap.size V w' ∧ ∃ (AR : Option Addr) (cr : Nat) (AP : Option Addr) (np cp : Nat), o = .returned (.tuple #[.agg #[.bool v6, .int .i64 6, .bool s6, .int .u64 sh, .int .u64 sl, .bool d6, .int .u64 dh, .int .u64 dl, .int .i64 0, .int .i64 0, .int .i64 ttl, .int .i64 0, .bool false, .int .i64 0, .bool false, .int .u64 0, .int .u64 0, .bool false, .int .u64 0, .int .u64 0, .int .i64 0, .int .i64 0, .int .i64 sz], .slice AR m cr, .slice AP np cp, .int .i64 0]) ∧ Sl w' AR m cr r ∧ Sl w' AP np cp ps))
    (HT : Hid (∀ V AR cr AP np cp, Below w.heap.size w V → Sl V AR m cr r → Sl V AP np cp ps → Calls Try.prog 59 #[.slice AR m cr, .slice AP np cp] V fun o w' => Below V.heap.size V w' ∧ ∃ (sq ak wn ur : Int) (AO : Option Addr) (mm co : Nat) (v : Value), o = .returned (.tuple #[.agg #[.int .i64 sp, .int .i64 dp, .int .u32 sq, .int .u32 ak, .int .i64 fl, .int .i64 wn, .int .i64 ur, .slice AO mm co], v, .int .i64 0]))) :
    Calls Try.prog 29 #[.slice A n c] w fun o w' => o = .returned (.tuple #[.agg #[.bool v6, .int .i64 6, .bool s6, .int .u64 sh, .int .u64 sl, .bool d6, .int .u64 dh, .int .u64 dl, .int .i64 sp, .int .i64 dp, .int .i64 ttl, .int .i64 fl, .bool false, .int .i64 0, .bool false, .int .u64 0, .int .u64 0, .bool false, .int .u64 0, .int .u64 0, .int .i64 0, .int .i64 0, .int .i64 sz], .int .i64 0]) ∧ Below w.heap.size w w' := by
  obtain ⟨Z, hZ⟩ : ∃ Z : Array Value, Z = #[.bool false, .int .i64 0, .bool false, .int .u64 0, .int .u64 0, .bool false, .int .u64 0, .int .u64 0, .int .i64 0, .int .i64 0, .int .i64 0, .int .i64 0, .bool false, .int .i64 0, .bool false, .int .u64 0, .int .u64 0, .bool false, .int .u64 0, .int .u64 0, .int .i64 0, .int .i64 0, .int .i64 0] := ⟨_, rfl⟩
  have hz : ∀ w : World, (zeroValue 58).run Try.prog w = .ok (.agg Z) w := by rw [hZ]; exact (zero_of_info pktF.zeroPkI).1
  have zs : Z.size = 23 := by rw [hZ]; rfl
  have zs2 : ¬ Z = #[] := by intro h; rw [h] at zs; cases zs
  have ZS := Lib.hid zs
  have HZ := Lib.hid hZ
  have ZO := Lib.hid (show Z.all (·.oneCell') = true from by rw [hZ]; kernel_rfl)
  clear hZ
  obtain ⟨w1, hw1⟩ : ∃ w1, w1 = w.alloc (.cells Z 58) := ⟨_, rfl⟩
  have E1 := Lib.hid hw1
  have B1 := Lib.hid (show Below w.heap.size w w1 from by rw [hw1]; exact (Below.refl _ _).alloc (Nat.le_refl _) _)
  obtain ⟨q, hq⟩ : ∃ q, q = w.heap.size := ⟨_, rfl⟩
  have EQ := Lib.hid hq
  have KQ1 := Lib.hid (show Blk w1 q 58 Z from by rw [hw1, hq]; exact Blk.new w _ _)
  have HI := Lib.hid pk_size
  have HIZ := Lib.hid (show (Try.prog.info? 58).map (·.size) = some Z.size from by rw [zs]; exact pk_size)
  clear hw1 hq
  go_enter Try.func29, Try.ntmps29
  go_upto_region 1 with fail
  rw [← E1.out, ← EQ.out]
  go_wp2_with fail
  refine (HO.out _ B1.out).mono ?_
  rintro o w2 ⟨hb2, AR, cr, AP, np, cp, rfl, hr, hp⟩
  obtain ⟨g, hg⟩ : ∃ g, g = w2.heap.size := ⟨_, rfl⟩
  have EG := Lib.hid hg
  have KN := Lib.hid (show Blk (w2.alloc (.cells Z 58)) w2.heap.size 58 Z from Blk.new w2 _ _)
  have KR := Lib.hid (show Blk ((w2.alloc (.cells Z 58)).setRow w2.heap.size #[.bool v6, .int .i64 6, .bool s6, .int .u64 sh, .int .u64 sl, .bool d6, .int .u64 dh, .int .u64 dl, .int .i64 0, .int .i64 0, .int .i64 ttl, .int .i64 0, .bool false, .int .i64 0, .bool false, .int .u64 0, .int .u64 0, .bool false, .int .u64 0, .int .u64 0, .int .i64 0, .int .i64 0, .int .i64 sz]) w2.heap.size 58 #[.bool v6, .int .i64 6, .bool s6, .int .u64 sh, .int .u64 sl, .bool d6, .int .u64 dh, .int .u64 dl, .int .i64 0, .int .i64 0, .int .i64 ttl, .int .i64 0, .bool false, .int .i64 0, .bool false, .int .u64 0, .int .u64 0, .bool false, .int .u64 0, .int .u64 0, .int .i64 0, .int .i64 0, .int .i64 sz] from blkRow KN.out _)
  have BR := Lib.hid (show Below w2.heap.size w2 ((w2.alloc (.cells Z 58)).setRow w2.heap.size #[.bool v6, .int .i64 6, .bool s6, .int .u64 sh, .int .u64 sl, .bool d6, .int .u64 dh, .int .u64 dl, .int .i64 0, .int .i64 0, .int .i64 ttl, .int .i64 0, .bool false, .int .i64 0, .bool false, .int .u64 0, .int .u64 0, .bool false, .int .u64 0, .int .u64 0, .int .i64 0, .int .i64 0, .int .i64 sz]) from (onlyRow _).from ((Below.refl _ _).alloc (Nat.le_refl _) _) (Nat.le_refl _))
  obtain ⟨w3, hw3⟩ : ∃ w3, w3 = (w2.alloc (.cells Z 58)).setRow w2.heap.size #[.bool v6, .int .i64 6, .bool s6, .int .u64 sh, .int .u64 sl, .bool d6, .int .u64 dh, .int .u64 dl, .int .i64 0, .int .i64 0, .int .i64 ttl, .int .i64 0, .bool false, .int .i64 0, .bool false, .int .u64 0, .int .u64 0, .bool false, .int .u64 0, .int .u64 0, .int .i64 0, .int .i64 0, .int .i64 sz] := ⟨_, rfl⟩
  have E3 := Lib.hid hw3
  have B23 := Lib.hid (show Below w2.heap.size w2 w3 from by rw [hw3]; exact BR.out)
  have B13 := Lib.hid (hb2.trans (B23.out.mono hb2.size))
  have KP3 := Lib.hid (show Blk w3 g 58 #[.bool v6, .int .i64 6, .bool s6, .int .u64 sh, .int .u64 sl, .bool d6, .int .u64 dh, .int .u64 dl, .int .i64 0, .int .i64 0, .int .i64 ttl, .int .i64 0, .bool false, .int .i64 0, .bool false, .int .u64 0, .int .u64 0, .bool false, .int .u64 0, .int .u64 0, .int .i64 0, .int .i64 0, .int .i64 sz] from by rw [hw3, hg]; exact KR.out)
  have KQ3 := Lib.hid (KQ1.out.below B13.out KQ1.out.lt)
  have B3 := Lib.hid (B1.out.trans (B13.out.mono B1.out.size))
  have HR3 := Lib.hid (hr.below B23.out)
  have HP3 := Lib.hid (hp.below B23.out)
  have NE := Lib.hid (show g ≠ q from by have := KQ1.out.lt; have := hb2.size; omega)
  have GW := Lib.hid (show w.heap.size ≤ g from by have := B1.out.size; have := hb2.size; omega)
  clear hw3 hb2 hr hp hg
  go_upto_region 2 with (refine wpList_store_row rfl 58 _ _ rfl w2.heap.size #[.bool v6, .int .i64 6, .bool s6, .int .u64 sh, .int .u64 sl, .bool d6, .int .u64 dh, .int .u64 dl, .int .i64 0, .int .i64 0, .int .i64 ttl, .int .i64 0, .bool false, .int .i64 0, .bool false, .int .u64 0, .int .u64 0, .bool false, .int .u64 0, .int .u64 0, .int .i64 0, .int .i64 0, .int .i64 sz] rfl rfl 58 Z KN.out HI.out ZS.out (by kernel_rfl) ?_)
  rw [← E3.out, ← EG.out]
  have p0 := KP3.out.cell 0
  have p1 := KP3.out.cell 1
  have PC := Lib.hid (HT.out w3 AR cr AP np cp B3.out HR3.out HP3.out)
  go_wp2_with fail
  refine PC.out.mono ?_
  rintro o w4 ⟨hb4, sq, ak, wn, ur, AO, mm, co, vv, rfl⟩
  obtain ⟨w5, hw5⟩ : ∃ w5, w5 = w4.alloc (.cells #[.int .i64 sp, .int .i64 dp, .int .u32 sq, .int .u32 ak, .int .i64 fl, .int .i64 wn, .int .i64 ur, .slice AO mm co] 90) := ⟨_, rfl⟩
  obtain ⟨h, hh⟩ : ∃ h, h = w4.heap.size := ⟨_, rfl⟩
  have E5 := Lib.hid hw5
  have EH := Lib.hid hh
  have B45 := Lib.hid (show Below w4.heap.size w4 w5 from by rw [hw5]; exact (Below.refl _ _).alloc (Nat.le_refl _) _)
  have B35 := Lib.hid (hb4.trans (B45.out.mono hb4.size))
  have KH5 := Lib.hid (show Blk w5 h 90 #[.int .i64 sp, .int .i64 dp, .int .u32 sq, .int .u32 ak, .int .i64 fl, .int .i64 wn, .int .i64 ur, .slice AO mm co] from by rw [hw5, hh]; exact Blk.new w4 _ _)
  have KP5 := Lib.hid (KP3.out.below B35.out KP3.out.lt)
  have KQ5 := Lib.hid (KQ3.out.below B35.out KQ3.out.lt)
  have B5 := Lib.hid (B3.out.trans (B35.out.mono B3.out.size))
  have NGH := Lib.hid (show h ≠ g from by have := KP3.out.lt; have := hb4.size; omega)
  clear hw5 hb4 hh p0 p1
  go_upto_region 6 with fail
  rw [← E5.out, ← EH.out]
  have f0_ := KP5.out.cell 8
  have z0_ := KP5.out.frozen 8
  have l0_ := KH5.out.cell 0
  have K0_ : Blk (w5.setCell ⟨g, 8, none⟩ (.int .i64 sp)) g 58 #[.bool v6, .int .i64 6, .bool s6, .int .u64 sh, .int .u64 sl, .bool d6, .int .u64 dh, .int .u64 dl, .int .i64 sp, .int .i64 0, .int .i64 ttl, .int .i64 0, .bool false, .int .i64 0, .bool false, .int .u64 0, .int .u64 0, .bool false, .int .u64 0, .int .u64 0, .int .i64 0, .int .i64 0, .int .i64 sz] := KP5.out.set_ 8 _
  have H0_ : Blk (w5.setCell ⟨g, 8, none⟩ (.int .i64 sp)) h 90 #[.int .i64 sp, .int .i64 dp, .int .u32 sq, .int .u32 ak, .int .i64 fl, .int .i64 wn, .int .i64 ur, .slice AO mm co] := KH5.out.far (p := ⟨g, 8, none⟩) NGH.out _
  have f1_ := K0_.cell 9
  have z1_ := K0_.frozen 9
  have l1_ := H0_.cell 1
  have K1_ : Blk ((w5.setCell ⟨g, 8, none⟩ (.int .i64 sp)).setCell ⟨g, 9, none⟩ (.int .i64 dp)) g 58 #[.bool v6, .int .i64 6, .bool s6, .int .u64 sh, .int .u64 sl, .bool d6, .int .u64 dh, .int .u64 dl, .int .i64 sp, .int .i64 dp, .int .i64 ttl, .int .i64 0, .bool false, .int .i64 0, .bool false, .int .u64 0, .int .u64 0, .bool false, .int .u64 0, .int .u64 0, .int .i64 0, .int .i64 0, .int .i64 sz] := K0_.set_ 9 _
  have H1_ : Blk ((w5.setCell ⟨g, 8, none⟩ (.int .i64 sp)).setCell ⟨g, 9, none⟩ (.int .i64 dp)) h 90 #[.int .i64 sp, .int .i64 dp, .int .u32 sq, .int .u32 ak, .int .i64 fl, .int .i64 wn, .int .i64 ur, .slice AO mm co] := H0_.far (p := ⟨g, 9, none⟩) NGH.out _
  have f2_ := K1_.cell 11
  have z2_ := K1_.frozen 11
  have l2_ := H1_.cell 4
  have K2_ : Blk (((w5.setCell ⟨g, 8, none⟩ (.int .i64 sp)).setCell ⟨g, 9, none⟩ (.int .i64 dp)).setCell ⟨g, 11, none⟩ (.int .i64 fl)) g 58 #[.bool v6, .int .i64 6, .bool s6, .int .u64 sh, .int .u64 sl, .bool d6, .int .u64 dh, .int .u64 dl, .int .i64 sp, .int .i64 dp, .int .i64 ttl, .int .i64 fl, .bool false, .int .i64 0, .bool false, .int .u64 0, .int .u64 0, .bool false, .int .u64 0, .int .u64 0, .int .i64 0, .int .i64 0, .int .i64 sz] := K1_.set_ 11 _
  have H2_ : Blk (((w5.setCell ⟨g, 8, none⟩ (.int .i64 sp)).setCell ⟨g, 9, none⟩ (.int .i64 dp)).setCell ⟨g, 11, none⟩ (.int .i64 fl)) h 90 #[.int .i64 sp, .int .i64 dp, .int .u32 sq, .int .u32 ak, .int .i64 fl, .int .i64 wn, .int .i64 ur, .slice AO mm co] := H1_.far (p := ⟨g, 11, none⟩) NGH.out _
  obtain ⟨w6, hw6⟩ : ∃ w6, w6 = (((w5.setCell ⟨g, 8, none⟩ (.int .i64 sp)).setCell ⟨g, 9, none⟩ (.int .i64 dp)).setCell ⟨g, 11, none⟩ (.int .i64 fl)) := ⟨_, rfl⟩
  have E6 := Lib.hid hw6
  have OG6 := Lib.hid (show OnlyG g w5 w6 from by rw [hw6]; exact ((((OnlyG.refl g w5).set 8 (.int .i64 sp)).set 9 (.int .i64 dp)).set 11 (.int .i64 fl)))
  have KP6 := Lib.hid (show Blk w6 g 58 #[.bool v6, .int .i64 6, .bool s6, .int .u64 sh, .int .u64 sl, .bool d6, .int .u64 dh, .int .u64 dl, .int .i64 sp, .int .i64 dp, .int .i64 ttl, .int .i64 fl, .bool false, .int .i64 0, .bool false, .int .u64 0, .int .u64 0, .bool false, .int .u64 0, .int .u64 0, .int .i64 0, .int .i64 0, .int .i64 sz] from by rw [hw6]; exact K2_)
  have KQ6 := Lib.hid (OG6.out.blk KQ5.out (Ne.symm NE.out))
  have B6 := Lib.hid (OG6.out.from B5.out GW.out)
  clear hw6 K0_ H0_ K1_ H1_ K2_ H2_
  go_upto_region 9 with fail
  rw [← E6.out]
  clear f0_ z0_ l0_ f1_ z1_ l1_ f2_ z2_ l2_
  go_wp2_with (first
    | (refine wpList_load_row rfl 58 _ rfl g rfl 58 #[.bool v6, .int .i64 6, .bool s6, .int .u64 sh, .int .u64 sl, .bool d6, .int .u64 dh, .int .u64 dl, .int .i64 sp, .int .i64 dp, .int .i64 ttl, .int .i64 fl, .bool false, .int .i64 0, .bool false, .int .u64 0, .int .u64 0, .bool false, .int .u64 0, .int .u64 0, .int .i64 0, .int .i64 0, .int .i64 sz] (0, 0) _ KP6.out Try.underlying58 rfl HI.out ?_)
    | (refine wpList_store_row rfl 58 _ _ rfl q #[.bool v6, .int .i64 6, .bool s6, .int .u64 sh, .int .u64 sl, .bool d6, .int .u64 dh, .int .u64 dl, .int .i64 sp, .int .i64 dp, .int .i64 ttl, .int .i64 fl, .bool false, .int .i64 0, .bool false, .int .u64 0, .int .u64 0, .bool false, .int .u64 0, .int .u64 0, .int .i64 0, .int .i64 0, .int .i64 sz] rfl rfl 58 Z KQ6.out HI.out ZS.out (by kernel_rfl) ?_))
  refine bodyPost_ret (results_pk rfl _ _ q #[.bool v6, .int .i64 6, .bool s6, .int .u64 sh, .int .u64 sl, .bool d6, .int .u64 dh, .int .u64 dl, .int .i64 sp, .int .i64 dp, .int .i64 ttl, .int .i64 fl, .bool false, .int .i64 0, .bool false, .int .u64 0, .int .u64 0, .bool false, .int .u64 0, .int .u64 0, .int .i64 0, .int .i64 0, .int .i64 sz] rfl (blkRow KQ6.out _) rfl) rfl ?_
  exact ⟨rfl, (onlyRow _).from B6.out (by have := EQ.out; omega)⟩
set_option maxHeartbeats 8000000 in
set_option maxRecDepth 100000 in
theorem lp_udp_no (v6 : Bool) (sp dp : Int) (e : Int) (he : e ≠ 0) (s6 : Bool) (sh sl : Int) (d6 : Bool) (dh dl ttl sz : Int) (A : Option Addr) (n c m : Nat) (r ps : List Int) (w : World)
    (HO : Hid (∀ V, Below w.heap.size w V → Calls Try.prog 58 #[.slice A n c] V fun o w' => Below V.heap.size V w' ∧ ∃ (AR : Option Addr) (cr : Nat) (AP : Option Addr) (np cp : Nat), o = .returned (.tuple #[.agg #[.bool v6, .int .i64 17, .bool s6, .int .u64 sh, .int .u64 sl, .bool d6, .int .u64 dh, .int .u64 dl, .int .i64 0, .int .i64 0, .int .i64 ttl, .int .i64 0, .bool false, .int .i64 0, .bool false, .int .u64 0, .int .u64 0, .bool false, .int .u64 0, .int .u64 0, .int .i64 0, .int .i64 0, .int .i64 sz], .slice AR m cr, .slice AP np cp, .int .i64 0]) ∧ Sl w' AR m cr r ∧ Sl w' AP np cp ps))
    (HT : Hid (∀ V AR cr AP np cp, Below w.heap.size w V → Sl V AR m cr r → Sl V AP np cp ps → Calls Try.prog 60 #[.slice AR m cr, .slice AP np cp, .bool (!v6)] V fun o w' => Below V.heap.size V w' ∧ ∃ (bb : Bool) (v : Value), o = .returned (.tuple #[.agg #[.int .i64 sp, .int .i64 dp, .bool bb], v, .int .i64 e]))) :
    Calls Try.prog 29 #[.slice A n c] w fun o w' => o = .returned (.tuple #[.agg #[.bool false, .int .i64 0, .bool false, .int .u64 0, .int .u64 0, .bool false, .int .u64 0, .int .u64 0, .int .i64 0, .int .i64 0, .int .i64 0, .int .i64 0, .bool false, .int .i64 0, .bool false, .int .u64 0, .int .u64 0, .bool false, .int .u64 0, .int .u64 0, .int .i64 0, .int .i64 0, .int .i64 0], .int .i64 e]) ∧ Below w.heap.size w w' := by
  have te : (e != 0) = true := by simpa using he
  have te2 : (e == 0) = false := by simpa using he
  clear he
  obtain ⟨Z, hZ⟩ : ∃ Z : Array Value, Z = #[.bool false, .int .i64 0, .bool false, .int .u64 0, .int .u64 0, .bool false, .int .u64 0, .int .u64 0, .int .i64 0, .int .i64 0, .int .i64 0, .int .i64 0, .bool false, .int .i64 0, .bool false, .int .u64 0, .int .u64 0, .bool false, .int .u64 0, .int .u64 0, .int .i64 0, .int .i64 0, .int .i64 0] := ⟨_, rfl⟩
  have hz : ∀ w : World, (zeroValue 58).run Try.prog w = .ok (.agg Z) w := by rw [hZ]; exact (zero_of_info pktF.zeroPkI).1
  have zs : Z.size = 23 := by rw [hZ]; rfl
  have zs2 : ¬ Z = #[] := by intro h; rw [h] at zs; cases zs
  have ZS := Lib.hid zs
  have HZ := Lib.hid hZ
  have ZO := Lib.hid (show Z.all (·.oneCell') = true from by rw [hZ]; kernel_rfl)
  clear hZ
  obtain ⟨w1, hw1⟩ : ∃ w1, w1 = w.alloc (.cells Z 58) := ⟨_, rfl⟩
  have E1 := Lib.hid hw1
  have B1 := Lib.hid (show Below w.heap.size w w1 from by rw [hw1]; exact (Below.refl _ _).alloc (Nat.le_refl _) _)
  obtain ⟨q, hq⟩ : ∃ q, q = w.heap.size := ⟨_, rfl⟩
  have EQ := Lib.hid hq
  have KQ1 := Lib.hid (show Blk w1 q 58 Z from by rw [hw1, hq]; exact Blk.new w _ _)
  have HI := Lib.hid pk_size
  have HIZ := Lib.hid (show (Try.prog.info? 58).map (·.size) = some Z.size from by rw [zs]; exact pk_size)
  clear hw1 hq
  go_enter Try.func29, Try.ntmps29
  go_upto_region 1 with fail
  rw [← E1.out, ← EQ.out]
  go_wp2_with fail
  refine (HO.out _ B1.out).mono ?_
  rintro o w2 ⟨hb2, AR, cr, AP, np, cp, rfl, hr, hp⟩
  obtain ⟨g, hg⟩ : ∃ g, g = w2.heap.size := ⟨_, rfl⟩
  have EG := Lib.hid hg
  have KN := Lib.hid (show Blk (w2.alloc (.cells Z 58)) w2.heap.size 58 Z from Blk.new w2 _ _)
  have KR := Lib.hid (show Blk ((w2.alloc (.cells Z 58)).setRow w2.heap.size #[.bool v6, .int .i64 17, .bool s6, .int .u64 sh, .int .u64 sl, .bool d6, .int .u64 dh, .int .u64 dl, .int .i64 0, .int .i64 0, .int .i64 ttl, .int .i64 0, .bool false, .int .i64 0, .bool false, .int .u64 0, .int .u64 0, .bool false, .int .u64 0, .int .u64 0, .int .i64 0, .int .i64 0, .int .i64 sz]) w2.heap.size 58 #[.bool v6, .int .i64 17, .bool s6, .int .u64 sh, .int .u64 sl, .bool d6, .int .u64 dh, .int .u64 dl, .int .i64 0, .int .i64 0, .int .i64 ttl, .int .i64 0, .bool false, .int .i64 0, .bool false, .int .u64 0, .int .u64 0, .bool false, .int .u64 0, .int .u64 0, .int .i64 0, .int .i64 0, .int .i64 sz] from blkRow KN.out _)
  have BR := Lib.hid (show Below w2.heap.size w2 ((w2.alloc (.cells Z 58)).setRow w2.heap.size #[.bool v6, .int .i64 17, .bool s6, .int .u64 sh, .int .u64 sl, .bool d6, .int .u64 dh, .int .u64 dl, .int .i64 0, .int .i64 0, .int .i64 ttl, .int .i64 0, .bool false, .int .i64 0, .bool false, .int .u64 0, .int .u64 0, .bool false, .int .u64 0, .int .u64 0, .int .i64 0, .int .i64 0, .int .i64 sz]) from (onlyRow _).from ((Below.refl _ _).alloc (Nat.le_refl _) _) (Nat.le_refl _))
  obtain ⟨w3, hw3⟩ : ∃ w3, w3 = (w2.alloc (.cells Z 58)).setRow w2.heap.size #[.bool v6, .int .i64 17, .bool s6, .int .u64 sh, .int .u64 sl, .bool d6, .int .u64 dh, .int .u64 dl, .int .i64 0, .int .i64 0, .int .i64 ttl, .int .i64 0, .bool false, .int .i64 0, .bool false, .int .u64 0, .int .u64 0, .bool false, .int .u64 0, .int .u64 0, .int .i64 0, .int .i64 0, .int .i64 sz] := ⟨_, rfl⟩
  have E3 := Lib.hid hw3
  have B23 := Lib.hid (show Below w2.heap.size w2 w3 from by rw [hw3]; exact BR.out)
  have B13 := Lib.hid (hb2.trans (B23.out.mono hb2.size))
  have KP3 := Lib.hid (show Blk w3 g 58 #[.bool v6, .int .i64 17, .bool s6, .int .u64 sh, .int .u64 sl, .bool d6, .int .u64 dh, .int .u64 dl, .int .i64 0, .int .i64 0, .int .i64 ttl, .int .i64 0, .bool false, .int .i64 0, .bool false, .int .u64 0, .int .u64 0, .bool false, .int .u64 0, .int .u64 0, .int .i64 0, .int .i64 0, .int .i64 sz] from by rw [hw3, hg]; exact KR.out)
  have KQ3 := Lib.hid (KQ1.out.below B13.out KQ1.out.lt)
  have B3 := Lib.hid (B1.out.trans (B13.out.mono B1.out.size))
  have HR3 := Lib.hid (hr.below B23.out)
  have HP3 := Lib.hid (hp.below B23.out)
  have NE := Lib.hid (show g ≠ q from by have := KQ1.out.lt; have := hb2.size; omega)
  have GW := Lib.hid (show w.heap.size ≤ g from by have := B1.out.size; have := hb2.size; omega)
  clear hw3 hb2 hr hp hg
  go_upto_region 2 with (refine wpList_store_row rfl 58 _ _ rfl w2.heap.size #[.bool v6, .int .i64 17, .bool s6, .int .u64 sh, .int .u64 sl, .bool d6, .int .u64 dh, .int .u64 dl, .int .i64 0, .int .i64 0, .int .i64 ttl, .int .i64 0, .bool false, .int .i64 0, .bool false, .int .u64 0, .int .u64 0, .bool false, .int .u64 0, .int .u64 0, .int .i64 0, .int .i64 0, .int .i64 sz] rfl rfl 58 Z KN.out HI.out ZS.out (by kernel_rfl) ?_)
  rw [← E3.out, ← EG.out]
  have p0 := KP3.out.cell 0
  have p1 := KP3.out.cell 1
  have PC := Lib.hid (HT.out w3 AR cr AP np cp B3.out HR3.out HP3.out)
  go_wp2_with fail
  refine PC.out.mono ?_
  rintro o w4 ⟨hb4, bb, vv, rfl⟩
  obtain ⟨w5, hw5⟩ : ∃ w5, w5 = w4.alloc (.cells #[.int .i64 sp, .int .i64 dp, .bool bb] 94) := ⟨_, rfl⟩
  obtain ⟨h, hh⟩ : ∃ h, h = w4.heap.size := ⟨_, rfl⟩
  have E5 := Lib.hid hw5
  have EH := Lib.hid hh
  have B45 := Lib.hid (show Below w4.heap.size w4 w5 from by rw [hw5]; exact (Below.refl _ _).alloc (Nat.le_refl _) _)
  have B35 := Lib.hid (hb4.trans (B45.out.mono hb4.size))
  have KH5 := Lib.hid (show Blk w5 h 94 #[.int .i64 sp, .int .i64 dp, .bool bb] from by rw [hw5, hh]; exact Blk.new w4 _ _)
  have KP5 := Lib.hid (KP3.out.below B35.out KP3.out.lt)
  have KQ5 := Lib.hid (KQ3.out.below B35.out KQ3.out.lt)
  have B5 := Lib.hid (B3.out.trans (B35.out.mono B3.out.size))
  have NGH := Lib.hid (show h ≠ g from by have := KP3.out.lt; have := hb4.size; omega)
  clear hw5 hb4 hh p0 p1
  go_upto_region 12 with fail
  rw [← E5.out, ← EH.out]
  have f0_ := KP5.out.cell 8
  have z0_ := KP5.out.frozen 8
  have l0_ := KH5.out.cell 0
  have K0_ : Blk (w5.setCell ⟨g, 8, none⟩ (.int .i64 sp)) g 58 #[.bool v6, .int .i64 17, .bool s6, .int .u64 sh, .int .u64 sl, .bool d6, .int .u64 dh, .int .u64 dl, .int .i64 sp, .int .i64 0, .int .i64 ttl, .int .i64 0, .bool false, .int .i64 0, .bool false, .int .u64 0, .int .u64 0, .bool false, .int .u64 0, .int .u64 0, .int .i64 0, .int .i64 0, .int .i64 sz] := KP5.out.set_ 8 _
  have H0_ : Blk (w5.setCell ⟨g, 8, none⟩ (.int .i64 sp)) h 94 #[.int .i64 sp, .int .i64 dp, .bool bb] := KH5.out.far (p := ⟨g, 8, none⟩) NGH.out _
  have f1_ := K0_.cell 9
  have z1_ := K0_.frozen 9
  have l1_ := H0_.cell 1
  have K1_ : Blk ((w5.setCell ⟨g, 8, none⟩ (.int .i64 sp)).setCell ⟨g, 9, none⟩ (.int .i64 dp)) g 58 #[.bool v6, .int .i64 17, .bool s6, .int .u64 sh, .int .u64 sl, .bool d6, .int .u64 dh, .int .u64 dl, .int .i64 sp, .int .i64 dp, .int .i64 ttl, .int .i64 0, .bool false, .int .i64 0, .bool false, .int .u64 0, .int .u64 0, .bool false, .int .u64 0, .int .u64 0, .int .i64 0, .int .i64 0, .int .i64 sz] := K0_.set_ 9 _
  have H1_ : Blk ((w5.setCell ⟨g, 8, none⟩ (.int .i64 sp)).setCell ⟨g, 9, none⟩ (.int .i64 dp)) h 94 #[.int .i64 sp, .int .i64 dp, .bool bb] := H0_.far (p := ⟨g, 9, none⟩) NGH.out _
  obtain ⟨w6, hw6⟩ : ∃ w6, w6 = ((w5.setCell ⟨g, 8, none⟩ (.int .i64 sp)).setCell ⟨g, 9, none⟩ (.int .i64 dp)) := ⟨_, rfl⟩
  have E6 := Lib.hid hw6
  have OG6 := Lib.hid (show OnlyG g w5 w6 from by rw [hw6]; exact (((OnlyG.refl g w5).set 8 (.int .i64 sp)).set 9 (.int .i64 dp)))
  have KP6 := Lib.hid (show Blk w6 g 58 #[.bool v6, .int .i64 17, .bool s6, .int .u64 sh, .int .u64 sl, .bool d6, .int .u64 dh, .int .u64 dl, .int .i64 sp, .int .i64 dp, .int .i64 ttl, .int .i64 0, .bool false, .int .i64 0, .bool false, .int .u64 0, .int .u64 0, .bool false, .int .u64 0, .int .u64 0, .int .i64 0, .int .i64 0, .int .i64 sz] from by rw [hw6]; exact K1_)
  have KQ6 := Lib.hid (OG6.out.blk KQ5.out (Ne.symm NE.out))
  have B6 := Lib.hid (OG6.out.from B5.out GW.out)
  clear hw6 K0_ H0_ K1_ H1_
  go_upto_region 14 with fail
  rw [← E6.out]
  clear f0_ z0_ l0_ f1_ z1_ l1_
  go_wp2_with (refine wpList_store_row rfl 58 _ _ rfl q Z rfl rfl 58 Z KQ6.out HIZ.out rfl ZO.out ?_)
  refine bodyPost_ret (results_pk rfl _ _ q Z rfl (blkRow KQ6.out _) ZS.out) rfl ?_
  exact ⟨by rw [HZ.out]; rfl, (onlyRow _).from B6.out (by have := EQ.out; omega)⟩
set_option maxHeartbeats 8000000 in
set_option maxRecDepth 100000 in
theorem lp_udp_ok (v6 : Bool) (sp dp : Int) (s6 : Bool) (sh sl : Int) (d6 : Bool) (dh dl ttl sz : Int) (A : Option Addr) (n c m : Nat) (r ps : List Int) (w : World)
    (HO : Hid (∀ V, Below w.heap.size w V → Calls Try.prog 58 #[.slice A n c] V fun o w' => Below V.heap.size V w' ∧ ∃ (AR : Option Addr) (cr : Nat) (AP : Option Addr) (np cp : Nat), o = .returned (.tuple #[.agg #[.bool v6, .int .i64 17, .bool s6, .int .u64 sh, .int .u64 sl, .bool d6, .int .u64 dh, .int .u64 dl, .int .i64 0, .int .i64 0, .int .i64 ttl, .int .i64 0, .bool false, .int .i64 0, .bool false, .int .u64 0, .int .u64 0, .bool false, .int .u64 0, .int .u64 0, .int .i64 0, .int .i64 0, .int .i64 sz], .slice AR m cr, .slice AP np cp, .int .i64 0]) ∧ Sl w' AR m cr r ∧ Sl w' AP np cp ps))
    (HT : Hid (∀ V AR cr AP np cp, Below w.heap.size w V → Sl V AR m cr r → Sl V AP np cp ps → Calls Try.prog 60 #[.slice AR m cr, .slice AP np cp, .bool (!v6)] V fun o w' => Below V.heap.size V w' ∧ ∃ (bb : Bool) (v : Value), o = .returned (.tuple #[.agg #[.int .i64 sp, .int .i64 dp, .bool bb], v, .int .i64 0]))) :
    Calls Try.prog 29 #[.slice A n c] w fun o w' => o = .returned (.tuple #[.agg #[.bool v6, .int .i64 17, .bool s6, .int .u64 sh, .int .u64 sl, .bool d6, .int .u64 dh, .int .u64 dl, .int .i64 sp, .int .i64 dp, .int .i64 ttl, .int .i64 0, .bool false, .int .i64 0, .bool false, .int .u64 0, .int .u64 0, .bool false, .int .u64 0, .int .u64 0, .int .i64 0, .int .i64 0, .int .i64 sz], .int .i64 0]) ∧ Below w.heap.size w w' := by
  obtain ⟨Z, hZ⟩ : ∃ Z : Array Value, Z = #[.bool false, .int .i64 0, .bool false, .int .u64 0, .int .u64 0, .bool false, .int .u64 0, .int .u64 0, .int .i64 0, .int .i64 0, .int .i64 0, .int .i64 0, .bool false, .int .i64 0, .bool false, .int .u64 0, .int .u64 0, .bool false, .int .u64 0, .int .u64 0, .int .i64 0, .int .i64 0, .int .i64 0] := ⟨_, rfl⟩
  have hz : ∀ w : World, (zeroValue 58).run Try.prog w = .ok (.agg Z) w := by rw [hZ]; exact (zero_of_info pktF.zeroPkI).1
  have zs : Z.size = 23 := by rw [hZ]; rfl
  have zs2 : ¬ Z = #[] := by intro h; rw [h] at zs; cases zs
  have ZS := Lib.hid zs
  have HZ := Lib.hid hZ
  have ZO := Lib.hid (show Z.all (·.oneCell') = true from by rw [hZ]; kernel_rfl)
  clear hZ
  obtain ⟨w1, hw1⟩ : ∃ w1, w1 = w.alloc (.cells Z 58) := ⟨_, rfl⟩
  have E1 := Lib.hid hw1
  have B1 := Lib.hid (show Below w.heap.size w w1 from by rw [hw1]; exact (Below.refl _ _).alloc (Nat.le_refl _) _)
  obtain ⟨q, hq⟩ : ∃ q, q = w.heap.size := ⟨_, rfl⟩
  have EQ := Lib.hid hq
  have KQ1 := Lib.hid (show Blk w1 q 58 Z from by rw [hw1, hq]; exact Blk.new w _ _)
  have HI := Lib.hid pk_size
  have HIZ := Lib.hid (show (Try.prog.info? 58).map (·.size) = some Z.size from by rw [zs]; exact pk_size)
  clear hw1 hq
  go_enter Try.func29, Try.ntmps29
  go_upto_region 1 with fail
  rw [← E1.out, ← EQ.out]
  go_wp2_with fail
  refine (HO.out _ B1.out).mono ?_
  rintro o w2 ⟨hb2, AR, cr, AP, np, cp, rfl, hr, hp⟩
  obtain ⟨g, hg⟩ : ∃ g, g = w2.heap.size := ⟨_, rfl⟩
  have EG := Lib.hid hg
  have KN := Lib.hid (show Blk (w2.alloc (.cells Z 58)) w2.heap.size 58 Z from Blk.new w2 _ _)
  have KR := Lib.hid (show Blk ((w2.alloc (.cells Z 58)).setRow w2.heap.size #[.bool v6, .int .i64 17, .bool s6, .int .u64 sh, .int .u64 sl, .bool d6, .int .u64 dh, .int .u64 dl, .int .i64 0, .int .i64 0, .int .i64 ttl, .int .i64 0, .bool false, .int .i64 0, .bool false, .int .u64 0, .int .u64 0, .bool false, .int .u64 0, .int .u64 0, .int .i64 0, .int .i64 0, .int .i64 sz]) w2.heap.size 58 #[.bool v6, .int .i64 17, .bool s6, .int .u64 sh, .int .u64 sl, .bool d6, .int .u64 dh, .int .u64 dl, .int .i64 0, .int .i64 0, .int .i64 ttl, .int .i64 0, .bool false, .int .i64 0, .bool false, .int .u64 0, .int .u64 0, .bool false, .int .u64 0, .int .u64 0, .int .i64 0, .int .i64 0, .int .i64 sz] from blkRow KN.out _)
  have BR := Lib.hid (show Below w2.heap.size w2 ((w2.alloc (.cells Z 58)).setRow w2.heap.size #[.bool v6, .int .i64 17, .bool s6, .int .u64 sh, .int .u64 sl, .bool d6, .int .u64 dh, .int .u64 dl, .int .i64 0, .int .i64 0, .int .i64 ttl, .int .i64 0, .bool false, .int .i64 0, .bool false, .int .u64 0, .int .u64 0, .bool false, .int .u64 0, .int .u64 0, .int .i64 0, .int .i64 0, .int .i64 sz]) from (onlyRow _).from ((Below.refl _ _).alloc (Nat.le_refl _) _) (Nat.le_refl _))
  obtain ⟨w3, hw3⟩ : ∃ w3, w3 = (w2.alloc (.cells Z 58)).setRow w2.heap.size #[.bool v6, .int .i64 17, .bool s6, .int .u64 sh, .int .u64 sl, .bool d6, .int .u64 dh, .int .u64 dl, .int .i64 0, .int .i64 0, .int .i64 ttl, .int .i64 0, .bool false, .int .i64 0, .bool false, .int .u64 0, .int .u64 0, .bool false, .int .u64 0, .int .u64 0, .int .i64 0, .int .i64 0, .int .i64 sz] := ⟨_, rfl⟩
  have E3 := Lib.hid hw3
  have B23 := Lib.hid (show Below w2.heap.size w2 w3 from by rw [hw3]; exact BR.out)
  have B13 := Lib.hid (hb2.trans (B23.out.mono hb2.size))
  have KP3 := Lib.hid (show Blk w3 g 58 #[.bool v6, .int .i64 17, .bool s6, .int .u64 sh, .int .u64 sl, .bool d6, .int .u64 dh, .int .u64 dl, .int .i64 0, .int .i64 0, .int .i64 ttl, .int .i64 0, .bool false, .int .i64 0, .bool false, .int .u64 0, .int .u64 0, .bool false, .int .u64 0, .int .u64 0, .int .i64 0, .int .i64 0, .int .i64 sz] from by rw [hw3, hg]; exact KR.out)
  have KQ3 := Lib.hid (KQ1.out.below B13.out KQ1.out.lt)
  have B3 := Lib.hid (B1.out.trans (B13.out.mono B1.out.size))
  have HR3 := Lib.hid (hr.below B23.out)
  have HP3 := Lib.hid (hp.below B23.out)
  have NE := Lib.hid (show g ≠ q from by have := KQ1.out.lt; have := hb2.size; omega)
  have GW := Lib.hid (show w.heap.size ≤ g from by have := B1.out.size; have := hb2.size; omega)
  clear hw3 hb2 hr hp hg
  go_upto_region 2 with (refine wpList_store_row rfl 58 _ _ rfl w2.heap.size #[.bool v6, .int .i64 17, .bool s6, .int .u64 sh, .int .u64 sl, .bool d6, .int .u64 dh, .int .u64 dl, .int .i64 0, .int .i64 0, .int .i64 ttl, .int .i64 0, .bool false, .int .i64 0, .bool false, .int .u64 0, .int .u64 0, .bool false, .int .u64 0, .int .u64 0, .int .i64 0, .int .i64 0, .int .i64 sz] rfl rfl 58 Z KN.out HI.out ZS.out (by kernel_rfl) ?_)
  rw [← E3.out, ← EG.out]
  have p0 := KP3.out.cell 0
  have p1 := KP3.out.cell 1
  have PC := Lib.hid (HT.out w3 AR cr AP np cp B3.out HR3.out HP3.out)
  go_wp2_with fail
  refine PC.out.mono ?_
  rintro o w4 ⟨hb4, bb, vv, rfl⟩
  obtain ⟨w5, hw5⟩ : ∃ w5, w5 = w4.alloc (.cells #[.int .i64 sp, .int .i64 dp, .bool bb] 94) := ⟨_, rfl⟩
  obtain ⟨h, hh⟩ : ∃ h, h = w4.heap.size := ⟨_, rfl⟩
  have E5 := Lib.hid hw5
  have EH := Lib.hid hh
  have B45 := Lib.hid (show Below w4.heap.size w4 w5 from by rw [hw5]; exact (Below.refl _ _).alloc (Nat.le_refl _) _)
  have B35 := Lib.hid (hb4.trans (B45.out.mono hb4.size))
  have KH5 := Lib.hid (show Blk w5 h 94 #[.int .i64 sp, .int .i64 dp, .bool bb] from by rw [hw5, hh]; exact Blk.new w4 _ _)
  have KP5 := Lib.hid (KP3.out.below B35.out KP3.out.lt)
  have KQ5 := Lib.hid (KQ3.out.below B35.out KQ3.out.lt)
  have B5 := Lib.hid (B3.out.trans (B35.out.mono B3.out.size))
  have NGH := Lib.hid (show h ≠ g from by have := KP3.out.lt; have := hb4.size; omega)
  clear hw5 hb4 hh p0 p1
  go_upto_region 12 with fail
  rw [← E5.out, ← EH.out]
  have f0_ := KP5.out.cell 8
  have z0_ := KP5.out.frozen 8
  have l0_ := KH5.out.cell 0
  have K0_ : Blk (w5.setCell ⟨g, 8, none⟩ (.int .i64 sp)) g 58 #[.bool v6, .int .i64 17, .bool s6, .int .u64 sh, .int .u64 sl, .bool d6, .int .u64 dh, .int .u64 dl, .int .i64 sp, .int .i64 0, .int .i64 ttl, .int .i64 0, .bool false, .int .i64 0, .bool false, .int .u64 0, .int .u64 0, .bool false, .int .u64 0, .int .u64 0, .int .i64 0, .int .i64 0, .int .i64 sz] := KP5.out.set_ 8 _
  have H0_ : Blk (w5.setCell ⟨g, 8, none⟩ (.int .i64 sp)) h 94 #[.int .i64 sp, .int .i64 dp, .bool bb] := KH5.out.far (p := ⟨g, 8, none⟩) NGH.out _
  have f1_ := K0_.cell 9
  have z1_ := K0_.frozen 9
  have l1_ := H0_.cell 1
  have K1_ : Blk ((w5.setCell ⟨g, 8, none⟩ (.int .i64 sp)).setCell ⟨g, 9, none⟩ (.int .i64 dp)) g 58 #[.bool v6, .int .i64 17, .bool s6, .int .u64 sh, .int .u64 sl, .bool d6, .int .u64 dh, .int .u64 dl, .int .i64 sp, .int .i64 dp, .int .i64 ttl, .int .i64 0, .bool false, .int .i64 0, .bool false, .int .u64 0, .int .u64 0, .bool false, .int .u64 0, .int .u64 0, .int .i64 0, .int .i64 0, .int .i64 sz] := K0_.set_ 9 _
  have H1_ : Blk ((w5.setCell ⟨g, 8, none⟩ (.int .i64 sp)).setCell ⟨g, 9, none⟩ (.int .i64 dp)) h 94 #[.int .i64 sp, .int .i64 dp, .bool bb] := H0_.far (p := ⟨g, 9, none⟩) NGH.out _
  obtain ⟨w6, hw6⟩ : ∃ w6, w6 = ((w5.setCell ⟨g, 8, none⟩ (.int .i64 sp)).setCell ⟨g, 9, none⟩ (.int .i64 dp)) := ⟨_, rfl⟩
  have E6 := Lib.hid hw6
  have OG6 := Lib.hid (show OnlyG g w5 w6 from by rw [hw6]; exact (((OnlyG.refl g w5).set 8 (.int .i64 sp)).set 9 (.int .i64 dp)))
  have KP6 := Lib.hid (show Blk w6 g 58 #[.bool v6, .int .i64 17, .bool s6, .int .u64 sh, .int .u64 sl, .bool d6, .int .u64 dh, .int .u64 dl, .int .i64 sp, .int .i64 dp, .int .i64 ttl, .int .i64 0, .bool false, .int .i64 0, .bool false, .int .u64 0, .int .u64 0, .bool false, .int .u64 0, .int .u64 0, .int .i64 0, .int .i64 0, .int .i64 sz] from by rw [hw6]; exact K1_)
  have KQ6 := Lib.hid (OG6.out.blk KQ5.out (Ne.symm NE.out))
  have B6 := Lib.hid (OG6.out.from B5.out GW.out)
  clear hw6 K0_ H0_ K1_ H1_
  go_upto_region 14 with fail
  rw [← E6.out]
  clear f0_ z0_ l0_ f1_ z1_ l1_
  go_wp2_with (first
    | (refine wpList_load_row rfl 58 _ rfl g rfl 58 #[.bool v6, .int .i64 17, .bool s6, .int .u64 sh, .int .u64 sl, .bool d6, .int .u64 dh, .int .u64 dl, .int .i64 sp, .int .i64 dp, .int .i64 ttl, .int .i64 0, .bool false, .int .i64 0, .bool false, .int .u64 0, .int .u64 0, .bool false, .int .u64 0, .int .u64 0, .int .i64 0, .int .i64 0, .int .i64 sz] (0, 0) _ KP6.out Try.underlying58 rfl HI.out ?_)
    | (refine wpList_store_row rfl 58 _ _ rfl q #[.bool v6, .int .i64 17, .bool s6, .int .u64 sh, .int .u64 sl, .bool d6, .int .u64 dh, .int .u64 dl, .int .i64 sp, .int .i64 dp, .int .i64 ttl, .int .i64 0, .bool false, .int .i64 0, .bool false, .int .u64 0, .int .u64 0, .bool false, .int .u64 0, .int .u64 0, .int .i64 0, .int .i64 0, .int .i64 sz] rfl rfl 58 Z KQ6.out HI.out ZS.out (by kernel_rfl) ?_))
  refine bodyPost_ret (results_pk rfl _ _ q #[.bool v6, .int .i64 17, .bool s6, .int .u64 sh, .int .u64 sl, .bool d6, .int .u64 dh, .int .u64 dl, .int .i64 sp, .int .i64 dp, .int .i64 ttl, .int .i64 0, .bool false, .int .i64 0, .bool false, .int .u64 0, .int .u64 0, .bool false, .int .u64 0, .int .u64 0, .int .i64 0, .int .i64 0, .int .i64 sz] rfl (blkRow KQ6.out _) rfl) rfl ?_
  exact ⟨rfl, (onlyRow _).from B6.out (by have := EQ.out; omega)⟩
set_option maxHeartbeats 8000000 in
set_option maxRecDepth 100000 in
theorem lp_icmp4_pno (e : Int) (he : e ≠ 0) (s6 : Bool) (sh sl : Int) (d6 : Bool) (dh dl ttl sz : Int) (A : Option Addr) (n c m : Nat) (r ps : List Int) (w : World)
    (HO : Hid (∀ V, Below w.heap.size w V → Calls Try.prog 58 #[.slice A n c] V fun o w' => Below V.heap.size V w' ∧ ∃ (AR : Option Addr) (cr : Nat) (AP : Option Addr) (np cp : Nat), o = .returned (.tuple #[.agg #[.bool false, .int .i64 1, .bool s6, .int .u64 sh, .int .u64 sl, .bool d6, .int .u64 dh, .int .u64 dl, .int .i64 0, .int .i64 0, .int .i64 ttl, .int .i64 0, .bool false, .int .i64 0, .bool false, .int .u64 0, .int .u64 0, .bool false, .int .u64 0, .int .u64 0, .int .i64 0, .int .i64 0, .int .i64 sz], .slice AR m cr, .slice AP np cp, .int .i64 0]) ∧ Sl w' AR m cr r ∧ Sl w' AP np cp ps))
    (HT : Hid (∀ V AR cr AP np cp, Below w.heap.size w V → Sl V AR m cr r → Sl V AP np cp [] → Calls Try.prog 61 #[.slice AR m cr, .slice AP np cp] V fun o w' => o = .returned (.tuple #[.agg #[.int .i64 0, .int .i64 0, .int .u32 0, .slice none 0 0], .int .i64 e]) ∧ Below V.heap.size V w')) :
    Calls Try.prog 29 #[.slice A n c] w fun o w' => o = .returned (.tuple #[.agg #[.bool false, .int .i64 0, .bool false, .int .u64 0, .int .u64 0, .bool false, .int .u64 0, .int .u64 0, .int .i64 0, .int .i64 0, .int .i64 0, .int .i64 0, .bool false, .int .i64 0, .bool false, .int .u64 0, .int .u64 0, .bool false, .int .u64 0, .int .u64 0, .int .i64 0, .int .i64 0, .int .i64 0], .int .i64 e]) ∧ Below w.heap.size w w' := by
  have te : (e != 0) = true := by simpa using he
  have te2 : (e == 0) = false := by simpa using he
  clear he
  obtain ⟨Z, hZ⟩ : ∃ Z : Array Value, Z = #[.bool false, .int .i64 0, .bool false, .int .u64 0, .int .u64 0, .bool false, .int .u64 0, .int .u64 0, .int .i64 0, .int .i64 0, .int .i64 0, .int .i64 0, .bool false, .int .i64 0, .bool false, .int .u64 0, .int .u64 0, .bool false, .int .u64 0, .int .u64 0, .int .i64 0, .int .i64 0, .int .i64 0] := ⟨_, rfl⟩
  have hz : ∀ w : World, (zeroValue 58).run Try.prog w = .ok (.agg Z) w := by rw [hZ]; exact (zero_of_info pktF.zeroPkI).1
  have zs : Z.size = 23 := by rw [hZ]; rfl
  have zs2 : ¬ Z = #[] := by intro h; rw [h] at zs; cases zs
  have ZS := Lib.hid zs
  have HZ := Lib.hid hZ
  have ZO := Lib.hid (show Z.all (·.oneCell') = true from by rw [hZ]; kernel_rfl)
  clear hZ
  obtain ⟨w1, hw1⟩ : ∃ w1, w1 = w.alloc (.cells Z 58) := ⟨_, rfl⟩
  have E1 := Lib.hid hw1
  have B1 := Lib.hid (show Below w.heap.size w w1 from by rw [hw1]; exact (Below.refl _ _).alloc (Nat.le_refl _) _)
  obtain ⟨q, hq⟩ : ∃ q, q = w.heap.size := ⟨_, rfl⟩
  have EQ := Lib.hid hq
  have KQ1 := Lib.hid (show Blk w1 q 58 Z from by rw [hw1, hq]; exact Blk.new w _ _)
  have HI := Lib.hid pk_size
  have HIZ := Lib.hid (show (Try.prog.info? 58).map (·.size) = some Z.size from by rw [zs]; exact pk_size)
  clear hw1 hq
  go_enter Try.func29, Try.ntmps29
  go_upto_region 1 with fail
  rw [← E1.out, ← EQ.out]
  go_wp2_with fail
  refine (HO.out _ B1.out).mono ?_
  rintro o w2 ⟨hb2, AR, cr, AP, np, cp, rfl, hr, hp⟩
  obtain ⟨g, hg⟩ : ∃ g, g = w2.heap.size := ⟨_, rfl⟩
  have EG := Lib.hid hg
  have KN := Lib.hid (show Blk (w2.alloc (.cells Z 58)) w2.heap.size 58 Z from Blk.new w2 _ _)
  have KR := Lib.hid (show Blk ((w2.alloc (.cells Z 58)).setRow w2.heap.size #[.bool false, .int .i64 1, .bool s6, .int .u64 sh, .int .u64 sl, .bool d6, .int .u64 dh, .int .u64 dl, .int .i64 0, .int .i64 0, .int .i64 ttl, .int .i64 0, .bool false, .int .i64 0, .bool false, .int .u64 0, .int .u64 0, .bool false, .int .u64 0, .int .u64 0, .int .i64 0, .int .i64 0, .int .i64 sz]) w2.heap.size 58 #[.bool false, .int .i64 1, .bool s6, .int .u64 sh, .int .u64 sl, .bool d6, .int .u64 dh, .int .u64 dl, .int .i64 0, .int .i64 0, .int .i64 ttl, .int .i64 0, .bool false, .int .i64 0, .bool false, .int .u64 0, .int .u64 0, .bool false, .int .u64 0, .int .u64 0, .int .i64 0, .int .i64 0, .int .i64 sz] from blkRow KN.out _)
  have BR := Lib.hid (show Below w2.heap.size w2 ((w2.alloc (.cells Z 58)).setRow w2.heap.size #[.bool false, .int .i64 1, .bool s6, .int .u64 sh, .int .u64 sl, .bool d6, .int .u64 dh, .int .u64 dl, .int .i64 0, .int .i64 0, .int .i64 ttl, .int .i64 0, .bool false, .int .i64 0, .bool false, .int .u64 0, .int .u64 0, .bool false, .int .u64 0, .int .u64 0, .int .i64 0, .int .i64 0, .int .i64 sz]) from (onlyRow _).from ((Below.refl _ _).alloc (Nat.le_refl _) _) (Nat.le_refl _))
  obtain ⟨w3, hw3⟩ : ∃ w3, w3 = (w2.alloc (.cells Z 58)).setRow w2.heap.size #[.bool false, .int .i64 1, .bool s6, .int .u64 sh, .int .u64 sl, .bool d6, .int .u64 dh, .int .u64 dl, .int .i64 0, .int .i64 0, .int .i64 ttl, .int .i64 0, .bool false, .int .i64 0, .bool false, .int .u64 0, .int .u64 0, .bool false, .int .u64 0, .int .u64 0, .int .i64 0, .int .i64 0, .int .i64 sz] := ⟨_, rfl⟩
  have E3 := Lib.hid hw3
  have B23 := Lib.hid (show Below w2.heap.size w2 w3 from by rw [hw3]; exact BR.out)
  have B13 := Lib.hid (hb2.trans (B23.out.mono hb2.size))
  have KP3 := Lib.hid (show Blk w3 g 58 #[.bool false, .int .i64 1, .bool s6, .int .u64 sh, .int .u64 sl, .bool d6, .int .u64 dh, .int .u64 dl, .int .i64 0, .int .i64 0, .int .i64 ttl, .int .i64 0, .bool false, .int .i64 0, .bool false, .int .u64 0, .int .u64 0, .bool false, .int .u64 0, .int .u64 0, .int .i64 0, .int .i64 0, .int .i64 sz] from by rw [hw3, hg]; exact KR.out)
  have KQ3 := Lib.hid (KQ1.out.below B13.out KQ1.out.lt)
  have B3 := Lib.hid (B1.out.trans (B13.out.mono B1.out.size))
  have HR3 := Lib.hid (hr.below B23.out)
  have HP3 := Lib.hid (hp.below B23.out)
  have NE := Lib.hid (show g ≠ q from by have := KQ1.out.lt; have := hb2.size; omega)
  have GW := Lib.hid (show w.heap.size ≤ g from by have := B1.out.size; have := hb2.size; omega)
  clear hw3 hb2 hr hp hg
  go_upto_region 2 with (refine wpList_store_row rfl 58 _ _ rfl w2.heap.size #[.bool false, .int .i64 1, .bool s6, .int .u64 sh, .int .u64 sl, .bool d6, .int .u64 dh, .int .u64 dl, .int .i64 0, .int .i64 0, .int .i64 ttl, .int .i64 0, .bool false, .int .i64 0, .bool false, .int .u64 0, .int .u64 0, .bool false, .int .u64 0, .int .u64 0, .int .i64 0, .int .i64 0, .int .i64 sz] rfl rfl 58 Z KN.out HI.out ZS.out (by kernel_rfl) ?_)
  rw [← E3.out, ← EG.out]
  have p0 := KP3.out.cell 0
  have p1 := KP3.out.cell 1
  have PC := Lib.hid (HT.out w3 AR cr none 0 0 B3.out HR3.out (Sl.none_ _))
  go_wp2_with fail
  refine PC.out.mono ?_
  rintro o w4 ⟨rfl, hb4⟩
  obtain ⟨w5, hw5⟩ : ∃ w5, w5 = w4.alloc (.cells #[.int .i64 0, .int .i64 0, .int .u32 0, .slice none 0 0] 46) := ⟨_, rfl⟩
  obtain ⟨h, hh⟩ : ∃ h, h = w4.heap.size := ⟨_, rfl⟩
  have E5 := Lib.hid hw5
  have EEh := Lib.hid hh
  have BC5 := Lib.hid (show Below w4.heap.size w4 w5 from by rw [hw5]; exact (Below.refl _ _).alloc (Nat.le_refl _) _)
  have BB5 := Lib.hid (hb4.trans (BC5.out.mono hb4.size))
  have KM5 := Lib.hid (show Blk w5 h 46 #[.int .i64 0, .int .i64 0, .int .u32 0, .slice none 0 0] from by rw [hw5, hh]; exact Blk.new w4 _ _)
  have KP5 := Lib.hid (KP3.out.below BB5.out KP3.out.lt)
  have KQ5 := Lib.hid (KQ3.out.below BB5.out KQ3.out.lt)
  have B5 := Lib.hid (B3.out.trans (BB5.out.mono B3.out.size))
  clear hw5 hb4 hh p0 p1
  go_upto_region 19 with fail
  rw [← E5.out, ← EEh.out]
  go_wp2_with (refine wpList_store_row rfl 58 _ _ rfl q Z rfl rfl 58 Z KQ5.out HIZ.out rfl ZO.out ?_)
  refine bodyPost_ret (results_pk rfl _ _ q Z rfl (blkRow KQ5.out _) ZS.out) rfl ?_
  exact ⟨by rw [HZ.out]; rfl, (onlyRow _).from B5.out (by have := EQ.out; omega)⟩
set_option maxHeartbeats 8000000 in
set_option maxRecDepth 100000 in
theorem lp_icmp4_no (ty co apr : Int) (as6 : Bool) (ash asl : Int) (ad6 : Bool) (adh adl asp adp : Int) (e : Int) (he : e ≠ 0) (s6 : Bool) (sh sl : Int) (d6 : Bool) (dh dl ttl sz : Int) (A : Option Addr) (n c m : Nat) (r ps : List Int) (w : World)
    (HO : Hid (∀ V, Below w.heap.size w V → Calls Try.prog 58 #[.slice A n c] V fun o w' => Below V.heap.size V w' ∧ ∃ (AR : Option Addr) (cr : Nat) (AP : Option Addr) (np cp : Nat), o = .returned (.tuple #[.agg #[.bool false, .int .i64 1, .bool s6, .int .u64 sh, .int .u64 sl, .bool d6, .int .u64 dh, .int .u64 dl, .int .i64 0, .int .i64 0, .int .i64 ttl, .int .i64 0, .bool false, .int .i64 0, .bool false, .int .u64 0, .int .u64 0, .bool false, .int .u64 0, .int .u64 0, .int .i64 0, .int .i64 0, .int .i64 sz], .slice AR m cr, .slice AP np cp, .int .i64 0]) ∧ Sl w' AR m cr r ∧ Sl w' AP np cp ps))
    (HT : Hid (∀ V AR cr AP np cp, Below w.heap.size w V → Sl V AR m cr r → Sl V AP np cp [] → Calls Try.prog 61 #[.slice AR m cr, .slice AP np cp] V fun o w' => Below V.heap.size V w' ∧ ∃ (wd : Int) (Am : Option Addr) (nm cm : Nat), o = .returned (.tuple #[.agg #[.int .i64 ty, .int .i64 co, .int .u32 wd, .slice Am nm cm], .int .i64 0]) ∧ ∀ V2, Below w'.heap.size w' V2 → Calls Try.prog 22 #[.bool false, .agg #[.int .i64 ty, .int .i64 co, .int .u32 wd, .slice Am nm cm]] V2 fun o w' => o = .returned (.tuple #[.agg #[.int .i64 apr, .bool as6, .int .u64 ash, .int .u64 asl, .bool ad6, .int .u64 adh, .int .u64 adl, .int .i64 asp, .int .i64 adp], .int .i64 e]) ∧ Below V2.heap.size V2 w')) :
    Calls Try.prog 29 #[.slice A n c] w fun o w' => o = .returned (.tuple #[.agg #[.bool false, .int .i64 0, .bool false, .int .u64 0, .int .u64 0, .bool false, .int .u64 0, .int .u64 0, .int .i64 0, .int .i64 0, .int .i64 0, .int .i64 0, .bool false, .int .i64 0, .bool false, .int .u64 0, .int .u64 0, .bool false, .int .u64 0, .int .u64 0, .int .i64 0, .int .i64 0, .int .i64 0], .int .i64 e]) ∧ Below w.heap.size w w' := by
  have te : (e != 0) = true := by simpa using he
  have te2 : (e == 0) = false := by simpa using he
  clear he
  obtain ⟨Z, hZ⟩ : ∃ Z : Array Value, Z = #[.bool false, .int .i64 0, .bool false, .int .u64 0, .int .u64 0, .bool false, .int .u64 0, .int .u64 0, .int .i64 0, .int .i64 0, .int .i64 0, .int .i64 0, .bool false, .int .i64 0, .bool false, .int .u64 0, .int .u64 0, .bool false, .int .u64 0, .int .u64 0, .int .i64 0, .int .i64 0, .int .i64 0] := ⟨_, rfl⟩
  have hz : ∀ w : World, (zeroValue 58).run Try.prog w = .ok (.agg Z) w := by rw [hZ]; exact (zero_of_info pktF.zeroPkI).1
  have zs : Z.size = 23 := by rw [hZ]; rfl
  have zs2 : ¬ Z = #[] := by intro h; rw [h] at zs; cases zs
  have ZS := Lib.hid zs
  have HZ := Lib.hid hZ
  have ZO := Lib.hid (show Z.all (·.oneCell') = true from by rw [hZ]; kernel_rfl)
  clear hZ
  obtain ⟨w1, hw1⟩ : ∃ w1, w1 = w.alloc (.cells Z 58) := ⟨_, rfl⟩
  have E1 := Lib.hid hw1
  have B1 := Lib.hid (show Below w.heap.size w w1 from by rw [hw1]; exact (Below.refl _ _).alloc (Nat.le_refl _) _)
  obtain ⟨q, hq⟩ : ∃ q, q = w.heap.size := ⟨_, rfl⟩
  have EQ := Lib.hid hq
  have KQ1 := Lib.hid (show Blk w1 q 58 Z from by rw [hw1, hq]; exact Blk.new w _ _)
  have HI := Lib.hid pk_size
  have HIZ := Lib.hid (show (Try.prog.info? 58).map (·.size) = some Z.size from by rw [zs]; exact pk_size)
  clear hw1 hq
  go_enter Try.func29, Try.ntmps29
  go_upto_region 1 with fail
  rw [← E1.out, ← EQ.out]
  go_wp2_with fail
  refine (HO.out _ B1.out).mono ?_
  rintro o w2 ⟨hb2, AR, cr, AP, np, cp, rfl, hr, hp⟩
  obtain ⟨g, hg⟩ : ∃ g, g = w2.heap.size := ⟨_, rfl⟩
  have EG := Lib.hid hg
  have KN := Lib.hid (show Blk (w2.alloc (.cells Z 58)) w2.heap.size 58 Z from Blk.new w2 _ _)
  have KR := Lib.hid (show Blk ((w2.alloc (.cells Z 58)).setRow w2.heap.size #[.bool false, .int .i64 1, .bool s6, .int .u64 sh, .int .u64 sl, .bool d6, .int .u64 dh, .int .u64 dl, .int .i64 0, .int .i64 0, .int .i64 ttl, .int .i64 0, .bool false, .int .i64 0, .bool false, .int .u64 0, .int .u64 0, .bool false, .int .u64 0, .int .u64 0, .int .i64 0, .int .i64 0, .int .i64 sz]) w2.heap.size 58 #[.bool false, .int .i64 1, .bool s6, .int .u64 sh, .int .u64 sl, .bool d6, .int .u64 dh, .int .u64 dl, .int .i64 0, .int .i64 0, .int .i64 ttl, .int .i64 0, .bool false, .int .i64 0, .bool false, .int .u64 0, .int .u64 0, .bool false, .int .u64 0, .int .u64 0, .int .i64 0, .int .i64 0, .int .i64 sz] from blkRow KN.out _)
  have BR := Lib.hid (show Below w2.heap.size w2 ((w2.alloc (.cells Z 58)).setRow w2.heap.size #[.bool false, .int .i64 1, .bool s6, .int .u64 sh, .int .u64 sl, .bool d6, .int .u64 dh, .int .u64 dl, .int .i64 0, .int .i64 0, .int .i64 ttl, .int .i64 0, .bool false, .int .i64 0, .bool false, .int .u64 0, .int .u64 0, .bool false, .int .u64 0, .int .u64 0, .int .i64 0, .int .i64 0, .int .i64 sz]) from (onlyRow _).from ((Below.refl _ _).alloc (Nat.le_refl _) _) (Nat.le_refl _))
  obtain ⟨w3, hw3⟩ : ∃ w3, w3 = (w2.alloc (.cells Z 58)).setRow w2.heap.size #[.bool false, .int .i64 1, .bool s6, .int .u64 sh, .int .u64 sl, .bool d6, .int .u64 dh, .int .u64 dl, .int .i64 0, .int .i64 0, .int .i64 ttl, .int .i64 0, .bool false, .int .i64 0, .bool false, .int .u64 0, .int .u64 0, .bool false, .int .u64 0, .int .u64 0, .int .i64 0, .int .i64 0, .int .i64 sz] := ⟨_, rfl⟩
  have E3 := Lib.hid hw3
  have B23 := Lib.hid (show Below w2.heap.size w2 w3 from by rw [hw3]; exact BR.out)
  have B13 := Lib.hid (hb2.trans (B23.out.mono hb2.size))
  have KP3 := Lib.hid (show Blk w3 g 58 #[.bool false, .int .i64 1, .bool s6, .int .u64 sh, .int .u64 sl, .bool d6, .int .u64 dh, .int .u64 dl, .int .i64 0, .int .i64 0, .int .i64 ttl, .int .i64 0, .bool false, .int .i64 0, .bool false, .int .u64 0, .int .u64 0, .bool false, .int .u64 0, .int .u64 0, .int .i64 0, .int .i64 0, .int .i64 sz] from by rw [hw3, hg]; exact KR.out)
  have KQ3 := Lib.hid (KQ1.out.below B13.out KQ1.out.lt)
  have B3 := Lib.hid (B1.out.trans (B13.out.mono B1.out.size))
  have HR3 := Lib.hid (hr.below B23.out)
  have HP3 := Lib.hid (hp.below B23.out)
  have NE := Lib.hid (show g ≠ q from by have := KQ1.out.lt; have := hb2.size; omega)
  have GW := Lib.hid (show w.heap.size ≤ g from by have := B1.out.size; have := hb2.size; omega)
  clear hw3 hb2 hr hp hg
  go_upto_region 2 with (refine wpList_store_row rfl 58 _ _ rfl w2.heap.size #[.bool false, .int .i64 1, .bool s6, .int .u64 sh, .int .u64 sl, .bool d6, .int .u64 dh, .int .u64 dl, .int .i64 0, .int .i64 0, .int .i64 ttl, .int .i64 0, .bool false, .int .i64 0, .bool false, .int .u64 0, .int .u64 0, .bool false, .int .u64 0, .int .u64 0, .int .i64 0, .int .i64 0, .int .i64 sz] rfl rfl 58 Z KN.out HI.out ZS.out (by kernel_rfl) ?_)
  rw [← E3.out, ← EG.out]
  have p0 := KP3.out.cell 0
  have p1 := KP3.out.cell 1
  have PC := Lib.hid (HT.out w3 AR cr none 0 0 B3.out HR3.out (Sl.none_ _))
  go_wp2_with fail
  refine PC.out.mono ?_
  rintro o w4 ⟨hb4, wd, Am, nm, cm, rfl, hq⟩
  have HQ := Lib.hid hq
  clear hq
  obtain ⟨w5, hw5⟩ : ∃ w5, w5 = w4.alloc (.cells #[.int .i64 ty, .int .i64 co, .int .u32 wd, .slice Am nm cm] 46) := ⟨_, rfl⟩
  obtain ⟨h, hh⟩ : ∃ h, h = w4.heap.size := ⟨_, rfl⟩
  have E5 := Lib.hid hw5
  have EEh := Lib.hid hh
  have BC5 := Lib.hid (show Below w4.heap.size w4 w5 from by rw [hw5]; exact (Below.refl _ _).alloc (Nat.le_refl _) _)
  have BB5 := Lib.hid (hb4.trans (BC5.out.mono hb4.size))
  have KM5 := Lib.hid (show Blk w5 h 46 #[.int .i64 ty, .int .i64 co, .int .u32 wd, .slice Am nm cm] from by rw [hw5, hh]; exact Blk.new w4 _ _)
  have KP5 := Lib.hid (KP3.out.below BB5.out KP3.out.lt)
  have KQ5 := Lib.hid (KQ3.out.below BB5.out KQ3.out.lt)
  have B5 := Lib.hid (B3.out.trans (BB5.out.mono B3.out.size))
  clear hw5 hb4 hh p0 p1
  go_upto_region 19 with fail
  rw [← E5.out, ← EEh.out]
  have p0 := KP5.out.cell 0
  have m0 := KM5.out.cell 0
  have m1 := KM5.out.cell 1
  have m2 := KM5.out.cell 2
  have m3 := KM5.out.cell 3
  go_wp2_with fail
  refine (HQ.out _ BC5.out).mono ?_
  rintro o w6 ⟨rfl, hb6⟩
  obtain ⟨w7, hw7⟩ : ∃ w7, w7 = w6.alloc (.cells #[.int .i64 apr, .bool as6, .int .u64 ash, .int .u64 asl, .bool ad6, .int .u64 adh, .int .u64 adl, .int .i64 asp, .int .i64 adp] 48) := ⟨_, rfl⟩
  obtain ⟨t, ht⟩ : ∃ t, t = w6.heap.size := ⟨_, rfl⟩
  have E7 := Lib.hid hw7
  have EEt := Lib.hid ht
  have BC7 := Lib.hid (show Below w6.heap.size w6 w7 from by rw [hw7]; exact (Below.refl _ _).alloc (Nat.le_refl _) _)
  have BB7 := Lib.hid (hb6.trans (BC7.out.mono hb6.size))
  have KT7 := Lib.hid (show Blk w7 t 48 #[.int .i64 apr, .bool as6, .int .u64 ash, .int .u64 asl, .bool ad6, .int .u64 adh, .int .u64 adl, .int .i64 asp, .int .i64 adp] from by rw [hw7, ht]; exact Blk.new w6 _ _)
  have KP7 := Lib.hid (KP5.out.below BB7.out KP5.out.lt)
  have KQ7 := Lib.hid (KQ5.out.below BB7.out KQ5.out.lt)
  have B7 := Lib.hid (B5.out.trans (BB7.out.mono B5.out.size))
  have NGT := Lib.hid (show t ≠ g from by have := KP5.out.lt; have := hb6.size; omega)
  clear hw7 hb6 ht p0 m0 m1 m2 m3
  go_upto_region 22 with fail
  rw [← E7.out, ← EEt.out]
  have p12 := KP7.out.cell 12
  have z12 := KP7.out.frozen 12
  obtain ⟨w8, hw8⟩ : ∃ w8, w8 = w7.setCell ⟨g, 12, none⟩ (.bool true) := ⟨_, rfl⟩
  have E8 := Lib.hid hw8
  have OG8 := Lib.hid (show OnlyG g w7 w8 from by rw [hw8]; exact (OnlyG.refl _ _).set 12 _)
  have KP8 := Lib.hid (show Blk w8 g 58 #[.bool false, .int .i64 1, .bool s6, .int .u64 sh, .int .u64 sl, .bool d6, .int .u64 dh, .int .u64 dl, .int .i64 0, .int .i64 0, .int .i64 ttl, .int .i64 0, .bool true, .int .i64 0, .bool false, .int .u64 0, .int .u64 0, .bool false, .int .u64 0, .int .u64 0, .int .i64 0, .int .i64 0, .int .i64 sz] from by rw [hw8]; exact KP7.out.set_ 12 _)
  have KQ8 := Lib.hid (OG8.out.blk KQ7.out (Ne.symm NE.out))
  have KT8 := Lib.hid (OG8.out.blk KT7.out NGT.out)
  have B8 := Lib.hid (OG8.out.from B7.out GW.out)
  clear hw8
  go_upto_region 23 with fail
  rw [← E8.out]
  clear p12 z12
  have q0 := KT8.out.cell 0
  have q1 := KT8.out.cell 1
  have q2 := KT8.out.cell 2
  have q3 := KT8.out.cell 3
  have q4 := KT8.out.cell 4
  have q5 := KT8.out.cell 5
  have q6 := KT8.out.cell 6
  have q7 := KT8.out.cell 7
  have q8 := KT8.out.cell 8
  go_wp2_with fail
  refine (icmpA.back_any apr as6 ash asl ad6 adh adl asp adp w8).mono ?_
  rintro o w9 ⟨rfl, hb9⟩
  have KP9 := Lib.hid (KP8.out.below hb9 KP8.out.lt)
  have KQ9 := Lib.hid (KQ8.out.below hb9 KQ8.out.lt)
  have B9 := Lib.hid (B8.out.trans (hb9.mono B8.out.size))
  clear hb9 q0 q1 q2 q3 q4 q5 q6 q7 q8
  have y13 := KP9.out.cell 13
  have z13 := KP9.out.frozen 13
  have y14 := KP9.out.cell 14
  have z14 := KP9.out.frozen 14
  have y15 := KP9.out.cell 15
  have z15 := KP9.out.frozen 15
  have y16 := KP9.out.cell 16
  have z16 := KP9.out.frozen 16
  have y17 := KP9.out.cell 17
  have z17 := KP9.out.frozen 17
  have y18 := KP9.out.cell 18
  have z18 := KP9.out.frozen 18
  have y19 := KP9.out.cell 19
  have z19 := KP9.out.frozen 19
  have y20 := KP9.out.cell 20
  have z20 := KP9.out.frozen 20
  have y21 := KP9.out.cell 21
  have z21 := KP9.out.frozen 21
  have k0 : Blk (w9.setCell ⟨g, 13, none⟩ (.int .i64 apr)) g 58 #[.bool false, .int .i64 1, .bool s6, .int .u64 sh, .int .u64 sl, .bool d6, .int .u64 dh, .int .u64 dl, .int .i64 0, .int .i64 0, .int .i64 ttl, .int .i64 0, .bool true, .int .i64 apr, .bool false, .int .u64 0, .int .u64 0, .bool false, .int .u64 0, .int .u64 0, .int .i64 0, .int .i64 0, .int .i64 sz] := KP9.out.set_ 13 _
  have k1 : Blk ((w9.setCell ⟨g, 13, none⟩ (.int .i64 apr)).setCell ⟨g, 14, none⟩ (.bool ad6)) g 58 #[.bool false, .int .i64 1, .bool s6, .int .u64 sh, .int .u64 sl, .bool d6, .int .u64 dh, .int .u64 dl, .int .i64 0, .int .i64 0, .int .i64 ttl, .int .i64 0, .bool true, .int .i64 apr, .bool ad6, .int .u64 0, .int .u64 0, .bool false, .int .u64 0, .int .u64 0, .int .i64 0, .int .i64 0, .int .i64 sz] := k0.set_ 14 _
  have k2 : Blk (((w9.setCell ⟨g, 13, none⟩ (.int .i64 apr)).setCell ⟨g, 14, none⟩ (.bool ad6)).setCell ⟨g, 15, none⟩ (.int .u64 adh)) g 58 #[.bool false, .int .i64 1, .bool s6, .int .u64 sh, .int .u64 sl, .bool d6, .int .u64 dh, .int .u64 dl, .int .i64 0, .int .i64 0, .int .i64 ttl, .int .i64 0, .bool true, .int .i64 apr, .bool ad6, .int .u64 adh, .int .u64 0, .bool false, .int .u64 0, .int .u64 0, .int .i64 0, .int .i64 0, .int .i64 sz] := k1.set_ 15 _
  have k3 : Blk ((((w9.setCell ⟨g, 13, none⟩ (.int .i64 apr)).setCell ⟨g, 14, none⟩ (.bool ad6)).setCell ⟨g, 15, none⟩ (.int .u64 adh)).setCell ⟨g, 16, none⟩ (.int .u64 adl)) g 58 #[.bool false, .int .i64 1, .bool s6, .int .u64 sh, .int .u64 sl, .bool d6, .int .u64 dh, .int .u64 dl, .int .i64 0, .int .i64 0, .int .i64 ttl, .int .i64 0, .bool true, .int .i64 apr, .bool ad6, .int .u64 adh, .int .u64 adl, .bool false, .int .u64 0, .int .u64 0, .int .i64 0, .int .i64 0, .int .i64 sz] := k2.set_ 16 _
  have k4 : Blk (((((w9.setCell ⟨g, 13, none⟩ (.int .i64 apr)).setCell ⟨g, 14, none⟩ (.bool ad6)).setCell ⟨g, 15, none⟩ (.int .u64 adh)).setCell ⟨g, 16, none⟩ (.int .u64 adl)).setCell ⟨g, 17, none⟩ (.bool as6)) g 58 #[.bool false, .int .i64 1, .bool s6, .int .u64 sh, .int .u64 sl, .bool d6, .int .u64 dh, .int .u64 dl, .int .i64 0, .int .i64 0, .int .i64 ttl, .int .i64 0, .bool true, .int .i64 apr, .bool ad6, .int .u64 adh, .int .u64 adl, .bool as6, .int .u64 0, .int .u64 0, .int .i64 0, .int .i64 0, .int .i64 sz] := k3.set_ 17 _
  have k5 : Blk ((((((w9.setCell ⟨g, 13, none⟩ (.int .i64 apr)).setCell ⟨g, 14, none⟩ (.bool ad6)).setCell ⟨g, 15, none⟩ (.int .u64 adh)).setCell ⟨g, 16, none⟩ (.int .u64 adl)).setCell ⟨g, 17, none⟩ (.bool as6)).setCell ⟨g, 18, none⟩ (.int .u64 ash)) g 58 #[.bool false, .int .i64 1, .bool s6, .int .u64 sh, .int .u64 sl, .bool d6, .int .u64 dh, .int .u64 dl, .int .i64 0, .int .i64 0, .int .i64 ttl, .int .i64 0, .bool true, .int .i64 apr, .bool ad6, .int .u64 adh, .int .u64 adl, .bool as6, .int .u64 ash, .int .u64 0, .int .i64 0, .int .i64 0, .int .i64 sz] := k4.set_ 18 _
  have k6 : Blk (((((((w9.setCell ⟨g, 13, none⟩ (.int .i64 apr)).setCell ⟨g, 14, none⟩ (.bool ad6)).setCell ⟨g, 15, none⟩ (.int .u64 adh)).setCell ⟨g, 16, none⟩ (.int .u64 adl)).setCell ⟨g, 17, none⟩ (.bool as6)).setCell ⟨g, 18, none⟩ (.int .u64 ash)).setCell ⟨g, 19, none⟩ (.int .u64 asl)) g 58 #[.bool false, .int .i64 1, .bool s6, .int .u64 sh, .int .u64 sl, .bool d6, .int .u64 dh, .int .u64 dl, .int .i64 0, .int .i64 0, .int .i64 ttl, .int .i64 0, .bool true, .int .i64 apr, .bool ad6, .int .u64 adh, .int .u64 adl, .bool as6, .int .u64 ash, .int .u64 asl, .int .i64 0, .int .i64 0, .int .i64 sz] := k5.set_ 19 _
  have k7 : Blk ((((((((w9.setCell ⟨g, 13, none⟩ (.int .i64 apr)).setCell ⟨g, 14, none⟩ (.bool ad6)).setCell ⟨g, 15, none⟩ (.int .u64 adh)).setCell ⟨g, 16, none⟩ (.int .u64 adl)).setCell ⟨g, 17, none⟩ (.bool as6)).setCell ⟨g, 18, none⟩ (.int .u64 ash)).setCell ⟨g, 19, none⟩ (.int .u64 asl)).setCell ⟨g, 20, none⟩ (.int .i64 adp)) g 58 #[.bool false, .int .i64 1, .bool s6, .int .u64 sh, .int .u64 sl, .bool d6, .int .u64 dh, .int .u64 dl, .int .i64 0, .int .i64 0, .int .i64 ttl, .int .i64 0, .bool true, .int .i64 apr, .bool ad6, .int .u64 adh, .int .u64 adl, .bool as6, .int .u64 ash, .int .u64 asl, .int .i64 adp, .int .i64 0, .int .i64 sz] := k6.set_ 20 _
  have k8 : Blk (((((((((w9.setCell ⟨g, 13, none⟩ (.int .i64 apr)).setCell ⟨g, 14, none⟩ (.bool ad6)).setCell ⟨g, 15, none⟩ (.int .u64 adh)).setCell ⟨g, 16, none⟩ (.int .u64 adl)).setCell ⟨g, 17, none⟩ (.bool as6)).setCell ⟨g, 18, none⟩ (.int .u64 ash)).setCell ⟨g, 19, none⟩ (.int .u64 asl)).setCell ⟨g, 20, none⟩ (.int .i64 adp)).setCell ⟨g, 21, none⟩ (.int .i64 asp)) g 58 #[.bool false, .int .i64 1, .bool s6, .int .u64 sh, .int .u64 sl, .bool d6, .int .u64 dh, .int .u64 dl, .int .i64 0, .int .i64 0, .int .i64 ttl, .int .i64 0, .bool true, .int .i64 apr, .bool ad6, .int .u64 adh, .int .u64 adl, .bool as6, .int .u64 ash, .int .u64 asl, .int .i64 adp, .int .i64 asp, .int .i64 sz] := k7.set_ 21 _
  obtain ⟨w10, hw10⟩ : ∃ w10, w10 = (((((((((w9.setCell ⟨g, 13, none⟩ (.int .i64 apr)).setCell ⟨g, 14, none⟩ (.bool ad6)).setCell ⟨g, 15, none⟩ (.int .u64 adh)).setCell ⟨g, 16, none⟩ (.int .u64 adl)).setCell ⟨g, 17, none⟩ (.bool as6)).setCell ⟨g, 18, none⟩ (.int .u64 ash)).setCell ⟨g, 19, none⟩ (.int .u64 asl)).setCell ⟨g, 20, none⟩ (.int .i64 adp)).setCell ⟨g, 21, none⟩ (.int .i64 asp)) := ⟨_, rfl⟩
  have E10 := Lib.hid hw10
  have OG10 := Lib.hid (show OnlyG g w9 w10 from by rw [hw10]; exact ((((((((((OnlyG.refl g w9).set 13 (.int .i64 apr)).set 14 (.bool ad6)).set 15 (.int .u64 adh)).set 16 (.int .u64 adl)).set 17 (.bool as6)).set 18 (.int .u64 ash)).set 19 (.int .u64 asl)).set 20 (.int .i64 adp)).set 21 (.int .i64 asp)))
  have KP10 := Lib.hid (show Blk w10 g 58 #[.bool false, .int .i64 1, .bool s6, .int .u64 sh, .int .u64 sl, .bool d6, .int .u64 dh, .int .u64 dl, .int .i64 0, .int .i64 0, .int .i64 ttl, .int .i64 0, .bool true, .int .i64 apr, .bool ad6, .int .u64 adh, .int .u64 adl, .bool as6, .int .u64 ash, .int .u64 asl, .int .i64 adp, .int .i64 asp, .int .i64 sz] from by rw [hw10]; exact k8)
  have KQ10 := Lib.hid (OG10.out.blk KQ9.out (Ne.symm NE.out))
  have B10 := Lib.hid (OG10.out.from B9.out GW.out)
  clear hw10 k0 k1 k2 k3 k4 k5 k6 k7 k8
  go_upto_region 24 with fail
  rw [← E10.out]
  clear y13 z13 y14 z14 y15 z15 y16 z16 y17 z17 y18 z18 y19 z19 y20 z20 y21 z21
  go_wp2_with (refine wpList_store_row rfl 58 _ _ rfl q Z rfl rfl 58 Z KQ10.out HIZ.out rfl ZO.out ?_)
  refine bodyPost_ret (results_pk rfl _ _ q Z rfl (blkRow KQ10.out _) ZS.out) rfl ?_
  exact ⟨by rw [HZ.out]; rfl, (onlyRow _).from B10.out (by have := EQ.out; omega)⟩
set_option maxHeartbeats 8000000 in
set_option maxRecDepth 100000 in
theorem lp_icmp4_ok (ty co apr : Int) (as6 : Bool) (ash asl : Int) (ad6 : Bool) (adh adl asp adp : Int) (s6 : Bool) (sh sl : Int) (d6 : Bool) (dh dl ttl sz : Int) (A : Option Addr) (n c m : Nat) (r ps : List Int) (w : World)
    (HO : Hid (∀ V, Below w.heap.size w V → Calls Try.prog 58 #[.slice A n c] V fun o w' => Below V.heap.size V w' ∧ ∃ (AR : Option Addr) (cr : Nat) (AP : Option Addr) (np cp : Nat), o = .returned (.tuple #[.agg #[.bool false, .int .i64 1, .bool s6, .int .u64 sh, .int .u64 sl, .bool d6, .int .u64 dh, .int .u64 dl, .int .i64 0, .int .i64 0, .int .i64 ttl, .int .i64 0, .bool false, .int .i64 0, .bool false, .int .u64 0, .int .u64 0, .bool false, .int .u64 0, .int .u64 0, .int .i64 0, .int .i64 0, .int .i64 sz], .slice AR m cr, .slice AP np cp, .int .i64 0]) ∧ Sl w' AR m cr r ∧ Sl w' AP np cp ps))
    (HT : Hid (∀ V AR cr AP np cp, Below w.heap.size w V → Sl V AR m cr r → Sl V AP np cp [] → Calls Try.prog 61 #[.slice AR m cr, .slice AP np cp] V fun o w' => Below V.heap.size V w' ∧ ∃ (wd : Int) (Am : Option Addr) (nm cm : Nat), o = .returned (.tuple #[.agg #[.int .i64 ty, .int .i64 co, .int .u32 wd, .slice Am nm cm], .int .i64 0]) ∧ ∀ V2, Below w'.heap.size w' V2 → Calls Try.prog 22 #[.bool false, .agg #[.int .i64 ty, .int .i64 co, .int .u32 wd, .slice Am nm cm]] V2 fun o w' => o = .returned (.tuple #[.agg #[.int .i64 apr, .bool as6, .int .u64 ash, .int .u64 asl, .bool ad6, .int .u64 adh, .int .u64 adl, .int .i64 asp, .int .i64 adp], .int .i64 0]) ∧ Below V2.heap.size V2 w')) :
    Calls Try.prog 29 #[.slice A n c] w fun o w' => o = .returned (.tuple #[.agg #[.bool false, .int .i64 1, .bool s6, .int .u64 sh, .int .u64 sl, .bool d6, .int .u64 dh, .int .u64 dl, .int .i64 0, .int .i64 0, .int .i64 ttl, .int .i64 0, .bool true, .int .i64 apr, .bool ad6, .int .u64 adh, .int .u64 adl, .bool as6, .int .u64 ash, .int .u64 asl, .int .i64 adp, .int .i64 asp, .int .i64 sz], .int .i64 0]) ∧ Below w.heap.size w w' := by
  obtain ⟨Z, hZ⟩ : ∃ Z : Array Value, Z = #[.bool false, .int .i64 0, .bool false, .int .u64 0, .int .u64 0, .bool false, .int .u64 0, .int .u64 0, .int .i64 0, .int .i64 0, .int .i64 0, .int .i64 0, .bool false, .int .i64 0, .bool false, .int .u64 0, .int .u64 0, .bool false, .int .u64 0, .int .u64 0, .int .i64 0, .int .i64 0, .int .i64 0] := ⟨_, rfl⟩
  have hz : ∀ w : World, (zeroValue 58).run Try.prog w = .ok (.agg Z) w := by rw [hZ]; exact (zero_of_info pktF.zeroPkI).1
  have zs : Z.size = 23 := by rw [hZ]; rfl
  have zs2 : ¬ Z = #[] := by intro h; rw [h] at zs; cases zs
  have ZS := Lib.hid zs
  have HZ := Lib.hid hZ
  have ZO := Lib.hid (show Z.all (·.oneCell') = true from by rw [hZ]; kernel_rfl)
  clear hZ
  obtain ⟨w1, hw1⟩ : ∃ w1, w1 = w.alloc (.cells Z 58) := ⟨_, rfl⟩
  have E1 := Lib.hid hw1
  have B1 := Lib.hid (show Below w.heap.size w w1 from by rw [hw1]; exact (Below.refl _ _).alloc (Nat.le_refl _) _)
  obtain ⟨q, hq⟩ : ∃ q, q = w.heap.size := ⟨_, rfl⟩
  have EQ := Lib.hid hq
  have KQ1 := Lib.hid (show Blk w1 q 58 Z from by rw [hw1, hq]; exact Blk.new w _ _)
  have HI := Lib.hid pk_size
  have HIZ := Lib.hid (show (Try.prog.info? 58).map (·.size) = some Z.size from by rw [zs]; exact pk_size)
  clear hw1 hq
  go_enter Try.func29, Try.ntmps29
  go_upto_region 1 with fail
  rw [← E1.out, ← EQ.out]
  go_wp2_with fail
  refine (HO.out _ B1.out).mono ?_
  rintro o w2 ⟨hb2, AR, cr, AP, np, cp, rfl, hr, hp⟩
  obtain ⟨g, hg⟩ : ∃ g, g = w2.heap.size := ⟨_, rfl⟩
  have EG := Lib.hid hg
  have KN := Lib.hid (show Blk (w2.alloc (.cells Z 58)) w2.heap.size 58 Z from Blk.new w2 _ _)
  have KR := Lib.hid (show Blk ((w2.alloc (.cells Z 58)).setRow w2.heap.size #[.bool false, .int .i64 1, .bool s6, .int .u64 sh, .int .u64 sl, .bool d6, .int .u64 dh, .int .u64 dl, .int .i64 0, .int .i64 0, .int .i64 ttl, .int .i64 0, .bool false, .int .i64 0, .bool false, .int .u64 0, .int .u64 0, .bool false, .int .u64 0, .int .u64 0, .int .i64 0, .int .i64 0, .int .i64 sz]) w2.heap.size 58 #[.bool false, .int .i64 1, .bool s6, .int .u64 sh, .int .u64 sl, .bool d6, .int .u64 dh, .int .u64 dl, .int .i64 0, .int .i64 0, .int .i64 ttl, .int .i64 0, .bool false, .int .i64 0, .bool false, .int .u64 0, .int .u64 0, .bool false, .int .u64 0, .int .u64 0, .int .i64 0, .int .i64 0, .int .i64 sz] from blkRow KN.out _)
  have BR := Lib.hid (show Below w2.heap.size w2 ((w2.alloc (.cells Z 58)).setRow w2.heap.size #[.bool false, .int .i64 1, .bool s6, .int .u64 sh, .int .u64 sl, .bool d6, .int .u64 dh, .int .u64 dl, .int .i64 0, .int .i64 0, .int .i64 ttl, .int .i64 0, .bool false, .int .i64 0, .bool false, .int .u64 0, .int .u64 0, .bool false, .int .u64 0, .int .u64 0, .int .i64 0, .int .i64 0, .int .i64 sz]) from (onlyRow _).from ((Below.refl _ _).alloc (Nat.le_refl _) _) (Nat.le_refl _))
  obtain ⟨w3, hw3⟩ : ∃ w3, w3 = (w2.alloc (.cells Z 58)).setRow w2.heap.size #[.bool false, .int .i64 1, .bool s6, .int .u64 sh, .int .u64 sl, .bool d6, .int .u64 dh, .int .u64 dl, .int .i64 0, .int .i64 0, .int .i64 ttl, .int .i64 0, .bool false, .int .i64 0, .bool false, .int .u64 0, .int .u64 0, .bool false, .int .u64 0, .int .u64 0, .int .i64 0, .int .i64 0, .int .i64 sz] := ⟨_, rfl⟩
  have E3 := Lib.hid hw3
  have B23 := Lib.hid (show Below w2.heap.size w2 w3 from by rw [hw3]; exact BR.out)
  have B13 := Lib.hid (hb2.trans (B23.out.mono hb2.size))
  have KP3 := Lib.hid (show Blk w3 g 58 #[.bool false, .int .i64 1, .bool s6, .int .u64 sh, .int .u64 sl, .bool d6, .int .u64 dh, .int .u64 dl, .int .i64 0, .int .i64 0, .int .i64 ttl, .int .i64 0, .bool false, .int .i64 0, .bool false, .int .u64 0, .int .u64 0, .bool false, .int .u64 0, .int .u64 0, .int .i64 0, .int .i64 0, .int .i64 sz] from by rw [hw3, hg]; exact KR.out)
  have KQ3 := Lib.hid (KQ1.out.below B13.out KQ1.out.lt)
  have B3 := Lib.hid (B1.out.trans (B13.out.mono B1.out.size))
  have HR3 := Lib.hid (hr.below B23.out)
  have HP3 := Lib.hid (hp.below B23.out)
  have NE := Lib.hid (show g ≠ q from by have := KQ1.out.lt; have := hb2.size; omega)
  have GW := Lib.hid (show w.heap.size ≤ g from by have := B1.out.size; have := hb2.size; omega)
  clear hw3 hb2 hr hp hg
  go_upto_region 2 with (refine wpList_store_row rfl 58 _ _ rfl w2.heap.size #[.bool false, .int .i64 1, .bool s6, .int .u64 sh, .int .u64 sl, .bool d6, .int .u64 dh, .int .u64 dl, .int .i64 0, .int .i64 0, .int .i64 ttl, .int .i64 0, .bool false, .int .i64 0, .bool false, .int .u64 0, .int .u64 0, .bool false, .int .u64 0, .int .u64 0, .int .i64 0, .int .i64 0, .int .i64 sz] rfl rfl 58 Z KN.out HI.out ZS.out (by kernel_rfl) ?_)
  rw [← E3.out, ← EG.out]
  have p0 := KP3.out.cell 0
  have p1 := KP3.out.cell 1
  have PC := Lib.hid (HT.out w3 AR cr none 0 0 B3.out HR3.out (Sl.none_ _))
  go_wp2_with fail
  refine PC.out.mono ?_
  rintro o w4 ⟨hb4, wd, Am, nm, cm, rfl, hq⟩
  have HQ := Lib.hid hq
  clear hq
  obtain ⟨w5, hw5⟩ : ∃ w5, w5 = w4.alloc (.cells #[.int .i64 ty, .int .i64 co, .int .u32 wd, .slice Am nm cm] 46) := ⟨_, rfl⟩
  obtain ⟨h, hh⟩ : ∃ h, h = w4.heap.size := ⟨_, rfl⟩
  have E5 := Lib.hid hw5
  have EEh := Lib.hid hh
  have BC5 := Lib.hid (show Below w4.heap.size w4 w5 from by rw [hw5]; exact (Below.refl _ _).alloc (Nat.le_refl _) _)
  have BB5 := Lib.hid (hb4.trans (BC5.out.mono hb4.size))
  have KM5 := Lib.hid (show Blk w5 h 46 #[.int .i64 ty, .int .i64 co, .int .u32 wd, .slice Am nm cm] from by rw [hw5, hh]; exact Blk.new w4 _ _)
  have KP5 := Lib.hid (KP3.out.below BB5.out KP3.out.lt)
  have KQ5 := Lib.hid (KQ3.out.below BB5.out KQ3.out.lt)
  have B5 := Lib.hid (B3.out.trans (BB5.out.mono B3.out.size))
  clear hw5 hb4 hh p0 p1
  go_upto_region 19 with fail
  rw [← E5.out, ← EEh.out]
  have p0 := KP5.out.cell 0
  have m0 := KM5.out.cell 0
  have m1 := KM5.out.cell 1
  have m2 := KM5.out.cell 2
  have m3 := KM5.out.cell 3
  go_wp2_with fail
  refine (HQ.out _ BC5.out).mono ?_
  rintro o w6 ⟨rfl, hb6⟩
  obtain ⟨w7, hw7⟩ : ∃ w7, w7 = w6.alloc (.cells #[.int .i64 apr, .bool as6, .int .u64 ash, .int .u64 asl, .bool ad6, .int .u64 adh, .int .u64 adl, .int .i64 asp, .int .i64 adp] 48) := ⟨_, rfl⟩
  obtain ⟨t, ht⟩ : ∃ t, t = w6.heap.size := ⟨_, rfl⟩
  have E7 := Lib.hid hw7
  have EEt := Lib.hid ht
  have BC7 := Lib.hid (show Below w6.heap.size w6 w7 from by rw [hw7]; exact (Below.refl _ _).alloc (Nat.le_refl _) _)
  have BB7 := Lib.hid (hb6.trans (BC7.out.mono hb6.size))
  have KT7 := Lib.hid (show Blk w7 t 48 #[.int .i64 apr, .bool as6, .int .u64 ash, .int .u64 asl, .bool ad6, .int .u64 adh, .int .u64 adl, .int .i64 asp, .int .i64 adp] from by rw [hw7, ht]; exact Blk.new w6 _ _)
  have KP7 := Lib.hid (KP5.out.below BB7.out KP5.out.lt)
  have KQ7 := Lib.hid (KQ5.out.below BB7.out KQ5.out.lt)
  have B7 := Lib.hid (B5.out.trans (BB7.out.mono B5.out.size))
  have NGT := Lib.hid (show t ≠ g from by have := KP5.out.lt; have := hb6.size; omega)
  clear hw7 hb6 ht p0 m0 m1 m2 m3
  go_upto_region 22 with fail
  rw [← E7.out, ← EEt.out]
  have p12 := KP7.out.cell 12
  have z12 := KP7.out.frozen 12
  obtain ⟨w8, hw8⟩ : ∃ w8, w8 = w7.setCell ⟨g, 12, none⟩ (.bool true) := ⟨_, rfl⟩
  have E8 := Lib.hid hw8
  have OG8 := Lib.hid (show OnlyG g w7 w8 from by rw [hw8]; exact (OnlyG.refl _ _).set 12 _)
  have KP8 := Lib.hid (show Blk w8 g 58 #[.bool false, .int .i64 1, .bool s6, .int .u64 sh, .int .u64 sl, .bool d6, .int .u64 dh, .int .u64 dl, .int .i64 0, .int .i64 0, .int .i64 ttl, .int .i64 0, .bool true, .int .i64 0, .bool false, .int .u64 0, .int .u64 0, .bool false, .int .u64 0, .int .u64 0, .int .i64 0, .int .i64 0, .int .i64 sz] from by rw [hw8]; exact KP7.out.set_ 12 _)
  have KQ8 := Lib.hid (OG8.out.blk KQ7.out (Ne.symm NE.out))
  have KT8 := Lib.hid (OG8.out.blk KT7.out NGT.out)
  have B8 := Lib.hid (OG8.out.from B7.out GW.out)
  clear hw8
  go_upto_region 23 with fail
  rw [← E8.out]
  clear p12 z12
  have q0 := KT8.out.cell 0
  have q1 := KT8.out.cell 1
  have q2 := KT8.out.cell 2
  have q3 := KT8.out.cell 3
  have q4 := KT8.out.cell 4
  have q5 := KT8.out.cell 5
  have q6 := KT8.out.cell 6
  have q7 := KT8.out.cell 7
  have q8 := KT8.out.cell 8
  go_wp2_with fail
  refine (icmpA.back_any apr as6 ash asl ad6 adh adl asp adp w8).mono ?_
  rintro o w9 ⟨rfl, hb9⟩
  have KP9 := Lib.hid (KP8.out.below hb9 KP8.out.lt)
  have KQ9 := Lib.hid (KQ8.out.below hb9 KQ8.out.lt)
  have B9 := Lib.hid (B8.out.trans (hb9.mono B8.out.size))
  clear hb9 q0 q1 q2 q3 q4 q5 q6 q7 q8
  have y13 := KP9.out.cell 13
  have z13 := KP9.out.frozen 13
  have y14 := KP9.out.cell 14
  have z14 := KP9.out.frozen 14
  have y15 := KP9.out.cell 15
  have z15 := KP9.out.frozen 15
  have y16 := KP9.out.cell 16
  have z16 := KP9.out.frozen 16
  have y17 := KP9.out.cell 17
  have z17 := KP9.out.frozen 17
  have y18 := KP9.out.cell 18
  have z18 := KP9.out.frozen 18
  have y19 := KP9.out.cell 19
  have z19 := KP9.out.frozen 19
  have y20 := KP9.out.cell 20
  have z20 := KP9.out.frozen 20
  have y21 := KP9.out.cell 21
  have z21 := KP9.out.frozen 21
  have k0 : Blk (w9.setCell ⟨g, 13, none⟩ (.int .i64 apr)) g 58 #[.bool false, .int .i64 1, .bool s6, .int .u64 sh, .int .u64 sl, .bool d6, .int .u64 dh, .int .u64 dl, .int .i64 0, .int .i64 0, .int .i64 ttl, .int .i64 0, .bool true, .int .i64 apr, .bool false, .int .u64 0, .int .u64 0, .bool false, .int .u64 0, .int .u64 0, .int .i64 0, .int .i64 0, .int .i64 sz] := KP9.out.set_ 13 _
  have k1 : Blk ((w9.setCell ⟨g, 13, none⟩ (.int .i64 apr)).setCell ⟨g, 14, none⟩ (.bool ad6)) g 58 #[.bool false, .int .i64 1, .bool s6, .int .u64 sh, .int .u64 sl, .bool d6, .int .u64 dh, .int .u64 dl, .int .i64 0, .int .i64 0, .int .i64 ttl, .int .i64 0, .bool true, .int .i64 apr, .bool ad6, .int .u64 0, .int .u64 0, .bool false, .int .u64 0, .int .u64 0, .int .i64 0, .int .i64 0, .int .i64 sz] := k0.set_ 14 _
  have k2 : Blk (((w9.setCell ⟨g, 13, none⟩ (.int .i64 apr)).setCell ⟨g, 14, none⟩ (.bool ad6)).setCell ⟨g, 15, none⟩ (.int .u64 adh)) g 58 #[.bool false, .int .i64 1, .bool s6, .int .u64 sh, .int .u64 sl, .bool d6, .int .u64 dh, .int .u64 dl, .int .i64 0, .int .i64 0, .int .i64 ttl, .int .i64 0, .bool true, .int .i64 apr, .bool ad6, .int .u64 adh, .int .u64 0, .bool false, .int .u64 0, .int .u64 0, .int .i64 0, .int .i64 0, .int .i64 sz] := k1.set_ 15 _
  have k3 : Blk ((((w9.setCell ⟨g, 13, none⟩ (.int .i64 apr)).setCell ⟨g, 14, none⟩ (.bool ad6)).setCell ⟨g, 15, none⟩ (.int .u64 adh)).setCell ⟨g, 16, none⟩ (.int .u64 adl)) g 58 #[.bool false, .int .i64 1, .bool s6, .int .u64 sh, .int .u64 sl, .bool d6, .int .u64 dh, .int .u64 dl, .int .i64 0, .int .i64 0, .int .i64 ttl, .int .i64 0, .bool true, .int .i64 apr, .bool ad6, .int .u64 adh, .int .u64 adl, .bool false, .int .u64 0, .int .u64 0, .int .i64 0, .int .i64 0, .int .i64 sz] := k2.set_ 16 _
  have k4 : Blk (((((w9.setCell ⟨g, 13, none⟩ (.int .i64 apr)).setCell ⟨g, 14, none⟩ (.bool ad6)).setCell ⟨g, 15, none⟩ (.int .u64 adh)).setCell ⟨g, 16, none⟩ (.int .u64 adl)).setCell ⟨g, 17, none⟩ (.bool as6)) g 58 #[.bool false, .int .i64 1, .bool s6, .int .u64 sh, .int .u64 sl, .bool d6, .int .u64 dh, .int .u64 dl, .int .i64 0, .int .i64 0, .int .i64 ttl, .int .i64 0, .bool true, .int .i64 apr, .bool ad6, .int .u64 adh, .int .u64 adl, .bool as6, .int .u64 0, .int .u64 0, .int .i64 0, .int .i64 0, .int .i64 sz] := k3.set_ 17 _
  have k5 : Blk ((((((w9.setCell ⟨g, 13, none⟩ (.int .i64 apr)).setCell ⟨g, 14, none⟩ (.bool ad6)).setCell ⟨g, 15, none⟩ (.int .u64 adh)).setCell ⟨g, 16, none⟩ (.int .u64 adl)).setCell ⟨g, 17, none⟩ (.bool as6)).setCell ⟨g, 18, none⟩ (.int .u64 ash)) g 58 #[.bool false, .int .i64 1, .bool s6, .int .u64 sh, .int .u64 sl, .bool d6, .int .u64 dh, .int .u64 dl, .int .i64 0, .int .i64 0, .int .i64 ttl, .int .i64 0, .bool true, .int .i64 apr, .bool ad6, .int .u64 adh, .int .u64 adl, .bool as6, .int .u64 ash, .int .u64 0, .int .i64 0, .int .i64 0, .int .i64 sz] := k4.set_ 18 _
  have k6 : Blk (((((((w9.setCell ⟨g, 13, none⟩ (.int .i64 apr)).setCell ⟨g, 14, none⟩ (.bool ad6)).setCell ⟨g, 15, none⟩ (.int .u64 adh)).setCell ⟨g, 16, none⟩ (.int .u64 adl)).setCell ⟨g, 17, none⟩ (.bool as6)).setCell ⟨g, 18, none⟩ (.int .u64 ash)).setCell ⟨g, 19, none⟩ (.int .u64 asl)) g 58 #[.bool false, .int .i64 1, .bool s6, .int .u64 sh, .int .u64 sl, .bool d6, .int .u64 dh, .int .u64 dl, .int .i64 0, .int .i64 0, .int .i64 ttl, .int .i64 0, .bool true, .int .i64 apr, .bool ad6, .int .u64 adh, .int .u64 adl, .bool as6, .int .u64 ash, .int .u64 asl, .int .i64 0, .int .i64 0, .int .i64 sz] := k5.set_ 19 _
  have k7 : Blk ((((((((w9.setCell ⟨g, 13, none⟩ (.int .i64 apr)).setCell ⟨g, 14, none⟩ (.bool ad6)).setCell ⟨g, 15, none⟩ (.int .u64 adh)).setCell ⟨g, 16, none⟩ (.int .u64 adl)).setCell ⟨g, 17, none⟩ (.bool as6)).setCell ⟨g, 18, none⟩ (.int .u64 ash)).setCell ⟨g, 19, none⟩ (.int .u64 asl)).setCell ⟨g, 20, none⟩ (.int .i64 adp)) g 58 #[.bool false, .int .i64 1, .bool s6, .int .u64 sh, .int .u64 sl, .bool d6, .int .u64 dh, .int .u64 dl, .int .i64 0, .int .i64 0, .int .i64 ttl, .int .i64 0, .bool true, .int .i64 apr, .bool ad6, .int .u64 adh, .int .u64 adl, .bool as6, .int .u64 ash, .int .u64 asl, .int .i64 adp, .int .i64 0, .int .i64 sz] := k6.set_ 20 _
  have k8 : Blk (((((((((w9.setCell ⟨g, 13, none⟩ (.int .i64 apr)).setCell ⟨g, 14, none⟩ (.bool ad6)).setCell ⟨g, 15, none⟩ (.int .u64 adh)).setCell ⟨g, 16, none⟩ (.int .u64 adl)).setCell ⟨g, 17, none⟩ (.bool as6)).setCell ⟨g, 18, none⟩ (.int .u64 ash)).setCell ⟨g, 19, none⟩ (.int .u64 asl)).setCell ⟨g, 20, none⟩ (.int .i64 adp)).setCell ⟨g, 21, none⟩ (.int .i64 asp)) g 58 #[.bool false, .int .i64 1, .bool s6, .int .u64 sh, .int .u64 sl, .bool d6, .int .u64 dh, .int .u64 dl, .int .i64 0, .int .i64 0, .int .i64 ttl, .int .i64 0, .bool true, .int .i64 apr, .bool ad6, .int .u64 adh, .int .u64 adl, .bool as6, .int .u64 ash, .int .u64 asl, .int .i64 adp, .int .i64 asp, .int .i64 sz] := k7.set_ 21 _
  obtain ⟨w10, hw10⟩ : ∃ w10, w10 = (((((((((w9.setCell ⟨g, 13, none⟩ (.int .i64 apr)).setCell ⟨g, 14, none⟩ (.bool ad6)).setCell ⟨g, 15, none⟩ (.int .u64 adh)).setCell ⟨g, 16, none⟩ (.int .u64 adl)).setCell ⟨g, 17, none⟩ (.bool as6)).setCell ⟨g, 18, none⟩ (.int .u64 ash)).setCell ⟨g, 19, none⟩ (.int .u64 asl)).setCell ⟨g, 20, none⟩ (.int .i64 adp)).setCell ⟨g, 21, none⟩ (.int .i64 asp)) := ⟨_, rfl⟩
  have E10 := Lib.hid hw10
  have OG10 := Lib.hid (show OnlyG g w9 w10 from by rw [hw10]; exact ((((((((((OnlyG.refl g w9).set 13 (.int .i64 apr)).set 14 (.bool ad6)).set 15 (.int .u64 adh)).set 16 (.int .u64 adl)).set 17 (.bool as6)).set 18 (.int .u64 ash)).set 19 (.int .u64 asl)).set 20 (.int .i64 adp)).set 21 (.int .i64 asp)))
  have KP10 := Lib.hid (show Blk w10 g 58 #[.bool false, .int .i64 1, .bool s6, .int .u64 sh, .int .u64 sl, .bool d6, .int .u64 dh, .int .u64 dl, .int .i64 0, .int .i64 0, .int .i64 ttl, .int .i64 0, .bool true, .int .i64 apr, .bool ad6, .int .u64 adh, .int .u64 adl, .bool as6, .int .u64 ash, .int .u64 asl, .int .i64 adp, .int .i64 asp, .int .i64 sz] from by rw [hw10]; exact k8)
  have KQ10 := Lib.hid (OG10.out.blk KQ9.out (Ne.symm NE.out))
  have B10 := Lib.hid (OG10.out.from B9.out GW.out)
  clear hw10 k0 k1 k2 k3 k4 k5 k6 k7 k8
  go_upto_region 24 with fail
  rw [← E10.out]
  clear y13 z13 y14 z14 y15 z15 y16 z16 y17 z17 y18 z18 y19 z19 y20 z20 y21 z21
  go_wp2_with (first
    | (refine wpList_load_row rfl 58 _ rfl g rfl 58 #[.bool false, .int .i64 1, .bool s6, .int .u64 sh, .int .u64 sl, .bool d6, .int .u64 dh, .int .u64 dl, .int .i64 0, .int .i64 0, .int .i64 ttl, .int .i64 0, .bool true, .int .i64 apr, .bool ad6, .int .u64 adh, .int .u64 adl, .bool as6, .int .u64 ash, .int .u64 asl, .int .i64 adp, .int .i64 asp, .int .i64 sz] (0, 0) _ KP10.out Try.underlying58 rfl HI.out ?_)
    | (refine wpList_store_row rfl 58 _ _ rfl q #[.bool false, .int .i64 1, .bool s6, .int .u64 sh, .int .u64 sl, .bool d6, .int .u64 dh, .int .u64 dl, .int .i64 0, .int .i64 0, .int .i64 ttl, .int .i64 0, .bool true, .int .i64 apr, .bool ad6, .int .u64 adh, .int .u64 adl, .bool as6, .int .u64 ash, .int .u64 asl, .int .i64 adp, .int .i64 asp, .int .i64 sz] rfl rfl 58 Z KQ10.out HI.out ZS.out (by kernel_rfl) ?_))
  refine bodyPost_ret (results_pk rfl _ _ q #[.bool false, .int .i64 1, .bool s6, .int .u64 sh, .int .u64 sl, .bool d6, .int .u64 dh, .int .u64 dl, .int .i64 0, .int .i64 0, .int .i64 ttl, .int .i64 0, .bool true, .int .i64 apr, .bool ad6, .int .u64 adh, .int .u64 adl, .bool as6, .int .u64 ash, .int .u64 asl, .int .i64 adp, .int .i64 asp, .int .i64 sz] rfl (blkRow KQ10.out _) rfl) rfl ?_
  exact ⟨rfl, (onlyRow _).from B10.out (by have := EQ.out; omega)⟩
set_option maxHeartbeats 8000000 in
set_option maxRecDepth 100000 in
theorem lp_icmp6_pno (e : Int) (he : e ≠ 0) (s6 : Bool) (sh sl : Int) (d6 : Bool) (dh dl ttl sz : Int) (A : Option Addr) (n c m : Nat) (r ps : List Int) (w : World)
    (HO : Hid (∀ V, Below w.heap.size w V → Calls Try.prog 58 #[.slice A n c] V fun o w' => Below V.heap.size V w' ∧ ∃ (AR : Option Addr) (cr : Nat) (AP : Option Addr) (np cp : Nat), o = .returned (.tuple #[.agg #[.bool true, .int .i64 58, .bool s6, .int .u64 sh, .int .u64 sl, .bool d6, .int .u64 dh, .int .u64 dl, .int .i64 0, .int .i64 0, .int .i64 ttl, .int .i64 0, .bool false, .int .i64 0, .bool false, .int .u64 0, .int .u64 0, .bool false, .int .u64 0, .int .u64 0, .int .i64 0, .int .i64 0, .int .i64 sz], .slice AR m cr, .slice AP np cp, .int .i64 0]) ∧ Sl w' AR m cr r ∧ Sl w' AP np cp ps))
    (HT : Hid (∀ V AR cr AP np cp, Below w.heap.size w V → Sl V AR m cr r → Sl V AP np cp ps → Calls Try.prog 61 #[.slice AR m cr, .slice AP np cp] V fun o w' => o = .returned (.tuple #[.agg #[.int .i64 0, .int .i64 0, .int .u32 0, .slice none 0 0], .int .i64 e]) ∧ Below V.heap.size V w')) :
    Calls Try.prog 29 #[.slice A n c] w fun o w' => o = .returned (.tuple #[.agg #[.bool false, .int .i64 0, .bool false, .int .u64 0, .int .u64 0, .bool false, .int .u64 0, .int .u64 0, .int .i64 0, .int .i64 0, .int .i64 0, .int .i64 0, .bool false, .int .i64 0, .bool false, .int .u64 0, .int .u64 0, .bool false, .int .u64 0, .int .u64 0, .int .i64 0, .int .i64 0, .int .i64 0], .int .i64 e]) ∧ Below w.heap.size w w' := by
  have te : (e != 0) = true := by simpa using he
  have te2 : (e == 0) = false := by simpa using he
  clear he
  obtain ⟨Z, hZ⟩ : ∃ Z : Array Value, Z = #[.bool false, .int .i64 0, .bool false, .int .u64 0, .int .u64 0, .bool false, .int .u64 0, .int .u64 0, .int .i64 0, .int .i64 0, .int .i64 0, .int .i64 0, .bool false, .int .i64 0, .bool false, .int .u64 0, .int .u64 0, .bool false, .int .u64 0, .int .u64 0, .int .i64 0, .int .i64 0, .int .i64 0] := ⟨_, rfl⟩
  have hz : ∀ w : World, (zeroValue 58).run Try.prog w = .ok (.agg Z) w := by rw [hZ]; exact (zero_of_info pktF.zeroPkI).1
  have zs : Z.size = 23 := by rw [hZ]; rfl
  have zs2 : ¬ Z = #[] := by intro h; rw [h] at zs; cases zs
  have ZS := Lib.hid zs
  have HZ := Lib.hid hZ
  have ZO := Lib.hid (show Z.all (·.oneCell') = true from by rw [hZ]; kernel_rfl)
  clear hZ
  obtain ⟨w1, hw1⟩ : ∃ w1, w1 = w.alloc (.cells Z 58) := ⟨_, rfl⟩
  have E1 := Lib.hid hw1
  have B1 := Lib.hid (show Below w.heap.size w w1 from by rw [hw1]; exact (Below.refl _ _).alloc (Nat.le_refl _) _)
  obtain ⟨q, hq⟩ : ∃ q, q = w.heap.size := ⟨_, rfl⟩
  have EQ := Lib.hid hq
  have KQ1 := Lib.hid (show Blk w1 q 58 Z from by rw [hw1, hq]; exact Blk.new w _ _)
  have HI := Lib.hid pk_size
  have HIZ := Lib.hid (show (Try.prog.info? 58).map (·.size) = some Z.size from by rw [zs]; exact pk_size)
  clear hw1 hq
  go_enter Try.func29, Try.ntmps29
  go_upto_region 1 with fail
  rw [← E1.out, ← EQ.out]
  go_wp2_with fail
  refine (HO.out _ B1.out).mono ?_
  rintro o w2 ⟨hb2, AR, cr, AP, np, cp, rfl, hr, hp⟩
  obtain ⟨g, hg⟩ : ∃ g, g = w2.heap.size := ⟨_, rfl⟩
  have EG := Lib.hid hg
  have KN := Lib.hid (show Blk (w2.alloc (.cells Z 58)) w2.heap.size 58 Z from Blk.new w2 _ _)
  have KR := Lib.hid (show Blk ((w2.alloc (.cells Z 58)).setRow w2.heap.size #[.bool true, .int .i64 58, .bool s6, .int .u64 sh, .int .u64 sl, .bool d6, .int .u64 dh, .int .u64 dl, .int .i64 0, .int .i64 0, .int .i64 ttl, .int .i64 0, .bool false, .int .i64 0, .bool false, .int .u64 0, .int .u64 0, .bool false, .int .u64 0, .int .u64 0, .int .i64 0, .int .i64 0, .int .i64 sz]) w2.heap.size 58 #[.bool true, .int .i64 58, .bool s6, .int .u64 sh, .int .u64 sl, .bool d6, .int .u64 dh, .int .u64 dl, .int .i64 0, .int .i64 0, .int .i64 ttl, .int .i64 0, .bool false, .int .i64 0, .bool false, .int .u64 0, .int .u64 0, .bool false, .int .u64 0, .int .u64 0, .int .i64 0, .int .i64 0, .int .i64 sz] from blkRow KN.out _)
  have BR := Lib.hid (show Below w2.heap.size w2 ((w2.alloc (.cells Z 58)).setRow w2.heap.size #[.bool true, .int .i64 58, .bool s6, .int .u64 sh, .int .u64 sl, .bool d6, .int .u64 dh, .int .u64 dl, .int .i64 0, .int .i64 0, .int .i64 ttl, .int .i64 0, .bool false, .int .i64 0, .bool false, .int .u64 0, .int .u64 0, .bool false, .int .u64 0, .int .u64 0, .int .i64 0, .int .i64 0, .int .i64 sz]) from (onlyRow _).from ((Below.refl _ _).alloc (Nat.le_refl _) _) (Nat.le_refl _))
  obtain ⟨w3, hw3⟩ : ∃ w3, w3 = (w2.alloc (.cells Z 58)).setRow w2.heap.size #[.bool true, .int .i64 58, .bool s6, .int .u64 sh, .int .u64 sl, .bool d6, .int .u64 dh, .int .u64 dl, .int .i64 0, .int .i64 0, .int .i64 ttl, .int .i64 0, .bool false, .int .i64 0, .bool false, .int .u64 0, .int .u64 0, .bool false, .int .u64 0, .int .u64 0, .int .i64 0, .int .i64 0, .int .i64 sz] := ⟨_, rfl⟩
  have E3 := Lib.hid hw3
  have B23 := Lib.hid (show Below w2.heap.size w2 w3 from by rw [hw3]; exact BR.out)
  have B13 := Lib.hid (hb2.trans (B23.out.mono hb2.size))
  have KP3 := Lib.hid (show Blk w3 g 58 #[.bool true, .int .i64 58, .bool s6, .int .u64 sh, .int .u64 sl, .bool d6, .int .u64 dh, .int .u64 dl, .int .i64 0, .int .i64 0, .int .i64 ttl, .int .i64 0, .bool false, .int .i64 0, .bool false, .int .u64 0, .int .u64 0, .bool false, .int .u64 0, .int .u64 0, .int .i64 0, .int .i64 0, .int .i64 sz] from by rw [hw3, hg]; exact KR.out)
  have KQ3 := Lib.hid (KQ1.out.below B13.out KQ1.out.lt)
  have B3 := Lib.hid (B1.out.trans (B13.out.mono B1.out.size))
  have HR3 := Lib.hid (hr.below B23.out)
  have HP3 := Lib.hid (hp.below B23.out)
  have NE := Lib.hid (show g ≠ q from by have := KQ1.out.lt; have := hb2.size; omega)
  have GW := Lib.hid (show w.heap.size ≤ g from by have := B1.out.size; have := hb2.size; omega)
  clear hw3 hb2 hr hp hg
  go_upto_region 2 with (refine wpList_store_row rfl 58 _ _ rfl w2.heap.size #[.bool true, .int .i64 58, .bool s6, .int .u64 sh, .int .u64 sl, .bool d6, .int .u64 dh, .int .u64 dl, .int .i64 0, .int .i64 0, .int .i64 ttl, .int .i64 0, .bool false, .int .i64 0, .bool false, .int .u64 0, .int .u64 0, .bool false, .int .u64 0, .int .u64 0, .int .i64 0, .int .i64 0, .int .i64 sz] rfl rfl 58 Z KN.out HI.out ZS.out (by kernel_rfl) ?_)
  rw [← E3.out, ← EG.out]
  have p0 := KP3.out.cell 0
  have p1 := KP3.out.cell 1
  have PC := Lib.hid (HT.out w3 AR cr AP np cp B3.out HR3.out HP3.out)
  go_wp2_with fail
  refine PC.out.mono ?_
  rintro o w4 ⟨rfl, hb4⟩
  obtain ⟨w5, hw5⟩ : ∃ w5, w5 = w4.alloc (.cells #[.int .i64 0, .int .i64 0, .int .u32 0, .slice none 0 0] 46) := ⟨_, rfl⟩
  obtain ⟨h, hh⟩ : ∃ h, h = w4.heap.size := ⟨_, rfl⟩
  have E5 := Lib.hid hw5
  have EEh := Lib.hid hh
  have BC5 := Lib.hid (show Below w4.heap.size w4 w5 from by rw [hw5]; exact (Below.refl _ _).alloc (Nat.le_refl _) _)
  have BB5 := Lib.hid (hb4.trans (BC5.out.mono hb4.size))
  have KM5 := Lib.hid (show Blk w5 h 46 #[.int .i64 0, .int .i64 0, .int .u32 0, .slice none 0 0] from by rw [hw5, hh]; exact Blk.new w4 _ _)
  have KP5 := Lib.hid (KP3.out.below BB5.out KP3.out.lt)
  have KQ5 := Lib.hid (KQ3.out.below BB5.out KQ3.out.lt)
  have B5 := Lib.hid (B3.out.trans (BB5.out.mono B3.out.size))
  clear hw5 hb4 hh p0 p1
  go_upto_region 19 with fail
  rw [← E5.out, ← EEh.out]
  go_wp2_with (refine wpList_store_row rfl 58 _ _ rfl q Z rfl rfl 58 Z KQ5.out HIZ.out rfl ZO.out ?_)
  refine bodyPost_ret (results_pk rfl _ _ q Z rfl (blkRow KQ5.out _) ZS.out) rfl ?_
  exact ⟨by rw [HZ.out]; rfl, (onlyRow _).from B5.out (by have := EQ.out; omega)⟩
set_option maxHeartbeats 8000000 in
set_option maxRecDepth 100000 in
theorem lp_icmp6_no (ty co apr : Int) (as6 : Bool) (ash asl : Int) (ad6 : Bool) (adh adl asp adp : Int) (e : Int) (he : e ≠ 0) (s6 : Bool) (sh sl : Int) (d6 : Bool) (dh dl ttl sz : Int) (A : Option Addr) (n c m : Nat) (r ps : List Int) (w : World)
    (HO : Hid (∀ V, Below w.heap.size w V → Calls Try.prog 58 #[.slice A n c] V fun o w' => Below V.heap.size V w' ∧ ∃ (AR : Option Addr) (cr : Nat) (AP : Option Addr) (np cp : Nat), o = .returned (.tuple #[.agg #[.bool true, .int .i64 58, .bool s6, .int .u64 sh, .int .u64 sl, .bool d6, .int .u64 dh, .int .u64 dl, .int .i64 0, .int .i64 0, .int .i64 ttl, .int .i64 0, .bool false, .int .i64 0, .bool false, .int .u64 0, .int .u64 0, .bool false, .int .u64 0, .int .u64 0, .int .i64 0, .int .i64 0, .int .i64 sz], .slice AR m cr, .slice AP np cp, .int .i64 0]) ∧ Sl w' AR m cr r ∧ Sl w' AP np cp ps))
    (HT : Hid (∀ V AR cr AP np cp, Below w.heap.size w V → Sl V AR m cr r → Sl V AP np cp ps → Calls Try.prog 61 #[.slice AR m cr, .slice AP np cp] V fun o w' => Below V.heap.size V w' ∧ ∃ (wd : Int) (Am : Option Addr) (nm cm : Nat), o = .returned (.tuple #[.agg #[.int .i64 ty, .int .i64 co, .int .u32 wd, .slice Am nm cm], .int .i64 0]) ∧ ∀ V2, Below w'.heap.size w' V2 → Calls Try.prog 22 #[.bool true, .agg #[.int .i64 ty, .int .i64 co, .int .u32 wd, .slice Am nm cm]] V2 fun o w' => o = .returned (.tuple #[.agg #[.int .i64 apr, .bool as6, .int .u64 ash, .int .u64 asl, .bool ad6, .int .u64 adh, .int .u64 adl, .int .i64 asp, .int .i64 adp], .int .i64 e]) ∧ Below V2.heap.size V2 w')) :
    Calls Try.prog 29 #[.slice A n c] w fun o w' => o = .returned (.tuple #[.agg #[.bool false, .int .i64 0, .bool false, .int .u64 0, .int .u64 0, .bool false, .int .u64 0, .int .u64 0, .int .i64 0, .int .i64 0, .int .i64 0, .int .i64 0, .bool false, .int .i64 0, .bool false, .int .u64 0, .int .u64 0, .bool false, .int .u64 0, .int .u64 0, .int .i64 0, .int .i64 0, .int .i64 0], .int .i64 e]) ∧ Below w.heap.size w w' := by
  have te : (e != 0) = true := by simpa using he
  have te2 : (e == 0) = false := by simpa using he
  clear he
  obtain ⟨Z, hZ⟩ : ∃ Z : Array Value, Z = #[.bool false, .int .i64 0, .bool false, .int .u64 0, .int .u64 0, .bool false, .int .u64 0, .int .u64 0, .int .i64 0, .int .i64 0, .int .i64 0, .int .i64 0, .bool false, .int .i64 0, .bool false, .int .u64 0, .int .u64 0, .bool false, .int .u64 0, .int .u64 0, .int .i64 0, .int .i64 0, .int .i64 0] := ⟨_, rfl⟩
  have hz : ∀ w : World, (zeroValue 58).run Try.prog w = .ok (.agg Z) w := by rw [hZ]; exact (zero_of_info pktF.zeroPkI).1
  have zs : Z.size = 23 := by rw [hZ]; rfl
  have zs2 : ¬ Z = #[] := by intro h; rw [h] at zs; cases zs
  have ZS := Lib.hid zs
  have HZ := Lib.hid hZ
  have ZO := Lib.hid (show Z.all (·.oneCell') = true from by rw [hZ]; kernel_rfl)
  clear hZ
  obtain ⟨w1, hw1⟩ : ∃ w1, w1 = w.alloc (.cells Z 58) := ⟨_, rfl⟩
  have E1 := Lib.hid hw1
  have B1 := Lib.hid (show Below w.heap.size w w1 from by rw [hw1]; exact (Below.refl _ _).alloc (Nat.le_refl _) _)
  obtain ⟨q, hq⟩ : ∃ q, q = w.heap.size := ⟨_, rfl⟩
  have EQ := Lib.hid hq
  have KQ1 := Lib.hid (show Blk w1 q 58 Z from by rw [hw1, hq]; exact Blk.new w _ _)
  have HI := Lib.hid pk_size
  have HIZ := Lib.hid (show (Try.prog.info? 58).map (·.size) = some Z.size from by rw [zs]; exact pk_size)
  clear hw1 hq
  go_enter Try.func29, Try.ntmps29
  go_upto_region 1 with fail
  rw [← E1.out, ← EQ.out]
  go_wp2_with fail
  refine (HO.out _ B1.out).mono ?_
  rintro o w2 ⟨hb2, AR, cr, AP, np, cp, rfl, hr, hp⟩
  obtain ⟨g, hg⟩ : ∃ g, g = w2.heap.size := ⟨_, rfl⟩
  have EG := Lib.hid hg
  have KN := Lib.hid (show Blk (w2.alloc (.cells Z 58)) w2.heap.size 58 Z from Blk.new w2 _ _)
  have KR := Lib.hid (show Blk ((w2.alloc (.cells Z 58)).setRow w2.heap.size #[.bool true, .int .i64 58, .bool s6, .int .u64 sh, .int .u64 sl, .bool d6, .int .u64 dh, .int .u64 dl, .int .i64 0, .int .i64 0, .int .i64 ttl, .int .i64 0, .bool false, .int .i64 0, .bool false, .int .u64 0, .int .u64 0, .bool false, .int .u64 0, .int .u64 0, .int .i64 0, .int .i64 0, .int .i64 sz]) w2.heap.size 58 #[.bool true, .int .i64 58, .bool s6, .int .u64 sh, .int .u64 sl, .bool d6, .int .u64 dh, .int .u64 dl, .int .i64 0, .int .i64 0, .int .i64 ttl, .int .i64 0, .bool false, .int .i64 0, .bool false, .int .u64 0, .int .u64 0, .bool false, .int .u64 0, .int .u64 0, .int .i64 0, .int .i64 0, .int .i64 sz] from blkRow KN.out _)
  have BR := Lib.hid (show Below w2.heap.size w2 ((w2.alloc (.cells Z 58)).setRow w2.heap.size #[.bool true, .int .i64 58, .bool s6, .int .u64 sh, .int .u64 sl, .bool d6, .int .u64 dh, .int .u64 dl, .int .i64 0, .int .i64 0, .int .i64 ttl, .int .i64 0, .bool false, .int .i64 0, .bool false, .int .u64 0, .int .u64 0, .bool false, .int .u64 0, .int .u64 0, .int .i64 0, .int .i64 0, .int .i64 sz]) from (onlyRow _).from ((Below.refl _ _).alloc (Nat.le_refl _) _) (Nat.le_refl _))
  obtain ⟨w3, hw3⟩ : ∃ w3, w3 = (w2.alloc (.cells Z 58)).setRow w2.heap.size #[.bool true, .int .i64 58, .bool s6, .int .u64 sh, .int .u64 sl, .bool d6, .int .u64 dh, .int .u64 dl, .int .i64 0, .int .i64 0, .int .i64 ttl, .int .i64 0, .bool false, .int .i64 0, .bool false, .int .u64 0, .int .u64 0, .bool false, .int .u64 0, .int .u64 0, .int .i64 0, .int .i64 0, .int .i64 sz] := ⟨_, rfl⟩
  have E3 := Lib.hid hw3
  have B23 := Lib.hid (show Below w2.heap.size w2 w3 from by rw [hw3]; exact BR.out)
  have B13 := Lib.hid (hb2.trans (B23.out.mono hb2.size))
  have KP3 := Lib.hid (show Blk w3 g 58 #[.bool true, .int .i64 58, .bool s6, .int .u64 sh, .int .u64 sl, .bool d6, .int .u64 dh, .int .u64 dl, .int .i64 0, .int .i64 0, .int .i64 ttl, .int .i64 0, .bool false, .int .i64 0, .bool false, .int .u64 0, .int .u64 0, .bool false, .int .u64 0, .int .u64 0, .int .i64 0, .int .i64 0, .int .i64 sz] from by rw [hw3, hg]; exact KR.out)
  have KQ3 := Lib.hid (KQ1.out.below B13.out KQ1.out.lt)
  have B3 := Lib.hid (B1.out.trans (B13.out.mono B1.out.size))
  have HR3 := Lib.hid (hr.below B23.out)
  have HP3 := Lib.hid (hp.below B23.out)
  have NE := Lib.hid (show g ≠ q from by have := KQ1.out.lt; have := hb2.size; omega)
  have GW := Lib.hid (show w.heap.size ≤ g from by have := B1.out.size; have := hb2.size; omega)
  clear hw3 hb2 hr hp hg
  go_upto_region 2 with (refine wpList_store_row rfl 58 _ _ rfl w2.heap.size #[.bool true, .int .i64 58, .bool s6, .int .u64 sh, .int .u64 sl, .bool d6, .int .u64 dh, .int .u64 dl, .int .i64 0, .int .i64 0, .int .i64 ttl, .int .i64 0, .bool false, .int .i64 0, .bool false, .int .u64 0, .int .u64 0, .bool false, .int .u64 0, .int .u64 0, .int .i64 0, .int .i64 0, .int .i64 sz] rfl rfl 58 Z KN.out HI.out ZS.out (by kernel_rfl) ?_)
  rw [← E3.out, ← EG.out]
  have p0 := KP3.out.cell 0
  have p1 := KP3.out.cell 1
  have PC := Lib.hid (HT.out w3 AR cr AP np cp B3.out HR3.out HP3.out)
  go_wp2_with fail
  refine PC.out.mono ?_
  rintro o w4 ⟨hb4, wd, Am, nm, cm, rfl, hq⟩
  have HQ := Lib.hid hq
  clear hq
  obtain ⟨w5, hw5⟩ : ∃ w5, w5 = w4.alloc (.cells #[.int .i64 ty, .int .i64 co, .int .u32 wd, .slice Am nm cm] 46) := ⟨_, rfl⟩
  obtain ⟨h, hh⟩ : ∃ h, h = w4.heap.size := ⟨_, rfl⟩
  have E5 := Lib.hid hw5
  have EEh := Lib.hid hh
  have BC5 := Lib.hid (show Below w4.heap.size w4 w5 from by rw [hw5]; exact (Below.refl _ _).alloc (Nat.le_refl _) _)
  have BB5 := Lib.hid (hb4.trans (BC5.out.mono hb4.size))
  have KM5 := Lib.hid (show Blk w5 h 46 #[.int .i64 ty, .int .i64 co, .int .u32 wd, .slice Am nm cm] from by rw [hw5, hh]; exact Blk.new w4 _ _)
  have KP5 := Lib.hid (KP3.out.below BB5.out KP3.out.lt)
  have KQ5 := Lib.hid (KQ3.out.below BB5.out KQ3.out.lt)
  have B5 := Lib.hid (B3.out.trans (BB5.out.mono B3.out.size))
  clear hw5 hb4 hh p0 p1
  go_upto_region 19 with fail
  rw [← E5.out, ← EEh.out]
  have p0 := KP5.out.cell 0
  have m0 := KM5.out.cell 0
  have m1 := KM5.out.cell 1
  have m2 := KM5.out.cell 2
  have m3 := KM5.out.cell 3
  go_wp2_with fail
  refine (HQ.out _ BC5.out).mono ?_
  rintro o w6 ⟨rfl, hb6⟩
  obtain ⟨w7, hw7⟩ : ∃ w7, w7 = w6.alloc (.cells #[.int .i64 apr, .bool as6, .int .u64 ash, .int .u64 asl, .bool ad6, .int .u64 adh, .int .u64 adl, .int .i64 asp, .int .i64 adp] 48) := ⟨_, rfl⟩
  obtain ⟨t, ht⟩ : ∃ t, t = w6.heap.size := ⟨_, rfl⟩
  have E7 := Lib.hid hw7
  have EEt := Lib.hid ht
  have BC7 := Lib.hid (show Below w6.heap.size w6 w7 from by rw [hw7]; exact (Below.refl _ _).alloc (Nat.le_refl _) _)
  have BB7 := Lib.hid (hb6.trans (BC7.out.mono hb6.size))
  have KT7 := Lib.hid (show Blk w7 t 48 #[.int .i64 apr, .bool as6, .int .u64 ash, .int .u64 asl, .bool ad6, .int .u64 adh, .int .u64 adl, .int .i64 asp, .int .i64 adp] from by rw [hw7, ht]; exact Blk.new w6 _ _)
  have KP7 := Lib.hid (KP5.out.below BB7.out KP5.out.lt)
  have KQ7 := Lib.hid (KQ5.out.below BB7.out KQ5.out.lt)
  have B7 := Lib.hid (B5.out.trans (BB7.out.mono B5.out.size))
  have NGT := Lib.hid (show t ≠ g from by have := KP5.out.lt; have := hb6.size; omega)
  clear hw7 hb6 ht p0 m0 m1 m2 m3
  go_upto_region 22 with fail
  rw [← E7.out, ← EEt.out]
  have p12 := KP7.out.cell 12
  have z12 := KP7.out.frozen 12
  obtain ⟨w8, hw8⟩ : ∃ w8, w8 = w7.setCell ⟨g, 12, none⟩ (.bool true) := ⟨_, rfl⟩
  have E8 := Lib.hid hw8
  have OG8 := Lib.hid (show OnlyG g w7 w8 from by rw [hw8]; exact (OnlyG.refl _ _).set 12 _)
  have KP8 := Lib.hid (show Blk w8 g 58 #[.bool true, .int .i64 58, .bool s6, .int .u64 sh, .int .u64 sl, .bool d6, .int .u64 dh, .int .u64 dl, .int .i64 0, .int .i64 0, .int .i64 ttl, .int .i64 0, .bool true, .int .i64 0, .bool false, .int .u64 0, .int .u64 0, .bool false, .int .u64 0, .int .u64 0, .int .i64 0, .int .i64 0, .int .i64 sz] from by rw [hw8]; exact KP7.out.set_ 12 _)
  have KQ8 := Lib.hid (OG8.out.blk KQ7.out (Ne.symm NE.out))
  have KT8 := Lib.hid (OG8.out.blk KT7.out NGT.out)
  have B8 := Lib.hid (OG8.out.from B7.out GW.out)
  clear hw8
  go_upto_region 23 with fail
  rw [← E8.out]
  clear p12 z12
  have q0 := KT8.out.cell 0
  have q1 := KT8.out.cell 1
  have q2 := KT8.out.cell 2
  have q3 := KT8.out.cell 3
  have q4 := KT8.out.cell 4
  have q5 := KT8.out.cell 5
  have q6 := KT8.out.cell 6
  have q7 := KT8.out.cell 7
  have q8 := KT8.out.cell 8
  go_wp2_with fail
  refine (icmpA.back_any apr as6 ash asl ad6 adh adl asp adp w8).mono ?_
  rintro o w9 ⟨rfl, hb9⟩
  have KP9 := Lib.hid (KP8.out.below hb9 KP8.out.lt)
  have KQ9 := Lib.hid (KQ8.out.below hb9 KQ8.out.lt)
  have B9 := Lib.hid (B8.out.trans (hb9.mono B8.out.size))
  clear hb9 q0 q1 q2 q3 q4 q5 q6 q7 q8
  have y13 := KP9.out.cell 13
  have z13 := KP9.out.frozen 13
  have y14 := KP9.out.cell 14
  have z14 := KP9.out.frozen 14
  have y15 := KP9.out.cell 15
  have z15 := KP9.out.frozen 15
  have y16 := KP9.out.cell 16
  have z16 := KP9.out.frozen 16
  have y17 := KP9.out.cell 17
  have z17 := KP9.out.frozen 17
  have y18 := KP9.out.cell 18
  have z18 := KP9.out.frozen 18
  have y19 := KP9.out.cell 19
  have z19 := KP9.out.frozen 19
  have y20 := KP9.out.cell 20
  have z20 := KP9.out.frozen 20
  have y21 := KP9.out.cell 21
  have z21 := KP9.out.frozen 21
  have k0 : Blk (w9.setCell ⟨g, 13, none⟩ (.int .i64 apr)) g 58 #[.bool true, .int .i64 58, .bool s6, .int .u64 sh, .int .u64 sl, .bool d6, .int .u64 dh, .int .u64 dl, .int .i64 0, .int .i64 0, .int .i64 ttl, .int .i64 0, .bool true, .int .i64 apr, .bool false, .int .u64 0, .int .u64 0, .bool false, .int .u64 0, .int .u64 0, .int .i64 0, .int .i64 0, .int .i64 sz] := KP9.out.set_ 13 _
  have k1 : Blk ((w9.setCell ⟨g, 13, none⟩ (.int .i64 apr)).setCell ⟨g, 14, none⟩ (.bool ad6)) g 58 #[.bool true, .int .i64 58, .bool s6, .int .u64 sh, .int .u64 sl, .bool d6, .int .u64 dh, .int .u64 dl, .int .i64 0, .int .i64 0, .int .i64 ttl, .int .i64 0, .bool true, .int .i64 apr, .bool ad6, .int .u64 0, .int .u64 0, .bool false, .int .u64 0, .int .u64 0, .int .i64 0, .int .i64 0, .int .i64 sz] := k0.set_ 14 _
  have k2 : Blk (((w9.setCell ⟨g, 13, none⟩ (.int .i64 apr)).setCell ⟨g, 14, none⟩ (.bool ad6)).setCell ⟨g, 15, none⟩ (.int .u64 adh)) g 58 #[.bool true, .int .i64 58, .bool s6, .int .u64 sh, .int .u64 sl, .bool d6, .int .u64 dh, .int .u64 dl, .int .i64 0, .int .i64 0, .int .i64 ttl, .int .i64 0, .bool true, .int .i64 apr, .bool ad6, .int .u64 adh, .int .u64 0, .bool false, .int .u64 0, .int .u64 0, .int .i64 0, .int .i64 0, .int .i64 sz] := k1.set_ 15 _
  have k3 : Blk ((((w9.setCell ⟨g, 13, none⟩ (.int .i64 apr)).setCell ⟨g, 14, none⟩ (.bool ad6)).setCell ⟨g, 15, none⟩ (.int .u64 adh)).setCell ⟨g, 16, none⟩ (.int .u64 adl)) g 58 #[.bool true, .int .i64 58, .bool s6, .int .u64 sh, .int .u64 sl, .bool d6, .int .u64 dh, .int .u64 dl, .int .i64 0, .int .i64 0, .int .i64 ttl, .int .i64 0, .bool true, .int .i64 apr, .bool ad6, .int .u64 adh, .int .u64 adl, .bool false, .int .u64 0, .int .u64 0, .int .i64 0, .int .i64 0, .int .i64 sz] := k2.set_ 16 _
  have k4 : Blk (((((w9.setCell ⟨g, 13, none⟩ (.int .i64 apr)).setCell ⟨g, 14, none⟩ (.bool ad6)).setCell ⟨g, 15, none⟩ (.int .u64 adh)).setCell ⟨g, 16, none⟩ (.int .u64 adl)).setCell ⟨g, 17, none⟩ (.bool as6)) g 58 #[.bool true, .int .i64 58, .bool s6, .int .u64 sh, .int .u64 sl, .bool d6, .int .u64 dh, .int .u64 dl, .int .i64 0, .int .i64 0, .int .i64 ttl, .int .i64 0, .bool true, .int .i64 apr, .bool ad6, .int .u64 adh, .int .u64 adl, .bool as6, .int .u64 0, .int .u64 0, .int .i64 0, .int .i64 0, .int .i64 sz] := k3.set_ 17 _
  have k5 : Blk ((((((w9.setCell ⟨g, 13, none⟩ (.int .i64 apr)).setCell ⟨g, 14, none⟩ (.bool ad6)).setCell ⟨g, 15, none⟩ (.int .u64 adh)).setCell ⟨g, 16, none⟩ (.int .u64 adl)).setCell ⟨g, 17, none⟩ (.bool as6)).setCell ⟨g, 18, none⟩ (.int .u64 ash)) g 58 #[.bool true, .int .i64 58, .bool s6, .int .u64 sh, .int .u64 sl, .bool d6, .int .u64 dh, .int .u64 dl, .int .i64 0, .int .i64 0, .int .i64 ttl, .int .i64 0, .bool true, .int .i64 apr, .bool ad6, .int .u64 adh, .int .u64 adl, .bool as6, .int .u64 ash, .int .u64 0, .int .i64 0, .int .i64 0, .int .i64 sz] := k4.set_ 18 _
  have k6 : Blk (((((((w9.setCell ⟨g, 13, none⟩ (.int .i64 apr)).setCell ⟨g, 14, none⟩ (.bool ad6)).setCell ⟨g, 15, none⟩ (.int .u64 adh)).setCell ⟨g, 16, none⟩ (.int .u64 adl)).setCell ⟨g, 17, none⟩ (.bool as6)).setCell ⟨g, 18, none⟩ (.int .u64 ash)).setCell ⟨g, 19, none⟩ (.int .u64 asl)) g 58 #[.bool true, .int .i64 58, .bool s6, .int .u64 sh, .int .u64 sl, .bool d6, .int .u64 dh, .int .u64 dl, .int .i64 0, .int .i64 0, .int .i64 ttl, .int .i64 0, .bool true, .int .i64 apr, .bool ad6, .int .u64 adh, .int .u64 adl, .bool as6, .int .u64 ash, .int .u64 asl, .int .i64 0, .int .i64 0, .int .i64 sz] := k5.set_ 19 _
  have k7 : Blk ((((((((w9.setCell ⟨g, 13, none⟩ (.int .i64 apr)).setCell ⟨g, 14, none⟩ (.bool ad6)).setCell ⟨g, 15, none⟩ (.int .u64 adh)).setCell ⟨g, 16, none⟩ (.int .u64 adl)).setCell ⟨g, 17, none⟩ (.bool as6)).setCell ⟨g, 18, none⟩ (.int .u64 ash)).setCell ⟨g, 19, none⟩ (.int .u64 asl)).setCell ⟨g, 20, none⟩ (.int .i64 adp)) g 58 #[.bool true, .int .i64 58, .bool s6, .int .u64 sh, .int .u64 sl, .bool d6, .int .u64 dh, .int .u64 dl, .int .i64 0, .int .i64 0, .int .i64 ttl, .int .i64 0, .bool true, .int .i64 apr, .bool ad6, .int .u64 adh, .int .u64 adl, .bool as6, .int .u64 ash, .int .u64 asl, .int .i64 adp, .int .i64 0, .int .i64 sz] := k6.set_ 20 _
  have k8 : Blk (((((((((w9.setCell ⟨g, 13, none⟩ (.int .i64 apr)).setCell ⟨g, 14, none⟩ (.bool ad6)).setCell ⟨g, 15, none⟩ (.int .u64 adh)).setCell ⟨g, 16, none⟩ (.int .u64 adl)).setCell ⟨g, 17, none⟩ (.bool as6)).setCell ⟨g, 18, none⟩ (.int .u64 ash)).setCell ⟨g, 19, none⟩ (.int .u64 asl)).setCell ⟨g, 20, none⟩ (.int .i64 adp)).setCell ⟨g, 21, none⟩ (.int .i64 asp)) g 58 #[.bool true, .int .i64 58, .bool s6, .int .u64 sh, .int .u64 sl, .bool d6, .int .u64 dh, .int .u64 dl, .int .i64 0, .int .i64 0, .int .i64 ttl, .int .i64 0, .bool true, .int .i64 apr, .bool ad6, .int .u64 adh, .int .u64 adl, .bool as6, .int .u64 ash, .int .u64 asl, .int .i64 adp, .int .i64 asp, .int .i64 sz] := k7.set_ 21 _
  obtain ⟨w10, hw10⟩ : ∃ w10, w10 = (((((((((w9.setCell ⟨g, 13, none⟩ (.int .i64 apr)).setCell ⟨g, 14, none⟩ (.bool ad6)).setCell ⟨g, 15, none⟩ (.int .u64 adh)).setCell ⟨g, 16, none⟩ (.int .u64 adl)).setCell ⟨g, 17, none⟩ (.bool as6)).setCell ⟨g, 18, none⟩ (.int .u64 ash)).setCell ⟨g, 19, none⟩ (.int .u64 asl)).setCell ⟨g, 20, none⟩ (.int .i64 adp)).setCell ⟨g, 21, none⟩ (.int .i64 asp)) := ⟨_, rfl⟩
  have E10 := Lib.hid hw10
  have OG10 := Lib.hid (show OnlyG g w9 w10 from by rw [hw10]; exact ((((((((((OnlyG.refl g w9).set 13 (.int .i64 apr)).set 14 (.bool ad6)).set 15 (.int .u64 adh)).set 16 (.int .u64 adl)).set 17 (.bool as6)).set 18 (.int .u64 ash)).set 19 (.int .u64 asl)).set 20 (.int .i64 adp)).set 21 (.int .i64 asp)))
  have KP10 := Lib.hid (show Blk w10 g 58 #[.bool true, .int .i64 58, .bool s6, .int .u64 sh, .int .u64 sl, .bool d6, .int .u64 dh, .int .u64 dl, .int .i64 0, .int .i64 0, .int .i64 ttl, .int .i64 0, .bool true, .int .i64 apr, .bool ad6, .int .u64 adh, .int .u64 adl, .bool as6, .int .u64 ash, .int .u64 asl, .int .i64 adp, .int .i64 asp, .int .i64 sz] from by rw [hw10]; exact k8)
  have KQ10 := Lib.hid (OG10.out.blk KQ9.out (Ne.symm NE.out))
  have B10 := Lib.hid (OG10.out.from B9.out GW.out)
  clear hw10 k0 k1 k2 k3 k4 k5 k6 k7 k8
  go_upto_region 24 with fail
  rw [← E10.out]
  clear y13 z13 y14 z14 y15 z15 y16 z16 y17 z17 y18 z18 y19 z19 y20 z20 y21 z21
  go_wp2_with (refine wpList_store_row rfl 58 _ _ rfl q Z rfl rfl 58 Z KQ10.out HIZ.out rfl ZO.out ?_)
  refine bodyPost_ret (results_pk rfl _ _ q Z rfl (blkRow KQ10.out _) ZS.out) rfl ?_
  exact ⟨by rw [HZ.out]; rfl, (onlyRow _).from B10.out (by have := EQ.out; omega)⟩
set_option maxHeartbeats 8000000 in
set_option maxRecDepth 100000 in
theorem lp_icmp6_ok (ty co apr : Int) (as6 : Bool) (ash asl : Int) (ad6 : Bool) (adh adl asp adp : Int) (s6 : Bool) (sh sl : Int) (d6 : Bool) (dh dl ttl sz : Int) (A : Option Addr) (n c m : Nat) (r ps : List Int) (w : World)
    (HO : Hid (∀ V, Below w.heap.size w V → Calls Try.prog 58 #[.slice A n c] V fun o w' => Below V.heap.size V w' ∧ ∃ (AR : Option Addr) (cr : Nat) (AP : Option Addr) (np cp : Nat), o = .returned (.tuple #[.agg #[.bool true, .int .i64 58, .bool s6, .int .u64 sh, .int .u64 sl, .bool d6, .int .u64 dh, .int .u64 dl, .int .i64 0, .int .i64 0, .int .i64 ttl, .int .i64 0, .bool false, .int .i64 0, .bool false, .int .u64 0, .int .u64 0, .bool false, .int .u64 0, .int .u64 0, .int .i64 0, .int .i64 0, .int .i64 sz], .slice AR m cr, .slice AP np cp, .int .i64 0]) ∧ Sl w' AR m cr r ∧ Sl w' AP np cp ps))
    (HT : Hid (∀ V AR cr AP np cp, Below w.heap.size w V → Sl V AR m cr r → Sl V AP np cp ps → Calls Try.prog 61 #[.slice AR m cr, .slice AP np cp] V fun o w' => Below V.heap.size V w' ∧ ∃ (wd : Int) (Am : Option Addr) (nm cm : Nat), o = .returned (.tuple #[.agg #[.int .i64 ty, .int .i64 co, .int .u32 wd, .slice Am nm cm], .int .i64 0]) ∧ ∀ V2, Below w'.heap.size w' V2 → Calls Try.prog 22 #[.bool true, .agg #[.int .i64 ty, .int .i64 co, .int .u32 wd, .slice Am nm cm]] V2 fun o w' => o = .returned (.tuple #[.agg #[.int .i64 apr, .bool as6, .int .u64 ash, .int .u64 asl, .bool ad6, .int .u64 adh, .int .u64 adl, .int .i64 asp, .int .i64 adp], .int .i64 0]) ∧ Below V2.heap.size V2 w')) :
    Calls Try.prog 29 #[.slice A n c] w fun o w' => o = .returned (.tuple #[.agg #[.bool true, .int .i64 58, .bool s6, .int .u64 sh, .int .u64 sl, .bool d6, .int .u64 dh, .int .u64 dl, .int .i64 0, .int .i64 0, .int .i64 ttl, .int .i64 0, .bool true, .int .i64 apr, .bool ad6, .int .u64 adh, .int .u64 adl, .bool as6, .int .u64 ash, .int .u64 asl, .int .i64 adp, .int .i64 asp, .int .i64 sz], .int .i64 0]) ∧ Below w.heap.size w w' := by
  obtain ⟨Z, hZ⟩ : ∃ Z : Array Value, Z = #[.bool false, .int .i64 0, .bool false, .int .u64 0, .int .u64 0, .bool false, .int .u64 0, .int .u64 0, .int .i64 0, .int .i64 0, .int .i64 0, .int .i64 0, .bool false, .int .i64 0, .bool false, .int .u64 0, .int .u64 0, .bool false, .int .u64 0, .int .u64 0, .int .i64 0, .int .i64 0, .int .i64 0] := ⟨_, rfl⟩
  have hz : ∀ w : World, (zeroValue 58).run Try.prog w = .ok (.agg Z) w := by rw [hZ]; exact (zero_of_info pktF.zeroPkI).1
  have zs : Z.size = 23 := by rw [hZ]; rfl
  have zs2 : ¬ Z = #[] := by intro h; rw [h] at zs; cases zs
  have ZS := Lib.hid zs
  have HZ := Lib.hid hZ
  have ZO := Lib.hid (show Z.all (·.oneCell') = true from by rw [hZ]; kernel_rfl)
  clear hZ
  obtain ⟨w1, hw1⟩ : ∃ w1, w1 = w.alloc (.cells Z 58) := ⟨_, rfl⟩
  have E1 := Lib.hid hw1
  have B1 := Lib.hid (show Below w.heap.size w w1 from by rw [hw1]; exact (Below.refl _ _).alloc (Nat.le_refl _) _)
  obtain ⟨q, hq⟩ : ∃ q, q = w.heap.size := ⟨_, rfl⟩
  have EQ := Lib.hid hq
  have KQ1 := Lib.hid (show Blk w1 q 58 Z from by rw [hw1, hq]; exact Blk.new w _ _)
  have HI := Lib.hid pk_size
  have HIZ := Lib.hid (show (Try.prog.info? 58).map (·.size) = some Z.size from by rw [zs]; exact pk_size)
  clear hw1 hq
  go_enter Try.func29, Try.ntmps29
  go_upto_region 1 with fail
  rw [← E1.out, ← EQ.out]
  go_wp2_with fail
  refine (HO.out _ B1.out).mono ?_
  rintro o w2 ⟨hb2, AR, cr, AP, np, cp, rfl, hr, hp⟩
  obtain ⟨g, hg⟩ : ∃ g, g = w2.heap.size := ⟨_, rfl⟩
  have EG := Lib.hid hg
  have KN := Lib.hid (show Blk (w2.alloc (.cells Z 58)) w2.heap.size 58 Z from Blk.new w2 _ _)
  have KR := Lib.hid (show Blk ((w2.alloc (.cells Z 58)).setRow w2.heap.size #[.bool true, .int .i64 58, .bool s6, .int .u64 sh, .int .u64 sl, .bool d6, .int .u64 dh, .int .u64 dl, .int .i64 0, .int .i64 0, .int .i64 ttl, .int .i64 0, .bool false, .int .i64 0, .bool false, .int .u64 0, .int .u64 0, .bool false, .int .u64 0, .int .u64 0, .int .i64 0, .int .i64 0, .int .i64 sz]) w2.heap.size 58 #[.bool true, .int .i64 58, .bool s6, .int .u64 sh, .int .u64 sl, .bool d6, .int .u64 dh, .int .u64 dl, .int .i64 0, .int .i64 0, .int .i64 ttl, .int .i64 0, .bool false, .int .i64 0, .bool false, .int .u64 0, .int .u64 0, .bool false, .int .u64 0, .int .u64 0, .int .i64 0, .int .i64 0, .int .i64 sz] from blkRow KN.out _)
  have BR := Lib.hid (show Below w2.heap.size w2 ((w2.alloc (.cells Z 58)).setRow w2.heap.size #[.bool true, .int .i64 58, .bool s6, .int .u64 sh, .int .u64 sl, .bool d6, .int .u64 dh, .int .u64 dl, .int .i64 0, .int .i64 0, .int .i64 ttl, .int .i64 0, .bool false, .int .i64 0, .bool false, .int .u64 0, .int .u64 0, .bool false, .int .u64 0, .int .u64 0, .int .i64 0, .int .i64 0, .int .i64 sz]) from (onlyRow _).from ((Below.refl _ _).alloc (Nat.le_refl _) _) (Nat.le_refl _))
  obtain ⟨w3, hw3⟩ : ∃ w3, w3 = (w2.alloc (.cells Z 58)).setRow w2.heap.size #[.bool true, .int .i64 58, .bool s6, .int .u64 sh, .int .u64 sl, .bool d6, .int .u64 dh, .int .u64 dl, .int .i64 0, .int .i64 0, .int .i64 ttl, .int .i64 0, .bool false, .int .i64 0, .bool false, .int .u64 0, .int .u64 0, .bool false, .int .u64 0, .int .u64 0, .int .i64 0, .int .i64 0, .int .i64 sz] := ⟨_, rfl⟩
  have E3 := Lib.hid hw3
  have B23 := Lib.hid (show Below w2.heap.size w2 w3 from by rw [hw3]; exact BR.out)
  have B13 := Lib.hid (hb2.trans (B23.out.mono hb2.size))
  have KP3 := Lib.hid (show Blk w3 g 58 #[.bool true, .int .i64 58, .bool s6, .int .u64 sh, .int .u64 sl, .bool d6, .int .u64 dh, .int .u64 dl, .int .i64 0, .int .i64 0, .int .i64 ttl, .int .i64 0, .bool false, .int .i64 0, .bool false, .int .u64 0, .int .u64 0, .bool false, .int .u64 0, .int .u64 0, .int .i64 0, .int .i64 0, .int .i64 sz] from by rw [hw3, hg]; exact KR.out)
  have KQ3 := Lib.hid (KQ1.out.below B13.out KQ1.out.lt)
  have B3 := Lib.hid (B1.out.trans (B13.out.mono B1.out.size))
  have HR3 := Lib.hid (hr.below B23.out)
  have HP3 := Lib.hid (hp.below B23.out)
  have NE := Lib.hid (show g ≠ q from by have := KQ1.out.lt; have := hb2.size; omega)
  have GW := Lib.hid (show w.heap.size ≤ g from by have := B1.out.size; have := hb2.size; omega)
  clear hw3 hb2 hr hp hg
  go_upto_region 2 with (refine wpList_store_row rfl 58 _ _ rfl w2.heap.size #[.bool true, .int .i64 58, .bool s6, .int .u64 sh, .int .u64 sl, .bool d6, .int .u64 dh, .int .u64 dl, .int .i64 0, .int .i64 0, .int .i64 ttl, .int .i64 0, .bool false, .int .i64 0, .bool false, .int .u64 0, .int .u64 0, .bool false, .int .u64 0, .int .u64 0, .int .i64 0, .int .i64 0, .int .i64 sz] rfl rfl 58 Z KN.out HI.out ZS.out (by kernel_rfl) ?_)
  rw [← E3.out, ← EG.out]
  have p0 := KP3.out.cell 0
  have p1 := KP3.out.cell 1
  have PC := Lib.hid (HT.out w3 AR cr AP np cp B3.out HR3.out HP3.out)
  go_wp2_with fail
  refine PC.out.mono ?_
  rintro o w4 ⟨hb4, wd, Am, nm, cm, rfl, hq⟩
  have HQ := Lib.hid hq
  clear hq
  obtain ⟨w5, hw5⟩ : ∃ w5, w5 = w4.alloc (.cells #[.int .i64 ty, .int .i64 co, .int .u32 wd, .slice Am nm cm] 46) := ⟨_, rfl⟩
  obtain ⟨h, hh⟩ : ∃ h, h = w4.heap.size := ⟨_, rfl⟩
  have E5 := Lib.hid hw5
  have EEh := Lib.hid hh
  have BC5 := Lib.hid (show Below w4.heap.size w4 w5 from by rw [hw5]; exact (Below.refl _ _).alloc (Nat.le_refl _) _)
  have BB5 := Lib.hid (hb4.trans (BC5.out.mono hb4.size))
  have KM5 := Lib.hid (show Blk w5 h 46 #[.int .i64 ty, .int .i64 co, .int .u32 wd, .slice Am nm cm] from by rw [hw5, hh]; exact Blk.new w4 _ _)
  have KP5 := Lib.hid (KP3.out.below BB5.out KP3.out.lt)
  have KQ5 := Lib.hid (KQ3.out.below BB5.out KQ3.out.lt)
  have B5 := Lib.hid (B3.out.trans (BB5.out.mono B3.out.size))
  clear hw5 hb4 hh p0 p1
  go_upto_region 19 with fail
  rw [← E5.out, ← EEh.out]
  have p0 := KP5.out.cell 0
  have m0 := KM5.out.cell 0
  have m1 := KM5.out.cell 1
  have m2 := KM5.out.cell 2
  have m3 := KM5.out.cell 3
  go_wp2_with fail
  refine (HQ.out _ BC5.out).mono ?_
  rintro o w6 ⟨rfl, hb6⟩
  obtain ⟨w7, hw7⟩ : ∃ w7, w7 = w6.alloc (.cells #[.int .i64 apr, .bool as6, .int .u64 ash, .int .u64 asl, .bool ad6, .int .u64 adh, .int .u64 adl, .int .i64 asp, .int .i64 adp] 48) := ⟨_, rfl⟩
  obtain ⟨t, ht⟩ : ∃ t, t = w6.heap.size := ⟨_, rfl⟩
  have E7 := Lib.hid hw7
  have EEt := Lib.hid ht
  have BC7 := Lib.hid (show Below w6.heap.size w6 w7 from by rw [hw7]; exact (Below.refl _ _).alloc (Nat.le_refl _) _)
  have BB7 := Lib.hid (hb6.trans (BC7.out.mono hb6.size))
  have KT7 := Lib.hid (show Blk w7 t 48 #[.int .i64 apr, .bool as6, .int .u64 ash, .int .u64 asl, .bool ad6, .int .u64 adh, .int .u64 adl, .int .i64 asp, .int .i64 adp] from by rw [hw7, ht]; exact Blk.new w6 _ _)
  have KP7 := Lib.hid (KP5.out.below BB7.out KP5.out.lt)
  have KQ7 := Lib.hid (KQ5.out.below BB7.out KQ5.out.lt)
  have B7 := Lib.hid (B5.out.trans (BB7.out.mono B5.out.size))
  have NGT := Lib.hid (show t ≠ g from by have := KP5.out.lt; have := hb6.size; omega)
  clear hw7 hb6 ht p0 m0 m1 m2 m3
  go_upto_region 22 with fail
  rw [← E7.out, ← EEt.out]
  have p12 := KP7.out.cell 12
  have z12 := KP7.out.frozen 12
  obtain ⟨w8, hw8⟩ : ∃ w8, w8 = w7.setCell ⟨g, 12, none⟩ (.bool true) := ⟨_, rfl⟩
  have E8 := Lib.hid hw8
  have OG8 := Lib.hid (show OnlyG g w7 w8 from by rw [hw8]; exact (OnlyG.refl _ _).set 12 _)
  have KP8 := Lib.hid (show Blk w8 g 58 #[.bool true, .int .i64 58, .bool s6, .int .u64 sh, .int .u64 sl, .bool d6, .int .u64 dh, .int .u64 dl, .int .i64 0, .int .i64 0, .int .i64 ttl, .int .i64 0, .bool true, .int .i64 0, .bool false, .int .u64 0, .int .u64 0, .bool false, .int .u64 0, .int .u64 0, .int .i64 0, .int .i64 0, .int .i64 sz] from by rw [hw8]; exact KP7.out.set_ 12 _)
  have KQ8 := Lib.hid (OG8.out.blk KQ7.out (Ne.symm NE.out))
  have KT8 := Lib.hid (OG8.out.blk KT7.out NGT.out)
  have B8 := Lib.hid (OG8.out.from B7.out GW.out)
  clear hw8
  go_upto_region 23 with fail
  rw [← E8.out]
  clear p12 z12
  have q0 := KT8.out.cell 0
  have q1 := KT8.out.cell 1
  have q2 := KT8.out.cell 2
  have q3 := KT8.out.cell 3
  have q4 := KT8.out.cell 4
  have q5 := KT8.out.cell 5
  have q6 := KT8.out.cell 6
  have q7 := KT8.out.cell 7
  have q8 := KT8.out.cell 8
  go_wp2_with fail
  refine (icmpA.back_any apr as6 ash asl ad6 adh adl asp adp w8).mono ?_
  rintro o w9 ⟨rfl, hb9⟩
  have KP9 := Lib.hid (KP8.out.below hb9 KP8.out.lt)
  have KQ9 := Lib.hid (KQ8.out.below hb9 KQ8.out.lt)
  have B9 := Lib.hid (B8.out.trans (hb9.mono B8.out.size))
  clear hb9 q0 q1 q2 q3 q4 q5 q6 q7 q8
  have y13 := KP9.out.cell 13
  have z13 := KP9.out.frozen 13
  have y14 := KP9.out.cell 14
  have z14 := KP9.out.frozen 14
  have y15 := KP9.out.cell 15
  have z15 := KP9.out.frozen 15
  have y16 := KP9.out.cell 16
  have z16 := KP9.out.frozen 16
  have y17 := KP9.out.cell 17
  have z17 := KP9.out.frozen 17
  have y18 := KP9.out.cell 18
  have z18 := KP9.out.frozen 18
  have y19 := KP9.out.cell 19
  have z19 := KP9.out.frozen 19
  have y20 := KP9.out.cell 20
  have z20 := KP9.out.frozen 20
  have y21 := KP9.out.cell 21
  have z21 := KP9.out.frozen 21
  have k0 : Blk (w9.setCell ⟨g, 13, none⟩ (.int .i64 apr)) g 58 #[.bool true, .int .i64 58, .bool s6, .int .u64 sh, .int .u64 sl, .bool d6, .int .u64 dh, .int .u64 dl, .int .i64 0, .int .i64 0, .int .i64 ttl, .int .i64 0, .bool true, .int .i64 apr, .bool false, .int .u64 0, .int .u64 0, .bool false, .int .u64 0, .int .u64 0, .int .i64 0, .int .i64 0, .int .i64 sz] := KP9.out.set_ 13 _
  have k1 : Blk ((w9.setCell ⟨g, 13, none⟩ (.int .i64 apr)).setCell ⟨g, 14, none⟩ (.bool ad6)) g 58 #[.bool true, .int .i64 58, .bool s6, .int .u64 sh, .int .u64 sl, .bool d6, .int .u64 dh, .int .u64 dl, .int .i64 0, .int .i64 0, .int .i64 ttl, .int .i64 0, .bool true, .int .i64 apr, .bool ad6, .int .u64 0, .int .u64 0, .bool false, .int .u64 0, .int .u64 0, .int .i64 0, .int .i64 0, .int .i64 sz] := k0.set_ 14 _
  have k2 : Blk (((w9.setCell ⟨g, 13, none⟩ (.int .i64 apr)).setCell ⟨g, 14, none⟩ (.bool ad6)).setCell ⟨g, 15, none⟩ (.int .u64 adh)) g 58 #[.bool true, .int .i64 58, .bool s6, .int .u64 sh, .int .u64 sl, .bool d6, .int .u64 dh, .int .u64 dl, .int .i64 0, .int .i64 0, .int .i64 ttl, .int .i64 0, .bool true, .int .i64 apr, .bool ad6, .int .u64 adh, .int .u64 0, .bool false, .int .u64 0, .int .u64 0, .int .i64 0, .int .i64 0, .int .i64 sz] := k1.set_ 15 _
  have k3 : Blk ((((w9.setCell ⟨g, 13, none⟩ (.int .i64 apr)).setCell ⟨g, 14, none⟩ (.bool ad6)).setCell ⟨g, 15, none⟩ (.int .u64 adh)).setCell ⟨g, 16, none⟩ (.int .u64 adl)) g 58 #[.bool true, .int .i64 58, .bool s6, .int .u64 sh, .int .u64 sl, .bool d6, .int .u64 dh, .int .u64 dl, .int .i64 0, .int .i64 0, .int .i64 ttl, .int .i64 0, .bool true, .int .i64 apr, .bool ad6, .int .u64 adh, .int .u64 adl, .bool false, .int .u64 0, .int .u64 0, .int .i64 0, .int .i64 0, .int .i64 sz] := k2.set_ 16 _
  have k4 : Blk (((((w9.setCell ⟨g, 13, none⟩ (.int .i64 apr)).setCell ⟨g, 14, none⟩ (.bool ad6)).setCell ⟨g, 15, none⟩ (.int .u64 adh)).setCell ⟨g, 16, none⟩ (.int .u64 adl)).setCell ⟨g, 17, none⟩ (.bool as6)) g 58 #[.bool true, .int .i64 58, .bool s6, .int .u64 sh, .int .u64 sl, .bool d6, .int .u64 dh, .int .u64 dl, .int .i64 0, .int .i64 0, .int .i64 ttl, .int .i64 0, .bool true, .int .i64 apr, .bool ad6, .int .u64 adh, .int .u64 adl, .bool as6, .int .u64 0, .int .u64 0, .int .i64 0, .int .i64 0, .int .i64 sz] := k3.set_ 17 _
  have k5 : Blk ((((((w9.setCell ⟨g, 13, none⟩ (.int .i64 apr)).setCell ⟨g, 14, none⟩ (.bool ad6)).setCell ⟨g, 15, none⟩ (.int .u64 adh)).setCell ⟨g, 16, none⟩ (.int .u64 adl)).setCell ⟨g, 17, none⟩ (.bool as6)).setCell ⟨g, 18, none⟩ (.int .u64 ash)) g 58 #[.bool true, .int .i64 58, .bool s6, .int .u64 sh, .int .u64 sl, .bool d6, .int .u64 dh, .int .u64 dl, .int .i64 0, .int .i64 0, .int .i64 ttl, .int .i64 0, .bool true, .int .i64 apr, .bool ad6, .int .u64 adh, .int .u64 adl, .bool as6, .int .u64 ash, .int .u64 0, .int .i64 0, .int .i64 0, .int .i64 sz] := k4.set_ 18 _
  have k6 : Blk (((((((w9.setCell ⟨g, 13, none⟩ (.int .i64 apr)).setCell ⟨g, 14, none⟩ (.bool ad6)).setCell ⟨g, 15, none⟩ (.int .u64 adh)).setCell ⟨g, 16, none⟩ (.int .u64 adl)).setCell ⟨g, 17, none⟩ (.bool as6)).setCell ⟨g, 18, none⟩ (.int .u64 ash)).setCell ⟨g, 19, none⟩ (.int .u64 asl)) g 58 #[.bool true, .int .i64 58, .bool s6, .int .u64 sh, .int .u64 sl, .bool d6, .int .u64 dh, .int .u64 dl, .int .i64 0, .int .i64 0, .int .i64 ttl, .int .i64 0, .bool true, .int .i64 apr, .bool ad6, .int .u64 adh, .int .u64 adl, .bool as6, .int .u64 ash, .int .u64 asl, .int .i64 0, .int .i64 0, .int .i64 sz] := k5.set_ 19 _
  have k7 : Blk ((((((((w9.setCell ⟨g, 13, none⟩ (.int .i64 apr)).setCell ⟨g, 14, none⟩ (.bool ad6)).setCell ⟨g, 15, none⟩ (.int .u64 adh)).setCell ⟨g, 16, none⟩ (.int .u64 adl)).setCell ⟨g, 17, none⟩ (.bool as6)).setCell ⟨g, 18, none⟩ (.int .u64 ash)).setCell ⟨g, 19, none⟩ (.int .u64 asl)).setCell ⟨g, 20, none⟩ (.int .i64 adp)) g 58 #[.bool true, .int .i64 58, .bool s6, .int .u64 sh, .int .u64 sl, .bool d6, .int .u64 dh, .int .u64 dl, .int .i64 0, .int .i64 0, .int .i64 ttl, .int .i64 0, .bool true, .int .i64 apr, .bool ad6, .int .u64 adh, .int .u64 adl, .bool as6, .int .u64 ash, .int .u64 asl, .int .i64 adp, .int .i64 0, .int .i64 sz] := k6.set_ 20 _
  have k8 : Blk (((((((((w9.setCell ⟨g, 13, none⟩ (.int .i64 apr)).setCell ⟨g, 14, none⟩ (.bool ad6)).setCell ⟨g, 15, none⟩ (.int .u64 adh)).setCell ⟨g, 16, none⟩ (.int .u64 adl)).setCell ⟨g, 17, none⟩ (.bool as6)).setCell ⟨g, 18, none⟩ (.int .u64 ash)).setCell ⟨g, 19, none⟩ (.int .u64 asl)).setCell ⟨g, 20, none⟩ (.int .i64 adp)).setCell ⟨g, 21, none⟩ (.int .i64 asp)) g 58 #[.bool true, .int .i64 58, .bool s6, .int .u64 sh, .int .u64 sl, .bool d6, .int .u64 dh, .int .u64 dl, .int .i64 0, .int .i64 0, .int .i64 ttl, .int .i64 0, .bool true, .int .i64 apr, .bool ad6, .int .u64 adh, .int .u64 adl, .bool as6, .int .u64 ash, .int .u64 asl, .int .i64 adp, .int .i64 asp, .int .i64 sz] := k7.set_ 21 _
  obtain ⟨w10, hw10⟩ : ∃ w10, w10 = (((((((((w9.setCell ⟨g, 13, none⟩ (.int .i64 apr)).setCell ⟨g, 14, none⟩ (.bool ad6)).setCell ⟨g, 15, none⟩ (.int .u64 adh)).setCell ⟨g, 16, none⟩ (.int .u64 adl)).setCell ⟨g, 17, none⟩ (.bool as6)).setCell ⟨g, 18, none⟩ (.int .u64 ash)).setCell ⟨g, 19, none⟩ (.int .u64 asl)).setCell ⟨g, 20, none⟩ (.int .i64 adp)).setCell ⟨g, 21, none⟩ (.int .i64 asp)) := ⟨_, rfl⟩
  have E10 := Lib.hid hw10
  have OG10 := Lib.hid (show OnlyG g w9 w10 from by rw [hw10]; exact ((((((((((OnlyG.refl g w9).set 13 (.int .i64 apr)).set 14 (.bool ad6)).set 15 (.int .u64 adh)).set 16 (.int .u64 adl)).set 17 (.bool as6)).set 18 (.int .u64 ash)).set 19 (.int .u64 asl)).set 20 (.int .i64 adp)).set 21 (.int .i64 asp)))
  have KP10 := Lib.hid (show Blk w10 g 58 #[.bool true, .int .i64 58, .bool s6, .int .u64 sh, .int .u64 sl, .bool d6, .int .u64 dh, .int .u64 dl, .int .i64 0, .int .i64 0, .int .i64 ttl, .int .i64 0, .bool true, .int .i64 apr, .bool ad6, .int .u64 adh, .int .u64 adl, .bool as6, .int .u64 ash, .int .u64 asl, .int .i64 adp, .int .i64 asp, .int .i64 sz] from by rw [hw10]; exact k8)
  have KQ10 := Lib.hid (OG10.out.blk KQ9.out (Ne.symm NE.out))
  have B10 := Lib.hid (OG10.out.from B9.out GW.out)
  clear hw10 k0 k1 k2 k3 k4 k5 k6 k7 k8
  go_upto_region 24 with fail
  rw [← E10.out]
  clear y13 z13 y14 z14 y15 z15 y16 z16 y17 z17 y18 z18 y19 z19 y20 z20 y21 z21
  go_wp2_with (first
    | (refine wpList_load_row rfl 58 _ rfl g rfl 58 #[.bool true, .int .i64 58, .bool s6, .int .u64 sh, .int .u64 sl, .bool d6, .int .u64 dh, .int .u64 dl, .int .i64 0, .int .i64 0, .int .i64 ttl, .int .i64 0, .bool true, .int .i64 apr, .bool ad6, .int .u64 adh, .int .u64 adl, .bool as6, .int .u64 ash, .int .u64 asl, .int .i64 adp, .int .i64 asp, .int .i64 sz] (0, 0) _ KP10.out Try.underlying58 rfl HI.out ?_)
    | (refine wpList_store_row rfl 58 _ _ rfl q #[.bool true, .int .i64 58, .bool s6, .int .u64 sh, .int .u64 sl, .bool d6, .int .u64 dh, .int .u64 dl, .int .i64 0, .int .i64 0, .int .i64 ttl, .int .i64 0, .bool true, .int .i64 apr, .bool ad6, .int .u64 adh, .int .u64 adl, .bool as6, .int .u64 ash, .int .u64 asl, .int .i64 adp, .int .i64 asp, .int .i64 sz] rfl rfl 58 Z KQ10.out HI.out ZS.out (by kernel_rfl) ?_))
  refine bodyPost_ret (results_pk rfl _ _ q #[.bool true, .int .i64 58, .bool s6, .int .u64 sh, .int .u64 sl, .bool d6, .int .u64 dh, .int .u64 dl, .int .i64 0, .int .i64 0, .int .i64 ttl, .int .i64 0, .bool true, .int .i64 apr, .bool ad6, .int .u64 adh, .int .u64 adl, .bool as6, .int .u64 ash, .int .u64 asl, .int .i64 adp, .int .i64 asp, .int .i64 sz] rfl (blkRow KQ10.out _) rfl) rfl ?_
  exact ⟨rfl, (onlyRow _).from B10.out (by have := EQ.out; omega)⟩
end Go.Proofs.Ytndekicblbpkjaa.pktH
