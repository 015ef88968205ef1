/- 1 texts in one. -/
import Derived.Deep.RegionHeld3
import Derived.Test.YtodckfgfbcnkoaaTb17
/- Layer 14: Open. -/
namespace Go.Proofs.Ytodckfgfbcnkoaa.tunD
open Go.ChangeShapes Go.WideShapes Go.ChangeAt Go.RowKit
open Go.Proofs.Ytodckfgfbcnkoaa.base Go.Proofs.Ytodckfgfbcnkoaa.rdrA Go.Proofs.Ytodckfgfbcnkoaa.rdrG Go.Proofs.Ytodckfgfbcnkoaa.sumB Go.Proofs.Ytodckfgfbcnkoaa.sixM Go.Proofs.Ytodckfgfbcnkoaa.pktA Go.Proofs.Ytodckfgfbcnkoaa.pktB Go.Proofs.Ytodckfgfbcnkoaa.pktC Go.Proofs.Ytodckfgfbcnkoaa.pktE Go.Proofs.Ytodckfgfbcnkoaa.sixE Go.Proofs.Ytodckfgfbcnkoaa.tunW Go.Proofs.Ytodckfgfbcnkoaa.tunB
set_option linter.unusedVariables false

theorem results_top {fn : Func} {u p q x : Tmp} (h : fn.results = #[.tmp u, .cell p 32, .cell q 32, .tmp x]) (tmps : Array Value) (w : World) (g1 g2 : Nat) (a1 a2 : Array Value) (hp : tmps.getD p undef = .pointer (some ⟨g1, 0, none⟩)) (hq : tmps.getD q undef = .pointer (some ⟨g2, 0, none⟩)) (h1 : Blk w g1 32 a1) (h2 : Blk w g2 32 a2) (s1 : a1.size = 3) (s2 : a2.size = 3) :
    (results fn tmps).run Try.prog w = .ok (.tuple #[tmps.getD u undef, .agg a1, .agg a2, tmps.getD x undef]) w := by
  have e : (results fn tmps).run Try.prog w = ((asAddr (tmps.getD p undef)).run Try.prog w).andThen fun a w1 => ((loadVar 32 a).run Try.prog w1).andThen fun y w2 => ((asAddr (tmps.getD q undef)).run Try.prog w2).andThen fun a2 w3 => ((loadVar 32 a2).run Try.prog w3).andThen fun y2 w4 => .ok (.tuple #[tmps.getD u undef, y, y2, tmps.getD x undef]) w4 := by
    simp only [results, h]
    simp [Sem.run_bind, Result.andThen]
  rw [e, hp, hq]
  simp only [asAddr, Sem.run_pure, Result.andThen_ok]
  rw [run_loadVar_row w g1 32 32 a1 (0, 0) _ h1 Try.underlying32 rfl (by rw [s1]; kernel_rfl)]
  simp only [Result.andThen_ok]
  rw [run_loadVar_row w g2 32 32 a2 (0, 0) _ h2 Try.underlying32 rfl (by rw [s2]; kernel_rfl)]
  rfl
def TopP (r : Rd) (w : World) (o : Ending) (w' : World) : Prop := Below w.heap.size w w' ∧ ∃ (A : Option Addr) (c : Nat), o = .returned (.tuple #[.slice A r.b.length c, .agg #[.bool r.s6, .int .u64 r.sh, .int .u64 r.sl], .agg #[.bool r.d6, .int .u64 r.dh, .int .u64 r.dl], .int .i64 r.e]) ∧ Sl w' A r.b.length c r.b
set_option maxHeartbeats 4000000 in
set_option maxRecDepth 100000 in
theorem open_ze (A : Option Addr) (c : Nat) (s6 : Bool) (sh sl : Int) (d6 : Bool) (dh dl p : Int) (r : List Int) (e : Int) (he : e ≠ 0) (w : World) 
    (HC : Hid (∀ V, Below w.heap.size w V → Calls Try.prog 39 #[.slice A 0 c] V (OpnP ⟨r, s6, sh, sl, d6, dh, dl, p, e⟩ V))) :
    Calls Try.prog 17 #[.slice A 0 c] w (TopP ⟨[], false, 0, 0, false, 0, 0, 0, e⟩ w) := by
  obtain ⟨m, hm0⟩ : ∃ m, m = r.length := ⟨_, rfl⟩
  have HM := Lib.hid hm0
  unfold OpnP at HC
  dsimp only at HC
  rw [← hm0] at HC
  clear hm0
  have te : (e != 0) = true := by simpa using he
  have te2 : (e == 0) = false := by simpa using he
  clear he
  obtain ⟨w0, hw0⟩ : ∃ w0, w0 = w.alloc (.cells #[.bool false, .int .u64 0, .int .u64 0] 32) := ⟨_, rfl⟩
  obtain ⟨w1, hw1⟩ : ∃ w1, w1 = w0.alloc (.cells #[.bool false, .int .u64 0, .int .u64 0] 32) := ⟨_, rfl⟩
  obtain ⟨p1, hp1⟩ : ∃ p1, p1 = w.heap.size := ⟨_, rfl⟩
  obtain ⟨p2, hp2⟩ : ∃ p2, p2 = p1 + 1 := ⟨_, rfl⟩
  have E0 := Lib.hid hw0
  have E1 := Lib.hid hw1
  have EP1 := Lib.hid hp1
  have EP2 := Lib.hid hp2
  have B0 := Lib.hid (show Below w.heap.size w w0 from by rw [hw0]; exact (Below.refl _ _).alloc (Nat.le_refl _) _)
  have B01 := Lib.hid (show Below w0.heap.size w0 w1 from by rw [hw1]; exact (Below.refl _ _).alloc (Nat.le_refl _) _)
  have B1 := Lib.hid (B0.out.trans (B01.out.mono B0.out.size))
  have K0 := Lib.hid (show Blk w0 p1 32 #[.bool false, .int .u64 0, .int .u64 0] from by rw [hw0, hp1]; exact Blk.new w _ _)
  have KA1 := Lib.hid (K0.out.below B01.out K0.out.lt)
  have KB1 := Lib.hid (show Blk w1 p2 32 #[.bool false, .int .u64 0, .int .u64 0] from by
    have e9 : p2 = w0.heap.size := by rw [hp2, hp1, hw0]; simp
    rw [hw1, e9]; exact Blk.new w0 _ _)
  have n3 : p1 ≠ p2 := by omega
  have N3 := Lib.hid n3
  clear hw0 hw1 hp1 hp2 n3
  go_enter Try.func17, Try.ntmps17
  go_upto_region 1 with fail
  rw [← E0.out, ← EP1.out, ← EP2.out, ← E1.out]
  go_upto_region 4 with fail
  go_wp2_with fail
  refine (HC.out _ B1.out).mono ?_
  rintro o w2 ⟨hb2, AR, cr, rfl, hsl⟩
  have KA2 := Lib.hid (KA1.out.below hb2 KA1.out.lt)
  have KB2 := Lib.hid (KB1.out.below hb2 KB1.out.lt)
  have B2 := Lib.hid (B1.out.trans (hb2.mono B1.out.size))
  have KB2a := Lib.hid (afar w2 p1 p2 (.bool s6) (.int .u64 sh) (.int .u64 sl) _ _ (Ne.symm N3.out) KB2.out)
  have KA2a := Lib.hid (astore w2 p1 (.bool s6) (.int .u64 sh) (.int .u64 sl) _ _ _ KA2.out)
  obtain ⟨w3, hw3⟩ : ∃ w3, w3 = ((((((w2.setCell ⟨p1, 0, none⟩ (.bool s6)).setCell ⟨p1, 1, none⟩ (.int .u64 sh)).setCell ⟨p1, 2, none⟩ (.int .u64 sl)).setCell ⟨p2, 0, none⟩ (.bool d6)).setCell ⟨p2, 1, none⟩ (.int .u64 dh)).setCell ⟨p2, 2, none⟩ (.int .u64 dl)) := ⟨_, rfl⟩
  have E3 := Lib.hid hw3
  have KA3 := Lib.hid (show Blk w3 p1 32 #[.bool s6, .int .u64 sh, .int .u64 sl] from by rw [hw3]; exact afar _ p2 p1 _ _ _ _ _ N3.out KA2a.out)
  have KB3 := Lib.hid (show Blk w3 p2 32 #[.bool d6, .int .u64 dh, .int .u64 dl] from by rw [hw3]; exact astore _ p2 _ _ _ _ _ _ KB2a.out)
  have SL3 := Lib.hid (show Sl w3 AR m cr r from by rw [hw3]; exact Sl_apart (Sl_apart hsl (aonly _ _ _ _ _) KA2.out) (aonly _ _ _ _ _) KB2a.out)
  have B3 := Lib.hid (show Below w.heap.size w w3 from by rw [hw3]; exact (aonly _ p2 _ _ _).from ((aonly w2 p1 _ _ _).from B2.out (by have := EP1.out; omega)) (by have := EP1.out; have := EP2.out; omega))
  clear hw3 hb2 hsl
  have y1 := KA2.out.cell 0
  have f1 := KA2.out.frozen 0
  have x1 := KB2a.out.cell 0
  have g1 := KB2a.out.frozen 0
  have y2 := KA2.out.cell 1
  have f2 := KA2.out.frozen 1
  have x2 := KB2a.out.cell 1
  have g2 := KB2a.out.frozen 1
  have y3 := KA2.out.cell 2
  have f3 := KA2.out.frozen 2
  have x3 := KB2a.out.cell 2
  have g3 := KB2a.out.frozen 2
  go_upto_region 5 with fail
  rw [← E3.out]
  clear y1 f1 x1 g1 y2 f2 x2 g2 y3 f3 x3 g3
  have KBa := Lib.hid (afar w3 p1 p2 (.bool false) (.int .u64 0) (.int .u64 0) _ _ (Ne.symm N3.out) KB3.out)
  have KAa := Lib.hid (astore w3 p1 (.bool false) (.int .u64 0) (.int .u64 0) _ _ _ KA3.out)
  have y1 := KA3.out.cell 0
  have f1 := KA3.out.frozen 0
  have x1 := KBa.out.cell 0
  have g1 := KBa.out.frozen 0
  have y2 := KA3.out.cell 1
  have f2 := KA3.out.frozen 1
  have x2 := KBa.out.cell 1
  have g2 := KBa.out.frozen 1
  have y3 := KA3.out.cell 2
  have f3 := KA3.out.frozen 2
  have x3 := KBa.out.cell 2
  have g3 := KBa.out.frozen 2
  go_wp2_with fail
  have KAb := afar _ p2 p1 (.bool false) (.int .u64 0) (.int .u64 0) _ _ N3.out KAa.out
  have KBb := astore _ p2 (.bool false) (.int .u64 0) (.int .u64 0) _ _ _ KBa.out
  refine bodyPost_ret (results_top rfl _ _ p1 p2 #[.bool false, .int .u64 0, .int .u64 0] #[.bool false, .int .u64 0, .int .u64 0] rfl rfl KAb KBb rfl rfl) rfl ?_
  exact ⟨(aonly _ p2 _ _ _).from ((aonly w3 p1 _ _ _).from B3.out (by have := EP1.out; omega)) (by have := EP1.out; have := EP2.out; omega), none, 0, rfl, Sl.none_ _⟩
set_option maxHeartbeats 4000000 in
set_option maxRecDepth 100000 in
theorem open_zr (A : Option Addr) (c : Nat) (s6 : Bool) (sh sl : Int) (d6 : Bool) (dh dl p : Int) (r : List Int) (e : Int) (he : e ≠ 0) (w : World) 
    (HC : Hid (∀ V, Below w.heap.size w V → Calls Try.prog 39 #[.slice A 0 c] V (OpnP ⟨r, s6, sh, sl, d6, dh, dl, p, 0⟩ V)))
    (HR : Hid (∀ V A2 c2, Sl V A2 r.length c2 r → Calls Try.prog 41 #[.slice A2 r.length c2, .int .i64 p] V fun o w' => o = .returned (.int .i64 e) ∧ Below V.heap.size V w')) :
    Calls Try.prog 17 #[.slice A 0 c] w (TopP ⟨[], false, 0, 0, false, 0, 0, 0, e⟩ w) := by
  obtain ⟨m, hm0⟩ : ∃ m, m = r.length := ⟨_, rfl⟩
  have HM := Lib.hid hm0
  unfold OpnP at HC
  dsimp only at HC
  rw [← hm0] at HC HR
  clear hm0
  have te : (e != 0) = true := by simpa using he
  have te2 : (e == 0) = false := by simpa using he
  clear he
  obtain ⟨w0, hw0⟩ : ∃ w0, w0 = w.alloc (.cells #[.bool false, .int .u64 0, .int .u64 0] 32) := ⟨_, rfl⟩
  obtain ⟨w1, hw1⟩ : ∃ w1, w1 = w0.alloc (.cells #[.bool false, .int .u64 0, .int .u64 0] 32) := ⟨_, rfl⟩
  obtain ⟨p1, hp1⟩ : ∃ p1, p1 = w.heap.size := ⟨_, rfl⟩
  obtain ⟨p2, hp2⟩ : ∃ p2, p2 = p1 + 1 := ⟨_, rfl⟩
  have E0 := Lib.hid hw0
  have E1 := Lib.hid hw1
  have EP1 := Lib.hid hp1
  have EP2 := Lib.hid hp2
  have B0 := Lib.hid (show Below w.heap.size w w0 from by rw [hw0]; exact (Below.refl _ _).alloc (Nat.le_refl _) _)
  have B01 := Lib.hid (show Below w0.heap.size w0 w1 from by rw [hw1]; exact (Below.refl _ _).alloc (Nat.le_refl _) _)
  have B1 := Lib.hid (B0.out.trans (B01.out.mono B0.out.size))
  have K0 := Lib.hid (show Blk w0 p1 32 #[.bool false, .int .u64 0, .int .u64 0] from by rw [hw0, hp1]; exact Blk.new w _ _)
  have KA1 := Lib.hid (K0.out.below B01.out K0.out.lt)
  have KB1 := Lib.hid (show Blk w1 p2 32 #[.bool false, .int .u64 0, .int .u64 0] from by
    have e9 : p2 = w0.heap.size := by rw [hp2, hp1, hw0]; simp
    rw [hw1, e9]; exact Blk.new w0 _ _)
  have n3 : p1 ≠ p2 := by omega
  have N3 := Lib.hid n3
  clear hw0 hw1 hp1 hp2 n3
  go_enter Try.func17, Try.ntmps17
  go_upto_region 1 with fail
  rw [← E0.out, ← EP1.out, ← EP2.out, ← E1.out]
  go_upto_region 4 with fail
  go_wp2_with fail
  refine (HC.out _ B1.out).mono ?_
  rintro o w2 ⟨hb2, AR, cr, rfl, hsl⟩
  have KA2 := Lib.hid (KA1.out.below hb2 KA1.out.lt)
  have KB2 := Lib.hid (KB1.out.below hb2 KB1.out.lt)
  have B2 := Lib.hid (B1.out.trans (hb2.mono B1.out.size))
  have KB2a := Lib.hid (afar w2 p1 p2 (.bool s6) (.int .u64 sh) (.int .u64 sl) _ _ (Ne.symm N3.out) KB2.out)
  have KA2a := Lib.hid (astore w2 p1 (.bool s6) (.int .u64 sh) (.int .u64 sl) _ _ _ KA2.out)
  obtain ⟨w3, hw3⟩ : ∃ w3, w3 = ((((((w2.setCell ⟨p1, 0, none⟩ (.bool s6)).setCell ⟨p1, 1, none⟩ (.int .u64 sh)).setCell ⟨p1, 2, none⟩ (.int .u64 sl)).setCell ⟨p2, 0, none⟩ (.bool d6)).setCell ⟨p2, 1, none⟩ (.int .u64 dh)).setCell ⟨p2, 2, none⟩ (.int .u64 dl)) := ⟨_, rfl⟩
  have E3 := Lib.hid hw3
  have KA3 := Lib.hid (show Blk w3 p1 32 #[.bool s6, .int .u64 sh, .int .u64 sl] from by rw [hw3]; exact afar _ p2 p1 _ _ _ _ _ N3.out KA2a.out)
  have KB3 := Lib.hid (show Blk w3 p2 32 #[.bool d6, .int .u64 dh, .int .u64 dl] from by rw [hw3]; exact astore _ p2 _ _ _ _ _ _ KB2a.out)
  have SL3 := Lib.hid (show Sl w3 AR m cr r from by rw [hw3]; exact Sl_apart (Sl_apart hsl (aonly _ _ _ _ _) KA2.out) (aonly _ _ _ _ _) KB2a.out)
  have B3 := Lib.hid (show Below w.heap.size w w3 from by rw [hw3]; exact (aonly _ p2 _ _ _).from ((aonly w2 p1 _ _ _).from B2.out (by have := EP1.out; omega)) (by have := EP1.out; have := EP2.out; omega))
  clear hw3 hb2 hsl
  have y1 := KA2.out.cell 0
  have f1 := KA2.out.frozen 0
  have x1 := KB2a.out.cell 0
  have g1 := KB2a.out.frozen 0
  have y2 := KA2.out.cell 1
  have f2 := KA2.out.frozen 1
  have x2 := KB2a.out.cell 1
  have g2 := KB2a.out.frozen 1
  have y3 := KA2.out.cell 2
  have f3 := KA2.out.frozen 2
  have x3 := KB2a.out.cell 2
  have g3 := KB2a.out.frozen 2
  go_upto_region 5 with fail
  rw [← E3.out]
  clear y1 f1 x1 g1 y2 f2 x2 g2 y3 f3 x3 g3
  go_wp2_with fail
  refine (HR.out _ _ _ SL3.out).mono ?_
  rintro o w4 ⟨rfl, hb4⟩
  have KA4 := Lib.hid (KA3.out.below hb4 KA3.out.lt)
  have KB4 := Lib.hid (KB3.out.below hb4 KB3.out.lt)
  have SL4 := Lib.hid (SL3.out.below hb4)
  have B4 := Lib.hid (B3.out.trans (hb4.mono B3.out.size))
  clear hb4
  have KBa := Lib.hid (afar w4 p1 p2 (.bool false) (.int .u64 0) (.int .u64 0) _ _ (Ne.symm N3.out) KB4.out)
  have KAa := Lib.hid (astore w4 p1 (.bool false) (.int .u64 0) (.int .u64 0) _ _ _ KA4.out)
  have y1 := KA4.out.cell 0
  have f1 := KA4.out.frozen 0
  have x1 := KBa.out.cell 0
  have g1 := KBa.out.frozen 0
  have y2 := KA4.out.cell 1
  have f2 := KA4.out.frozen 1
  have x2 := KBa.out.cell 1
  have g2 := KBa.out.frozen 1
  have y3 := KA4.out.cell 2
  have f3 := KA4.out.frozen 2
  have x3 := KBa.out.cell 2
  have g3 := KBa.out.frozen 2
  go_wp2_with fail
  have KAb := afar _ p2 p1 (.bool false) (.int .u64 0) (.int .u64 0) _ _ N3.out KAa.out
  have KBb := astore _ p2 (.bool false) (.int .u64 0) (.int .u64 0) _ _ _ KBa.out
  refine bodyPost_ret (results_top rfl _ _ p1 p2 #[.bool false, .int .u64 0, .int .u64 0] #[.bool false, .int .u64 0, .int .u64 0] rfl rfl KAb KBb rfl rfl) rfl ?_
  exact ⟨(aonly _ p2 _ _ _).from ((aonly w4 p1 _ _ _).from B4.out (by have := EP1.out; omega)) (by have := EP1.out; have := EP2.out; omega), none, 0, rfl, Sl.none_ _⟩
set_option maxHeartbeats 4000000 in
set_option maxRecDepth 100000 in
theorem open_zg (A : Option Addr) (c : Nat) (s6 : Bool) (sh sl : Int) (d6 : Bool) (dh dl p : Int) (r : List Int) (w : World) 
    (HC : Hid (∀ V, Below w.heap.size w V → Calls Try.prog 39 #[.slice A 0 c] V (OpnP ⟨r, s6, sh, sl, d6, dh, dl, p, 0⟩ V)))
    (HR : Hid (∀ V A2 c2, Sl V A2 r.length c2 r → Calls Try.prog 41 #[.slice A2 r.length c2, .int .i64 p] V fun o w' => o = .returned (.int .i64 0) ∧ Below V.heap.size V w')) :
    Calls Try.prog 17 #[.slice A 0 c] w (TopP ⟨r, s6, sh, sl, d6, dh, dl, 0, 0⟩ w) := by
  obtain ⟨m, hm0⟩ : ∃ m, m = r.length := ⟨_, rfl⟩
  have HM := Lib.hid hm0
  unfold OpnP at HC
  dsimp only at HC
  rw [← hm0] at HC HR
  clear hm0
  obtain ⟨w0, hw0⟩ : ∃ w0, w0 = w.alloc (.cells #[.bool false, .int .u64 0, .int .u64 0] 32) := ⟨_, rfl⟩
  obtain ⟨w1, hw1⟩ : ∃ w1, w1 = w0.alloc (.cells #[.bool false, .int .u64 0, .int .u64 0] 32) := ⟨_, rfl⟩
  obtain ⟨p1, hp1⟩ : ∃ p1, p1 = w.heap.size := ⟨_, rfl⟩
  obtain ⟨p2, hp2⟩ : ∃ p2, p2 = p1 + 1 := ⟨_, rfl⟩
  have E0 := Lib.hid hw0
  have E1 := Lib.hid hw1
  have EP1 := Lib.hid hp1
  have EP2 := Lib.hid hp2
  have B0 := Lib.hid (show Below w.heap.size w w0 from by rw [hw0]; exact (Below.refl _ _).alloc (Nat.le_refl _) _)
  have B01 := Lib.hid (show Below w0.heap.size w0 w1 from by rw [hw1]; exact (Below.refl _ _).alloc (Nat.le_refl _) _)
  have B1 := Lib.hid (B0.out.trans (B01.out.mono B0.out.size))
  have K0 := Lib.hid (show Blk w0 p1 32 #[.bool false, .int .u64 0, .int .u64 0] from by rw [hw0, hp1]; exact Blk.new w _ _)
  have KA1 := Lib.hid (K0.out.below B01.out K0.out.lt)
  have KB1 := Lib.hid (show Blk w1 p2 32 #[.bool false, .int .u64 0, .int .u64 0] from by
    have e9 : p2 = w0.heap.size := by rw [hp2, hp1, hw0]; simp
    rw [hw1, e9]; exact Blk.new w0 _ _)
  have n3 : p1 ≠ p2 := by omega
  have N3 := Lib.hid n3
  clear hw0 hw1 hp1 hp2 n3
  go_enter Try.func17, Try.ntmps17
  go_upto_region 1 with fail
  rw [← E0.out, ← EP1.out, ← EP2.out, ← E1.out]
  go_upto_region 4 with fail
  go_wp2_with fail
  refine (HC.out _ B1.out).mono ?_
  rintro o w2 ⟨hb2, AR, cr, rfl, hsl⟩
  have KA2 := Lib.hid (KA1.out.below hb2 KA1.out.lt)
  have KB2 := Lib.hid (KB1.out.below hb2 KB1.out.lt)
  have B2 := Lib.hid (B1.out.trans (hb2.mono B1.out.size))
  have KB2a := Lib.hid (afar w2 p1 p2 (.bool s6) (.int .u64 sh) (.int .u64 sl) _ _ (Ne.symm N3.out) KB2.out)
  have KA2a := Lib.hid (astore w2 p1 (.bool s6) (.int .u64 sh) (.int .u64 sl) _ _ _ KA2.out)
  obtain ⟨w3, hw3⟩ : ∃ w3, w3 = ((((((w2.setCell ⟨p1, 0, none⟩ (.bool s6)).setCell ⟨p1, 1, none⟩ (.int .u64 sh)).setCell ⟨p1, 2, none⟩ (.int .u64 sl)).setCell ⟨p2, 0, none⟩ (.bool d6)).setCell ⟨p2, 1, none⟩ (.int .u64 dh)).setCell ⟨p2, 2, none⟩ (.int .u64 dl)) := ⟨_, rfl⟩
  have E3 := Lib.hid hw3
  have KA3 := Lib.hid (show Blk w3 p1 32 #[.bool s6, .int .u64 sh, .int .u64 sl] from by rw [hw3]; exact afar _ p2 p1 _ _ _ _ _ N3.out KA2a.out)
  have KB3 := Lib.hid (show Blk w3 p2 32 #[.bool d6, .int .u64 dh, .int .u64 dl] from by rw [hw3]; exact astore _ p2 _ _ _ _ _ _ KB2a.out)
  have SL3 := Lib.hid (show Sl w3 AR m cr r from by rw [hw3]; exact Sl_apart (Sl_apart hsl (aonly _ _ _ _ _) KA2.out) (aonly _ _ _ _ _) KB2a.out)
  have B3 := Lib.hid (show Below w.heap.size w w3 from by rw [hw3]; exact (aonly _ p2 _ _ _).from ((aonly w2 p1 _ _ _).from B2.out (by have := EP1.out; omega)) (by have := EP1.out; have := EP2.out; omega))
  clear hw3 hb2 hsl
  have y1 := KA2.out.cell 0
  have f1 := KA2.out.frozen 0
  have x1 := KB2a.out.cell 0
  have g1 := KB2a.out.frozen 0
  have y2 := KA2.out.cell 1
  have f2 := KA2.out.frozen 1
  have x2 := KB2a.out.cell 1
  have g2 := KB2a.out.frozen 1
  have y3 := KA2.out.cell 2
  have f3 := KA2.out.frozen 2
  have x3 := KB2a.out.cell 2
  have g3 := KB2a.out.frozen 2
  go_upto_region 5 with fail
  rw [← E3.out]
  clear y1 f1 x1 g1 y2 f2 x2 g2 y3 f3 x3 g3
  go_wp2_with fail
  refine (HR.out _ _ _ SL3.out).mono ?_
  rintro o w4 ⟨rfl, hb4⟩
  have KA4 := Lib.hid (KA3.out.below hb4 KA3.out.lt)
  have KB4 := Lib.hid (KB3.out.below hb4 KB3.out.lt)
  have SL4 := Lib.hid (SL3.out.below hb4)
  have B4 := Lib.hid (B3.out.trans (hb4.mono B3.out.size))
  clear hb4
  have HSF := Lib.hid (show ∀ V, Blk V p1 32 #[.bool s6, .int .u64 sh, .int .u64 sl] → Blk V p2 32 #[.bool d6, .int .u64 dh, .int .u64 dl] → (V.drew.cell? ⟨p1, 0, none⟩ = some (.bool s6) ∧ V.drew.cell? ⟨p1, 1, none⟩ = some (.int .u64 sh) ∧ V.drew.cell? ⟨p1, 2, none⟩ = some (.int .u64 sl) ∧ V.drew.cell? ⟨p2, 0, none⟩ = some (.bool d6) ∧ V.drew.cell? ⟨p2, 1, none⟩ = some (.int .u64 dh) ∧ V.drew.cell? ⟨p2, 2, none⟩ = some (.int .u64 dl)) from fun V q1 q2 => by
    have q3 := q1.below (Below.refl V.heap.size V).drew q1.lt
    have q4 := q2.below (Below.refl V.heap.size V).drew q2.lt
    exact ⟨q3.cell 0, q3.cell 1, q3.cell 2, q4.cell 0, q4.cell 1, q4.cell 2⟩)
  have KBa := Lib.hid (afar w4 p1 p2 (.bool s6) (.int .u64 sh) (.int .u64 sl) _ _ (Ne.symm N3.out) KB4.out)
  have KAa := Lib.hid (astore w4 p1 (.bool s6) (.int .u64 sh) (.int .u64 sl) _ _ _ KA4.out)
  have KAb := Lib.hid (afar (((w4.setCell ⟨p1, 0, none⟩ (.bool s6)).setCell ⟨p1, 1, none⟩ (.int .u64 sh)).setCell ⟨p1, 2, none⟩ (.int .u64 sl)) p2 p1 (.bool d6) (.int .u64 dh) (.int .u64 dl) _ _ N3.out KAa.out)
  have KBb := Lib.hid (astore (((w4.setCell ⟨p1, 0, none⟩ (.bool s6)).setCell ⟨p1, 1, none⟩ (.int .u64 sh)).setCell ⟨p1, 2, none⟩ (.int .u64 sl)) p2 (.bool d6) (.int .u64 dh) (.int .u64 dl) _ _ _ KBa.out)
  have HS0 := Lib.hid (HSF.out _ KA4.out KB4.out)
  have HSa := Lib.hid (HSF.out _ KAa.out KBa.out)
  have HSb := Lib.hid (HSF.out _ KAb.out KBb.out)
  have y1 := KA4.out.cell 0
  have f1 := KA4.out.frozen 0
  have x1 := KBa.out.cell 0
  have g1 := KBa.out.frozen 0
  have y2 := KA4.out.cell 1
  have f2 := KA4.out.frozen 1
  have x2 := KBa.out.cell 1
  have g2 := KBa.out.frozen 1
  have y3 := KA4.out.cell 2
  have f3 := KA4.out.frozen 2
  have x3 := KBa.out.cell 2
  have g3 := KBa.out.frozen 2
  go_upto_region 9 with fail
  go_region_held3 (fun V => V.cell? ⟨p1, 0, none⟩ = some (.bool s6) ∧ V.cell? ⟨p1, 1, none⟩ = some (.int .u64 sh) ∧ V.cell? ⟨p1, 2, none⟩ = some (.int .u64 sl) ∧ V.cell? ⟨p2, 0, none⟩ = some (.bool d6) ∧ V.cell? ⟨p2, 1, none⟩ = some (.int .u64 dh) ∧ V.cell? ⟨p2, 2, none⟩ = some (.int .u64 dl)) (first | with_reducible assumption | with_reducible exact HS0.out | with_reducible exact HSa.out | with_reducible exact HSb.out) (first | fail)
  go_wp2_with fail
  have hm := HM.out
  subst hm
  have DR : ∀ (V : World) (g : Nat) (T : TypeId) (cs : Array Value), Blk V g T cs → Blk V.drew g T cs := fun V g T cs q => q.below (Below.refl _ _).drew q.lt
  refine bodyPost_ret (results_top rfl _ _ p1 p2 #[.bool s6, .int .u64 sh, .int .u64 sl] #[.bool d6, .int .u64 dh, .int .u64 dl] rfl rfl (DR _ _ _ _ KAb.out) (DR _ _ _ _ KBb.out) rfl rfl) rfl ?_
  exact ⟨((aonly _ p2 _ _ _).from ((aonly w4 p1 _ _ _).from B4.out (by have := EP1.out; omega)) (by have := EP1.out; have := EP2.out; omega)).drew, AR, cr, rfl, (Sl_apart (Sl_apart SL4.out (aonly _ _ _ _ _) KA4.out) (aonly _ _ _ _ _) KBa.out).below (Below.refl _ _).drew⟩
set_option maxHeartbeats 4000000 in
set_option maxRecDepth 100000 in
theorem open_4e (b off n c : Nat) (s6 : Bool) (sh sl : Int) (d6 : Bool) (dh dl p : Int) (r : List Int) (x : Int) (h6 : x / 16 ≠ 6) (e : Int) (he : e ≠ 0) (w : World) (j0 : 0 < n) (hb : b < w.heap.size) (hy : w.cell? ⟨b, off, none⟩ = some (.int .u8 x)) (x0 : 0 ≤ x ∧ x ≤ 255) 
    (HC : Hid (∀ V, Below w.heap.size w V → Calls Try.prog 39 #[.slice (some ⟨b, off, none⟩) n c] V (OpnP ⟨r, s6, sh, sl, d6, dh, dl, p, e⟩ V))) :
    Calls Try.prog 17 #[.slice (some ⟨b, off, none⟩) n c] w (TopP ⟨[], false, 0, 0, false, 0, 0, 0, e⟩ w) := by
  obtain ⟨m, hm0⟩ : ∃ m, m = r.length := ⟨_, rfl⟩
  have HM := Lib.hid hm0
  unfold OpnP at HC
  dsimp only at HC
  rw [← hm0] at HC
  clear hm0
  have t6 : (x / 16 == 6) = false := by simpa using h6
  have j1 : (0 : Int) < n := by omega
  have jd : decide ((0 : Int) < n) = true := decide_eq_true j1
  clear h6
  have te : (e != 0) = true := by simpa using he
  have te2 : (e == 0) = false := by simpa using he
  clear he
  obtain ⟨w0, hw0⟩ : ∃ w0, w0 = w.alloc (.cells #[.bool false, .int .u64 0, .int .u64 0] 32) := ⟨_, rfl⟩
  obtain ⟨w1, hw1⟩ : ∃ w1, w1 = w0.alloc (.cells #[.bool false, .int .u64 0, .int .u64 0] 32) := ⟨_, rfl⟩
  obtain ⟨p1, hp1⟩ : ∃ p1, p1 = w.heap.size := ⟨_, rfl⟩
  obtain ⟨p2, hp2⟩ : ∃ p2, p2 = p1 + 1 := ⟨_, rfl⟩
  have E0 := Lib.hid hw0
  have E1 := Lib.hid hw1
  have EP1 := Lib.hid hp1
  have EP2 := Lib.hid hp2
  have B0 := Lib.hid (show Below w.heap.size w w0 from by rw [hw0]; exact (Below.refl _ _).alloc (Nat.le_refl _) _)
  have B01 := Lib.hid (show Below w0.heap.size w0 w1 from by rw [hw1]; exact (Below.refl _ _).alloc (Nat.le_refl _) _)
  have B1 := Lib.hid (B0.out.trans (B01.out.mono B0.out.size))
  have K0 := Lib.hid (show Blk w0 p1 32 #[.bool false, .int .u64 0, .int .u64 0] from by rw [hw0, hp1]; exact Blk.new w _ _)
  have KA1 := Lib.hid (K0.out.below B01.out K0.out.lt)
  have KB1 := Lib.hid (show Blk w1 p2 32 #[.bool false, .int .u64 0, .int .u64 0] from by
    have e9 : p2 = w0.heap.size := by rw [hp2, hp1, hw0]; simp
    rw [hw1, e9]; exact Blk.new w0 _ _)
  have n3 : p1 ≠ p2 := by omega
  have N3 := Lib.hid n3
  have y0 : w1.cell? ⟨b, off, none⟩ = some (.int .u8 x) := (B1.out.cell (p := ⟨b, off, none⟩) hb).trans hy
  clear hy hb
  clear hw0 hw1 hp1 hp2 n3
  go_enter Try.func17, Try.ntmps17
  go_upto_region 1 with fail
  rw [← E0.out, ← EP1.out, ← EP2.out, ← E1.out]
  go_upto_region 4 with fail
  go_wp2_with fail
  refine (HC.out _ B1.out).mono ?_
  rintro o w2 ⟨hb2, AR, cr, rfl, hsl⟩
  have KA2 := Lib.hid (KA1.out.below hb2 KA1.out.lt)
  have KB2 := Lib.hid (KB1.out.below hb2 KB1.out.lt)
  have B2 := Lib.hid (B1.out.trans (hb2.mono B1.out.size))
  have KB2a := Lib.hid (afar w2 p1 p2 (.bool s6) (.int .u64 sh) (.int .u64 sl) _ _ (Ne.symm N3.out) KB2.out)
  have KA2a := Lib.hid (astore w2 p1 (.bool s6) (.int .u64 sh) (.int .u64 sl) _ _ _ KA2.out)
  obtain ⟨w3, hw3⟩ : ∃ w3, w3 = ((((((w2.setCell ⟨p1, 0, none⟩ (.bool s6)).setCell ⟨p1, 1, none⟩ (.int .u64 sh)).setCell ⟨p1, 2, none⟩ (.int .u64 sl)).setCell ⟨p2, 0, none⟩ (.bool d6)).setCell ⟨p2, 1, none⟩ (.int .u64 dh)).setCell ⟨p2, 2, none⟩ (.int .u64 dl)) := ⟨_, rfl⟩
  have E3 := Lib.hid hw3
  have KA3 := Lib.hid (show Blk w3 p1 32 #[.bool s6, .int .u64 sh, .int .u64 sl] from by rw [hw3]; exact afar _ p2 p1 _ _ _ _ _ N3.out KA2a.out)
  have KB3 := Lib.hid (show Blk w3 p2 32 #[.bool d6, .int .u64 dh, .int .u64 dl] from by rw [hw3]; exact astore _ p2 _ _ _ _ _ _ KB2a.out)
  have SL3 := Lib.hid (show Sl w3 AR m cr r from by rw [hw3]; exact Sl_apart (Sl_apart hsl (aonly _ _ _ _ _) KA2.out) (aonly _ _ _ _ _) KB2a.out)
  have B3 := Lib.hid (show Below w.heap.size w w3 from by rw [hw3]; exact (aonly _ p2 _ _ _).from ((aonly w2 p1 _ _ _).from B2.out (by have := EP1.out; omega)) (by have := EP1.out; have := EP2.out; omega))
  clear hw3 hb2 hsl
  have y1 := KA2.out.cell 0
  have f1 := KA2.out.frozen 0
  have x1 := KB2a.out.cell 0
  have g1 := KB2a.out.frozen 0
  have y2 := KA2.out.cell 1
  have f2 := KA2.out.frozen 1
  have x2 := KB2a.out.cell 1
  have g2 := KB2a.out.frozen 1
  have y3 := KA2.out.cell 2
  have f3 := KA2.out.frozen 2
  have x3 := KB2a.out.cell 2
  have g3 := KB2a.out.frozen 2
  go_upto_region 5 with fail
  rw [← E3.out]
  clear y1 f1 x1 g1 y2 f2 x2 g2 y3 f3 x3 g3
  have KBa := Lib.hid (afar w3 p1 p2 (.bool false) (.int .u64 0) (.int .u64 0) _ _ (Ne.symm N3.out) KB3.out)
  have KAa := Lib.hid (astore w3 p1 (.bool false) (.int .u64 0) (.int .u64 0) _ _ _ KA3.out)
  have y1 := KA3.out.cell 0
  have f1 := KA3.out.frozen 0
  have x1 := KBa.out.cell 0
  have g1 := KBa.out.frozen 0
  have y2 := KA3.out.cell 1
  have f2 := KA3.out.frozen 1
  have x2 := KBa.out.cell 1
  have g2 := KBa.out.frozen 1
  have y3 := KA3.out.cell 2
  have f3 := KA3.out.frozen 2
  have x3 := KBa.out.cell 2
  have g3 := KBa.out.frozen 2
  go_wp2_with fail
  have KAb := afar _ p2 p1 (.bool false) (.int .u64 0) (.int .u64 0) _ _ N3.out KAa.out
  have KBb := astore _ p2 (.bool false) (.int .u64 0) (.int .u64 0) _ _ _ KBa.out
  refine bodyPost_ret (results_top rfl _ _ p1 p2 #[.bool false, .int .u64 0, .int .u64 0] #[.bool false, .int .u64 0, .int .u64 0] rfl rfl KAb KBb rfl rfl) rfl ?_
  exact ⟨(aonly _ p2 _ _ _).from ((aonly w3 p1 _ _ _).from B3.out (by have := EP1.out; omega)) (by have := EP1.out; have := EP2.out; omega), none, 0, rfl, Sl.none_ _⟩
set_option maxHeartbeats 4000000 in
set_option maxRecDepth 100000 in
theorem open_4r (b off n c : Nat) (s6 : Bool) (sh sl : Int) (d6 : Bool) (dh dl p : Int) (r : List Int) (x : Int) (h6 : x / 16 ≠ 6) (e : Int) (he : e ≠ 0) (w : World) (j0 : 0 < n) (hb : b < w.heap.size) (hy : w.cell? ⟨b, off, none⟩ = some (.int .u8 x)) (x0 : 0 ≤ x ∧ x ≤ 255) 
    (HC : Hid (∀ V, Below w.heap.size w V → Calls Try.prog 39 #[.slice (some ⟨b, off, none⟩) n c] V (OpnP ⟨r, s6, sh, sl, d6, dh, dl, p, 0⟩ V)))
    (HR : Hid (∀ V A2 c2, Sl V A2 r.length c2 r → Calls Try.prog 41 #[.slice A2 r.length c2, .int .i64 p] V fun o w' => o = .returned (.int .i64 e) ∧ Below V.heap.size V w')) :
    Calls Try.prog 17 #[.slice (some ⟨b, off, none⟩) n c] w (TopP ⟨[], false, 0, 0, false, 0, 0, 0, e⟩ w) := by
  obtain ⟨m, hm0⟩ : ∃ m, m = r.length := ⟨_, rfl⟩
  have HM := Lib.hid hm0
  unfold OpnP at HC
  dsimp only at HC
  rw [← hm0] at HC HR
  clear hm0
  have t6 : (x / 16 == 6) = false := by simpa using h6
  have j1 : (0 : Int) < n := by omega
  have jd : decide ((0 : Int) < n) = true := decide_eq_true j1
  clear h6
  have te : (e != 0) = true := by simpa using he
  have te2 : (e == 0) = false := by simpa using he
  clear he
  obtain ⟨w0, hw0⟩ : ∃ w0, w0 = w.alloc (.cells #[.bool false, .int .u64 0, .int .u64 0] 32) := ⟨_, rfl⟩
  obtain ⟨w1, hw1⟩ : ∃ w1, w1 = w0.alloc (.cells #[.bool false, .int .u64 0, .int .u64 0] 32) := ⟨_, rfl⟩
  obtain ⟨p1, hp1⟩ : ∃ p1, p1 = w.heap.size := ⟨_, rfl⟩
  obtain ⟨p2, hp2⟩ : ∃ p2, p2 = p1 + 1 := ⟨_, rfl⟩
  have E0 := Lib.hid hw0
  have E1 := Lib.hid hw1
  have EP1 := Lib.hid hp1
  have EP2 := Lib.hid hp2
  have B0 := Lib.hid (show Below w.heap.size w w0 from by rw [hw0]; exact (Below.refl _ _).alloc (Nat.le_refl _) _)
  have B01 := Lib.hid (show Below w0.heap.size w0 w1 from by rw [hw1]; exact (Below.refl _ _).alloc (Nat.le_refl _) _)
  have B1 := Lib.hid (B0.out.trans (B01.out.mono B0.out.size))
  have K0 := Lib.hid (show Blk w0 p1 32 #[.bool false, .int .u64 0, .int .u64 0] from by rw [hw0, hp1]; exact Blk.new w _ _)
  have KA1 := Lib.hid (K0.out.below B01.out K0.out.lt)
  have KB1 := Lib.hid (show Blk w1 p2 32 #[.bool false, .int .u64 0, .int .u64 0] from by
    have e9 : p2 = w0.heap.size := by rw [hp2, hp1, hw0]; simp
    rw [hw1, e9]; exact Blk.new w0 _ _)
  have n3 : p1 ≠ p2 := by omega
  have N3 := Lib.hid n3
  have y0 : w1.cell? ⟨b, off, none⟩ = some (.int .u8 x) := (B1.out.cell (p := ⟨b, off, none⟩) hb).trans hy
  clear hy hb
  clear hw0 hw1 hp1 hp2 n3
  go_enter Try.func17, Try.ntmps17
  go_upto_region 1 with fail
  rw [← E0.out, ← EP1.out, ← EP2.out, ← E1.out]
  go_upto_region 4 with fail
  go_wp2_with fail
  refine (HC.out _ B1.out).mono ?_
  rintro o w2 ⟨hb2, AR, cr, rfl, hsl⟩
  have KA2 := Lib.hid (KA1.out.below hb2 KA1.out.lt)
  have KB2 := Lib.hid (KB1.out.below hb2 KB1.out.lt)
  have B2 := Lib.hid (B1.out.trans (hb2.mono B1.out.size))
  have KB2a := Lib.hid (afar w2 p1 p2 (.bool s6) (.int .u64 sh) (.int .u64 sl) _ _ (Ne.symm N3.out) KB2.out)
  have KA2a := Lib.hid (astore w2 p1 (.bool s6) (.int .u64 sh) (.int .u64 sl) _ _ _ KA2.out)
  obtain ⟨w3, hw3⟩ : ∃ w3, w3 = ((((((w2.setCell ⟨p1, 0, none⟩ (.bool s6)).setCell ⟨p1, 1, none⟩ (.int .u64 sh)).setCell ⟨p1, 2, none⟩ (.int .u64 sl)).setCell ⟨p2, 0, none⟩ (.bool d6)).setCell ⟨p2, 1, none⟩ (.int .u64 dh)).setCell ⟨p2, 2, none⟩ (.int .u64 dl)) := ⟨_, rfl⟩
  have E3 := Lib.hid hw3
  have KA3 := Lib.hid (show Blk w3 p1 32 #[.bool s6, .int .u64 sh, .int .u64 sl] from by rw [hw3]; exact afar _ p2 p1 _ _ _ _ _ N3.out KA2a.out)
  have KB3 := Lib.hid (show Blk w3 p2 32 #[.bool d6, .int .u64 dh, .int .u64 dl] from by rw [hw3]; exact astore _ p2 _ _ _ _ _ _ KB2a.out)
  have SL3 := Lib.hid (show Sl w3 AR m cr r from by rw [hw3]; exact Sl_apart (Sl_apart hsl (aonly _ _ _ _ _) KA2.out) (aonly _ _ _ _ _) KB2a.out)
  have B3 := Lib.hid (show Below w.heap.size w w3 from by rw [hw3]; exact (aonly _ p2 _ _ _).from ((aonly w2 p1 _ _ _).from B2.out (by have := EP1.out; omega)) (by have := EP1.out; have := EP2.out; omega))
  clear hw3 hb2 hsl
  have y1 := KA2.out.cell 0
  have f1 := KA2.out.frozen 0
  have x1 := KB2a.out.cell 0
  have g1 := KB2a.out.frozen 0
  have y2 := KA2.out.cell 1
  have f2 := KA2.out.frozen 1
  have x2 := KB2a.out.cell 1
  have g2 := KB2a.out.frozen 1
  have y3 := KA2.out.cell 2
  have f3 := KA2.out.frozen 2
  have x3 := KB2a.out.cell 2
  have g3 := KB2a.out.frozen 2
  go_upto_region 5 with fail
  rw [← E3.out]
  clear y1 f1 x1 g1 y2 f2 x2 g2 y3 f3 x3 g3
  go_wp2_with fail
  refine (HR.out _ _ _ SL3.out).mono ?_
  rintro o w4 ⟨rfl, hb4⟩
  have KA4 := Lib.hid (KA3.out.below hb4 KA3.out.lt)
  have KB4 := Lib.hid (KB3.out.below hb4 KB3.out.lt)
  have SL4 := Lib.hid (SL3.out.below hb4)
  have B4 := Lib.hid (B3.out.trans (hb4.mono B3.out.size))
  clear hb4
  have KBa := Lib.hid (afar w4 p1 p2 (.bool false) (.int .u64 0) (.int .u64 0) _ _ (Ne.symm N3.out) KB4.out)
  have KAa := Lib.hid (astore w4 p1 (.bool false) (.int .u64 0) (.int .u64 0) _ _ _ KA4.out)
  have y1 := KA4.out.cell 0
  have f1 := KA4.out.frozen 0
  have x1 := KBa.out.cell 0
  have g1 := KBa.out.frozen 0
  have y2 := KA4.out.cell 1
  have f2 := KA4.out.frozen 1
  have x2 := KBa.out.cell 1
  have g2 := KBa.out.frozen 1
  have y3 := KA4.out.cell 2
  have f3 := KA4.out.frozen 2
  have x3 := KBa.out.cell 2
  have g3 := KBa.out.frozen 2
  go_wp2_with fail
  have KAb := afar _ p2 p1 (.bool false) (.int .u64 0) (.int .u64 0) _ _ N3.out KAa.out
  have KBb := astore _ p2 (.bool false) (.int .u64 0) (.int .u64 0) _ _ _ KBa.out
  refine bodyPost_ret (results_top rfl _ _ p1 p2 #[.bool false, .int .u64 0, .int .u64 0] #[.bool false, .int .u64 0, .int .u64 0] rfl rfl KAb KBb rfl rfl) rfl ?_
  exact ⟨(aonly _ p2 _ _ _).from ((aonly w4 p1 _ _ _).from B4.out (by have := EP1.out; omega)) (by have := EP1.out; have := EP2.out; omega), none, 0, rfl, Sl.none_ _⟩
set_option maxHeartbeats 4000000 in
set_option maxRecDepth 100000 in
theorem open_4g (b off n c : Nat) (s6 : Bool) (sh sl : Int) (d6 : Bool) (dh dl p : Int) (r : List Int) (x : Int) (h6 : x / 16 ≠ 6) (w : World) (j0 : 0 < n) (hb : b < w.heap.size) (hy : w.cell? ⟨b, off, none⟩ = some (.int .u8 x)) (x0 : 0 ≤ x ∧ x ≤ 255) 
    (HC : Hid (∀ V, Below w.heap.size w V → Calls Try.prog 39 #[.slice (some ⟨b, off, none⟩) n c] V (OpnP ⟨r, s6, sh, sl, d6, dh, dl, p, 0⟩ V)))
    (HR : Hid (∀ V A2 c2, Sl V A2 r.length c2 r → Calls Try.prog 41 #[.slice A2 r.length c2, .int .i64 p] V fun o w' => o = .returned (.int .i64 0) ∧ Below V.heap.size V w')) :
    Calls Try.prog 17 #[.slice (some ⟨b, off, none⟩) n c] w (TopP ⟨r, s6, sh, sl, d6, dh, dl, 0, 0⟩ w) := by
  obtain ⟨m, hm0⟩ : ∃ m, m = r.length := ⟨_, rfl⟩
  have HM := Lib.hid hm0
  unfold OpnP at HC
  dsimp only at HC
  rw [← hm0] at HC HR
  clear hm0
  have t6 : (x / 16 == 6) = false := by simpa using h6
  have j1 : (0 : Int) < n := by omega
  have jd : decide ((0 : Int) < n) = true := decide_eq_true j1
  clear h6
  obtain ⟨w0, hw0⟩ : ∃ w0, w0 = w.alloc (.cells #[.bool false, .int .u64 0, .int .u64 0] 32) := ⟨_, rfl⟩
  obtain ⟨w1, hw1⟩ : ∃ w1, w1 = w0.alloc (.cells #[.bool false, .int .u64 0, .int .u64 0] 32) := ⟨_, rfl⟩
  obtain ⟨p1, hp1⟩ : ∃ p1, p1 = w.heap.size := ⟨_, rfl⟩
  obtain ⟨p2, hp2⟩ : ∃ p2, p2 = p1 + 1 := ⟨_, rfl⟩
  have E0 := Lib.hid hw0
  have E1 := Lib.hid hw1
  have EP1 := Lib.hid hp1
  have EP2 := Lib.hid hp2
  have B0 := Lib.hid (show Below w.heap.size w w0 from by rw [hw0]; exact (Below.refl _ _).alloc (Nat.le_refl _) _)
  have B01 := Lib.hid (show Below w0.heap.size w0 w1 from by rw [hw1]; exact (Below.refl _ _).alloc (Nat.le_refl _) _)
  have B1 := Lib.hid (B0.out.trans (B01.out.mono B0.out.size))
  have K0 := Lib.hid (show Blk w0 p1 32 #[.bool false, .int .u64 0, .int .u64 0] from by rw [hw0, hp1]; exact Blk.new w _ _)
  have KA1 := Lib.hid (K0.out.below B01.out K0.out.lt)
  have KB1 := Lib.hid (show Blk w1 p2 32 #[.bool false, .int .u64 0, .int .u64 0] from by
    have e9 : p2 = w0.heap.size := by rw [hp2, hp1, hw0]; simp
    rw [hw1, e9]; exact Blk.new w0 _ _)
  have n3 : p1 ≠ p2 := by omega
  have N3 := Lib.hid n3
  have y0 : w1.cell? ⟨b, off, none⟩ = some (.int .u8 x) := (B1.out.cell (p := ⟨b, off, none⟩) hb).trans hy
  clear hy hb
  clear hw0 hw1 hp1 hp2 n3
  go_enter Try.func17, Try.ntmps17
  go_upto_region 1 with fail
  rw [← E0.out, ← EP1.out, ← EP2.out, ← E1.out]
  go_upto_region 4 with fail
  go_wp2_with fail
  refine (HC.out _ B1.out).mono ?_
  rintro o w2 ⟨hb2, AR, cr, rfl, hsl⟩
  have KA2 := Lib.hid (KA1.out.below hb2 KA1.out.lt)
  have KB2 := Lib.hid (KB1.out.below hb2 KB1.out.lt)
  have B2 := Lib.hid (B1.out.trans (hb2.mono B1.out.size))
  have KB2a := Lib.hid (afar w2 p1 p2 (.bool s6) (.int .u64 sh) (.int .u64 sl) _ _ (Ne.symm N3.out) KB2.out)
  have KA2a := Lib.hid (astore w2 p1 (.bool s6) (.int .u64 sh) (.int .u64 sl) _ _ _ KA2.out)
  obtain ⟨w3, hw3⟩ : ∃ w3, w3 = ((((((w2.setCell ⟨p1, 0, none⟩ (.bool s6)).setCell ⟨p1, 1, none⟩ (.int .u64 sh)).setCell ⟨p1, 2, none⟩ (.int .u64 sl)).setCell ⟨p2, 0, none⟩ (.bool d6)).setCell ⟨p2, 1, none⟩ (.int .u64 dh)).setCell ⟨p2, 2, none⟩ (.int .u64 dl)) := ⟨_, rfl⟩
  have E3 := Lib.hid hw3
  have KA3 := Lib.hid (show Blk w3 p1 32 #[.bool s6, .int .u64 sh, .int .u64 sl] from by rw [hw3]; exact afar _ p2 p1 _ _ _ _ _ N3.out KA2a.out)
  have KB3 := Lib.hid (show Blk w3 p2 32 #[.bool d6, .int .u64 dh, .int .u64 dl] from by rw [hw3]; exact astore _ p2 _ _ _ _ _ _ KB2a.out)
  have SL3 := Lib.hid (show Sl w3 AR m cr r from by rw [hw3]; exact Sl_apart (Sl_apart hsl (aonly _ _ _ _ _) KA2.out) (aonly _ _ _ _ _) KB2a.out)
  have B3 := Lib.hid (show Below w.heap.size w w3 from by rw [hw3]; exact (aonly _ p2 _ _ _).from ((aonly w2 p1 _ _ _).from B2.out (by have := EP1.out; omega)) (by have := EP1.out; have := EP2.out; omega))
  clear hw3 hb2 hsl
  have y1 := KA2.out.cell 0
  have f1 := KA2.out.frozen 0
  have x1 := KB2a.out.cell 0
  have g1 := KB2a.out.frozen 0
  have y2 := KA2.out.cell 1
  have f2 := KA2.out.frozen 1
  have x2 := KB2a.out.cell 1
  have g2 := KB2a.out.frozen 1
  have y3 := KA2.out.cell 2
  have f3 := KA2.out.frozen 2
  have x3 := KB2a.out.cell 2
  have g3 := KB2a.out.frozen 2
  go_upto_region 5 with fail
  rw [← E3.out]
  clear y1 f1 x1 g1 y2 f2 x2 g2 y3 f3 x3 g3
  go_wp2_with fail
  refine (HR.out _ _ _ SL3.out).mono ?_
  rintro o w4 ⟨rfl, hb4⟩
  have KA4 := Lib.hid (KA3.out.below hb4 KA3.out.lt)
  have KB4 := Lib.hid (KB3.out.below hb4 KB3.out.lt)
  have SL4 := Lib.hid (SL3.out.below hb4)
  have B4 := Lib.hid (B3.out.trans (hb4.mono B3.out.size))
  clear hb4
  have HSF := Lib.hid (show ∀ V, Blk V p1 32 #[.bool s6, .int .u64 sh, .int .u64 sl] → Blk V p2 32 #[.bool d6, .int .u64 dh, .int .u64 dl] → (V.drew.cell? ⟨p1, 0, none⟩ = some (.bool s6) ∧ V.drew.cell? ⟨p1, 1, none⟩ = some (.int .u64 sh) ∧ V.drew.cell? ⟨p1, 2, none⟩ = some (.int .u64 sl) ∧ V.drew.cell? ⟨p2, 0, none⟩ = some (.bool d6) ∧ V.drew.cell? ⟨p2, 1, none⟩ = some (.int .u64 dh) ∧ V.drew.cell? ⟨p2, 2, none⟩ = some (.int .u64 dl)) from fun V q1 q2 => by
    have q3 := q1.below (Below.refl V.heap.size V).drew q1.lt
    have q4 := q2.below (Below.refl V.heap.size V).drew q2.lt
    exact ⟨q3.cell 0, q3.cell 1, q3.cell 2, q4.cell 0, q4.cell 1, q4.cell 2⟩)
  have KBa := Lib.hid (afar w4 p1 p2 (.bool s6) (.int .u64 sh) (.int .u64 sl) _ _ (Ne.symm N3.out) KB4.out)
  have KAa := Lib.hid (astore w4 p1 (.bool s6) (.int .u64 sh) (.int .u64 sl) _ _ _ KA4.out)
  have KAb := Lib.hid (afar (((w4.setCell ⟨p1, 0, none⟩ (.bool s6)).setCell ⟨p1, 1, none⟩ (.int .u64 sh)).setCell ⟨p1, 2, none⟩ (.int .u64 sl)) p2 p1 (.bool d6) (.int .u64 dh) (.int .u64 dl) _ _ N3.out KAa.out)
  have KBb := Lib.hid (astore (((w4.setCell ⟨p1, 0, none⟩ (.bool s6)).setCell ⟨p1, 1, none⟩ (.int .u64 sh)).setCell ⟨p1, 2, none⟩ (.int .u64 sl)) p2 (.bool d6) (.int .u64 dh) (.int .u64 dl) _ _ _ KBa.out)
  have HS0 := Lib.hid (HSF.out _ KA4.out KB4.out)
  have HSa := Lib.hid (HSF.out _ KAa.out KBa.out)
  have HSb := Lib.hid (HSF.out _ KAb.out KBb.out)
  have y1 := KA4.out.cell 0
  have f1 := KA4.out.frozen 0
  have x1 := KBa.out.cell 0
  have g1 := KBa.out.frozen 0
  have y2 := KA4.out.cell 1
  have f2 := KA4.out.frozen 1
  have x2 := KBa.out.cell 1
  have g2 := KBa.out.frozen 1
  have y3 := KA4.out.cell 2
  have f3 := KA4.out.frozen 2
  have x3 := KBa.out.cell 2
  have g3 := KBa.out.frozen 2
  go_upto_region 9 with fail
  go_region_held3 (fun V => V.cell? ⟨p1, 0, none⟩ = some (.bool s6) ∧ V.cell? ⟨p1, 1, none⟩ = some (.int .u64 sh) ∧ V.cell? ⟨p1, 2, none⟩ = some (.int .u64 sl) ∧ V.cell? ⟨p2, 0, none⟩ = some (.bool d6) ∧ V.cell? ⟨p2, 1, none⟩ = some (.int .u64 dh) ∧ V.cell? ⟨p2, 2, none⟩ = some (.int .u64 dl)) (first | with_reducible assumption | with_reducible exact HS0.out | with_reducible exact HSa.out | with_reducible exact HSb.out) (first | fail)
  go_wp2_with fail
  have hm := HM.out
  subst hm
  have DR : ∀ (V : World) (g : Nat) (T : TypeId) (cs : Array Value), Blk V g T cs → Blk V.drew g T cs := fun V g T cs q => q.below (Below.refl _ _).drew q.lt
  refine bodyPost_ret (results_top rfl _ _ p1 p2 #[.bool s6, .int .u64 sh, .int .u64 sl] #[.bool d6, .int .u64 dh, .int .u64 dl] rfl rfl (DR _ _ _ _ KAb.out) (DR _ _ _ _ KBb.out) rfl rfl) rfl ?_
  exact ⟨((aonly _ p2 _ _ _).from ((aonly w4 p1 _ _ _).from B4.out (by have := EP1.out; omega)) (by have := EP1.out; have := EP2.out; omega)).drew, AR, cr, rfl, (Sl_apart (Sl_apart SL4.out (aonly _ _ _ _ _) KA4.out) (aonly _ _ _ _ _) KBa.out).below (Below.refl _ _).drew⟩
set_option maxHeartbeats 4000000 in
set_option maxRecDepth 100000 in
theorem open_6e (b off n c : Nat) (s6 : Bool) (sh sl : Int) (d6 : Bool) (dh dl p : Int) (r : List Int) (x : Int) (h6 : x / 16 = 6) (e : Int) (he : e ≠ 0) (w : World) (j0 : 0 < n) (hb : b < w.heap.size) (hy : w.cell? ⟨b, off, none⟩ = some (.int .u8 x)) (x0 : 0 ≤ x ∧ x ≤ 255) 
    (HC : Hid (∀ V, Below w.heap.size w V → Calls Try.prog 40 #[.slice (some ⟨b, off, none⟩) n c] V (OpnP ⟨r, s6, sh, sl, d6, dh, dl, p, e⟩ V))) :
    Calls Try.prog 17 #[.slice (some ⟨b, off, none⟩) n c] w (TopP ⟨[], false, 0, 0, false, 0, 0, 0, e⟩ w) := by
  obtain ⟨m, hm0⟩ : ∃ m, m = r.length := ⟨_, rfl⟩
  have HM := Lib.hid hm0
  unfold OpnP at HC
  dsimp only at HC
  rw [← hm0] at HC
  clear hm0
  have t6 : (x / 16 == 6) = true := by simpa using h6
  have j1 : (0 : Int) < n := by omega
  have jd : decide ((0 : Int) < n) = true := decide_eq_true j1
  clear h6
  have te : (e != 0) = true := by simpa using he
  have te2 : (e == 0) = false := by simpa using he
  clear he
  obtain ⟨w0, hw0⟩ : ∃ w0, w0 = w.alloc (.cells #[.bool false, .int .u64 0, .int .u64 0] 32) := ⟨_, rfl⟩
  obtain ⟨w1, hw1⟩ : ∃ w1, w1 = w0.alloc (.cells #[.bool false, .int .u64 0, .int .u64 0] 32) := ⟨_, rfl⟩
  obtain ⟨p1, hp1⟩ : ∃ p1, p1 = w.heap.size := ⟨_, rfl⟩
  obtain ⟨p2, hp2⟩ : ∃ p2, p2 = p1 + 1 := ⟨_, rfl⟩
  have E0 := Lib.hid hw0
  have E1 := Lib.hid hw1
  have EP1 := Lib.hid hp1
  have EP2 := Lib.hid hp2
  have B0 := Lib.hid (show Below w.heap.size w w0 from by rw [hw0]; exact (Below.refl _ _).alloc (Nat.le_refl _) _)
  have B01 := Lib.hid (show Below w0.heap.size w0 w1 from by rw [hw1]; exact (Below.refl _ _).alloc (Nat.le_refl _) _)
  have B1 := Lib.hid (B0.out.trans (B01.out.mono B0.out.size))
  have K0 := Lib.hid (show Blk w0 p1 32 #[.bool false, .int .u64 0, .int .u64 0] from by rw [hw0, hp1]; exact Blk.new w _ _)
  have KA1 := Lib.hid (K0.out.below B01.out K0.out.lt)
  have KB1 := Lib.hid (show Blk w1 p2 32 #[.bool false, .int .u64 0, .int .u64 0] from by
    have e9 : p2 = w0.heap.size := by rw [hp2, hp1, hw0]; simp
    rw [hw1, e9]; exact Blk.new w0 _ _)
  have n3 : p1 ≠ p2 := by omega
  have N3 := Lib.hid n3
  have y0 : w1.cell? ⟨b, off, none⟩ = some (.int .u8 x) := (B1.out.cell (p := ⟨b, off, none⟩) hb).trans hy
  clear hy hb
  clear hw0 hw1 hp1 hp2 n3
  go_enter Try.func17, Try.ntmps17
  go_upto_region 1 with fail
  rw [← E0.out, ← EP1.out, ← EP2.out, ← E1.out]
  go_upto_region 4 with fail
  go_wp2_with fail
  refine (HC.out _ B1.out).mono ?_
  rintro o w2 ⟨hb2, AR, cr, rfl, hsl⟩
  have KA2 := Lib.hid (KA1.out.below hb2 KA1.out.lt)
  have KB2 := Lib.hid (KB1.out.below hb2 KB1.out.lt)
  have B2 := Lib.hid (B1.out.trans (hb2.mono B1.out.size))
  have KB2a := Lib.hid (afar w2 p1 p2 (.bool s6) (.int .u64 sh) (.int .u64 sl) _ _ (Ne.symm N3.out) KB2.out)
  have KA2a := Lib.hid (astore w2 p1 (.bool s6) (.int .u64 sh) (.int .u64 sl) _ _ _ KA2.out)
  obtain ⟨w3, hw3⟩ : ∃ w3, w3 = ((((((w2.setCell ⟨p1, 0, none⟩ (.bool s6)).setCell ⟨p1, 1, none⟩ (.int .u64 sh)).setCell ⟨p1, 2, none⟩ (.int .u64 sl)).setCell ⟨p2, 0, none⟩ (.bool d6)).setCell ⟨p2, 1, none⟩ (.int .u64 dh)).setCell ⟨p2, 2, none⟩ (.int .u64 dl)) := ⟨_, rfl⟩
  have E3 := Lib.hid hw3
  have KA3 := Lib.hid (show Blk w3 p1 32 #[.bool s6, .int .u64 sh, .int .u64 sl] from by rw [hw3]; exact afar _ p2 p1 _ _ _ _ _ N3.out KA2a.out)
  have KB3 := Lib.hid (show Blk w3 p2 32 #[.bool d6, .int .u64 dh, .int .u64 dl] from by rw [hw3]; exact astore _ p2 _ _ _ _ _ _ KB2a.out)
  have SL3 := Lib.hid (show Sl w3 AR m cr r from by rw [hw3]; exact Sl_apart (Sl_apart hsl (aonly _ _ _ _ _) KA2.out) (aonly _ _ _ _ _) KB2a.out)
  have B3 := Lib.hid (show Below w.heap.size w w3 from by rw [hw3]; exact (aonly _ p2 _ _ _).from ((aonly w2 p1 _ _ _).from B2.out (by have := EP1.out; omega)) (by have := EP1.out; have := EP2.out; omega))
  clear hw3 hb2 hsl
  have y1 := KA2.out.cell 0
  have f1 := KA2.out.frozen 0
  have x1 := KB2a.out.cell 0
  have g1 := KB2a.out.frozen 0
  have y2 := KA2.out.cell 1
  have f2 := KA2.out.frozen 1
  have x2 := KB2a.out.cell 1
  have g2 := KB2a.out.frozen 1
  have y3 := KA2.out.cell 2
  have f3 := KA2.out.frozen 2
  have x3 := KB2a.out.cell 2
  have g3 := KB2a.out.frozen 2
  go_upto_region 5 with fail
  rw [← E3.out]
  clear y1 f1 x1 g1 y2 f2 x2 g2 y3 f3 x3 g3
  have KBa := Lib.hid (afar w3 p1 p2 (.bool false) (.int .u64 0) (.int .u64 0) _ _ (Ne.symm N3.out) KB3.out)
  have KAa := Lib.hid (astore w3 p1 (.bool false) (.int .u64 0) (.int .u64 0) _ _ _ KA3.out)
  have y1 := KA3.out.cell 0
  have f1 := KA3.out.frozen 0
  have x1 := KBa.out.cell 0
  have g1 := KBa.out.frozen 0
  have y2 := KA3.out.cell 1
  have f2 := KA3.out.frozen 1
  have x2 := KBa.out.cell 1
  have g2 := KBa.out.frozen 1
  have y3 := KA3.out.cell 2
  have f3 := KA3.out.frozen 2
  have x3 := KBa.out.cell 2
  have g3 := KBa.out.frozen 2
  go_wp2_with fail
  have KAb := afar _ p2 p1 (.bool false) (.int .u64 0) (.int .u64 0) _ _ N3.out KAa.out
  have KBb := astore _ p2 (.bool false) (.int .u64 0) (.int .u64 0) _ _ _ KBa.out
  refine bodyPost_ret (results_top rfl _ _ p1 p2 #[.bool false, .int .u64 0, .int .u64 0] #[.bool false, .int .u64 0, .int .u64 0] rfl rfl KAb KBb rfl rfl) rfl ?_
  exact ⟨(aonly _ p2 _ _ _).from ((aonly w3 p1 _ _ _).from B3.out (by have := EP1.out; omega)) (by have := EP1.out; have := EP2.out; omega), none, 0, rfl, Sl.none_ _⟩
set_option maxHeartbeats 4000000 in
set_option maxRecDepth 100000 in
theorem open_6r (b off n c : Nat) (s6 : Bool) (sh sl : Int) (d6 : Bool) (dh dl p : Int) (r : List Int) (x : Int) (h6 : x / 16 = 6) (e : Int) (he : e ≠ 0) (w : World) (j0 : 0 < n) (hb : b < w.heap.size) (hy : w.cell? ⟨b, off, none⟩ = some (.int .u8 x)) (x0 : 0 ≤ x ∧ x ≤ 255) 
    (HC : Hid (∀ V, Below w.heap.size w V → Calls Try.prog 40 #[.slice (some ⟨b, off, none⟩) n c] V (OpnP ⟨r, s6, sh, sl, d6, dh, dl, p, 0⟩ V)))
    (HR : Hid (∀ V A2 c2, Sl V A2 r.length c2 r → Calls Try.prog 41 #[.slice A2 r.length c2, .int .i64 p] V fun o w' => o = .returned (.int .i64 e) ∧ Below V.heap.size V w')) :
    Calls Try.prog 17 #[.slice (some ⟨b, off, none⟩) n c] w (TopP ⟨[], false, 0, 0, false, 0, 0, 0, e⟩ w) := by
  obtain ⟨m, hm0⟩ : ∃ m, m = r.length := ⟨_, rfl⟩
  have HM := Lib.hid hm0
  unfold OpnP at HC
  dsimp only at HC
  rw [← hm0] at HC HR
  clear hm0
  have t6 : (x / 16 == 6) = true := by simpa using h6
  have j1 : (0 : Int) < n := by omega
  have jd : decide ((0 : Int) < n) = true := decide_eq_true j1
  clear h6
  have te : (e != 0) = true := by simpa using he
  have te2 : (e == 0) = false := by simpa using he
  clear he
  obtain ⟨w0, hw0⟩ : ∃ w0, w0 = w.alloc (.cells #[.bool false, .int .u64 0, .int .u64 0] 32) := ⟨_, rfl⟩
  obtain ⟨w1, hw1⟩ : ∃ w1, w1 = w0.alloc (.cells #[.bool false, .int .u64 0, .int .u64 0] 32) := ⟨_, rfl⟩
  obtain ⟨p1, hp1⟩ : ∃ p1, p1 = w.heap.size := ⟨_, rfl⟩
  obtain ⟨p2, hp2⟩ : ∃ p2, p2 = p1 + 1 := ⟨_, rfl⟩
  have E0 := Lib.hid hw0
  have E1 := Lib.hid hw1
  have EP1 := Lib.hid hp1
  have EP2 := Lib.hid hp2
  have B0 := Lib.hid (show Below w.heap.size w w0 from by rw [hw0]; exact (Below.refl _ _).alloc (Nat.le_refl _) _)
  have B01 := Lib.hid (show Below w0.heap.size w0 w1 from by rw [hw1]; exact (Below.refl _ _).alloc (Nat.le_refl _) _)
  have B1 := Lib.hid (B0.out.trans (B01.out.mono B0.out.size))
  have K0 := Lib.hid (show Blk w0 p1 32 #[.bool false, .int .u64 0, .int .u64 0] from by rw [hw0, hp1]; exact Blk.new w _ _)
  have KA1 := Lib.hid (K0.out.below B01.out K0.out.lt)
  have KB1 := Lib.hid (show Blk w1 p2 32 #[.bool false, .int .u64 0, .int .u64 0] from by
    have e9 : p2 = w0.heap.size := by rw [hp2, hp1, hw0]; simp
    rw [hw1, e9]; exact Blk.new w0 _ _)
  have n3 : p1 ≠ p2 := by omega
  have N3 := Lib.hid n3
  have y0 : w1.cell? ⟨b, off, none⟩ = some (.int .u8 x) := (B1.out.cell (p := ⟨b, off, none⟩) hb).trans hy
  clear hy hb
  clear hw0 hw1 hp1 hp2 n3
  go_enter Try.func17, Try.ntmps17
  go_upto_region 1 with fail
  rw [← E0.out, ← EP1.out, ← EP2.out, ← E1.out]
  go_upto_region 4 with fail
  go_wp2_with fail
  refine (HC.out _ B1.out).mono ?_
  rintro o w2 ⟨hb2, AR, cr, rfl, hsl⟩
  have KA2 := Lib.hid (KA1.out.below hb2 KA1.out.lt)
  have KB2 := Lib.hid (KB1.out.below hb2 KB1.out.lt)
  have B2 := Lib.hid (B1.out.trans (hb2.mono B1.out.size))
  have KB2a := Lib.hid (afar w2 p1 p2 (.bool s6) (.int .u64 sh) (.int .u64 sl) _ _ (Ne.symm N3.out) KB2.out)
  have KA2a := Lib.hid (astore w2 p1 (.bool s6) (.int .u64 sh) (.int .u64 sl) _ _ _ KA2.out)
  obtain ⟨w3, hw3⟩ : ∃ w3, w3 = ((((((w2.setCell ⟨p1, 0, none⟩ (.bool s6)).setCell ⟨p1, 1, none⟩ (.int .u64 sh)).setCell ⟨p1, 2, none⟩ (.int .u64 sl)).setCell ⟨p2, 0, none⟩ (.bool d6)).setCell ⟨p2, 1, none⟩ (.int .u64 dh)).setCell ⟨p2, 2, none⟩ (.int .u64 dl)) := ⟨_, rfl⟩
  have E3 := Lib.hid hw3
  have KA3 := Lib.hid (show Blk w3 p1 32 #[.bool s6, .int .u64 sh, .int .u64 sl] from by rw [hw3]; exact afar _ p2 p1 _ _ _ _ _ N3.out KA2a.out)
  have KB3 := Lib.hid (show Blk w3 p2 32 #[.bool d6, .int .u64 dh, .int .u64 dl] from by rw [hw3]; exact astore _ p2 _ _ _ _ _ _ KB2a.out)
  have SL3 := Lib.hid (show Sl w3 AR m cr r from by rw [hw3]; exact Sl_apart (Sl_apart hsl (aonly _ _ _ _ _) KA2.out) (aonly _ _ _ _ _) KB2a.out)
  have B3 := Lib.hid (show Below w.heap.size w w3 from by rw [hw3]; exact (aonly _ p2 _ _ _).from ((aonly w2 p1 _ _ _).from B2.out (by have := EP1.out; omega)) (by have := EP1.out; have := EP2.out; omega))
  clear hw3 hb2 hsl
  have y1 := KA2.out.cell 0
  have f1 := KA2.out.frozen 0
  have x1 := KB2a.out.cell 0
  have g1 := KB2a.out.frozen 0
  have y2 := KA2.out.cell 1
  have f2 := KA2.out.frozen 1
  have x2 := KB2a.out.cell 1
  have g2 := KB2a.out.frozen 1
  have y3 := KA2.out.cell 2
  have f3 := KA2.out.frozen 2
  have x3 := KB2a.out.cell 2
  have g3 := KB2a.out.frozen 2
  go_upto_region 5 with fail
  rw [← E3.out]
  clear y1 f1 x1 g1 y2 f2 x2 g2 y3 f3 x3 g3
  go_wp2_with fail
  refine (HR.out _ _ _ SL3.out).mono ?_
  rintro o w4 ⟨rfl, hb4⟩
  have KA4 := Lib.hid (KA3.out.below hb4 KA3.out.lt)
  have KB4 := Lib.hid (KB3.out.below hb4 KB3.out.lt)
  have SL4 := Lib.hid (SL3.out.below hb4)
  have B4 := Lib.hid (B3.out.trans (hb4.mono B3.out.size))
  clear hb4
  have KBa := Lib.hid (afar w4 p1 p2 (.bool false) (.int .u64 0) (.int .u64 0) _ _ (Ne.symm N3.out) KB4.out)
  have KAa := Lib.hid (astore w4 p1 (.bool false) (.int .u64 0) (.int .u64 0) _ _ _ KA4.out)
  have y1 := KA4.out.cell 0
  have f1 := KA4.out.frozen 0
  have x1 := KBa.out.cell 0
  have g1 := KBa.out.frozen 0
  have y2 := KA4.out.cell 1
  have f2 := KA4.out.frozen 1
  have x2 := KBa.out.cell 1
  have g2 := KBa.out.frozen 1
  have y3 := KA4.out.cell 2
  have f3 := KA4.out.frozen 2
  have x3 := KBa.out.cell 2
  have g3 := KBa.out.frozen 2
  go_wp2_with fail
  have KAb := afar _ p2 p1 (.bool false) (.int .u64 0) (.int .u64 0) _ _ N3.out KAa.out
  have KBb := astore _ p2 (.bool false) (.int .u64 0) (.int .u64 0) _ _ _ KBa.out
  refine bodyPost_ret (results_top rfl _ _ p1 p2 #[.bool false, .int .u64 0, .int .u64 0] #[.bool false, .int .u64 0, .int .u64 0] rfl rfl KAb KBb rfl rfl) rfl ?_
  exact ⟨(aonly _ p2 _ _ _).from ((aonly w4 p1 _ _ _).from B4.out (by have := EP1.out; omega)) (by have := EP1.out; have := EP2.out; omega), none, 0, rfl, Sl.none_ _⟩
set_option maxHeartbeats 4000000 in
set_option maxRecDepth 100000 in
theorem open_6g (b off n c : Nat) (s6 : Bool) (sh sl : Int) (d6 : Bool) (dh dl p : Int) (r : List Int) (x : Int) (h6 : x / 16 = 6) (w : World) (j0 : 0 < n) (hb : b < w.heap.size) (hy : w.cell? ⟨b, off, none⟩ = some (.int .u8 x)) (x0 : 0 ≤ x ∧ x ≤ 255) 
    (HC : Hid (∀ V, Below w.heap.size w V → Calls Try.prog 40 #[.slice (some ⟨b, off, none⟩) n c] V (OpnP ⟨r, s6, sh, sl, d6, dh, dl, p, 0⟩ V)))
    (HR : Hid (∀ V A2 c2, Sl V A2 r.length c2 r → Calls Try.prog 41 #[.slice A2 r.length c2, .int .i64 p] V fun o w' => o = .returned (.int .i64 0) ∧ Below V.heap.size V w')) :
    Calls Try.prog 17 #[.slice (some ⟨b, off, none⟩) n c] w (TopP ⟨r, s6, sh, sl, d6, dh, dl, 0, 0⟩ w) := by
  obtain ⟨m, hm0⟩ : ∃ m, m = r.length := ⟨_, rfl⟩
  have HM := Lib.hid hm0
  unfold OpnP at HC
  dsimp only at HC
  rw [← hm0] at HC HR
  clear hm0
  have t6 : (x / 16 == 6) = true := by simpa using h6
  have j1 : (0 : Int) < n := by omega
  have jd : decide ((0 : Int) < n) = true := decide_eq_true j1
  clear h6
  obtain ⟨w0, hw0⟩ : ∃ w0, w0 = w.alloc (.cells #[.bool false, .int .u64 0, .int .u64 0] 32) := ⟨_, rfl⟩
  obtain ⟨w1, hw1⟩ : ∃ w1, w1 = w0.alloc (.cells #[.bool false, .int .u64 0, .int .u64 0] 32) := ⟨_, rfl⟩
  obtain ⟨p1, hp1⟩ : ∃ p1, p1 = w.heap.size := ⟨_, rfl⟩
  obtain ⟨p2, hp2⟩ : ∃ p2, p2 = p1 + 1 := ⟨_, rfl⟩
  have E0 := Lib.hid hw0
  have E1 := Lib.hid hw1
  have EP1 := Lib.hid hp1
  have EP2 := Lib.hid hp2
  have B0 := Lib.hid (show Below w.heap.size w w0 from by rw [hw0]; exact (Below.refl _ _).alloc (Nat.le_refl _) _)
  have B01 := Lib.hid (show Below w0.heap.size w0 w1 from by rw [hw1]; exact (Below.refl _ _).alloc (Nat.le_refl _) _)
  have B1 := Lib.hid (B0.out.trans (B01.out.mono B0.out.size))
  have K0 := Lib.hid (show Blk w0 p1 32 #[.bool false, .int .u64 0, .int .u64 0] from by rw [hw0, hp1]; exact Blk.new w _ _)
  have KA1 := Lib.hid (K0.out.below B01.out K0.out.lt)
  have KB1 := Lib.hid (show Blk w1 p2 32 #[.bool false, .int .u64 0, .int .u64 0] from by
    have e9 : p2 = w0.heap.size := by rw [hp2, hp1, hw0]; simp
    rw [hw1, e9]; exact Blk.new w0 _ _)
  have n3 : p1 ≠ p2 := by omega
  have N3 := Lib.hid n3
  have y0 : w1.cell? ⟨b, off, none⟩ = some (.int .u8 x) := (B1.out.cell (p := ⟨b, off, none⟩) hb).trans hy
  clear hy hb
  clear hw0 hw1 hp1 hp2 n3
  go_enter Try.func17, Try.ntmps17
  go_upto_region 1 with fail
  rw [← E0.out, ← EP1.out, ← EP2.out, ← E1.out]
  go_upto_region 4 with fail
  go_wp2_with fail
  refine (HC.out _ B1.out).mono ?_
  rintro o w2 ⟨hb2, AR, cr, rfl, hsl⟩
  have KA2 := Lib.hid (KA1.out.below hb2 KA1.out.lt)
  have KB2 := Lib.hid (KB1.out.below hb2 KB1.out.lt)
  have B2 := Lib.hid (B1.out.trans (hb2.mono B1.out.size))
  have KB2a := Lib.hid (afar w2 p1 p2 (.bool s6) (.int .u64 sh) (.int .u64 sl) _ _ (Ne.symm N3.out) KB2.out)
  have KA2a := Lib.hid (astore w2 p1 (.bool s6) (.int .u64 sh) (.int .u64 sl) _ _ _ KA2.out)
  obtain ⟨w3, hw3⟩ : ∃ w3, w3 = ((((((w2.setCell ⟨p1, 0, none⟩ (.bool s6)).setCell ⟨p1, 1, none⟩ (.int .u64 sh)).setCell ⟨p1, 2, none⟩ (.int .u64 sl)).setCell ⟨p2, 0, none⟩ (.bool d6)).setCell ⟨p2, 1, none⟩ (.int .u64 dh)).setCell ⟨p2, 2, none⟩ (.int .u64 dl)) := ⟨_, rfl⟩
  have E3 := Lib.hid hw3
  have KA3 := Lib.hid (show Blk w3 p1 32 #[.bool s6, .int .u64 sh, .int .u64 sl] from by rw [hw3]; exact afar _ p2 p1 _ _ _ _ _ N3.out KA2a.out)
  have KB3 := Lib.hid (show Blk w3 p2 32 #[.bool d6, .int .u64 dh, .int .u64 dl] from by rw [hw3]; exact astore _ p2 _ _ _ _ _ _ KB2a.out)
  have SL3 := Lib.hid (show Sl w3 AR m cr r from by rw [hw3]; exact Sl_apart (Sl_apart hsl (aonly _ _ _ _ _) KA2.out) (aonly _ _ _ _ _) KB2a.out)
  have B3 := Lib.hid (show Below w.heap.size w w3 from by rw [hw3]; exact (aonly _ p2 _ _ _).from ((aonly w2 p1 _ _ _).from B2.out (by have := EP1.out; omega)) (by have := EP1.out; have := EP2.out; omega))
  clear hw3 hb2 hsl
  have y1 := KA2.out.cell 0
  have f1 := KA2.out.frozen 0
  have x1 := KB2a.out.cell 0
  have g1 := KB2a.out.frozen 0
  have y2 := KA2.out.cell 1
  have f2 := KA2.out.frozen 1
  have x2 := KB2a.out.cell 1
  have g2 := KB2a.out.frozen 1
  have y3 := KA2.out.cell 2
  have f3 := KA2.out.frozen 2
  have x3 := KB2a.out.cell 2
  have g3 := KB2a.out.frozen 2
  go_upto_region 5 with fail
  rw [← E3.out]
  clear y1 f1 x1 g1 y2 f2 x2 g2 y3 f3 x3 g3
  go_wp2_with fail
  refine (HR.out _ _ _ SL3.out).mono ?_
  rintro o w4 ⟨rfl, hb4⟩
  have KA4 := Lib.hid (KA3.out.below hb4 KA3.out.lt)
  have KB4 := Lib.hid (KB3.out.below hb4 KB3.out.lt)
  have SL4 := Lib.hid (SL3.out.below hb4)
  have B4 := Lib.hid (B3.out.trans (hb4.mono B3.out.size))
  clear hb4
  have HSF := Lib.hid (show ∀ V, Blk V p1 32 #[.bool s6, .int .u64 sh, .int .u64 sl] → Blk V p2 32 #[.bool d6, .int .u64 dh, .int .u64 dl] → (V.drew.cell? ⟨p1, 0, none⟩ = some (.bool s6) ∧ V.drew.cell? ⟨p1, 1, none⟩ = some (.int .u64 sh) ∧ V.drew.cell? ⟨p1, 2, none⟩ = some (.int .u64 sl) ∧ V.drew.cell? ⟨p2, 0, none⟩ = some (.bool d6) ∧ V.drew.cell? ⟨p2, 1, none⟩ = some (.int .u64 dh) ∧ V.drew.cell? ⟨p2, 2, none⟩ = some (.int .u64 dl)) from fun V q1 q2 => by
    have q3 := q1.below (Below.refl V.heap.size V).drew q1.lt
    have q4 := q2.below (Below.refl V.heap.size V).drew q2.lt
    exact ⟨q3.cell 0, q3.cell 1, q3.cell 2, q4.cell 0, q4.cell 1, q4.cell 2⟩)
  have KBa := Lib.hid (afar w4 p1 p2 (.bool s6) (.int .u64 sh) (.int .u64 sl) _ _ (Ne.symm N3.out) KB4.out)
  have KAa := Lib.hid (astore w4 p1 (.bool s6) (.int .u64 sh) (.int .u64 sl) _ _ _ KA4.out)
  have KAb := Lib.hid (afar (((w4.setCell ⟨p1, 0, none⟩ (.bool s6)).setCell ⟨p1, 1, none⟩ (.int .u64 sh)).setCell ⟨p1, 2, none⟩ (.int .u64 sl)) p2 p1 (.bool d6) (.int .u64 dh) (.int .u64 dl) _ _ N3.out KAa.out)
  have KBb := Lib.hid (astore (((w4.setCell ⟨p1, 0, none⟩ (.bool s6)).setCell ⟨p1, 1, none⟩ (.int .u64 sh)).setCell ⟨p1, 2, none⟩ (.int .u64 sl)) p2 (.bool d6) (.int .u64 dh) (.int .u64 dl) _ _ _ KBa.out)
  have HS0 := Lib.hid (HSF.out _ KA4.out KB4.out)
  have HSa := Lib.hid (HSF.out _ KAa.out KBa.out)
  have HSb := Lib.hid (HSF.out _ KAb.out KBb.out)
  have y1 := KA4.out.cell 0
  have f1 := KA4.out.frozen 0
  have x1 := KBa.out.cell 0
  have g1 := KBa.out.frozen 0
  have y2 := KA4.out.cell 1
  have f2 := KA4.out.frozen 1
  have x2 := KBa.out.cell 1
  have g2 := KBa.out.frozen 1
  have y3 := KA4.out.cell 2
  have f3 := KA4.out.frozen 2
  have x3 := KBa.out.cell 2
  have g3 := KBa.out.frozen 2
  go_upto_region 9 with fail
  go_region_held3 (fun V => V.cell? ⟨p1, 0, none⟩ = some (.bool s6) ∧ V.cell? ⟨p1, 1, none⟩ = some (.int .u64 sh) ∧ V.cell? ⟨p1, 2, none⟩ = some (.int .u64 sl) ∧ V.cell? ⟨p2, 0, none⟩ = some (.bool d6) ∧ V.cell? ⟨p2, 1, none⟩ = some (.int .u64 dh) ∧ V.cell? ⟨p2, 2, none⟩ = some (.int .u64 dl)) (first | with_reducible assumption | with_reducible exact HS0.out | with_reducible exact HSa.out | with_reducible exact HSb.out) (first | fail)
  go_wp2_with fail
  have hm := HM.out
  subst hm
  have DR : ∀ (V : World) (g : Nat) (T : TypeId) (cs : Array Value), Blk V g T cs → Blk V.drew g T cs := fun V g T cs q => q.below (Below.refl _ _).drew q.lt
  refine bodyPost_ret (results_top rfl _ _ p1 p2 #[.bool s6, .int .u64 sh, .int .u64 sl] #[.bool d6, .int .u64 dh, .int .u64 dl] rfl rfl (DR _ _ _ _ KAb.out) (DR _ _ _ _ KBb.out) rfl rfl) rfl ?_
  exact ⟨((aonly _ p2 _ _ _).from ((aonly w4 p1 _ _ _).from B4.out (by have := EP1.out; omega)) (by have := EP1.out; have := EP2.out; omega)).drew, AR, cr, rfl, (Sl_apart (Sl_apart SL4.out (aonly _ _ _ _ _) KA4.out) (aonly _ _ _ _ _) KBa.out).below (Below.refl _ _).drew⟩
end Go.Proofs.Ytodckfgfbcnkoaa.tunD
