/- 2 texts in one. -/
import Derived.Deep.DeepCutAuto
import Derived.Lib.SmallJoins
import Derived.Deep.Slices
import Derived.Deep.Fields
import Derived.Test.YtodckfgfbcnkoaaTb01
import Derived.Test.YtodckfgfbcnkoaaTb17
import Derived.Test.YtodckfgfbcnkoaaTb20
/- Layer 14: any packet that is put into another one. -/
namespace Go.Proofs.Ytodckfgfbcnkoaa.tunM
open Go.ChangeShapes Go.WideShapes Go.ChangeAt Go.RowKit
open Go.Proofs.Ytodckfgfbcnkoaa.base Go.Proofs.Ytodckfgfbcnkoaa.octA Go.Proofs.Ytodckfgfbcnkoaa.rdrA Go.Proofs.Ytodckfgfbcnkoaa.rdrG Go.Proofs.Ytodckfgfbcnkoaa.sumB Go.Proofs.Ytodckfgfbcnkoaa.sixW Go.Proofs.Ytodckfgfbcnkoaa.sixM Go.Proofs.Ytodckfgfbcnkoaa.pktA Go.Proofs.Ytodckfgfbcnkoaa.pktB Go.Proofs.Ytodckfgfbcnkoaa.pktC Go.Proofs.Ytodckfgfbcnkoaa.pktE Go.Proofs.Ytodckfgfbcnkoaa.sixE Go.Proofs.Ytodckfgfbcnkoaa.tunW Go.Proofs.Ytodckfgfbcnkoaa.tunD Go.Proofs.Ytodckfgfbcnkoaa.tunE Go.Proofs.Ytodckfgfbcnkoaa.tunF Go.Proofs.Ytodckfgfbcnkoaa.tunV Go.Proofs.Ytodckfgfbcnkoaa.pktL Go.Proofs.Ytodckfgfbcnkoaa.tunI Go.Proofs.Ytodckfgfbcnkoaa.tunJ Go.Proofs.Ytodckfgfbcnkoaa.tunG Go.Proofs.Ytodckfgfbcnkoaa.pktCut
set_option linter.unusedVariables false
set_option linter.unusedSimpArgs false

set_option maxHeartbeats 4000000 in
set_option maxRecDepth 100000 in
theorem law_z (s6 : Bool) (sh sl : Int) (d6 : Bool) (dh dl : Int) (A : Option Addr) (n0 c : Nat) (w : World) 
    (HC : Hid (∀ W, Calls Try.prog 10 #[.slice A n0 c] W fun o w' => o = .returned (.slice A 0 c) ∧ W = w'))
    (HW : Hid (∀ V, Below w.heap.size w V → Calls Try.prog 15 #[.agg #[.bool s6, .int .u64 sh, .int .u64 sl], .agg #[.bool d6, .int .u64 dh, .int .u64 dl], .slice A 0 c] V (MkP 2 [] V))) :
    Calls Try.prog 4 #[.agg #[.bool s6, .int .u64 sh, .int .u64 sl], .agg #[.bool d6, .int .u64 dh, .int .u64 dl], .slice A n0 c] w fun o w' => o = .returned (.bool true) ∧ Below w.heap.size w w' := by
  have HAW := Lib.hid awake_any
  obtain ⟨w0, hw0⟩ : ∃ w0, w0 = w.alloc (.cells #[.bool s6, .int .u64 sh, .int .u64 sl] 32) := ⟨_, rfl⟩
  obtain ⟨w1, hw1⟩ : ∃ w1, w1 = w0.alloc (.cells #[.bool d6, .int .u64 dh, .int .u64 dl] 32) := ⟨_, rfl⟩
  obtain ⟨p1, hp1⟩ : ∃ p1, p1 = w.heap.size := ⟨_, rfl⟩
  obtain ⟨p2, hp2⟩ : ∃ p2, p2 = p1 + 1 := ⟨_, rfl⟩
  have E0 := Lib.hid hw0
  have E1 := Lib.hid hw1
  have EP1 := Lib.hid hp1
  have EP2 := Lib.hid hp2
  have B0 := Lib.hid (show Below w.heap.size w w0 from by rw [hw0]; exact (Below.refl _ _).alloc (Nat.le_refl _) _)
  have B01 := Lib.hid (show Below w0.heap.size w0 w1 from by rw [hw1]; exact (Below.refl _ _).alloc (Nat.le_refl _) _)
  have B1 := Lib.hid (B0.out.trans (B01.out.mono B0.out.size))
  have K0 := Lib.hid (show Blk w0 p1 32 #[.bool s6, .int .u64 sh, .int .u64 sl] from by rw [hw0, hp1]; exact Blk.new w _ _)
  have KA1 := Lib.hid (K0.out.below B01.out K0.out.lt)
  have KB1 := Lib.hid (show Blk w1 p2 32 #[.bool d6, .int .u64 dh, .int .u64 dl] from by
    have e9 : p2 = w0.heap.size := by rw [hp2, hp1, hw0]; simp
    rw [hw1, e9]; exact Blk.new w0 _ _)
  clear hw0 hw1 hp1 hp2 
  go_enter Try.func4, Try.ntmps4
  go_upto_region 1 with fail
  rw [← E0.out, ← EP1.out, ← EP2.out, ← E1.out]
  go_wp2_with fail
  refine (HC.out _).mono ?_
  rintro o w' ⟨rfl, rfl⟩
  have x0c := KA1.out.cell 0
  have y0c := KB1.out.cell 0
  have x1c := KA1.out.cell 1
  have y1c := KB1.out.cell 1
  have x2c := KA1.out.cell 2
  have y2c := KB1.out.cell 2
  go_wp2_with fail
  refine (HW.out _ B1.out).mono ?_
  rintro o w2 ⟨hb2, AX, nx, cx, rfl, hsx⟩
  have KA2 := Lib.hid (KA1.out.below hb2 KA1.out.lt)
  have KB2 := Lib.hid (KB1.out.below hb2 KB1.out.lt)
  have B2 := Lib.hid (B1.out.trans (hb2.mono B1.out.size))
  obtain rfl : nx = 0 := by have := hsx.len; simp at this; omega
  clear hb2 hsx
  clear x0c y0c x1c y1c x2c y2c
  go_wp2_with fail
  refine (HAW.out _).mono ?_
  rintro o w9 ⟨rfl, hb9⟩
  go_wp2_with fail
  go_ret
  exact ⟨rfl, B2.out.trans (hb9.mono B2.out.size)⟩
set_option maxHeartbeats 4000000 in
set_option maxRecDepth 100000 in
theorem law_x (s6 : Bool) (sh sl : Int) (d6 : Bool) (dh dl : Int) (b off n0 n c : Nat) (x : Int) (hx : x / 16 ≠ 4 ∧ x / 16 ≠ 6) (j0 : 0 < n) (x0 : 0 ≤ x ∧ x ≤ 255) (w : World) (hb : b < w.heap.size) (hy : w.cell? ⟨b, off, none⟩ = some (.int .u8 x)) 
    (HC : Hid (∀ W, Calls Try.prog 10 #[.slice (some ⟨b, off, none⟩) n0 c] W fun o w' => o = .returned (.slice (some ⟨b, off, none⟩) n c) ∧ W = w'))
    (HW : Hid (∀ V, Below w.heap.size w V → Calls Try.prog 15 #[.agg #[.bool s6, .int .u64 sh, .int .u64 sl], .agg #[.bool d6, .int .u64 dh, .int .u64 dl], .slice (some ⟨b, off, none⟩) n c] V (MkP 10 [] V))) :
    Calls Try.prog 4 #[.agg #[.bool s6, .int .u64 sh, .int .u64 sl], .agg #[.bool d6, .int .u64 dh, .int .u64 dl], .slice (some ⟨b, off, none⟩) n0 c] w fun o w' => o = .returned (.bool true) ∧ Below w.heap.size w w' := by
  have HAW := Lib.hid awake_any
  have j1 : (0 : Int) < n := by omega
  have c0 : ((n : Int) == 0) = false := by simp; omega
  have c0n : (n == 0) = false := by simp; omega
  have CB := Lib.hid hb
  have Y0 := Lib.hid hy
  have t4 : (x / 16 != 4) = true := by simpa using hx.1
  have t6 : (x / 16 != 6) = true := by simpa using hx.2
  obtain ⟨w0, hw0⟩ : ∃ w0, w0 = w.alloc (.cells #[.bool s6, .int .u64 sh, .int .u64 sl] 32) := ⟨_, rfl⟩
  obtain ⟨w1, hw1⟩ : ∃ w1, w1 = w0.alloc (.cells #[.bool d6, .int .u64 dh, .int .u64 dl] 32) := ⟨_, rfl⟩
  obtain ⟨p1, hp1⟩ : ∃ p1, p1 = w.heap.size := ⟨_, rfl⟩
  obtain ⟨p2, hp2⟩ : ∃ p2, p2 = p1 + 1 := ⟨_, rfl⟩
  have E0 := Lib.hid hw0
  have E1 := Lib.hid hw1
  have EP1 := Lib.hid hp1
  have EP2 := Lib.hid hp2
  have B0 := Lib.hid (show Below w.heap.size w w0 from by rw [hw0]; exact (Below.refl _ _).alloc (Nat.le_refl _) _)
  have B01 := Lib.hid (show Below w0.heap.size w0 w1 from by rw [hw1]; exact (Below.refl _ _).alloc (Nat.le_refl _) _)
  have B1 := Lib.hid (B0.out.trans (B01.out.mono B0.out.size))
  have K0 := Lib.hid (show Blk w0 p1 32 #[.bool s6, .int .u64 sh, .int .u64 sl] from by rw [hw0, hp1]; exact Blk.new w _ _)
  have KA1 := Lib.hid (K0.out.below B01.out K0.out.lt)
  have KB1 := Lib.hid (show Blk w1 p2 32 #[.bool d6, .int .u64 dh, .int .u64 dl] from by
    have e9 : p2 = w0.heap.size := by rw [hp2, hp1, hw0]; simp
    rw [hw1, e9]; exact Blk.new w0 _ _)
  clear hw0 hw1 hp1 hp2 hx hb hy
  go_enter Try.func4, Try.ntmps4
  go_upto_region 1 with fail
  rw [← E0.out, ← EP1.out, ← EP2.out, ← E1.out]
  go_wp2_with fail
  refine (HC.out _).mono ?_
  rintro o w' ⟨rfl, rfl⟩
  have x0c := KA1.out.cell 0
  have y0c := KB1.out.cell 0
  have x1c := KA1.out.cell 1
  have y1c := KB1.out.cell 1
  have x2c := KA1.out.cell 2
  have y2c := KB1.out.cell 2
  go_wp2_with fail
  refine (HW.out _ B1.out).mono ?_
  rintro o w2 ⟨hb2, AX, nx, cx, rfl, hsx⟩
  have KA2 := Lib.hid (KA1.out.below hb2 KA1.out.lt)
  have KB2 := Lib.hid (KB1.out.below hb2 KB1.out.lt)
  have B2 := Lib.hid (B1.out.trans (hb2.mono B1.out.size))
  obtain rfl : nx = 0 := by have := hsx.len; simp at this; omega
  clear hb2 hsx
  clear x0c y0c x1c y1c x2c y2c
  have y0 : w2.cell? ⟨b, off, none⟩ = some (.int .u8 x) := (B2.out.cell (p := ⟨b, off, none⟩) CB.out).trans Y0.out
  go_wp2_with fail
  refine (HAW.out _).mono ?_
  rintro o w9 ⟨rfl, hb9⟩
  go_wp2_with fail
  go_ret
  exact ⟨rfl, B2.out.trans (hb9.mono B2.out.size)⟩
set_option maxHeartbeats 4000000 in
set_option maxRecDepth 100000 in
theorem law_A (s6 : Bool) (sh sl : Int) (d6 : Bool) (dh dl : Int) (b off n0 n c : Nat) (x : Int) (hx : x / 16 = 4 ∨ x / 16 = 6) (j0 : 0 < n) (x0 : 0 ≤ x ∧ x ≤ 255) (w : World) (hb : b < w.heap.size) (hy : w.cell? ⟨b, off, none⟩ = some (.int .u8 x)) (hv : s6 ≠ d6) 
    (HC : Hid (∀ W, Calls Try.prog 10 #[.slice (some ⟨b, off, none⟩) n0 c] W fun o w' => o = .returned (.slice (some ⟨b, off, none⟩) n c) ∧ W = w'))
    (HW : Hid (∀ V, Below w.heap.size w V → Calls Try.prog 15 #[.agg #[.bool s6, .int .u64 sh, .int .u64 sl], .agg #[.bool d6, .int .u64 dh, .int .u64 dl], .slice (some ⟨b, off, none⟩) n c] V (MkP 18 [] V))) :
    Calls Try.prog 4 #[.agg #[.bool s6, .int .u64 sh, .int .u64 sl], .agg #[.bool d6, .int .u64 dh, .int .u64 dl], .slice (some ⟨b, off, none⟩) n0 c] w fun o w' => o = .returned (.bool true) ∧ Below w.heap.size w w' := by
  have HAW := Lib.hid awake_any
  have j1 : (0 : Int) < n := by omega
  have c0 : ((n : Int) == 0) = false := by simp; omega
  have c0n : (n == 0) = false := by simp; omega
  have CB := Lib.hid hb
  have Y0 := Lib.hid hy
  have HX := Lib.hid hx
  have tv : (s6 != d6) = true := by simpa using hv
  have tv2 : (s6 == d6) = false := by simpa using hv
  clear hv
  obtain ⟨w0, hw0⟩ : ∃ w0, w0 = w.alloc (.cells #[.bool s6, .int .u64 sh, .int .u64 sl] 32) := ⟨_, rfl⟩
  obtain ⟨w1, hw1⟩ : ∃ w1, w1 = w0.alloc (.cells #[.bool d6, .int .u64 dh, .int .u64 dl] 32) := ⟨_, rfl⟩
  obtain ⟨p1, hp1⟩ : ∃ p1, p1 = w.heap.size := ⟨_, rfl⟩
  obtain ⟨p2, hp2⟩ : ∃ p2, p2 = p1 + 1 := ⟨_, rfl⟩
  have E0 := Lib.hid hw0
  have E1 := Lib.hid hw1
  have EP1 := Lib.hid hp1
  have EP2 := Lib.hid hp2
  have B0 := Lib.hid (show Below w.heap.size w w0 from by rw [hw0]; exact (Below.refl _ _).alloc (Nat.le_refl _) _)
  have B01 := Lib.hid (show Below w0.heap.size w0 w1 from by rw [hw1]; exact (Below.refl _ _).alloc (Nat.le_refl _) _)
  have B1 := Lib.hid (B0.out.trans (B01.out.mono B0.out.size))
  have K0 := Lib.hid (show Blk w0 p1 32 #[.bool s6, .int .u64 sh, .int .u64 sl] from by rw [hw0, hp1]; exact Blk.new w _ _)
  have KA1 := Lib.hid (K0.out.below B01.out K0.out.lt)
  have KB1 := Lib.hid (show Blk w1 p2 32 #[.bool d6, .int .u64 dh, .int .u64 dl] from by
    have e9 : p2 = w0.heap.size := by rw [hp2, hp1, hw0]; simp
    rw [hw1, e9]; exact Blk.new w0 _ _)
  clear hw0 hw1 hp1 hp2 hx hb hy
  go_enter Try.func4, Try.ntmps4
  go_upto_region 1 with fail
  rw [← E0.out, ← EP1.out, ← EP2.out, ← E1.out]
  go_wp2_with fail
  refine (HC.out _).mono ?_
  rintro o w' ⟨rfl, rfl⟩
  have x0c := KA1.out.cell 0
  have y0c := KB1.out.cell 0
  have x1c := KA1.out.cell 1
  have y1c := KB1.out.cell 1
  have x2c := KA1.out.cell 2
  have y2c := KB1.out.cell 2
  go_wp2_with fail
  refine (HW.out _ B1.out).mono ?_
  rintro o w2 ⟨hb2, AX, nx, cx, rfl, hsx⟩
  have KA2 := Lib.hid (KA1.out.below hb2 KA1.out.lt)
  have KB2 := Lib.hid (KB1.out.below hb2 KB1.out.lt)
  have B2 := Lib.hid (B1.out.trans (hb2.mono B1.out.size))
  obtain rfl : nx = 0 := by have := hsx.len; simp at this; omega
  clear hb2 hsx
  clear x0c y0c x1c y1c x2c y2c
  have y0 : w2.cell? ⟨b, off, none⟩ = some (.int .u8 x) := (B2.out.cell (p := ⟨b, off, none⟩) CB.out).trans Y0.out
  go_upto_region 6 with fail
  go_cut [40] (fun v wx => v = .bool false ∧ wx = w2)
  case first =>
    rcases HX.out with h | h
    · have t4 : (x / 16 != 4) = false := by simp [h]
      go_wp2_with fail
      go_meet
      exact ⟨rfl, rfl⟩
    · have t4 : (x / 16 != 4) = true := by simp [h]
      have t6 : (x / 16 != 6) = false := by simp [h]
      go_wp2_with fail
      go_meet
      exact ⟨rfl, rfl⟩
  case rest =>
  obtain ⟨rfl, hwc⟩ := hcut
  rw [hwc]
  clear hwc y0
  have x0c := KA2.out.cell 0
  have y0c := KB2.out.cell 0
  have x1c := KA2.out.cell 1
  have y1c := KB2.out.cell 1
  have x2c := KA2.out.cell 2
  have y2c := KB2.out.cell 2
  go_wp2_with fail
  refine (HAW.out _).mono ?_
  rintro o w9 ⟨rfl, hb9⟩
  go_wp2_with fail
  go_ret
  exact ⟨rfl, B2.out.trans (hb9.mono B2.out.size)⟩
set_option maxHeartbeats 4000000 in
set_option maxRecDepth 100000 in
theorem law_B (s6 : Bool) (sh sl dh dl : Int) (b off n0 n c : Nat) (x : Int) (hx : x / 16 = 4 ∨ x / 16 = 6) (j0 : 0 < n) (x0 : 0 ≤ x ∧ x ≤ 255) (w : World) (hb : b < w.heap.size) (hy : w.cell? ⟨b, off, none⟩ = some (.int .u8 x)) 
    (HC : Hid (∀ W, Calls Try.prog 10 #[.slice (some ⟨b, off, none⟩) n0 c] W fun o w' => o = .returned (.slice (some ⟨b, off, none⟩) n c) ∧ W = w'))
    (HW : Hid (∀ V, Below w.heap.size w V → Calls Try.prog 15 #[.agg #[.bool s6, .int .u64 sh, .int .u64 sl], .agg #[.bool s6, .int .u64 dh, .int .u64 dl], .slice (some ⟨b, off, none⟩) n c] V (MkP 18 [] V)))
    (HRS : Hid (∀ V, Calls Try.prog 16 #[.agg #[.bool s6, .int .u64 sh, .int .u64 sl]] V fun o w' => o = .returned (.bool false) ∧ Below V.heap.size V w')) :
    Calls Try.prog 4 #[.agg #[.bool s6, .int .u64 sh, .int .u64 sl], .agg #[.bool s6, .int .u64 dh, .int .u64 dl], .slice (some ⟨b, off, none⟩) n0 c] w fun o w' => o = .returned (.bool true) ∧ Below w.heap.size w w' := by
  have HAW := Lib.hid awake_any
  have j1 : (0 : Int) < n := by omega
  have c0 : ((n : Int) == 0) = false := by simp; omega
  have c0n : (n == 0) = false := by simp; omega
  have CB := Lib.hid hb
  have Y0 := Lib.hid hy
  have HX := Lib.hid hx
  have tv : (s6 != s6) = false := by simp
  have tv2 : (s6 == s6) = true := by simp
  obtain ⟨w0, hw0⟩ : ∃ w0, w0 = w.alloc (.cells #[.bool s6, .int .u64 sh, .int .u64 sl] 32) := ⟨_, rfl⟩
  obtain ⟨w1, hw1⟩ : ∃ w1, w1 = w0.alloc (.cells #[.bool s6, .int .u64 dh, .int .u64 dl] 32) := ⟨_, rfl⟩
  obtain ⟨p1, hp1⟩ : ∃ p1, p1 = w.heap.size := ⟨_, rfl⟩
  obtain ⟨p2, hp2⟩ : ∃ p2, p2 = p1 + 1 := ⟨_, rfl⟩
  have E0 := Lib.hid hw0
  have E1 := Lib.hid hw1
  have EP1 := Lib.hid hp1
  have EP2 := Lib.hid hp2
  have B0 := Lib.hid (show Below w.heap.size w w0 from by rw [hw0]; exact (Below.refl _ _).alloc (Nat.le_refl _) _)
  have B01 := Lib.hid (show Below w0.heap.size w0 w1 from by rw [hw1]; exact (Below.refl _ _).alloc (Nat.le_refl _) _)
  have B1 := Lib.hid (B0.out.trans (B01.out.mono B0.out.size))
  have K0 := Lib.hid (show Blk w0 p1 32 #[.bool s6, .int .u64 sh, .int .u64 sl] from by rw [hw0, hp1]; exact Blk.new w _ _)
  have KA1 := Lib.hid (K0.out.below B01.out K0.out.lt)
  have KB1 := Lib.hid (show Blk w1 p2 32 #[.bool s6, .int .u64 dh, .int .u64 dl] from by
    have e9 : p2 = w0.heap.size := by rw [hp2, hp1, hw0]; simp
    rw [hw1, e9]; exact Blk.new w0 _ _)
  clear hw0 hw1 hp1 hp2 hx hb hy
  go_enter Try.func4, Try.ntmps4
  go_upto_region 1 with fail
  rw [← E0.out, ← EP1.out, ← EP2.out, ← E1.out]
  go_wp2_with fail
  refine (HC.out _).mono ?_
  rintro o w' ⟨rfl, rfl⟩
  have x0c := KA1.out.cell 0
  have y0c := KB1.out.cell 0
  have x1c := KA1.out.cell 1
  have y1c := KB1.out.cell 1
  have x2c := KA1.out.cell 2
  have y2c := KB1.out.cell 2
  go_wp2_with fail
  refine (HW.out _ B1.out).mono ?_
  rintro o w2 ⟨hb2, AX, nx, cx, rfl, hsx⟩
  have KA2 := Lib.hid (KA1.out.below hb2 KA1.out.lt)
  have KB2 := Lib.hid (KB1.out.below hb2 KB1.out.lt)
  have B2 := Lib.hid (B1.out.trans (hb2.mono B1.out.size))
  obtain rfl : nx = 0 := by have := hsx.len; simp at this; omega
  clear hb2 hsx
  clear x0c y0c x1c y1c x2c y2c
  have y0 : w2.cell? ⟨b, off, none⟩ = some (.int .u8 x) := (B2.out.cell (p := ⟨b, off, none⟩) CB.out).trans Y0.out
  go_upto_region 6 with fail
  go_cut [40] (fun v wx => v = .bool false ∧ wx = w2)
  case first =>
    rcases HX.out with h | h
    · have t4 : (x / 16 != 4) = false := by simp [h]
      go_wp2_with fail
      go_meet
      exact ⟨rfl, rfl⟩
    · have t4 : (x / 16 != 4) = true := by simp [h]
      have t6 : (x / 16 != 6) = false := by simp [h]
      go_wp2_with fail
      go_meet
      exact ⟨rfl, rfl⟩
  case rest =>
  obtain ⟨rfl, hwc⟩ := hcut
  rw [hwc]
  clear hwc y0
  have x0c := KA2.out.cell 0
  have y0c := KB2.out.cell 0
  have x1c := KA2.out.cell 1
  have y1c := KB2.out.cell 1
  have x2c := KA2.out.cell 2
  have y2c := KB2.out.cell 2
  go_wp2_with fail
  refine (HRS.out _).mono ?_
  rintro o w3 ⟨rfl, hb3⟩
  have KA3 := Lib.hid (KA2.out.below hb3 KA2.out.lt)
  have KB3 := Lib.hid (KB2.out.below hb3 KB2.out.lt)
  have B3 := Lib.hid (B2.out.trans (hb3.mono B2.out.size))
  clear hb3
  clear x0c y0c x1c y1c x2c y2c
  have x0c := KA3.out.cell 0
  have y0c := KB3.out.cell 0
  have x1c := KA3.out.cell 1
  have y1c := KB3.out.cell 1
  have x2c := KA3.out.cell 2
  have y2c := KB3.out.cell 2
  go_wp2_with fail
  refine (HAW.out _).mono ?_
  rintro o w9 ⟨rfl, hb9⟩
  go_wp2_with fail
  go_ret
  exact ⟨rfl, B3.out.trans (hb9.mono B3.out.size)⟩
set_option maxHeartbeats 4000000 in
set_option maxRecDepth 100000 in
theorem law_C (s6 : Bool) (sh sl dh dl : Int) (b off n0 n c : Nat) (x : Int) (hx : x / 16 = 4 ∨ x / 16 = 6) (j0 : 0 < n) (x0 : 0 ≤ x ∧ x ≤ 255) (w : World) (hb : b < w.heap.size) (hy : w.cell? ⟨b, off, none⟩ = some (.int .u8 x)) 
    (HC : Hid (∀ W, Calls Try.prog 10 #[.slice (some ⟨b, off, none⟩) n0 c] W fun o w' => o = .returned (.slice (some ⟨b, off, none⟩) n c) ∧ W = w'))
    (HW : Hid (∀ V, Below w.heap.size w V → Calls Try.prog 15 #[.agg #[.bool s6, .int .u64 sh, .int .u64 sl], .agg #[.bool s6, .int .u64 dh, .int .u64 dl], .slice (some ⟨b, off, none⟩) n c] V (MkP 18 [] V)))
    (HRS : Hid (∀ V, Calls Try.prog 16 #[.agg #[.bool s6, .int .u64 sh, .int .u64 sl]] V fun o w' => o = .returned (.bool true) ∧ Below V.heap.size V w'))
    (HRD : Hid (∀ V, Calls Try.prog 16 #[.agg #[.bool s6, .int .u64 dh, .int .u64 dl]] V fun o w' => o = .returned (.bool false) ∧ Below V.heap.size V w')) :
    Calls Try.prog 4 #[.agg #[.bool s6, .int .u64 sh, .int .u64 sl], .agg #[.bool s6, .int .u64 dh, .int .u64 dl], .slice (some ⟨b, off, none⟩) n0 c] w fun o w' => o = .returned (.bool true) ∧ Below w.heap.size w w' := by
  have HAW := Lib.hid awake_any
  have j1 : (0 : Int) < n := by omega
  have c0 : ((n : Int) == 0) = false := by simp; omega
  have c0n : (n == 0) = false := by simp; omega
  have CB := Lib.hid hb
  have Y0 := Lib.hid hy
  have HX := Lib.hid hx
  have tv : (s6 != s6) = false := by simp
  have tv2 : (s6 == s6) = true := by simp
  obtain ⟨w0, hw0⟩ : ∃ w0, w0 = w.alloc (.cells #[.bool s6, .int .u64 sh, .int .u64 sl] 32) := ⟨_, rfl⟩
  obtain ⟨w1, hw1⟩ : ∃ w1, w1 = w0.alloc (.cells #[.bool s6, .int .u64 dh, .int .u64 dl] 32) := ⟨_, rfl⟩
  obtain ⟨p1, hp1⟩ : ∃ p1, p1 = w.heap.size := ⟨_, rfl⟩
  obtain ⟨p2, hp2⟩ : ∃ p2, p2 = p1 + 1 := ⟨_, rfl⟩
  have E0 := Lib.hid hw0
  have E1 := Lib.hid hw1
  have EP1 := Lib.hid hp1
  have EP2 := Lib.hid hp2
  have B0 := Lib.hid (show Below w.heap.size w w0 from by rw [hw0]; exact (Below.refl _ _).alloc (Nat.le_refl _) _)
  have B01 := Lib.hid (show Below w0.heap.size w0 w1 from by rw [hw1]; exact (Below.refl _ _).alloc (Nat.le_refl _) _)
  have B1 := Lib.hid (B0.out.trans (B01.out.mono B0.out.size))
  have K0 := Lib.hid (show Blk w0 p1 32 #[.bool s6, .int .u64 sh, .int .u64 sl] from by rw [hw0, hp1]; exact Blk.new w _ _)
  have KA1 := Lib.hid (K0.out.below B01.out K0.out.lt)
  have KB1 := Lib.hid (show Blk w1 p2 32 #[.bool s6, .int .u64 dh, .int .u64 dl] from by
    have e9 : p2 = w0.heap.size := by rw [hp2, hp1, hw0]; simp
    rw [hw1, e9]; exact Blk.new w0 _ _)
  clear hw0 hw1 hp1 hp2 hx hb hy
  go_enter Try.func4, Try.ntmps4
  go_upto_region 1 with fail
  rw [← E0.out, ← EP1.out, ← EP2.out, ← E1.out]
  go_wp2_with fail
  refine (HC.out _).mono ?_
  rintro o w' ⟨rfl, rfl⟩
  have x0c := KA1.out.cell 0
  have y0c := KB1.out.cell 0
  have x1c := KA1.out.cell 1
  have y1c := KB1.out.cell 1
  have x2c := KA1.out.cell 2
  have y2c := KB1.out.cell 2
  go_wp2_with fail
  refine (HW.out _ B1.out).mono ?_
  rintro o w2 ⟨hb2, AX, nx, cx, rfl, hsx⟩
  have KA2 := Lib.hid (KA1.out.below hb2 KA1.out.lt)
  have KB2 := Lib.hid (KB1.out.below hb2 KB1.out.lt)
  have B2 := Lib.hid (B1.out.trans (hb2.mono B1.out.size))
  obtain rfl : nx = 0 := by have := hsx.len; simp at this; omega
  clear hb2 hsx
  clear x0c y0c x1c y1c x2c y2c
  have y0 : w2.cell? ⟨b, off, none⟩ = some (.int .u8 x) := (B2.out.cell (p := ⟨b, off, none⟩) CB.out).trans Y0.out
  go_upto_region 6 with fail
  go_cut [40] (fun v wx => v = .bool false ∧ wx = w2)
  case first =>
    rcases HX.out with h | h
    · have t4 : (x / 16 != 4) = false := by simp [h]
      go_wp2_with fail
      go_meet
      exact ⟨rfl, rfl⟩
    · have t4 : (x / 16 != 4) = true := by simp [h]
      have t6 : (x / 16 != 6) = false := by simp [h]
      go_wp2_with fail
      go_meet
      exact ⟨rfl, rfl⟩
  case rest =>
  obtain ⟨rfl, hwc⟩ := hcut
  rw [hwc]
  clear hwc y0
  have x0c := KA2.out.cell 0
  have y0c := KB2.out.cell 0
  have x1c := KA2.out.cell 1
  have y1c := KB2.out.cell 1
  have x2c := KA2.out.cell 2
  have y2c := KB2.out.cell 2
  go_wp2_with fail
  refine (HRS.out _).mono ?_
  rintro o w3 ⟨rfl, hb3⟩
  have KA3 := Lib.hid (KA2.out.below hb3 KA2.out.lt)
  have KB3 := Lib.hid (KB2.out.below hb3 KB2.out.lt)
  have B3 := Lib.hid (B2.out.trans (hb3.mono B2.out.size))
  clear hb3
  clear x0c y0c x1c y1c x2c y2c
  have x0c := KA3.out.cell 0
  have y0c := KB3.out.cell 0
  have x1c := KA3.out.cell 1
  have y1c := KB3.out.cell 1
  have x2c := KA3.out.cell 2
  have y2c := KB3.out.cell 2
  go_wp2_with fail
  refine (HRD.out _).mono ?_
  rintro o w4 ⟨rfl, hb4⟩
  have KA4 := Lib.hid (KA3.out.below hb4 KA3.out.lt)
  have KB4 := Lib.hid (KB3.out.below hb4 KB3.out.lt)
  have B4 := Lib.hid (B3.out.trans (hb4.mono B3.out.size))
  clear hb4
  clear x0c y0c x1c y1c x2c y2c
  have x0c := KA4.out.cell 0
  have y0c := KB4.out.cell 0
  have x1c := KA4.out.cell 1
  have y1c := KB4.out.cell 1
  have x2c := KA4.out.cell 2
  have y2c := KB4.out.cell 2
  go_wp2_with fail
  refine (HAW.out _).mono ?_
  rintro o w9 ⟨rfl, hb9⟩
  go_wp2_with fail
  go_ret
  exact ⟨rfl, B4.out.trans (hb9.mono B4.out.size)⟩
set_option maxHeartbeats 4000000 in
set_option maxRecDepth 100000 in
theorem law_G (s6 : Bool) (sh sl dh dl : Int) (b off n0 n c : Nat) (x : Int) (hx : x / 16 = 4 ∨ x / 16 = 6) (j0 : 0 < n) (x0 : 0 ≤ x ∧ x ≤ 255) (w : World) (hb : b < w.heap.size) (hy : w.cell? ⟨b, off, none⟩ = some (.int .u8 x)) (l X : List Int) (ov sz : Int) (hsz : sz = (n : Int) + ov) (ov9 : ov = 20 ∨ ov = 40) (hn : n ≤ 500) (hs : Sl w (some ⟨b, off, none⟩) n c l)
    (HC : Hid (∀ W, Calls Try.prog 10 #[.slice (some ⟨b, off, none⟩) n0 c] W fun o w' => o = .returned (.slice (some ⟨b, off, none⟩) n c) ∧ W = w'))
    (HW : Hid (∀ V, Below w.heap.size w V → Calls Try.prog 15 #[.agg #[.bool s6, .int .u64 sh, .int .u64 sl], .agg #[.bool s6, .int .u64 dh, .int .u64 dl], .slice (some ⟨b, off, none⟩) n c] V (MkP 0 X V)))
    (HRS : Hid (∀ V, Calls Try.prog 16 #[.agg #[.bool s6, .int .u64 sh, .int .u64 sl]] V fun o w' => o = .returned (.bool true) ∧ Below V.heap.size V w'))
    (HRD : Hid (∀ V, Calls Try.prog 16 #[.agg #[.bool s6, .int .u64 dh, .int .u64 dl]] V fun o w' => o = .returned (.bool true) ∧ Below V.heap.size V w'))
    (HO : Hid (∀ V A2 n2 c2, Sl V A2 n2 c2 X → Calls Try.prog 17 #[.slice A2 n2 c2] V fun o w' => Below V.heap.size V w' ∧ ∃ (A5 : Option Addr) (c5 : Nat), o = .returned (.tuple #[.slice A5 n c5, .agg #[.bool s6, .int .u64 sh, .int .u64 sl], .agg #[.bool s6, .int .u64 dh, .int .u64 dl], .int .i64 0]) ∧ Sl w' A5 n c5 l))
    (HT : Hid (∀ V A2 n2 c2, Sl V A2 n2 c2 X → Calls Try.prog 12 #[.slice A2 n2 c2] V fun o w' => o = .returned (.tuple #[.int .i64 64, .int .i64 sz, .int .i64 0]) ∧ Below V.heap.size V w'))
    (HOV : Hid (∀ V, Calls Try.prog 18 #[.bool s6] V fun o w' => o = .returned (.int .i64 ov) ∧ V = w')) :
    Calls Try.prog 4 #[.agg #[.bool s6, .int .u64 sh, .int .u64 sl], .agg #[.bool s6, .int .u64 dh, .int .u64 dl], .slice (some ⟨b, off, none⟩) n0 c] w fun o w' => o = .returned (.bool true) ∧ Below w.heap.size w w' := by
  have HAW := Lib.hid awake_any
  have j1 : (0 : Int) < n := by omega
  have c0 : ((n : Int) == 0) = false := by simp; omega
  have c0n : (n == 0) = false := by simp; omega
  have CB := Lib.hid hb
  have Y0 := Lib.hid hy
  have HX := Lib.hid hx
  have tv : (s6 != s6) = false := by simp
  have tv2 : (s6 == s6) = true := by simp
  have wsz : IntKind.i64.wrap ((n : Int) + ov) = sz := by rw [IntWalk.i64_in _ (by omega), hsz]
  have HSL := Lib.hid hs
  have ADS : ∀ W : World, (binOp .eql 32 (.agg #[.bool s6, .int .u64 sh, .int .u64 sl]) (.agg #[.bool s6, .int .u64 sh, .int .u64 sl])).run Try.prog W = .ok (.bool true) W := fun W => by go_simp
  have ADD : ∀ W : World, (binOp .eql 32 (.agg #[.bool s6, .int .u64 dh, .int .u64 dl]) (.agg #[.bool s6, .int .u64 dh, .int .u64 dl])).run Try.prog W = .ok (.bool true) W := fun W => by go_simp
  clear hsz ov9 hn hs
  obtain ⟨w0, hw0⟩ : ∃ w0, w0 = w.alloc (.cells #[.bool s6, .int .u64 sh, .int .u64 sl] 32) := ⟨_, rfl⟩
  obtain ⟨w1, hw1⟩ : ∃ w1, w1 = w0.alloc (.cells #[.bool s6, .int .u64 dh, .int .u64 dl] 32) := ⟨_, rfl⟩
  obtain ⟨p1, hp1⟩ : ∃ p1, p1 = w.heap.size := ⟨_, rfl⟩
  obtain ⟨p2, hp2⟩ : ∃ p2, p2 = p1 + 1 := ⟨_, rfl⟩
  have E0 := Lib.hid hw0
  have E1 := Lib.hid hw1
  have EP1 := Lib.hid hp1
  have EP2 := Lib.hid hp2
  have B0 := Lib.hid (show Below w.heap.size w w0 from by rw [hw0]; exact (Below.refl _ _).alloc (Nat.le_refl _) _)
  have B01 := Lib.hid (show Below w0.heap.size w0 w1 from by rw [hw1]; exact (Below.refl _ _).alloc (Nat.le_refl _) _)
  have B1 := Lib.hid (B0.out.trans (B01.out.mono B0.out.size))
  have K0 := Lib.hid (show Blk w0 p1 32 #[.bool s6, .int .u64 sh, .int .u64 sl] from by rw [hw0, hp1]; exact Blk.new w _ _)
  have KA1 := Lib.hid (K0.out.below B01.out K0.out.lt)
  have KB1 := Lib.hid (show Blk w1 p2 32 #[.bool s6, .int .u64 dh, .int .u64 dl] from by
    have e9 : p2 = w0.heap.size := by rw [hp2, hp1, hw0]; simp
    rw [hw1, e9]; exact Blk.new w0 _ _)
  clear hw0 hw1 hp1 hp2 hx hb hy
  go_enter Try.func4, Try.ntmps4
  go_upto_region 1 with fail
  rw [← E0.out, ← EP1.out, ← EP2.out, ← E1.out]
  go_wp2_with fail
  refine (HC.out _).mono ?_
  rintro o w' ⟨rfl, rfl⟩
  have x0c := KA1.out.cell 0
  have y0c := KB1.out.cell 0
  have x1c := KA1.out.cell 1
  have y1c := KB1.out.cell 1
  have x2c := KA1.out.cell 2
  have y2c := KB1.out.cell 2
  go_wp2_with fail
  refine (HW.out _ B1.out).mono ?_
  rintro o w2 ⟨hb2, AX, nx, cx, rfl, hsx⟩
  have KA2 := Lib.hid (KA1.out.below hb2 KA1.out.lt)
  have KB2 := Lib.hid (KB1.out.below hb2 KB1.out.lt)
  have B2 := Lib.hid (B1.out.trans (hb2.mono B1.out.size))
  have SX2 := Lib.hid hsx
  clear hb2 hsx
  clear x0c y0c x1c y1c x2c y2c
  have y0 : w2.cell? ⟨b, off, none⟩ = some (.int .u8 x) := (B2.out.cell (p := ⟨b, off, none⟩) CB.out).trans Y0.out
  go_upto_region 6 with fail
  go_cut [40] (fun v wx => v = .bool false ∧ wx = w2)
  case first =>
    rcases HX.out with h | h
    · have t4 : (x / 16 != 4) = false := by simp [h]
      go_wp2_with fail
      go_meet
      exact ⟨rfl, rfl⟩
    · have t4 : (x / 16 != 4) = true := by simp [h]
      have t6 : (x / 16 != 6) = false := by simp [h]
      go_wp2_with fail
      go_meet
      exact ⟨rfl, rfl⟩
  case rest =>
  obtain ⟨rfl, hwc⟩ := hcut
  rw [hwc]
  clear hwc y0
  have x0c := KA2.out.cell 0
  have y0c := KB2.out.cell 0
  have x1c := KA2.out.cell 1
  have y1c := KB2.out.cell 1
  have x2c := KA2.out.cell 2
  have y2c := KB2.out.cell 2
  go_wp2_with fail
  refine (HRS.out _).mono ?_
  rintro o w3 ⟨rfl, hb3⟩
  have KA3 := Lib.hid (KA2.out.below hb3 KA2.out.lt)
  have KB3 := Lib.hid (KB2.out.below hb3 KB2.out.lt)
  have B3 := Lib.hid (B2.out.trans (hb3.mono B2.out.size))
  have SX3 := Lib.hid (SX2.out.below hb3)
  clear hb3
  clear x0c y0c x1c y1c x2c y2c
  have x0c := KA3.out.cell 0
  have y0c := KB3.out.cell 0
  have x1c := KA3.out.cell 1
  have y1c := KB3.out.cell 1
  have x2c := KA3.out.cell 2
  have y2c := KB3.out.cell 2
  go_wp2_with fail
  refine (HRD.out _).mono ?_
  rintro o w4 ⟨rfl, hb4⟩
  have KA4 := Lib.hid (KA3.out.below hb4 KA3.out.lt)
  have KB4 := Lib.hid (KB3.out.below hb4 KB3.out.lt)
  have B4 := Lib.hid (B3.out.trans (hb4.mono B3.out.size))
  have SX4 := Lib.hid (SX3.out.below hb4)
  clear hb4
  clear x0c y0c x1c y1c x2c y2c
  have x0c := KA4.out.cell 0
  have y0c := KB4.out.cell 0
  have x1c := KA4.out.cell 1
  have y1c := KB4.out.cell 1
  have x2c := KA4.out.cell 2
  have y2c := KB4.out.cell 2
  go_wp2_with fail
  refine (HO.out _ _ _ _ SX4.out).mono ?_
  rintro o w5 ⟨hb5, A5, c5, rfl, hs5⟩
  obtain ⟨g1, hg1⟩ : ∃ g1, g1 = w5.heap.size := ⟨_, rfl⟩
  obtain ⟨g2, hg2⟩ : ∃ g2, g2 = w5.heap.size + 1 := ⟨_, rfl⟩
  obtain ⟨w6, hw6⟩ : ∃ w6, w6 = (w5.alloc (.cells #[.bool s6, .int .u64 sh, .int .u64 sl] 32)).alloc (.cells #[.bool s6, .int .u64 dh, .int .u64 dl] 32) := ⟨_, rfl⟩
  have E6 := Lib.hid hw6
  have EG1 := Lib.hid hg1
  have EG2 := Lib.hid hg2
  have B56 := Lib.hid (show Below w5.heap.size w5 w6 from by rw [hw6]; exact ((Below.refl _ _).alloc (Nat.le_refl _) _).alloc (by simp) _)
  have B46 := Lib.hid (hb5.trans (B56.out.mono hb5.size))
  have B6 := Lib.hid (B4.out.trans (B46.out.mono B4.out.size))
  have S6 := Lib.hid (Sl.below hs5 B56.out)
  have SX6 := Lib.hid (SX4.out.below B46.out)
  have KA6 := Lib.hid (KA4.out.below B46.out KA4.out.lt)
  have KB6 := Lib.hid (KB4.out.below B46.out KB4.out.lt)
  have KC6 := Lib.hid (show Blk w6 g1 32 #[.bool s6, .int .u64 sh, .int .u64 sl] from by rw [hw6, hg1]; exact (Blk.new w5 _ _).below ((Below.refl _ _).alloc (Nat.le_refl _) _) (Blk.new w5 _ _).lt)
  have KD6 := Lib.hid (show Blk w6 g2 32 #[.bool s6, .int .u64 dh, .int .u64 dl] from by
    have h9 := Blk.new (w5.alloc (.cells #[.bool s6, .int .u64 sh, .int .u64 sl] 32)) 32 #[.bool s6, .int .u64 dh, .int .u64 dl]
    rw [← hw6] at h9
    rw [hg2]
    simpa using h9)
  clear hb5 hs5 hg1 hg2 hw6
  clear x0c y0c x1c y1c x2c y2c
  go_upto_region 13 with fail
  rw [← E6.out, ← EG2.out, ← EG1.out]
  go_wp2_with fail
  refine (HT.out _ _ _ _ SX6.out).mono ?_
  rintro o w7 ⟨rfl, hb7⟩
  have KA7 := Lib.hid (KA6.out.below hb7 KA6.out.lt)
  have KB7 := Lib.hid (KB6.out.below hb7 KB6.out.lt)
  have KC7 := Lib.hid (KC6.out.below hb7 KC6.out.lt)
  have KD7 := Lib.hid (KD6.out.below hb7 KD6.out.lt)
  have B7 := Lib.hid (B6.out.trans (hb7.mono B6.out.size))
  have S7 := Lib.hid (S6.out.below hb7)
  clear hb7
  have x0c := KA7.out.cell 0
  have y0c := KB7.out.cell 0
  have u0c := KC7.out.cell 0
  have v0c := KD7.out.cell 0
  have x1c := KA7.out.cell 1
  have y1c := KB7.out.cell 1
  have u1c := KC7.out.cell 1
  have v1c := KD7.out.cell 1
  have x2c := KA7.out.cell 2
  have y2c := KB7.out.cell 2
  have u2c := KC7.out.cell 2
  have v2c := KD7.out.cell 2
  obtain ⟨ST, hST⟩ : ∃ ST, ST = strOfNums l := ⟨_, rfl⟩
  have cv1 : (convert 22 9 (.slice A5 n c5)).run Try.prog w7 = .ok (.string ST) w7 := by rw [hST]; exact sixN.conv_row S7.out.row S7.out.len
  have cv2 : (convert 22 9 (.slice (some ⟨b, off, none⟩) n c)).run Try.prog w7 = .ok (.string ST) w7 := by rw [hST]; exact sixN.conv_row (HSL.out.below B7.out).row HSL.out.len
  clear hST
  go_wp2_with fail
  refine (HOV.out _).mono ?_
  rintro o w' ⟨rfl, rfl⟩
  go_wp2_with fail
  refine (HAW.out _).mono ?_
  rintro o w9 ⟨rfl, hb9⟩
  go_wp2_with fail
  go_ret
  exact ⟨rfl, B7.out.trans (hb9.mono B7.out.size)⟩
theorem tt4 (pr sl dl : Int) (bl : List Int) (h2 : 0 ≤ pr ∧ pr ≤ 255) (h3 : 0 ≤ sl ∧ sl ≤ 4294967295) (h4 : 0 ≤ dl ∧ dl ≤ 4294967295) (hb : bl.length ≤ 900) (hu : U8 (tw4 pr sl dl bl)) : ttE (tw4 pr sl dl bl) = 0 ∧ ttT (tw4 pr sl dl bl) = 64 ∧ ttS (tw4 pr sl dl bl) = 20 + bl.length ∧ (tw4 pr sl dl bl).length = 20 + bl.length := by
  obtain ⟨k1, k2, k3, _, k5, _, _, _, k9, k10⟩ := tw4_says pr sl dl bl h2 h3 h4 hb
  obtain ⟨_, _, _, _, _, _, _, e8, _, _⟩ := four_sizes _ hu k1
  rw [k2, k3] at e8
  generalize tw4 pr sl dl bl = X at *
  have e2 : numP X = (4, 0) := by unfold numP; rw [if_neg (by omega), if_pos k9]
  refine ⟨?_, ?_, ?_, k10⟩
  · unfold ttE
    rw [e2, if_neg (by simp), if_neg (by omega), k1]
  · unfold ttT
    rw [if_neg (by omega), k5]
  · unfold ttS
    rw [if_neg (by omega), e8]
theorem tt6 (pr sh sl dh dl : Int) (bl : List Int) (hp : pr = 4 ∨ pr = 41) (b1 : 0 ≤ sh ∧ sh < 18446744073709551616) (b2 : 0 ≤ sl ∧ sl < 18446744073709551616) (b3 : 0 ≤ dh ∧ dh < 18446744073709551616) (b4 : 0 ≤ dl ∧ dl < 18446744073709551616) (hb : bl.length ≤ 900) (hn : numP bl = (pr, 0)) (hu : U8 (tw6 pr sh sl dh dl bl)) : ttE (tw6 pr sh sl dh dl bl) = 0 ∧ ttT (tw6 pr sh sl dh dl bl) = 64 ∧ ttS (tw6 pr sh sl dh dl bl) = 40 + bl.length ∧ (tw6 pr sh sl dh dl bl).length = 40 + bl.length := by
  obtain ⟨k1, k2, _, _, k10⟩ := opn6 pr sh sl dh dl bl hp b1 b2 b3 b4 hb hn
  obtain ⟨k9, _, e8, _, _, _⟩ := six_sizes _ hu k1
  have k7 : (tw6 pr sh sl dh dl bl).getD 7 0 = 64 := congrArg Hs.hop k2
  generalize tw6 pr sh sl dh dl bl = X at *
  have e2 : numP X = (41, 0) := by unfold numP; rw [if_neg (by omega), if_neg (by omega), if_pos k9]
  have e0 : extL [] = 0 := rfl
  refine ⟨?_, ?_, ?_, k10⟩
  · unfold ttE
    rw [e2, if_neg (by simp), if_pos k9, k1]
  · unfold ttT
    rw [if_pos k9, k7]
  · unfold ttS
    rw [if_pos k9]
    omega
theorem num_is {l : List Int} (h : (numP l).2 = 0) : 0 < l.length ∧ (l.getD 0 0 / 16 = 4 ∨ l.getD 0 0 / 16 = 6) := by
  unfold numP at h
  split at h
  · cases h
  · split at h
    · exact ⟨by omega, .inl ‹_›⟩
    · split at h
      · exact ⟨by omega, .inr ‹_›⟩
      · cases h
theorem top_of {X l : List Int} {s6 : Bool} {sh sl : Int} {d6 : Bool} {dh dl p : Int} (h1 : rdP X = ⟨l, s6, sh, sl, d6, dh, dl, p, 0⟩) (h2 : opnE X = 0) : topR X = ⟨l, s6, sh, sl, d6, dh, dl, 0, 0⟩ := by
  unfold topR
  rw [if_pos h2, h1]
theorem wraps_law (s6 : Bool) (sh sl : Int) (d6 : Bool) (dh dl : Int) (b1 : 0 ≤ sh ∧ sh < 18446744073709551616) (b2 : 0 ≤ sl ∧ sl < 18446744073709551616) (b3 : 0 ≤ dh ∧ dh < 18446744073709551616) (b4 : 0 ≤ dl ∧ dl < 18446744073709551616) (A : Option Addr) (n0 c : Nat) (l0 : List Int) (w : World) (hl0 : l0.length = n0) (hr0 : Row w w.heap.size A (l0.map (.int .u8))) (hu0 : U8 l0) (hnc0 : n0 ≤ c) (hc : c ≤ 9223372036854775807) (hnil : A = none → c = 0) :
    Calls Try.prog 4 #[.agg #[.bool s6, .int .u64 sh, .int .u64 sl], .agg #[.bool d6, .int .u64 dh, .int .u64 dl], .slice A n0 c] w fun o w' => o = .returned (.bool true) ∧ Below w.heap.size w w' := by
  have HC := Lib.hid fun W => cut_any A n0 c W (fun h => by
    obtain ⟨b, off, hA, _, _⟩ := lies_of hr0 (by omega)
    exact ⟨b, off, hA⟩) hnc0 hc
  obtain ⟨n, hn⟩ : ∃ n, n = min n0 500 := ⟨_, rfl⟩
  obtain ⟨l, hll⟩ : ∃ l, l = l0.take n := ⟨_, rfl⟩
  have hl : l.length = n := by rw [hll, List.length_take]; omega
  have hu : U8 l := by rw [hll]; exact hu0.take n
  have hr : Row w w.heap.size A (l.map (.int .u8)) := by
    have := hr0.take n
    rw [← List.map_take, ← hll] at this
    exact this
  have hsl : Sl w A n c l := ⟨hl, hr, by omega, hc, hnil, hu⟩
  rw [← hn] at HC
  have HW := fun V (hV : Below w.heap.size w V) => wrap_any s6 sh sl d6 dh dl A n c l V (hsl.below hV) (by omega) b1 b2 b3 b4
  unfold wrP at HW
  by_cases h0 : n = 0
  · subst h0
    have e : numP l = (0, 2) := by unfold numP; rw [if_pos (by omega)]
    rw [e, if_pos (by decide)] at HW
    exact law_z s6 sh sl d6 dh dl A n0 c w HC (Lib.hid HW)
  obtain ⟨b, off, rfl, hbw, hcw⟩ := lies_of hsl.row (by omega)
  have y0 : w.cell? ⟨b, off, none⟩ = some (.int .u8 (l.getD 0 0)) := hcw 0 (by omega)
  have u0 := hu.get 0
  by_cases hz : (numP l).2 = 0
  · obtain ⟨_, hx⟩ := num_is hz
    have hp := num_ok hz
    have hnm : numP l = ((numP l).1, 0) := by rw [← hz]
    generalize (numP l).1 = pr at hp hnm HW
    rw [hnm] at HW
    have hne : ¬ (0 : Int) ≠ 0 := by omega
    simp only [if_neg hne] at HW
    by_cases hv : s6 = d6
    · subst hv
      have HS := fun V : World => aright_any s6 sh sl V b2.1
      have HD := fun V : World => aright_any s6 dh dl V b4.1
      cases ks : okAd s6 sh sl with
      | false =>
        rw [if_pos (.inr (.inl ks))] at HW
        rw [ks] at HS
        exact law_B s6 sh sl dh dl b off n0 n c _ hx (by omega) u0 w hbw y0 HC (Lib.hid HW) (Lib.hid HS)
      | true =>
        rw [ks] at HS
        cases kd : okAd s6 dh dl with
        | false =>
          rw [if_pos (.inr (.inr kd))] at HW
          rw [kd] at HD
          exact law_C s6 sh sl dh dl b off n0 n c _ hx (by omega) u0 w hbw y0 HC (Lib.hid HW) (Lib.hid HS) (Lib.hid HD)
        | true =>
          rw [if_neg (by rintro (a | a | a); · exact a rfl
                         · rw [ks] at a; cases a
                         · rw [kd] at a; cases a)] at HW
          rw [kd] at HD
          have key : ∀ (X : List Int) (ov : Int), (ov = 20 ∨ ov = 40) → topR X = ⟨l, s6, sh, sl, s6, dh, dl, 0, 0⟩ → (U8 X → ttE X = 0 ∧ ttT X = 64 ∧ (ttS X : Int) = (n : Int) + ov ∧ X.length ≤ 1000) → (∀ V, Below w.heap.size w V → Calls Try.prog 15 #[.agg #[.bool s6, .int .u64 sh, .int .u64 sl], .agg #[.bool s6, .int .u64 dh, .int .u64 dl], .slice (some ⟨b, off, none⟩) n c] V (MkP 0 X V)) → (∀ V, Calls Try.prog 18 #[.bool s6] V fun o w' => o = .returned (.int .i64 ov) ∧ V = w') →
              Calls Try.prog 4 #[.agg #[.bool s6, .int .u64 sh, .int .u64 sl], .agg #[.bool s6, .int .u64 dh, .int .u64 dl], .slice (some ⟨b, off, none⟩) n0 c] w fun o w' => o = .returned (.bool true) ∧ Below w.heap.size w w' := by
            intro X ov hov htop htt hW hO
            refine law_G s6 sh sl dh dl b off n0 n c _ hx (by omega) u0 w hbw y0 l X ov ((n : Int) + ov) rfl hov (by omega) hsl HC (Lib.hid hW) (Lib.hid HS) (Lib.hid HD) (Lib.hid fun V A2 n2 c2 h2 => ?_) (Lib.hid fun V A2 n2 c2 h2 => ?_) (Lib.hid hO)
            · obtain ⟨_, _, _, t4⟩ := htt h2.u8
              have h9 := open_any A2 n2 c2 X V h2 (by have := h2.len; omega)
              rw [htop] at h9
              unfold TopP at h9
              dsimp only at h9
              rw [hl] at h9
              exact h9
            · obtain ⟨t1, t2, t3, t4⟩ := htt h2.u8
              refine (ttl_any A2 n2 c2 X V h2 (by have := h2.len; omega)).mono fun o w' k => ?_
              obtain ⟨hb, t, s, h1, h3⟩ := k
              obtain ⟨rfl, rfl⟩ := h3 t1
              rw [t1, t2, t3] at h1
              exact ⟨h1, hb⟩
          have HO := fun V : World => over_any s6 V
          cases s6 with
          | true =>
            rw [if_pos rfl] at HW
            rw [if_pos rfl] at HO
            obtain ⟨_, _, o1, o2, _⟩ := opn6 pr sh sl dh dl l hp b1 b2 b3 b4 (by omega) hnm
            exact key _ 40 (.inr rfl) (top_of o1 o2) (fun hX => by
              obtain ⟨t1, t2, t3, t4⟩ := tt6 pr sh sl dh dl l hp b1 b2 b3 b4 (by omega) hnm hX
              exact ⟨t1, t2, by omega, by omega⟩) HW HO
          | false =>
            rw [if_neg (by decide)] at HW
            rw [if_neg (by decide)] at HO
            have ks2 : sh = 0 ∧ sl < 4294967296 := by simpa [okAd] using ks
            have kd2 : dh = 0 ∧ dl < 4294967296 := by simpa [okAd] using kd
            obtain ⟨rfl, ks3⟩ := ks2
            obtain ⟨rfl, kd3⟩ := kd2
            obtain ⟨o1, o2⟩ := opn4 pr sl dl l hp (by omega) (by omega) (by omega) hnm
            exact key _ 20 (.inl rfl) (top_of o1 o2) (fun hX => by
              obtain ⟨t1, t2, t3, t4⟩ := tt4 pr sl dl l (by omega) (by omega) (by omega) (by omega) hX
              exact ⟨t1, t2, by omega, by omega⟩) HW HO
    · rw [if_pos (.inl hv)] at HW
      exact law_A s6 sh sl d6 dh dl b off n0 n c _ hx (by omega) u0 w hbw y0 hv HC (Lib.hid HW)
  · have h4 : l.getD 0 0 / 16 ≠ 4 := fun h => hz (by unfold numP; rw [if_neg (by omega), if_pos h])
    have h6 : l.getD 0 0 / 16 ≠ 6 := fun h => hz (by unfold numP; rw [if_neg (by omega), if_neg h4, if_pos h])
    have e : numP l = (0, 10) := by unfold numP; rw [if_neg (by omega), if_neg h4, if_neg h6]
    rw [e, if_pos (by decide)] at HW
    exact law_x s6 sh sl d6 dh dl b off n0 n c _ ⟨h4, h6⟩ (by omega) u0 w hbw y0 HC (Lib.hid HW)
end Go.Proofs.Ytodckfgfbcnkoaa.tunM
namespace Go.Proofs.Ytodckfgfbcnkoaa.base
end Go.Proofs.Ytodckfgfbcnkoaa.base
