/- Layer 9: the law SixParses, where bytes begin with no header. -/
import Derived.Test.YtndekicblbpkjaaSixR
import Derived.Test.YtndekicblbpkjaaSixL
import Derived.Deep.RegionHeld3
import Derived.Deep.DeepCutAuto
namespace Go.Proofs.Ytndekicblbpkjaa.sixS
open Go.ChangeShapes Go.WideShapes Go.ChangeAt Go.RowKit
open Go.Proofs.Ytndekicblbpkjaa.base Go.Proofs.Ytndekicblbpkjaa.octA Go.Proofs.Ytndekicblbpkjaa.octB Go.Proofs.Ytndekicblbpkjaa.octC Go.Proofs.Ytndekicblbpkjaa.octF Go.Proofs.Ytndekicblbpkjaa.octK Go.Proofs.Ytndekicblbpkjaa.net Go.Proofs.Ytndekicblbpkjaa.rdrA Go.Proofs.Ytndekicblbpkjaa.rdrG Go.Proofs.Ytndekicblbpkjaa.sumA Go.Proofs.Ytndekicblbpkjaa.sumB Go.Proofs.Ytndekicblbpkjaa.udpA Go.Proofs.Ytndekicblbpkjaa.tcpC Go.Proofs.Ytndekicblbpkjaa.sixW Go.Proofs.Ytndekicblbpkjaa.sixM Go.Proofs.Ytndekicblbpkjaa.snK Go.Proofs.Ytndekicblbpkjaa.sixA Go.Proofs.Ytndekicblbpkjaa.sixB Go.Proofs.Ytndekicblbpkjaa.sixC Go.Proofs.Ytndekicblbpkjaa.sixD Go.Proofs.Ytndekicblbpkjaa.sixE Go.Proofs.Ytndekicblbpkjaa.sixF Go.Proofs.Ytndekicblbpkjaa.sixG Go.Proofs.Ytndekicblbpkjaa.sixH Go.Proofs.Ytndekicblbpkjaa.sixI Go.Proofs.Ytndekicblbpkjaa.sixK Go.Proofs.Ytndekicblbpkjaa.sixL Go.Proofs.Ytndekicblbpkjaa.sixN Go.Proofs.Ytndekicblbpkjaa.sixO Go.Proofs.Ytndekicblbpkjaa.sixQ Go.Proofs.Ytndekicblbpkjaa.sixR
set_option linter.unusedVariables false

/-- What Parse and Quote tell where they refuse. -/
def FailP (w : World) (e : Int) (o : Ending) (w' : World) : Prop := o = .returned (.tuple #[.agg #[.int .i64 0, .int .i64 0, .int .i64 0, .bool false, .int .u64 0, .int .u64 0, .bool false, .int .u64 0, .int .u64 0, .slice none 0 0, .int .i64 0], .slice none 0 0, .int .i64 e]) ∧ Below w.heap.size w w'
theorem headP_fail {w : World} {l : List Int} {e : Int} {o : Ending} {w' : World} (h : HeadP w l (.inl e) o w') : FailP w e o w' := by
  obtain ⟨hb, h⟩ := h
  rcases h with ⟨e2, h1, h2⟩ | ⟨ys, q, r, h1, _⟩
  · injection h1 with h1
    subst h1
    exact ⟨h2, hb⟩
  · cases h1
/-- The same where they do not. -/
def GoodP (w : World) (l : List Int) (ys : List XP) (q : Int) (r : List Int) (o : Ending) (w' : World) : Prop :=
  Below w.heap.size w w' ∧ ∃ L A c B d, o = .returned (.tuple #[.agg ((hdOf l q).cells (.slice A ys.length c)), .slice B r.length d, .int .i64 0]) ∧ L.map Xt.re = ys ∧ GotX w' w.heap.size (.slice A ys.length c) L ∧ w'.ownsRow w.heap.size 5 1 (.slice B r.length d) r.length (r.map (.int .u8))
theorem headP_good {w : World} {l : List Int} {ys : List XP} {q : Int} {r : List Int} {o : Ending} {w' : World} (h : HeadP w l (.inr (ys, q, r)) o w') : GoodP w l ys q r o w' := by
  obtain ⟨hb, h⟩ := h
  rcases h with ⟨e2, h1, h2⟩ | ⟨ys2, q2, r2, h1, L, A, c, v, h2, h3, h4, h5⟩
  · cases h1
  · injection h1 with h1
    injection h1 with h1 h1b
    injection h1b with h1b h1c
    subst h1 h1b h1c
    obtain ⟨B, d, rfl⟩ := own_slice h5
    exact ⟨hb, L, A, c, B, d, h2, h3, h4, h5⟩
/-- What Quote tells, in either way. -/
def QuoP (w : World) (C : Option (List XP × Int × List Int)) (o : Ending) (w' : World) : Prop :=
  Below w.heap.size w w' ∧ ∃ (h : Hs) (AX : Option Addr) (nx cx : Nat) (B : Option Addr) (nr cr : Nat) (f : Int), o = .returned (.tuple #[.agg (h.cells (.slice AX nx cx)), .slice B nr cr, .int .i64 f]) ∧
    match C with
    | none => f = 11
    | some (_, _, r) => f = 0 ∧ nr = r.length ∧ Row w' w'.heap.size B (r.map (.int .u8))
theorem quoP {w : World} {l : List Int} {C : Option (List XP × Int × List Int)} {o : Ending} {w' : World} (h : HeadP w l (ofC C) o w') : QuoP w C o w' := by
  rcases C with _ | ⟨ys, q, r⟩
  · obtain ⟨h1, h2⟩ := headP_fail h
    exact ⟨h2, zeroH, none, 0, 0, none, 0, 0, 11, h1, rfl⟩
  · obtain ⟨h1, L, A, c, B, d, h2, h3, h4, h5⟩ := headP_good h
    exact ⟨h1, _, A, _, c, B, _, d, 0, h2, rfl, rfl, own_row h5⟩
set_option maxHeartbeats 4000000 in
set_option maxRecDepth 100000 in
theorem law_short (A : Option Addr) (n0 n c : Nat) (w : World) (hn5 : n ≤ 500) (hn : n < 40) (HC : Hid (∀ W, Calls Try.prog 10 #[.slice A n0 c] W fun o w' => o = .returned (.slice A n c) ∧ W = w'))
    (HP : Hid (∀ W, Below w.heap.size w W → Calls Try.prog 11 #[.slice A n c] W (FailP W 2))) (HQ : Hid (∀ W, Below w.heap.size w W → Calls Try.prog 12 #[.slice A n c] W (FailP W 2))) :
    Calls Try.prog 3 #[.slice A n0 c] w fun o w' => o = .returned (.bool true) ∧ Below w.heap.size w w' := by
  have t1 : decide ((n : Int) < 40) = true := decide_eq_true (by omega)
  have t1n : decide (n < 40) = true := decide_eq_true (by omega)
  have HSM := Lib.hid (fun V => same_true zeroH none none 0 0 0 [] [] V (rdx_nil V none) (rdx_nil V none) rfl rfl (by omega))
  go_enter Try.func3, Try.ntmps3
  go_wp2_with fail
  refine (HC.out _).mono ?_
  rintro o w' ⟨rfl, rfl⟩
  go_wp2_with fail
  refine (HP.out _ (Below.refl _ _)).mono ?_
  rintro o w1 ⟨rfl, hb1⟩
  obtain ⟨w2, hw2⟩ : ∃ w2, w2 = w1.alloc (.cells #[.int .i64 0, .int .i64 0, .int .i64 0, .bool false, .int .u64 0, .int .u64 0, .bool false, .int .u64 0, .int .u64 0, .slice none 0 0, .int .i64 0] 29) := ⟨_, rfl⟩
  have E2 := Lib.hid hw2
  have B2 := Lib.hid (show Below w.heap.size w w2 from by rw [hw2]; exact hb1.trans ((Below.refl _ _).alloc hb1.size _))
  have K2 := Lib.hid (show Blk w2 w1.heap.size 29 #[.int .i64 0, .int .i64 0, .int .i64 0, .bool false, .int .u64 0, .int .u64 0, .bool false, .int .u64 0, .int .u64 0, .slice none 0 0, .int .i64 0] from by rw [hw2]; exact Blk.new w1 _ _)
  clear hw2 hb1
  go_upto_region 3 with fail
  rw [← E2.out]
  go_wp2_with fail
  refine (HQ.out _ B2.out).mono ?_
  rintro o w3 ⟨rfl, hb3⟩
  obtain ⟨w4, hw4⟩ : ∃ w4, w4 = w3.alloc (.cells #[.int .i64 0, .int .i64 0, .int .i64 0, .bool false, .int .u64 0, .int .u64 0, .bool false, .int .u64 0, .int .u64 0, .slice none 0 0, .int .i64 0] 29) := ⟨_, rfl⟩
  have E4 := Lib.hid hw4
  have K3 := Lib.hid (K2.out.below hb3 K2.out.lt)
  have B3 := Lib.hid (B2.out.trans (hb3.mono B2.out.size))
  have B4 := Lib.hid (show Below w.heap.size w w4 from by rw [hw4]; exact B3.out.alloc B3.out.size _)
  have K4 := Lib.hid (show Blk w4 w1.heap.size 29 #[.int .i64 0, .int .i64 0, .int .i64 0, .bool false, .int .u64 0, .int .u64 0, .bool false, .int .u64 0, .int .u64 0, .slice none 0 0, .int .i64 0] from by rw [hw4]; exact K3.out.below ((Below.refl _ _).alloc (Nat.le_refl _) _) K3.out.lt)
  have K5 := Lib.hid (show Blk w4 w3.heap.size 29 #[.int .i64 0, .int .i64 0, .int .i64 0, .bool false, .int .u64 0, .int .u64 0, .bool false, .int .u64 0, .int .u64 0, .slice none 0 0, .int .i64 0] from by rw [hw4]; exact Blk.new w3 _ _)
  clear hw4 hb3
  go_upto_region 4 with fail
  rw [← E4.out]
  go_upto_region 8 with fail
  have k0 := K4.out.cell 0
  have k1 := K4.out.cell 1
  have k2 := K4.out.cell 2
  have k3 := K4.out.cell 3
  have k4 := K4.out.cell 4
  have k5 := K4.out.cell 5
  have k6 := K4.out.cell 6
  have k7 := K4.out.cell 7
  have k8 := K4.out.cell 8
  have k9 := K4.out.cell 9
  have k10 := K4.out.cell 10
  have j0 := K5.out.cell 0
  have j1 := K5.out.cell 1
  have j2 := K5.out.cell 2
  have j3 := K5.out.cell 3
  have j4 := K5.out.cell 4
  have j5 := K5.out.cell 5
  have j6 := K5.out.cell 6
  have j7 := K5.out.cell 7
  have j8 := K5.out.cell 8
  have j9 := K5.out.cell 9
  have j10 := K5.out.cell 10
  go_wp2_with fail
  refine (HSM.out _).mono ?_
  rintro o w5 ⟨rfl, hb5⟩
  have B5 := Lib.hid (B4.out.trans (hb5.mono B4.out.size))
  have K4b := Lib.hid (K4.out.below hb5 K4.out.lt)
  have K5b := Lib.hid (K5.out.below hb5 K5.out.lt)
  clear hb5 k0 k1 k2 k3 k4 k5 k6 k7 k8 k9 k10 j0 j1 j2 j3 j4 j5 j6 j7 j8 j9 j10
  have k0 := K4b.out.cell 0
  have k1 := K4b.out.cell 1
  have k2 := K4b.out.cell 2
  have k3 := K4b.out.cell 3
  have k4 := K4b.out.cell 4
  have k5 := K4b.out.cell 5
  have k6 := K4b.out.cell 6
  have k7 := K4b.out.cell 7
  have k8 := K4b.out.cell 8
  have k9 := K4b.out.cell 9
  have k10 := K4b.out.cell 10
  have j0 := K5b.out.cell 0
  have j1 := K5b.out.cell 1
  have j2 := K5b.out.cell 2
  have j3 := K5b.out.cell 3
  have j4 := K5b.out.cell 4
  have j5 := K5b.out.cell 5
  have j6 := K5b.out.cell 6
  have j7 := K5b.out.cell 7
  have j8 := K5b.out.cell 8
  have j9 := K5b.out.cell 9
  have j10 := K5b.out.cell 10
  go_wp2_with fail
  refine (HSM.out _).mono ?_
  rintro o w6 ⟨rfl, hb6⟩
  have B6 := Lib.hid (B5.out.trans (hb6.mono B5.out.size))
  clear hb6 k0 k1 k2 k3 k4 k5 k6 k7 k8 k9 k10 j0 j1 j2 j3 j4 j5 j6 j7 j8 j9 j10
  go_wp2_with fail
  refine (awake_any _).mono ?_
  rintro o w7 ⟨rfl, hb7⟩
  have B7 := Lib.hid (B6.out.trans (hb7.mono B6.out.size))
  clear hb7
  go_wp2_with fail
  go_ret
  exact ⟨rfl, B7.out⟩
set_option maxHeartbeats 4000000 in
set_option maxRecDepth 100000 in
theorem law_vers (A : Option Addr) (n0 n c : Nat) (w : World) (hn5 : n ≤ 500) (b off : Nat) (x0 : Int) (hA : A = some ⟨b, off, none⟩) (hn : 40 ≤ n) (hbl : b < w.heap.size) (hx : w.cell? ⟨b, off, none⟩ = some (.int .u8 x0)) (hx0 : 0 ≤ x0 ∧ x0 ≤ 255) (hv : x0 / 16 ≠ 6) (HC : Hid (∀ W, Calls Try.prog 10 #[.slice A n0 c] W fun o w' => o = .returned (.slice A n c) ∧ W = w'))
    (HP : Hid (∀ W, Below w.heap.size w W → Calls Try.prog 11 #[.slice A n c] W (FailP W 10))) (HQ : Hid (∀ W, Below w.heap.size w W → Calls Try.prog 12 #[.slice A n c] W (FailP W 10))) :
    Calls Try.prog 3 #[.slice A n0 c] w fun o w' => o = .returned (.bool true) ∧ Below w.heap.size w w' := by
  subst hA
  have HX := Lib.hid hx
  have HBL := Lib.hid hbl
  have x16 : IntKind.u8.wrap (x0.tdiv 16) = x0 / 16 := by rw [IntKind.wrap_u8', Int.tdiv_eq_ediv_of_nonneg (by omega)]; omega
  have xe : (x0 / 16 != 6) = true := by simpa using hv
  clear hx hbl
  have t1 : decide ((n : Int) < 40) = false := decide_eq_false (by omega)
  have t1n : decide (n < 40) = false := decide_eq_false (by omega)
  have HSM := Lib.hid (fun V => same_true zeroH none none 0 0 0 [] [] V (rdx_nil V none) (rdx_nil V none) rfl rfl (by omega))
  go_enter Try.func3, Try.ntmps3
  go_wp2_with fail
  refine (HC.out _).mono ?_
  rintro o w' ⟨rfl, rfl⟩
  go_wp2_with fail
  refine (HP.out _ (Below.refl _ _)).mono ?_
  rintro o w1 ⟨rfl, hb1⟩
  obtain ⟨w2, hw2⟩ : ∃ w2, w2 = w1.alloc (.cells #[.int .i64 0, .int .i64 0, .int .i64 0, .bool false, .int .u64 0, .int .u64 0, .bool false, .int .u64 0, .int .u64 0, .slice none 0 0, .int .i64 0] 29) := ⟨_, rfl⟩
  have E2 := Lib.hid hw2
  have B2 := Lib.hid (show Below w.heap.size w w2 from by rw [hw2]; exact hb1.trans ((Below.refl _ _).alloc hb1.size _))
  have K2 := Lib.hid (show Blk w2 w1.heap.size 29 #[.int .i64 0, .int .i64 0, .int .i64 0, .bool false, .int .u64 0, .int .u64 0, .bool false, .int .u64 0, .int .u64 0, .slice none 0 0, .int .i64 0] from by rw [hw2]; exact Blk.new w1 _ _)
  clear hw2 hb1
  go_upto_region 3 with fail
  rw [← E2.out]
  go_wp2_with fail
  refine (HQ.out _ B2.out).mono ?_
  rintro o w3 ⟨rfl, hb3⟩
  obtain ⟨w4, hw4⟩ : ∃ w4, w4 = w3.alloc (.cells #[.int .i64 0, .int .i64 0, .int .i64 0, .bool false, .int .u64 0, .int .u64 0, .bool false, .int .u64 0, .int .u64 0, .slice none 0 0, .int .i64 0] 29) := ⟨_, rfl⟩
  have E4 := Lib.hid hw4
  have K3 := Lib.hid (K2.out.below hb3 K2.out.lt)
  have B3 := Lib.hid (B2.out.trans (hb3.mono B2.out.size))
  have B4 := Lib.hid (show Below w.heap.size w w4 from by rw [hw4]; exact B3.out.alloc B3.out.size _)
  have K4 := Lib.hid (show Blk w4 w1.heap.size 29 #[.int .i64 0, .int .i64 0, .int .i64 0, .bool false, .int .u64 0, .int .u64 0, .bool false, .int .u64 0, .int .u64 0, .slice none 0 0, .int .i64 0] from by rw [hw4]; exact K3.out.below ((Below.refl _ _).alloc (Nat.le_refl _) _) K3.out.lt)
  have K5 := Lib.hid (show Blk w4 w3.heap.size 29 #[.int .i64 0, .int .i64 0, .int .i64 0, .bool false, .int .u64 0, .int .u64 0, .bool false, .int .u64 0, .int .u64 0, .slice none 0 0, .int .i64 0] from by rw [hw4]; exact Blk.new w3 _ _)
  clear hw4 hb3
  go_upto_region 4 with fail
  rw [← E4.out]
  have y0 : w4.cell? ⟨b, off, none⟩ = some (.int .u8 x0) := (B4.out.cell (p := ⟨b, off, none⟩) HBL.out).trans HX.out
  go_upto_region 8 with fail
  have k0 := K4.out.cell 0
  have k1 := K4.out.cell 1
  have k2 := K4.out.cell 2
  have k3 := K4.out.cell 3
  have k4 := K4.out.cell 4
  have k5 := K4.out.cell 5
  have k6 := K4.out.cell 6
  have k7 := K4.out.cell 7
  have k8 := K4.out.cell 8
  have k9 := K4.out.cell 9
  have k10 := K4.out.cell 10
  have j0 := K5.out.cell 0
  have j1 := K5.out.cell 1
  have j2 := K5.out.cell 2
  have j3 := K5.out.cell 3
  have j4 := K5.out.cell 4
  have j5 := K5.out.cell 5
  have j6 := K5.out.cell 6
  have j7 := K5.out.cell 7
  have j8 := K5.out.cell 8
  have j9 := K5.out.cell 9
  have j10 := K5.out.cell 10
  go_wp2_with fail
  refine (HSM.out _).mono ?_
  rintro o w5 ⟨rfl, hb5⟩
  have B5 := Lib.hid (B4.out.trans (hb5.mono B4.out.size))
  have K4b := Lib.hid (K4.out.below hb5 K4.out.lt)
  have K5b := Lib.hid (K5.out.below hb5 K5.out.lt)
  clear hb5 k0 k1 k2 k3 k4 k5 k6 k7 k8 k9 k10 j0 j1 j2 j3 j4 j5 j6 j7 j8 j9 j10
  have k0 := K4b.out.cell 0
  have k1 := K4b.out.cell 1
  have k2 := K4b.out.cell 2
  have k3 := K4b.out.cell 3
  have k4 := K4b.out.cell 4
  have k5 := K4b.out.cell 5
  have k6 := K4b.out.cell 6
  have k7 := K4b.out.cell 7
  have k8 := K4b.out.cell 8
  have k9 := K4b.out.cell 9
  have k10 := K4b.out.cell 10
  have j0 := K5b.out.cell 0
  have j1 := K5b.out.cell 1
  have j2 := K5b.out.cell 2
  have j3 := K5b.out.cell 3
  have j4 := K5b.out.cell 4
  have j5 := K5b.out.cell 5
  have j6 := K5b.out.cell 6
  have j7 := K5b.out.cell 7
  have j8 := K5b.out.cell 8
  have j9 := K5b.out.cell 9
  have j10 := K5b.out.cell 10
  go_wp2_with fail
  refine (HSM.out _).mono ?_
  rintro o w6 ⟨rfl, hb6⟩
  have B6 := Lib.hid (B5.out.trans (hb6.mono B5.out.size))
  clear hb6 k0 k1 k2 k3 k4 k5 k6 k7 k8 k9 k10 j0 j1 j2 j3 j4 j5 j6 j7 j8 j9 j10
  go_wp2_with fail
  refine (awake_any _).mono ?_
  rintro o w7 ⟨rfl, hb7⟩
  have B7 := Lib.hid (B6.out.trans (hb7.mono B6.out.size))
  clear hb7
  go_wp2_with fail
  go_ret
  exact ⟨rfl, B7.out⟩
end Go.Proofs.Ytndekicblbpkjaa.sixS
