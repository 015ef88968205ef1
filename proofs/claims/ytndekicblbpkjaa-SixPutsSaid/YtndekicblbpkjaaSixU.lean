/- Layer 9: the law SixParses where a header begins. -/
import Derived.Test.YtndekicblbpkjaaSixT
import Derived.Deep.RegionHeld3
import Derived.Deep.DeepCutAuto
namespace Go.Proofs.Ytndekicblbpkjaa.sixU
open Go.ChangeShapes Go.WideShapes Go.ChangeAt Go.RowKit
open Go.Proofs.Ytndekicblbpkjaa.base Go.Proofs.Ytndekicblbpkjaa.octA Go.Proofs.Ytndekicblbpkjaa.octB Go.Proofs.Ytndekicblbpkjaa.octC Go.Proofs.Ytndekicblbpkjaa.octF Go.Proofs.Ytndekicblbpkjaa.octK Go.Proofs.Ytndekicblbpkjaa.net Go.Proofs.Ytndekicblbpkjaa.rdrA Go.Proofs.Ytndekicblbpkjaa.rdrG Go.Proofs.Ytndekicblbpkjaa.sumA Go.Proofs.Ytndekicblbpkjaa.sumB Go.Proofs.Ytndekicblbpkjaa.udpA Go.Proofs.Ytndekicblbpkjaa.tcpC Go.Proofs.Ytndekicblbpkjaa.sixW Go.Proofs.Ytndekicblbpkjaa.sixM Go.Proofs.Ytndekicblbpkjaa.snK Go.Proofs.Ytndekicblbpkjaa.sixA Go.Proofs.Ytndekicblbpkjaa.sixB Go.Proofs.Ytndekicblbpkjaa.sixC Go.Proofs.Ytndekicblbpkjaa.sixD Go.Proofs.Ytndekicblbpkjaa.sixE Go.Proofs.Ytndekicblbpkjaa.sixF Go.Proofs.Ytndekicblbpkjaa.sixG Go.Proofs.Ytndekicblbpkjaa.sixH Go.Proofs.Ytndekicblbpkjaa.sixI Go.Proofs.Ytndekicblbpkjaa.sixK Go.Proofs.Ytndekicblbpkjaa.sixL Go.Proofs.Ytndekicblbpkjaa.sixN Go.Proofs.Ytndekicblbpkjaa.sixO Go.Proofs.Ytndekicblbpkjaa.sixQ Go.Proofs.Ytndekicblbpkjaa.sixR Go.Proofs.Ytndekicblbpkjaa.sixS Go.Proofs.Ytndekicblbpkjaa.sixT
set_option linter.unusedVariables false

theorem range_blk {W : World} {g : Nat} {t : TypeId} {cs : Array Value} (h : Blk W g t cs) : W.rangeAt g 0 cs.toList := fun j v hv => by
  rw [h.cell, Nat.zero_add]
  simpa using hv
theorem own_sliceLe {w : World} {B e s n c : Nat} {A : Option Addr} {m : Nat} {xs : List Value} (h : w.ownsRow B e s (.slice A n c) m xs) : n ≤ c := by
  rcases h.2 with ⟨hv, h0⟩ | ⟨g, cap, cur, hv, hb, hg, hnc, _⟩
  · injection hv with h1 h2 h3
    omega
  · injection hv with h1 h2 h3
    omega
theorem le2047 {l : List XP} (h : RightE l) (x : XP) (hx : x ∈ l) : x.2.length ≤ 2047 := by
  obtain ⟨i, hi, rfl⟩ := List.getElem_of_mem hx
  have := h.each i hi
  unfold rightX at this
  simp only [Bool.and_eq_true, decide_eq_true_eq] at this
  exact this.1.2.1
theorem chnP_none {w : World} {o : Ending} {w' : World} (h : ChnP w none o w') : Below w.heap.size w w' ∧ o = .returned (.tuple #[.slice none 0 0, .int .i64 0, .slice none 0 0, .bool false]) := h
theorem chnP_some {w : World} {o : Ending} {w' : World} {ys : List XP} {q : Int} {r : List Int} (h : ChnP w (some (ys, q, r)) o w') : Below w.heap.size w w' ∧ ∃ Ax cx Ar cr, o = .returned (.tuple #[.slice Ax ys.length cx, .int .i64 q, .slice Ar r.length cr, .bool true]) ∧ Row w' w'.heap.size Ar (r.map (.int .u8)) ∧ r.length ≤ cr ∧ cr ≤ 9223372036854775807 ∧ (Ar = none → cr = 0) := h
set_option maxHeartbeats 8000000 in
set_option maxRecDepth 100000 in
theorem law_n_len (b off n0 n c : Nat) (AX : Option Addr) (l : List Int) (w : World) (hn5 : n ≤ 500) (hn : 40 ≤ n) (hnc : n ≤ c) (hc : c ≤ 9223372036854775807) (hbl : b < w.heap.size) (hs : Lies w b off l) (hu : U8 l) (hl : l.length = n) (hv : l.getD 0 0 / 16 = 6) (hz : n - 40 < sizeP l)
    (HC : Hid (∀ W, Calls Try.prog 10 #[.slice (some ⟨b, off, none⟩) n0 c] W fun o w' => o = .returned (.slice (some ⟨b, off, none⟩) n c) ∧ W = w'))
    (HP : Hid (∀ W, Below w.heap.size w W → Calls Try.prog 11 #[.slice (some ⟨b, off, none⟩) n c] W (FailP W 12))) (HQ : Hid (∀ W, Below w.heap.size w W → Calls Try.prog 12 #[.slice (some ⟨b, off, none⟩) n c] W (QuoP W none)))
    (HC1 : Hid (∀ W, Below w.heap.size w W → Calls Try.prog 15 #[.int .i64 (l.getD 6 0), .slice AX (n - 40) (c - 40)] W (ChnP W none)))
    (HS1 : Hid ((∀ W : World, (Instr.slice 22 (.slice (some ⟨b, off, none⟩) n c) (some (.int .i64 40)) none none).run Try.prog W = .ok (.slice AX (n - 40) (c - 40)) W) ∧ (∀ W : World, (Instr.sliceAt 22 (.slice (some ⟨b, off, none⟩) n c) (some (.int .i64 40)) none none).run Try.prog W = .ok (.slice AX (n - 40) (c - 40)) W))) :
    Calls Try.prog 3 #[.slice (some ⟨b, off, none⟩) n0 c] w fun o w' => o = .returned (.bool true) ∧ Below w.heap.size w w' := by
  have HL := Lib.hid hl
  have HBL := Lib.hid hbl
  have HX := Lib.hid hs
  obtain ⟨sz, hsz⟩ : ∃ sz, sz = sizeP l := ⟨_, rfl⟩
  obtain ⟨x0, e0⟩ : ∃ x, x = l.getD 0 0 := ⟨_, rfl⟩
  obtain ⟨x4, e4⟩ : ∃ x, x = l.getD 4 0 := ⟨_, rfl⟩
  obtain ⟨x5, e5⟩ : ∃ x, x = l.getD 5 0 := ⟨_, rfl⟩
  obtain ⟨x6, e6⟩ : ∃ x, x = l.getD 6 0 := ⟨_, rfl⟩
  have b0 := hu.get 0; have b4 := hu.get 4; have b5 := hu.get 5; have b6 := hu.get 6
  rw [← e0] at b0 hv
  rw [← e4] at b4
  rw [← e5] at b5
  rw [← e6] at b6 HC1
  have hsz5 : (sz : Int) = 256 * x4 + x5 := by rw [hsz, e4, e5]; unfold sizeP; have := hu.get 4; have := hu.get 5; omega
  rw [← hsz] at hz
  have HLI := Lib.hid (show ∀ W, Below w.heap.size w W → W.cell? ⟨b, off, none⟩ = some (.int .u8 x0) ∧ W.cell? ⟨b, off + 4, none⟩ = some (.int .u8 x4) ∧ W.cell? ⟨b, off + 5, none⟩ = some (.int .u8 x5) ∧ W.cell? ⟨b, off + 6, none⟩ = some (.int .u8 x6) from fun W hW => by
    have h9 := hs.below hW hbl
    rw [e0, e4, e5, e6]
    exact ⟨h9 0 (by omega), h9 4 (by omega), h9 5 (by omega), h9 6 (by omega)⟩)
  have x16 : IntKind.u8.wrap (x0.tdiv 16) = x0 / 16 := by rw [IntKind.wrap_u8', Int.tdiv_eq_ediv_of_nonneg (by omega)]; omega
  have xe : (x0 / 16 != 6) = false := by simpa using hv
  have t1 : decide ((n : Int) < 40) = false := decide_eq_false (by omega)
  have t1n : decide (n < 40) = false := decide_eq_false (by omega)
  have w6 : IntKind.i64.wrap x6 = x6 := IntWalk.i64_in _ (by omega)
  have w4_ : IntKind.i64.wrap x4 = x4 := IntWalk.i64_in _ (by omega)
  have w5_ : IntKind.i64.wrap x5 = x5 := IntWalk.i64_in _ (by omega)
  have w45 : IntKind.i64.wrap (256 * x4) = 256 * x4 := IntWalk.i64_in _ (by omega)
  have w46 : IntKind.i64.wrap (256 * x4 + x5) = (sz : Int) := by rw [IntWalk.i64_in _ (by omega)]; omega
  have wn : IntKind.i64.wrap ((n : Int) - 40) = ((n - 40 : Nat) : Int) := by rw [IntWalk.i64_in _ (by omega)]; omega
  have n4 : 4 < n := by omega
  have n5 : 5 < n := by omega
  have n6 : 6 < n := by omega
  have m4 : (4 : Int) < n := by omega
  have m5 : (5 : Int) < n := by omega
  have m6 : (6 : Int) < n := by omega
  obtain ⟨r1, r2⟩ := HS1.out
  have HSZ := Lib.hid hsz5
  have sz6 : sz ≤ 65535 := by omega
  clear hs hu hl e0 e4 e5 e6 hsz hbl hsz5
  go_enter Try.func3, Try.ntmps3
  go_wp2_with fail
  refine (HC.out _).mono ?_
  rintro o w' ⟨rfl, rfl⟩
  go_wp2_with fail
  refine (HP.out _ (Below.refl _ _)).mono ?_
  rintro o w1 ⟨rfl, hb1⟩
  obtain ⟨w2, hw2⟩ : ∃ w2, w2 = w1.alloc (.cells #[.int .i64 0, .int .i64 0, .int .i64 0, .bool false, .int .u64 0, .int .u64 0, .bool false, .int .u64 0, .int .u64 0, .slice none 0 0, .int .i64 0] 29) := ⟨_, rfl⟩
  have K2 := Lib.hid (show Blk w2 w1.heap.size 29 #[.int .i64 0, .int .i64 0, .int .i64 0, .bool false, .int .u64 0, .int .u64 0, .bool false, .int .u64 0, .int .u64 0, .slice none 0 0, .int .i64 0] from by rw [hw2]; exact Blk.new w1 _ _)
  have E2 := Lib.hid hw2
  have B2 := Lib.hid (show Below w.heap.size w w2 from by rw [hw2]; exact hb1.trans ((Below.refl _ _).alloc hb1.size _))
  have BZ2 := Lib.hid (show Below w1.heap.size w1 w2 from by rw [hw2]; exact (Below.refl _ _).alloc (Nat.le_refl _) _)
  clear hw2 hb1
  go_upto_region 3 with fail
  rw [← E2.out]
  go_wp2_with fail
  refine (HQ.out _ B2.out).mono ?_
  rintro o w3 ⟨hb3, hq, AQ, nq, cq, BQ, nr, cr, f, rfl, hf⟩
  obtain ⟨qcls, qlab, qhop, qs6, qsh, qsl, qd6, qdh, qdl, qp⟩ := hq
  simp only [Hs.cells]
  obtain rfl : f = 11 := hf
  obtain ⟨w4, hw4⟩ : ∃ w4, w4 = w3.alloc (.cells #[.int .i64 qcls, .int .i64 qlab, .int .i64 qhop, .bool qs6, .int .u64 qsh, .int .u64 qsl, .bool qd6, .int .u64 qdh, .int .u64 qdl, .slice AQ nq cq, .int .i64 qp] 29) := ⟨_, rfl⟩
  have E4 := Lib.hid hw4
  have K3 := Lib.hid (K2.out.below hb3 K2.out.lt)
  have B3 := Lib.hid (B2.out.trans (hb3.mono B2.out.size))
  have B34 := Lib.hid (show Below w3.heap.size w3 w4 from by rw [hw4]; exact (Below.refl _ _).alloc (Nat.le_refl _) _)
  have BZ4 := Lib.hid ((BZ2.out.trans (hb3.mono BZ2.out.size)).trans (B34.out.mono (Nat.le_trans BZ2.out.size hb3.size)))
  have B4 := Lib.hid (B3.out.trans (B34.out.mono B3.out.size))
  have K4 := Lib.hid (K3.out.below B34.out K3.out.lt)
  clear hw4 hb3
  go_upto_region 4 with fail
  rw [← E4.out]
  obtain ⟨y0, y4, y5, y6⟩ := HLI.out w4 B4.out
  go_upto_region 9 with fail
  have D4 := Lib.hid (HLI.out w4.drew B4.out.drew)
  go_region_held3 (fun W => W.cell? ⟨b, off, none⟩ = some (.int .u8 x0) ∧ W.cell? ⟨b, off + 4, none⟩ = some (.int .u8 x4) ∧ W.cell? ⟨b, off + 5, none⟩ = some (.int .u8 x5) ∧ W.cell? ⟨b, off + 6, none⟩ = some (.int .u8 x6)) (first | with_reducible assumption | with_reducible exact D5.out | with_reducible exact D4.out) (first
    | (go_at_call 15; with_reducible refine (HC1.out _ B4.out.drew).mono ?_; rintro o w5 hch; obtain ⟨hb5, rfl⟩ := chnP_none hch; have B5 := Lib.hid (B4.out.drew.trans (hb5.mono B4.out.drew.size)); have D5 := Lib.hid (HLI.out w5 B5.out)))
  clear y0 y4 y5 y6 D4 D5
  have K5 := Lib.hid (K4.out.below (((Below.refl _ _).drew).trans (hb5.mono (Nat.le_refl _))) K4.out.lt)
  have BZ5 := Lib.hid (BZ4.out.drew.trans (hb5.mono BZ4.out.drew.size))
  clear hb5
  obtain ⟨y0, y4, y5, y6⟩ := HLI.out w5 B5.out
  obtain ⟨z0, z4, z5, z6⟩ := HLI.out w5.drew B5.out.drew
  have t13 : decide (((n - 40 : Nat) : Int) < (sz : Int)) = true := decide_eq_true (by omega)
  have t13n : decide (n - 40 < sz) = true := decide_eq_true (by omega)
  go_upto_region 12 with fail
  have D6 := Lib.hid (HLI.out w5.drew B5.out.drew)
  go_region_held3 (fun W => W.cell? ⟨b, off, none⟩ = some (.int .u8 x0) ∧ W.cell? ⟨b, off + 4, none⟩ = some (.int .u8 x4) ∧ W.cell? ⟨b, off + 5, none⟩ = some (.int .u8 x5) ∧ W.cell? ⟨b, off + 6, none⟩ = some (.int .u8 x6)) (first | with_reducible assumption | with_reducible exact D6.out) (first | fail)
  have HSM := Lib.hid (fun V => same_true zeroH none none 0 0 0 [] [] V (rdx_nil V none) (rdx_nil V none) rfl rfl (by omega))
  go_upto_region 14 with fail
  clear y0 y4 y5 y6 z0 z4 z5 z6
  have KD := Lib.hid (K5.out.below ((Below.refl _ _).drew) K5.out.lt)
  have k0 := KD.out.cell 0
  have k1 := KD.out.cell 1
  have k2 := KD.out.cell 2
  have k3 := KD.out.cell 3
  have k4 := KD.out.cell 4
  have k5 := KD.out.cell 5
  have k6 := KD.out.cell 6
  have k7 := KD.out.cell 7
  have k8 := KD.out.cell 8
  have k9 := KD.out.cell 9
  have k10 := KD.out.cell 10
  go_wp2_with fail
  refine (HSM.out _).mono ?_
  rintro o w6 ⟨rfl, hb6⟩
  have B6 := Lib.hid (B5.out.drew.trans (hb6.mono B5.out.drew.size))
  clear hb6 k0 k1 k2 k3 k4 k5 k6 k7 k8 k9 k10
  go_wp2_with fail
  refine (awake_any _).mono ?_
  rintro o w7 ⟨rfl, hb7⟩
  have B7 := Lib.hid (B6.out.trans (hb7.mono B6.out.size))
  clear hb7
  go_wp2_with fail
  go_ret
  exact ⟨rfl, B7.out⟩
set_option maxHeartbeats 8000000 in
set_option maxRecDepth 100000 in
theorem law_y_len (b off n0 n c : Nat) (AX : Option Addr) (l : List Int) (yq : List XP) (qq : Int) (rq : List Int) (w : World) (hn5 : n ≤ 500) (hn : 40 ≤ n) (hnc : n ≤ c) (hc : c ≤ 9223372036854775807) (hbl : b < w.heap.size) (hs : Lies w b off l) (hu : U8 l) (hl : l.length = n) (hv : l.getD 0 0 / 16 = 6) (hz : n - 40 < sizeP l)
    (HC : Hid (∀ W, Calls Try.prog 10 #[.slice (some ⟨b, off, none⟩) n0 c] W fun o w' => o = .returned (.slice (some ⟨b, off, none⟩) n c) ∧ W = w'))
    (HP : Hid (∀ W, Below w.heap.size w W → Calls Try.prog 11 #[.slice (some ⟨b, off, none⟩) n c] W (FailP W 12))) (HQ : Hid (∀ W, Below w.heap.size w W → Calls Try.prog 12 #[.slice (some ⟨b, off, none⟩) n c] W (QuoP W (some (yq, qq, rq)))))
    (HC1 : Hid (∀ W, Below w.heap.size w W → Calls Try.prog 15 #[.int .i64 (l.getD 6 0), .slice AX (n - 40) (c - 40)] W (ChnP W (some (yq, qq, rq)))))
    (HS1 : Hid ((∀ W : World, (Instr.slice 22 (.slice (some ⟨b, off, none⟩) n c) (some (.int .i64 40)) none none).run Try.prog W = .ok (.slice AX (n - 40) (c - 40)) W) ∧ (∀ W : World, (Instr.sliceAt 22 (.slice (some ⟨b, off, none⟩) n c) (some (.int .i64 40)) none none).run Try.prog W = .ok (.slice AX (n - 40) (c - 40)) W))) :
    Calls Try.prog 3 #[.slice (some ⟨b, off, none⟩) n0 c] w fun o w' => o = .returned (.bool true) ∧ Below w.heap.size w w' := by
  have HL := Lib.hid hl
  have HBL := Lib.hid hbl
  have HX := Lib.hid hs
  obtain ⟨sz, hsz⟩ : ∃ sz, sz = sizeP l := ⟨_, rfl⟩
  obtain ⟨x0, e0⟩ : ∃ x, x = l.getD 0 0 := ⟨_, rfl⟩
  obtain ⟨x4, e4⟩ : ∃ x, x = l.getD 4 0 := ⟨_, rfl⟩
  obtain ⟨x5, e5⟩ : ∃ x, x = l.getD 5 0 := ⟨_, rfl⟩
  obtain ⟨x6, e6⟩ : ∃ x, x = l.getD 6 0 := ⟨_, rfl⟩
  have b0 := hu.get 0; have b4 := hu.get 4; have b5 := hu.get 5; have b6 := hu.get 6
  rw [← e0] at b0 hv
  rw [← e4] at b4
  rw [← e5] at b5
  rw [← e6] at b6 HC1
  have hsz5 : (sz : Int) = 256 * x4 + x5 := by rw [hsz, e4, e5]; unfold sizeP; have := hu.get 4; have := hu.get 5; omega
  rw [← hsz] at hz
  have HLI := Lib.hid (show ∀ W, Below w.heap.size w W → W.cell? ⟨b, off, none⟩ = some (.int .u8 x0) ∧ W.cell? ⟨b, off + 4, none⟩ = some (.int .u8 x4) ∧ W.cell? ⟨b, off + 5, none⟩ = some (.int .u8 x5) ∧ W.cell? ⟨b, off + 6, none⟩ = some (.int .u8 x6) from fun W hW => by
    have h9 := hs.below hW hbl
    rw [e0, e4, e5, e6]
    exact ⟨h9 0 (by omega), h9 4 (by omega), h9 5 (by omega), h9 6 (by omega)⟩)
  have x16 : IntKind.u8.wrap (x0.tdiv 16) = x0 / 16 := by rw [IntKind.wrap_u8', Int.tdiv_eq_ediv_of_nonneg (by omega)]; omega
  have xe : (x0 / 16 != 6) = false := by simpa using hv
  have t1 : decide ((n : Int) < 40) = false := decide_eq_false (by omega)
  have t1n : decide (n < 40) = false := decide_eq_false (by omega)
  have w6 : IntKind.i64.wrap x6 = x6 := IntWalk.i64_in _ (by omega)
  have w4_ : IntKind.i64.wrap x4 = x4 := IntWalk.i64_in _ (by omega)
  have w5_ : IntKind.i64.wrap x5 = x5 := IntWalk.i64_in _ (by omega)
  have w45 : IntKind.i64.wrap (256 * x4) = 256 * x4 := IntWalk.i64_in _ (by omega)
  have w46 : IntKind.i64.wrap (256 * x4 + x5) = (sz : Int) := by rw [IntWalk.i64_in _ (by omega)]; omega
  have wn : IntKind.i64.wrap ((n : Int) - 40) = ((n - 40 : Nat) : Int) := by rw [IntWalk.i64_in _ (by omega)]; omega
  have n4 : 4 < n := by omega
  have n5 : 5 < n := by omega
  have n6 : 6 < n := by omega
  have m4 : (4 : Int) < n := by omega
  have m5 : (5 : Int) < n := by omega
  have m6 : (6 : Int) < n := by omega
  obtain ⟨r1, r2⟩ := HS1.out
  have HSZ := Lib.hid hsz5
  have sz6 : sz ≤ 65535 := by omega
  clear hs hu hl e0 e4 e5 e6 hsz hbl hsz5
  go_enter Try.func3, Try.ntmps3
  go_wp2_with fail
  refine (HC.out _).mono ?_
  rintro o w' ⟨rfl, rfl⟩
  go_wp2_with fail
  refine (HP.out _ (Below.refl _ _)).mono ?_
  rintro o w1 ⟨rfl, hb1⟩
  obtain ⟨w2, hw2⟩ : ∃ w2, w2 = w1.alloc (.cells #[.int .i64 0, .int .i64 0, .int .i64 0, .bool false, .int .u64 0, .int .u64 0, .bool false, .int .u64 0, .int .u64 0, .slice none 0 0, .int .i64 0] 29) := ⟨_, rfl⟩
  have K2 := Lib.hid (show Blk w2 w1.heap.size 29 #[.int .i64 0, .int .i64 0, .int .i64 0, .bool false, .int .u64 0, .int .u64 0, .bool false, .int .u64 0, .int .u64 0, .slice none 0 0, .int .i64 0] from by rw [hw2]; exact Blk.new w1 _ _)
  have E2 := Lib.hid hw2
  have B2 := Lib.hid (show Below w.heap.size w w2 from by rw [hw2]; exact hb1.trans ((Below.refl _ _).alloc hb1.size _))
  have BZ2 := Lib.hid (show Below w1.heap.size w1 w2 from by rw [hw2]; exact (Below.refl _ _).alloc (Nat.le_refl _) _)
  clear hw2 hb1
  go_upto_region 3 with fail
  rw [← E2.out]
  go_wp2_with fail
  refine (HQ.out _ B2.out).mono ?_
  rintro o w3 ⟨hb3, hq, AQ, nq, cq, BQ, nr, cr, f, rfl, hf⟩
  obtain ⟨qcls, qlab, qhop, qs6, qsh, qsl, qd6, qdh, qdl, qp⟩ := hq
  simp only [Hs.cells]
  obtain ⟨hf0, hnr, hfr⟩ := hf
  subst hf0
  have HNR := Lib.hid hnr
  have HFR := Lib.hid hfr
  clear hnr hfr
  obtain ⟨w4, hw4⟩ : ∃ w4, w4 = w3.alloc (.cells #[.int .i64 qcls, .int .i64 qlab, .int .i64 qhop, .bool qs6, .int .u64 qsh, .int .u64 qsl, .bool qd6, .int .u64 qdh, .int .u64 qdl, .slice AQ nq cq, .int .i64 qp] 29) := ⟨_, rfl⟩
  have E4 := Lib.hid hw4
  have K3 := Lib.hid (K2.out.below hb3 K2.out.lt)
  have B3 := Lib.hid (B2.out.trans (hb3.mono B2.out.size))
  have B34 := Lib.hid (show Below w3.heap.size w3 w4 from by rw [hw4]; exact (Below.refl _ _).alloc (Nat.le_refl _) _)
  have BZ4 := Lib.hid ((BZ2.out.trans (hb3.mono BZ2.out.size)).trans (B34.out.mono (Nat.le_trans BZ2.out.size hb3.size)))
  have B4 := Lib.hid (B3.out.trans (B34.out.mono B3.out.size))
  have K4 := Lib.hid (K3.out.below B34.out K3.out.lt)
  clear hw4 hb3
  go_upto_region 4 with fail
  rw [← E4.out]
  obtain ⟨y0, y4, y5, y6⟩ := HLI.out w4 B4.out
  go_upto_region 9 with fail
  have D4 := Lib.hid (HLI.out w4.drew B4.out.drew)
  go_region_held3 (fun W => W.cell? ⟨b, off, none⟩ = some (.int .u8 x0) ∧ W.cell? ⟨b, off + 4, none⟩ = some (.int .u8 x4) ∧ W.cell? ⟨b, off + 5, none⟩ = some (.int .u8 x5) ∧ W.cell? ⟨b, off + 6, none⟩ = some (.int .u8 x6)) (first | with_reducible assumption | with_reducible exact D5.out | with_reducible exact D4.out) (first
    | (go_at_call 15; with_reducible refine (HC1.out _ B4.out.drew).mono ?_; rintro o w5 hch; obtain ⟨hb5, A1, c1, A2, c2, rfl, hr1, hr2, hr3, hr4⟩ := chnP_some hch; have B5 := Lib.hid (B4.out.drew.trans (hb5.mono B4.out.drew.size)); have D5 := Lib.hid (HLI.out w5 B5.out)))
  clear y0 y4 y5 y6 D4 D5
  have K5 := Lib.hid (K4.out.below (((Below.refl _ _).drew).trans (hb5.mono (Nat.le_refl _))) K4.out.lt)
  obtain ⟨TQ, hTQ⟩ : ∃ TQ, TQ = strOfNums rq := ⟨_, rfl⟩
  have cv2 := conv_row (c := c2) hr1 rfl
  have cv1 := conv_row (c := cr) ((HFR.out.below ((B34.out.drew.trans (hb5.mono B34.out.drew.size)))).more (Nat.le_trans B34.out.size hb5.size)) HNR.out.symm
  rw [← hTQ] at cv1 cv2
  clear hTQ hr1 hr2 hr3 hr4
  have BZ5 := Lib.hid (BZ4.out.drew.trans (hb5.mono BZ4.out.drew.size))
  clear hb5
  obtain ⟨y0, y4, y5, y6⟩ := HLI.out w5 B5.out
  obtain ⟨z0, z4, z5, z6⟩ := HLI.out w5.drew B5.out.drew
  have t13 : decide (((n - 40 : Nat) : Int) < (sz : Int)) = true := decide_eq_true (by omega)
  have t13n : decide (n - 40 < sz) = true := decide_eq_true (by omega)
  go_upto_region 12 with fail
  have D6 := Lib.hid (HLI.out w5.drew B5.out.drew)
  go_region_held3 (fun W => W.cell? ⟨b, off, none⟩ = some (.int .u8 x0) ∧ W.cell? ⟨b, off + 4, none⟩ = some (.int .u8 x4) ∧ W.cell? ⟨b, off + 5, none⟩ = some (.int .u8 x5) ∧ W.cell? ⟨b, off + 6, none⟩ = some (.int .u8 x6)) (first | with_reducible assumption | with_reducible exact D6.out) (first | fail)
  have HSM := Lib.hid (fun V => same_true zeroH none none 0 0 0 [] [] V (rdx_nil V none) (rdx_nil V none) rfl rfl (by omega))
  go_upto_region 14 with fail
  clear y0 y4 y5 y6 z0 z4 z5 z6
  have KD := Lib.hid (K5.out.below ((Below.refl _ _).drew) K5.out.lt)
  have k0 := KD.out.cell 0
  have k1 := KD.out.cell 1
  have k2 := KD.out.cell 2
  have k3 := KD.out.cell 3
  have k4 := KD.out.cell 4
  have k5 := KD.out.cell 5
  have k6 := KD.out.cell 6
  have k7 := KD.out.cell 7
  have k8 := KD.out.cell 8
  have k9 := KD.out.cell 9
  have k10 := KD.out.cell 10
  go_wp2_with fail
  refine (HSM.out _).mono ?_
  rintro o w6 ⟨rfl, hb6⟩
  have B6 := Lib.hid (B5.out.drew.trans (hb6.mono B5.out.drew.size))
  clear hb6 k0 k1 k2 k3 k4 k5 k6 k7 k8 k9 k10
  go_wp2_with fail
  refine (awake_any _).mono ?_
  rintro o w7 ⟨rfl, hb7⟩
  have B7 := Lib.hid (B6.out.trans (hb7.mono B6.out.size))
  clear hb7
  go_wp2_with fail
  go_ret
  exact ⟨rfl, B7.out⟩
set_option maxHeartbeats 8000000 in
set_option maxRecDepth 100000 in
theorem law_n_hdr (b off n0 n c : Nat) (AX : Option Addr) (AY : Option Addr) (l : List Int) (w : World) (hn5 : n ≤ 500) (hn : 40 ≤ n) (hnc : n ≤ c) (hc : c ≤ 9223372036854775807) (hbl : b < w.heap.size) (hs : Lies w b off l) (hu : U8 l) (hl : l.length = n) (hv : l.getD 0 0 / 16 = 6) (hz : sizeP l ≤ n - 40)
    (HC : Hid (∀ W, Calls Try.prog 10 #[.slice (some ⟨b, off, none⟩) n0 c] W fun o w' => o = .returned (.slice (some ⟨b, off, none⟩) n c) ∧ W = w'))
    (HP : Hid (∀ W, Below w.heap.size w W → Calls Try.prog 11 #[.slice (some ⟨b, off, none⟩) n c] W (FailP W 11))) (HQ : Hid (∀ W, Below w.heap.size w W → Calls Try.prog 12 #[.slice (some ⟨b, off, none⟩) n c] W (QuoP W none)))
    (HC1 : Hid (∀ W, Below w.heap.size w W → Calls Try.prog 15 #[.int .i64 (l.getD 6 0), .slice AX (n - 40) (c - 40)] W (ChnP W none)))
    (HS1 : Hid ((∀ W : World, (Instr.slice 22 (.slice (some ⟨b, off, none⟩) n c) (some (.int .i64 40)) none none).run Try.prog W = .ok (.slice AX (n - 40) (c - 40)) W) ∧ (∀ W : World, (Instr.sliceAt 22 (.slice (some ⟨b, off, none⟩) n c) (some (.int .i64 40)) none none).run Try.prog W = .ok (.slice AX (n - 40) (c - 40)) W)))
    (HC2 : Hid (∀ W, Below w.heap.size w W → Calls Try.prog 15 #[.int .i64 (l.getD 6 0), .slice AY (sizeP l) (c - 40)] W (ChnP W none)))
    (HS2 : Hid ((∀ W : World, (Instr.slice 22 (.slice (some ⟨b, off, none⟩) n c) (some (.int .i64 40)) (some (.int .i64 (40 + (sizeP l : Int)))) none).run Try.prog W = .ok (.slice AY (sizeP l) (c - 40)) W) ∧ (∀ W : World, (Instr.sliceAt 22 (.slice (some ⟨b, off, none⟩) n c) (some (.int .i64 40)) (some (.int .i64 (40 + (sizeP l : Int)))) none).run Try.prog W = .ok (.slice AY (sizeP l) (c - 40)) W))) :
    Calls Try.prog 3 #[.slice (some ⟨b, off, none⟩) n0 c] w fun o w' => o = .returned (.bool true) ∧ Below w.heap.size w w' := by
  have HL := Lib.hid hl
  have HBL := Lib.hid hbl
  have HX := Lib.hid hs
  obtain ⟨sz, hsz⟩ : ∃ sz, sz = sizeP l := ⟨_, rfl⟩
  obtain ⟨x0, e0⟩ : ∃ x, x = l.getD 0 0 := ⟨_, rfl⟩
  obtain ⟨x4, e4⟩ : ∃ x, x = l.getD 4 0 := ⟨_, rfl⟩
  obtain ⟨x5, e5⟩ : ∃ x, x = l.getD 5 0 := ⟨_, rfl⟩
  obtain ⟨x6, e6⟩ : ∃ x, x = l.getD 6 0 := ⟨_, rfl⟩
  have b0 := hu.get 0; have b4 := hu.get 4; have b5 := hu.get 5; have b6 := hu.get 6
  rw [← e0] at b0 hv
  rw [← e4] at b4
  rw [← e5] at b5
  rw [← e6] at b6 HC1 HC2
  have hsz5 : (sz : Int) = 256 * x4 + x5 := by rw [hsz, e4, e5]; unfold sizeP; have := hu.get 4; have := hu.get 5; omega
  rw [← hsz] at hz HC2 HS2
  have HLI := Lib.hid (show ∀ W, Below w.heap.size w W → W.cell? ⟨b, off, none⟩ = some (.int .u8 x0) ∧ W.cell? ⟨b, off + 4, none⟩ = some (.int .u8 x4) ∧ W.cell? ⟨b, off + 5, none⟩ = some (.int .u8 x5) ∧ W.cell? ⟨b, off + 6, none⟩ = some (.int .u8 x6) from fun W hW => by
    have h9 := hs.below hW hbl
    rw [e0, e4, e5, e6]
    exact ⟨h9 0 (by omega), h9 4 (by omega), h9 5 (by omega), h9 6 (by omega)⟩)
  have x16 : IntKind.u8.wrap (x0.tdiv 16) = x0 / 16 := by rw [IntKind.wrap_u8', Int.tdiv_eq_ediv_of_nonneg (by omega)]; omega
  have xe : (x0 / 16 != 6) = false := by simpa using hv
  have t1 : decide ((n : Int) < 40) = false := decide_eq_false (by omega)
  have t1n : decide (n < 40) = false := decide_eq_false (by omega)
  have w6 : IntKind.i64.wrap x6 = x6 := IntWalk.i64_in _ (by omega)
  have w4_ : IntKind.i64.wrap x4 = x4 := IntWalk.i64_in _ (by omega)
  have w5_ : IntKind.i64.wrap x5 = x5 := IntWalk.i64_in _ (by omega)
  have w45 : IntKind.i64.wrap (256 * x4) = 256 * x4 := IntWalk.i64_in _ (by omega)
  have w46 : IntKind.i64.wrap (256 * x4 + x5) = (sz : Int) := by rw [IntWalk.i64_in _ (by omega)]; omega
  have wn : IntKind.i64.wrap ((n : Int) - 40) = ((n - 40 : Nat) : Int) := by rw [IntWalk.i64_in _ (by omega)]; omega
  have n4 : 4 < n := by omega
  have n5 : 5 < n := by omega
  have n6 : 6 < n := by omega
  have m4 : (4 : Int) < n := by omega
  have m5 : (5 : Int) < n := by omega
  have m6 : (6 : Int) < n := by omega
  obtain ⟨r1, r2⟩ := HS1.out
  have HSZ := Lib.hid hsz5
  have sz6 : sz ≤ 65535 := by omega
  clear hs hu hl e0 e4 e5 e6 hsz hbl hsz5
  go_enter Try.func3, Try.ntmps3
  go_wp2_with fail
  refine (HC.out _).mono ?_
  rintro o w' ⟨rfl, rfl⟩
  go_wp2_with fail
  refine (HP.out _ (Below.refl _ _)).mono ?_
  rintro o w1 ⟨rfl, hb1⟩
  obtain ⟨w2, hw2⟩ : ∃ w2, w2 = w1.alloc (.cells #[.int .i64 0, .int .i64 0, .int .i64 0, .bool false, .int .u64 0, .int .u64 0, .bool false, .int .u64 0, .int .u64 0, .slice none 0 0, .int .i64 0] 29) := ⟨_, rfl⟩
  have K2 := Lib.hid (show Blk w2 w1.heap.size 29 #[.int .i64 0, .int .i64 0, .int .i64 0, .bool false, .int .u64 0, .int .u64 0, .bool false, .int .u64 0, .int .u64 0, .slice none 0 0, .int .i64 0] from by rw [hw2]; exact Blk.new w1 _ _)
  have E2 := Lib.hid hw2
  have B2 := Lib.hid (show Below w.heap.size w w2 from by rw [hw2]; exact hb1.trans ((Below.refl _ _).alloc hb1.size _))
  have BZ2 := Lib.hid (show Below w1.heap.size w1 w2 from by rw [hw2]; exact (Below.refl _ _).alloc (Nat.le_refl _) _)
  clear hw2 hb1
  go_upto_region 3 with fail
  rw [← E2.out]
  go_wp2_with fail
  refine (HQ.out _ B2.out).mono ?_
  rintro o w3 ⟨hb3, hq, AQ, nq, cq, BQ, nr, cr, f, rfl, hf⟩
  obtain ⟨qcls, qlab, qhop, qs6, qsh, qsl, qd6, qdh, qdl, qp⟩ := hq
  simp only [Hs.cells]
  obtain rfl : f = 11 := hf
  obtain ⟨w4, hw4⟩ : ∃ w4, w4 = w3.alloc (.cells #[.int .i64 qcls, .int .i64 qlab, .int .i64 qhop, .bool qs6, .int .u64 qsh, .int .u64 qsl, .bool qd6, .int .u64 qdh, .int .u64 qdl, .slice AQ nq cq, .int .i64 qp] 29) := ⟨_, rfl⟩
  have E4 := Lib.hid hw4
  have K3 := Lib.hid (K2.out.below hb3 K2.out.lt)
  have B3 := Lib.hid (B2.out.trans (hb3.mono B2.out.size))
  have B34 := Lib.hid (show Below w3.heap.size w3 w4 from by rw [hw4]; exact (Below.refl _ _).alloc (Nat.le_refl _) _)
  have BZ4 := Lib.hid ((BZ2.out.trans (hb3.mono BZ2.out.size)).trans (B34.out.mono (Nat.le_trans BZ2.out.size hb3.size)))
  have B4 := Lib.hid (B3.out.trans (B34.out.mono B3.out.size))
  have K4 := Lib.hid (K3.out.below B34.out K3.out.lt)
  clear hw4 hb3
  go_upto_region 4 with fail
  rw [← E4.out]
  obtain ⟨y0, y4, y5, y6⟩ := HLI.out w4 B4.out
  go_upto_region 9 with fail
  have D4 := Lib.hid (HLI.out w4.drew B4.out.drew)
  go_region_held3 (fun W => W.cell? ⟨b, off, none⟩ = some (.int .u8 x0) ∧ W.cell? ⟨b, off + 4, none⟩ = some (.int .u8 x4) ∧ W.cell? ⟨b, off + 5, none⟩ = some (.int .u8 x5) ∧ W.cell? ⟨b, off + 6, none⟩ = some (.int .u8 x6)) (first | with_reducible assumption | with_reducible exact D5.out | with_reducible exact D4.out) (first
    | (go_at_call 15; with_reducible refine (HC1.out _ B4.out.drew).mono ?_; rintro o w5 hch; obtain ⟨hb5, rfl⟩ := chnP_none hch; have B5 := Lib.hid (B4.out.drew.trans (hb5.mono B4.out.drew.size)); have D5 := Lib.hid (HLI.out w5 B5.out)))
  clear y0 y4 y5 y6 D4 D5
  have K5 := Lib.hid (K4.out.below (((Below.refl _ _).drew).trans (hb5.mono (Nat.le_refl _))) K4.out.lt)
  have BZ5 := Lib.hid (BZ4.out.drew.trans (hb5.mono BZ4.out.drew.size))
  clear hb5
  obtain ⟨y0, y4, y5, y6⟩ := HLI.out w5 B5.out
  obtain ⟨z0, z4, z5, z6⟩ := HLI.out w5.drew B5.out.drew
  have t13 : decide (((n - 40 : Nat) : Int) < (sz : Int)) = false := decide_eq_false (by omega)
  have t13n : decide (n - 40 < sz) = false := decide_eq_false (by omega)
  go_upto_region 12 with fail
  have D6 := Lib.hid (HLI.out w5.drew B5.out.drew)
  go_region_held3 (fun W => W.cell? ⟨b, off, none⟩ = some (.int .u8 x0) ∧ W.cell? ⟨b, off + 4, none⟩ = some (.int .u8 x4) ∧ W.cell? ⟨b, off + 5, none⟩ = some (.int .u8 x5) ∧ W.cell? ⟨b, off + 6, none⟩ = some (.int .u8 x6)) (first | with_reducible assumption | with_reducible exact D6.out) (first | fail)
  obtain ⟨q1, q2⟩ := HS2.out
  have w40 : IntKind.i64.wrap (40 + (sz : Int)) = 40 + (sz : Int) := IntWalk.i64_in _ (by omega)
  have j40 : (40 : Int) ≤ 40 + (sz : Int) := by omega
  have B6 := Lib.hid B5.out.drew
  have D7 := Lib.hid (HLI.out w5.drew.drew B6.out.drew)
  have K6 := Lib.hid (K5.out.below (((Below.refl _ _).drew).drew) K5.out.lt)
  go_upto_region 15 with fail
  go_region_held3 (fun W => W.cell? ⟨b, off, none⟩ = some (.int .u8 x0) ∧ W.cell? ⟨b, off + 4, none⟩ = some (.int .u8 x4) ∧ W.cell? ⟨b, off + 5, none⟩ = some (.int .u8 x5) ∧ W.cell? ⟨b, off + 6, none⟩ = some (.int .u8 x6)) (first | with_reducible assumption | with_reducible exact D8.out | with_reducible exact D7.out) (first
    | (go_at_call 15; with_reducible refine (HC2.out _ B6.out.drew).mono ?_; rintro o w8 hch; obtain ⟨hb8, rfl⟩ := chnP_none hch; have B8 := Lib.hid (B6.out.drew.trans (hb8.mono B6.out.drew.size)); have D8 := Lib.hid (HLI.out w8 B8.out)))
  have K8 := Lib.hid (K6.out.below hb8 K6.out.lt)
  have B18 := Lib.hid BZ5.out.drew.drew
  have HSM := Lib.hid (fun V => same_true zeroH none none 0 0 0 [] [] V (rdx_nil V none) (rdx_nil V none) rfl rfl (by omega))
  go_upto_region 17 with fail
  clear y0 y4 y5 y6 z0 z4 z5 z6
  have k0 := K8.out.cell 0
  have k1 := K8.out.cell 1
  have k2 := K8.out.cell 2
  have k3 := K8.out.cell 3
  have k4 := K8.out.cell 4
  have k5 := K8.out.cell 5
  have k6 := K8.out.cell 6
  have k7 := K8.out.cell 7
  have k8 := K8.out.cell 8
  have k9 := K8.out.cell 9
  have k10 := K8.out.cell 10
  go_wp2_with fail
  refine (HSM.out _).mono ?_
  rintro o w6 ⟨rfl, hb6⟩
  have B6 := Lib.hid (B8.out.trans (hb6.mono B8.out.size))
  clear hb6 k0 k1 k2 k3 k4 k5 k6 k7 k8 k9 k10
  go_wp2_with fail
  refine (awake_any _).mono ?_
  rintro o w7 ⟨rfl, hb7⟩
  have B7 := Lib.hid (B6.out.trans (hb7.mono B6.out.size))
  clear hb7
  go_wp2_with fail
  go_ret
  exact ⟨rfl, B7.out⟩
set_option maxHeartbeats 8000000 in
set_option maxRecDepth 100000 in
theorem law_y_hdr (b off n0 n c : Nat) (AX : Option Addr) (AY : Option Addr) (l : List Int) (yq : List XP) (qq : Int) (rq : List Int) (w : World) (hn5 : n ≤ 500) (hn : 40 ≤ n) (hnc : n ≤ c) (hc : c ≤ 9223372036854775807) (hbl : b < w.heap.size) (hs : Lies w b off l) (hu : U8 l) (hl : l.length = n) (hv : l.getD 0 0 / 16 = 6) (hz : sizeP l ≤ n - 40)
    (HC : Hid (∀ W, Calls Try.prog 10 #[.slice (some ⟨b, off, none⟩) n0 c] W fun o w' => o = .returned (.slice (some ⟨b, off, none⟩) n c) ∧ W = w'))
    (HP : Hid (∀ W, Below w.heap.size w W → Calls Try.prog 11 #[.slice (some ⟨b, off, none⟩) n c] W (FailP W 11))) (HQ : Hid (∀ W, Below w.heap.size w W → Calls Try.prog 12 #[.slice (some ⟨b, off, none⟩) n c] W (QuoP W (some (yq, qq, rq)))))
    (HC1 : Hid (∀ W, Below w.heap.size w W → Calls Try.prog 15 #[.int .i64 (l.getD 6 0), .slice AX (n - 40) (c - 40)] W (ChnP W (some (yq, qq, rq)))))
    (HS1 : Hid ((∀ W : World, (Instr.slice 22 (.slice (some ⟨b, off, none⟩) n c) (some (.int .i64 40)) none none).run Try.prog W = .ok (.slice AX (n - 40) (c - 40)) W) ∧ (∀ W : World, (Instr.sliceAt 22 (.slice (some ⟨b, off, none⟩) n c) (some (.int .i64 40)) none none).run Try.prog W = .ok (.slice AX (n - 40) (c - 40)) W)))
    (HC2 : Hid (∀ W, Below w.heap.size w W → Calls Try.prog 15 #[.int .i64 (l.getD 6 0), .slice AY (sizeP l) (c - 40)] W (ChnP W none)))
    (HS2 : Hid ((∀ W : World, (Instr.slice 22 (.slice (some ⟨b, off, none⟩) n c) (some (.int .i64 40)) (some (.int .i64 (40 + (sizeP l : Int)))) none).run Try.prog W = .ok (.slice AY (sizeP l) (c - 40)) W) ∧ (∀ W : World, (Instr.sliceAt 22 (.slice (some ⟨b, off, none⟩) n c) (some (.int .i64 40)) (some (.int .i64 (40 + (sizeP l : Int)))) none).run Try.prog W = .ok (.slice AY (sizeP l) (c - 40)) W))) :
    Calls Try.prog 3 #[.slice (some ⟨b, off, none⟩) n0 c] w fun o w' => o = .returned (.bool true) ∧ Below w.heap.size w w' := by
  have HL := Lib.hid hl
  have HBL := Lib.hid hbl
  have HX := Lib.hid hs
  obtain ⟨sz, hsz⟩ : ∃ sz, sz = sizeP l := ⟨_, rfl⟩
  obtain ⟨x0, e0⟩ : ∃ x, x = l.getD 0 0 := ⟨_, rfl⟩
  obtain ⟨x4, e4⟩ : ∃ x, x = l.getD 4 0 := ⟨_, rfl⟩
  obtain ⟨x5, e5⟩ : ∃ x, x = l.getD 5 0 := ⟨_, rfl⟩
  obtain ⟨x6, e6⟩ : ∃ x, x = l.getD 6 0 := ⟨_, rfl⟩
  have b0 := hu.get 0; have b4 := hu.get 4; have b5 := hu.get 5; have b6 := hu.get 6
  rw [← e0] at b0 hv
  rw [← e4] at b4
  rw [← e5] at b5
  rw [← e6] at b6 HC1 HC2
  have hsz5 : (sz : Int) = 256 * x4 + x5 := by rw [hsz, e4, e5]; unfold sizeP; have := hu.get 4; have := hu.get 5; omega
  rw [← hsz] at hz HC2 HS2
  have HLI := Lib.hid (show ∀ W, Below w.heap.size w W → W.cell? ⟨b, off, none⟩ = some (.int .u8 x0) ∧ W.cell? ⟨b, off + 4, none⟩ = some (.int .u8 x4) ∧ W.cell? ⟨b, off + 5, none⟩ = some (.int .u8 x5) ∧ W.cell? ⟨b, off + 6, none⟩ = some (.int .u8 x6) from fun W hW => by
    have h9 := hs.below hW hbl
    rw [e0, e4, e5, e6]
    exact ⟨h9 0 (by omega), h9 4 (by omega), h9 5 (by omega), h9 6 (by omega)⟩)
  have x16 : IntKind.u8.wrap (x0.tdiv 16) = x0 / 16 := by rw [IntKind.wrap_u8', Int.tdiv_eq_ediv_of_nonneg (by omega)]; omega
  have xe : (x0 / 16 != 6) = false := by simpa using hv
  have t1 : decide ((n : Int) < 40) = false := decide_eq_false (by omega)
  have t1n : decide (n < 40) = false := decide_eq_false (by omega)
  have w6 : IntKind.i64.wrap x6 = x6 := IntWalk.i64_in _ (by omega)
  have w4_ : IntKind.i64.wrap x4 = x4 := IntWalk.i64_in _ (by omega)
  have w5_ : IntKind.i64.wrap x5 = x5 := IntWalk.i64_in _ (by omega)
  have w45 : IntKind.i64.wrap (256 * x4) = 256 * x4 := IntWalk.i64_in _ (by omega)
  have w46 : IntKind.i64.wrap (256 * x4 + x5) = (sz : Int) := by rw [IntWalk.i64_in _ (by omega)]; omega
  have wn : IntKind.i64.wrap ((n : Int) - 40) = ((n - 40 : Nat) : Int) := by rw [IntWalk.i64_in _ (by omega)]; omega
  have n4 : 4 < n := by omega
  have n5 : 5 < n := by omega
  have n6 : 6 < n := by omega
  have m4 : (4 : Int) < n := by omega
  have m5 : (5 : Int) < n := by omega
  have m6 : (6 : Int) < n := by omega
  obtain ⟨r1, r2⟩ := HS1.out
  have HSZ := Lib.hid hsz5
  have sz6 : sz ≤ 65535 := by omega
  clear hs hu hl e0 e4 e5 e6 hsz hbl hsz5
  go_enter Try.func3, Try.ntmps3
  go_wp2_with fail
  refine (HC.out _).mono ?_
  rintro o w' ⟨rfl, rfl⟩
  go_wp2_with fail
  refine (HP.out _ (Below.refl _ _)).mono ?_
  rintro o w1 ⟨rfl, hb1⟩
  obtain ⟨w2, hw2⟩ : ∃ w2, w2 = w1.alloc (.cells #[.int .i64 0, .int .i64 0, .int .i64 0, .bool false, .int .u64 0, .int .u64 0, .bool false, .int .u64 0, .int .u64 0, .slice none 0 0, .int .i64 0] 29) := ⟨_, rfl⟩
  have K2 := Lib.hid (show Blk w2 w1.heap.size 29 #[.int .i64 0, .int .i64 0, .int .i64 0, .bool false, .int .u64 0, .int .u64 0, .bool false, .int .u64 0, .int .u64 0, .slice none 0 0, .int .i64 0] from by rw [hw2]; exact Blk.new w1 _ _)
  have E2 := Lib.hid hw2
  have B2 := Lib.hid (show Below w.heap.size w w2 from by rw [hw2]; exact hb1.trans ((Below.refl _ _).alloc hb1.size _))
  have BZ2 := Lib.hid (show Below w1.heap.size w1 w2 from by rw [hw2]; exact (Below.refl _ _).alloc (Nat.le_refl _) _)
  clear hw2 hb1
  go_upto_region 3 with fail
  rw [← E2.out]
  go_wp2_with fail
  refine (HQ.out _ B2.out).mono ?_
  rintro o w3 ⟨hb3, hq, AQ, nq, cq, BQ, nr, cr, f, rfl, hf⟩
  obtain ⟨qcls, qlab, qhop, qs6, qsh, qsl, qd6, qdh, qdl, qp⟩ := hq
  simp only [Hs.cells]
  obtain ⟨hf0, hnr, hfr⟩ := hf
  subst hf0
  have HNR := Lib.hid hnr
  have HFR := Lib.hid hfr
  clear hnr hfr
  obtain ⟨w4, hw4⟩ : ∃ w4, w4 = w3.alloc (.cells #[.int .i64 qcls, .int .i64 qlab, .int .i64 qhop, .bool qs6, .int .u64 qsh, .int .u64 qsl, .bool qd6, .int .u64 qdh, .int .u64 qdl, .slice AQ nq cq, .int .i64 qp] 29) := ⟨_, rfl⟩
  have E4 := Lib.hid hw4
  have K3 := Lib.hid (K2.out.below hb3 K2.out.lt)
  have B3 := Lib.hid (B2.out.trans (hb3.mono B2.out.size))
  have B34 := Lib.hid (show Below w3.heap.size w3 w4 from by rw [hw4]; exact (Below.refl _ _).alloc (Nat.le_refl _) _)
  have BZ4 := Lib.hid ((BZ2.out.trans (hb3.mono BZ2.out.size)).trans (B34.out.mono (Nat.le_trans BZ2.out.size hb3.size)))
  have B4 := Lib.hid (B3.out.trans (B34.out.mono B3.out.size))
  have K4 := Lib.hid (K3.out.below B34.out K3.out.lt)
  clear hw4 hb3
  go_upto_region 4 with fail
  rw [← E4.out]
  obtain ⟨y0, y4, y5, y6⟩ := HLI.out w4 B4.out
  go_upto_region 9 with fail
  have D4 := Lib.hid (HLI.out w4.drew B4.out.drew)
  go_region_held3 (fun W => W.cell? ⟨b, off, none⟩ = some (.int .u8 x0) ∧ W.cell? ⟨b, off + 4, none⟩ = some (.int .u8 x4) ∧ W.cell? ⟨b, off + 5, none⟩ = some (.int .u8 x5) ∧ W.cell? ⟨b, off + 6, none⟩ = some (.int .u8 x6)) (first | with_reducible assumption | with_reducible exact D5.out | with_reducible exact D4.out) (first
    | (go_at_call 15; with_reducible refine (HC1.out _ B4.out.drew).mono ?_; rintro o w5 hch; obtain ⟨hb5, A1, c1, A2, c2, rfl, hr1, hr2, hr3, hr4⟩ := chnP_some hch; have B5 := Lib.hid (B4.out.drew.trans (hb5.mono B4.out.drew.size)); have D5 := Lib.hid (HLI.out w5 B5.out)))
  clear y0 y4 y5 y6 D4 D5
  have K5 := Lib.hid (K4.out.below (((Below.refl _ _).drew).trans (hb5.mono (Nat.le_refl _))) K4.out.lt)
  obtain ⟨TQ, hTQ⟩ : ∃ TQ, TQ = strOfNums rq := ⟨_, rfl⟩
  have cv2 := conv_row (c := c2) hr1 rfl
  have cv1 := conv_row (c := cr) ((HFR.out.below ((B34.out.drew.trans (hb5.mono B34.out.drew.size)))).more (Nat.le_trans B34.out.size hb5.size)) HNR.out.symm
  rw [← hTQ] at cv1 cv2
  clear hTQ hr1 hr2 hr3 hr4
  have BZ5 := Lib.hid (BZ4.out.drew.trans (hb5.mono BZ4.out.drew.size))
  clear hb5
  obtain ⟨y0, y4, y5, y6⟩ := HLI.out w5 B5.out
  obtain ⟨z0, z4, z5, z6⟩ := HLI.out w5.drew B5.out.drew
  have t13 : decide (((n - 40 : Nat) : Int) < (sz : Int)) = false := decide_eq_false (by omega)
  have t13n : decide (n - 40 < sz) = false := decide_eq_false (by omega)
  go_upto_region 12 with fail
  have D6 := Lib.hid (HLI.out w5.drew B5.out.drew)
  go_region_held3 (fun W => W.cell? ⟨b, off, none⟩ = some (.int .u8 x0) ∧ W.cell? ⟨b, off + 4, none⟩ = some (.int .u8 x4) ∧ W.cell? ⟨b, off + 5, none⟩ = some (.int .u8 x5) ∧ W.cell? ⟨b, off + 6, none⟩ = some (.int .u8 x6)) (first | with_reducible assumption | with_reducible exact D6.out) (first | fail)
  obtain ⟨q1, q2⟩ := HS2.out
  have w40 : IntKind.i64.wrap (40 + (sz : Int)) = 40 + (sz : Int) := IntWalk.i64_in _ (by omega)
  have j40 : (40 : Int) ≤ 40 + (sz : Int) := by omega
  have B6 := Lib.hid B5.out.drew
  have D7 := Lib.hid (HLI.out w5.drew.drew B6.out.drew)
  have K6 := Lib.hid (K5.out.below (((Below.refl _ _).drew).drew) K5.out.lt)
  go_upto_region 15 with fail
  go_region_held3 (fun W => W.cell? ⟨b, off, none⟩ = some (.int .u8 x0) ∧ W.cell? ⟨b, off + 4, none⟩ = some (.int .u8 x4) ∧ W.cell? ⟨b, off + 5, none⟩ = some (.int .u8 x5) ∧ W.cell? ⟨b, off + 6, none⟩ = some (.int .u8 x6)) (first | with_reducible assumption | with_reducible exact D8.out | with_reducible exact D7.out) (first
    | (go_at_call 15; with_reducible refine (HC2.out _ B6.out.drew).mono ?_; rintro o w8 hch; obtain ⟨hb8, rfl⟩ := chnP_none hch; have B8 := Lib.hid (B6.out.drew.trans (hb8.mono B6.out.drew.size)); have D8 := Lib.hid (HLI.out w8 B8.out)))
  have K8 := Lib.hid (K6.out.below hb8 K6.out.lt)
  have B18 := Lib.hid BZ5.out.drew.drew
  have HSM := Lib.hid (fun V => same_true zeroH none none 0 0 0 [] [] V (rdx_nil V none) (rdx_nil V none) rfl rfl (by omega))
  go_upto_region 17 with fail
  clear y0 y4 y5 y6 z0 z4 z5 z6
  have k0 := K8.out.cell 0
  have k1 := K8.out.cell 1
  have k2 := K8.out.cell 2
  have k3 := K8.out.cell 3
  have k4 := K8.out.cell 4
  have k5 := K8.out.cell 5
  have k6 := K8.out.cell 6
  have k7 := K8.out.cell 7
  have k8 := K8.out.cell 8
  have k9 := K8.out.cell 9
  have k10 := K8.out.cell 10
  go_wp2_with fail
  refine (HSM.out _).mono ?_
  rintro o w6 ⟨rfl, hb6⟩
  have B6 := Lib.hid (B8.out.trans (hb6.mono B8.out.size))
  clear hb6 k0 k1 k2 k3 k4 k5 k6 k7 k8 k9 k10
  go_wp2_with fail
  refine (awake_any _).mono ?_
  rintro o w7 ⟨rfl, hb7⟩
  have B7 := Lib.hid (B6.out.trans (hb7.mono B6.out.size))
  clear hb7
  go_wp2_with fail
  go_ret
  exact ⟨rfl, B7.out⟩
end Go.Proofs.Ytndekicblbpkjaa.sixU
