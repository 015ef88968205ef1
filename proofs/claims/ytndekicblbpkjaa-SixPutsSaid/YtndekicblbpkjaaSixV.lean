/- Layer 9: the law SixParses where a header begins. -/
import Derived.Test.YtndekicblbpkjaaSixU
import Derived.Deep.RegionHeld3
import Derived.Deep.DeepCutAuto
namespace Go.Proofs.Ytndekicblbpkjaa.sixV
open Go.ChangeShapes Go.WideShapes Go.ChangeAt Go.RowKit
open Go.Proofs.Ytndekicblbpkjaa.base Go.Proofs.Ytndekicblbpkjaa.octA Go.Proofs.Ytndekicblbpkjaa.octB Go.Proofs.Ytndekicblbpkjaa.octC Go.Proofs.Ytndekicblbpkjaa.octF Go.Proofs.Ytndekicblbpkjaa.octK Go.Proofs.Ytndekicblbpkjaa.net Go.Proofs.Ytndekicblbpkjaa.rdrA Go.Proofs.Ytndekicblbpkjaa.rdrG Go.Proofs.Ytndekicblbpkjaa.sumA Go.Proofs.Ytndekicblbpkjaa.sumB Go.Proofs.Ytndekicblbpkjaa.udpA Go.Proofs.Ytndekicblbpkjaa.tcpC Go.Proofs.Ytndekicblbpkjaa.sixW Go.Proofs.Ytndekicblbpkjaa.sixM Go.Proofs.Ytndekicblbpkjaa.snK Go.Proofs.Ytndekicblbpkjaa.sixA Go.Proofs.Ytndekicblbpkjaa.sixB Go.Proofs.Ytndekicblbpkjaa.sixC Go.Proofs.Ytndekicblbpkjaa.sixD Go.Proofs.Ytndekicblbpkjaa.sixE Go.Proofs.Ytndekicblbpkjaa.sixF Go.Proofs.Ytndekicblbpkjaa.sixG Go.Proofs.Ytndekicblbpkjaa.sixH Go.Proofs.Ytndekicblbpkjaa.sixI Go.Proofs.Ytndekicblbpkjaa.sixK Go.Proofs.Ytndekicblbpkjaa.sixL Go.Proofs.Ytndekicblbpkjaa.sixN Go.Proofs.Ytndekicblbpkjaa.sixO Go.Proofs.Ytndekicblbpkjaa.sixQ Go.Proofs.Ytndekicblbpkjaa.sixR Go.Proofs.Ytndekicblbpkjaa.sixS Go.Proofs.Ytndekicblbpkjaa.sixT Go.Proofs.Ytndekicblbpkjaa.sixU
set_option linter.unusedVariables false

set_option maxHeartbeats 8000000 in
set_option maxRecDepth 100000 in
theorem law_n_ok (b off n0 n c : Nat) (AX : Option Addr) (AY : Option Addr) (l : List Int) (ys : List XP) (q : Int) (r : List Int) (w : World) (hn5 : n ≤ 500) (hn : 40 ≤ n) (hnc : n ≤ c) (hc : c ≤ 9223372036854775807) (hbl : b < w.heap.size) (hs : Lies w b off l) (hu : U8 l) (hl : l.length = n) (hv : l.getD 0 0 / 16 = 6) (hz : sizeP l ≤ n - 40)
    (HC : Hid (∀ W, Calls Try.prog 10 #[.slice (some ⟨b, off, none⟩) n0 c] W fun o w' => o = .returned (.slice (some ⟨b, off, none⟩) n c) ∧ W = w'))
    (HP : Hid (∀ W, Below w.heap.size w W → Calls Try.prog 11 #[.slice (some ⟨b, off, none⟩) n c] W (GoodP W l ys q r))) (HQ : Hid (∀ W, Below w.heap.size w W → Calls Try.prog 12 #[.slice (some ⟨b, off, none⟩) n c] W (QuoP W none)))
    (HC1 : Hid (∀ W, Below w.heap.size w W → Calls Try.prog 15 #[.int .i64 (l.getD 6 0), .slice AX (n - 40) (c - 40)] W (ChnP W none)))
    (HS1 : Hid ((∀ W : World, (Instr.slice 22 (.slice (some ⟨b, off, none⟩) n c) (some (.int .i64 40)) none none).run Try.prog W = .ok (.slice AX (n - 40) (c - 40)) W) ∧ (∀ W : World, (Instr.sliceAt 22 (.slice (some ⟨b, off, none⟩) n c) (some (.int .i64 40)) none none).run Try.prog W = .ok (.slice AX (n - 40) (c - 40)) W)))
    (HC2 : Hid (∀ W, Below w.heap.size w W → Calls Try.prog 15 #[.int .i64 (l.getD 6 0), .slice AY (sizeP l) (c - 40)] W (ChnP W (some (ys, q, r)))))
    (HS2 : Hid ((∀ W : World, (Instr.slice 22 (.slice (some ⟨b, off, none⟩) n c) (some (.int .i64 40)) (some (.int .i64 (40 + (sizeP l : Int)))) none).run Try.prog W = .ok (.slice AY (sizeP l) (c - 40)) W) ∧ (∀ W : World, (Instr.sliceAt 22 (.slice (some ⟨b, off, none⟩) n c) (some (.int .i64 40)) (some (.int .i64 (40 + (sizeP l : Int)))) none).run Try.prog W = .ok (.slice AY (sizeP l) (c - 40)) W)))
    (HB : Hid (sixB (hdOf l q) ys r = l.take (40 + sizeP l) ∧ RightH (hdOf l q) ys ∧ (∀ x ∈ ys, U8 x.2) ∧ U8 r ∧ r.length ≤ l.length)) :
    Calls Try.prog 3 #[.slice (some ⟨b, off, none⟩) n0 c] w fun o w' => o = .returned (.bool true) ∧ Below w.heap.size w w' := by
  have HL := Lib.hid hl
  have HBL := Lib.hid hbl
  have HX := Lib.hid hs
  obtain ⟨sz, hsz⟩ : ∃ sz, sz = sizeP l := ⟨_, rfl⟩
  obtain ⟨x0, e0⟩ : ∃ x, x = l.getD 0 0 := ⟨_, rfl⟩
  obtain ⟨x4, e4⟩ : ∃ x, x = l.getD 4 0 := ⟨_, rfl⟩
  obtain ⟨x5, e5⟩ : ∃ x, x = l.getD 5 0 := ⟨_, rfl⟩
  obtain ⟨x6, e6⟩ : ∃ x, x = l.getD 6 0 := ⟨_, rfl⟩
  have b0 := hu.get 0; have b4 := hu.get 4; have b5 := hu.get 5; have b6 := hu.get 6
  rw [← e0] at b0 hv
  rw [← e4] at b4
  rw [← e5] at b5
  rw [← e6] at b6 HC1 HC2
  have hsz5 : (sz : Int) = 256 * x4 + x5 := by rw [hsz, e4, e5]; unfold sizeP; have := hu.get 4; have := hu.get 5; omega
  rw [← hsz] at hz HC2 HS2 HB
  have HLI := Lib.hid (show ∀ W, Below w.heap.size w W → W.cell? ⟨b, off, none⟩ = some (.int .u8 x0) ∧ W.cell? ⟨b, off + 4, none⟩ = some (.int .u8 x4) ∧ W.cell? ⟨b, off + 5, none⟩ = some (.int .u8 x5) ∧ W.cell? ⟨b, off + 6, none⟩ = some (.int .u8 x6) from fun W hW => by
    have h9 := hs.below hW hbl
    rw [e0, e4, e5, e6]
    exact ⟨h9 0 (by omega), h9 4 (by omega), h9 5 (by omega), h9 6 (by omega)⟩)
  have x16 : IntKind.u8.wrap (x0.tdiv 16) = x0 / 16 := by rw [IntKind.wrap_u8', Int.tdiv_eq_ediv_of_nonneg (by omega)]; omega
  have xe : (x0 / 16 != 6) = false := by simpa using hv
  have t1 : decide ((n : Int) < 40) = false := decide_eq_false (by omega)
  have t1n : decide (n < 40) = false := decide_eq_false (by omega)
  have w6 : IntKind.i64.wrap x6 = x6 := IntWalk.i64_in _ (by omega)
  have w4_ : IntKind.i64.wrap x4 = x4 := IntWalk.i64_in _ (by omega)
  have w5_ : IntKind.i64.wrap x5 = x5 := IntWalk.i64_in _ (by omega)
  have w45 : IntKind.i64.wrap (256 * x4) = 256 * x4 := IntWalk.i64_in _ (by omega)
  have w46 : IntKind.i64.wrap (256 * x4 + x5) = (sz : Int) := by rw [IntWalk.i64_in _ (by omega)]; omega
  have wn : IntKind.i64.wrap ((n : Int) - 40) = ((n - 40 : Nat) : Int) := by rw [IntWalk.i64_in _ (by omega)]; omega
  have n4 : 4 < n := by omega
  have n5 : 5 < n := by omega
  have n6 : 6 < n := by omega
  have m4 : (4 : Int) < n := by omega
  have m5 : (5 : Int) < n := by omega
  have m6 : (6 : Int) < n := by omega
  obtain ⟨r1, r2⟩ := HS1.out
  have HSZ := Lib.hid hsz5
  have HB0 : (0 ≤ (hdOf l q).sh ∧ (hdOf l q).sh < 18446744073709551616) ∧ (0 ≤ (hdOf l q).sl ∧ (hdOf l q).sl < 18446744073709551616) ∧ (0 ≤ (hdOf l q).dh ∧ (hdOf l q).dh < 18446744073709551616) ∧ (0 ≤ (hdOf l q).dl ∧ (hdOf l q).dl < 18446744073709551616) := ⟨atN_in8 _ (hu.drop 8) 0, atN_in8 _ (hu.drop 8) 8, atN_in8 _ (hu.drop 24) 0, atN_in8 _ (hu.drop 24) 8⟩
  have sz6 : sz ≤ 65535 := by omega
  clear hs hu hl e0 e4 e5 e6 hsz hbl hsz5
  go_enter Try.func3, Try.ntmps3
  go_wp2_with fail
  refine (HC.out _).mono ?_
  rintro o w' ⟨rfl, rfl⟩
  go_wp2_with fail
  refine (HP.out _ (Below.refl _ _)).mono ?_
  rintro o w1 ⟨hb1, Lx, Ah, ch, Br, cr0, rfl, hre, hgot, hrow⟩
  obtain ⟨hh, ehh⟩ : ∃ hh, hh = hdOf l q := ⟨_, rfl⟩
  have hpq : (hdOf l q).p = q := rfl
  rw [← ehh] at HB HB0 hpq ⊢
  obtain ⟨cls, lab, hop, s6, sh, sl, d6, dh, dl, p⟩ := hh
  obtain rfl : p = q := hpq
  simp only [Hs.cells]
  have HRE := Lib.hid hre
  have GX := Lib.hid hgot
  have HRW := Lib.hid hrow
  have HHB := Lib.hid (show (0 ≤ sh ∧ sh < 18446744073709551616) ∧ (0 ≤ sl ∧ sl < 18446744073709551616) ∧ (0 ≤ dh ∧ dh < 18446744073709551616) ∧ (0 ≤ dl ∧ dl < 18446744073709551616) from HB0)
  obtain ⟨w2, hw2⟩ : ∃ w2, w2 = w1.alloc (.cells #[.int .i64 cls, .int .i64 lab, .int .i64 hop, .bool s6, .int .u64 sh, .int .u64 sl, .bool d6, .int .u64 dh, .int .u64 dl, .slice Ah ys.length ch, .int .i64 p] 29) := ⟨_, rfl⟩
  have K2 := Lib.hid (show Blk w2 w1.heap.size 29 #[.int .i64 cls, .int .i64 lab, .int .i64 hop, .bool s6, .int .u64 sh, .int .u64 sl, .bool d6, .int .u64 dh, .int .u64 dl, .slice Ah ys.length ch, .int .i64 p] from by rw [hw2]; exact Blk.new w1 _ _)
  have E2 := Lib.hid hw2
  have B2 := Lib.hid (show Below w.heap.size w w2 from by rw [hw2]; exact hb1.trans ((Below.refl _ _).alloc hb1.size _))
  have BZ2 := Lib.hid (show Below w1.heap.size w1 w2 from by rw [hw2]; exact (Below.refl _ _).alloc (Nat.le_refl _) _)
  clear hw2 hb1 hre hgot hrow ehh HB0
  go_upto_region 3 with fail
  rw [← E2.out]
  go_wp2_with fail
  refine (HQ.out _ B2.out).mono ?_
  rintro o w3 ⟨hb3, hq, AQ, nq, cq, BQ, nr, cr, f, rfl, hf⟩
  obtain ⟨qcls, qlab, qhop, qs6, qsh, qsl, qd6, qdh, qdl, qp⟩ := hq
  simp only [Hs.cells]
  obtain rfl : f = 11 := hf
  obtain ⟨w4, hw4⟩ : ∃ w4, w4 = w3.alloc (.cells #[.int .i64 qcls, .int .i64 qlab, .int .i64 qhop, .bool qs6, .int .u64 qsh, .int .u64 qsl, .bool qd6, .int .u64 qdh, .int .u64 qdl, .slice AQ nq cq, .int .i64 qp] 29) := ⟨_, rfl⟩
  have E4 := Lib.hid hw4
  have K3 := Lib.hid (K2.out.below hb3 K2.out.lt)
  have B3 := Lib.hid (B2.out.trans (hb3.mono B2.out.size))
  have B34 := Lib.hid (show Below w3.heap.size w3 w4 from by rw [hw4]; exact (Below.refl _ _).alloc (Nat.le_refl _) _)
  have BZ4 := Lib.hid ((BZ2.out.trans (hb3.mono BZ2.out.size)).trans (B34.out.mono (Nat.le_trans BZ2.out.size hb3.size)))
  have B4 := Lib.hid (B3.out.trans (B34.out.mono B3.out.size))
  have K4 := Lib.hid (K3.out.below B34.out K3.out.lt)
  clear hw4 hb3
  go_upto_region 4 with fail
  rw [← E4.out]
  obtain ⟨y0, y4, y5, y6⟩ := HLI.out w4 B4.out
  go_upto_region 9 with fail
  have D4 := Lib.hid (HLI.out w4.drew B4.out.drew)
  go_region_held3 (fun W => W.cell? ⟨b, off, none⟩ = some (.int .u8 x0) ∧ W.cell? ⟨b, off + 4, none⟩ = some (.int .u8 x4) ∧ W.cell? ⟨b, off + 5, none⟩ = some (.int .u8 x5) ∧ W.cell? ⟨b, off + 6, none⟩ = some (.int .u8 x6)) (first | with_reducible assumption | with_reducible exact D5.out | with_reducible exact D4.out) (first
    | (go_at_call 15; with_reducible refine (HC1.out _ B4.out.drew).mono ?_; rintro o w5 hch; obtain ⟨hb5, rfl⟩ := chnP_none hch; have B5 := Lib.hid (B4.out.drew.trans (hb5.mono B4.out.drew.size)); have D5 := Lib.hid (HLI.out w5 B5.out)))
  clear y0 y4 y5 y6 D4 D5
  have K5 := Lib.hid (K4.out.below (((Below.refl _ _).drew).trans (hb5.mono (Nat.le_refl _))) K4.out.lt)
  have BZ5 := Lib.hid (BZ4.out.drew.trans (hb5.mono BZ4.out.drew.size))
  clear hb5
  obtain ⟨y0, y4, y5, y6⟩ := HLI.out w5 B5.out
  obtain ⟨z0, z4, z5, z6⟩ := HLI.out w5.drew B5.out.drew
  have t13 : decide (((n - 40 : Nat) : Int) < (sz : Int)) = false := decide_eq_false (by omega)
  have t13n : decide (n - 40 < sz) = false := decide_eq_false (by omega)
  go_upto_region 12 with fail
  have D6 := Lib.hid (HLI.out w5.drew B5.out.drew)
  go_region_held3 (fun W => W.cell? ⟨b, off, none⟩ = some (.int .u8 x0) ∧ W.cell? ⟨b, off + 4, none⟩ = some (.int .u8 x4) ∧ W.cell? ⟨b, off + 5, none⟩ = some (.int .u8 x5) ∧ W.cell? ⟨b, off + 6, none⟩ = some (.int .u8 x6)) (first | with_reducible assumption | with_reducible exact D6.out) (first | fail)
  obtain ⟨q1, q2⟩ := HS2.out
  have w40 : IntKind.i64.wrap (40 + (sz : Int)) = 40 + (sz : Int) := IntWalk.i64_in _ (by omega)
  have j40 : (40 : Int) ≤ 40 + (sz : Int) := by omega
  have B6 := Lib.hid B5.out.drew
  have D7 := Lib.hid (HLI.out w5.drew.drew B6.out.drew)
  have K6 := Lib.hid (K5.out.below (((Below.refl _ _).drew).drew) K5.out.lt)
  go_upto_region 15 with fail
  go_region_held3 (fun W => W.cell? ⟨b, off, none⟩ = some (.int .u8 x0) ∧ W.cell? ⟨b, off + 4, none⟩ = some (.int .u8 x4) ∧ W.cell? ⟨b, off + 5, none⟩ = some (.int .u8 x5) ∧ W.cell? ⟨b, off + 6, none⟩ = some (.int .u8 x6)) (first | with_reducible assumption | with_reducible exact D8.out | with_reducible exact D7.out) (first
    | (go_at_call 15; with_reducible refine (HC2.out _ B6.out.drew).mono ?_; rintro o w8 hch; obtain ⟨hb8, A3, c3, A4, c4, rfl, hr5, hr6, hr7, hr8⟩ := chnP_some hch; have B8 := Lib.hid (B6.out.drew.trans (hb8.mono B6.out.drew.size)); have D8 := Lib.hid (HLI.out w8 B8.out)))
  have K8 := Lib.hid (K6.out.below hb8 K6.out.lt)
  have B18 := Lib.hid BZ5.out.drew.drew
  have HRL := Lib.hid (show r.length ≤ 500 from by have h9 := HB.out.2.2.2.2; rw [HL.out] at h9; omega)
  have GX8 := Lib.hid (show GotX w8 w.heap.size (.slice Ah ys.length ch) Lx from GX.out.below (B18.out.trans (hb8.mono B18.out.size)))
  have RB8 := Lib.hid (show Row w8 w8.heap.size Br (r.map (.int .u8)) from own_row (own_below2 HRW.out (B18.out.trans (hb8.mono B18.out.size))))
  have RT8 := Lib.hid hr5
  have CB8 := Lib.hid (own_cap HRW.out)
  have LL := Lib.hid (show Lx.length = ys.length from by rw [← HRE.out, List.length_map])
  have UX := Lib.hid (show ∀ e ∈ Lx, U8 e.d from fun e he => HB.out.2.2.1 e.re (by rw [← HRE.out]; exact List.mem_map_of_mem he))
  have LB8 := Lib.hid (show Lies w8 b off l from HX.out.below B8.out HBL.out)
  have BL8 := Lib.hid (show b < w8.heap.size from Nat.lt_of_lt_of_le HBL.out B8.out.size)
  obtain ⟨TR, hTR⟩ : ∃ TR, TR = strOfNums r := ⟨_, rfl⟩
  obtain ⟨TB, hTB⟩ : ∃ TB, TB = strOfNums (l.take (40 + sz)) := ⟨_, rfl⟩
  have tl : (l.take (40 + sz)).length = 40 + sz := by rw [List.length_take, HL.out]; omega
  have HRT := Lib.hid (show ∀ V, Below w8.heap.size w8 V → Calls Try.prog 16 #[.agg #[.int .i64 cls, .int .i64 lab, .int .i64 hop, .bool s6, .int .u64 sh, .int .u64 sl, .bool d6, .int .u64 dh, .int .u64 dl, .slice Ah ys.length ch, .int .i64 p]] V fun o w' => o = .returned (.bool true) ∧ Below V.heap.size V w' from fun V hV => by
    refine (lright_any ⟨cls, lab, hop, s6, sh, sl, d6, dh, dl, p⟩ Ah ys.length ch Lx V LL.out ((GX8.out.below hV).rd UX.out) (own_sliceLe GX8.out.row) (by have := HB.out.2.1.e.most; omega) (fun e he => by have := GX8.out.els e he; have h9 := HB.out.2.1.e; exact Nat.le_trans (le2047 HB.out.2.1.e e.re (by rw [← HRE.out]; exact List.mem_map_of_mem he)) (by omega))).mono ?_
    rintro o w' ⟨v, rfl, h1, h2⟩
    exact ⟨by rw [h1.mpr (by rw [HRE.out]; exact HB.out.2.1)], h2⟩)
  have HBY := Lib.hid (show ∀ V, Below w8.heap.size w8 V → Calls Try.prog 17 #[.agg #[.int .i64 cls, .int .i64 lab, .int .i64 hop, .bool s6, .int .u64 sh, .int .u64 sl, .bool d6, .int .u64 dh, .int .u64 dl, .slice Ah ys.length ch, .int .i64 p], .slice Br r.length cr0] V fun o w' => Below V.heap.size V w' ∧ ∃ A7 c7, o = .returned (.slice A7 (40 + sz) c7) ∧ (convert 22 9 (.slice A7 (40 + sz) c7)).run Try.prog w' = .ok (.string TB) w' from fun V hV => by
    refine (lbytes_any ⟨cls, lab, hop, s6, sh, sl, d6, dh, dl, p⟩ Ah ys.length ch Lx Br r.length cr0 r V LL.out ((GX8.out.below hV).rd UX.out) (by rw [HRE.out]; exact HB.out.2.1) HHB.out.1 HHB.out.2.1 HHB.out.2.2.1 HHB.out.2.2.2 rfl ((RB8.out.below hV).more hV.size) (by have := HRL.out; omega) CB8.out.2.2).mono ?_
    rintro o w' ⟨v, rfl, h1, h2⟩
    rw [HRE.out, HB.out.1, tl] at h1
    obtain ⟨A7, c7, rfl⟩ := own_slice h1
    refine ⟨h2, A7, c7, rfl, ?_⟩
    rw [hTB]
    exact conv_row (own_row h1) tl)
  obtain ⟨ny, hny⟩ : ∃ ny, ny = ys.length := ⟨_, rfl⟩
  obtain ⟨nr0, hnr0⟩ : ∃ nr0, nr0 = r.length := ⟨_, rfl⟩
  rw [← hny] at HRT HBY ⊢
  rw [← hnr0] at HBY ⊢
  have K8b := Lib.hid (show Blk w8 w1.heap.size 29 #[.int .i64 cls, .int .i64 lab, .int .i64 hop, .bool s6, .int .u64 sh, .int .u64 sl, .bool d6, .int .u64 dh, .int .u64 dl, .slice Ah ny ch, .int .i64 p] from by rw [hny]; exact K8.out)
  have HSV := Lib.hid (show ∀ V, Below w8.heap.size w8 V → (V.rangeAt w1.heap.size 0 [.int .i64 cls, .int .i64 lab, .int .i64 hop, .bool s6, .int .u64 sh, .int .u64 sl, .bool d6, .int .u64 dh, .int .u64 dl, .slice Ah ny ch, .int .i64 p] ∧ V.cell? ⟨w1.heap.size, 9, none⟩ = some (.slice Ah ny ch) ∧ V.cell? ⟨w1.heap.size, 10, none⟩ = some (.int .i64 p) ∧ (convert 22 9 (.slice Br nr0 cr0)).run Try.prog V = .ok (.string TR) V ∧ (convert 22 9 (.slice A4 nr0 c4)).run Try.prog V = .ok (.string TR) V ∧ (convert 22 9 (.slice (some ⟨b, off, none⟩) (40 + sz) c)).run Try.prog V = .ok (.string TB) V) from fun V hV => ⟨range_blk (K8b.out.below hV K8b.out.lt), (K8b.out.below hV K8b.out.lt).cell 9, (K8b.out.below hV K8b.out.lt).cell 10, by rw [hTR]; exact conv_row (RB8.out.below hV) hnr0.symm, by rw [hTR]; exact conv_row (RT8.out.below hV) hnr0.symm, by rw [hTB]; exact conv_row (((LB8.out.below hV BL8.out).take (40 + sz)).row (Nat.lt_of_lt_of_le BL8.out hV.size)) tl⟩)
  have hsl := slice_to b off n c (40 + sz) (by omega) (by omega)
  rw [show ((40 + sz : Nat) : Int) = 40 + (sz : Int) by omega] at hsl
  obtain ⟨u1, u2⟩ := hsl
  have HU := Lib.hid Try.underlying29
  have HI_ := Lib.hid (show (Try.prog.info? 29).map (·.size) = some ([.int .i64 cls, .int .i64 lab, .int .i64 hop, .bool s6, .int .u64 sh, .int .u64 sl, .bool d6, .int .u64 dh, .int .u64 dl, .slice Ah ny ch, .int .i64 p] : List Value).length by kernel_rfl)
  have ROW0 := HSV.out w8.drew (Below.refl _ _).drew
  have K9 := Lib.hid (show Below w8.heap.size w8 w8.drew from (Below.refl _ _).drew)
  clear y0 y4 y5 y6 z0 z4 z5 z6 hTR hTB hny hnr0 tl hb8 hr5 hr6 hr7 hr8 q1 q2 r1 r2
  go_upto_region 18 with fail
  refine wp_region_held_drew (S := fun V => V.rangeAt w1.heap.size 0 [.int .i64 cls, .int .i64 lab, .int .i64 hop, .bool s6, .int .u64 sh, .int .u64 sl, .bool d6, .int .u64 dh, .int .u64 dl, .slice Ah ny ch, .int .i64 p] ∧ V.cell? ⟨w1.heap.size, 9, none⟩ = some (.slice Ah ny ch) ∧ V.cell? ⟨w1.heap.size, 10, none⟩ = some (.int .i64 p) ∧ (convert 22 9 (.slice Br nr0 cr0)).run Try.prog V = .ok (.string TR) V ∧ (convert 22 9 (.slice A4 nr0 c4)).run Try.prog V = .ok (.string TR) V ∧ (convert 22 9 (.slice (some ⟨b, off, none⟩) (40 + sz) c)).run Try.prog V = .ok (.string TB) V) (by kernel_rfl) ROW0 (fun hHeld => ?_)
  refine wpAnyH_take (i := 0) (v := .int .i64 0) rfl (by kernel_rfl) (by kernel_rfl) (by kernel_rfl) (fun _ _ _ h => h) (Or.inl ⟨by rfl, ?_⟩) (by assumption) ?_
  · intro V hV
    obtain ⟨_, v9, v10, v1, v2, v3⟩ := hV
    go_simp
  try simp only [List.getElem_toArray, List.getElem_cons_zero, Act.put, List.setIfInBounds_toArray, List.set_cons_zero, List.set_cons_succ]
  refine wpAnyH_take (i := 1) (v := .bool true) rfl (by kernel_rfl) (by kernel_rfl) (by kernel_rfl) (fun _ _ _ h => h) (Or.inl ⟨by rfl, ?_⟩) (by assumption) ?_
  · intro V hV
    obtain ⟨_, v9, v10, v1, v2, v3⟩ := hV
    go_simp
  try simp only [List.getElem_toArray, List.getElem_cons_zero, List.getElem_cons_succ, Act.put, List.setIfInBounds_toArray, List.set_cons_zero, List.set_cons_succ]
  refine wpAnyH_take (i := 2) (v := .bool true) rfl (by kernel_rfl) (by kernel_rfl) (by kernel_rfl) (fun _ _ _ h => h) (Or.inl ⟨by rfl, ?_⟩) (by assumption) ?_
  · intro V hV
    obtain ⟨_, v9, v10, v1, v2, v3⟩ := hV
    go_simp
  try simp only [List.getElem_toArray, List.getElem_cons_zero, List.getElem_cons_succ, Act.put, List.setIfInBounds_toArray, List.set_cons_zero, List.set_cons_succ]
  refine wpAnyH_take (i := 3) (v := .slice Br nr0 cr0) rfl (by kernel_rfl) (by kernel_rfl) (by kernel_rfl) (fun _ _ _ h => h) (Or.inl ⟨by rfl, ?_⟩) (by assumption) ?_
  · intro V hV
    obtain ⟨_, v9, v10, v1, v2, v3⟩ := hV
    go_simp
  try simp only [List.getElem_toArray, List.getElem_cons_zero, List.getElem_cons_succ, Act.put, List.setIfInBounds_toArray, List.set_cons_zero, List.set_cons_succ]
  refine wpAnyH_take (i := 4) (v := .string TR) rfl (by kernel_rfl) (by kernel_rfl) (by kernel_rfl) (fun _ _ _ h => h) (Or.inl ⟨by rfl, ?_⟩) (by assumption) ?_
  · intro V hV
    obtain ⟨_, v9, v10, v1, v2, v3⟩ := hV
    go_simp
  try simp only [List.getElem_toArray, List.getElem_cons_zero, List.getElem_cons_succ, Act.put, List.setIfInBounds_toArray, List.set_cons_zero, List.set_cons_succ]
  refine wpAnyH_take (i := 5) (v := .slice A4 nr0 c4) rfl (by kernel_rfl) (by kernel_rfl) (by kernel_rfl) (fun _ _ _ h => h) (Or.inl ⟨by rfl, ?_⟩) (by assumption) ?_
  · intro V hV
    obtain ⟨_, v9, v10, v1, v2, v3⟩ := hV
    go_simp
  try simp only [List.getElem_toArray, List.getElem_cons_zero, List.getElem_cons_succ, Act.put, List.setIfInBounds_toArray, List.set_cons_zero, List.set_cons_succ]
  refine wpAnyH_take (i := 6) (v := .string TR) rfl (by kernel_rfl) (by kernel_rfl) (by kernel_rfl) (fun _ _ _ h => h) (Or.inl ⟨by rfl, ?_⟩) (by assumption) ?_
  · intro V hV
    obtain ⟨_, v9, v10, v1, v2, v3⟩ := hV
    go_simp
  try simp only [List.getElem_toArray, List.getElem_cons_zero, List.getElem_cons_succ, Act.put, List.setIfInBounds_toArray, List.set_cons_zero, List.set_cons_succ]
  refine wpAnyH_take (i := 7) (v := .bool true) rfl (by kernel_rfl) (by kernel_rfl) (by kernel_rfl) (fun _ _ _ h => h) (Or.inl ⟨by rfl, ?_⟩) (by assumption) ?_
  · intro V hV
    obtain ⟨_, v9, v10, v1, v2, v3⟩ := hV
    go_simp
  try simp only [List.getElem_toArray, List.getElem_cons_zero, List.getElem_cons_succ, Act.put, List.setIfInBounds_toArray, List.set_cons_zero, List.set_cons_succ]
  refine wpAnyH_take (i := 8) (v := .bool true) rfl (by kernel_rfl) (by kernel_rfl) (by kernel_rfl) (fun _ _ _ h => h) (Or.inl ⟨by rfl, ?_⟩) (by assumption) ?_
  · intro V hV
    obtain ⟨_, v9, v10, v1, v2, v3⟩ := hV
    go_simp
  try simp only [List.getElem_toArray, List.getElem_cons_zero, List.getElem_cons_succ, Act.put, List.setIfInBounds_toArray, List.set_cons_zero, List.set_cons_succ]
  refine wpAnyH_take (i := 9) (v := .bool true) rfl (by kernel_rfl) (by kernel_rfl) (by kernel_rfl) (fun _ _ _ h => h) (Or.inl ⟨by rfl, ?_⟩) (by assumption) ?_
  · intro V hV
    obtain ⟨_, v9, v10, v1, v2, v3⟩ := hV
    go_simp
  try simp only [List.getElem_toArray, List.getElem_cons_zero, List.getElem_cons_succ, Act.put, List.setIfInBounds_toArray, List.set_cons_zero, List.set_cons_succ]
  refine wpAnyH_take (i := 10) (v := .pointer (some ⟨w1.heap.size, 10, none⟩)) rfl (by kernel_rfl) (by kernel_rfl) (by kernel_rfl) (fun _ _ _ h => h) (Or.inl ⟨by rfl, ?_⟩) (by assumption) ?_
  · intro V hV
    obtain ⟨_, v9, v10, v1, v2, v3⟩ := hV
    go_simp
  try simp only [List.getElem_toArray, List.getElem_cons_zero, List.getElem_cons_succ, Act.put, List.setIfInBounds_toArray, List.set_cons_zero, List.set_cons_succ]
  refine wpAnyH_take (i := 11) (v := .int .i64 p) rfl (by kernel_rfl) (by kernel_rfl) (by kernel_rfl) (fun _ _ _ h => h) (Or.inl ⟨by rfl, ?_⟩) (by assumption) ?_
  · intro V hV
    obtain ⟨_, v9, v10, v1, v2, v3⟩ := hV
    go_simp
  try simp only [List.getElem_toArray, List.getElem_cons_zero, List.getElem_cons_succ, Act.put, List.setIfInBounds_toArray, List.set_cons_zero, List.set_cons_succ]
  refine wpAnyH_take (i := 12) (v := .int .i64 p) rfl (by kernel_rfl) (by kernel_rfl) (by kernel_rfl) (fun _ _ _ h => h) (Or.inl ⟨by rfl, ?_⟩) (by assumption) ?_
  · intro V hV
    obtain ⟨_, v9, v10, v1, v2, v3⟩ := hV
    go_simp
  try simp only [List.getElem_toArray, List.getElem_cons_zero, List.getElem_cons_succ, Act.put, List.setIfInBounds_toArray, List.set_cons_zero, List.set_cons_succ]
  refine wpAnyH_take (i := 13) (v := .bool true) rfl (by kernel_rfl) (by kernel_rfl) (by kernel_rfl) (fun _ _ _ h => h) (Or.inl ⟨by rfl, ?_⟩) (by assumption) ?_
  · intro V hV
    obtain ⟨_, v9, v10, v1, v2, v3⟩ := hV
    go_simp
  try simp only [List.getElem_toArray, List.getElem_cons_zero, List.getElem_cons_succ, Act.put, List.setIfInBounds_toArray, List.set_cons_zero, List.set_cons_succ]
  refine wpAnyH_take (i := 14) (v := .bool true) rfl (by kernel_rfl) (by kernel_rfl) (by kernel_rfl) (fun _ _ _ h => h) (Or.inl ⟨by rfl, ?_⟩) (by assumption) ?_
  · intro V hV
    obtain ⟨_, v9, v10, v1, v2, v3⟩ := hV
    go_simp
  try simp only [List.getElem_toArray, List.getElem_cons_zero, List.getElem_cons_succ, Act.put, List.setIfInBounds_toArray, List.set_cons_zero, List.set_cons_succ]
  refine wpAnyH_take (i := 15) (v := .bool true) rfl (by kernel_rfl) (by kernel_rfl) (by kernel_rfl) (fun _ _ _ h => h) (Or.inl ⟨by rfl, ?_⟩) (by assumption) ?_
  · intro V hV
    obtain ⟨_, v9, v10, v1, v2, v3⟩ := hV
    go_simp
  try simp only [List.getElem_toArray, List.getElem_cons_zero, List.getElem_cons_succ, Act.put, List.setIfInBounds_toArray, List.set_cons_zero, List.set_cons_succ]
  refine wpAnyH_take (i := 16) (v := .pointer (some ⟨w1.heap.size, 9, none⟩)) rfl (by kernel_rfl) (by kernel_rfl) (by kernel_rfl) (fun _ _ _ h => h) (Or.inl ⟨by rfl, ?_⟩) (by assumption) ?_
  · intro V hV
    obtain ⟨_, v9, v10, v1, v2, v3⟩ := hV
    go_simp
  try simp only [List.getElem_toArray, List.getElem_cons_zero, List.getElem_cons_succ, Act.put, List.setIfInBounds_toArray, List.set_cons_zero, List.set_cons_succ]
  refine wpAnyH_take (i := 17) (v := .slice Ah ny ch) rfl (by kernel_rfl) (by kernel_rfl) (by kernel_rfl) (fun _ _ _ h => h) (Or.inl ⟨by rfl, ?_⟩) (by assumption) ?_
  · intro V hV
    obtain ⟨_, v9, v10, v1, v2, v3⟩ := hV
    go_simp
  try simp only [List.getElem_toArray, List.getElem_cons_zero, List.getElem_cons_succ, Act.put, List.setIfInBounds_toArray, List.set_cons_zero, List.set_cons_succ]
  refine wpAnyH_take (i := 18) (v := .int .i64 ny) rfl (by kernel_rfl) (by kernel_rfl) (by kernel_rfl) (fun _ _ _ h => h) (Or.inl ⟨by rfl, ?_⟩) (by assumption) ?_
  · intro V hV
    obtain ⟨_, v9, v10, v1, v2, v3⟩ := hV
    go_simp
  try simp only [List.getElem_toArray, List.getElem_cons_zero, List.getElem_cons_succ, Act.put, List.setIfInBounds_toArray, List.set_cons_zero, List.set_cons_succ]
  refine wpAnyH_take (i := 19) (v := .slice A3 ny c3) rfl (by kernel_rfl) (by kernel_rfl) (by kernel_rfl) (fun _ _ _ h => h) (Or.inl ⟨by rfl, ?_⟩) (by assumption) ?_
  · intro V hV
    obtain ⟨_, v9, v10, v1, v2, v3⟩ := hV
    go_simp
  try simp only [List.getElem_toArray, List.getElem_cons_zero, List.getElem_cons_succ, Act.put, List.setIfInBounds_toArray, List.set_cons_zero, List.set_cons_succ]
  refine wpAnyH_take (i := 20) (v := .int .i64 ny) rfl (by kernel_rfl) (by kernel_rfl) (by kernel_rfl) (fun _ _ _ h => h) (Or.inl ⟨by rfl, ?_⟩) (by assumption) ?_
  · intro V hV
    obtain ⟨_, v9, v10, v1, v2, v3⟩ := hV
    go_simp
  try simp only [List.getElem_toArray, List.getElem_cons_zero, List.getElem_cons_succ, Act.put, List.setIfInBounds_toArray, List.set_cons_zero, List.set_cons_succ]
  refine wpAnyH_take (i := 21) (v := .bool true) rfl (by kernel_rfl) (by kernel_rfl) (by kernel_rfl) (fun _ _ _ h => h) (Or.inl ⟨by rfl, ?_⟩) (by assumption) ?_
  · intro V hV
    obtain ⟨_, v9, v10, v1, v2, v3⟩ := hV
    go_simp
  try simp only [List.getElem_toArray, List.getElem_cons_zero, List.getElem_cons_succ, Act.put, List.setIfInBounds_toArray, List.set_cons_zero, List.set_cons_succ]
  refine wpAnyH_take (i := 22) (v := .bool true) rfl (by kernel_rfl) (by kernel_rfl) (by kernel_rfl) (fun _ _ _ h => h) (Or.inl ⟨by rfl, ?_⟩) (by assumption) ?_
  · intro V hV
    obtain ⟨_, v9, v10, v1, v2, v3⟩ := hV
    go_simp
  try simp only [List.getElem_toArray, List.getElem_cons_zero, List.getElem_cons_succ, Act.put, List.setIfInBounds_toArray, List.set_cons_zero, List.set_cons_succ]
  refine wpAnyH_take (i := 23) (v := .bool true) rfl (by kernel_rfl) (by kernel_rfl) (by kernel_rfl) (fun _ _ _ h => h) (Or.inl ⟨by rfl, ?_⟩) (by assumption) ?_
  · intro V hV
    obtain ⟨_, v9, v10, v1, v2, v3⟩ := hV
    go_simp
  try simp only [List.getElem_toArray, List.getElem_cons_zero, List.getElem_cons_succ, Act.put, List.setIfInBounds_toArray, List.set_cons_zero, List.set_cons_succ]
  refine wpAnyH_take (i := 24) rfl (by kernel_rfl) (by kernel_rfl) (by kernel_rfl) (fun _ _ _ h => h) (yieldsIf_load_mid (by rfl) _ _ rfl w1.heap.size 0 rfl [.int .i64 cls, .int .i64 lab, .int .i64 hop, .bool s6, .int .u64 sh, .int .u64 sl, .bool d6, .int .u64 dh, .int .u64 dl, .slice Ah ny ch, .int .i64 p] _ (fun _ h => h.1) HU.out rfl HI_.out) (by assumption) ?_
  try simp only [List.getElem_toArray, List.getElem_cons_zero, List.getElem_cons_succ, Act.put, List.setIfInBounds_toArray, List.set_cons_zero, List.set_cons_succ]
  refine wpAnyH_ready (rs := [25]) (by kernel_rfl) (by simp) ?_
  refine AllReadyH.cons rfl (fun K hK => ?_) AllReadyH.nil
  go_simp
  go_at_call 16
  (with_reducible refine (HRT.out _ K9.out).mono ?_)
  rintro o w10 ⟨rfl, hb10⟩
  have K10 := Lib.hid (K9.out.trans (hb10.mono K9.out.size))
  have s10 := HSV.out w10 K10.out
  clear hb10
  refine hK.out _ _ ?_ (fun hHeld => ?_)
  · exact s10
  clear hK K
  try simp only [List.getElem_toArray, List.getElem_cons_zero, List.getElem_cons_succ, Act.put, List.setIfInBounds_toArray, List.set_cons_zero, List.set_cons_succ]
  refine wpAnyH_take (i := 26) (v := .bool true) rfl (by kernel_rfl) (by kernel_rfl) (by kernel_rfl) (fun _ _ _ h => h) (Or.inl ⟨by rfl, ?_⟩) (by assumption) ?_
  · intro V hV
    obtain ⟨_, v9, v10, v1, v2, v3⟩ := hV
    go_simp
  try simp only [List.getElem_toArray, List.getElem_cons_zero, List.getElem_cons_succ, Act.put, List.setIfInBounds_toArray, List.set_cons_zero, List.set_cons_succ]
  refine wpAnyH_take (i := 27) (v := .bool true) rfl (by kernel_rfl) (by kernel_rfl) (by kernel_rfl) (fun _ _ _ h => h) (Or.inl ⟨by rfl, ?_⟩) (by assumption) ?_
  · intro V hV
    obtain ⟨_, v9, v10, v1, v2, v3⟩ := hV
    go_simp
  try simp only [List.getElem_toArray, List.getElem_cons_zero, List.getElem_cons_succ, Act.put, List.setIfInBounds_toArray, List.set_cons_zero, List.set_cons_succ]
  refine wpAnyH_take (i := 28) rfl (by kernel_rfl) (by kernel_rfl) (by kernel_rfl) (fun _ _ _ h => h) (yieldsIf_load_mid (by rfl) _ _ rfl w1.heap.size 0 rfl [.int .i64 cls, .int .i64 lab, .int .i64 hop, .bool s6, .int .u64 sh, .int .u64 sl, .bool d6, .int .u64 dh, .int .u64 dl, .slice Ah ny ch, .int .i64 p] _ (fun _ h => h.1) HU.out rfl HI_.out) (by assumption) ?_
  try simp only [List.getElem_toArray, List.getElem_cons_zero, List.getElem_cons_succ, Act.put, List.setIfInBounds_toArray, List.set_cons_zero, List.set_cons_succ]
  refine wpAnyH_take (i := 29) (v := .slice Br nr0 cr0) rfl (by kernel_rfl) (by kernel_rfl) (by kernel_rfl) (fun _ _ _ h => h) (Or.inl ⟨by rfl, ?_⟩) (by assumption) ?_
  · intro V hV
    obtain ⟨_, v9, v10, v1, v2, v3⟩ := hV
    go_simp
  try simp only [List.getElem_toArray, List.getElem_cons_zero, List.getElem_cons_succ, Act.put, List.setIfInBounds_toArray, List.set_cons_zero, List.set_cons_succ]
  refine wpAnyH_take (i := 32) (v := .slice (some ⟨b, off, none⟩) n c) rfl (by kernel_rfl) (by kernel_rfl) (by kernel_rfl) (fun _ _ _ h => h) (Or.inl ⟨by rfl, ?_⟩) (by assumption) ?_
  · intro V hV
    obtain ⟨_, v9, v10, v1, v2, v3⟩ := hV
    go_simp
  try simp only [List.getElem_toArray, List.getElem_cons_zero, List.getElem_cons_succ, Act.put, List.setIfInBounds_toArray, List.set_cons_zero, List.set_cons_succ]
  refine wpAnyH_take (i := 33) (v := .int .i64 sz) rfl (by kernel_rfl) (by kernel_rfl) (by kernel_rfl) (fun _ _ _ h => h) (Or.inl ⟨by rfl, ?_⟩) (by assumption) ?_
  · intro V hV
    obtain ⟨_, v9, v10, v1, v2, v3⟩ := hV
    go_simp
  try simp only [List.getElem_toArray, List.getElem_cons_zero, List.getElem_cons_succ, Act.put, List.setIfInBounds_toArray, List.set_cons_zero, List.set_cons_succ]
  refine wpAnyH_take (i := 34) (v := .int .i64 (40 + (sz : Int))) rfl (by kernel_rfl) (by kernel_rfl) (by kernel_rfl) (fun _ _ _ h => h) (Or.inl ⟨by rfl, ?_⟩) (by assumption) ?_
  · intro V hV
    obtain ⟨_, v9, v10, v1, v2, v3⟩ := hV
    go_simp
  try simp only [List.getElem_toArray, List.getElem_cons_zero, List.getElem_cons_succ, Act.put, List.setIfInBounds_toArray, List.set_cons_zero, List.set_cons_succ]
  refine wpAnyH_take (i := 35) (v := .slice (some ⟨b, off, none⟩) (40 + sz) c) rfl (by kernel_rfl) (by kernel_rfl) (by kernel_rfl) (fun _ _ _ h => h) (Or.inl ⟨by rfl, ?_⟩) (by assumption) ?_
  · intro V hV
    obtain ⟨_, v9, v10, v1, v2, v3⟩ := hV
    go_simp
  try simp only [List.getElem_toArray, List.getElem_cons_zero, List.getElem_cons_succ, Act.put, List.setIfInBounds_toArray, List.set_cons_zero, List.set_cons_succ]
  refine wpAnyH_take (i := 36) (v := .string TB) rfl (by kernel_rfl) (by kernel_rfl) (by kernel_rfl) (fun _ _ _ h => h) (Or.inl ⟨by rfl, ?_⟩) (by assumption) ?_
  · intro V hV
    obtain ⟨_, v9, v10, v1, v2, v3⟩ := hV
    go_simp
  try simp only [List.getElem_toArray, List.getElem_cons_zero, List.getElem_cons_succ, Act.put, List.setIfInBounds_toArray, List.set_cons_zero, List.set_cons_succ]
  refine wpAnyH_ready (rs := [30]) (by kernel_rfl) (by simp) ?_
  refine AllReadyH.cons rfl (fun K hK => ?_) AllReadyH.nil
  go_simp
  go_at_call 17
  (with_reducible refine (HBY.out _ K10.out).mono ?_)
  rintro o w11 ⟨hb11, A7, c7, rfl, cv7⟩
  have K11 := Lib.hid (K10.out.trans (hb11.mono K10.out.size))
  have s11 := HSV.out w11 K11.out
  clear hb11
  refine hK.out _ _ ?_ (fun hHeld => ?_)
  · exact s11
  clear hK K
  try simp only [List.getElem_toArray, List.getElem_cons_zero, List.getElem_cons_succ, Act.put, List.setIfInBounds_toArray, List.set_cons_zero, List.set_cons_succ]
  refine wpAnyH_ready (rs := [31]) (by kernel_rfl) (by simp) ?_
  refine AllReadyH.cons rfl (fun K hK => ?_) AllReadyH.nil
  go_simp
  refine hK.out _ _ ?_ (fun hHeld => ?_)
  · exact s11
  clear hK K
  try simp only [List.getElem_toArray, List.getElem_cons_zero, List.getElem_cons_succ, Act.put, List.setIfInBounds_toArray, List.set_cons_zero, List.set_cons_succ]
  refine wpAnyH_take (i := 37) (v := .bool true) rfl (by kernel_rfl) (by kernel_rfl) (by kernel_rfl) (fun _ _ _ h => h) (Or.inl ⟨by rfl, ?_⟩) (by assumption) ?_
  · intro V hV
    obtain ⟨_, v9, v10, v1, v2, v3⟩ := hV
    go_simp
  try simp only [List.getElem_toArray, List.getElem_cons_zero, List.getElem_cons_succ, Act.put, List.setIfInBounds_toArray, List.set_cons_zero, List.set_cons_succ]
  refine wpAnyH_take (i := 38) (v := .bool true) rfl (by kernel_rfl) (by kernel_rfl) (by kernel_rfl) (fun _ _ _ h => h) (Or.inl ⟨by rfl, ?_⟩) (by assumption) ?_
  · intro V hV
    obtain ⟨_, v9, v10, v1, v2, v3⟩ := hV
    go_simp
  try simp only [List.getElem_toArray, List.getElem_cons_zero, List.getElem_cons_succ, Act.put, List.setIfInBounds_toArray, List.set_cons_zero, List.set_cons_succ]
  refine wpAnyH_take (i := 39) (v := .bool true) rfl (by kernel_rfl) (by kernel_rfl) (by kernel_rfl) (fun _ _ _ h => h) (Or.inl ⟨by rfl, ?_⟩) (by assumption) ?_
  · intro V hV
    obtain ⟨_, v9, v10, v1, v2, v3⟩ := hV
    go_simp
  try simp only [List.getElem_toArray, List.getElem_cons_zero, List.getElem_cons_succ, Act.put, List.setIfInBounds_toArray, List.set_cons_zero, List.set_cons_succ]
  refine wpAnyH_ready (rs := [40]) (by kernel_rfl) (by simp) ?_
  refine AllReadyH.cons rfl (fun K hK => ?_) AllReadyH.nil
  go_simp
  go_at_call 14
  (with_reducible refine (awake_any _).mono ?_)
  rintro o w12 ⟨rfl, hb12⟩
  have K12 := Lib.hid (K11.out.trans (hb12.mono K11.out.size))
  have s12 := HSV.out w12 K12.out
  clear hb12
  refine hK.out _ _ ?_ (fun hHeld => ?_)
  · exact s12
  clear hK K
  try simp only [List.getElem_toArray, List.getElem_cons_zero, List.getElem_cons_succ, Act.put, List.setIfInBounds_toArray, List.set_cons_zero, List.set_cons_succ]
  refine wpAnyH_take (i := 41) (v := .bool true) rfl (by kernel_rfl) (by kernel_rfl) (by kernel_rfl) (fun _ _ _ h => h) (Or.inl ⟨by rfl, ?_⟩) (by assumption) ?_
  · intro V hV
    obtain ⟨_, v9, v10, v1, v2, v3⟩ := hV
    go_simp
  try simp only [List.getElem_toArray, List.getElem_cons_zero, List.getElem_cons_succ, Act.put, List.setIfInBounds_toArray, List.set_cons_zero, List.set_cons_succ]
  refine wpAnyH_take (i := 42) (v := .bool true) rfl (by kernel_rfl) (by kernel_rfl) (by kernel_rfl) (fun _ _ _ h => h) (Or.inl ⟨by rfl, ?_⟩) (by assumption) ?_
  · intro V hV
    obtain ⟨_, v9, v10, v1, v2, v3⟩ := hV
    go_simp
  try simp only [List.getElem_toArray, List.getElem_cons_zero, List.getElem_cons_succ, Act.put, List.setIfInBounds_toArray, List.set_cons_zero, List.set_cons_succ]
  refine wpAnyH_done (by kernel_rfl) ?_ _
  go_wp2_with fail
  go_ret
  exact ⟨rfl, B8.out.trans (K12.out.mono B8.out.size)⟩
set_option maxHeartbeats 8000000 in
set_option maxRecDepth 100000 in
theorem law_y_ok (b off n0 n c : Nat) (AX : Option Addr) (AY : Option Addr) (l : List Int) (yq : List XP) (qq : Int) (rq : List Int) (ys : List XP) (q : Int) (r : List Int) (w : World) (hn5 : n ≤ 500) (hn : 40 ≤ n) (hnc : n ≤ c) (hc : c ≤ 9223372036854775807) (hbl : b < w.heap.size) (hs : Lies w b off l) (hu : U8 l) (hl : l.length = n) (hv : l.getD 0 0 / 16 = 6) (hz : sizeP l ≤ n - 40)
    (HC : Hid (∀ W, Calls Try.prog 10 #[.slice (some ⟨b, off, none⟩) n0 c] W fun o w' => o = .returned (.slice (some ⟨b, off, none⟩) n c) ∧ W = w'))
    (HP : Hid (∀ W, Below w.heap.size w W → Calls Try.prog 11 #[.slice (some ⟨b, off, none⟩) n c] W (GoodP W l ys q r))) (HQ : Hid (∀ W, Below w.heap.size w W → Calls Try.prog 12 #[.slice (some ⟨b, off, none⟩) n c] W (QuoP W (some (yq, qq, rq)))))
    (HC1 : Hid (∀ W, Below w.heap.size w W → Calls Try.prog 15 #[.int .i64 (l.getD 6 0), .slice AX (n - 40) (c - 40)] W (ChnP W (some (yq, qq, rq)))))
    (HS1 : Hid ((∀ W : World, (Instr.slice 22 (.slice (some ⟨b, off, none⟩) n c) (some (.int .i64 40)) none none).run Try.prog W = .ok (.slice AX (n - 40) (c - 40)) W) ∧ (∀ W : World, (Instr.sliceAt 22 (.slice (some ⟨b, off, none⟩) n c) (some (.int .i64 40)) none none).run Try.prog W = .ok (.slice AX (n - 40) (c - 40)) W)))
    (HC2 : Hid (∀ W, Below w.heap.size w W → Calls Try.prog 15 #[.int .i64 (l.getD 6 0), .slice AY (sizeP l) (c - 40)] W (ChnP W (some (ys, q, r)))))
    (HS2 : Hid ((∀ W : World, (Instr.slice 22 (.slice (some ⟨b, off, none⟩) n c) (some (.int .i64 40)) (some (.int .i64 (40 + (sizeP l : Int)))) none).run Try.prog W = .ok (.slice AY (sizeP l) (c - 40)) W) ∧ (∀ W : World, (Instr.sliceAt 22 (.slice (some ⟨b, off, none⟩) n c) (some (.int .i64 40)) (some (.int .i64 (40 + (sizeP l : Int)))) none).run Try.prog W = .ok (.slice AY (sizeP l) (c - 40)) W)))
    (HB : Hid (sixB (hdOf l q) ys r = l.take (40 + sizeP l) ∧ RightH (hdOf l q) ys ∧ (∀ x ∈ ys, U8 x.2) ∧ U8 r ∧ r.length ≤ l.length)) :
    Calls Try.prog 3 #[.slice (some ⟨b, off, none⟩) n0 c] w fun o w' => o = .returned (.bool true) ∧ Below w.heap.size w w' := by
  have HL := Lib.hid hl
  have HBL := Lib.hid hbl
  have HX := Lib.hid hs
  obtain ⟨sz, hsz⟩ : ∃ sz, sz = sizeP l := ⟨_, rfl⟩
  obtain ⟨x0, e0⟩ : ∃ x, x = l.getD 0 0 := ⟨_, rfl⟩
  obtain ⟨x4, e4⟩ : ∃ x, x = l.getD 4 0 := ⟨_, rfl⟩
  obtain ⟨x5, e5⟩ : ∃ x, x = l.getD 5 0 := ⟨_, rfl⟩
  obtain ⟨x6, e6⟩ : ∃ x, x = l.getD 6 0 := ⟨_, rfl⟩
  have b0 := hu.get 0; have b4 := hu.get 4; have b5 := hu.get 5; have b6 := hu.get 6
  rw [← e0] at b0 hv
  rw [← e4] at b4
  rw [← e5] at b5
  rw [← e6] at b6 HC1 HC2
  have hsz5 : (sz : Int) = 256 * x4 + x5 := by rw [hsz, e4, e5]; unfold sizeP; have := hu.get 4; have := hu.get 5; omega
  rw [← hsz] at hz HC2 HS2 HB
  have HLI := Lib.hid (show ∀ W, Below w.heap.size w W → W.cell? ⟨b, off, none⟩ = some (.int .u8 x0) ∧ W.cell? ⟨b, off + 4, none⟩ = some (.int .u8 x4) ∧ W.cell? ⟨b, off + 5, none⟩ = some (.int .u8 x5) ∧ W.cell? ⟨b, off + 6, none⟩ = some (.int .u8 x6) from fun W hW => by
    have h9 := hs.below hW hbl
    rw [e0, e4, e5, e6]
    exact ⟨h9 0 (by omega), h9 4 (by omega), h9 5 (by omega), h9 6 (by omega)⟩)
  have x16 : IntKind.u8.wrap (x0.tdiv 16) = x0 / 16 := by rw [IntKind.wrap_u8', Int.tdiv_eq_ediv_of_nonneg (by omega)]; omega
  have xe : (x0 / 16 != 6) = false := by simpa using hv
  have t1 : decide ((n : Int) < 40) = false := decide_eq_false (by omega)
  have t1n : decide (n < 40) = false := decide_eq_false (by omega)
  have w6 : IntKind.i64.wrap x6 = x6 := IntWalk.i64_in _ (by omega)
  have w4_ : IntKind.i64.wrap x4 = x4 := IntWalk.i64_in _ (by omega)
  have w5_ : IntKind.i64.wrap x5 = x5 := IntWalk.i64_in _ (by omega)
  have w45 : IntKind.i64.wrap (256 * x4) = 256 * x4 := IntWalk.i64_in _ (by omega)
  have w46 : IntKind.i64.wrap (256 * x4 + x5) = (sz : Int) := by rw [IntWalk.i64_in _ (by omega)]; omega
  have wn : IntKind.i64.wrap ((n : Int) - 40) = ((n - 40 : Nat) : Int) := by rw [IntWalk.i64_in _ (by omega)]; omega
  have n4 : 4 < n := by omega
  have n5 : 5 < n := by omega
  have n6 : 6 < n := by omega
  have m4 : (4 : Int) < n := by omega
  have m5 : (5 : Int) < n := by omega
  have m6 : (6 : Int) < n := by omega
  obtain ⟨r1, r2⟩ := HS1.out
  have HSZ := Lib.hid hsz5
  have HB0 : (0 ≤ (hdOf l q).sh ∧ (hdOf l q).sh < 18446744073709551616) ∧ (0 ≤ (hdOf l q).sl ∧ (hdOf l q).sl < 18446744073709551616) ∧ (0 ≤ (hdOf l q).dh ∧ (hdOf l q).dh < 18446744073709551616) ∧ (0 ≤ (hdOf l q).dl ∧ (hdOf l q).dl < 18446744073709551616) := ⟨atN_in8 _ (hu.drop 8) 0, atN_in8 _ (hu.drop 8) 8, atN_in8 _ (hu.drop 24) 0, atN_in8 _ (hu.drop 24) 8⟩
  have sz6 : sz ≤ 65535 := by omega
  clear hs hu hl e0 e4 e5 e6 hsz hbl hsz5
  go_enter Try.func3, Try.ntmps3
  go_wp2_with fail
  refine (HC.out _).mono ?_
  rintro o w' ⟨rfl, rfl⟩
  go_wp2_with fail
  refine (HP.out _ (Below.refl _ _)).mono ?_
  rintro o w1 ⟨hb1, Lx, Ah, ch, Br, cr0, rfl, hre, hgot, hrow⟩
  obtain ⟨hh, ehh⟩ : ∃ hh, hh = hdOf l q := ⟨_, rfl⟩
  have hpq : (hdOf l q).p = q := rfl
  rw [← ehh] at HB HB0 hpq ⊢
  obtain ⟨cls, lab, hop, s6, sh, sl, d6, dh, dl, p⟩ := hh
  obtain rfl : p = q := hpq
  simp only [Hs.cells]
  have HRE := Lib.hid hre
  have GX := Lib.hid hgot
  have HRW := Lib.hid hrow
  have HHB := Lib.hid (show (0 ≤ sh ∧ sh < 18446744073709551616) ∧ (0 ≤ sl ∧ sl < 18446744073709551616) ∧ (0 ≤ dh ∧ dh < 18446744073709551616) ∧ (0 ≤ dl ∧ dl < 18446744073709551616) from HB0)
  obtain ⟨w2, hw2⟩ : ∃ w2, w2 = w1.alloc (.cells #[.int .i64 cls, .int .i64 lab, .int .i64 hop, .bool s6, .int .u64 sh, .int .u64 sl, .bool d6, .int .u64 dh, .int .u64 dl, .slice Ah ys.length ch, .int .i64 p] 29) := ⟨_, rfl⟩
  have K2 := Lib.hid (show Blk w2 w1.heap.size 29 #[.int .i64 cls, .int .i64 lab, .int .i64 hop, .bool s6, .int .u64 sh, .int .u64 sl, .bool d6, .int .u64 dh, .int .u64 dl, .slice Ah ys.length ch, .int .i64 p] from by rw [hw2]; exact Blk.new w1 _ _)
  have E2 := Lib.hid hw2
  have B2 := Lib.hid (show Below w.heap.size w w2 from by rw [hw2]; exact hb1.trans ((Below.refl _ _).alloc hb1.size _))
  have BZ2 := Lib.hid (show Below w1.heap.size w1 w2 from by rw [hw2]; exact (Below.refl _ _).alloc (Nat.le_refl _) _)
  clear hw2 hb1 hre hgot hrow ehh HB0
  go_upto_region 3 with fail
  rw [← E2.out]
  go_wp2_with fail
  refine (HQ.out _ B2.out).mono ?_
  rintro o w3 ⟨hb3, hq, AQ, nq, cq, BQ, nr, cr, f, rfl, hf⟩
  obtain ⟨qcls, qlab, qhop, qs6, qsh, qsl, qd6, qdh, qdl, qp⟩ := hq
  simp only [Hs.cells]
  obtain ⟨hf0, hnr, hfr⟩ := hf
  subst hf0
  have HNR := Lib.hid hnr
  have HFR := Lib.hid hfr
  clear hnr hfr
  obtain ⟨w4, hw4⟩ : ∃ w4, w4 = w3.alloc (.cells #[.int .i64 qcls, .int .i64 qlab, .int .i64 qhop, .bool qs6, .int .u64 qsh, .int .u64 qsl, .bool qd6, .int .u64 qdh, .int .u64 qdl, .slice AQ nq cq, .int .i64 qp] 29) := ⟨_, rfl⟩
  have E4 := Lib.hid hw4
  have K3 := Lib.hid (K2.out.below hb3 K2.out.lt)
  have B3 := Lib.hid (B2.out.trans (hb3.mono B2.out.size))
  have B34 := Lib.hid (show Below w3.heap.size w3 w4 from by rw [hw4]; exact (Below.refl _ _).alloc (Nat.le_refl _) _)
  have BZ4 := Lib.hid ((BZ2.out.trans (hb3.mono BZ2.out.size)).trans (B34.out.mono (Nat.le_trans BZ2.out.size hb3.size)))
  have B4 := Lib.hid (B3.out.trans (B34.out.mono B3.out.size))
  have K4 := Lib.hid (K3.out.below B34.out K3.out.lt)
  clear hw4 hb3
  go_upto_region 4 with fail
  rw [← E4.out]
  obtain ⟨y0, y4, y5, y6⟩ := HLI.out w4 B4.out
  go_upto_region 9 with fail
  have D4 := Lib.hid (HLI.out w4.drew B4.out.drew)
  go_region_held3 (fun W => W.cell? ⟨b, off, none⟩ = some (.int .u8 x0) ∧ W.cell? ⟨b, off + 4, none⟩ = some (.int .u8 x4) ∧ W.cell? ⟨b, off + 5, none⟩ = some (.int .u8 x5) ∧ W.cell? ⟨b, off + 6, none⟩ = some (.int .u8 x6)) (first | with_reducible assumption | with_reducible exact D5.out | with_reducible exact D4.out) (first
    | (go_at_call 15; with_reducible refine (HC1.out _ B4.out.drew).mono ?_; rintro o w5 hch; obtain ⟨hb5, A1, c1, A2, c2, rfl, hr1, hr2, hr3, hr4⟩ := chnP_some hch; have B5 := Lib.hid (B4.out.drew.trans (hb5.mono B4.out.drew.size)); have D5 := Lib.hid (HLI.out w5 B5.out)))
  clear y0 y4 y5 y6 D4 D5
  have K5 := Lib.hid (K4.out.below (((Below.refl _ _).drew).trans (hb5.mono (Nat.le_refl _))) K4.out.lt)
  obtain ⟨TQ, hTQ⟩ : ∃ TQ, TQ = strOfNums rq := ⟨_, rfl⟩
  have cv2 := conv_row (c := c2) hr1 rfl
  have cv1 := conv_row (c := cr) ((HFR.out.below ((B34.out.drew.trans (hb5.mono B34.out.drew.size)))).more (Nat.le_trans B34.out.size hb5.size)) HNR.out.symm
  rw [← hTQ] at cv1 cv2
  clear hTQ hr1 hr2 hr3 hr4
  have BZ5 := Lib.hid (BZ4.out.drew.trans (hb5.mono BZ4.out.drew.size))
  clear hb5
  obtain ⟨y0, y4, y5, y6⟩ := HLI.out w5 B5.out
  obtain ⟨z0, z4, z5, z6⟩ := HLI.out w5.drew B5.out.drew
  have t13 : decide (((n - 40 : Nat) : Int) < (sz : Int)) = false := decide_eq_false (by omega)
  have t13n : decide (n - 40 < sz) = false := decide_eq_false (by omega)
  go_upto_region 12 with fail
  have D6 := Lib.hid (HLI.out w5.drew B5.out.drew)
  go_region_held3 (fun W => W.cell? ⟨b, off, none⟩ = some (.int .u8 x0) ∧ W.cell? ⟨b, off + 4, none⟩ = some (.int .u8 x4) ∧ W.cell? ⟨b, off + 5, none⟩ = some (.int .u8 x5) ∧ W.cell? ⟨b, off + 6, none⟩ = some (.int .u8 x6)) (first | with_reducible assumption | with_reducible exact D6.out) (first | fail)
  obtain ⟨q1, q2⟩ := HS2.out
  have w40 : IntKind.i64.wrap (40 + (sz : Int)) = 40 + (sz : Int) := IntWalk.i64_in _ (by omega)
  have j40 : (40 : Int) ≤ 40 + (sz : Int) := by omega
  have B6 := Lib.hid B5.out.drew
  have D7 := Lib.hid (HLI.out w5.drew.drew B6.out.drew)
  have K6 := Lib.hid (K5.out.below (((Below.refl _ _).drew).drew) K5.out.lt)
  go_upto_region 15 with fail
  go_region_held3 (fun W => W.cell? ⟨b, off, none⟩ = some (.int .u8 x0) ∧ W.cell? ⟨b, off + 4, none⟩ = some (.int .u8 x4) ∧ W.cell? ⟨b, off + 5, none⟩ = some (.int .u8 x5) ∧ W.cell? ⟨b, off + 6, none⟩ = some (.int .u8 x6)) (first | with_reducible assumption | with_reducible exact D8.out | with_reducible exact D7.out) (first
    | (go_at_call 15; with_reducible refine (HC2.out _ B6.out.drew).mono ?_; rintro o w8 hch; obtain ⟨hb8, A3, c3, A4, c4, rfl, hr5, hr6, hr7, hr8⟩ := chnP_some hch; have B8 := Lib.hid (B6.out.drew.trans (hb8.mono B6.out.drew.size)); have D8 := Lib.hid (HLI.out w8 B8.out)))
  have K8 := Lib.hid (K6.out.below hb8 K6.out.lt)
  have B18 := Lib.hid BZ5.out.drew.drew
  have HRL := Lib.hid (show r.length ≤ 500 from by have h9 := HB.out.2.2.2.2; rw [HL.out] at h9; omega)
  have GX8 := Lib.hid (show GotX w8 w.heap.size (.slice Ah ys.length ch) Lx from GX.out.below (B18.out.trans (hb8.mono B18.out.size)))
  have RB8 := Lib.hid (show Row w8 w8.heap.size Br (r.map (.int .u8)) from own_row (own_below2 HRW.out (B18.out.trans (hb8.mono B18.out.size))))
  have RT8 := Lib.hid hr5
  have CB8 := Lib.hid (own_cap HRW.out)
  have LL := Lib.hid (show Lx.length = ys.length from by rw [← HRE.out, List.length_map])
  have UX := Lib.hid (show ∀ e ∈ Lx, U8 e.d from fun e he => HB.out.2.2.1 e.re (by rw [← HRE.out]; exact List.mem_map_of_mem he))
  have LB8 := Lib.hid (show Lies w8 b off l from HX.out.below B8.out HBL.out)
  have BL8 := Lib.hid (show b < w8.heap.size from Nat.lt_of_lt_of_le HBL.out B8.out.size)
  obtain ⟨TR, hTR⟩ : ∃ TR, TR = strOfNums r := ⟨_, rfl⟩
  obtain ⟨TB, hTB⟩ : ∃ TB, TB = strOfNums (l.take (40 + sz)) := ⟨_, rfl⟩
  have tl : (l.take (40 + sz)).length = 40 + sz := by rw [List.length_take, HL.out]; omega
  have HRT := Lib.hid (show ∀ V, Below w8.heap.size w8 V → Calls Try.prog 16 #[.agg #[.int .i64 cls, .int .i64 lab, .int .i64 hop, .bool s6, .int .u64 sh, .int .u64 sl, .bool d6, .int .u64 dh, .int .u64 dl, .slice Ah ys.length ch, .int .i64 p]] V fun o w' => o = .returned (.bool true) ∧ Below V.heap.size V w' from fun V hV => by
    refine (lright_any ⟨cls, lab, hop, s6, sh, sl, d6, dh, dl, p⟩ Ah ys.length ch Lx V LL.out ((GX8.out.below hV).rd UX.out) (own_sliceLe GX8.out.row) (by have := HB.out.2.1.e.most; omega) (fun e he => by have := GX8.out.els e he; have h9 := HB.out.2.1.e; exact Nat.le_trans (le2047 HB.out.2.1.e e.re (by rw [← HRE.out]; exact List.mem_map_of_mem he)) (by omega))).mono ?_
    rintro o w' ⟨v, rfl, h1, h2⟩
    exact ⟨by rw [h1.mpr (by rw [HRE.out]; exact HB.out.2.1)], h2⟩)
  have HBY := Lib.hid (show ∀ V, Below w8.heap.size w8 V → Calls Try.prog 17 #[.agg #[.int .i64 cls, .int .i64 lab, .int .i64 hop, .bool s6, .int .u64 sh, .int .u64 sl, .bool d6, .int .u64 dh, .int .u64 dl, .slice Ah ys.length ch, .int .i64 p], .slice Br r.length cr0] V fun o w' => Below V.heap.size V w' ∧ ∃ A7 c7, o = .returned (.slice A7 (40 + sz) c7) ∧ (convert 22 9 (.slice A7 (40 + sz) c7)).run Try.prog w' = .ok (.string TB) w' from fun V hV => by
    refine (lbytes_any ⟨cls, lab, hop, s6, sh, sl, d6, dh, dl, p⟩ Ah ys.length ch Lx Br r.length cr0 r V LL.out ((GX8.out.below hV).rd UX.out) (by rw [HRE.out]; exact HB.out.2.1) HHB.out.1 HHB.out.2.1 HHB.out.2.2.1 HHB.out.2.2.2 rfl ((RB8.out.below hV).more hV.size) (by have := HRL.out; omega) CB8.out.2.2).mono ?_
    rintro o w' ⟨v, rfl, h1, h2⟩
    rw [HRE.out, HB.out.1, tl] at h1
    obtain ⟨A7, c7, rfl⟩ := own_slice h1
    refine ⟨h2, A7, c7, rfl, ?_⟩
    rw [hTB]
    exact conv_row (own_row h1) tl)
  obtain ⟨ny, hny⟩ : ∃ ny, ny = ys.length := ⟨_, rfl⟩
  obtain ⟨nr0, hnr0⟩ : ∃ nr0, nr0 = r.length := ⟨_, rfl⟩
  rw [← hny] at HRT HBY ⊢
  rw [← hnr0] at HBY ⊢
  have K8b := Lib.hid (show Blk w8 w1.heap.size 29 #[.int .i64 cls, .int .i64 lab, .int .i64 hop, .bool s6, .int .u64 sh, .int .u64 sl, .bool d6, .int .u64 dh, .int .u64 dl, .slice Ah ny ch, .int .i64 p] from by rw [hny]; exact K8.out)
  have HSV := Lib.hid (show ∀ V, Below w8.heap.size w8 V → (V.rangeAt w1.heap.size 0 [.int .i64 cls, .int .i64 lab, .int .i64 hop, .bool s6, .int .u64 sh, .int .u64 sl, .bool d6, .int .u64 dh, .int .u64 dl, .slice Ah ny ch, .int .i64 p] ∧ V.cell? ⟨w1.heap.size, 9, none⟩ = some (.slice Ah ny ch) ∧ V.cell? ⟨w1.heap.size, 10, none⟩ = some (.int .i64 p) ∧ (convert 22 9 (.slice Br nr0 cr0)).run Try.prog V = .ok (.string TR) V ∧ (convert 22 9 (.slice A4 nr0 c4)).run Try.prog V = .ok (.string TR) V ∧ (convert 22 9 (.slice (some ⟨b, off, none⟩) (40 + sz) c)).run Try.prog V = .ok (.string TB) V) from fun V hV => ⟨range_blk (K8b.out.below hV K8b.out.lt), (K8b.out.below hV K8b.out.lt).cell 9, (K8b.out.below hV K8b.out.lt).cell 10, by rw [hTR]; exact conv_row (RB8.out.below hV) hnr0.symm, by rw [hTR]; exact conv_row (RT8.out.below hV) hnr0.symm, by rw [hTB]; exact conv_row (((LB8.out.below hV BL8.out).take (40 + sz)).row (Nat.lt_of_lt_of_le BL8.out hV.size)) tl⟩)
  have hsl := slice_to b off n c (40 + sz) (by omega) (by omega)
  rw [show ((40 + sz : Nat) : Int) = 40 + (sz : Int) by omega] at hsl
  obtain ⟨u1, u2⟩ := hsl
  have HU := Lib.hid Try.underlying29
  have HI_ := Lib.hid (show (Try.prog.info? 29).map (·.size) = some ([.int .i64 cls, .int .i64 lab, .int .i64 hop, .bool s6, .int .u64 sh, .int .u64 sl, .bool d6, .int .u64 dh, .int .u64 dl, .slice Ah ny ch, .int .i64 p] : List Value).length by kernel_rfl)
  have ROW0 := HSV.out w8.drew (Below.refl _ _).drew
  have K9 := Lib.hid (show Below w8.heap.size w8 w8.drew from (Below.refl _ _).drew)
  clear y0 y4 y5 y6 z0 z4 z5 z6 hTR hTB hny hnr0 tl hb8 hr5 hr6 hr7 hr8 q1 q2 r1 r2
  go_upto_region 18 with fail
  refine wp_region_held_drew (S := fun V => V.rangeAt w1.heap.size 0 [.int .i64 cls, .int .i64 lab, .int .i64 hop, .bool s6, .int .u64 sh, .int .u64 sl, .bool d6, .int .u64 dh, .int .u64 dl, .slice Ah ny ch, .int .i64 p] ∧ V.cell? ⟨w1.heap.size, 9, none⟩ = some (.slice Ah ny ch) ∧ V.cell? ⟨w1.heap.size, 10, none⟩ = some (.int .i64 p) ∧ (convert 22 9 (.slice Br nr0 cr0)).run Try.prog V = .ok (.string TR) V ∧ (convert 22 9 (.slice A4 nr0 c4)).run Try.prog V = .ok (.string TR) V ∧ (convert 22 9 (.slice (some ⟨b, off, none⟩) (40 + sz) c)).run Try.prog V = .ok (.string TB) V) (by kernel_rfl) ROW0 (fun hHeld => ?_)
  refine wpAnyH_take (i := 0) (v := .int .i64 0) rfl (by kernel_rfl) (by kernel_rfl) (by kernel_rfl) (fun _ _ _ h => h) (Or.inl ⟨by rfl, ?_⟩) (by assumption) ?_
  · intro V hV
    obtain ⟨_, v9, v10, v1, v2, v3⟩ := hV
    go_simp
  try simp only [List.getElem_toArray, List.getElem_cons_zero, Act.put, List.setIfInBounds_toArray, List.set_cons_zero, List.set_cons_succ]
  refine wpAnyH_take (i := 1) (v := .bool true) rfl (by kernel_rfl) (by kernel_rfl) (by kernel_rfl) (fun _ _ _ h => h) (Or.inl ⟨by rfl, ?_⟩) (by assumption) ?_
  · intro V hV
    obtain ⟨_, v9, v10, v1, v2, v3⟩ := hV
    go_simp
  try simp only [List.getElem_toArray, List.getElem_cons_zero, List.getElem_cons_succ, Act.put, List.setIfInBounds_toArray, List.set_cons_zero, List.set_cons_succ]
  refine wpAnyH_take (i := 2) (v := .bool true) rfl (by kernel_rfl) (by kernel_rfl) (by kernel_rfl) (fun _ _ _ h => h) (Or.inl ⟨by rfl, ?_⟩) (by assumption) ?_
  · intro V hV
    obtain ⟨_, v9, v10, v1, v2, v3⟩ := hV
    go_simp
  try simp only [List.getElem_toArray, List.getElem_cons_zero, List.getElem_cons_succ, Act.put, List.setIfInBounds_toArray, List.set_cons_zero, List.set_cons_succ]
  refine wpAnyH_take (i := 3) (v := .slice Br nr0 cr0) rfl (by kernel_rfl) (by kernel_rfl) (by kernel_rfl) (fun _ _ _ h => h) (Or.inl ⟨by rfl, ?_⟩) (by assumption) ?_
  · intro V hV
    obtain ⟨_, v9, v10, v1, v2, v3⟩ := hV
    go_simp
  try simp only [List.getElem_toArray, List.getElem_cons_zero, List.getElem_cons_succ, Act.put, List.setIfInBounds_toArray, List.set_cons_zero, List.set_cons_succ]
  refine wpAnyH_take (i := 4) (v := .string TR) rfl (by kernel_rfl) (by kernel_rfl) (by kernel_rfl) (fun _ _ _ h => h) (Or.inl ⟨by rfl, ?_⟩) (by assumption) ?_
  · intro V hV
    obtain ⟨_, v9, v10, v1, v2, v3⟩ := hV
    go_simp
  try simp only [List.getElem_toArray, List.getElem_cons_zero, List.getElem_cons_succ, Act.put, List.setIfInBounds_toArray, List.set_cons_zero, List.set_cons_succ]
  refine wpAnyH_take (i := 5) (v := .slice A4 nr0 c4) rfl (by kernel_rfl) (by kernel_rfl) (by kernel_rfl) (fun _ _ _ h => h) (Or.inl ⟨by rfl, ?_⟩) (by assumption) ?_
  · intro V hV
    obtain ⟨_, v9, v10, v1, v2, v3⟩ := hV
    go_simp
  try simp only [List.getElem_toArray, List.getElem_cons_zero, List.getElem_cons_succ, Act.put, List.setIfInBounds_toArray, List.set_cons_zero, List.set_cons_succ]
  refine wpAnyH_take (i := 6) (v := .string TR) rfl (by kernel_rfl) (by kernel_rfl) (by kernel_rfl) (fun _ _ _ h => h) (Or.inl ⟨by rfl, ?_⟩) (by assumption) ?_
  · intro V hV
    obtain ⟨_, v9, v10, v1, v2, v3⟩ := hV
    go_simp
  try simp only [List.getElem_toArray, List.getElem_cons_zero, List.getElem_cons_succ, Act.put, List.setIfInBounds_toArray, List.set_cons_zero, List.set_cons_succ]
  refine wpAnyH_take (i := 7) (v := .bool true) rfl (by kernel_rfl) (by kernel_rfl) (by kernel_rfl) (fun _ _ _ h => h) (Or.inl ⟨by rfl, ?_⟩) (by assumption) ?_
  · intro V hV
    obtain ⟨_, v9, v10, v1, v2, v3⟩ := hV
    go_simp
  try simp only [List.getElem_toArray, List.getElem_cons_zero, List.getElem_cons_succ, Act.put, List.setIfInBounds_toArray, List.set_cons_zero, List.set_cons_succ]
  refine wpAnyH_take (i := 8) (v := .bool true) rfl (by kernel_rfl) (by kernel_rfl) (by kernel_rfl) (fun _ _ _ h => h) (Or.inl ⟨by rfl, ?_⟩) (by assumption) ?_
  · intro V hV
    obtain ⟨_, v9, v10, v1, v2, v3⟩ := hV
    go_simp
  try simp only [List.getElem_toArray, List.getElem_cons_zero, List.getElem_cons_succ, Act.put, List.setIfInBounds_toArray, List.set_cons_zero, List.set_cons_succ]
  refine wpAnyH_take (i := 9) (v := .bool true) rfl (by kernel_rfl) (by kernel_rfl) (by kernel_rfl) (fun _ _ _ h => h) (Or.inl ⟨by rfl, ?_⟩) (by assumption) ?_
  · intro V hV
    obtain ⟨_, v9, v10, v1, v2, v3⟩ := hV
    go_simp
  try simp only [List.getElem_toArray, List.getElem_cons_zero, List.getElem_cons_succ, Act.put, List.setIfInBounds_toArray, List.set_cons_zero, List.set_cons_succ]
  refine wpAnyH_take (i := 10) (v := .pointer (some ⟨w1.heap.size, 10, none⟩)) rfl (by kernel_rfl) (by kernel_rfl) (by kernel_rfl) (fun _ _ _ h => h) (Or.inl ⟨by rfl, ?_⟩) (by assumption) ?_
  · intro V hV
    obtain ⟨_, v9, v10, v1, v2, v3⟩ := hV
    go_simp
  try simp only [List.getElem_toArray, List.getElem_cons_zero, List.getElem_cons_succ, Act.put, List.setIfInBounds_toArray, List.set_cons_zero, List.set_cons_succ]
  refine wpAnyH_take (i := 11) (v := .int .i64 p) rfl (by kernel_rfl) (by kernel_rfl) (by kernel_rfl) (fun _ _ _ h => h) (Or.inl ⟨by rfl, ?_⟩) (by assumption) ?_
  · intro V hV
    obtain ⟨_, v9, v10, v1, v2, v3⟩ := hV
    go_simp
  try simp only [List.getElem_toArray, List.getElem_cons_zero, List.getElem_cons_succ, Act.put, List.setIfInBounds_toArray, List.set_cons_zero, List.set_cons_succ]
  refine wpAnyH_take (i := 12) (v := .int .i64 p) rfl (by kernel_rfl) (by kernel_rfl) (by kernel_rfl) (fun _ _ _ h => h) (Or.inl ⟨by rfl, ?_⟩) (by assumption) ?_
  · intro V hV
    obtain ⟨_, v9, v10, v1, v2, v3⟩ := hV
    go_simp
  try simp only [List.getElem_toArray, List.getElem_cons_zero, List.getElem_cons_succ, Act.put, List.setIfInBounds_toArray, List.set_cons_zero, List.set_cons_succ]
  refine wpAnyH_take (i := 13) (v := .bool true) rfl (by kernel_rfl) (by kernel_rfl) (by kernel_rfl) (fun _ _ _ h => h) (Or.inl ⟨by rfl, ?_⟩) (by assumption) ?_
  · intro V hV
    obtain ⟨_, v9, v10, v1, v2, v3⟩ := hV
    go_simp
  try simp only [List.getElem_toArray, List.getElem_cons_zero, List.getElem_cons_succ, Act.put, List.setIfInBounds_toArray, List.set_cons_zero, List.set_cons_succ]
  refine wpAnyH_take (i := 14) (v := .bool true) rfl (by kernel_rfl) (by kernel_rfl) (by kernel_rfl) (fun _ _ _ h => h) (Or.inl ⟨by rfl, ?_⟩) (by assumption) ?_
  · intro V hV
    obtain ⟨_, v9, v10, v1, v2, v3⟩ := hV
    go_simp
  try simp only [List.getElem_toArray, List.getElem_cons_zero, List.getElem_cons_succ, Act.put, List.setIfInBounds_toArray, List.set_cons_zero, List.set_cons_succ]
  refine wpAnyH_take (i := 15) (v := .bool true) rfl (by kernel_rfl) (by kernel_rfl) (by kernel_rfl) (fun _ _ _ h => h) (Or.inl ⟨by rfl, ?_⟩) (by assumption) ?_
  · intro V hV
    obtain ⟨_, v9, v10, v1, v2, v3⟩ := hV
    go_simp
  try simp only [List.getElem_toArray, List.getElem_cons_zero, List.getElem_cons_succ, Act.put, List.setIfInBounds_toArray, List.set_cons_zero, List.set_cons_succ]
  refine wpAnyH_take (i := 16) (v := .pointer (some ⟨w1.heap.size, 9, none⟩)) rfl (by kernel_rfl) (by kernel_rfl) (by kernel_rfl) (fun _ _ _ h => h) (Or.inl ⟨by rfl, ?_⟩) (by assumption) ?_
  · intro V hV
    obtain ⟨_, v9, v10, v1, v2, v3⟩ := hV
    go_simp
  try simp only [List.getElem_toArray, List.getElem_cons_zero, List.getElem_cons_succ, Act.put, List.setIfInBounds_toArray, List.set_cons_zero, List.set_cons_succ]
  refine wpAnyH_take (i := 17) (v := .slice Ah ny ch) rfl (by kernel_rfl) (by kernel_rfl) (by kernel_rfl) (fun _ _ _ h => h) (Or.inl ⟨by rfl, ?_⟩) (by assumption) ?_
  · intro V hV
    obtain ⟨_, v9, v10, v1, v2, v3⟩ := hV
    go_simp
  try simp only [List.getElem_toArray, List.getElem_cons_zero, List.getElem_cons_succ, Act.put, List.setIfInBounds_toArray, List.set_cons_zero, List.set_cons_succ]
  refine wpAnyH_take (i := 18) (v := .int .i64 ny) rfl (by kernel_rfl) (by kernel_rfl) (by kernel_rfl) (fun _ _ _ h => h) (Or.inl ⟨by rfl, ?_⟩) (by assumption) ?_
  · intro V hV
    obtain ⟨_, v9, v10, v1, v2, v3⟩ := hV
    go_simp
  try simp only [List.getElem_toArray, List.getElem_cons_zero, List.getElem_cons_succ, Act.put, List.setIfInBounds_toArray, List.set_cons_zero, List.set_cons_succ]
  refine wpAnyH_take (i := 19) (v := .slice A3 ny c3) rfl (by kernel_rfl) (by kernel_rfl) (by kernel_rfl) (fun _ _ _ h => h) (Or.inl ⟨by rfl, ?_⟩) (by assumption) ?_
  · intro V hV
    obtain ⟨_, v9, v10, v1, v2, v3⟩ := hV
    go_simp
  try simp only [List.getElem_toArray, List.getElem_cons_zero, List.getElem_cons_succ, Act.put, List.setIfInBounds_toArray, List.set_cons_zero, List.set_cons_succ]
  refine wpAnyH_take (i := 20) (v := .int .i64 ny) rfl (by kernel_rfl) (by kernel_rfl) (by kernel_rfl) (fun _ _ _ h => h) (Or.inl ⟨by rfl, ?_⟩) (by assumption) ?_
  · intro V hV
    obtain ⟨_, v9, v10, v1, v2, v3⟩ := hV
    go_simp
  try simp only [List.getElem_toArray, List.getElem_cons_zero, List.getElem_cons_succ, Act.put, List.setIfInBounds_toArray, List.set_cons_zero, List.set_cons_succ]
  refine wpAnyH_take (i := 21) (v := .bool true) rfl (by kernel_rfl) (by kernel_rfl) (by kernel_rfl) (fun _ _ _ h => h) (Or.inl ⟨by rfl, ?_⟩) (by assumption) ?_
  · intro V hV
    obtain ⟨_, v9, v10, v1, v2, v3⟩ := hV
    go_simp
  try simp only [List.getElem_toArray, List.getElem_cons_zero, List.getElem_cons_succ, Act.put, List.setIfInBounds_toArray, List.set_cons_zero, List.set_cons_succ]
  refine wpAnyH_take (i := 22) (v := .bool true) rfl (by kernel_rfl) (by kernel_rfl) (by kernel_rfl) (fun _ _ _ h => h) (Or.inl ⟨by rfl, ?_⟩) (by assumption) ?_
  · intro V hV
    obtain ⟨_, v9, v10, v1, v2, v3⟩ := hV
    go_simp
  try simp only [List.getElem_toArray, List.getElem_cons_zero, List.getElem_cons_succ, Act.put, List.setIfInBounds_toArray, List.set_cons_zero, List.set_cons_succ]
  refine wpAnyH_take (i := 23) (v := .bool true) rfl (by kernel_rfl) (by kernel_rfl) (by kernel_rfl) (fun _ _ _ h => h) (Or.inl ⟨by rfl, ?_⟩) (by assumption) ?_
  · intro V hV
    obtain ⟨_, v9, v10, v1, v2, v3⟩ := hV
    go_simp
  try simp only [List.getElem_toArray, List.getElem_cons_zero, List.getElem_cons_succ, Act.put, List.setIfInBounds_toArray, List.set_cons_zero, List.set_cons_succ]
  refine wpAnyH_take (i := 24) rfl (by kernel_rfl) (by kernel_rfl) (by kernel_rfl) (fun _ _ _ h => h) (yieldsIf_load_mid (by rfl) _ _ rfl w1.heap.size 0 rfl [.int .i64 cls, .int .i64 lab, .int .i64 hop, .bool s6, .int .u64 sh, .int .u64 sl, .bool d6, .int .u64 dh, .int .u64 dl, .slice Ah ny ch, .int .i64 p] _ (fun _ h => h.1) HU.out rfl HI_.out) (by assumption) ?_
  try simp only [List.getElem_toArray, List.getElem_cons_zero, List.getElem_cons_succ, Act.put, List.setIfInBounds_toArray, List.set_cons_zero, List.set_cons_succ]
  refine wpAnyH_ready (rs := [25]) (by kernel_rfl) (by simp) ?_
  refine AllReadyH.cons rfl (fun K hK => ?_) AllReadyH.nil
  go_simp
  go_at_call 16
  (with_reducible refine (HRT.out _ K9.out).mono ?_)
  rintro o w10 ⟨rfl, hb10⟩
  have K10 := Lib.hid (K9.out.trans (hb10.mono K9.out.size))
  have s10 := HSV.out w10 K10.out
  clear hb10
  refine hK.out _ _ ?_ (fun hHeld => ?_)
  · exact s10
  clear hK K
  try simp only [List.getElem_toArray, List.getElem_cons_zero, List.getElem_cons_succ, Act.put, List.setIfInBounds_toArray, List.set_cons_zero, List.set_cons_succ]
  refine wpAnyH_take (i := 26) (v := .bool true) rfl (by kernel_rfl) (by kernel_rfl) (by kernel_rfl) (fun _ _ _ h => h) (Or.inl ⟨by rfl, ?_⟩) (by assumption) ?_
  · intro V hV
    obtain ⟨_, v9, v10, v1, v2, v3⟩ := hV
    go_simp
  try simp only [List.getElem_toArray, List.getElem_cons_zero, List.getElem_cons_succ, Act.put, List.setIfInBounds_toArray, List.set_cons_zero, List.set_cons_succ]
  refine wpAnyH_take (i := 27) (v := .bool true) rfl (by kernel_rfl) (by kernel_rfl) (by kernel_rfl) (fun _ _ _ h => h) (Or.inl ⟨by rfl, ?_⟩) (by assumption) ?_
  · intro V hV
    obtain ⟨_, v9, v10, v1, v2, v3⟩ := hV
    go_simp
  try simp only [List.getElem_toArray, List.getElem_cons_zero, List.getElem_cons_succ, Act.put, List.setIfInBounds_toArray, List.set_cons_zero, List.set_cons_succ]
  refine wpAnyH_take (i := 28) rfl (by kernel_rfl) (by kernel_rfl) (by kernel_rfl) (fun _ _ _ h => h) (yieldsIf_load_mid (by rfl) _ _ rfl w1.heap.size 0 rfl [.int .i64 cls, .int .i64 lab, .int .i64 hop, .bool s6, .int .u64 sh, .int .u64 sl, .bool d6, .int .u64 dh, .int .u64 dl, .slice Ah ny ch, .int .i64 p] _ (fun _ h => h.1) HU.out rfl HI_.out) (by assumption) ?_
  try simp only [List.getElem_toArray, List.getElem_cons_zero, List.getElem_cons_succ, Act.put, List.setIfInBounds_toArray, List.set_cons_zero, List.set_cons_succ]
  refine wpAnyH_take (i := 29) (v := .slice Br nr0 cr0) rfl (by kernel_rfl) (by kernel_rfl) (by kernel_rfl) (fun _ _ _ h => h) (Or.inl ⟨by rfl, ?_⟩) (by assumption) ?_
  · intro V hV
    obtain ⟨_, v9, v10, v1, v2, v3⟩ := hV
    go_simp
  try simp only [List.getElem_toArray, List.getElem_cons_zero, List.getElem_cons_succ, Act.put, List.setIfInBounds_toArray, List.set_cons_zero, List.set_cons_succ]
  refine wpAnyH_take (i := 32) (v := .slice (some ⟨b, off, none⟩) n c) rfl (by kernel_rfl) (by kernel_rfl) (by kernel_rfl) (fun _ _ _ h => h) (Or.inl ⟨by rfl, ?_⟩) (by assumption) ?_
  · intro V hV
    obtain ⟨_, v9, v10, v1, v2, v3⟩ := hV
    go_simp
  try simp only [List.getElem_toArray, List.getElem_cons_zero, List.getElem_cons_succ, Act.put, List.setIfInBounds_toArray, List.set_cons_zero, List.set_cons_succ]
  refine wpAnyH_take (i := 33) (v := .int .i64 sz) rfl (by kernel_rfl) (by kernel_rfl) (by kernel_rfl) (fun _ _ _ h => h) (Or.inl ⟨by rfl, ?_⟩) (by assumption) ?_
  · intro V hV
    obtain ⟨_, v9, v10, v1, v2, v3⟩ := hV
    go_simp
  try simp only [List.getElem_toArray, List.getElem_cons_zero, List.getElem_cons_succ, Act.put, List.setIfInBounds_toArray, List.set_cons_zero, List.set_cons_succ]
  refine wpAnyH_take (i := 34) (v := .int .i64 (40 + (sz : Int))) rfl (by kernel_rfl) (by kernel_rfl) (by kernel_rfl) (fun _ _ _ h => h) (Or.inl ⟨by rfl, ?_⟩) (by assumption) ?_
  · intro V hV
    obtain ⟨_, v9, v10, v1, v2, v3⟩ := hV
    go_simp
  try simp only [List.getElem_toArray, List.getElem_cons_zero, List.getElem_cons_succ, Act.put, List.setIfInBounds_toArray, List.set_cons_zero, List.set_cons_succ]
  refine wpAnyH_take (i := 35) (v := .slice (some ⟨b, off, none⟩) (40 + sz) c) rfl (by kernel_rfl) (by kernel_rfl) (by kernel_rfl) (fun _ _ _ h => h) (Or.inl ⟨by rfl, ?_⟩) (by assumption) ?_
  · intro V hV
    obtain ⟨_, v9, v10, v1, v2, v3⟩ := hV
    go_simp
  try simp only [List.getElem_toArray, List.getElem_cons_zero, List.getElem_cons_succ, Act.put, List.setIfInBounds_toArray, List.set_cons_zero, List.set_cons_succ]
  refine wpAnyH_take (i := 36) (v := .string TB) rfl (by kernel_rfl) (by kernel_rfl) (by kernel_rfl) (fun _ _ _ h => h) (Or.inl ⟨by rfl, ?_⟩) (by assumption) ?_
  · intro V hV
    obtain ⟨_, v9, v10, v1, v2, v3⟩ := hV
    go_simp
  try simp only [List.getElem_toArray, List.getElem_cons_zero, List.getElem_cons_succ, Act.put, List.setIfInBounds_toArray, List.set_cons_zero, List.set_cons_succ]
  refine wpAnyH_ready (rs := [30]) (by kernel_rfl) (by simp) ?_
  refine AllReadyH.cons rfl (fun K hK => ?_) AllReadyH.nil
  go_simp
  go_at_call 17
  (with_reducible refine (HBY.out _ K10.out).mono ?_)
  rintro o w11 ⟨hb11, A7, c7, rfl, cv7⟩
  have K11 := Lib.hid (K10.out.trans (hb11.mono K10.out.size))
  have s11 := HSV.out w11 K11.out
  clear hb11
  refine hK.out _ _ ?_ (fun hHeld => ?_)
  · exact s11
  clear hK K
  try simp only [List.getElem_toArray, List.getElem_cons_zero, List.getElem_cons_succ, Act.put, List.setIfInBounds_toArray, List.set_cons_zero, List.set_cons_succ]
  refine wpAnyH_ready (rs := [31]) (by kernel_rfl) (by simp) ?_
  refine AllReadyH.cons rfl (fun K hK => ?_) AllReadyH.nil
  go_simp
  refine hK.out _ _ ?_ (fun hHeld => ?_)
  · exact s11
  clear hK K
  try simp only [List.getElem_toArray, List.getElem_cons_zero, List.getElem_cons_succ, Act.put, List.setIfInBounds_toArray, List.set_cons_zero, List.set_cons_succ]
  refine wpAnyH_take (i := 37) (v := .bool true) rfl (by kernel_rfl) (by kernel_rfl) (by kernel_rfl) (fun _ _ _ h => h) (Or.inl ⟨by rfl, ?_⟩) (by assumption) ?_
  · intro V hV
    obtain ⟨_, v9, v10, v1, v2, v3⟩ := hV
    go_simp
  try simp only [List.getElem_toArray, List.getElem_cons_zero, List.getElem_cons_succ, Act.put, List.setIfInBounds_toArray, List.set_cons_zero, List.set_cons_succ]
  refine wpAnyH_take (i := 38) (v := .bool true) rfl (by kernel_rfl) (by kernel_rfl) (by kernel_rfl) (fun _ _ _ h => h) (Or.inl ⟨by rfl, ?_⟩) (by assumption) ?_
  · intro V hV
    obtain ⟨_, v9, v10, v1, v2, v3⟩ := hV
    go_simp
  try simp only [List.getElem_toArray, List.getElem_cons_zero, List.getElem_cons_succ, Act.put, List.setIfInBounds_toArray, List.set_cons_zero, List.set_cons_succ]
  refine wpAnyH_take (i := 39) (v := .bool true) rfl (by kernel_rfl) (by kernel_rfl) (by kernel_rfl) (fun _ _ _ h => h) (Or.inl ⟨by rfl, ?_⟩) (by assumption) ?_
  · intro V hV
    obtain ⟨_, v9, v10, v1, v2, v3⟩ := hV
    go_simp
  try simp only [List.getElem_toArray, List.getElem_cons_zero, List.getElem_cons_succ, Act.put, List.setIfInBounds_toArray, List.set_cons_zero, List.set_cons_succ]
  refine wpAnyH_ready (rs := [40]) (by kernel_rfl) (by simp) ?_
  refine AllReadyH.cons rfl (fun K hK => ?_) AllReadyH.nil
  go_simp
  go_at_call 14
  (with_reducible refine (awake_any _).mono ?_)
  rintro o w12 ⟨rfl, hb12⟩
  have K12 := Lib.hid (K11.out.trans (hb12.mono K11.out.size))
  have s12 := HSV.out w12 K12.out
  clear hb12
  refine hK.out _ _ ?_ (fun hHeld => ?_)
  · exact s12
  clear hK K
  try simp only [List.getElem_toArray, List.getElem_cons_zero, List.getElem_cons_succ, Act.put, List.setIfInBounds_toArray, List.set_cons_zero, List.set_cons_succ]
  refine wpAnyH_take (i := 41) (v := .bool true) rfl (by kernel_rfl) (by kernel_rfl) (by kernel_rfl) (fun _ _ _ h => h) (Or.inl ⟨by rfl, ?_⟩) (by assumption) ?_
  · intro V hV
    obtain ⟨_, v9, v10, v1, v2, v3⟩ := hV
    go_simp
  try simp only [List.getElem_toArray, List.getElem_cons_zero, List.getElem_cons_succ, Act.put, List.setIfInBounds_toArray, List.set_cons_zero, List.set_cons_succ]
  refine wpAnyH_take (i := 42) (v := .bool true) rfl (by kernel_rfl) (by kernel_rfl) (by kernel_rfl) (fun _ _ _ h => h) (Or.inl ⟨by rfl, ?_⟩) (by assumption) ?_
  · intro V hV
    obtain ⟨_, v9, v10, v1, v2, v3⟩ := hV
    go_simp
  try simp only [List.getElem_toArray, List.getElem_cons_zero, List.getElem_cons_succ, Act.put, List.setIfInBounds_toArray, List.set_cons_zero, List.set_cons_succ]
  refine wpAnyH_done (by kernel_rfl) ?_ _
  go_wp2_with fail
  go_ret
  exact ⟨rfl, B8.out.trans (K12.out.mono B8.out.size)⟩
end Go.Proofs.Ytndekicblbpkjaa.sixV
