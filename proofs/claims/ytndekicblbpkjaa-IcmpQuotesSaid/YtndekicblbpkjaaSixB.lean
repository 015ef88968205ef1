/- Layer 9: an address of 16 bytes; the bytes of a header that extends. -/
import Derived.Test.YtndekicblbpkjaaSixA
namespace Go.Proofs.Ytndekicblbpkjaa.sixB
open Go.ChangeShapes Go.WideShapes Go.ChangeAt Go.RowKit
open Go.Proofs.Ytndekicblbpkjaa.base Go.Proofs.Ytndekicblbpkjaa.octA Go.Proofs.Ytndekicblbpkjaa.octB Go.Proofs.Ytndekicblbpkjaa.octC Go.Proofs.Ytndekicblbpkjaa.octF Go.Proofs.Ytndekicblbpkjaa.octK Go.Proofs.Ytndekicblbpkjaa.net Go.Proofs.Ytndekicblbpkjaa.rdrA Go.Proofs.Ytndekicblbpkjaa.rdrG Go.Proofs.Ytndekicblbpkjaa.sumA Go.Proofs.Ytndekicblbpkjaa.sumB Go.Proofs.Ytndekicblbpkjaa.udpA Go.Proofs.Ytndekicblbpkjaa.tcpC Go.Proofs.Ytndekicblbpkjaa.sixW Go.Proofs.Ytndekicblbpkjaa.sixM Go.Proofs.Ytndekicblbpkjaa.sixA
set_option linter.unusedVariables false

/-- The two halves of a number of up to 16 bytes. -/
def hi (n : Int) : Int := n / 18446744073709551616
def lo (n : Int) : Int := n % 18446744073709551616
theorem half_next (n c : Int) (h0 : 0 ≤ n) (h1 : n < 1329227995784915872903807060280344576) (c0 : 0 ≤ c) (c1 : c ≤ 255) :
    hi (n * 256 + c) = hi n * 256 + lo n / 72057594037927936 ∧ lo (n * 256 + c) = lo n % 72057594037927936 * 256 + c ∧ 0 ≤ hi n ∧ hi n < 72057594037927936 ∧ 0 ≤ lo n ∧ lo n < 18446744073709551616 := by
  unfold hi lo
  omega
theorem atN_split (l : List Int) : ∀ j, atN l 0 (8 + j) = atN l 0 8 * 256 ^ j + atN l 8 j
  | 0 => by simp [atN]
  | j + 1 => by
    have e1 : atN l 0 (8 + (j + 1)) = atN l 0 (8 + j) * 256 + l.getD (0 + (8 + j)) 0 := rfl
    have e2 : atN l 8 (j + 1) = atN l 8 j * 256 + l.getD (8 + j) 0 := rfl
    rw [e1, e2, atN_split l j, Int.pow_succ, Int.add_mul, Int.mul_assoc, Int.add_assoc, Nat.zero_add]
theorem halves (l : List Int) (hb : ∀ x ∈ l, 0 ≤ x ∧ x ≤ 255) : hi (atN l 0 16) = atN l 0 8 ∧ lo (atN l 0 16) = atN l 8 8 := by
  have e := atN_split l 8
  have b := atN_in l 8 hb 8
  rw [show (256 : Int) ^ 8 = 18446744073709551616 from by decide] at e b
  rw [show 16 = 8 + 8 from rfl, e]
  unfold hi lo
  omega
theorem pow16 : ∀ j : Fin 16, (256 : Int) ^ j.val ≤ 1329227995784915872903807060280344576 := by decide
theorem or_add2 (a b : Int) (ha : 0 ≤ a) (ha2 : a < 72057594037927936) (hb : 0 ≤ b) (hb2 : b < 256) : bits .or .u64 (a * 256) b = a * 256 + b := by
  obtain ⟨x, rfl⟩ := Int.eq_ofNat_of_zero_le ha
  obtain ⟨y, rfl⟩ := Int.eq_ofNat_of_zero_le hb
  exact or_add x y (by omega) (by omega)
def OfPost (w : World) (hh ll : Int) (o : Ending) (w' : World) : Prop := o = .returned (.tuple #[.agg #[.bool true, .int .u64 hh, .int .u64 ll], .int .i64 0]) ∧ Below w.heap.size w w'
theorem results_addr {fn : Func} {p u : Tmp} (h : fn.results = #[.cell p 26, .tmp u]) (tmps : Array Value) (w : World) (g : Nat) (cs : Array Value) (hp : tmps.getD p undef = .pointer (some ⟨g, 0, none⟩)) (hg : Blk w g 26 cs) (hs : cs.size = 3) :
    (results fn tmps).run Try.prog w = .ok (.tuple #[.agg cs, tmps.getD u undef]) w := by
  rw [results_cell_tmp h, hp]
  simp only [asAddr, Sem.run_pure, Result.andThen_ok]
  rw [run_loadVar_row w g 26 26 cs (0, 0) _ hg Try.underlying26 rfl (by rw [hs]; kernel_rfl)]
  rfl
set_option maxHeartbeats 4000000 in
set_option maxRecDepth 100000 in
theorem of16 (A : Option Addr) (c : Nat) (l : List Int) (w : World) (hl : l.length = 16) (hr : Row w w.heap.size A (l.map (.int .u8))) (hb : ∀ x ∈ l, 0 ≤ x ∧ x ≤ 255) :
    Calls Try.prog 97 #[.slice A 16 c] w (OfPost w (atN l 0 8) (atN l 8 8)) := by
  obtain ⟨b, off, rfl, hbl, hcl⟩ := slice_from hr 0 (by omega)
  rw [hl] at hcl
  have HCL := Lib.hid hcl
  have HBL := Lib.hid hbl
  obtain ⟨hv1, hv2⟩ := halves l hb
  obtain ⟨hh, hhh⟩ : ∃ hh, hh = atN l 0 8 := ⟨_, rfl⟩
  obtain ⟨ll, hll⟩ : ∃ ll, ll = atN l 8 8 := ⟨_, rfl⟩
  rw [← hhh] at hv1
  rw [← hll] at hv2
  rw [← hhh, ← hll]
  have HV1 := Lib.hid hv1
  have HV2 := Lib.hid hv2
  have HG := Lib.hid (show ∀ j, 0 ≤ l.getD j 0 ∧ l.getD j 0 ≤ 255 from fun j => getD_in l hb j)
  have HIN := Lib.hid (show ∀ j, 0 ≤ atN l 0 j ∧ atN l 0 j < 256 ^ j from fun j => atN_in l 0 hb j)
  obtain ⟨g1, hg1⟩ : ∃ g, g = w.heap.size := ⟨_, rfl⟩
  obtain ⟨w1, hw1⟩ : ∃ w1, w1 = w.alloc (.cells #[.bool false, .int .u64 0, .int .u64 0] 26) := ⟨_, rfl⟩
  obtain ⟨w2, hw2⟩ : ∃ w2, w2 = w1.alloc (.cells #[.bool true, .int .u64 0, .int .u64 0] 26) := ⟨_, rfl⟩
  have E1 := Lib.hid hw1
  have E2 := Lib.hid hw2
  have EG := Lib.hid hg1
  have s1 : w1.heap.size = g1 + 1 := by rw [hw1, hg1]; simp
  have S1 := Lib.hid s1
  have K1 := Lib.hid (show Blk w1 g1 26 #[.bool false, .int .u64 0, .int .u64 0] from by rw [hw1, hg1]; exact Blk.new w _ _)
  have B2 := Lib.hid (show Below w1.heap.size w1 w2 from by rw [hw2]; exact (Below.refl _ _).alloc (Nat.le_refl _) _)
  have BB2 := Lib.hid (show Below g1 w w2 from by rw [hw2, hw1, hg1]; exact ((Below.refl _ _).alloc (Nat.le_refl _) _).alloc (by simp) _)
  have K2 := Lib.hid (show Blk w2 (g1 + 1) 26 #[.bool true, .int .u64 0, .int .u64 0] from by rw [hw2, ← s1]; exact Blk.new w1 _ _)
  have KR := Lib.hid (K1.out.below B2.out K1.out.lt)
  have H0 := Lib.hid (show hi (atN l 0 0) = 0 ∧ lo (atN l 0 0) = 0 from ⟨rfl, rfl⟩)
  rw [← EG.out] at hbl
  unfold OfPost
  rw [← EG.out]
  clear hr hb hl hcl hv1 hv2 hw1 hw2 hg1 s1 hhh hll
  go_enter Try.func97, Try.ntmps97
  go_upto_region 4 with fail
  rw [← EG.out, ← E1.out, ← E2.out]
  have s1 := S1.out
  go_wp2_with fail
  go_loopw [22] (fun i wr => ∃ j : Nat, j ≤ 16 ∧ i = .int .i64 j ∧ Hid (Blk wr (g1 + 1) 26 #[.bool true, .int .u64 (hi (atN l 0 j)), .int .u64 (lo (atN l 0 j))]) ∧ Hid (Blk wr g1 26 #[.bool false, .int .u64 0, .int .u64 0]) ∧ Hid (Below g1 w wr)) (fun i _ => 16 - (intOf i).toNat)
  case atStart => exact ⟨0, by omega, rfl, Lib.hid (by rw [H0.out.1, H0.out.2]; exact K2.out), KR, BB2⟩
  case round =>
    obtain ⟨j, hj, rfl, HK, HKR, HB⟩ := hrel
    by_cases hlt : j < 16
    · obtain ⟨n, hn⟩ : ∃ n, n = atN l 0 j := ⟨_, rfl⟩
      have hin := HIN.out j
      have hnx : atN l 0 (j + 1) = n * 256 + l.getD j 0 := by rw [hn]; show _ * 256 + l.getD (0 + j) 0 = _; rw [Nat.zero_add]
      rw [← hn] at hin HK
      have hp : (256 : Int) ^ j ≤ 1329227995784915872903807060280344576 := pow16 ⟨j, hlt⟩
      obtain ⟨cb, hcb⟩ : ∃ cb, cb = l.getD j 0 := ⟨_, rfl⟩
      have hg := HG.out j
      rw [← hcb] at hnx hg
      obtain ⟨q1, q2, q3, q4, q5, q6⟩ := half_next n cb hin.1 (by omega) hg.1 hg.2
      have HN1 := Lib.hid (show hi (atN l 0 (j + 1)) = hi n * 256 + lo n / 72057594037927936 from by rw [hnx, q1])
      have HN2 := Lib.hid (show lo (atN l 0 (j + 1)) = lo n % 72057594037927936 * 256 + cb from by rw [hnx, q2])
      have d0 : wr.cell? ⟨b, off + j, none⟩ = some (.int .u8 cb) := by rw [hcb, ← HCL.out j hlt]; exact HB.out.cell (p := ⟨b, off + j, none⟩) hbl
      obtain ⟨x, hx⟩ : ∃ x, x = hi n := ⟨_, rfl⟩
      obtain ⟨y, hy⟩ : ∃ y, y = lo n := ⟨_, rfl⟩
      rw [← hx, ← hy] at HN1
      rw [← hy] at HN2
      rw [← hx, ← hy] at HK
      rw [← hx] at q3 q4
      rw [← hy] at q5 q6
      have c1 := HK.out.cell 1
      have c2 := HK.out.cell 2
      have f1 := HK.out.frozen 1
      have f2 := HK.out.frozen 2
      have w8 : IntKind.u64.wrap (x * 256) = x * 256 := by rw [IntKind.wrap_u64]; omega
      have w9 : IntKind.u64.wrap (y * 256) = y % 72057594037927936 * 256 := by rw [IntKind.wrap_u64]; omega
      have w10 : IntKind.u64.wrap cb = cb := by rw [IntKind.wrap_u64]; omega
      have o1 := or_add2 x (y / 72057594037927936) q3 q4 (by omega) (by omega)
      have o2 := or_add2 (y % 72057594037927936) cb (by omega) (by omega) hg.1 (by omega)
      have i0 : (0 : Int) ≤ j := by omega
      have i1 : (j : Int) < 16 := by omega
      have HST := Lib.hid (show ∀ u v, Blk ((wr.setCell ⟨g1 + 1, 1, none⟩ (.int .u64 u)).setCell ⟨g1 + 1, 2, none⟩ (.int .u64 v)) (g1 + 1) 26 #[.bool true, .int .u64 u, .int .u64 v] from fun u v => (HK.out.set_ 1 (.int .u64 u)).set_ 2 (.int .u64 v))
      have HSR := Lib.hid (show ∀ u v, Blk ((wr.setCell ⟨g1 + 1, 1, none⟩ (.int .u64 u)).setCell ⟨g1 + 1, 2, none⟩ (.int .u64 v)) g1 26 #[.bool false, .int .u64 0, .int .u64 0] from fun u v => (HKR.out.far (p := ⟨g1 + 1, 1, none⟩) (by simp) _).far (p := ⟨g1 + 1, 2, none⟩) (by simp) _)
      have HSB := Lib.hid (show ∀ u v, Below g1 w ((wr.setCell ⟨g1 + 1, 1, none⟩ (.int .u64 u)).setCell ⟨g1 + 1, 2, none⟩ (.int .u64 v)) from fun u v => (HB.out.setCell (p := ⟨g1 + 1, 1, none⟩) (by simp) _).setCell (p := ⟨g1 + 1, 2, none⟩) (by simp) _)
      clear hn hin hnx hp hcb q1 q2 hx hy
      go_wp2_with fail
      go_roundw
      case rel => exact ⟨j + 1, by omega, by go_num, Lib.hid (by rw [HN1.out, HN2.out]; exact HST.out _ _), Lib.hid (HSR.out _ _), Lib.hid (HSB.out _ _)⟩
      case measure => simp [intOf]; omega
    · obtain rfl : j = 16 := by omega
      have hk := HK.out
      rw [HV1.out, HV2.out] at hk
      have HK3 := Lib.hid hk
      have c0 := HK3.out.cell 0
      have c1 := HK3.out.cell 1
      have c2 := HK3.out.cell 2
      have r0 := HKR.out.cell 0
      have r1 := HKR.out.cell 1
      have r2 := HKR.out.cell 2
      have f0 := HKR.out.frozen 0
      have f1 := HKR.out.frozen 1
      have f2 := HKR.out.frozen 2
      have KZ := Lib.hid (show Blk (((wr.setCell ⟨g1, 0, none⟩ (.bool true)).setCell ⟨g1, 1, none⟩ (.int .u64 hh)).setCell ⟨g1, 2, none⟩ (.int .u64 ll)) g1 26 #[.bool true, .int .u64 hh, .int .u64 ll] from ((HKR.out.set_ 0 (.bool true)).set_ 1 (.int .u64 hh)).set_ 2 (.int .u64 ll))
      have BZ := Lib.hid (show Below g1 w (((wr.setCell ⟨g1, 0, none⟩ (.bool true)).setCell ⟨g1, 1, none⟩ (.int .u64 hh)).setCell ⟨g1, 2, none⟩ (.int .u64 ll)) from ((HB.out.setCell (p := ⟨g1, 0, none⟩) (Nat.le_refl g1) (.bool true)).setCell (p := ⟨g1, 1, none⟩) (Nat.le_refl g1) (.int .u64 hh)).setCell (p := ⟨g1, 2, none⟩) (Nat.le_refl g1) (.int .u64 ll))
      clear hk
      go_wp2_with fail
      exact bodyPost_ret (results_addr rfl _ _ g1 #[.bool true, .int .u64 hh, .int .u64 ll] rfl KZ.out rfl) rfl ⟨rfl, BZ.out⟩
end Go.Proofs.Ytndekicblbpkjaa.sixB
