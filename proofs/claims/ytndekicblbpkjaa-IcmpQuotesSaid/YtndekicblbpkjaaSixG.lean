/- Layer 9: the law's frag and rightExt. -/
import Derived.Test.YtndekicblbpkjaaSixF
import Derived.Deep.QuietTactic
import Derived.BigQuiet
namespace Go.Proofs.Ytndekicblbpkjaa.sixG
open Go.ChangeShapes Go.WideShapes Go.ChangeAt Go.RowKit
open Go.Proofs.Ytndekicblbpkjaa.base Go.Proofs.Ytndekicblbpkjaa.octA Go.Proofs.Ytndekicblbpkjaa.octB Go.Proofs.Ytndekicblbpkjaa.octC Go.Proofs.Ytndekicblbpkjaa.octF Go.Proofs.Ytndekicblbpkjaa.octK Go.Proofs.Ytndekicblbpkjaa.net Go.Proofs.Ytndekicblbpkjaa.rdrA Go.Proofs.Ytndekicblbpkjaa.rdrG Go.Proofs.Ytndekicblbpkjaa.sumA Go.Proofs.Ytndekicblbpkjaa.sumB Go.Proofs.Ytndekicblbpkjaa.udpA Go.Proofs.Ytndekicblbpkjaa.tcpC Go.Proofs.Ytndekicblbpkjaa.sixW Go.Proofs.Ytndekicblbpkjaa.sixM Go.Proofs.Ytndekicblbpkjaa.sixA Go.Proofs.Ytndekicblbpkjaa.sixB Go.Proofs.Ytndekicblbpkjaa.sixC Go.Proofs.Ytndekicblbpkjaa.sixD Go.Proofs.Ytndekicblbpkjaa.sixE Go.Proofs.Ytndekicblbpkjaa.sixF
set_option linter.unusedVariables false

set_option maxHeartbeats 4000000 in
set_option maxRecDepth 100000 in
theorem lfrag_any (A : Option Addr) (n c : Nat) (l : List Xt) (w : World) (hl : l.length = n) (hr : RdX w A l) (hn : n ≤ 1000000) :
    Calls Try.prog 42 #[.slice A n c] w fun o w' => o = .returned (.tuple #[.int .i64 (lies (l.map Xt.re) / 8), .bool (decide (lies (l.map Xt.re) % 2 = 1))]) ∧ Below w.heap.size w w' := by
  have HR1 := Lib.hid hr
  have HL := Lib.hid hl
  have HV := Lib.hid (show lies (l.map Xt.re) = lies ((l.drop 0).map Xt.re) from rfl)
  obtain ⟨v, hv⟩ : ∃ v, v = lies (l.map Xt.re) := ⟨_, rfl⟩
  rw [← hv] at HV ⊢
  clear hl hr hv
  go_enter Try.func42, Try.ntmps42
  go_wp2_with fail
  go_loop [4] (fun i => ∃ j : Nat, j ≤ n ∧ i = .int .i64 j ∧ Hid (v = lies ((l.drop j).map Xt.re))) (fun i => n - (intOf i).toNat)
  case atStart => exact ⟨0, by omega, rfl, HV⟩
  case round =>
    obtain ⟨j, hj, rfl, HVJ⟩ := hrel
    by_cases hlt : j < n
    · have hjl : j < l.length := HL.out.symm ▸ hlt
      obtain ⟨b, off, hA, hbl, hC⟩ := HR1.out.at_ j hjl
      subst hA
      have hst := lies_drop l j hjl
      rw [← HVJ.out] at hst
      obtain ⟨k1, k2, k3, k4, k5⟩ := HR1.out.els l[j] (List.getElem_mem hjl)
      obtain ⟨e, he⟩ : ∃ e, e = l[j] := ⟨_, rfl⟩
      rw [← he] at hC hst k1 k2 k3 k4 k5
      obtain ⟨ek, eA, ec, ed⟩ := e
      have d0 : w.cell? ⟨b, off + j * 2, none⟩ = some (.int .i64 ek) := hC 0 (by omega)
      have d1 : w.cell? ⟨b, off + j * 2 + 1, none⟩ = some (.slice eA ed.length ec) := hC 1 (by omega)
      have HK := Lib.hid (show Row w w.heap.size eA (ed.map (.int .u8)) from k1)
      have HK4 := Lib.hid k4
      have HST := Lib.hid hst
      have j0 : (0 : Int) ≤ j := by omega
      have j1 : (j : Int) < n := by omega
      have t1 : decide ((j : Int) < n) = true := decide_eq_true (by omega)
      have t1n : decide (j < n) = true := decide_eq_true hlt
      obtain ⟨q, hq⟩ : ∃ q, q = ed.length := ⟨_, rfl⟩
      have HQ := Lib.hid hq
      rw [← hq] at d1
      clear hC he hst k1 k2 k3 k4 k5 hjl hq hbl
      by_cases h44 : ek = 44
      · have t2 : (ek == 44) = true := by simpa using h44
        by_cases h7 : q = 7
        · have hp : isPart (Xt.re ⟨ek, eA, ec, ed⟩) = true := by
            unfold isPart Xt.re
            exact decide_eq_true ⟨h44, by rw [← HQ.out]; exact h7⟩
          have HF := Lib.hid (show v = 256 * ed.getD 1 0 + ed.getD 2 0 from by have := HST.out; rw [hp, if_pos rfl] at this; exact this)
          have g1 : 0 ≤ ed.getD 1 0 ∧ ed.getD 1 0 ≤ 255 := HK4.out.get 1
          have g2 : 0 ≤ ed.getD 2 0 ∧ ed.getD 2 0 ≤ 255 := HK4.out.get 2
          obtain ⟨be, oe, hAe, hbe, hce⟩ := slice_from HK.out 1 (by have := HQ.out; omega)
          subst hAe
          have m1 : w.cell? ⟨be, oe + 1, none⟩ = some (.int .u8 (ed.getD 1 0)) := hce 1 (by have := HQ.out; omega)
          have m2 : w.cell? ⟨be, oe + 2, none⟩ = some (.int .u8 (ed.getD 2 0)) := hce 2 (by have := HQ.out; omega)
          have HF2 := HF
          obtain ⟨x1, hx1⟩ : ∃ x, x = ed.getD 1 0 := ⟨_, rfl⟩
          obtain ⟨x2, hx2⟩ : ∃ x, x = ed.getD 2 0 := ⟨_, rfl⟩
          rw [← hx1] at m1 g1 HF
          rw [← hx2] at m2 g2 HF
          have w1 : IntKind.i64.wrap x1 = x1 := IntWalk.i64_in _ (by omega)
          have w2 : IntKind.i64.wrap x2 = x2 := IntWalk.i64_in _ (by omega)
          have w3 : IntKind.i64.wrap (256 * x1) = 256 * x1 := IntWalk.i64_in _ (by omega)
          have hvb : 0 ≤ v ∧ v ≤ 65535 := by have := HF.out; omega
          have w4 : IntKind.i64.wrap (256 * x1 + x2) = v := by rw [IntWalk.i64_in _ (by omega)]; exact HF.out.symm
          have tm : (v % 2 == 1) = decide (v % 2 = 1) := by by_cases h : v % 2 = 1 <;> simp [h]
          subst h7
          clear hp h44 hce hx1 hx2 hbe
          go_upto_region 5 with fail
          go_quiet (fail)
          go_wp2_with fail
          go_ret2
          exact ⟨rfl, by (repeat (first | with_reducible exact Below.refl _ _ | apply below_drewN))⟩
        · have hp : isPart (Xt.re ⟨ek, eA, ec, ed⟩) = false := by
            unfold isPart Xt.re
            exact decide_eq_false (by rintro ⟨_, h⟩; exact h7 (by rw [HQ.out]; exact h))
          have HF := Lib.hid (show v = lies ((l.drop (j + 1)).map Xt.re) from by have := HST.out; rw [hp, if_neg (by decide)] at this; exact this)
          have t7 : ((q : Int) == 7) = false := by simp; omega
          have t7n : (q == 7) = false := by simpa using h7
          clear hp h44 h7
          go_wp2_with fail
          go_round
          case rel => exact ⟨j + 1, by omega, by go_num, HF⟩
          case measure => simp [intOf]; omega
      · have t2 : (ek == 44) = false := by simpa using h44
        have hp : isPart (Xt.re ⟨ek, eA, ec, ed⟩) = false := by
          unfold isPart Xt.re
          exact decide_eq_false (by rintro ⟨h, _⟩; exact h44 h)
        have HF := Lib.hid (show v = lies ((l.drop (j + 1)).map Xt.re) from by have := HST.out; rw [hp, if_neg (by decide)] at this; exact this)
        clear hp h44
        go_wp2_with fail
        go_round
        case rel => exact ⟨j + 1, by omega, by go_num, HF⟩
        case measure => simp [intOf]; omega
    · obtain rfl : n = j := by omega
      have t1 : decide ((n : Int) < n) = false := decide_eq_false (by omega)
      have t1n : decide (n < n) = false := decide_eq_false (by omega)
      have hv : v = 0 := by rw [HVJ.out, ← HL.out, List.drop_length]; rfl
      subst hv
      go_wp2_with fail
      go_ret2
      exact ⟨rfl, Below.refl _ _⟩
set_option maxHeartbeats 4000000 in
set_option maxRecDepth 100000 in
theorem lrext_any (x : Xt) (k : Nat) (w : World) (hr : Row w w.heap.size x.A (x.d.map (.int .u8))) (hu : U8 x.d) (hk : k ≤ 1000000) (hn : x.d.length ≤ 9223372036854775807) :
    Calls Try.prog 43 #[.agg x.cells, .int .i64 k] w fun o w' => o = .returned (.bool (rightX x.re k)) ∧ Below w.heap.size w w' := by
  obtain ⟨kd, A, c, d⟩ := x
  unfold Xt.cells Xt.re
  have HR := Lib.hid (show Row w w.heap.size A (d.map (.int .u8)) from hr)
  have HU := Lib.hid (show U8 d from hu)
  obtain ⟨q, hq⟩ : ∃ q, q = d.length := ⟨_, rfl⟩
  have HQ := Lib.hid hq
  have HV := Lib.hid (show rightX (kd, d) k = (isX kd && decide (¬ (kd = 0 ∧ k ≠ 0)) && decide (q ≤ 2047 ∧ q % 8 = 7) && (if kd = 44 then decide (q = 7) else decide (d.getD 0 0 = (q / 8 : Nat)))) from by rw [hq]; rfl)
  show Calls _ _ #[.agg #[.int .i64 kd, .slice A d.length c], .int .i64 k] _ _
  have hn' : q ≤ 9223372036854775807 := by rw [hq]; exact hn
  rw [← hq]
  obtain ⟨v, hv⟩ : ∃ v, v = rightX (kd, d) k := ⟨_, rfl⟩
  rw [← hv] at HV ⊢
  obtain ⟨w1, hw1⟩ : ∃ w1, w1 = w.alloc (.cells #[.int .i64 kd, .slice A q c] 73) := ⟨_, rfl⟩
  have E1 := Lib.hid hw1
  have BA := Lib.hid (show Below w.heap.size w w1 from by rw [hw1]; exact (Below.refl _ _).alloc (Nat.le_refl _) _)
  have KB := Lib.hid (show Blk w1 w.heap.size 73 #[.int .i64 kd, .slice A q c] from by rw [hw1]; exact Blk.new w _ _)
  have x0 := KB.out.cell 0
  have x1 := KB.out.cell 1
  have IS := Lib.hid (fun V => lis_any kd V)
  clear hw1 hr hu hq hn hv
  cases hib : isX kd with
  | false =>
    rw [hib] at IS HV
    obtain rfl : v = false := HV.out
    clear hib
    go_enter Try.func43, Try.ntmps43
    go_wp2_with fail
    rw [← E1.out]
    refine (IS.out _).mono ?_
    rintro o w' ⟨rfl, rfl⟩
    go_wp2_with fail
    go_ret
    exact ⟨rfl, BA.out⟩
  | true =>
    rw [hib] at IS HV
    by_cases h0 : kd = 0 ∧ k ≠ 0
    · obtain ⟨h1, h2⟩ := h0
      have t0 : (kd == 0) = true := by simpa using h1
      have t1 : decide (0 < (k : Int)) = true := decide_eq_true (by omega)
      have t2 : decide (0 < k) = true := decide_eq_true (by omega)
      obtain rfl : v = false := by rw [HV.out, decide_eq_false (show ¬ ¬ (kd = 0 ∧ k ≠ 0) from fun h => h ⟨h1, h2⟩)]; rfl
      clear hib h1 h2
      go_enter Try.func43, Try.ntmps43
      go_wp2_with fail
      rw [← E1.out]
      refine (IS.out _).mono ?_
      rintro o w' ⟨rfl, rfl⟩
      go_wp2_with fail
      go_ret
      exact ⟨rfl, BA.out⟩
    have HV1 := Lib.hid (show v = (decide (q ≤ 2047 ∧ q % 8 = 7) && (if kd = 44 then decide (q = 7) else decide (d.getD 0 0 = (q / 8 : Nat)))) from by rw [HV.out, decide_eq_true h0]; rfl)
    by_cases hkd : kd = 0
    · have t0 : (kd == 0) = true := by simpa using hkd
      have hk0 : k = 0 := Decidable.byContradiction fun h => h0 ⟨hkd, h⟩
      have t1 : decide (0 < (k : Int)) = false := decide_eq_false (by omega)
      have t2 : decide (0 < k) = false := decide_eq_false (by omega)
      have hk44 : ¬ kd = 44 := by omega
      clear h0 hib hkd hk0
      by_cases h2047 : 2047 < q
      · have t3 : decide (2047 < (q : Int)) = true := decide_eq_true (by omega)
        have t4 : decide (2047 < q) = true := decide_eq_true (by omega)
        obtain rfl : v = false := by rw [HV1.out, decide_eq_false (by omega)]; rfl
        clear h2047
        go_enter Try.func43, Try.ntmps43
        go_wp2_with fail
        rw [← E1.out]
        refine (IS.out _).mono ?_
        rintro o w' ⟨rfl, rfl⟩
        go_wp2_with fail
        go_ret
        exact ⟨rfl, BA.out⟩
      have t3 : decide (2047 < (q : Int)) = false := decide_eq_false (by omega)
      have t4 : decide (2047 < q) = false := decide_eq_false (by omega)
      by_cases h8 : q % 8 = 7
      rotate_left
      · have t5 : ((q : Int) % 8 != 7) = true := by simp; omega
        obtain rfl : v = false := by rw [HV1.out, decide_eq_false (by omega)]; rfl
        clear h2047 h8
        go_enter Try.func43, Try.ntmps43
        go_wp2_with fail
        rw [← E1.out]
        refine (IS.out _).mono ?_
        rintro o w' ⟨rfl, rfl⟩
        go_wp2_with fail
        go_ret
        exact ⟨rfl, BA.out⟩
      have t5 : ((q : Int) % 8 != 7) = false := by simp; omega
      have HV2 := Lib.hid (show v = (if kd = 44 then decide (q = 7) else decide (d.getD 0 0 = (q / 8 : Nat))) from by rw [HV1.out, decide_eq_true (show q ≤ 2047 ∧ q % 8 = 7 by omega)]; rfl)
      have hq0 : 0 < q := by omega
      by_cases h44 : kd = 44
      · have t6 : (kd == 44) = true := by simpa using h44
        have HV3 := HV2.out
        rw [if_pos h44] at HV3
        have t7 : ((q : Int) == 7) = v := by rw [HV3]; by_cases h : q = 7 <;> simp [h] <;> omega
        have t7n : (q == 7) = v := by rw [HV3]; by_cases h : q = 7 <;> simp [h]
        clear HV3 h44 h8 h2047
        go_enter Try.func43, Try.ntmps43
        go_wp2_with fail
        rw [← E1.out]
        refine (IS.out _).mono ?_
        rintro o w' ⟨rfl, rfl⟩
        go_wp2_with fail
        go_ret
        exact ⟨rfl, BA.out⟩
      have t6 : (kd == 44) = false := by simpa using h44
      have HV3 := HV2.out
      rw [if_neg h44] at HV3
      have g0 := HU.out.get 0
      obtain ⟨be, oe, hAe, hbe, hce⟩ := slice_from HR.out 0 (by have := HQ.out; omega)
      subst hAe
      have m0 : w1.cell? ⟨be, oe, none⟩ = some (.int .u8 (d.getD 0 0)) := (BA.out.cell (p := ⟨be, oe, none⟩) hbe).trans (hce 0 (by have := HQ.out; omega))
      obtain ⟨y, hy⟩ : ∃ y, y = d.getD 0 0 := ⟨_, rfl⟩
      rw [← hy] at m0 g0 HV3
      have wy : IntKind.i64.wrap y = y := IntWalk.i64_in _ (by omega)
      have t8 : (y == (q : Int) / 8) = v := by
        rw [HV3, show ((q / 8 : Nat) : Int) = (q : Int) / 8 by omega]
        by_cases h : y = (q : Int) / 8
        · rw [h]; simp
        · simp [h]
      clear HV3 h44 h8 h2047 hy hce hbe
      go_enter Try.func43, Try.ntmps43
      go_wp2_with fail
      rw [← E1.out]
      refine (IS.out _).mono ?_
      rintro o w' ⟨rfl, rfl⟩
      go_upto_region 5 with fail
      go_quiet (fail)
      go_wp2_with fail
      go_ret
      exact ⟨rfl, by (repeat (first | with_reducible exact BA.out | apply below_drewN))⟩
    · have t0 : (kd == 0) = false := by simpa using hkd
      clear h0 hib hkd
      by_cases h2047 : 2047 < q
      · have t3 : decide (2047 < (q : Int)) = true := decide_eq_true (by omega)
        have t4 : decide (2047 < q) = true := decide_eq_true (by omega)
        obtain rfl : v = false := by rw [HV1.out, decide_eq_false (by omega)]; rfl
        clear h2047
        go_enter Try.func43, Try.ntmps43
        go_wp2_with fail
        rw [← E1.out]
        refine (IS.out _).mono ?_
        rintro o w' ⟨rfl, rfl⟩
        go_wp2_with fail
        go_ret
        exact ⟨rfl, BA.out⟩
      have t3 : decide (2047 < (q : Int)) = false := decide_eq_false (by omega)
      have t4 : decide (2047 < q) = false := decide_eq_false (by omega)
      by_cases h8 : q % 8 = 7
      rotate_left
      · have t5 : ((q : Int) % 8 != 7) = true := by simp; omega
        obtain rfl : v = false := by rw [HV1.out, decide_eq_false (by omega)]; rfl
        clear h2047 h8
        go_enter Try.func43, Try.ntmps43
        go_wp2_with fail
        rw [← E1.out]
        refine (IS.out _).mono ?_
        rintro o w' ⟨rfl, rfl⟩
        go_wp2_with fail
        go_ret
        exact ⟨rfl, BA.out⟩
      have t5 : ((q : Int) % 8 != 7) = false := by simp; omega
      have HV2 := Lib.hid (show v = (if kd = 44 then decide (q = 7) else decide (d.getD 0 0 = (q / 8 : Nat))) from by rw [HV1.out, decide_eq_true (show q ≤ 2047 ∧ q % 8 = 7 by omega)]; rfl)
      have hq0 : 0 < q := by omega
      by_cases h44 : kd = 44
      · have t6 : (kd == 44) = true := by simpa using h44
        have HV3 := HV2.out
        rw [if_pos h44] at HV3
        have t7 : ((q : Int) == 7) = v := by rw [HV3]; by_cases h : q = 7 <;> simp [h] <;> omega
        have t7n : (q == 7) = v := by rw [HV3]; by_cases h : q = 7 <;> simp [h]
        clear HV3 h44 h8 h2047
        go_enter Try.func43, Try.ntmps43
        go_wp2_with fail
        rw [← E1.out]
        refine (IS.out _).mono ?_
        rintro o w' ⟨rfl, rfl⟩
        go_wp2_with fail
        go_ret
        exact ⟨rfl, BA.out⟩
      have t6 : (kd == 44) = false := by simpa using h44
      have HV3 := HV2.out
      rw [if_neg h44] at HV3
      have g0 := HU.out.get 0
      obtain ⟨be, oe, hAe, hbe, hce⟩ := slice_from HR.out 0 (by have := HQ.out; omega)
      subst hAe
      have m0 : w1.cell? ⟨be, oe, none⟩ = some (.int .u8 (d.getD 0 0)) := (BA.out.cell (p := ⟨be, oe, none⟩) hbe).trans (hce 0 (by have := HQ.out; omega))
      obtain ⟨y, hy⟩ : ∃ y, y = d.getD 0 0 := ⟨_, rfl⟩
      rw [← hy] at m0 g0 HV3
      have wy : IntKind.i64.wrap y = y := IntWalk.i64_in _ (by omega)
      have t8 : (y == (q : Int) / 8) = v := by
        rw [HV3, show ((q / 8 : Nat) : Int) = (q : Int) / 8 by omega]
        by_cases h : y = (q : Int) / 8
        · rw [h]; simp
        · simp [h]
      clear HV3 h44 h8 h2047 hy hce hbe
      go_enter Try.func43, Try.ntmps43
      go_wp2_with fail
      rw [← E1.out]
      refine (IS.out _).mono ?_
      rintro o w' ⟨rfl, rfl⟩
      go_upto_region 5 with fail
      go_quiet (fail)
      go_wp2_with fail
      go_ret
      exact ⟨rfl, by (repeat (first | with_reducible exact BA.out | apply below_drewN))⟩
set_option maxHeartbeats 4000000 in
set_option maxRecDepth 100000 in
theorem rext_any (x : Xt) (k : Nat) (w : World) (hr : Row w w.heap.size x.A (x.d.map (.int .u8))) (hu : U8 x.d) (hk : k ≤ 1000000) (hn : x.d.length ≤ 9223372036854775807) :
    Calls Try.prog 49 #[.agg x.cells, .int .i64 k] w fun o w' => o = .returned (.bool (rightX x.re k)) ∧ Below w.heap.size w w' := by
  obtain ⟨kd, A, c, d⟩ := x
  unfold Xt.cells Xt.re
  have HR := Lib.hid (show Row w w.heap.size A (d.map (.int .u8)) from hr)
  have HU := Lib.hid (show U8 d from hu)
  obtain ⟨q, hq⟩ : ∃ q, q = d.length := ⟨_, rfl⟩
  have HQ := Lib.hid hq
  have HV := Lib.hid (show rightX (kd, d) k = (isX kd && decide (¬ (kd = 0 ∧ k ≠ 0)) && decide (q ≤ 2047 ∧ q % 8 = 7) && (if kd = 44 then decide (q = 7) else decide (d.getD 0 0 = (q / 8 : Nat)))) from by rw [hq]; rfl)
  show Calls _ _ #[.agg #[.int .i64 kd, .slice A d.length c], .int .i64 k] _ _
  have hn' : q ≤ 9223372036854775807 := by rw [hq]; exact hn
  rw [← hq]
  obtain ⟨v, hv⟩ : ∃ v, v = rightX (kd, d) k := ⟨_, rfl⟩
  rw [← hv] at HV ⊢
  obtain ⟨w1, hw1⟩ : ∃ w1, w1 = w.alloc (.cells #[.int .i64 kd, .slice A q c] 73) := ⟨_, rfl⟩
  have E1 := Lib.hid hw1
  have BA := Lib.hid (show Below w.heap.size w w1 from by rw [hw1]; exact (Below.refl _ _).alloc (Nat.le_refl _) _)
  have KB := Lib.hid (show Blk w1 w.heap.size 73 #[.int .i64 kd, .slice A q c] from by rw [hw1]; exact Blk.new w _ _)
  have x0 := KB.out.cell 0
  have x1 := KB.out.cell 1
  have IS := Lib.hid (fun V => is_any kd V)
  clear hw1 hr hu hq hn hv
  have tn : decide ((k : Int) < 0) = false := decide_eq_false (by omega)
  cases hib : isX kd with
  | false =>
    rw [hib] at IS HV
    obtain rfl : v = false := HV.out
    clear hib
    go_enter Try.func49, Try.ntmps49
    go_wp2_with fail
    rw [← E1.out]
    refine (IS.out _).mono ?_
    rintro o w' ⟨rfl, rfl⟩
    go_wp2_with fail
    go_ret
    exact ⟨rfl, BA.out⟩
  | true =>
    rw [hib] at IS HV
    by_cases h0 : kd = 0 ∧ k ≠ 0
    · obtain ⟨h1, h2⟩ := h0
      have t0 : (kd == 0) = true := by simpa using h1
      have t1 : decide (0 < (k : Int)) = true := decide_eq_true (by omega)
      have t2 : decide (0 < k) = true := decide_eq_true (by omega)
      have t1p : ((k : Int) != 0) = true := by simp; omega
      obtain rfl : v = false := by rw [HV.out, decide_eq_false (show ¬ ¬ (kd = 0 ∧ k ≠ 0) from fun h => h ⟨h1, h2⟩)]; rfl
      clear hib h1 h2
      go_enter Try.func49, Try.ntmps49
      go_wp2_with fail
      rw [← E1.out]
      refine (IS.out _).mono ?_
      rintro o w' ⟨rfl, rfl⟩
      go_wp2_with fail
      go_ret
      exact ⟨rfl, BA.out⟩
    have HV1 := Lib.hid (show v = (decide (q ≤ 2047 ∧ q % 8 = 7) && (if kd = 44 then decide (q = 7) else decide (d.getD 0 0 = (q / 8 : Nat)))) from by rw [HV.out, decide_eq_true h0]; rfl)
    by_cases hkd : kd = 0
    · have t0 : (kd == 0) = true := by simpa using hkd
      have hk0 : k = 0 := Decidable.byContradiction fun h => h0 ⟨hkd, h⟩
      have t1 : decide (0 < (k : Int)) = false := decide_eq_false (by omega)
      have t2 : decide (0 < k) = false := decide_eq_false (by omega)
      have t1p : ((k : Int) != 0) = false := by simp; omega
      have hk44 : ¬ kd = 44 := by omega
      clear h0 hib hkd hk0
      by_cases h2047 : 2047 < q
      · have t3 : decide (2047 < (q : Int)) = true := decide_eq_true (by omega)
        have t4 : decide (2047 < q) = true := decide_eq_true (by omega)
        obtain rfl : v = false := by rw [HV1.out, decide_eq_false (by omega)]; rfl
        clear h2047
        go_enter Try.func49, Try.ntmps49
        go_wp2_with fail
        rw [← E1.out]
        refine (IS.out _).mono ?_
        rintro o w' ⟨rfl, rfl⟩
        go_wp2_with fail
        go_ret
        exact ⟨rfl, BA.out⟩
      have t3 : decide (2047 < (q : Int)) = false := decide_eq_false (by omega)
      have t4 : decide (2047 < q) = false := decide_eq_false (by omega)
      by_cases h8 : q % 8 = 7
      rotate_left
      · have t5 : ((q : Int) % 8 != 7) = true := by simp; omega
        obtain rfl : v = false := by rw [HV1.out, decide_eq_false (by omega)]; rfl
        clear h2047 h8
        go_enter Try.func49, Try.ntmps49
        go_wp2_with fail
        rw [← E1.out]
        refine (IS.out _).mono ?_
        rintro o w' ⟨rfl, rfl⟩
        go_wp2_with fail
        go_ret
        exact ⟨rfl, BA.out⟩
      have t5 : ((q : Int) % 8 != 7) = false := by simp; omega
      have HV2 := Lib.hid (show v = (if kd = 44 then decide (q = 7) else decide (d.getD 0 0 = (q / 8 : Nat))) from by rw [HV1.out, decide_eq_true (show q ≤ 2047 ∧ q % 8 = 7 by omega)]; rfl)
      have hq0 : 0 < q := by omega
      by_cases h44 : kd = 44
      · have t6 : (kd == 44) = true := by simpa using h44
        have HV3 := HV2.out
        rw [if_pos h44] at HV3
        have t7 : ((q : Int) == 7) = v := by rw [HV3]; by_cases h : q = 7 <;> simp [h] <;> omega
        have t7n : (q == 7) = v := by rw [HV3]; by_cases h : q = 7 <;> simp [h]
        clear HV3 h44 h8 h2047
        go_enter Try.func49, Try.ntmps49
        go_wp2_with fail
        rw [← E1.out]
        refine (IS.out _).mono ?_
        rintro o w' ⟨rfl, rfl⟩
        go_wp2_with fail
        go_ret
        exact ⟨rfl, BA.out⟩
      have t6 : (kd == 44) = false := by simpa using h44
      have HV3 := HV2.out
      rw [if_neg h44] at HV3
      have g0 := HU.out.get 0
      obtain ⟨be, oe, hAe, hbe, hce⟩ := slice_from HR.out 0 (by have := HQ.out; omega)
      subst hAe
      have m0 : w1.cell? ⟨be, oe, none⟩ = some (.int .u8 (d.getD 0 0)) := (BA.out.cell (p := ⟨be, oe, none⟩) hbe).trans (hce 0 (by have := HQ.out; omega))
      obtain ⟨y, hy⟩ : ∃ y, y = d.getD 0 0 := ⟨_, rfl⟩
      rw [← hy] at m0 g0 HV3
      have wy : IntKind.i64.wrap y = y := IntWalk.i64_in _ (by omega)
      have t8 : (y == (q : Int) / 8) = v := by
        rw [HV3, show ((q / 8 : Nat) : Int) = (q : Int) / 8 by omega]
        by_cases h : y = (q : Int) / 8
        · rw [h]; simp
        · simp [h]
      clear HV3 h44 h8 h2047 hy hce hbe
      go_enter Try.func49, Try.ntmps49
      go_wp2_with fail
      rw [← E1.out]
      refine (IS.out _).mono ?_
      rintro o w' ⟨rfl, rfl⟩
      go_wp2_with fail
      go_ret
      exact ⟨rfl, BA.out⟩
    · have t0 : (kd == 0) = false := by simpa using hkd
      clear h0 hib hkd
      by_cases h2047 : 2047 < q
      · have t3 : decide (2047 < (q : Int)) = true := decide_eq_true (by omega)
        have t4 : decide (2047 < q) = true := decide_eq_true (by omega)
        obtain rfl : v = false := by rw [HV1.out, decide_eq_false (by omega)]; rfl
        clear h2047
        go_enter Try.func49, Try.ntmps49
        go_wp2_with fail
        rw [← E1.out]
        refine (IS.out _).mono ?_
        rintro o w' ⟨rfl, rfl⟩
        go_wp2_with fail
        go_ret
        exact ⟨rfl, BA.out⟩
      have t3 : decide (2047 < (q : Int)) = false := decide_eq_false (by omega)
      have t4 : decide (2047 < q) = false := decide_eq_false (by omega)
      by_cases h8 : q % 8 = 7
      rotate_left
      · have t5 : ((q : Int) % 8 != 7) = true := by simp; omega
        obtain rfl : v = false := by rw [HV1.out, decide_eq_false (by omega)]; rfl
        clear h2047 h8
        go_enter Try.func49, Try.ntmps49
        go_wp2_with fail
        rw [← E1.out]
        refine (IS.out _).mono ?_
        rintro o w' ⟨rfl, rfl⟩
        go_wp2_with fail
        go_ret
        exact ⟨rfl, BA.out⟩
      have t5 : ((q : Int) % 8 != 7) = false := by simp; omega
      have HV2 := Lib.hid (show v = (if kd = 44 then decide (q = 7) else decide (d.getD 0 0 = (q / 8 : Nat))) from by rw [HV1.out, decide_eq_true (show q ≤ 2047 ∧ q % 8 = 7 by omega)]; rfl)
      have hq0 : 0 < q := by omega
      by_cases h44 : kd = 44
      · have t6 : (kd == 44) = true := by simpa using h44
        have HV3 := HV2.out
        rw [if_pos h44] at HV3
        have t7 : ((q : Int) == 7) = v := by rw [HV3]; by_cases h : q = 7 <;> simp [h] <;> omega
        have t7n : (q == 7) = v := by rw [HV3]; by_cases h : q = 7 <;> simp [h]
        clear HV3 h44 h8 h2047
        go_enter Try.func49, Try.ntmps49
        go_wp2_with fail
        rw [← E1.out]
        refine (IS.out _).mono ?_
        rintro o w' ⟨rfl, rfl⟩
        go_wp2_with fail
        go_ret
        exact ⟨rfl, BA.out⟩
      have t6 : (kd == 44) = false := by simpa using h44
      have HV3 := HV2.out
      rw [if_neg h44] at HV3
      have g0 := HU.out.get 0
      obtain ⟨be, oe, hAe, hbe, hce⟩ := slice_from HR.out 0 (by have := HQ.out; omega)
      subst hAe
      have m0 : w1.cell? ⟨be, oe, none⟩ = some (.int .u8 (d.getD 0 0)) := (BA.out.cell (p := ⟨be, oe, none⟩) hbe).trans (hce 0 (by have := HQ.out; omega))
      obtain ⟨y, hy⟩ : ∃ y, y = d.getD 0 0 := ⟨_, rfl⟩
      rw [← hy] at m0 g0 HV3
      have wy : IntKind.i64.wrap y = y := IntWalk.i64_in _ (by omega)
      have t8 : (y == (q : Int) / 8) = v := by
        rw [HV3, show ((q / 8 : Nat) : Int) = (q : Int) / 8 by omega]
        by_cases h : y = (q : Int) / 8
        · rw [h]; simp
        · simp [h]
      clear HV3 h44 h8 h2047 hy hce hbe
      go_enter Try.func49, Try.ntmps49
      go_wp2_with fail
      rw [← E1.out]
      refine (IS.out _).mono ?_
      rintro o w' ⟨rfl, rfl⟩
      go_wp2_with fail
      go_ret
      exact ⟨rfl, BA.out⟩
end Go.Proofs.Ytndekicblbpkjaa.sixG
