/- Layer 4: the law on checks that stay right. -/
import Derived.Test.YtlipemjidjjenaaSumK
namespace Go.Proofs.Ytlipemjidjjenaa.sumL
open Go.ChangeShapes Go.WideShapes Go.ChangeAt Go.RowKit
open Go.Proofs.Ytlipemjidjjenaa.base Go.Proofs.Ytlipemjidjjenaa.sumA Go.Proofs.Ytlipemjidjjenaa.sumB Go.Proofs.Ytlipemjidjjenaa.sumC Go.Proofs.Ytlipemjidjjenaa.sumH Go.Proofs.Ytlipemjidjjenaa.sumI Go.Proofs.Ytlipemjidjjenaa.sumK
set_option linter.unusedVariables false

theorem one {W : World} {A : Option Addr} {n c : Nat} {l : List Int} (h : l.length = n) (r : Row W W.heap.size A (l.map (.int .u8))) (b : ∀ x ∈ l, 0 ≤ x ∧ x ≤ 255) (t : TypeId) :
    Row (W.alloc (.cells #[.slice A n c] t)) (W.heap.size + 1) (some ⟨W.heap.size, 0, none⟩) (([⟨A, c, l⟩] : List Part).map Part.val) ∧ ∀ p ∈ ([⟨A, c, l⟩] : List Part), p.ok (W.alloc (.cells #[.slice A n c] t)) (W.heap.size + 1) := by
  subst h
  refine ⟨(row_blk (Blk.new W t #[.slice A l.length c])).more (by simp), fun p hp => ?_⟩
  simp only [List.mem_cons, List.not_mem_nil, or_false] at hp
  subst hp
  exact ⟨(r.below ((Below.refl _ _).alloc (Nat.le_refl _) _)).more (by simp), b⟩
theorem flat_one (A : Option Addr) (c : Nat) (l : List Int) : flat [⟨A, c, l⟩] = l := by simp [flat]
theorem fo_full {x : Int} (h0 : 0 ≤ x) (h : x % 65535 = 0) : fo x = 65535 ∨ fo x = 0 := by unfold fo; split <;> omega
theorem fo_check {x : Int} (h0 : 0 ≤ x) : fo (x + (65535 - fo x)) = 65535 := by unfold fo; split <;> split <;> omega
theorem after {W f t : Int} (hW : 0 ≤ W) (h0 : 0 ≤ t) (f9 : f ≤ 65535) :
    (W + (65535 - fo W) - f + t - (65535 - fo W) + (65535 - fo (65535 - (65535 - fo W) + (65535 - f) + t))) % 65535 = 0 := by
  have h1 := fo_mod hW
  have hb := fo_bd W hW
  have h2 := fo_mod (n := 65535 - (65535 - fo W) + (65535 - f) + t) (by omega)
  omega

set_option maxHeartbeats 1000000 in
theorem stayE (A : Option Addr) (m c : Nat) (l : List Int) (w : World) (p q t : Int) (v1 : Value) (hl : l.length = m) (hm : m ≤ 400) (hme : m % 2 = 0) (hmc : m ≤ c) (hc : c ≤ 9223372036854775807)
    (hr : Row w w.heap.size A (l.map (.int .u8))) (hz : A = none → c = 0) (hb : ∀ x ∈ l, 0 ≤ x ∧ x ≤ 255) (t0 : 0 ≤ t) (t9 : t ≤ 65535)
    (C : Hid (∀ w : World, Calls Try.prog 48 #[v1] w fun e w' => e = .returned (.slice A m c) ∧ w = w')) :
    Calls Try.prog 15 #[v1, .int .i64 p, .int .i64 q, .int .u16 t] w fun e w' => e = .returned (.bool true) ∧ Below w.heap.size w w' := by
  have HL := Lib.hid hl
  have HR := Lib.hid hr
  have HZ := Lib.hid hz
  have HBB := Lib.hid hb
  have hodd : ((m : Int) % 2 == 1) = false := by simp; omega
  clear hl hr hz hb
  rcases Int.lt_or_le p 0 with x1 | x1
  · have f1 : decide (p < 0) = true := by simp; omega
    go_enter Try.func15, Try.ntmps15
    go_wp2_with (first
      | (go_at_call 48; refine (C.out _).mono ?_; rintro e w' ⟨rfl, rfl⟩)
      | (go_at_call 54; refine (awake_any _).mono ?_; rintro e w8 ⟨rfl, hb8⟩; have HB8 := Lib.hid hb8; clear hb8))
    go_ret
    exact ⟨rfl, HB8.out⟩
  obtain ⟨P, rfl⟩ := Int.eq_ofNat_of_zero_le x1
  clear x1
  rcases Int.lt_or_le q 0 with x2 | x2
  · have f1 : decide (q < 0) = true := by simp; omega
    go_enter Try.func15, Try.ntmps15
    go_wp2_with (first
      | (go_at_call 48; refine (C.out _).mono ?_; rintro e w' ⟨rfl, rfl⟩)
      | (go_at_call 54; refine (awake_any _).mono ?_; rintro e w8 ⟨rfl, hb8⟩; have HB8 := Lib.hid hb8; clear hb8))
    go_ret
    exact ⟨rfl, HB8.out⟩
  obtain ⟨Q, rfl⟩ := Int.eq_ofNat_of_zero_le x2
  clear x2
  rcases Nat.lt_or_ge P m with x3 | x3
  rotate_left
  · have f1 : decide ((m : Int) ≤ (P : Int)) = true := by simp; omega
    go_enter Try.func15, Try.ntmps15
    go_wp2_with (first
      | (go_at_call 48; refine (C.out _).mono ?_; rintro e w' ⟨rfl, rfl⟩)
      | (go_at_call 54; refine (awake_any _).mono ?_; rintro e w8 ⟨rfl, hb8⟩; have HB8 := Lib.hid hb8; clear hb8))
    go_ret
    exact ⟨rfl, HB8.out⟩
  rcases Nat.lt_or_ge Q m with x4 | x4
  rotate_left
  · have f1 : decide ((m : Int) ≤ (Q : Int)) = true := by simp; omega
    go_enter Try.func15, Try.ntmps15
    go_wp2_with (first
      | (go_at_call 48; refine (C.out _).mono ?_; rintro e w' ⟨rfl, rfl⟩)
      | (go_at_call 54; refine (awake_any _).mono ?_; rintro e w8 ⟨rfl, hb8⟩; have HB8 := Lib.hid hb8; clear hb8))
    go_ret
    exact ⟨rfl, HB8.out⟩
  rcases Nat.mod_two_eq_zero_or_one P with x5 | x5
  rotate_left
  · have f1 : ((P : Int) % 2 == 1) = true := by simp; omega
    go_enter Try.func15, Try.ntmps15
    go_wp2_with (first
      | (go_at_call 48; refine (C.out _).mono ?_; rintro e w' ⟨rfl, rfl⟩)
      | (go_at_call 54; refine (awake_any _).mono ?_; rintro e w8 ⟨rfl, hb8⟩; have HB8 := Lib.hid hb8; clear hb8))
    go_ret
    exact ⟨rfl, HB8.out⟩
  have f5 : ((P : Int) % 2 == 1) = false := by simp; omega
  rcases Nat.mod_two_eq_zero_or_one Q with x6 | x6
  rotate_left
  · have f1 : ((Q : Int) % 2 == 1) = true := by simp; omega
    go_enter Try.func15, Try.ntmps15
    go_wp2_with (first
      | (go_at_call 48; refine (C.out _).mono ?_; rintro e w' ⟨rfl, rfl⟩)
      | (go_at_call 54; refine (awake_any _).mono ?_; rintro e w8 ⟨rfl, hb8⟩; have HB8 := Lib.hid hb8; clear hb8))
    go_ret
    exact ⟨rfl, HB8.out⟩
  have f6 : ((Q : Int) % 2 == 1) = false := by simp; omega
  by_cases x7 : P = Q
  · have f1 : ((P : Int) == (Q : Int)) = true := by simp; omega
    go_enter Try.func15, Try.ntmps15
    go_wp2_with (first
      | (go_at_call 48; refine (C.out _).mono ?_; rintro e w' ⟨rfl, rfl⟩)
      | (go_at_call 54; refine (awake_any _).mono ?_; rintro e w8 ⟨rfl, hb8⟩; have HB8 := Lib.hid hb8; clear hb8))
    go_ret
    exact ⟨rfl, HB8.out⟩
  have f7 : ((P : Int) == (Q : Int)) = false := by simp; omega
  obtain ⟨kp, hkp⟩ : ∃ k, P = 2 * k := ⟨P / 2, by omega⟩
  obtain ⟨kq, hkq⟩ : ∃ k, Q = 2 * k := ⟨Q / 2, by omega⟩
  have hP1 : P + 1 < m := by omega
  have hQ1 : Q + 1 < m := by omega
  have hne : kq ≠ kp := by omega
  have HKP := Lib.hid hkp
  have HKQ := Lib.hid hkq
  have HNE := Lib.hid hne
  clear x5 x6 x7 hkp hkq hne hme
  obtain ⟨l0, h0⟩ : ∃ l0, l0 = setw l P 0 := ⟨_, rfl⟩
  obtain ⟨d, hd⟩ : ∃ d, d = 65535 - fo (wsum l0) := ⟨_, rfl⟩
  obtain ⟨l1, h1⟩ : ∃ l1, l1 = setw l0 P d := ⟨_, rfl⟩
  obtain ⟨f, hf⟩ : ∃ f, f = wd l1 kq := ⟨_, rfl⟩
  obtain ⟨l2, h2⟩ : ∃ l2, l2 = setw l1 Q t := ⟨_, rfl⟩
  obtain ⟨d', hd'⟩ : ∃ d', d' = 65535 - fo (65535 - d + (65535 - f) + t) := ⟨_, rfl⟩
  obtain ⟨l3, h3⟩ : ∃ l3, l3 = setw l2 P d' := ⟨_, rfl⟩
  have n0 : l0.length = m := by rw [h0, setw_len, HL.out]
  have n1 : l1.length = m := by rw [h1, setw_len, n0]
  have n2 : l2.length = m := by rw [h2, setw_len, n1]
  have n3 : l3.length = m := by rw [h3, setw_len, n2]
  have b0 : ∀ x ∈ l0, 0 ≤ x ∧ x ≤ 255 := by rw [h0]; exact setw_bd _ _ _ HBB.out (by omega) (by omega)
  have s0 := (wsum_bd l0 b0).1
  have fb := fo_bd (wsum l0) s0
  have d0 : 0 ≤ d := by omega
  have d9 : d ≤ 65535 := by omega
  have b1 : ∀ x ∈ l1, 0 ≤ x ∧ x ≤ 255 := by rw [h1]; exact setw_bd _ _ _ b0 d0 d9
  have b2 : ∀ x ∈ l2, 0 ≤ x ∧ x ≤ 255 := by rw [h2]; exact setw_bd _ _ _ b1 t0 t9
  have ff := wd_bd l1 b1 kq
  have ff0 : 0 ≤ f := by rw [hf]; exact ff.1
  have ff9 : f ≤ 65535 := by rw [hf]; exact ff.2
  have fb' := fo_bd (65535 - d + (65535 - f) + t) (by omega)
  have d'0 : 0 ≤ d' := by omega
  have d'9 : d' ≤ 65535 := by omega
  have b3 : ∀ x ∈ l3, 0 ≤ x ∧ x ≤ 255 := by rw [h3]; exact setw_bd _ _ _ b2 d'0 d'9
  have s3 := (wsum_bd l3 b3).1
  have e0 : wd l0 kp = 0 := by rw [h0, HKP.out]; exact wd_setw_same l kp 0 (by have := HKP.out; have := HL.out; omega)
  have w1' : wsum l1 = wsum l0 + d := by
    have := wsum_setw l0 kp d (by have := HKP.out; omega)
    rw [← HKP.out, ← h1, e0] at this
    omega
  have e1 : wd l1 kp = d := by rw [h1, HKP.out]; exact wd_setw_same l0 kp d (by have := HKP.out; omega)
  have e2 : wd l2 kp = d := by rw [h2, HKQ.out, wd_setw_ne l1 kq kp t (Ne.symm HNE.out), e1]
  have w2' : wsum l2 = wsum l0 + d - f + t := by
    have := wsum_setw l1 kq t (by have := HKQ.out; omega)
    rw [← HKQ.out, ← h2, ← hf, w1'] at this
    exact this
  have w3' : wsum l3 = wsum l0 + d - f + t - d + d' := by
    have := wsum_setw l2 kp d' (by have := HKP.out; omega)
    rw [← HKP.out, ← h3, e2, w2'] at this
    exact this
  have right1 : (fo (wsum l1) == 65535) = true := by rw [w1', hd, fo_check s0]; rfl
  have right3 : fo (wsum l3) = 65535 ∨ fo (wsum l3) = 0 := by
    refine fo_full s3 ?_
    rw [w3', hd', hd]
    exact after s0 t0 ff9
  have HR1 := Lib.hid right1
  have HR3 := Lib.hid right3
  obtain ⟨y0, hy0⟩ : ∃ y, l1[Q]? = some y := ⟨l1[Q]'(by omega), by simp⟩
  obtain ⟨y1, hy1⟩ : ∃ y, l1[Q + 1]? = some y := ⟨l1[Q + 1]'(by omega), by simp⟩
  have hfy : f = 256 * y0 + y1 := by
    rw [hf]
    unfold wd
    rw [List.getD_eq_getElem?_getD, List.getD_eq_getElem?_getD, ← HKQ.out, hy0, hy1]
    rfl
  have yb0 := b1 y0 (List.mem_of_getElem? hy0)
  have yb1 := b1 y1 (List.mem_of_getElem? hy1)
  have HY0 := Lib.hid hy0
  have HY1 := Lib.hid hy1
  have H0 := Lib.hid h0
  have H1 := Lib.hid h1
  have H2 := Lib.hid h2
  have H3 := Lib.hid h3
  have HD := Lib.hid hd
  have HD' := Lib.hid hd'
  have HFY := Lib.hid hfy
  have N0 := Lib.hid n0
  have N1 := Lib.hid n1
  have N2 := Lib.hid n2
  have N3 := Lib.hid n3
  have B0 := Lib.hid b0
  have B1 := Lib.hid b1
  have B2 := Lib.hid b2
  have B3 := Lib.hid b3
  clear ff fb fb' s0 s3 w1' w2' w3' e0 e1 e2 hf right1 right3 h0 h1 h2 h3 hd hd' n0 n1 n2 n3 b0 b1 b2 b3 hy0 hy1 hfy
  go_enter Try.func15, Try.ntmps15
  go_wp2_with fail
  refine (C.out _).mono ?_
  rintro e w' ⟨rfl, rfl⟩
  go_wp2_with fail
  refine (put_any _ _ _ l _ P 0 HL.out (by omega) HR.out HZ.out hP1 (by omega) (by omega)).mono ?_
  rintro e w1 ⟨g1, k1, rfl, o1, bb1⟩
  rw [← H0.out] at o1
  have O1 := Lib.hid o1
  have HB1 := Lib.hid bb1
  clear o1 bb1
  go_wp2_with fail
  have T1 := Lib.hid (one (c := k1) N0.out (own_row O1.out) B0.out 63)
  refine (check_any _ 1 1 _ _ _ rfl (by omega) (by rw [flat_one, N0.out]; omega) T1.out.1 T1.out.2).mono ?_
  rintro e w' ⟨rfl, rfl⟩
  rw [flat_one, ← HD.out]
  clear T1
  have hs1 := HB1.out.size
  have HB2 := Lib.hid (HB1.out.alloc hs1 (.cells #[.slice (some ⟨g1, 0, none⟩) m k1] 63))
  have O2 := Lib.hid (O1.out.alloc (.cells #[.slice (some ⟨g1, 0, none⟩) m k1] 63))
  generalize (w1.alloc (.cells #[.slice (some ⟨g1, 0, none⟩) m k1] 63)) = w2 at *
  have v1' : IntKind.i64.wrap d = d := by rw [IntKind.wrap_i64]; omega
  clear O1
  go_wp2_with fail
  refine (put_any _ _ _ l0 _ P d N0.out (by omega) (own_row O2.out) (by intro h; cases h) hP1 d0 d9).mono ?_
  rintro e w3 ⟨g3, k3, rfl, o3, bb3⟩
  rw [← H1.out] at o3
  have O3 := Lib.hid o3
  have HB3 := Lib.hid (HB2.out.trans (bb3.mono HB2.out.size))
  clear o3 bb3 O2
  go_wp2_with fail
  have T3 := Lib.hid (one (c := k3) N1.out (own_row O3.out) B1.out 63)
  refine (right_any _ 1 1 _ _ _ rfl (by omega) (by rw [flat_one, N1.out]; omega) T3.out.1 T3.out.2).mono ?_
  rintro e w' ⟨rfl, rfl⟩
  rw [flat_one, HR1.out]
  clear T3
  have hs3 := HB3.out.size
  have HB4 := Lib.hid (HB3.out.alloc hs3 (.cells #[.slice (some ⟨g3, 0, none⟩) m k3] 63))
  have O4 := Lib.hid (O3.out.alloc (.cells #[.slice (some ⟨g3, 0, none⟩) m k3] 63))
  generalize (w3.alloc (.cells #[.slice (some ⟨g3, 0, none⟩) m k3] 63)) = w4 at *
  obtain ⟨_, _, hv, _, _, _, _, hcell, _⟩ := own_form O4.out (by omega)
  injection hv with hv1 hv2 hv3
  injection hv1 with hv1
  injection hv1 with hv1
  have hc0 : w4.cell? ⟨g3, Q, none⟩ = some (.int .u8 y0) := by rw [hv1, hcell Q (by omega), List.getElem?_map, HY0.out]; rfl
  have hc1 : w4.cell? ⟨g3, Q + 1, none⟩ = some (.int .u8 y1) := by rw [hv1, hcell (Q + 1) (by omega), List.getElem?_map, HY1.out]; rfl
  clear O3 hcell hv1 hv2 hv3
  obtain ⟨ya, yb⟩ := yb0
  obtain ⟨yc, yd⟩ := yb1
  have u1 : IntKind.i64.wrap y0 = y0 := by rw [IntKind.wrap_i64]; omega
  have u2 : IntKind.i64.wrap y1 = y1 := by rw [IntKind.wrap_i64]; omega
  have u3 : IntKind.i64.wrap (256 * y0) = 256 * y0 := by rw [IntKind.wrap_i64]; omega
  have u4 : IntKind.i64.wrap (256 * y0 + y1) = 256 * y0 + y1 := by rw [IntKind.wrap_i64]; omega
  have u5 : IntKind.u16.wrap (256 * y0 + y1) = f := by rw [IntKind.wrap_u16, ← HFY.out]; omega
  have u6 : IntKind.i64.wrap ((Q : Int) + 1) = (Q + 1 : Nat) := by rw [IntKind.wrap_i64]; omega
  have u7 : IntKind.i64.wrap t = t := by rw [IntKind.wrap_i64]; omega
  have u8 : IntKind.i64.wrap d' = d' := by rw [IntKind.wrap_i64]; omega
  go_wp2_with fail
  go_region
  go_wp2_with fail
  have HB5 := Lib.hid (bel_drew HB4.out)
  have O5 := Lib.hid O4.out.drew
  generalize w4.drew = w5 at *
  clear hc0 hc1 u1 u2 u3 u4 u5 u6 u7 O4 HB4
  refine (put_any _ _ _ l1 _ Q t N1.out (by omega) (own_row O5.out) (by intro h; cases h) hQ1 t0 t9).mono ?_
  rintro e w6 ⟨g6, k6, rfl, o6, bb6⟩
  rw [← H2.out] at o6
  have O6 := Lib.hid o6
  have HB6 := Lib.hid (HB5.out.trans (bb6.mono HB5.out.size))
  clear o6 bb6 O5
  go_wp2_with fail
  refine (turn_any _ _ _ d0 d9 ff0 ff9 t0 t9 _).mono ?_
  rintro e w' ⟨rfl, rfl⟩
  rw [← HD'.out]
  go_wp2_with fail
  refine (put_any _ _ _ l2 _ P d' N2.out (by omega) (own_row O6.out) (by intro h; cases h) hP1 d'0 d'9).mono ?_
  rintro e w7 ⟨g7, k7, rfl, o7, bb7⟩
  rw [← H3.out] at o7
  have O7 := Lib.hid o7
  have HB7 := Lib.hid (HB6.out.trans (bb7.mono HB6.out.size))
  clear o7 bb7 O6
  go_wp2_with fail
  have T7 := Lib.hid (one (c := k7) N3.out (own_row O7.out) B3.out 63)
  refine (right_any _ 1 1 _ _ _ rfl (by omega) (by rw [flat_one, N3.out]; omega) T7.out.1 T7.out.2).mono ?_
  rintro e w' ⟨rfl, rfl⟩
  rw [flat_one]
  clear T7
  have hs7 := HB7.out.size
  have HB8 := Lib.hid (HB7.out.alloc hs7 (.cells #[.slice (some ⟨g7, 0, none⟩) m k7] 63))
  have O8 := Lib.hid (O7.out.alloc (.cells #[.slice (some ⟨g7, 0, none⟩) m k7] 63))
  generalize (w7.alloc (.cells #[.slice (some ⟨g7, 0, none⟩) m k7] 63)) = w8 at *
  clear O7
  rcases HR3.out with h | h
  · have r : (fo (wsum l3) == 65535) = true := by rw [h]; rfl
    rw [r]
    clear r h
    go_wp2_with fail
    refine (awake_any _).mono ?_
    rintro e w9 ⟨rfl, bb9⟩
    have HB9 := Lib.hid (HB8.out.trans (bb9.mono HB8.out.size))
    clear bb9
    go_wp2_with fail
    go_ret
    exact ⟨rfl, HB9.out⟩
  · have r : (fo (wsum l3) == 65535) = false := by rw [h]; rfl
    rw [r]
    have HF0 := Lib.hid h
    clear r h
    go_wp2_with fail
    have T8 := Lib.hid (one (c := k7) N3.out (own_row O8.out) B3.out 63)
    refine (of_any _ 1 1 _ _ _ rfl (by omega) (by rw [flat_one, N3.out]; omega) T8.out.1 T8.out.2).mono ?_
    rintro e w' ⟨rfl, rfl⟩
    rw [flat_one, HF0.out]
    clear T8
    have hs8 := HB8.out.size
    have HB9 := Lib.hid (HB8.out.alloc hs8 (.cells #[.slice (some ⟨g7, 0, none⟩) m k7] 63))
    generalize (w8.alloc (.cells #[.slice (some ⟨g7, 0, none⟩) m k7] 63)) = w9 at *
    go_wp2_with fail
    refine (awake_any _).mono ?_
    rintro e w10 ⟨rfl, bb10⟩
    have HB10 := Lib.hid (HB9.out.trans (bb10.mono HB9.out.size))
    clear bb10
    go_wp2_with fail
    go_ret
    exact ⟨rfl, HB10.out⟩
end Go.Proofs.Ytlipemjidjjenaa.sumL
