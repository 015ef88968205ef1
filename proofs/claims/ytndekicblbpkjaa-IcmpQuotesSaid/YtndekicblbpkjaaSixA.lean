/- Layer 9: which kinds extend; where a part lies. -/
import Derived.Test.YtndekicblbpkjaaSixM
import Derived.Deep.DeepCutAuto
namespace Go.Proofs.Ytndekicblbpkjaa.sixA
open Go.ChangeShapes Go.WideShapes Go.ChangeAt Go.RowKit
open Go.Proofs.Ytndekicblbpkjaa.base Go.Proofs.Ytndekicblbpkjaa.octA Go.Proofs.Ytndekicblbpkjaa.octB Go.Proofs.Ytndekicblbpkjaa.octC Go.Proofs.Ytndekicblbpkjaa.octF Go.Proofs.Ytndekicblbpkjaa.octK Go.Proofs.Ytndekicblbpkjaa.net Go.Proofs.Ytndekicblbpkjaa.rdrA Go.Proofs.Ytndekicblbpkjaa.rdrG Go.Proofs.Ytndekicblbpkjaa.sumA Go.Proofs.Ytndekicblbpkjaa.sumB Go.Proofs.Ytndekicblbpkjaa.udpA Go.Proofs.Ytndekicblbpkjaa.tcpC Go.Proofs.Ytndekicblbpkjaa.sixW Go.Proofs.Ytndekicblbpkjaa.sixM
set_option linter.unusedVariables false

theorem at_2 (f : Nat) (A : Option Addr) (n c : Nat) (l : List Int) (w : World) (hl : l.length = n) (hn : n ≤ 1000000) (hc : n ≤ c) (hcm : c ≤ 9223372036854775807) (hz : A = none → c = 0) (hr : Row w w.heap.size A (l.map (.int .u8))) (hb : ∀ x ∈ l, 0 ≤ x ∧ x ≤ 255) (hf : f < 100) :
    Calls Try.prog 39 #[.slice A n c, .int .i64 f, .int .i64 2] w fun e w' => e = .returned (.int .u64 (256 * l.getD f 0 + l.getD (f + 1) 0)) ∧ w = w' := by
  have h := at_any A n c l f 2 w hl hn hc hcm hz hr hb (by omega)
  have e : atZ l f 2 = 256 * l.getD f 0 + l.getD (f + 1) 0 := by
    unfold atZ
    rw [if_neg (by omega), show hs 2 = 2 from by decide, Int.toNat_natCast]
    show (0 * 256 + l.getD (f + 0) 0) * 256 + l.getD (f + 1) 0 = _
    rw [Nat.add_zero, Int.zero_mul, Int.zero_add, Int.mul_comm]
  rwa [e] at h
set_option maxHeartbeats 1000000 in
theorem is_any (k : Int) (w : World) : Calls Try.prog 48 #[.int .i64 k] w fun o w' => o = .returned (.bool (isX k)) ∧ w = w' := by
  by_cases h0 : k = 0
  · have e : isX k = true := by unfold isX; exact decide_eq_true (by omega)
    have t : (k == 0) = true := by simpa using h0
    rw [e]
    clear h0 e
    go_enter Try.func48, Try.ntmps48
    go_wp2
    go_ret
    exact ⟨rfl, rfl⟩
  have t0 : (k == 0) = false := by simpa using h0
  by_cases h1 : k = 43
  · have e : isX k = true := by unfold isX; exact decide_eq_true (by omega)
    have t : (k == 43) = true := by simpa using h1
    rw [e]
    clear h0 h1 e
    go_enter Try.func48, Try.ntmps48
    go_wp2
    go_ret
    exact ⟨rfl, rfl⟩
  have t1 : (k == 43) = false := by simpa using h1
  by_cases h2 : k = 44
  · have e : isX k = true := by unfold isX; exact decide_eq_true (by omega)
    have t : (k == 44) = true := by simpa using h2
    rw [e]
    clear h0 h1 h2 e
    go_enter Try.func48, Try.ntmps48
    go_wp2
    go_ret
    exact ⟨rfl, rfl⟩
  have t2 : (k == 44) = false := by simpa using h2
  by_cases h3 : k = 60
  · have e : isX k = true := by unfold isX; exact decide_eq_true (by omega)
    have t : (k == 60) = true := by simpa using h3
    rw [e]
    clear h0 h1 h2 h3 e
    go_enter Try.func48, Try.ntmps48
    go_wp2
    go_ret
    exact ⟨rfl, rfl⟩
  have t3 : (k == 60) = false := by simpa using h3
  have e : isX k = false := by unfold isX; exact decide_eq_false (by omega)
  rw [e]
  clear h0 h1 h2 h3 e
  go_enter Try.func48, Try.ntmps48
  go_wp2
  go_ret
  exact ⟨rfl, rfl⟩
set_option maxHeartbeats 1000000 in
theorem lis_any (k : Int) (w : World) : Calls Try.prog 41 #[.int .i64 k] w fun o w' => o = .returned (.bool (isX k)) ∧ w = w' := by
  by_cases h0 : k = 0
  · have e : isX k = true := by unfold isX; exact decide_eq_true (by omega)
    have t : (k == 0) = true := by simpa using h0
    rw [e]
    clear h0 e
    go_enter Try.func41, Try.ntmps41
    go_wp2
    go_ret
    exact ⟨rfl, rfl⟩
  have t0 : (k == 0) = false := by simpa using h0
  by_cases h1 : k = 43
  · have e : isX k = true := by unfold isX; exact decide_eq_true (by omega)
    have t : (k == 43) = true := by simpa using h1
    rw [e]
    clear h0 h1 e
    go_enter Try.func41, Try.ntmps41
    go_wp2
    go_ret
    exact ⟨rfl, rfl⟩
  have t1 : (k == 43) = false := by simpa using h1
  by_cases h2 : k = 44
  · have e : isX k = true := by unfold isX; exact decide_eq_true (by omega)
    have t : (k == 44) = true := by simpa using h2
    rw [e]
    clear h0 h1 h2 e
    go_enter Try.func41, Try.ntmps41
    go_wp2
    go_ret
    exact ⟨rfl, rfl⟩
  have t2 : (k == 44) = false := by simpa using h2
  by_cases h3 : k = 60
  · have e : isX k = true := by unfold isX; exact decide_eq_true (by omega)
    have t : (k == 60) = true := by simpa using h3
    rw [e]
    clear h0 h1 h2 h3 e
    go_enter Try.func41, Try.ntmps41
    go_wp2
    go_ret
    exact ⟨rfl, rfl⟩
  have t3 : (k == 60) = false := by simpa using h3
  have e : isX k = false := by unfold isX; exact decide_eq_false (by omega)
  rw [e]
  clear h0 h1 h2 h3 e
  go_enter Try.func41, Try.ntmps41
  go_wp2
  go_ret
  exact ⟨rfl, rfl⟩
theorem lies_cons (x : XP) (l : List XP) : lies (x :: l) = if isPart x = true then 256 * x.2.getD 1 0 + x.2.getD 2 0 else lies l := rfl
theorem lies_drop (l : List Xt) (j : Nat) (hj : j < l.length) : lies ((l.drop j).map Xt.re) = if isPart l[j].re = true then 256 * l[j].d.getD 1 0 + l[j].d.getD 2 0 else lies ((l.drop (j + 1)).map Xt.re) := by
  rw [List.drop_eq_getElem_cons hj, List.map_cons, lies_cons]
  rfl
set_option maxHeartbeats 4000000 in
set_option maxRecDepth 100000 in
theorem lies_any (h : Hs) (A : Option Addr) (n c : Nat) (l : List Xt) (w : World) (hl : l.length = n) (hr : RdX w A l) (hn : n ≤ 1000000) :
    Calls Try.prog 52 #[.agg (h.cells (.slice A n c))] w fun o w' => o = .returned (.int .i64 (lies (l.map Xt.re))) ∧ Below w.heap.size w w' := by
  obtain ⟨cls, lab, hop, s6, sh, sl, d6, dh, dl, p⟩ := h
  unfold Hs.cells
  obtain ⟨w1, hw1⟩ : ∃ w1, w1 = w.alloc (.cells #[.int .i64 cls, .int .i64 lab, .int .i64 hop, .bool s6, .int .u64 sh, .int .u64 sl, .bool d6, .int .u64 dh, .int .u64 dl, .slice A n c, .int .i64 p] 29) := ⟨_, rfl⟩
  have E1 := Lib.hid hw1
  have BA1 := Lib.hid (show Below w.heap.size w w1 from by rw [hw1]; exact (Below.refl _ _).alloc (Nat.le_refl _) _)
  have KB := Lib.hid (show Blk w1 w.heap.size 29 #[.int .i64 cls, .int .i64 lab, .int .i64 hop, .bool s6, .int .u64 sh, .int .u64 sl, .bool d6, .int .u64 dh, .int .u64 dl, .slice A n c, .int .i64 p] from by rw [hw1]; exact Blk.new w _ _)
  have HR1 := Lib.hid (hr.below BA1.out)
  have HL := Lib.hid hl
  have HV := Lib.hid (show lies (l.map Xt.re) = lies ((l.drop 0).map Xt.re) from rfl)
  have c9 : w1.cell? ⟨w.heap.size, 9, none⟩ = some (.slice A n c) := KB.out.cell 9
  obtain ⟨v, hv⟩ : ∃ v, v = lies (l.map Xt.re) := ⟨_, rfl⟩
  rw [← hv] at HV ⊢
  clear hw1 hl hr hv
  go_enter Try.func52, Try.ntmps52
  go_upto_region 1 with fail
  rw [← E1.out]
  go_wp2_with fail
  go_loopw [8] (fun i wr => ∃ j : Nat, j ≤ n ∧ i = .int .i64 j ∧ Hid (v = lies ((l.drop j).map Xt.re)) ∧ Hid (Below w1.heap.size w1 wr)) (fun i _ => n - (intOf i).toNat)
  case atStart => exact ⟨0, by omega, rfl, HV, Lib.hid (Below.refl _ _)⟩
  case round =>
    obtain ⟨j, hj, rfl, HVJ, HB⟩ := hrel
    by_cases hlt : j < n
    · have hjl : j < l.length := HL.out.symm ▸ hlt
      obtain ⟨b, off, hA, hbl, hC⟩ := (HR1.out.below HB.out).at_ j hjl
      subst hA
      have hst := lies_drop l j hjl
      rw [← HVJ.out] at hst
      obtain ⟨k1, k2, k3, k4, k5⟩ := HR1.out.els l[j] (List.getElem_mem hjl)
      obtain ⟨e, he⟩ : ∃ e, e = l[j] := ⟨_, rfl⟩
      rw [← he] at hC hst k1 k2 k3 k4 k5
      obtain ⟨ek, eA, ec, ed⟩ := e
      have d0 : wr.cell? ⟨b, off + j * 2, none⟩ = some (.int .i64 ek) := hC 0 (by omega)
      have d1 : wr.cell? ⟨b, off + j * 2 + 1, none⟩ = some (.slice eA ed.length ec) := hC 1 (by omega)
      have HRW := Lib.hid ((k1.more HB.out.size).below (Below.refl _ _))
      have HK := Lib.hid (show Row wr wr.heap.size eA (ed.map (.int .u8)) from (k1.below HB.out).more HB.out.size)
      have HK2 := Lib.hid k2
      have HK3 := Lib.hid k3
      have HK4 := Lib.hid k4
      have HK5 := Lib.hid k5
      have HST := Lib.hid hst
      have j0 : (0 : Int) ≤ j := by omega
      have j1 : (j : Int) < n := by omega
      have t1 : decide ((j : Int) < n) = true := decide_eq_true (by omega)
      have t1n : decide (j < n) = true := decide_eq_true hlt
      obtain ⟨q, hq⟩ : ∃ q, q = ed.length := ⟨_, rfl⟩
      have HQ := Lib.hid hq
      rw [← hq] at d1
      clear hC he hst k1 k2 k3 k4 k5 hjl hq hbl
      obtain ⟨w2, hw2⟩ : ∃ w2, w2 = wr.alloc (.cells #[.int .i64 ek, .slice eA q ec] 73) := ⟨_, rfl⟩
      have E2 := Lib.hid hw2
      have BA2 := Lib.hid (show Below wr.heap.size wr w2 from by rw [hw2]; exact (Below.refl _ _).alloc (Nat.le_refl _) _)
      have KX := Lib.hid (show Blk w2 wr.heap.size 73 #[.int .i64 ek, .slice eA q ec] from by rw [hw2]; exact Blk.new wr _ _)
      have HB2 := Lib.hid (HB.out.trans (BA2.out.mono HB.out.size))
      have x0 : w2.cell? ⟨wr.heap.size, 0, none⟩ = some (.int .i64 ek) := KX.out.cell 0
      have x1 : w2.cell? ⟨wr.heap.size, 1, none⟩ = some (.slice eA q ec) := KX.out.cell 1
      clear hw2
      by_cases h44 : ek = 44
      · have t2 : (ek == 44) = true := by simpa using h44
        by_cases h7 : q = 7
        · have hp : isPart (Xt.re ⟨ek, eA, ec, ed⟩) = true := by
            unfold isPart Xt.re
            exact decide_eq_true ⟨h44, by rw [← HQ.out]; exact h7⟩
          have HF := Lib.hid (show v = 256 * ed.getD 1 0 + ed.getD 2 0 from by have := HST.out; rw [hp, if_pos rfl] at this; exact this)
          have HAT := Lib.hid (at_2 1 eA q ec ed w2 HQ.out.symm (by omega) (by have := HK2.out; rw [HQ.out]; exact this) HK3.out HK5.out ((HK.out.below BA2.out).more BA2.out.size) HK4.out (by omega))
          rw [← HF.out] at HAT
          have hvb : 0 ≤ v ∧ v ≤ 65535 := by
            have h1 : 0 ≤ ed.getD 1 0 ∧ ed.getD 1 0 ≤ 255 := HK4.out.get 1
            have h2 : 0 ≤ ed.getD 2 0 ∧ ed.getD 2 0 ≤ 255 := HK4.out.get 2
            have h3 := HF.out
            omega
          have wv : IntKind.i64.wrap v = v := IntWalk.i64_in _ (by omega)
          subst h7
          clear hp h44
          go_wp2_with fail
          rw [← E2.out]
          refine HAT.out.mono ?_
          rintro o w3 ⟨rfl, rfl⟩
          go_wp2_with fail
          go_ret
          exact ⟨rfl, BA1.out.trans (HB2.out.mono BA1.out.size)⟩
        · have hp : isPart (Xt.re ⟨ek, eA, ec, ed⟩) = false := by
            unfold isPart Xt.re
            exact decide_eq_false (by rintro ⟨_, h⟩; exact h7 (by rw [HQ.out]; exact h))
          have HF := Lib.hid (show v = lies ((l.drop (j + 1)).map Xt.re) from by have := HST.out; rw [hp, if_neg (by decide)] at this; exact this)
          have t7 : ((q : Int) == 7) = false := by simp; omega
          have t7n : (q == 7) = false := by simpa using h7
          clear hp h44 h7
          go_wp2_with fail
          rw [← E2.out]
          go_roundw
          case rel => exact ⟨j + 1, by omega, by go_num, HF, HB2⟩
          case measure => simp [intOf]; omega
      · have t2 : (ek == 44) = false := by simpa using h44
        have hp : isPart (Xt.re ⟨ek, eA, ec, ed⟩) = false := by
          unfold isPart Xt.re
          exact decide_eq_false (by rintro ⟨h, _⟩; exact h44 h)
        have HF := Lib.hid (show v = lies ((l.drop (j + 1)).map Xt.re) from by have := HST.out; rw [hp, if_neg (by decide)] at this; exact this)
        clear hp h44
        go_wp2_with fail
        rw [← E2.out]
        go_roundw
        case rel => exact ⟨j + 1, by omega, by go_num, HF, HB2⟩
        case measure => simp [intOf]; omega
    · obtain rfl : n = j := by omega
      have t1 : decide ((n : Int) < n) = false := decide_eq_false (by omega)
      have t1n : decide (n < n) = false := decide_eq_false (by omega)
      have hv : v = 0 := by rw [HVJ.out, ← HL.out, List.drop_length]; rfl
      subst hv
      go_wp2_with fail
      go_ret
      exact ⟨rfl, BA1.out.trans (HB.out.mono BA1.out.size)⟩
theorem i64_and (a b : Nat) (ha : a < 9223372036854775808) (hb : b < 9223372036854775808) : bits .and .i64 (a : Int) (b : Int) = ((a &&& b : Nat) : Int) := by
  have hA : (BitVec.ofInt 64 (a : Int)).toNat = a := by rw [BitVec.ofInt_natCast, BitVec.toNat_ofNat]; exact Nat.mod_eq_of_lt (by omega)
  have hB : (BitVec.ofInt 64 (b : Int)).toNat = b := by rw [BitVec.ofInt_natCast, BitVec.toNat_ofNat]; exact Nat.mod_eq_of_lt (by omega)
  show IntKind.i64.wrap ((BitVec.ofInt 64 (a : Int) &&& BitVec.ofInt 64 (b : Int)).toNat : Nat) = _
  rw [BitVec.toNat_and, hA, hB]
  have : a &&& b ≤ a := Nat.and_le_left
  exact IntWalk.i64_in _ (by omega)
theorem frag_any (h : Hs) (A : Option Addr) (n c : Nat) (l : List Xt) (w : World) (hl : l.length = n) (hr : RdX w A l) (hn : n ≤ 1000000) :
    Calls Try.prog 25 #[.agg (h.cells (.slice A n c))] w fun o w' => o = .returned (.int .i64 (lies (l.map Xt.re) / 8)) ∧ Below w.heap.size w w' := by
  obtain ⟨cls, lab, hop, s6, sh, sl, d6, dh, dl, p⟩ := h
  obtain ⟨w1, hw1⟩ : ∃ w1, w1 = w.alloc (.cells #[.int .i64 cls, .int .i64 lab, .int .i64 hop, .bool s6, .int .u64 sh, .int .u64 sl, .bool d6, .int .u64 dh, .int .u64 dl, .slice A n c, .int .i64 p] 29) := ⟨_, rfl⟩
  have E1 := Lib.hid hw1
  have BA1 := Lib.hid (show Below w.heap.size w w1 from by rw [hw1]; exact (Below.refl _ _).alloc (Nat.le_refl _) _)
  have KB := Lib.hid (show Blk w1 w.heap.size 29 #[.int .i64 cls, .int .i64 lab, .int .i64 hop, .bool s6, .int .u64 sh, .int .u64 sl, .bool d6, .int .u64 dh, .int .u64 dl, .slice A n c, .int .i64 p] from by rw [hw1]; exact Blk.new w _ _)
  have HLI := Lib.hid (show Calls Try.prog 52 #[.agg #[.int .i64 cls, .int .i64 lab, .int .i64 hop, .bool s6, .int .u64 sh, .int .u64 sl, .bool d6, .int .u64 dh, .int .u64 dl, .slice A n c, .int .i64 p]] w1 _ from lies_any ⟨cls, lab, hop, s6, sh, sl, d6, dh, dl, p⟩ A n c l w1 hl (hr.below BA1.out) hn)
  have hb := lies_in (l := l.map Xt.re) (fun x hx => by
    rw [List.mem_map] at hx
    obtain ⟨y, hy, rfl⟩ := hx
    exact (hr.els y hy).2.2.2.1)
  obtain ⟨v, hv⟩ : ∃ v, v = lies (l.map Xt.re) := ⟨_, rfl⟩
  rw [← hv] at HLI hb ⊢
  show Calls _ _ #[.agg #[.int .i64 cls, .int .i64 lab, .int .i64 hop, .bool s6, .int .u64 sh, .int .u64 sl, .bool d6, .int .u64 dh, .int .u64 dl, .slice A n c, .int .i64 p]] _ _
  clear hw1 hl hr hv
  have c0 := KB.out.cell 0
  have c1 := KB.out.cell 1
  have c2 := KB.out.cell 2
  have c3 := KB.out.cell 3
  have c4 := KB.out.cell 4
  have c5 := KB.out.cell 5
  have c6 := KB.out.cell 6
  have c7 := KB.out.cell 7
  have c8 := KB.out.cell 8
  have c9 := KB.out.cell 9
  have c10 := KB.out.cell 10
  go_enter Try.func25, Try.ntmps25
  go_upto_region 1 with fail
  rw [← E1.out]
  go_wp2_with fail
  refine HLI.out.mono ?_
  rintro o w2 ⟨rfl, hb2⟩
  have HB2 := Lib.hid (BA1.out.trans (hb2.mono BA1.out.size))
  clear hb2
  go_wp2_with fail
  go_ret
  exact ⟨rfl, HB2.out⟩
theorem more_any (h : Hs) (A : Option Addr) (n c : Nat) (l : List Xt) (w : World) (hl : l.length = n) (hr : RdX w A l) (hn : n ≤ 1000000) :
    Calls Try.prog 82 #[.agg (h.cells (.slice A n c))] w fun o w' => o = .returned (.bool (decide (lies (l.map Xt.re) % 2 = 1))) ∧ Below w.heap.size w w' := by
  obtain ⟨cls, lab, hop, s6, sh, sl, d6, dh, dl, p⟩ := h
  obtain ⟨w1, hw1⟩ : ∃ w1, w1 = w.alloc (.cells #[.int .i64 cls, .int .i64 lab, .int .i64 hop, .bool s6, .int .u64 sh, .int .u64 sl, .bool d6, .int .u64 dh, .int .u64 dl, .slice A n c, .int .i64 p] 29) := ⟨_, rfl⟩
  have E1 := Lib.hid hw1
  have BA1 := Lib.hid (show Below w.heap.size w w1 from by rw [hw1]; exact (Below.refl _ _).alloc (Nat.le_refl _) _)
  have KB := Lib.hid (show Blk w1 w.heap.size 29 #[.int .i64 cls, .int .i64 lab, .int .i64 hop, .bool s6, .int .u64 sh, .int .u64 sl, .bool d6, .int .u64 dh, .int .u64 dl, .slice A n c, .int .i64 p] from by rw [hw1]; exact Blk.new w _ _)
  have HLI := Lib.hid (show Calls Try.prog 52 #[.agg #[.int .i64 cls, .int .i64 lab, .int .i64 hop, .bool s6, .int .u64 sh, .int .u64 sl, .bool d6, .int .u64 dh, .int .u64 dl, .slice A n c, .int .i64 p]] w1 _ from lies_any ⟨cls, lab, hop, s6, sh, sl, d6, dh, dl, p⟩ A n c l w1 hl (hr.below BA1.out) hn)
  have hb := lies_in (l := l.map Xt.re) (fun x hx => by
    rw [List.mem_map] at hx
    obtain ⟨y, hy, rfl⟩ := hx
    exact (hr.els y hy).2.2.2.1)
  obtain ⟨v, hv⟩ : ∃ v, v = lies (l.map Xt.re) := ⟨_, rfl⟩
  rw [← hv] at HLI hb ⊢
  have hbit : (bits .and .i64 v 1 == 1) = decide (v % 2 = 1) := by
    obtain ⟨n', rfl⟩ := Int.eq_ofNat_of_zero_le hb.1
    have e : bits .and .i64 (n' : Int) 1 = ((n' &&& 1 : Nat) : Int) := i64_and n' 1 (by omega) (by omega)
    rw [e, Nat.and_one_is_mod]
    by_cases h : n' % 2 = 1
    · have h2 : (n' : Int) % 2 = 1 := by omega
      rw [h, decide_eq_true h2]
      rfl
    · have h2 : ¬ (n' : Int) % 2 = 1 := by omega
      rw [show n' % 2 = 0 by omega, decide_eq_false h2]
      rfl
  show Calls _ _ #[.agg #[.int .i64 cls, .int .i64 lab, .int .i64 hop, .bool s6, .int .u64 sh, .int .u64 sl, .bool d6, .int .u64 dh, .int .u64 dl, .slice A n c, .int .i64 p]] _ _
  clear hw1 hl hr hv
  have c0 := KB.out.cell 0
  have c1 := KB.out.cell 1
  have c2 := KB.out.cell 2
  have c3 := KB.out.cell 3
  have c4 := KB.out.cell 4
  have c5 := KB.out.cell 5
  have c6 := KB.out.cell 6
  have c7 := KB.out.cell 7
  have c8 := KB.out.cell 8
  have c9 := KB.out.cell 9
  have c10 := KB.out.cell 10
  go_enter Try.func82, Try.ntmps82
  go_upto_region 1 with fail
  rw [← E1.out]
  go_wp2_with fail
  refine HLI.out.mono ?_
  rintro o w2 ⟨rfl, hb2⟩
  have HB2 := Lib.hid (BA1.out.trans (hb2.mono BA1.out.size))
  clear hb2
  go_wp2_with fail
  go_ret
  exact ⟨rfl, HB2.out⟩
end Go.Proofs.Ytndekicblbpkjaa.sixA
