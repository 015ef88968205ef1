/- 3 texts in one. -/
import Derived.Deep.DeepCutAuto
import Derived.Test.YtndekicblbpkjaaPt09
/- Layer 9: which kinds extend; where a part lies. -/
namespace Go.Proofs.Ytndekicblbpkjaa.sixA
open Go.ChangeShapes Go.WideShapes Go.ChangeAt Go.RowKit
open Go.Proofs.Ytndekicblbpkjaa.base Go.Proofs.Ytndekicblbpkjaa.octA Go.Proofs.Ytndekicblbpkjaa.octB Go.Proofs.Ytndekicblbpkjaa.octC Go.Proofs.Ytndekicblbpkjaa.rdrA Go.Proofs.Ytndekicblbpkjaa.rdrG Go.Proofs.Ytndekicblbpkjaa.sixW Go.Proofs.Ytndekicblbpkjaa.sixM
set_option linter.unusedVariables false

theorem at_2 (f : Nat) (A : Option Addr) (n c : Nat) (l : List Int) (w : World) (hl : l.length = n) (hn : n ≤ 1000000) (hc : n ≤ c) (hcm : c ≤ 9223372036854775807) (hz : A = none → c = 0) (hr : Row w w.heap.size A (l.map (.int .u8))) (hb : ∀ x ∈ l, 0 ≤ x ∧ x ≤ 255) (hf : f < 100) :
    Calls Try.prog 39 #[.slice A n c, .int .i64 f, .int .i64 2] w fun e w' => e = .returned (.int .u64 (256 * l.getD f 0 + l.getD (f + 1) 0)) ∧ w = w' := by
  have h := at_any A n c l f 2 w hl hn hc hcm hz hr hb (by omega)
  have e : atZ l f 2 = 256 * l.getD f 0 + l.getD (f + 1) 0 := by
    unfold atZ
    rw [if_neg (by omega), show hs 2 = 2 from by decide, Int.toNat_natCast]
    show (0 * 256 + l.getD (f + 0) 0) * 256 + l.getD (f + 1) 0 = _
    rw [Nat.add_zero, Int.zero_mul, Int.zero_add, Int.mul_comm]
  rwa [e] at h
set_option maxHeartbeats 1000000 in
theorem is_any (k : Int) (w : World) : Calls Try.prog 48 #[.int .i64 k] w fun o w' => o = .returned (.bool (isX k)) ∧ w = w' := by
  by_cases h0 : k = 0
  · have e : isX k = true := by unfold isX; exact decide_eq_true (by omega)
    have t : (k == 0) = true := by simpa using h0
    rw [e]
    clear h0 e
    go_enter Try.func48, Try.ntmps48
    go_wp2
    go_ret
    exact ⟨rfl, rfl⟩
  have t0 : (k == 0) = false := by simpa using h0
  by_cases h1 : k = 43
  · have e : isX k = true := by unfold isX; exact decide_eq_true (by omega)
    have t : (k == 43) = true := by simpa using h1
    rw [e]
    clear h0 h1 e
    go_enter Try.func48, Try.ntmps48
    go_wp2
    go_ret
    exact ⟨rfl, rfl⟩
  have t1 : (k == 43) = false := by simpa using h1
  by_cases h2 : k = 44
  · have e : isX k = true := by unfold isX; exact decide_eq_true (by omega)
    have t : (k == 44) = true := by simpa using h2
    rw [e]
    clear h0 h1 h2 e
    go_enter Try.func48, Try.ntmps48
    go_wp2
    go_ret
    exact ⟨rfl, rfl⟩
  have t2 : (k == 44) = false := by simpa using h2
  by_cases h3 : k = 60
  · have e : isX k = true := by unfold isX; exact decide_eq_true (by omega)
    have t : (k == 60) = true := by simpa using h3
    rw [e]
    clear h0 h1 h2 h3 e
    go_enter Try.func48, Try.ntmps48
    go_wp2
    go_ret
    exact ⟨rfl, rfl⟩
  have t3 : (k == 60) = false := by simpa using h3
  have e : isX k = false := by unfold isX; exact decide_eq_false (by omega)
  rw [e]
  clear h0 h1 h2 h3 e
  go_enter Try.func48, Try.ntmps48
  go_wp2
  go_ret
  exact ⟨rfl, rfl⟩
theorem lies_cons (x : XP) (l : List XP) : lies (x :: l) = if isPart x = true then 256 * x.2.getD 1 0 + x.2.getD 2 0 else lies l := rfl
theorem lies_drop (l : List Xt) (j : Nat) (hj : j < l.length) : lies ((l.drop j).map Xt.re) = if isPart l[j].re = true then 256 * l[j].d.getD 1 0 + l[j].d.getD 2 0 else lies ((l.drop (j + 1)).map Xt.re) := by
  rw [List.drop_eq_getElem_cons hj, List.map_cons, lies_cons]
  rfl
set_option maxHeartbeats 4000000 in
set_option maxRecDepth 100000 in
theorem lies_any (h : Hs) (A : Option Addr) (n c : Nat) (l : List Xt) (w : World) (hl : l.length = n) (hr : RdX w A l) (hn : n ≤ 1000000) :
    Calls Try.prog 52 #[.agg (h.cells (.slice A n c))] w fun o w' => o = .returned (.int .i64 (lies (l.map Xt.re))) ∧ Below w.heap.size w w' := by
  obtain ⟨cls, lab, hop, s6, sh, sl, d6, dh, dl, p⟩ := h
  unfold Hs.cells
  obtain ⟨w1, hw1⟩ : ∃ w1, w1 = w.alloc (.cells #[.int .i64 cls, .int .i64 lab, .int .i64 hop, .bool s6, .int .u64 sh, .int .u64 sl, .bool d6, .int .u64 dh, .int .u64 dl, .slice A n c, .int .i64 p] 29) := ⟨_, rfl⟩
  have E1 := Lib.hid hw1
  have BA1 := Lib.hid (show Below w.heap.size w w1 from by rw [hw1]; exact (Below.refl _ _).alloc (Nat.le_refl _) _)
  have KB := Lib.hid (show Blk w1 w.heap.size 29 #[.int .i64 cls, .int .i64 lab, .int .i64 hop, .bool s6, .int .u64 sh, .int .u64 sl, .bool d6, .int .u64 dh, .int .u64 dl, .slice A n c, .int .i64 p] from by rw [hw1]; exact Blk.new w _ _)
  have HR1 := Lib.hid (hr.below BA1.out)
  have HL := Lib.hid hl
  have HV := Lib.hid (show lies (l.map Xt.re) = lies ((l.drop 0).map Xt.re) from rfl)
  have c9 : w1.cell? ⟨w.heap.size, 9, none⟩ = some (.slice A n c) := KB.out.cell 9
  obtain ⟨v, hv⟩ : ∃ v, v = lies (l.map Xt.re) := ⟨_, rfl⟩
  rw [← hv] at HV ⊢
  clear hw1 hl hr hv
  go_enter Try.func52, Try.ntmps52
  go_upto_region 1 with fail
  rw [← E1.out]
  go_wp2_with fail
  go_loopw [8] (fun i wr => ∃ j : Nat, j ≤ n ∧ i = .int .i64 j ∧ Hid (v = lies ((l.drop j).map Xt.re)) ∧ Hid (Below w1.heap.size w1 wr)) (fun i _ => n - (intOf i).toNat)
  case atStart => exact ⟨0, by omega, rfl, HV, Lib.hid (Below.refl _ _)⟩
  case round =>
    obtain ⟨j, hj, rfl, HVJ, HB⟩ := hrel
    by_cases hlt : j < n
    · have hjl : j < l.length := HL.out.symm ▸ hlt
      obtain ⟨b, off, hA, hbl, hC⟩ := (HR1.out.below HB.out).at_ j hjl
      subst hA
      have hst := lies_drop l j hjl
      rw [← HVJ.out] at hst
      obtain ⟨k1, k2, k3, k4, k5⟩ := HR1.out.els l[j] (List.getElem_mem hjl)
      obtain ⟨e, he⟩ : ∃ e, e = l[j] := ⟨_, rfl⟩
      rw [← he] at hC hst k1 k2 k3 k4 k5
      obtain ⟨ek, eA, ec, ed⟩ := e
      have d0 : wr.cell? ⟨b, off + j * 2, none⟩ = some (.int .i64 ek) := hC 0 (by omega)
      have d1 : wr.cell? ⟨b, off + j * 2 + 1, none⟩ = some (.slice eA ed.length ec) := hC 1 (by omega)
      have HRW := Lib.hid ((k1.more HB.out.size).below (Below.refl _ _))
      have HK := Lib.hid (show Row wr wr.heap.size eA (ed.map (.int .u8)) from (k1.below HB.out).more HB.out.size)
      have HK2 := Lib.hid k2
      have HK3 := Lib.hid k3
      have HK4 := Lib.hid k4
      have HK5 := Lib.hid k5
      have HST := Lib.hid hst
      have j0 : (0 : Int) ≤ j := by omega
      have j1 : (j : Int) < n := by omega
      have t1 : decide ((j : Int) < n) = true := decide_eq_true (by omega)
      have t1n : decide (j < n) = true := decide_eq_true hlt
      obtain ⟨q, hq⟩ : ∃ q, q = ed.length := ⟨_, rfl⟩
      have HQ := Lib.hid hq
      rw [← hq] at d1
      clear hC he hst k1 k2 k3 k4 k5 hjl hq hbl
      obtain ⟨w2, hw2⟩ : ∃ w2, w2 = wr.alloc (.cells #[.int .i64 ek, .slice eA q ec] 73) := ⟨_, rfl⟩
      have E2 := Lib.hid hw2
      have BA2 := Lib.hid (show Below wr.heap.size wr w2 from by rw [hw2]; exact (Below.refl _ _).alloc (Nat.le_refl _) _)
      have KX := Lib.hid (show Blk w2 wr.heap.size 73 #[.int .i64 ek, .slice eA q ec] from by rw [hw2]; exact Blk.new wr _ _)
      have HB2 := Lib.hid (HB.out.trans (BA2.out.mono HB.out.size))
      have x0 : w2.cell? ⟨wr.heap.size, 0, none⟩ = some (.int .i64 ek) := KX.out.cell 0
      have x1 : w2.cell? ⟨wr.heap.size, 1, none⟩ = some (.slice eA q ec) := KX.out.cell 1
      clear hw2
      by_cases h44 : ek = 44
      · have t2 : (ek == 44) = true := by simpa using h44
        by_cases h7 : q = 7
        · have hp : isPart (Xt.re ⟨ek, eA, ec, ed⟩) = true := by
            unfold isPart Xt.re
            exact decide_eq_true ⟨h44, by rw [← HQ.out]; exact h7⟩
          have HF := Lib.hid (show v = 256 * ed.getD 1 0 + ed.getD 2 0 from by have := HST.out; rw [hp, if_pos rfl] at this; exact this)
          have HAT := Lib.hid (at_2 1 eA q ec ed w2 HQ.out.symm (by omega) (by have := HK2.out; rw [HQ.out]; exact this) HK3.out HK5.out ((HK.out.below BA2.out).more BA2.out.size) HK4.out (by omega))
          rw [← HF.out] at HAT
          have hvb : 0 ≤ v ∧ v ≤ 65535 := by
            have h1 : 0 ≤ ed.getD 1 0 ∧ ed.getD 1 0 ≤ 255 := HK4.out.get 1
            have h2 : 0 ≤ ed.getD 2 0 ∧ ed.getD 2 0 ≤ 255 := HK4.out.get 2
            have h3 := HF.out
            omega
          have wv : IntKind.i64.wrap v = v := IntWalk.i64_in _ (by omega)
          subst h7
          clear hp h44
          go_wp2_with fail
          rw [← E2.out]
          refine HAT.out.mono ?_
          rintro o w3 ⟨rfl, rfl⟩
          go_wp2_with fail
          go_ret
          exact ⟨rfl, BA1.out.trans (HB2.out.mono BA1.out.size)⟩
        · have hp : isPart (Xt.re ⟨ek, eA, ec, ed⟩) = false := by
            unfold isPart Xt.re
            exact decide_eq_false (by rintro ⟨_, h⟩; exact h7 (by rw [HQ.out]; exact h))
          have HF := Lib.hid (show v = lies ((l.drop (j + 1)).map Xt.re) from by have := HST.out; rw [hp, if_neg (by decide)] at this; exact this)
          have t7 : ((q : Int) == 7) = false := by simp; omega
          have t7n : (q == 7) = false := by simpa using h7
          clear hp h44 h7
          go_wp2_with fail
          rw [← E2.out]
          go_roundw
          case rel => exact ⟨j + 1, by omega, by go_num, HF, HB2⟩
          case measure => simp [intOf]; omega
      · have t2 : (ek == 44) = false := by simpa using h44
        have hp : isPart (Xt.re ⟨ek, eA, ec, ed⟩) = false := by
          unfold isPart Xt.re
          exact decide_eq_false (by rintro ⟨h, _⟩; exact h44 h)
        have HF := Lib.hid (show v = lies ((l.drop (j + 1)).map Xt.re) from by have := HST.out; rw [hp, if_neg (by decide)] at this; exact this)
        clear hp h44
        go_wp2_with fail
        rw [← E2.out]
        go_roundw
        case rel => exact ⟨j + 1, by omega, by go_num, HF, HB2⟩
        case measure => simp [intOf]; omega
    · obtain rfl : n = j := by omega
      have t1 : decide ((n : Int) < n) = false := decide_eq_false (by omega)
      have t1n : decide (n < n) = false := decide_eq_false (by omega)
      have hv : v = 0 := by rw [HVJ.out, ← HL.out, List.drop_length]; rfl
      subst hv
      go_wp2_with fail
      go_ret
      exact ⟨rfl, BA1.out.trans (HB.out.mono BA1.out.size)⟩
theorem i64_and (a b : Nat) (ha : a < 9223372036854775808) (hb : b < 9223372036854775808) : bits .and .i64 (a : Int) (b : Int) = ((a &&& b : Nat) : Int) := by
  have hA : (BitVec.ofInt 64 (a : Int)).toNat = a := by rw [BitVec.ofInt_natCast, BitVec.toNat_ofNat]; exact Nat.mod_eq_of_lt (by omega)
  have hB : (BitVec.ofInt 64 (b : Int)).toNat = b := by rw [BitVec.ofInt_natCast, BitVec.toNat_ofNat]; exact Nat.mod_eq_of_lt (by omega)
  show IntKind.i64.wrap ((BitVec.ofInt 64 (a : Int) &&& BitVec.ofInt 64 (b : Int)).toNat : Nat) = _
  rw [BitVec.toNat_and, hA, hB]
  have : a &&& b ≤ a := Nat.and_le_left
  exact IntWalk.i64_in _ (by omega)
theorem frag_any (h : Hs) (A : Option Addr) (n c : Nat) (l : List Xt) (w : World) (hl : l.length = n) (hr : RdX w A l) (hn : n ≤ 1000000) :
    Calls Try.prog 25 #[.agg (h.cells (.slice A n c))] w fun o w' => o = .returned (.int .i64 (lies (l.map Xt.re) / 8)) ∧ Below w.heap.size w w' := by
  obtain ⟨cls, lab, hop, s6, sh, sl, d6, dh, dl, p⟩ := h
  obtain ⟨w1, hw1⟩ : ∃ w1, w1 = w.alloc (.cells #[.int .i64 cls, .int .i64 lab, .int .i64 hop, .bool s6, .int .u64 sh, .int .u64 sl, .bool d6, .int .u64 dh, .int .u64 dl, .slice A n c, .int .i64 p] 29) := ⟨_, rfl⟩
  have E1 := Lib.hid hw1
  have BA1 := Lib.hid (show Below w.heap.size w w1 from by rw [hw1]; exact (Below.refl _ _).alloc (Nat.le_refl _) _)
  have KB := Lib.hid (show Blk w1 w.heap.size 29 #[.int .i64 cls, .int .i64 lab, .int .i64 hop, .bool s6, .int .u64 sh, .int .u64 sl, .bool d6, .int .u64 dh, .int .u64 dl, .slice A n c, .int .i64 p] from by rw [hw1]; exact Blk.new w _ _)
  have HLI := Lib.hid (show Calls Try.prog 52 #[.agg #[.int .i64 cls, .int .i64 lab, .int .i64 hop, .bool s6, .int .u64 sh, .int .u64 sl, .bool d6, .int .u64 dh, .int .u64 dl, .slice A n c, .int .i64 p]] w1 _ from lies_any ⟨cls, lab, hop, s6, sh, sl, d6, dh, dl, p⟩ A n c l w1 hl (hr.below BA1.out) hn)
  have hb := lies_in (l := l.map Xt.re) (fun x hx => by
    rw [List.mem_map] at hx
    obtain ⟨y, hy, rfl⟩ := hx
    exact (hr.els y hy).2.2.2.1)
  obtain ⟨v, hv⟩ : ∃ v, v = lies (l.map Xt.re) := ⟨_, rfl⟩
  rw [← hv] at HLI hb ⊢
  show Calls _ _ #[.agg #[.int .i64 cls, .int .i64 lab, .int .i64 hop, .bool s6, .int .u64 sh, .int .u64 sl, .bool d6, .int .u64 dh, .int .u64 dl, .slice A n c, .int .i64 p]] _ _
  clear hw1 hl hr hv
  have c0 := KB.out.cell 0
  have c1 := KB.out.cell 1
  have c2 := KB.out.cell 2
  have c3 := KB.out.cell 3
  have c4 := KB.out.cell 4
  have c5 := KB.out.cell 5
  have c6 := KB.out.cell 6
  have c7 := KB.out.cell 7
  have c8 := KB.out.cell 8
  have c9 := KB.out.cell 9
  have c10 := KB.out.cell 10
  go_enter Try.func25, Try.ntmps25
  go_upto_region 1 with fail
  rw [← E1.out]
  go_wp2_with fail
  refine HLI.out.mono ?_
  rintro o w2 ⟨rfl, hb2⟩
  have HB2 := Lib.hid (BA1.out.trans (hb2.mono BA1.out.size))
  clear hb2
  go_wp2_with fail
  go_ret
  exact ⟨rfl, HB2.out⟩
theorem more_any (h : Hs) (A : Option Addr) (n c : Nat) (l : List Xt) (w : World) (hl : l.length = n) (hr : RdX w A l) (hn : n ≤ 1000000) :
    Calls Try.prog 82 #[.agg (h.cells (.slice A n c))] w fun o w' => o = .returned (.bool (decide (lies (l.map Xt.re) % 2 = 1))) ∧ Below w.heap.size w w' := by
  obtain ⟨cls, lab, hop, s6, sh, sl, d6, dh, dl, p⟩ := h
  obtain ⟨w1, hw1⟩ : ∃ w1, w1 = w.alloc (.cells #[.int .i64 cls, .int .i64 lab, .int .i64 hop, .bool s6, .int .u64 sh, .int .u64 sl, .bool d6, .int .u64 dh, .int .u64 dl, .slice A n c, .int .i64 p] 29) := ⟨_, rfl⟩
  have E1 := Lib.hid hw1
  have BA1 := Lib.hid (show Below w.heap.size w w1 from by rw [hw1]; exact (Below.refl _ _).alloc (Nat.le_refl _) _)
  have KB := Lib.hid (show Blk w1 w.heap.size 29 #[.int .i64 cls, .int .i64 lab, .int .i64 hop, .bool s6, .int .u64 sh, .int .u64 sl, .bool d6, .int .u64 dh, .int .u64 dl, .slice A n c, .int .i64 p] from by rw [hw1]; exact Blk.new w _ _)
  have HLI := Lib.hid (show Calls Try.prog 52 #[.agg #[.int .i64 cls, .int .i64 lab, .int .i64 hop, .bool s6, .int .u64 sh, .int .u64 sl, .bool d6, .int .u64 dh, .int .u64 dl, .slice A n c, .int .i64 p]] w1 _ from lies_any ⟨cls, lab, hop, s6, sh, sl, d6, dh, dl, p⟩ A n c l w1 hl (hr.below BA1.out) hn)
  have hb := lies_in (l := l.map Xt.re) (fun x hx => by
    rw [List.mem_map] at hx
    obtain ⟨y, hy, rfl⟩ := hx
    exact (hr.els y hy).2.2.2.1)
  obtain ⟨v, hv⟩ : ∃ v, v = lies (l.map Xt.re) := ⟨_, rfl⟩
  rw [← hv] at HLI hb ⊢
  have hbit : (bits .and .i64 v 1 == 1) = decide (v % 2 = 1) := by
    obtain ⟨n', rfl⟩ := Int.eq_ofNat_of_zero_le hb.1
    have e : bits .and .i64 (n' : Int) 1 = ((n' &&& 1 : Nat) : Int) := i64_and n' 1 (by omega) (by omega)
    rw [e, Nat.and_one_is_mod]
    by_cases h : n' % 2 = 1
    · have h2 : (n' : Int) % 2 = 1 := by omega
      rw [h, decide_eq_true h2]
      rfl
    · have h2 : ¬ (n' : Int) % 2 = 1 := by omega
      rw [show n' % 2 = 0 by omega, decide_eq_false h2]
      rfl
  show Calls _ _ #[.agg #[.int .i64 cls, .int .i64 lab, .int .i64 hop, .bool s6, .int .u64 sh, .int .u64 sl, .bool d6, .int .u64 dh, .int .u64 dl, .slice A n c, .int .i64 p]] _ _
  clear hw1 hl hr hv
  have c0 := KB.out.cell 0
  have c1 := KB.out.cell 1
  have c2 := KB.out.cell 2
  have c3 := KB.out.cell 3
  have c4 := KB.out.cell 4
  have c5 := KB.out.cell 5
  have c6 := KB.out.cell 6
  have c7 := KB.out.cell 7
  have c8 := KB.out.cell 8
  have c9 := KB.out.cell 9
  have c10 := KB.out.cell 10
  go_enter Try.func82, Try.ntmps82
  go_upto_region 1 with fail
  rw [← E1.out]
  go_wp2_with fail
  refine HLI.out.mono ?_
  rintro o w2 ⟨rfl, hb2⟩
  have HB2 := Lib.hid (BA1.out.trans (hb2.mono BA1.out.size))
  clear hb2
  go_wp2_with fail
  go_ret
  exact ⟨rfl, HB2.out⟩
end Go.Proofs.Ytndekicblbpkjaa.sixA
/- Layer 9: an address of 16 bytes; the bytes of a header that extends. -/
namespace Go.Proofs.Ytndekicblbpkjaa.sixB
open Go.ChangeShapes Go.WideShapes Go.ChangeAt Go.RowKit
open Go.Proofs.Ytndekicblbpkjaa.base Go.Proofs.Ytndekicblbpkjaa.octA Go.Proofs.Ytndekicblbpkjaa.octB Go.Proofs.Ytndekicblbpkjaa.rdrA Go.Proofs.Ytndekicblbpkjaa.rdrG Go.Proofs.Ytndekicblbpkjaa.sumB Go.Proofs.Ytndekicblbpkjaa.udpA Go.Proofs.Ytndekicblbpkjaa.sixM
set_option linter.unusedVariables false

def hi (n : Int) : Int := n / 18446744073709551616
def lo (n : Int) : Int := n % 18446744073709551616
theorem half_next (n c : Int) (h0 : 0 ≤ n) (h1 : n < 1329227995784915872903807060280344576) (c0 : 0 ≤ c) (c1 : c ≤ 255) :
    hi (n * 256 + c) = hi n * 256 + lo n / 72057594037927936 ∧ lo (n * 256 + c) = lo n % 72057594037927936 * 256 + c ∧ 0 ≤ hi n ∧ hi n < 72057594037927936 ∧ 0 ≤ lo n ∧ lo n < 18446744073709551616 := by
  unfold hi lo
  omega
theorem atN_split (l : List Int) : ∀ j, atN l 0 (8 + j) = atN l 0 8 * 256 ^ j + atN l 8 j
  | 0 => by simp [atN]
  | j + 1 => by
    have e1 : atN l 0 (8 + (j + 1)) = atN l 0 (8 + j) * 256 + l.getD (0 + (8 + j)) 0 := rfl
    have e2 : atN l 8 (j + 1) = atN l 8 j * 256 + l.getD (8 + j) 0 := rfl
    rw [e1, e2, atN_split l j, Int.pow_succ, Int.add_mul, Int.mul_assoc, Int.add_assoc, Nat.zero_add]
theorem halves (l : List Int) (hb : ∀ x ∈ l, 0 ≤ x ∧ x ≤ 255) : hi (atN l 0 16) = atN l 0 8 ∧ lo (atN l 0 16) = atN l 8 8 := by
  have e := atN_split l 8
  have b := atN_in l 8 hb 8
  rw [show (256 : Int) ^ 8 = 18446744073709551616 from by decide] at e b
  rw [show 16 = 8 + 8 from rfl, e]
  unfold hi lo
  omega
theorem pow16 : ∀ j : Fin 16, (256 : Int) ^ j.val ≤ 1329227995784915872903807060280344576 := by decide
theorem or_add2 (a b : Int) (ha : 0 ≤ a) (ha2 : a < 72057594037927936) (hb : 0 ≤ b) (hb2 : b < 256) : bits .or .u64 (a * 256) b = a * 256 + b := by
  obtain ⟨x, rfl⟩ := Int.eq_ofNat_of_zero_le ha
  obtain ⟨y, rfl⟩ := Int.eq_ofNat_of_zero_le hb
  exact or_add x y (by omega) (by omega)
def OfPost (w : World) (hh ll : Int) (o : Ending) (w' : World) : Prop := o = .returned (.tuple #[.agg #[.bool true, .int .u64 hh, .int .u64 ll], .int .i64 0]) ∧ Below w.heap.size w w'
theorem results_addr {fn : Func} {p u : Tmp} (h : fn.results = #[.cell p 26, .tmp u]) (tmps : Array Value) (w : World) (g : Nat) (cs : Array Value) (hp : tmps.getD p undef = .pointer (some ⟨g, 0, none⟩)) (hg : Blk w g 26 cs) (hs : cs.size = 3) :
    (results fn tmps).run Try.prog w = .ok (.tuple #[.agg cs, tmps.getD u undef]) w := by
  rw [results_cell_tmp h, hp]
  simp only [asAddr, Sem.run_pure, Result.andThen_ok]
  rw [run_loadVar_row w g 26 26 cs (0, 0) _ hg Try.underlying26 rfl (by rw [hs]; kernel_rfl)]
  rfl
set_option maxHeartbeats 4000000 in
set_option maxRecDepth 100000 in
theorem of16 (A : Option Addr) (c : Nat) (l : List Int) (w : World) (hl : l.length = 16) (hr : Row w w.heap.size A (l.map (.int .u8))) (hb : ∀ x ∈ l, 0 ≤ x ∧ x ≤ 255) :
    Calls Try.prog 97 #[.slice A 16 c] w (OfPost w (atN l 0 8) (atN l 8 8)) := by
  obtain ⟨b, off, rfl, hbl, hcl⟩ := slice_from hr 0 (by omega)
  rw [hl] at hcl
  have HCL := Lib.hid hcl
  have HBL := Lib.hid hbl
  obtain ⟨hv1, hv2⟩ := halves l hb
  obtain ⟨hh, hhh⟩ : ∃ hh, hh = atN l 0 8 := ⟨_, rfl⟩
  obtain ⟨ll, hll⟩ : ∃ ll, ll = atN l 8 8 := ⟨_, rfl⟩
  rw [← hhh] at hv1
  rw [← hll] at hv2
  rw [← hhh, ← hll]
  have HV1 := Lib.hid hv1
  have HV2 := Lib.hid hv2
  have HG := Lib.hid (show ∀ j, 0 ≤ l.getD j 0 ∧ l.getD j 0 ≤ 255 from fun j => getD_in l hb j)
  have HIN := Lib.hid (show ∀ j, 0 ≤ atN l 0 j ∧ atN l 0 j < 256 ^ j from fun j => atN_in l 0 hb j)
  obtain ⟨g1, hg1⟩ : ∃ g, g = w.heap.size := ⟨_, rfl⟩
  obtain ⟨w1, hw1⟩ : ∃ w1, w1 = w.alloc (.cells #[.bool false, .int .u64 0, .int .u64 0] 26) := ⟨_, rfl⟩
  obtain ⟨w2, hw2⟩ : ∃ w2, w2 = w1.alloc (.cells #[.bool true, .int .u64 0, .int .u64 0] 26) := ⟨_, rfl⟩
  have E1 := Lib.hid hw1
  have E2 := Lib.hid hw2
  have EG := Lib.hid hg1
  have s1 : w1.heap.size = g1 + 1 := by rw [hw1, hg1]; simp
  have S1 := Lib.hid s1
  have K1 := Lib.hid (show Blk w1 g1 26 #[.bool false, .int .u64 0, .int .u64 0] from by rw [hw1, hg1]; exact Blk.new w _ _)
  have B2 := Lib.hid (show Below w1.heap.size w1 w2 from by rw [hw2]; exact (Below.refl _ _).alloc (Nat.le_refl _) _)
  have BB2 := Lib.hid (show Below g1 w w2 from by rw [hw2, hw1, hg1]; exact ((Below.refl _ _).alloc (Nat.le_refl _) _).alloc (by simp) _)
  have K2 := Lib.hid (show Blk w2 (g1 + 1) 26 #[.bool true, .int .u64 0, .int .u64 0] from by rw [hw2, ← s1]; exact Blk.new w1 _ _)
  have KR := Lib.hid (K1.out.below B2.out K1.out.lt)
  have H0 := Lib.hid (show hi (atN l 0 0) = 0 ∧ lo (atN l 0 0) = 0 from ⟨rfl, rfl⟩)
  rw [← EG.out] at hbl
  unfold OfPost
  rw [← EG.out]
  clear hr hb hl hcl hv1 hv2 hw1 hw2 hg1 s1 hhh hll
  go_enter Try.func97, Try.ntmps97
  go_upto_region 4 with fail
  rw [← EG.out, ← E1.out, ← E2.out]
  have s1 := S1.out
  go_wp2_with fail
  go_loopw [22] (fun i wr => ∃ j : Nat, j ≤ 16 ∧ i = .int .i64 j ∧ Hid (Blk wr (g1 + 1) 26 #[.bool true, .int .u64 (hi (atN l 0 j)), .int .u64 (lo (atN l 0 j))]) ∧ Hid (Blk wr g1 26 #[.bool false, .int .u64 0, .int .u64 0]) ∧ Hid (Below g1 w wr)) (fun i _ => 16 - (intOf i).toNat)
  case atStart => exact ⟨0, by omega, rfl, Lib.hid (by rw [H0.out.1, H0.out.2]; exact K2.out), KR, BB2⟩
  case round =>
    obtain ⟨j, hj, rfl, HK, HKR, HB⟩ := hrel
    by_cases hlt : j < 16
    · obtain ⟨n, hn⟩ : ∃ n, n = atN l 0 j := ⟨_, rfl⟩
      have hin := HIN.out j
      have hnx : atN l 0 (j + 1) = n * 256 + l.getD j 0 := by rw [hn]; show _ * 256 + l.getD (0 + j) 0 = _; rw [Nat.zero_add]
      rw [← hn] at hin HK
      have hp : (256 : Int) ^ j ≤ 1329227995784915872903807060280344576 := pow16 ⟨j, hlt⟩
      obtain ⟨cb, hcb⟩ : ∃ cb, cb = l.getD j 0 := ⟨_, rfl⟩
      have hg := HG.out j
      rw [← hcb] at hnx hg
      obtain ⟨q1, q2, q3, q4, q5, q6⟩ := half_next n cb hin.1 (by omega) hg.1 hg.2
      have HN1 := Lib.hid (show hi (atN l 0 (j + 1)) = hi n * 256 + lo n / 72057594037927936 from by rw [hnx, q1])
      have HN2 := Lib.hid (show lo (atN l 0 (j + 1)) = lo n % 72057594037927936 * 256 + cb from by rw [hnx, q2])
      have d0 : wr.cell? ⟨b, off + j, none⟩ = some (.int .u8 cb) := by rw [hcb, ← HCL.out j hlt]; exact HB.out.cell (p := ⟨b, off + j, none⟩) hbl
      obtain ⟨x, hx⟩ : ∃ x, x = hi n := ⟨_, rfl⟩
      obtain ⟨y, hy⟩ : ∃ y, y = lo n := ⟨_, rfl⟩
      rw [← hx, ← hy] at HN1
      rw [← hy] at HN2
      rw [← hx, ← hy] at HK
      rw [← hx] at q3 q4
      rw [← hy] at q5 q6
      have c1 := HK.out.cell 1
      have c2 := HK.out.cell 2
      have f1 := HK.out.frozen 1
      have f2 := HK.out.frozen 2
      have w8 : IntKind.u64.wrap (x * 256) = x * 256 := by rw [IntKind.wrap_u64]; omega
      have w9 : IntKind.u64.wrap (y * 256) = y % 72057594037927936 * 256 := by rw [IntKind.wrap_u64]; omega
      have w10 : IntKind.u64.wrap cb = cb := by rw [IntKind.wrap_u64]; omega
      have o1 := or_add2 x (y / 72057594037927936) q3 q4 (by omega) (by omega)
      have o2 := or_add2 (y % 72057594037927936) cb (by omega) (by omega) hg.1 (by omega)
      have i0 : (0 : Int) ≤ j := by omega
      have i1 : (j : Int) < 16 := by omega
      have HST := Lib.hid (show ∀ u v, Blk ((wr.setCell ⟨g1 + 1, 1, none⟩ (.int .u64 u)).setCell ⟨g1 + 1, 2, none⟩ (.int .u64 v)) (g1 + 1) 26 #[.bool true, .int .u64 u, .int .u64 v] from fun u v => (HK.out.set_ 1 (.int .u64 u)).set_ 2 (.int .u64 v))
      have HSR := Lib.hid (show ∀ u v, Blk ((wr.setCell ⟨g1 + 1, 1, none⟩ (.int .u64 u)).setCell ⟨g1 + 1, 2, none⟩ (.int .u64 v)) g1 26 #[.bool false, .int .u64 0, .int .u64 0] from fun u v => (HKR.out.far (p := ⟨g1 + 1, 1, none⟩) (by simp) _).far (p := ⟨g1 + 1, 2, none⟩) (by simp) _)
      have HSB := Lib.hid (show ∀ u v, Below g1 w ((wr.setCell ⟨g1 + 1, 1, none⟩ (.int .u64 u)).setCell ⟨g1 + 1, 2, none⟩ (.int .u64 v)) from fun u v => (HB.out.setCell (p := ⟨g1 + 1, 1, none⟩) (by simp) _).setCell (p := ⟨g1 + 1, 2, none⟩) (by simp) _)
      clear hn hin hnx hp hcb q1 q2 hx hy
      go_wp2_with fail
      go_roundw
      case rel => exact ⟨j + 1, by omega, by go_num, Lib.hid (by rw [HN1.out, HN2.out]; exact HST.out _ _), Lib.hid (HSR.out _ _), Lib.hid (HSB.out _ _)⟩
      case measure => simp [intOf]; omega
    · obtain rfl : j = 16 := by omega
      have hk := HK.out
      rw [HV1.out, HV2.out] at hk
      have HK3 := Lib.hid hk
      have c0 := HK3.out.cell 0
      have c1 := HK3.out.cell 1
      have c2 := HK3.out.cell 2
      have r0 := HKR.out.cell 0
      have r1 := HKR.out.cell 1
      have r2 := HKR.out.cell 2
      have f0 := HKR.out.frozen 0
      have f1 := HKR.out.frozen 1
      have f2 := HKR.out.frozen 2
      have KZ := Lib.hid (show Blk (((wr.setCell ⟨g1, 0, none⟩ (.bool true)).setCell ⟨g1, 1, none⟩ (.int .u64 hh)).setCell ⟨g1, 2, none⟩ (.int .u64 ll)) g1 26 #[.bool true, .int .u64 hh, .int .u64 ll] from ((HKR.out.set_ 0 (.bool true)).set_ 1 (.int .u64 hh)).set_ 2 (.int .u64 ll))
      have BZ := Lib.hid (show Below g1 w (((wr.setCell ⟨g1, 0, none⟩ (.bool true)).setCell ⟨g1, 1, none⟩ (.int .u64 hh)).setCell ⟨g1, 2, none⟩ (.int .u64 ll)) from ((HB.out.setCell (p := ⟨g1, 0, none⟩) (Nat.le_refl g1) (.bool true)).setCell (p := ⟨g1, 1, none⟩) (Nat.le_refl g1) (.int .u64 hh)).setCell (p := ⟨g1, 2, none⟩) (Nat.le_refl g1) (.int .u64 ll))
      clear hk
      go_wp2_with fail
      exact bodyPost_ret (results_addr rfl _ _ g1 #[.bool true, .int .u64 hh, .int .u64 ll] rfl KZ.out rfl) rfl ⟨rfl, BZ.out⟩
end Go.Proofs.Ytndekicblbpkjaa.sixB
/- Layer 9: readAddr, readData. -/
namespace Go.Proofs.Ytndekicblbpkjaa.sixC
open Go.ChangeShapes Go.WideShapes Go.ChangeAt Go.RowKit
open Go.Proofs.Ytndekicblbpkjaa.base Go.Proofs.Ytndekicblbpkjaa.octA Go.Proofs.Ytndekicblbpkjaa.octB Go.Proofs.Ytndekicblbpkjaa.octF Go.Proofs.Ytndekicblbpkjaa.rdrA Go.Proofs.Ytndekicblbpkjaa.rdrG Go.Proofs.Ytndekicblbpkjaa.sixW Go.Proofs.Ytndekicblbpkjaa.sixM Go.Proofs.Ytndekicblbpkjaa.sixB
set_option linter.unusedVariables false

theorem atN_part (l : List Int) (f n : Nat) : ∀ k, f + k ≤ n → atN (l.take n) f k = atN l f k := by
  intro k
  induction k with
  | zero => intro _; rfl
  | succ j ih =>
    intro h
    rw [atN, atN, ih (by omega), List.getD_eq_getElem?_getD, List.getD_eq_getElem?_getD, List.getElem?_take, if_pos (by omega)]
def AddrP (w : World) (B g : Nat) (l : List Int) (o : Ending) (w' : World) : Prop :=
  o = .returned (.agg #[.bool true, .int .u64 (atN l 0 8), .int .u64 (atN l 8 8)]) ∧ Rdr w' B g (l.drop 16) ∧ Below B w w' ∧ Els g w w' ∧ w.heap.size ≤ w'.heap.size
set_option maxHeartbeats 4000000 in
set_option maxRecDepth 100000 in
theorem addr_any (B g : Nat) (l : List Int) (w : World) (hB : B ≤ g) (h : Rdr w B g l) (hl : 16 ≤ l.length) (hb : U8 l) :
    Calls Try.prog 73 #[.pointer (some ⟨g, 0, none⟩)] w (AddrP w B g l) := by
  have hgl := h.lt
  obtain ⟨w1, hw1⟩ : ∃ w1, w1 = w.alloc (.cells #[.bool false, .int .u64 0, .int .u64 0] 26) := ⟨_, rfl⟩
  have E1 := Lib.hid hw1
  have BA1 := Lib.hid (show Below w.heap.size w w1 from by rw [hw1]; exact (Below.refl _ _).alloc (Nat.le_refl _) _)
  have KR1 := Lib.hid (show Blk w1 w.heap.size 26 #[.bool false, .int .u64 0, .int .u64 0] from by rw [hw1]; exact Blk.new w _ _)
  have SZ1 := Lib.hid (show w1.heap.size = w.heap.size + 1 from by rw [hw1]; simp)
  have RAW := Lib.hid (raw_any B g 16 l w1 hB (h.below BA1.out (by omega) hgl) hl)
  have HU := Lib.hid hb
  have HL := Lib.hid hl
  have HB := Lib.hid hB
  unfold AddrP
  obtain ⟨hh, hhh⟩ : ∃ hh, hh = atN l 0 8 := ⟨_, rfl⟩
  obtain ⟨ll, hll⟩ : ∃ ll, ll = atN l 8 8 := ⟨_, rfl⟩
  have HH := Lib.hid (show hh = atN (l.take 16) 0 8 from hhh.trans (atN_part l 0 16 8 (by omega)).symm)
  have LL := Lib.hid (show ll = atN (l.take 16) 8 8 from hll.trans (atN_part l 8 16 8 (by omega)).symm)
  rw [← hhh, ← hll]
  clear h hl hb hw1 hhh hll hB
  go_enter Try.func73, Try.ntmps73
  go_wp2_with fail
  rw [← E1.out]
  refine RAW.out.mono ?_
  rintro e w2 ⟨b, off, rfl, hbB, hli, hr2, ho2⟩
  have HR2 := Lib.hid hr2
  have KR2 := Lib.hid ((Only.g ho2).blk KR1.out (by omega))
  have SZ2 := Lib.hid (show w2.heap.size = w.heap.size + 1 from ho2.size.trans SZ1.out)
  have BB2 := Lib.hid ((Only.g ho2).from (BA1.out.mono (show B ≤ w.heap.size by have := HB.out; omega)) HB.out)
  have EL2 := Lib.hid ((Els.refl g w).below (Nat.le_refl _) BA1.out |>.trans BA1.out.size (Only.g ho2).toE)
  have OF := Lib.hid (of16 (some ⟨b, off, none⟩) 16 (l.take 16) w2 (by have := HL.out; rw [List.length_take]; omega) (hli.row (by have := SZ2.out; have := HB.out; omega)) (HU.out.take 16))
  unfold OfPost at OF
  rw [← HH.out, ← LL.out] at OF
  clear hli hr2 ho2
  go_wp2_with fail
  refine OF.out.mono ?_
  rintro e w3 ⟨rfl, hb3⟩
  have SZ3 := Lib.hid (show w.heap.size + 1 ≤ w3.heap.size from by have := SZ2.out; have := hb3.size; omega)
  have KR3 := Lib.hid (KR2.out.below hb3 KR2.out.lt)
  have HR3 := Lib.hid (HR2.out.below hb3 (by have := SZ2.out; have := HB.out; omega) (by have := SZ2.out; omega))
  have BB3 := Lib.hid (BB2.out.trans (hb3.mono (by have := SZ2.out; have := HB.out; omega)))
  have EL3 := Lib.hid (EL2.out.below (by have := SZ2.out; omega) hb3)
  clear hb3
  obtain ⟨p, hp⟩ : ∃ p, p = w3.heap.size := ⟨_, rfl⟩
  obtain ⟨w4, hw4⟩ : ∃ w4, w4 = w3.alloc (.cells #[.bool true, .int .u64 hh, .int .u64 ll] 26) := ⟨_, rfl⟩
  have E4 := Lib.hid hw4
  have EP := Lib.hid hp
  have BA4 := Lib.hid (show Below w3.heap.size w3 w4 from by rw [hw4]; exact (Below.refl _ _).alloc (Nat.le_refl _) _)
  have KP4 := Lib.hid (show Blk w4 p 26 #[.bool true, .int .u64 hh, .int .u64 ll] from by rw [hw4, hp]; exact Blk.new w3 _ _)
  have KR4 := Lib.hid (KR3.out.below BA4.out KR3.out.lt)
  have x0 := KP4.out.cell 0
  have x1 := KP4.out.cell 1
  have x2 := KP4.out.cell 2
  have y0 := KR4.out.cell 0
  have y1 := KR4.out.cell 1
  have y2 := KR4.out.cell 2
  have f0 := KR4.out.frozen 0
  have f1 := KR4.out.frozen 1
  have f2 := KR4.out.frozen 2
  have HKF := Lib.hid (show Blk (((w4.setCell ⟨w.heap.size, 0, none⟩ (.bool true)).setCell ⟨w.heap.size, 1, none⟩ (.int .u64 hh)).setCell ⟨w.heap.size, 2, none⟩ (.int .u64 ll)) w.heap.size 26 #[.bool true, .int .u64 hh, .int .u64 ll] from ((KR4.out.set_ 0 (.bool true)).set_ 1 (.int .u64 hh)).set_ 2 (.int .u64 ll))
  have BA5 := Lib.hid (show Below w.heap.size w4 (((w4.setCell ⟨w.heap.size, 0, none⟩ (.bool true)).setCell ⟨w.heap.size, 1, none⟩ (.int .u64 hh)).setCell ⟨w.heap.size, 2, none⟩ (.int .u64 ll)) from (((Below.refl w.heap.size w4).setCell (p := ⟨w.heap.size, 0, none⟩) (Nat.le_refl _) (.bool true)).setCell (p := ⟨w.heap.size, 1, none⟩) (Nat.le_refl _) (.int .u64 hh)).setCell (p := ⟨w.heap.size, 2, none⟩) (Nat.le_refl _) (.int .u64 ll))
  have HR4 := Lib.hid (HR3.out.below BA4.out (by have := SZ3.out; have := HB.out; omega) (by have := SZ3.out; omega))
  clear hp hw4
  go_upto_region 2 with fail
  rw [← EP.out, ← E4.out]
  go_wp2_with fail
  refine bodyPost_ret (results_cell_row rfl _ _ w.heap.size 26 #[.bool true, .int .u64 hh, .int .u64 ll] (0, 0) _ rfl HKF.out Try.underlying26 rfl (by kernel_rfl)) rfl ?_
  have e1 := BA5.out.size
  have e2 := SZ3.out
  have e3 := BA4.out.size
  exact ⟨rfl, HR4.out.below BA5.out (by have := HB.out; omega) hgl, BB3.out.trans ((BA4.out.mono (by have := HB.out; omega)).trans (BA5.out.mono (by have := HB.out; omega))), (EL3.out.below (by omega) BA4.out).below (Nat.le_refl _) BA5.out, by omega⟩
def DataP (w : World) (B g : Nat) (d t : List Int) (o : Ending) (w' : World) : Prop :=
  ∃ A c, o = .returned (.slice A d.length c) ∧ w'.ownsRow w.heap.size 5 1 (.slice A d.length c) d.length (d.map (.int .u8)) ∧ Rdr w' B g t ∧ Below B w w' ∧ Els g w w' ∧ w.heap.size ≤ w'.heap.size
set_option maxHeartbeats 4000000 in
set_option maxRecDepth 100000 in
theorem data_part (B g : Nat) (l : List Int) (w : World) (hB : B ≤ g) (h : Rdr w B g l) (hl : 7 ≤ l.length) :
    Calls Try.prog 74 #[.pointer (some ⟨g, 0, none⟩), .int .i64 44] w (DataP w B g (l.take 7) (l.drop 7)) := by
  have hgl := h.lt
  have RAW := Lib.hid (raw_any B g 7 l w hB h hl)
  have HL := Lib.hid (show (l.take 7).length = 7 from by rw [List.length_take]; omega)
  have HB := Lib.hid hB
  unfold DataP
  rw [HL.out]
  clear h hl hB
  go_enter Try.func74, Try.ntmps74
  go_wp2_with fail
  refine RAW.out.mono ?_
  rintro e w2 ⟨b, off, rfl, hbB, hli, hr2, ho2⟩
  have HR2 := Lib.hid hr2
  have SZ2 := Lib.hid (show w2.heap.size = w.heap.size from ho2.size)
  have ON2 := Lib.hid (Only.g ho2)
  have CL := Lib.hid (clone_any (some ⟨b, off, none⟩) 7 7 (l.take 7) w2 HL.out (by omega) (by intro h; cases h) (hli.row (by have := SZ2.out; have := HB.out; omega)))
  clear hli hr2 ho2
  go_wp2_with fail
  refine CL.out.mono ?_
  rintro o w3 ⟨v, rfl, ho3, hb3, hs3⟩
  obtain ⟨A, c, hv⟩ := own_slice ho3
  subst hv
  rw [SZ2.out] at ho3 hb3
  have OW := Lib.hid ho3
  have B3 := Lib.hid hb3
  clear ho3 hb3 hs3
  go_wp2_with fail
  go_ret
  have hB := HB.out
  exact ⟨A, c, rfl, OW.out, HR2.out.below B3.out (by omega) hgl, (ON2.out.bel.mono hB).trans (B3.out.mono (by omega)), (toEls ON2.out).below (Nat.le_refl _) B3.out, by have := B3.out.size; have := SZ2.out; omega⟩
set_option maxHeartbeats 4000000 in
set_option maxRecDepth 100000 in
theorem data_more (B g : Nat) (p : Int) (k : Nat) (l : List Int) (w : World) (hB : B ≤ g) (h : Rdr w B g l) (hp : p ≠ 44) (hu : U8 l) (hk : l.getD 0 0 = k) (hl : 7 + 8 * k ≤ l.length) :
    Calls Try.prog 74 #[.pointer (some ⟨g, 0, none⟩), .int .i64 p] w (DataP w B g (l.take (7 + 8 * k)) (l.drop (7 + 8 * k))) := by
  obtain ⟨i0, hi0, hz0, hz1, hz2⟩ := info_parts info_u8
  have HI0 := Lib.hid hi0
  have HZ0 := Lib.hid hz0
  have HZ1 := Lib.hid hz1
  have HZ2 := Lib.hid hz2
  have hgl := h.lt
  have hk255 : k ≤ 255 := by have := hu.get 0; omega
  have RAW := Lib.hid (raw_any B g 7 l w hB h (by omega))
  have RAW2 := Lib.hid (show ∀ V, Rdr V B g (l.drop 7) → _ from fun V hV => raw_any B g (8 * k) (l.drop 7) V hB hV (by rw [List.length_drop]; omega))
  have HL := Lib.hid (show (l.take 7).length = 7 from by rw [List.length_take]; omega)
  have HL2 := Lib.hid (show (l.take (7 + 8 * k)).length = 7 + 8 * k from by rw [List.length_take]; omega)
  have HTK := Lib.hid (show l.take (7 + 8 * k) = l.take 7 ++ (l.drop 7).take (8 * k) from List.take_add)
  have HDR := Lib.hid (show (l.drop 7).drop (8 * k) = l.drop (7 + 8 * k) from by rw [List.drop_drop])
  have HL3 := Lib.hid (show ((l.drop 7).take (8 * k)).length = 8 * k from by rw [List.length_take, List.length_drop]; omega)
  have HK := Lib.hid (show (l.take 7).getD 0 0 = k from by rw [← hk, List.getD_eq_getElem?_getD, List.getD_eq_getElem?_getD, List.getElem?_take, if_pos (by omega)])
  have HB := Lib.hid hB
  have t : (p == 44) = false := by simpa using hp
  unfold DataP
  rw [HL2.out]
  clear h hl hB hi0 hz0 hz1 hz2 hu hk hp
  go_enter Try.func74, Try.ntmps74
  go_wp2_with fail
  refine RAW.out.mono ?_
  rintro e w2 ⟨b, off, rfl, hbB, hli, hr2, ho2⟩
  have HR2 := Lib.hid hr2
  have SZ2 := Lib.hid (show w2.heap.size = w.heap.size from ho2.size)
  have ON2 := Lib.hid (Only.g ho2)
  have CL := Lib.hid (clone_any (some ⟨b, off, none⟩) 7 7 (l.take 7) w2 HL.out (by omega) (by intro h; cases h) (hli.row (by have := SZ2.out; have := HB.out; omega)))
  clear hli hr2 ho2
  go_wp2_with fail
  refine CL.out.mono ?_
  rintro o w3 ⟨v, rfl, ho3, hb3, hs3⟩
  obtain ⟨g3, c, rfl, o1, o2, o3, o4, o5, o6⟩ := own_form ho3 (by omega)
  rw [SZ2.out] at ho3 hb3 o1
  have OW := Lib.hid ho3
  have B3 := Lib.hid hb3
  have HR3 := Lib.hid (HR2.out.below hb3 (by have := HB.out; omega) hgl)
  have ERR := Lib.hid (err_gen B g _ _ w3 (Rdr.st HR3.out))
  have d0 : w3.cell? ⟨g3, 0, none⟩ = some (.int .u8 (k : Int)) := by
    rw [o5 0 (by omega), List.getElem?_map]
    have hk := HK.out
    rw [List.getD_eq_getElem?_getD] at hk
    have hl7 := HL.out
    rw [List.getElem?_eq_getElem (by omega)] at hk ⊢
    simpa using hk
  have wk : IntKind.i64.wrap (k : Int) = (k : Int) := IntWalk.i64_in _ (by omega)
  have wk8 : IntKind.i64.wrap (8 * (k : Int)) = 8 * (k : Int) := IntWalk.i64_in _ (by omega)
  clear ho3 hb3 hs3 o2 o3 o4 o5 o6 o1
  go_wp2_with fail
  refine ERR.out.mono ?_
  rintro o w' ⟨rfl, rfl⟩
  go_wp2_with fail
  refine (RAW2.out _ HR3.out).mono ?_
  rintro o w4 ⟨b4, off4, rfl, hb4B, hli4, hr4, ho4⟩
  rw [HDR.out] at hr4
  have ON4 := Lib.hid (Only.g ho4)
  have HR4 := Lib.hid hr4
  have S4 := Lib.hid (show w.heap.size ≤ w4.heap.size from by have := B3.out.size; have := SZ2.out; rw [ho4.size]; omega)
  have OW4 := Lib.hid (show w4.ownsRow w.heap.size 5 1 (.slice (some ⟨g3, 0, none⟩) 7 c) 7 ((l.take 7).map (.int .u8)) from own_els OW.out hgl (Only.g ho4).toE)
  have HNE := Lib.hid (show ∀ (i : Nat) (u : Value), (((l.drop 7).take (8 * k)).map (Value.int .u8))[i]? = some u → w4.cell? ((⟨b4, off4, none⟩ : Addr).add i) = some u from fun i u hu => by
    rw [List.getElem?_map, Option.map_eq_some_iff] at hu
    obtain ⟨z, hz, rfl⟩ := hu
    have hi := (List.getElem?_eq_some_iff.1 hz).1
    rw [Addr.add_lit, hli4 i hi, List.getD_eq_getElem?_getD, hz]
    rfl)
  have HLn := Lib.hid (show (((l.drop 7).take (8 * k)).map (Value.int .u8)).length = 8 * k * 1 from by rw [List.length_map, HL3.out, Nat.mul_one])
  have H1c := Lib.hid (show ∀ u ∈ ((l.drop 7).take (8 * k)).map (Value.int .u8), u.oneCell' = true from fun u hu => by
    rw [List.mem_map] at hu
    obtain ⟨x, _, rfl⟩ := hu
    rfl)
  have P1 := Lib.hid (show 7 + 8 * k ≤ maxLen by unfold maxLen; omega)
  have P2 := Lib.hid (show (7 + 8 * k) * 1 ≤ 140737488355328 by omega)
  go_wp2_with (at_builtin; refine wpList_append_own _ rfl (.tmp 17) (.tmp 24) _ rfl w.heap.size 5 i0 _ 1 1 Try.underlying22 HI0.out HZ0.out HZ1.out HZ2.out rfl (by omega) (.slice (some ⟨g3, 0, none⟩) 7 c) 7 ((l.take 7).map (.int .u8)) rfl OW4.out ⟨b4, off4, none⟩ (8 * k) (8 * k) (((l.drop 7).take (8 * k)).map (.int .u8)) rfl HLn.out HNE.out H1c.out P1.out P2.out S4.out ?_; intro v5 w5 ho5 hg5 _; have OW5 := Lib.hid ho5; have HB5 := Lib.hid ((Below.refl w.heap.size w4).grown hg5 S4.out (fun k hk => (OW4.out.lt k hk).1)); obtain ⟨A5, c5, hv5⟩ := own_slice ho5; subst hv5; clear ho5 hg5)
  go_ret
  have hB := HB.out
  have hz := HB5.out.size
  refine ⟨A5, c5, rfl, ?_, HR4.out.below HB5.out (by omega) hgl, ((ON2.out.bel.mono hB).trans (B3.out.mono (by omega))).trans ((ON4.out.bel.mono hB).trans (HB5.out.mono (by omega))), ?_, by have := S4.out; omega⟩
  · rw [HTK.out, List.map_append]
    exact OW5.out
  · have e1 := (toEls ON2.out).below (Nat.le_refl _) B3.out
    have e2 := e1.trans (by have := B3.out.size; have := SZ2.out; omega) (toEls ON4.out)
    exact e2.below (Nat.le_refl _) HB5.out
end Go.Proofs.Ytndekicblbpkjaa.sixC
