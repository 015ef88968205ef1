/- Layer 16: the law's Made. -/
import Derived.Test.YtlihgiannfpjfaaTreM
import Derived.Test.YtlihgiannfpjfaaTreK
namespace Go.Proofs.Ytlihgiannfpjfaa.treN
open Go.ChangeShapes Go.WideShapes Go.ChangeAt Go.RowKit
open Go.Proofs.Ytlihgiannfpjfaa.base Go.Proofs.Ytlihgiannfpjfaa.dfA Go.Proofs.Ytlihgiannfpjfaa.treA Go.Proofs.Ytlihgiannfpjfaa.treB Go.Proofs.Ytlihgiannfpjfaa.treC Go.Proofs.Ytlihgiannfpjfaa.treD Go.Proofs.Ytlihgiannfpjfaa.treE Go.Proofs.Ytlihgiannfpjfaa.treG Go.Proofs.Ytlihgiannfpjfaa.treH Go.Proofs.Ytlihgiannfpjfaa.treI Go.Proofs.Ytlihgiannfpjfaa.treM
set_option linter.unusedVariables false

theorem good_snoc {m : List Nd} {e : Nd} (h : GoodTo m m.length) (he : whyF m e = 0) : GoodTo (m ++ [e]) (m ++ [e]).length := fun j hj hjk => by
  rcases Nat.lt_or_ge j m.length with h1 | h1
  · rw [List.take_append_of_le_length (by omega), List.getElem_append_left h1]
    exact h j h1 h1
  · have hq : j = m.length := by rw [List.length_append, List.length_singleton] at hj; omega
    subst hq
    rw [List.take_left' rfl, List.getElem_append_right (Nat.le_refl _)]
    simpa using he
theorem nm_snoc {m : List Nd} {e : Nd} (h : ∀ j (hj : j < m.length), (m[j]).nm.size ≤ 9223372036854775807) (he : e.nm.size ≤ 9223372036854775807) : ∀ j (hj : j < (m ++ [e]).length), ((m ++ [e])[j]).nm.size ≤ 9223372036854775807 := fun j hj => by
  rcases Nat.lt_or_ge j m.length with h1 | h1
  · rw [List.getElem_append_left h1]; exact h j h1
  · have hq : j = m.length := by rw [List.length_append, List.length_singleton] at hj; omega
    subst hq
    rw [List.getElem_append_right (Nat.le_refl _)]
    simpa using he
/-- What Made hands back. -/
def MadeP (w : World) (o : Ending) (w' : World) : Prop := ∃ (T : Nat) (m : List Nd) (A : Option Addr) (c : Nat), o = .returned (.tuple #[.pointer (some ⟨T, 0, none⟩), .slice A m.length c]) ∧ TreeOk w' T m ∧ RdN w' A m ∧ m.length ≤ 60 ∧ m.length ≤ c ∧ c ≤ 9223372036854775807 ∧ Below w.heap.size w w'
theorem own_n {w w' : World} {B : Nat} {v : Value} {n : Nat} {xs : List Value} (h : w.ownsRow B 44 7 v n xs) (hb : Below w.heap.size w w') : w'.ownsRow B 44 7 v n xs := own_far h fun k hk => hb.block k (h.lt k hk).2
set_option maxRecDepth 100000 in
set_option maxHeartbeats 16000000 in
theorem made_any (A : Option Addr) (n c : Nat) (l : List Nd) (w : World) (hr : RdN w A l) (hl : l.length ≤ 60) (hcap : l.length ≤ c) (hcap2 : c ≤ 9223372036854775807) (hnm : ∀ j (hj : j < l.length), (l[j]).nm.size ≤ 9223372036854775807)
    (hfew : ∀ W', Calls Try.prog 21 #[.slice A n c] W' fun o w' => o = .returned (.slice A l.length c) ∧ Below W'.heap.size W' w') :
    Calls Try.prog 7 #[.slice A n c] w (MadeP w) := by
  obtain ⟨i0, hi0, hz0, hz1, hz2⟩ := info_parts info_n
  have HI0 := Lib.hid hi0
  have HZ0 := Lib.hid hz0
  have HZ1 := Lib.hid hz1
  have HZ2 := Lib.hid hz2
  have HR := Lib.hid hr
  have HNM := Lib.hid hnm
  have HFW := Lib.hid (hfew w)
  obtain ⟨ln, hln⟩ : ∃ ln, ln = l.length := ⟨_, rfl⟩
  have HLN := Lib.hid hln
  rw [← hln] at hl hcap HFW
  clear hi0 hz0 hz1 hz2 hr hnm hfew hln
  go_enter Try.func7, Try.ntmps7
  go_wp2_with fail
  refine HFW.out.mono ?_
  rintro o w1 ⟨rfl, hb1⟩
  have B1 := Lib.hid hb1
  clear hb1
  go_wp2_with fail
  go_loopw [4, 5] (fun v i wr => ∃ (k : Nat) (m : List Nd), i = .int .i64 k ∧ k ≤ ln ∧ wr.ownsRow w.heap.size 44 7 v m.length (flatN m) ∧ m.length ≤ k ∧ GoodTo m m.length ∧ (∀ j (hj : j < m.length), (m[j]).nm.size ≤ 9223372036854775807) ∧ Below w.heap.size w wr) (fun _ i _ => ln - (intOf i).toNat)
  case atStart => exact ⟨0, [], rfl, by omega, World.ownsRow_nil _ _ _ 7, by simp, (fun j hj => by simp at hj), (fun j hj => by simp at hj), B1.out⟩
  case round =>
    obtain ⟨k, m, rfl, hk, hown, hmk, hgood, hmnm, hbel⟩ := hrel
    obtain ⟨A2, c2, rfl, hm1, hm2, hrd⟩ := rdN_own hown
    have KO := Lib.hid hown
    have KG := Lib.hid hgood
    have KN := Lib.hid hmnm
    have KB := Lib.hid hbel
    have KR := Lib.hid hrd
    clear hown hgood hmnm hbel hrd
    by_cases hkn : k < ln
    · have t1 : decide ((k : Int) < ln) = true := decide_eq_true (by omega)
      have hjl : k < l.length := HLN.out ▸ hkn
      obtain ⟨b, off, hA, hbl, hC⟩ := (HR.out.below KB.out).at_ k hjl
      subst hA
      have HNK := Lib.hid (HNM.out k hjl)
      obtain ⟨e, he⟩ : ∃ e, e = l[k] := ⟨_, rfl⟩
      rw [← he] at hC HNK
      have d0 : wr.cell? ⟨b, off + k * 7, none⟩ = some (.string e.nm) := hC 0 (by omega)
      have d1 : wr.cell? ⟨b, off + k * 7 + 1, none⟩ = some (.int .i64 e.kind) := hC 1 (by omega)
      have d2 : wr.cell? ⟨b, off + k * 7 + 2, none⟩ = some (.int .i64 e.ab) := hC 2 (by omega)
      have d3 : wr.cell? ⟨b, off + k * 7 + 3, none⟩ = some (.int .i64 e.wt) := hC 3 (by omega)
      have d4 : wr.cell? ⟨b, off + k * 7 + 4, none⟩ = some (.bool e.v6) := hC 4 (by omega)
      have d5 : wr.cell? ⟨b, off + k * 7 + 5, none⟩ = some (.int .u64 e.hi) := hC 5 (by omega)
      have d6 : wr.cell? ⟨b, off + k * 7 + 6, none⟩ = some (.int .u64 e.lo) := hC 6 (by omega)
      have j0 : (0 : Int) ≤ k := by omega
      have j1 : (k : Int) < ln := by omega
      have HWH := Lib.hid (show Calls Try.prog 22 #[.agg e.cells, .slice A2 m.length c2] wr fun o w' => o = .returned (.int .i64 (whyF m e)) ∧ Below wr.heap.size wr w' from treF.lawwhy_any A2 c2 m wr e KR.out (by omega) (by omega) hm2 HNK.out)
      have HC := Lib.hid (show ∀ W, Below wr.heap.size wr W → (W.cell? ⟨b, off + k * 7, none⟩ = some (.string e.nm) ∧ W.cell? ⟨b, off + k * 7 + 1, none⟩ = some (.int .i64 e.kind) ∧ W.cell? ⟨b, off + k * 7 + 2, none⟩ = some (.int .i64 e.ab) ∧ W.cell? ⟨b, off + k * 7 + 3, none⟩ = some (.int .i64 e.wt) ∧ W.cell? ⟨b, off + k * 7 + 4, none⟩ = some (.bool e.v6) ∧ W.cell? ⟨b, off + k * 7 + 5, none⟩ = some (.int .u64 e.hi) ∧ W.cell? ⟨b, off + k * 7 + 6, none⟩ = some (.int .u64 e.lo)) from fun W hb => by
        have hc := fun i hi => ((hb.cell (p := ⟨b, off + k * 7 + i, none⟩) hbl).trans (hC i hi))
        exact ⟨hc 0 (by omega), hc 1 (by omega), hc 2 (by omega), hc 3 (by omega), hc 4 (by omega), hc 5 (by omega), hc 6 (by omega)⟩)
      unfold Nd.cells at HWH
      obtain ⟨q, hq⟩ : ∃ q, q = whyF m e := ⟨_, rfl⟩
      have HQ := Lib.hid hq
      rw [← hq] at HWH
      clear hC he hq
      go_wp2_with fail
      refine HWH.out.mono ?_
      rintro o w3 ⟨rfl, hb3⟩
      have B3 := Lib.hid (KB.out.trans (hb3.mono KB.out.size))
      have KO3 := Lib.hid (own_n KO.out hb3)
      clear d0 d1 d2 d3 d4 d5 d6
      obtain ⟨d0, d1, d2, d3, d4, d5, d6⟩ := HC.out _ hb3
      clear hb3
      by_cases hq0 : q = 0
      · subst hq0
        have BA := Lib.hid (show Below w3.heap.size w3 (w3.alloc (.cells #[.string e.nm, .int .i64 e.kind, .int .i64 e.ab, .int .i64 e.wt, .bool e.v6, .int .u64 e.hi, .int .u64 e.lo] 44)) from (Below.refl _ _).alloc (Nat.le_refl _) _)
        have B4 := Lib.hid (B3.out.trans (BA.out.mono B3.out.size))
        have KO4 := Lib.hid (own_n KO3.out BA.out)
        have HNE := Lib.hid (show ∀ p u, e.cells.toList[p]? = some u → (w3.alloc (.cells #[.string e.nm, .int .i64 e.kind, .int .i64 e.ab, .int .i64 e.wt, .bool e.v6, .int .u64 e.hi, .int .u64 e.lo] 44)).cell? ((⟨w3.heap.size, 0, none⟩ : Addr).add p) = some u from fun p u hu => by
          have h3 : (w3.alloc (.cells #[.string e.nm, .int .i64 e.kind, .int .i64 e.ab, .int .i64 e.wt, .bool e.v6, .int .u64 e.hi, .int .u64 e.lo] 44)).cell? ⟨w3.heap.size, p, none⟩ = (#[.string e.nm, .int .i64 e.kind, .int .i64 e.ab, .int .i64 e.wt, .bool e.v6, .int .u64 e.hi, .int .u64 e.lo])[p]? := (Blk.new w3 44 #[.string e.nm, .int .i64 e.kind, .int .i64 e.ab, .int .i64 e.wt, .bool e.v6, .int .u64 e.hi, .int .u64 e.lo]).cell p
          rw [Addr.add_lit, Nat.zero_add, h3]
          have h2 : e.cells[p]? = some u := by simpa using hu
          exact h2)
        have P1 := Lib.hid (show m.length + 1 ≤ maxLen by unfold maxLen; omega)
        have P2 := Lib.hid (show (m.length + 1) * 64 ≤ 140737488355328 by omega)
        have P3 := Lib.hid (show w.heap.size ≤ (w3.alloc (.cells #[.string e.nm, .int .i64 e.kind, .int .i64 e.ab, .int .i64 e.wt, .bool e.v6, .int .u64 e.hi, .int .u64 e.lo] 44)).heap.size from B4.out.size)
        have KGS := Lib.hid (good_snoc KG.out HQ.out.symm)
        have KNS := Lib.hid (nm_snoc KN.out HNK.out)
        go_wp2_with (at_builtin; refine wpList_append_own _ rfl (.tmp 24) (.tmp 29) _ rfl w.heap.size 44 i0 _ 7 64 Try.underlying22 HI0.out HZ0.out HZ1.out HZ2.out rfl (by omega) (.slice A2 m.length c2) m.length (flatN m) rfl KO4.out ⟨w3.heap.size, 0, none⟩ 1 1 e.cells.toList rfl rfl HNE.out (one_n1 e) P1.out P2.out P3.out ?_; intro v6 w6 ho hg _; have HO1 := Lib.hid (show w6.ownsRow w.heap.size 44 7 v6 (m ++ [e]).length (flatN (m ++ [e])) by rw [flatN_snoc, List.length_append]; exact ho); have HB1 := Lib.hid (B4.out.grown hg P3.out (fun k hk => (KO4.out.lt k hk).1)); clear ho hg)
        go_roundw
        case rel => exact ⟨k + 1, m ++ [e], by go_num, by omega, HO1.out, by rw [List.length_append, List.length_singleton]; omega, KGS.out, KNS.out, HB1.out⟩
        case measure => simp [intOf]; omega
      · have q0 : (q == 0) = false := beq_false_of_ne hq0
        clear hq0
        go_wp2_with fail
        go_roundw
        case rel => exact ⟨k + 1, m, by go_num, by omega, KO3.out, by omega, KG.out, KN.out, B3.out⟩
        case measure => simp [intOf]; omega
    · have t1 : decide ((k : Int) < ln) = false := decide_eq_false (by omega)
      obtain rfl : ln = k := by omega
      have HNW := Lib.hid (new_any A2 c2 m wr KR.out (by omega) (by omega) hm2 KN.out)
      go_wp2_with fail
      refine HNW.out.mono ?_
      rintro o w3 ⟨hp, hb3⟩
      have B3 := Lib.hid (KB.out.trans (hb3.mono KB.out.size))
      have KR3 := Lib.hid (KR.out.below hb3)
      rcases hp with ⟨i, hi, _, hb, rfl⟩ | ⟨hg, nv, kv, ks, rfl, hgr⟩
      · exact absurd (KG.out i hi hi) hb
      · have HT := Lib.hid (show TreeOk w3 wr.heap.size m from ⟨⟨nv, kv, ks, hgr⟩, KG.out, by omega⟩)
        clear hg hgr hb3
        go_wp2_with fail
        go_ret2
        exact ⟨wr.heap.size, m, A2, c2, rfl, HT.out, KR3.out, by omega, hm1, hm2, B3.out⟩
end Go.Proofs.Ytlihgiannfpjfaa.treN
