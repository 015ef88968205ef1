/- 3 texts in one. -/
import Derived.Laws.IdiomCopy
import Derived.Test.YtoaboklckkcjcaaGreatPk03
import Derived.Test.YtoaboklckkcjcaaGreatPk09
import Derived.Test.YtoaboklckkcjcaaGreatPk11
import Derived.Test.YtoaboklckkcjcaaGreatPk17
import Derived.Test.YtoaboklckkcjcaaGreatPk20
/- Layer 16: the law's Made. -/
namespace Go.Proofs.YtoaboklckkcjcaaGreat.treX
open Go.ChangeShapes Go.WideShapes Go.ChangeAt Go.RowKit
open Go.Proofs.YtoaboklckkcjcaaGreat.base Go.Proofs.YtoaboklckkcjcaaGreat.dfA Go.Proofs.YtoaboklckkcjcaaGreat.treA Go.Proofs.YtoaboklckkcjcaaGreat.treB Go.Proofs.YtoaboklckkcjcaaGreat.treC Go.Proofs.YtoaboklckkcjcaaGreat.treD Go.Proofs.YtoaboklckkcjcaaGreat.treE Go.Proofs.YtoaboklckkcjcaaGreat.treG Go.Proofs.YtoaboklckkcjcaaGreat.treH Go.Proofs.YtoaboklckkcjcaaGreat.treI Go.Proofs.YtoaboklckkcjcaaGreat.treM Go.Proofs.YtoaboklckkcjcaaGreat.treN
set_option linter.unusedVariables false

/-- Those of the first k nodes that may stand behind those ahead of them that do. -/
def madeTo (l : List Nd) : Nat → List Nd
  | 0 => []
  | k + 1 => if whyF (madeTo l k) (l.getD k zNd) = 0 then madeTo l k ++ [l.getD k zNd] else madeTo l k
theorem madeTo_yes {l m : List Nd} {k : Nat} {e : Nd} (h : m = madeTo l k) (hk : k < l.length) (he : e = l[k]) (hw : whyF m e = 0) : m ++ [e] = madeTo l (k + 1) := by
  have hg : l.getD k zNd = e := by rw [List.getD_eq_getElem?_getD, List.getElem?_eq_getElem hk, he]; rfl
  unfold madeTo
  rw [hg, ← h, if_pos hw]
theorem madeTo_no {l m : List Nd} {k : Nat} {e : Nd} (h : m = madeTo l k) (hk : k < l.length) (he : e = l[k]) (hw : whyF m e ≠ 0) : m = madeTo l (k + 1) := by
  have hg : l.getD k zNd = e := by rw [List.getD_eq_getElem?_getD, List.getElem?_eq_getElem hk, he]; rfl
  unfold madeTo
  rw [hg, ← h, if_neg hw]
/-- Nodes that may be all stand. -/
theorem madeTo_good {l : List Nd} (h : GoodTo l l.length) : ∀ k, k ≤ l.length → madeTo l k = l.take k
  | 0, _ => by rw [List.take_zero]; rfl
  | k + 1, hk => by
    have ih := madeTo_good h k (by omega)
    have hg : l.getD k zNd = l[k]'(by omega) := by rw [List.getD_eq_getElem?_getD, List.getElem?_eq_getElem (by omega)]; rfl
    unfold madeTo
    rw [ih, hg, if_pos (h k (by omega) (by omega)), List.take_add_one, List.getElem?_eq_getElem (by omega)]
    rfl
theorem madeTo_all {l : List Nd} (h : GoodTo l l.length) : madeTo l l.length = l := by rw [madeTo_good h _ (Nat.le_refl _), List.take_length]
/-- What Made hands back. -/
def MadeX (w : World) (l : List Nd) (o : Ending) (w' : World) : Prop := ∃ (T : Nat) (m : List Nd) (A : Option Addr) (c : Nat), o = .returned (.tuple #[.pointer (some ⟨T, 0, none⟩), .slice A m.length c]) ∧ TreeOk w' T m ∧ RdN w' A m ∧ m.length ≤ 60 ∧ m.length ≤ c ∧ c ≤ 9223372036854775807 ∧ Below w.heap.size w w' ∧ m = madeTo l l.length ∧ ∀ j (hj : j < m.length), (m[j]).nm.size ≤ 9223372036854775807
set_option maxRecDepth 100000 in
set_option maxHeartbeats 16000000 in
theorem made_x (A : Option Addr) (n c : Nat) (l : List Nd) (w : World) (hr : RdN w A l) (hl : l.length ≤ 60) (hcap : l.length ≤ c) (hcap2 : c ≤ 9223372036854775807) (hnm : ∀ j (hj : j < l.length), (l[j]).nm.size ≤ 9223372036854775807)
    (hfew : ∀ W', Calls Tryz.prog 39 #[.slice A n c] W' fun o w' => o = .returned (.slice A l.length c) ∧ Below W'.heap.size W' w') :
    Calls Tryz.prog 9 #[.slice A n c] w (MadeX w l) := by
  obtain ⟨i0, hi0, hz0, hz1, hz2⟩ := info_parts info_n
  have HI0 := Lib.hid hi0
  have HZ0 := Lib.hid hz0
  have HZ1 := Lib.hid hz1
  have HZ2 := Lib.hid hz2
  have HR := Lib.hid hr
  have HNM := Lib.hid hnm
  have HFW := Lib.hid (hfew w)
  obtain ⟨ln, hln⟩ : ∃ ln, ln = l.length := ⟨_, rfl⟩
  have HLN := Lib.hid hln
  rw [← hln] at hl hcap HFW
  clear hi0 hz0 hz1 hz2 hr hnm hfew hln
  go_enter Tryz.func9, Tryz.ntmps9
  go_wp2_with fail
  refine HFW.out.mono ?_
  rintro o w1 ⟨rfl, hb1⟩
  have B1 := Lib.hid hb1
  clear hb1
  go_wp2_with fail
  go_loopw [4, 5] (fun v i wr => ∃ (k : Nat) (m : List Nd), i = .int .i64 k ∧ k ≤ ln ∧ wr.ownsRow w.heap.size 67 7 v m.length (flatN m) ∧ m.length ≤ k ∧ GoodTo m m.length ∧ (∀ j (hj : j < m.length), (m[j]).nm.size ≤ 9223372036854775807) ∧ Below w.heap.size w wr ∧ Hid (m = madeTo l k)) (fun _ i _ => ln - (intOf i).toNat)
  case atStart => exact ⟨0, [], rfl, by omega, World.ownsRow_nil _ _ _ 7, by simp, (fun j hj => by simp at hj), (fun j hj => by simp at hj), B1.out, Lib.hid rfl⟩
  case round =>
    obtain ⟨k, m, rfl, hk, hown, hmk, hgood, hmnm, hbel, HMT⟩ := hrel
    obtain ⟨A2, c2, rfl, hm1, hm2, hrd⟩ := rdN_own hown
    have KO := Lib.hid hown
    have KG := Lib.hid hgood
    have KN := Lib.hid hmnm
    have KB := Lib.hid hbel
    have KR := Lib.hid hrd
    clear hown hgood hmnm hbel hrd
    by_cases hkn : k < ln
    · have t1 : decide ((k : Int) < ln) = true := decide_eq_true (by omega)
      have hjl : k < l.length := HLN.out ▸ hkn
      obtain ⟨b, off, hA, hbl, hC⟩ := (HR.out.below KB.out).at_ k hjl
      subst hA
      have HNK := Lib.hid (HNM.out k hjl)
      obtain ⟨e, he⟩ : ∃ e, e = l[k] := ⟨_, rfl⟩
      have HEE := Lib.hid he
      have HMY := Lib.hid (fun hw => madeTo_yes HMT.out hjl he hw)
      have HMN := Lib.hid (fun hw => madeTo_no HMT.out hjl he hw)
      rw [← he] at hC HNK
      have d0 : wr.cell? ⟨b, off + k * 7, none⟩ = some (.string e.nm) := hC 0 (by omega)
      have d1 : wr.cell? ⟨b, off + k * 7 + 1, none⟩ = some (.int .i64 e.kind) := hC 1 (by omega)
      have d2 : wr.cell? ⟨b, off + k * 7 + 2, none⟩ = some (.int .i64 e.ab) := hC 2 (by omega)
      have d3 : wr.cell? ⟨b, off + k * 7 + 3, none⟩ = some (.int .i64 e.wt) := hC 3 (by omega)
      have d4 : wr.cell? ⟨b, off + k * 7 + 4, none⟩ = some (.bool e.v6) := hC 4 (by omega)
      have d5 : wr.cell? ⟨b, off + k * 7 + 5, none⟩ = some (.int .u64 e.hi) := hC 5 (by omega)
      have d6 : wr.cell? ⟨b, off + k * 7 + 6, none⟩ = some (.int .u64 e.lo) := hC 6 (by omega)
      have j0 : (0 : Int) ≤ k := by omega
      have j1 : (k : Int) < ln := by omega
      have HWH := Lib.hid (show Calls Tryz.prog 40 #[.agg e.cells, .slice A2 m.length c2] wr fun o w' => o = .returned (.int .i64 (whyF m e)) ∧ Below wr.heap.size wr w' from treF.lawwhy_any A2 c2 m wr e KR.out (by omega) (by omega) hm2 HNK.out)
      have HC := Lib.hid (show ∀ W, Below wr.heap.size wr W → (W.cell? ⟨b, off + k * 7, none⟩ = some (.string e.nm) ∧ W.cell? ⟨b, off + k * 7 + 1, none⟩ = some (.int .i64 e.kind) ∧ W.cell? ⟨b, off + k * 7 + 2, none⟩ = some (.int .i64 e.ab) ∧ W.cell? ⟨b, off + k * 7 + 3, none⟩ = some (.int .i64 e.wt) ∧ W.cell? ⟨b, off + k * 7 + 4, none⟩ = some (.bool e.v6) ∧ W.cell? ⟨b, off + k * 7 + 5, none⟩ = some (.int .u64 e.hi) ∧ W.cell? ⟨b, off + k * 7 + 6, none⟩ = some (.int .u64 e.lo)) from fun W hb => by
        have hc := fun i hi => ((hb.cell (p := ⟨b, off + k * 7 + i, none⟩) hbl).trans (hC i hi))
        exact ⟨hc 0 (by omega), hc 1 (by omega), hc 2 (by omega), hc 3 (by omega), hc 4 (by omega), hc 5 (by omega), hc 6 (by omega)⟩)
      unfold Nd.cells at HWH
      obtain ⟨q, hq⟩ : ∃ q, q = whyF m e := ⟨_, rfl⟩
      have HQ := Lib.hid hq
      rw [← hq] at HMY HMN
      rw [← hq] at HWH
      clear hC he hq
      go_wp2_with fail
      refine HWH.out.mono ?_
      rintro o w3 ⟨rfl, hb3⟩
      have B3 := Lib.hid (KB.out.trans (hb3.mono KB.out.size))
      have KO3 := Lib.hid (own_n KO.out hb3)
      clear d0 d1 d2 d3 d4 d5 d6
      obtain ⟨d0, d1, d2, d3, d4, d5, d6⟩ := HC.out _ hb3
      clear hb3
      by_cases hq0 : q = 0
      · subst hq0
        have BA := Lib.hid (show Below w3.heap.size w3 (w3.alloc (.cells #[.string e.nm, .int .i64 e.kind, .int .i64 e.ab, .int .i64 e.wt, .bool e.v6, .int .u64 e.hi, .int .u64 e.lo] 67)) from (Below.refl _ _).alloc (Nat.le_refl _) _)
        have B4 := Lib.hid (B3.out.trans (BA.out.mono B3.out.size))
        have KO4 := Lib.hid (own_n KO3.out BA.out)
        have HNE := Lib.hid (show ∀ p u, e.cells.toList[p]? = some u → (w3.alloc (.cells #[.string e.nm, .int .i64 e.kind, .int .i64 e.ab, .int .i64 e.wt, .bool e.v6, .int .u64 e.hi, .int .u64 e.lo] 67)).cell? ((⟨w3.heap.size, 0, none⟩ : Addr).add p) = some u from fun p u hu => by
          have h3 : (w3.alloc (.cells #[.string e.nm, .int .i64 e.kind, .int .i64 e.ab, .int .i64 e.wt, .bool e.v6, .int .u64 e.hi, .int .u64 e.lo] 67)).cell? ⟨w3.heap.size, p, none⟩ = (#[.string e.nm, .int .i64 e.kind, .int .i64 e.ab, .int .i64 e.wt, .bool e.v6, .int .u64 e.hi, .int .u64 e.lo])[p]? := (Blk.new w3 67 #[.string e.nm, .int .i64 e.kind, .int .i64 e.ab, .int .i64 e.wt, .bool e.v6, .int .u64 e.hi, .int .u64 e.lo]).cell p
          rw [Addr.add_lit, Nat.zero_add, h3]
          have h2 : e.cells[p]? = some u := by simpa using hu
          exact h2)
        have P1 := Lib.hid (show m.length + 1 ≤ maxLen by unfold maxLen; omega)
        have P2 := Lib.hid (show (m.length + 1) * 64 ≤ 140737488355328 by omega)
        have P3 := Lib.hid (show w.heap.size ≤ (w3.alloc (.cells #[.string e.nm, .int .i64 e.kind, .int .i64 e.ab, .int .i64 e.wt, .bool e.v6, .int .u64 e.hi, .int .u64 e.lo] 67)).heap.size from B4.out.size)
        have KGS := Lib.hid (good_snoc KG.out HQ.out.symm)
        have KNS := Lib.hid (nm_snoc KN.out HNK.out)
        go_wp2_with (at_builtin; refine wpList_append_own _ rfl (.tmp 24) (.tmp 29) _ rfl w.heap.size 67 i0 _ 7 64 Tryz.underlying22 HI0.out HZ0.out HZ1.out HZ2.out rfl (by omega) (.slice A2 m.length c2) m.length (flatN m) rfl KO4.out ⟨w3.heap.size, 0, none⟩ 1 1 e.cells.toList rfl rfl HNE.out (one_n1 e) P1.out P2.out P3.out ?_; intro v6 w6 ho hg _; have HO1 := Lib.hid (show w6.ownsRow w.heap.size 67 7 v6 (m ++ [e]).length (flatN (m ++ [e])) by rw [flatN_snoc, List.length_append]; exact ho); have HB1 := Lib.hid (B4.out.grown hg P3.out (fun k hk => (KO4.out.lt k hk).1)); clear ho hg)
        go_roundw
        case rel => exact ⟨k + 1, m ++ [e], by go_num, by omega, HO1.out, by rw [List.length_append, List.length_singleton]; omega, KGS.out, KNS.out, HB1.out, Lib.hid (HMY.out trivial)⟩
        case measure => simp [intOf]; omega
      · have q0 : (q == 0) = false := beq_false_of_ne hq0
        have HMX := Lib.hid (HMN.out hq0)
        clear hq0
        go_wp2_with fail
        go_roundw
        case rel => exact ⟨k + 1, m, by go_num, by omega, KO3.out, by omega, KG.out, KN.out, B3.out, HMX⟩
        case measure => simp [intOf]; omega
    · have t1 : decide ((k : Int) < ln) = false := decide_eq_false (by omega)
      obtain rfl : ln = k := by omega
      have HNW := Lib.hid (new_any A2 c2 m wr KR.out (by omega) (by omega) hm2 KN.out)
      go_wp2_with fail
      refine HNW.out.mono ?_
      rintro o w3 ⟨hp, hb3⟩
      have B3 := Lib.hid (KB.out.trans (hb3.mono KB.out.size))
      have KR3 := Lib.hid (KR.out.below hb3)
      rcases hp with ⟨i, hi, _, hb, rfl⟩ | ⟨hg, nv, kv, ks, rfl, hgr⟩
      · exact absurd (KG.out i hi hi) hb
      · have HT := Lib.hid (show TreeOk w3 wr.heap.size m from ⟨⟨nv, kv, ks, hgr⟩, KG.out, by omega⟩)
        clear hg hgr hb3
        go_wp2_with fail
        go_ret2
        exact ⟨wr.heap.size, m, A2, c2, rfl, HT.out, KR3.out, by omega, hm1, hm2, B3.out, by rw [← HLN.out]; exact HMT.out, KN.out⟩
end Go.Proofs.YtoaboklckkcjcaaGreat.treX
/- Layer 26: nodes of the call's own, one of them written anew. -/
namespace Go.Proofs.YtoaboklckkcjcaaGreat.walkX
open Go.ChangeShapes Go.WideShapes Go.ChangeAt Go.RowKit
open Go.Proofs.YtoaboklckkcjcaaGreat.base Go.Proofs.YtoaboklckkcjcaaGreat.dfA Go.Proofs.YtoaboklckkcjcaaGreat.treB Go.Proofs.YtoaboklckkcjcaaGreat.treG Go.Proofs.YtoaboklckkcjcaaGreat.treM Go.Proofs.YtoaboklckkcjcaaGreat.walkV Go.Proofs.YtoaboklckkcjcaaGreat.onceBw Go.Proofs.YtoaboklckkcjcaaGreat.eliB Go.Proofs.YtoaboklckkcjcaaGreat.walkC
set_option linter.unusedVariables false

def setL : Array Value → Nat → List Value → Array Value
  | cs, _, [] => cs
  | cs, o, v :: l => setL (cs.setIfInBounds o v) (o + 1) l
theorem setL_size : ∀ (l : List Value) (cs : Array Value) (o : Nat), (setL cs o l).size = cs.size
  | [], _, _ => rfl
  | v :: l, cs, o => by rw [setL, setL_size l]; simp
theorem setL_out : ∀ (l : List Value) (cs : Array Value) (o i : Nat), (i < o ∨ o + l.length ≤ i) → (setL cs o l)[i]? = cs[i]?
  | [], _, _, _, _ => rfl
  | v :: l, cs, o, i, h => by
    rw [setL, setL_out l _ _ _ (by simp at h; omega), Array.getElem?_setIfInBounds, if_neg (by simp at h; omega)]
theorem setL_in : ∀ (l : List Value) (cs : Array Value) (o j : Nat), o + l.length ≤ cs.size → j < l.length → (setL cs o l)[o + j]? = l[j]?
  | [], _, _, _, _, h => by simp at h
  | v :: l, cs, o, 0, h, _ => by
    rw [setL, setL_out l _ _ _ (by omega), Nat.add_zero, Array.getElem?_setIfInBounds, if_pos rfl, if_pos (by simp at h; omega)]
    rfl
  | v :: l, cs, o, j + 1, h, hj => by
    rw [setL, show o + (j + 1) = o + 1 + j by omega, setL_in l _ _ _ (by simp at h ⊢; omega) (by simpa using hj)]
    rfl
theorem blk_setCells {g : Nat} {T : TypeId} : ∀ (l : List Value) (w : World) (cs : Array Value) (o : Nat), Blk w g T cs → Blk (w.setCells g o l) g T (setL cs o l)
  | [], _, _, _, h => h
  | v :: l, w, cs, o, h => blk_setCells l _ _ _ (h.set_ o v)
theorem blk_setCells_far {g k : Nat} {T : TypeId} (hk : k ≠ g) {cs : Array Value} : ∀ (l : List Value) (w : World) (o : Nat), Blk w k T cs → Blk (w.setCells g o l) k T cs
  | [], _, _, h => h
  | v :: l, w, o, h => blk_setCells_far hk l _ _ (h.far (p := ⟨g, o, none⟩) hk v)
theorem below_setCells {B g : Nat} {a : World} (hg : B ≤ g) : ∀ (l : List Value) (w : World) (o : Nat), Below B a w → Below B a (w.setCells g o l)
  | [], _, _, h => h
  | v :: l, w, o, h => below_setCells hg l _ _ (h.setCell (p := ⟨g, o, none⟩) hg v)
/-- A row of nodes of the call's own. -/
theorem own_nodes {w : World} {B : Nat} {v : Value} {l : List Nd} (hn : 0 < l.length) (h : w.ownsRow B 67 7 v l.length (flatN l)) : ∃ g cap cur, v = .slice (some ⟨g, 0, none⟩) l.length cap ∧ B ≤ g ∧ Blk w g 67 cur ∧ l.length ≤ cap ∧ cap ≤ 9223372036854775807 ∧ l.length * 7 ≤ cur.size ∧ RdN w (some ⟨g, 0, none⟩) l := by
  rcases h.2 with ⟨_, h0⟩ | ⟨g, cap, cur, e1, e2, e3, e4, e5, e6, e7⟩
  · omega
  · obtain ⟨A, c, f1, f2, f3, f4, _⟩ := rdN_own2 h
    rw [e1] at f1
    injection f1 with f5 f6 f7
    subst f5
    exact ⟨g, cap, cur, e1, e2, e3, e4, by unfold maxLen at e5; omega, by rw [e6]; exact Nat.mul_le_mul_right 7 e4, f4⟩
theorem rdN_put {w : World} {g : Nat} {l : List Nd} {cur : Array Value} (hb : Blk w g 67 cur) (hc : l.length * 7 ≤ cur.size) (hr : RdN w (some ⟨g, 0, none⟩) l) {h : Nat} (hh : h < l.length) (e : Nd) : RdN (w.setCells g (h * 7) e.cells.toList) (some ⟨g, 0, none⟩) (l.set h e) := by
  have h7 : e.cells.toList.length = 7 := rfl
  have hLi : ∀ i : Nat, e.cells.toList[i]? = e.cells[i]? := fun i => by simp
  obtain ⟨L, hL⟩ : ∃ L, L = e.cells.toList := ⟨_, rfl⟩
  rw [← hL] at h7 hLi ⊢
  clear hL
  have hb2 := blk_setCells L w cur (h * 7) hb
  refine .inr ⟨g, 0, rfl, hb2.lt, fun j hj i hi => ?_⟩
  rw [List.length_set] at hj
  rw [Nat.zero_add, hb2.cell]
  by_cases hjh : j = h
  · subst hjh
    rw [List.getElem_set_self, setL_in L cur (j * 7) i (by omega) (by omega)]
    exact hLi i
  · rw [List.getElem_set_ne (by omega), setL_out L cur (h * 7) (j * 7 + i) (by omega)]
    obtain ⟨b, off, hA, _, hC⟩ := hr.at_ j hj
    injection hA with hA
    injection hA with h1 h2 h3
    subst h1 h2
    have h9 := hC i hi
    rw [Nat.zero_add, hb.cell] at h9
    exact h9
theorem setWt_nm {m : List Nd} {h : Nat} (hm : h < m.length) (wt : Int) (hn : ∀ j (hj : j < m.length), (m[j]).nm.size ≤ 9223372036854775807) : ∀ j (hj : j < (setWt m h wt).length), ((setWt m h wt)[j]).nm.size ≤ 9223372036854775807 := fun j hj => by
  rw [setWt_len] at hj
  by_cases e : j = h
  · subst e
    have e2 : (setWt m j wt)[j]'(by rw [setWt_len]; exact hm) = { m[j] with wt := wt } := by
      unfold setWt
      rw [List.getElem_set_self, treW.ndAt_nat hm]
    rw [e2]
    exact hn j hm
  · have e2 : (setWt m h wt)[j]'(by rw [setWt_len]; exact hj) = m[j] := by
      unfold setWt
      rw [List.getElem_set_ne (by omega)]
    rw [e2]
    exact hn j hj
theorem aside_cell {g : Nat} {a b : World} (h : AsideG g a b) {q o : Nat} (hq : q < a.heap.size) (hg : q ≠ g) : b.cell? ⟨q, o, none⟩ = a.cell? ⟨q, o, none⟩ := by
  have e := h.block q hq hg
  unfold World.cell?
  simp only [e]
theorem way_le {m : List Nd} {W : Nat → Int} {seed key : Int} : ∀ (f : Nat) (a : Int) (l : List Int), wayF m W seed key f a = some l → l.length ≤ f
  | 0, a, l, e => by cases e
  | f + 1, a, l, e => by
    unfold wayF at e
    split at e
    · injection e with e; subst e
      simp
    · split at e
      · cases e
      · rw [Option.map_eq_some_iff] at e
        obtain ⟨x, hx, rfl⟩ := e
        have := way_le f _ x hx
        rw [List.length_cons]
        omega
theorem down_le (m : List Nd) (W : Nat → Int) (seed key a : Int) : (downW m W seed key a).length ≤ 4 := by
  obtain ⟨f, hf⟩ : ∃ f : Nat, f = 4 := ⟨4, rfl⟩
  rw [down_f m W seed key a f hf]
  split
  · cases e : wayF m W seed key f a with
    | none => simp
    | some l => have := way_le f a l e; rw [Option.getD_some]; omega
  · simp
end Go.Proofs.YtoaboklckkcjcaaGreat.walkX
/- Layer 26: the law of WalkMoves. -/
namespace Go.Proofs.YtoaboklckkcjcaaGreat.walkY
open Go.ChangeShapes Go.WideShapes Go.ChangeAt Go.RowKit
open Go.Proofs.YtoaboklckkcjcaaGreat.base Go.Proofs.YtoaboklckkcjcaaGreat.dfA Go.Proofs.YtoaboklckkcjcaaGreat.treB Go.Proofs.YtoaboklckkcjcaaGreat.treD Go.Proofs.YtoaboklckkcjcaaGreat.treG Go.Proofs.YtoaboklckkcjcaaGreat.treM Go.Proofs.YtoaboklckkcjcaaGreat.treX Go.Proofs.YtoaboklckkcjcaaGreat.treW Go.Proofs.YtoaboklckkcjcaaGreat.eliW Go.Proofs.YtoaboklckkcjcaaGreat.eliA Go.Proofs.YtoaboklckkcjcaaGreat.eliB Go.Proofs.YtoaboklckkcjcaaGreat.eliC Go.Proofs.YtoaboklckkcjcaaGreat.onceBw Go.Proofs.YtoaboklckkcjcaaGreat.onceCw Go.Proofs.YtoaboklckkcjcaaGreat.strA Go.Proofs.YtoaboklckkcjcaaGreat.walkA Go.Proofs.YtoaboklckkcjcaaGreat.walkB Go.Proofs.YtoaboklckkcjcaaGreat.walkC Go.Proofs.YtoaboklckkcjcaaGreat.walkD Go.Proofs.YtoaboklckkcjcaaGreat.walkE Go.Proofs.YtoaboklckkcjcaaGreat.walkK Go.Proofs.YtoaboklckkcjcaaGreat.walkV Go.Proofs.YtoaboklckkcjcaaGreat.walkX
set_option linter.unusedVariables false

set_option maxRecDepth 100000 in
set_option maxHeartbeats 64000000 in
theorem moves_law (A : Option Addr) (n c : Nat) (l : List Nd) (AH : Option Addr) (nh ch : Nat) (H : List Int) (host weight key : Int) (w : World) (hr : RdN w A l) (hl : l.length ≤ 60) (hcap : l.length ≤ c) (hcap2 : c ≤ 9223372036854775807) (hnm : ∀ j (hj : j < l.length), (l[j]).nm.size ≤ 9223372036854775807)
    (hfew : ∀ W', Calls Tryz.prog 39 #[.slice A n c] W' fun o w' => o = .returned (.slice A l.length c) ∧ Below W'.heap.size W' w')
    (hh : RdI w AH H) (hH : H.length ≤ 30) (hhc : H.length ≤ ch) (hhc2 : ch ≤ 9223372036854775807) (hfh : ∀ W', Calls Tryz.prog 10 #[.slice AH nh ch] W' fun o w' => o = .returned (.slice AH H.length ch) ∧ w' = W') :
    Calls Tryz.prog 6 #[.slice A n c, .slice AH nh ch, .int .i64 host, .int .i64 weight, .int .u64 key] w fun o w' => o = .returned (.bool true) ∧ Below w.heap.size w w' := by
  have HMD := Lib.hid (made_x A n c l w hr hl hcap hcap2 hnm hfew)
  have HI := Lib.hid hh
  have HAW := Lib.hid (fun W => walkD.awake_any W)
  obtain ⟨hl2, hhl⟩ : ∃ hl2, hl2 = H.length := ⟨_, rfl⟩
  have HHL := Lib.hid hhl
  have HFH := Lib.hid (show ∀ W', Calls Tryz.prog 10 #[.slice AH nh ch] W' fun o w' => o = .returned (.slice AH hl2 ch) ∧ w' = W' from by rw [hhl]; exact hfh)
  rw [← hhl] at hhc
  clear hr hl hcap hcap2 hnm hfew hh hfh hhl
  go_enter Tryz.func6, Tryz.ntmps6
  go_wp2_with fail
  refine HMD.out.mono ?_
  rintro o w1 ⟨T, m, A1, c1, rfl, hT, hrd, hm60, hmc, hmc2, hb1, hmt, hmnm⟩
  have B1 := Lib.hid hb1
  have HT1 := Lib.hid hT
  have HR1 := Lib.hid hrd
  have HF := Lib.hid (fine_of hT.good)
  have HV := Lib.hid (heavy_of hT.good)
  have HNMS := Lib.hid hmnm
  have I1 := Lib.hid (show RdI w1 AH H from HI.out.below hb1)
  have HNEW := Lib.hid (eliA.new_any hT hm60 AH ch H I1.out (by omega) (by rw [← HHL.out]; exact hhc) hhc2)
  rw [← HHL.out] at HNEW
  clear hT hrd hb1 hmt hmnm
  go_wp2_with fail
  refine (HFH.out _).mono ?_
  rintro o w2 ⟨rfl, rfl⟩
  go_wp2_with fail
  refine HNEW.out.mono ?_
  rintro o w3 ⟨rfl, hs3, hz3⟩
  have BN := Lib.hid hs3.bel
  have B3 := Lib.hid (B1.out.trans (hs3.bel.mono B1.out.size))
  obtain ⟨S, hS⟩ : ∃ S, S = w2.heap.size + 1 := ⟨_, rfl⟩
  obtain ⟨q0, hq0⟩ : ∃ q, q = w2.heap.size := ⟨_, rfl⟩
  have S3 := Lib.hid (show SetOk w3 S T q0 m (F m H) from by rw [hS, hq0]; exact setOk_of hs3 HT1.out)
  have R3 := Lib.hid (HR1.out.below hs3.bel)
  obtain ⟨mn, hmn⟩ : ∃ mn, mn = m.length := ⟨_, rfl⟩
  have HMN := Lib.hid hmn
  rw [← hmn, ← hS]
  have I3 := Lib.hid (show RdI w3 AH H from I1.out.below hs3.bel)
  clear hs3 hz3 hmn hS hq0 HMD HNEW
  by_cases c1' : host < 0
  · have t1 : decide (host < 0) = true := decide_eq_true c1'
    go_wp2_with fail
    refine (HAW.out w3).mono ?_
    rintro o w9 ⟨rfl, hb9⟩
    have HB9 := Lib.hid (B3.out.trans (hb9.mono B3.out.size))
    clear hb9
    go_wp2_with fail
    go_ret
    exact ⟨rfl, HB9.out⟩
  have t1 : decide (host < 0) = false := decide_eq_false c1'
  by_cases c2' : (mn : Int) ≤ host
  · have t2 : decide ((mn : Int) ≤ host) = true := decide_eq_true c2'
    go_wp2_with fail
    refine (HAW.out w3).mono ?_
    rintro o w9 ⟨rfl, hb9⟩
    have HB9 := Lib.hid (B3.out.trans (hb9.mono B3.out.size))
    clear hb9
    go_wp2_with fail
    go_ret
    exact ⟨rfl, HB9.out⟩
  have t2 : decide ((mn : Int) ≤ host) = false := decide_eq_false c2'
  obtain ⟨h, rfl⟩ : ∃ h : Nat, host = (h : Int) := ⟨host.toNat, by omega⟩
  have hhm : h < mn := by omega
  have hhm2 : h < m.length := by rw [← HMN.out]; exact hhm
  obtain ⟨bl, off, hA, hbl, hC⟩ := R3.out.at_ h hhm2
  subst hA
  obtain ⟨e, he⟩ : ∃ e, e = m[h] := ⟨_, rfl⟩
  have HE := Lib.hid (show ndAt m (h : Int) = e from by rw [treW.ndAt_nat hhm2, he])
  rw [← he] at hC
  have e1 : w3.cell? ⟨bl, off + h * 7 + 1, none⟩ = some (.int .i64 e.kind) := hC 1 (by omega)
  have e3 : w3.cell? ⟨bl, off + h * 7 + 3, none⟩ = some (.int .i64 e.wt) := hC 3 (by omega)
  have j0 : (0 : Int) ≤ h := by omega
  have j1 : (h : Int) < mn := by omega
  clear he hC
  by_cases c3' : e.kind ≠ 4
  · have t3 : (e.kind != 4) = true := bne_iff_ne.mpr c3'
    go_wp2_with fail
    refine (HAW.out w3).mono ?_
    rintro o w9 ⟨rfl, hb9⟩
    have HB9 := Lib.hid (B3.out.trans (hb9.mono B3.out.size))
    clear hb9
    go_wp2_with fail
    go_ret
    exact ⟨rfl, HB9.out⟩
  have c3 : e.kind = 4 := Decidable.not_not.mp c3'
  have t3 : (e.kind != 4) = false := by simp [c3]
  have HC3 := Lib.hid c3
  clear c3 c3'
  have HWG := Lib.hid (weight_x S3.out (h : Int))
  rw [wt_nat hhm2] at HWG
  obtain ⟨fw, hfw⟩ : ∃ fw, fw = F m H h := ⟨_, rfl⟩
  have HFW := Lib.hid hfw
  rw [← hfw] at HWG
  clear hfw
  have HGE := Lib.hid (show ∀ nq, (w3.drewN nq).cell? ⟨bl, off + h * 7 + 3, none⟩ = some (.int .i64 e.wt) from fun _ => e3)
  go_wp2_with fail
  refine HWG.out.mono ?_
  rintro o w4 ⟨rfl, nq, hq4⟩
  have hb4 : Below w3.heap.size w3 w4 := by rw [hq4]; exact below_n w3 nq
  have B4 := Lib.hid (B3.out.trans (hb4.mono B3.out.size))
  have S4 := Lib.hid (S3.out.below hb4)
  have R4 := Lib.hid (R3.out.below hb4)
  have I4 := Lib.hid (I3.out.below hb4)
  have e3 : w4.cell? ⟨bl, off + h * 7 + 3, none⟩ = some (.int .i64 e.wt) := by rw [hq4]; exact HGE.out nq
  have HBL := Lib.hid (show bl < w4.heap.size from Nat.lt_of_lt_of_le hbl hb4.size)
  have e1 := e3
  clear hq4 hb4 e1 HGE hbl
  by_cases c4' : fw = 0
  · subst c4'
    go_wp2_with fail
    refine (HAW.out w4).mono ?_
    rintro o w9 ⟨rfl, hb9⟩
    have HB9 := Lib.hid (B4.out.trans (hb9.mono B4.out.size))
    clear hb9
    go_wp2_with fail
    go_ret
    exact ⟨rfl, HB9.out⟩
  have t4 : (fw == 0) = false := beq_false_of_ne c4'
  by_cases c5' : weight < 1
  · have t5 : decide (weight < 1) = true := decide_eq_true c5'
    go_wp2_with fail
    refine (HAW.out w4).mono ?_
    rintro o w9 ⟨rfl, hb9⟩
    have HB9 := Lib.hid (B4.out.trans (hb9.mono B4.out.size))
    clear hb9
    go_wp2_with fail
    go_ret
    exact ⟨rfl, HB9.out⟩
  have t5 : decide (weight < 1) = false := decide_eq_false c5'
  by_cases c6' : 65535 < weight
  · have t6 : decide (65535 < weight) = true := decide_eq_true c6'
    go_wp2_with fail
    refine (HAW.out w4).mono ?_
    rintro o w9 ⟨rfl, hb9⟩
    have HB9 := Lib.hid (B4.out.trans (hb9.mono B4.out.size))
    clear hb9
    go_wp2_with fail
    go_ret
    exact ⟨rfl, HB9.out⟩
  have t6 : decide (65535 < weight) = false := decide_eq_false c6'
  by_cases c7' : weight = e.wt
  · have t7 : (weight == e.wt) = true := by simp [c7']
    clear c7'
    go_wp2_with fail
    refine (HAW.out w4).mono ?_
    rintro o w9 ⟨rfl, hb9⟩
    have HB9 := Lib.hid (B4.out.trans (hb9.mono B4.out.size))
    clear hb9
    go_wp2_with fail
    go_ret
    exact ⟨rfl, HB9.out⟩
  have t7 : (weight == e.wt) = false := beq_false_of_ne c7'
  have HWT := Lib.hid (show 0 < weight ∧ weight ≤ 65535 ∧ weight ≠ e.wt from ⟨by omega, by omega, c7'⟩)
  have HP0 := Lib.hid (show F m H h ≠ 0 from by rw [← HFW.out]; exact c4')
  clear c1' c2' c4' c5' c6' c7'
  obtain ⟨i0, hi0, hz0, hz1, hz2⟩ := info_parts treH.info_n
  have HI0 := Lib.hid hi0
  have HZ0 := Lib.hid hz0
  have HZ1 := Lib.hid hz1
  have HZ2 := Lib.hid hz2
  have OE := Lib.hid (show (w4.alloc (.cells #[] 67)).ownsRow w4.heap.size 67 7 (.slice (some ⟨w4.heap.size, 0, none⟩) 0 0) 0 [] from World.ownsRow_made w4 #[] 0 (Nat.le_refl _) (Nat.zero_le _) rfl)
  have BE := Lib.hid (show Below w4.heap.size w4 (w4.alloc (.cells #[] 67)) from (Below.refl _ _).alloc (Nat.le_refl _) _)
  have HNE := Lib.hid (flat_of (R4.out.below BE.out))
  have HON := Lib.hid (one_f m)
  have HFL := Lib.hid (show (flatN m).length = mn * 7 from by rw [HMN.out]; exact flatN_len m)
  have hmn60 : mn ≤ 60 := by rw [HMN.out]; exact hm60
  have P1 := Lib.hid (show 0 + mn ≤ maxLen by unfold maxLen; omega)
  have P2 := Lib.hid (show (0 + mn) * 64 ≤ 140737488355328 by omega)
  have HM60 := Lib.hid hm60
  clear hi0 hz0 hz1 hz2
  go_wp2_with (at_builtin; refine wpList_append_own _ rfl (.tmp 78) (.tmp 79) _ rfl w4.heap.size 67 i0 _ 7 64 Tryz.underlying22 HI0.out HZ0.out HZ1.out HZ2.out rfl (by omega) (.slice (some ⟨w4.heap.size, 0, none⟩) 0 0) 0 [] rfl OE.out ⟨bl, off, none⟩ mn c1 (flatN m) rfl HFL.out HNE.out HON.out P1.out P2.out BE.out.size ?_; intro v6 w6 ho hg6 _; have ho2 : w6.ownsRow w4.heap.size 67 7 v6 m.length (flatN m) := (by rw [Nat.zero_add, List.nil_append, HMN.out] at ho; exact ho); have BG := Lib.hid (show Below w4.heap.size w4 w6 from BE.out.grown hg6 BE.out.size (fun k hk => (OE.out.lt k hk).1)); obtain ⟨g6, c6, cur6, hv6, hg6b, hbk6, hc61, hc62, hcs6, hrd6⟩ := own_nodes (by rw [← HMN.out]; omega) ho2; subst hv6; rw [← HMN.out] at hc61; have HB6 := Lib.hid hbk6; have HC6 := Lib.hid hcs6; have HR6 := Lib.hid hrd6; have HG6 := Lib.hid hg6b; rw [← HMN.out]; obtain ⟨b9, o9, hA9, _, hC9⟩ := hrd6.at_ h hhm2; injection hA9 with hA9; injection hA9 with h91 h92 h93; subst h91; subst h92; have d9 := fun i (hi : i < 7) => (hC9 i hi); rw [Nat.zero_add] at d9; rw [← treW.ndAt_nat hhm2, HE.out] at d9; have f0 : w6.cell? ⟨g6, h * 7, none⟩ = some (.string e.nm) := d9 0 (by omega); have f1 : w6.cell? ⟨g6, h * 7 + 1, none⟩ = some (.int .i64 e.kind) := d9 1 (by omega); have f2 : w6.cell? ⟨g6, h * 7 + 2, none⟩ = some (.int .i64 e.ab) := d9 2 (by omega); have f3 : w6.cell? ⟨g6, h * 7 + 3, none⟩ = some (.int .i64 e.wt) := d9 3 (by omega); have f4 : w6.cell? ⟨g6, h * 7 + 4, none⟩ = some (.bool e.v6) := d9 4 (by omega); have f5 : w6.cell? ⟨g6, h * 7 + 5, none⟩ = some (.int .u64 e.hi) := d9 5 (by omega); have f6 : w6.cell? ⟨g6, h * 7 + 6, none⟩ = some (.int .u64 e.lo) := d9 6 (by omega); have z0 : w6.frozen? ⟨g6, h * 7, none⟩ = false := hbk6.frozen _; have z1 : w6.frozen? ⟨g6, h * 7 + 1, none⟩ = false := hbk6.frozen _; have z2 : w6.frozen? ⟨g6, h * 7 + 2, none⟩ = false := hbk6.frozen _; have z3 : w6.frozen? ⟨g6, h * 7 + 3, none⟩ = false := hbk6.frozen _; have z4 : w6.frozen? ⟨g6, h * 7 + 4, none⟩ = false := hbk6.frozen _; have z5 : w6.frozen? ⟨g6, h * 7 + 5, none⟩ = false := hbk6.frozen _; have z6 : w6.frozen? ⟨g6, h * 7 + 6, none⟩ = false := hbk6.frozen _; clear ho ho2 hg6 hg6b hbk6 hcs6 hrd6 hC9 d9)
  obtain ⟨w7, hw7⟩ : ∃ w7, w7 = (((((((w6.setCell ⟨g6, h * 7, none⟩ (.string e.nm)).setCell ⟨g6, h * 7 + 1, none⟩ (.int .i64 e.kind)).setCell ⟨g6, h * 7 + 2, none⟩ (.int .i64 e.ab)).setCell ⟨g6, h * 7 + 3, none⟩ (.int .i64 weight)).setCell ⟨g6, h * 7 + 4, none⟩ (.bool e.v6)).setCell ⟨g6, h * 7 + 5, none⟩ (.int .u64 e.hi)).setCell ⟨g6, h * 7 + 6, none⟩ (.int .u64 e.lo)).alloc (.cells #[.string e.nm, .int .i64 e.kind, .int .i64 e.ab, .int .i64 weight, .bool e.v6, .int .u64 e.hi, .int .u64 e.lo] 67) := ⟨_, rfl⟩
  have HS7 := Lib.hid (show w7 = (w6.setCells g6 (h * 7) (Nd.cells { e with wt := weight }).toList).alloc (.cells #[.string e.nm, .int .i64 e.kind, .int .i64 e.ab, .int .i64 weight, .bool e.v6, .int .u64 e.hi, .int .u64 e.lo] 67) from hw7)
  have HBX := Lib.hid (show Below w4.heap.size w4 w7 from by
    rw [HS7.out]
    exact (below_setCells HG6.out _ _ _ BG.out).alloc (below_setCells HG6.out _ _ _ BG.out).size _)
  have RN7 := Lib.hid (show RdN w7 (some ⟨g6, 0, none⟩) (setWt m h weight) from by
    rw [HS7.out]
    have e9 : setWt m h weight = m.set h { e with wt := weight } := by unfold setWt; rw [HE.out]
    rw [e9]
    exact (rdN_put HB6.out HC6.out HR6.out hhm2 { e with wt := weight }).below ((Below.refl _ _).alloc (Nat.le_refl _) _))
  have HGD2 := Lib.hid (setWt_good HT1.out.good hhm2 (by rw [HE.out]; exact HC3.out) weight (by have := HWT.out; omega) HWT.out.2.1)
  have HTWO := Lib.hid (setWt_two (H := H) HT1.out.good HM60.out hhm2 (by rw [HE.out]; exact HC3.out) HP0.out weight HWT.out.1 HWT.out.2.1)
  have HNM2 := Lib.hid (setWt_nm hhm2 weight HNMS.out)
  have HSA := Lib.hid (show (ndAt (setWt m h weight) (h : Int)).wt = weight from by rw [setWt_at hhm2])
  obtain ⟨n2, hn2⟩ : ∃ n2, n2 = setWt m h weight := ⟨_, rfl⟩
  rw [← hn2] at RN7 HGD2 HTWO HNM2 HSA
  have HN2 := Lib.hid (show n2.length = mn from by rw [HMN.out]; exact HTWO.out.L.len)
  have HMD2 := Lib.hid (made_x (some ⟨g6, 0, none⟩) mn c6 n2 w7 RN7.out (by rw [HN2.out]; exact hmn60) (by rw [HN2.out]; exact hc61) hc62 HNM2.out (fun W' => by rw [HN2.out]; exact fewN.few_small _ _ _ _ hmn60))
  have B7 := Lib.hid (B4.out.trans (HBX.out.mono B4.out.size))
  have S7 := Lib.hid (S4.out.below HBX.out)
  have R7 := Lib.hid (R4.out.below HBX.out)
  have I7 := Lib.hid (I4.out.below HBX.out)
  clear hn2 f0 f1 f2 f3 f4 f5 f6 z0 z1 z2 z3 z4 z5 z6 e3
  go_wp2_with fail
  rw [← hw7]
  clear hw7
  refine HMD2.out.mono ?_
  rintro o w8 ⟨T2, m2, A2, c2, rfl, hT2, hrd2, hm60b, hmc2, hmc22, hb8, hmt2, _⟩
  have e9 : m2 = n2 := by rw [hmt2]; exact madeTo_all HGD2.out
  subst e9
  have B8 := Lib.hid (B7.out.trans (hb8.mono B7.out.size))
  have S8 := Lib.hid (S7.out.below hb8)
  have R8 := Lib.hid (R7.out.below hb8)
  have I8 := Lib.hid (I7.out.below hb8)
  have HT2 := Lib.hid hT2
  have HNEW2 := Lib.hid (eliA.new_any hT2 hm60b AH ch H I8.out (by omega) (by rw [← HHL.out]; exact hhc) hhc2)
  rw [← HHL.out] at HNEW2
  clear hT2 hrd2 hm60b hmc2 hmc22 hb8 hmt2
  go_wp2_with fail
  refine HNEW2.out.mono ?_
  rintro o z ⟨rfl, hs9, hz9⟩
  have BZ := Lib.hid (B8.out.trans (hs9.bel.mono B8.out.size))
  obtain ⟨S2, hS2⟩ : ∃ S, S = w8.heap.size + 1 := ⟨_, rfl⟩
  obtain ⟨q2, hq2⟩ : ∃ q, q = w8.heap.size := ⟨_, rfl⟩
  have SX := Lib.hid (show SetOk z S2 T2 q2 m2 (F m2 H) from by rw [hS2, hq2]; exact setOk_of hs9 HT2.out)
  have SZ := Lib.hid (S8.out.below hs9.bel)
  have RZ := Lib.hid (R8.out.below hs9.bel)
  rw [← hS2]
  clear hs9 hz9 hS2 hq2
  obtain ⟨g, hg⟩ : ∃ g, g = z.heap.size := ⟨_, rfl⟩
  obtain ⟨w5, hw5⟩ : ∃ w5, w5 = z.alloc (.cells #[.int .u32 0, .int .i32 0, .int .u32 0, .slice none 0 0, .int .i64 140, .int .u64 9] 51) := ⟨_, rfl⟩
  have HW5 := Lib.hid (show WSt z g 140 9 w5 from ⟨.inl (by rw [hw5, hg]; exact Blk.new z _ _), by rw [hw5]; exact (Below.refl _ _).alloc (Nat.le_refl _) _, by omega⟩)
  have HFI := Lib.hid (F_in HF.out HV.out HM60.out H)
  have HFI2 := Lib.hid (F_in HTWO.out.hn HTWO.out.hg (by rw [HTWO.out.L.len]; exact HM60.out) H)
  have HD1 := Lib.hid (fun V (hV : WSt z g 140 9 V) (a : Int) => down_any SZ.out hV HFI.out a key)
  have HD2 := Lib.hid (fun V (hV : WSt z g 140 9 V) (a : Int) => down_any SX.out hV HFI2.out a key)
  have HLS := Lib.hid (show ∀ V, WSt z g 140 9 V → Calls Tryz.prog 25 #[.slice (some ⟨bl, off, none⟩) mn c1] V fun o w' => ∃ v, o = .returned v ∧ OwnI w' V.heap.size v (ofK m 1 m.length) ∧ Below V.heap.size V w' from fun V hV => by rw [HMN.out]; exact walkI.levels_any (RZ.out.below hV.bel) hmc hmc2 (by omega))
  have HL5 := Lib.hid (HLS.out w5 HW5.out)
  have HGL := Lib.hid hg
  have E5 := Lib.hid hw5
  clear hg hw5
  go_wp2_with fail
  rw [← HGL.out, ← E5.out]
  refine HL5.out.mono ?_
  rintro o w10 ⟨vt, rfl, ho10, hb10⟩
  have HW10 := Lib.hid (HW5.out.below hb10)
  have HO10 := Lib.hid (ownI_up ho10 (show g + 1 ≤ w5.heap.size from by rw [E5.out, HGL.out]; simp))
  obtain ⟨At, ct, hvt⟩ := own_slice ho10
  subst hvt
  obtain ⟨top, htop⟩ : ∃ top, top = ofK m 1 m.length := ⟨_, rfl⟩
  have HTOP := Lib.hid htop
  rw [← htop] at HO10 ⊢
  have hnl60 : top.length ≤ 60 := by rw [htop]; have := ofK_len m 1 m.length; omega
  obtain ⟨nl, hnl⟩ : ∃ nl, nl = top.length := ⟨_, rfl⟩
  have HNL := Lib.hid hnl
  rw [← hnl] at hnl60 ⊢
  have HO11 := Lib.hid (show w10.ownsRow (g + 1) 3 1 (.slice At nl ct) nl (top.map (.int .i64)) from by rw [HNL.out]; have h9 := HO10.out; unfold OwnI at h9; rw [← HNL.out] at h9 ⊢; exact h9)
  clear ho10 hb10 htop hnl
  go_wp2_with fail
  go_loopw [21] (fun i wr => ∃ k : Nat, i = .int .i64 k ∧ k ≤ nl ∧ Hid (WSt z g 140 9 wr) ∧ Hid (wr.ownsRow (g + 1) 3 1 (.slice At nl ct) nl (top.map (.int .i64)))) (fun i _ => nl - (intOf i).toNat)
  case atStart => exact ⟨0, rfl, by omega, HW10, HO11⟩
  case round =>
    obtain ⟨k, rfl, hk, HWr, HOr⟩ := hrel
    by_cases hkn : k < nl
    · have t1x : decide ((k : Int) < nl) = true := decide_eq_true (by omega)
      have hkt : k < top.length := by rw [← HNL.out]; exact hkn
      obtain ⟨gk, ck, hvk, hgk, hgl, hcx1, hcx2, hck, _⟩ := own_form HOr.out (by omega)
      injection hvk with hvk1 hvk2 hvk3
      subst hvk1 hvk3
      obtain ⟨a, ea, ha, hka⟩ := ofK_mem (m := m) (kind := 1) (k := m.length) (x := top[k]) (by rw [← HTOP.out]; exact List.getElem_mem hkt)
      have hka2 : (ndAt m (a : Int)).kind = 1 := by rw [← walkS.getD_at ha]; exact hka
      have c0 : wr.cell? ⟨gk, k, none⟩ = some (.int .i64 (a : Int)) := by
        rw [hck k hkn, List.getElem?_map, List.getElem?_eq_getElem hkt, ea]
        rfl
      have HDW := Lib.hid (down_way HTWO.out 9 key ha hka2)
      obtain ⟨la, hla⟩ : ∃ l, l = downW m (F m H) 9 key (a : Int) := ⟨_, rfl⟩
      obtain ⟨lb, hlb⟩ : ∃ l, l = downW m2 (F m2 H) 9 key (a : Int) := ⟨_, rfl⟩
      have HS1 := Lib.hid (show ∀ V, (WSt z g 140 9 V ∧ AsideG g wr V ∧ V.cell? ⟨gk, k, none⟩ = some (.int .i64 (a : Int))) → Calls Tryz.prog 14 #[.pointer (some ⟨g, 0, none⟩), .pointer (some ⟨S, 0, none⟩), .int .i64 (a : Int), .int .u64 key] V fun o w' => ∃ v, o = .returned v ∧ OwnI w' (g + 1) v la ∧ (WSt z g 140 9 w' ∧ AsideG g wr w' ∧ w'.cell? ⟨gk, k, none⟩ = some (.int .i64 (a : Int))) ∧ AsideG g V w' from fun V hV => by
        rw [hla]
        refine (HD1.out V hV.1 (a : Int)).mono ?_
        rintro o w' ⟨v, e1, h1, h2, h3⟩
        exact ⟨v, e1, ownI_up h1 hV.1.lt, ⟨h2, hV.2.1.trans h3, by rw [aside_cell h3 (show gk < V.heap.size from Nat.lt_of_lt_of_le hgl hV.2.1.size) (show gk ≠ g by omega)]; exact hV.2.2⟩, h3⟩)
      have HS2 := Lib.hid (show ∀ V, (WSt z g 140 9 V ∧ AsideG g wr V ∧ V.cell? ⟨gk, k, none⟩ = some (.int .i64 (a : Int))) → Calls Tryz.prog 14 #[.pointer (some ⟨g, 0, none⟩), .pointer (some ⟨S2, 0, none⟩), .int .i64 (a : Int), .int .u64 key] V fun o w' => ∃ v, o = .returned v ∧ OwnI w' (g + 1) v lb ∧ (WSt z g 140 9 w' ∧ AsideG g wr w' ∧ w'.cell? ⟨gk, k, none⟩ = some (.int .i64 (a : Int))) ∧ AsideG g V w' from fun V hV => by
        rw [hlb]
        refine (HD2.out V hV.1 (a : Int)).mono ?_
        rintro o w' ⟨v, e1, h1, h2, h3⟩
        exact ⟨v, e1, ownI_up h1 hV.1.lt, ⟨h2, hV.2.1.trans h3, by rw [aside_cell h3 (show gk < V.heap.size from Nat.lt_of_lt_of_le hgl hV.2.1.size) (show gk ≠ g by omega)]; exact hV.2.2⟩, h3⟩)
      rw [← hla, ← hlb] at HDW
      have HL4 := Lib.hid (show la.length ≤ 4 from by rw [hla]; exact down_le _ _ _ _ _)
      have k0 : WSt z g 140 9 wr.drew ∧ AsideG g wr wr.drew ∧ wr.drew.cell? ⟨gk, k, none⟩ = some (.int .i64 (a : Int)) := ⟨HWr.out.below (Below.refl _ _).drew, (AsideG.refl g wr).drew, c0⟩
      have i0x : (0 : Int) ≤ k := by omega
      have i1x : (k : Int) < nl := by omega
      clear hla hlb hck ea hka hka2 ha c0 hgk hgl
      go_wp2_with fail
      go_region_held3 (fun w' => WSt z g 140 9 w' ∧ AsideG g wr w' ∧ w'.cell? ⟨gk, k, none⟩ = some (.int .i64 (a : Int)))
        (first | with_reducible exact k0 | with_reducible assumption)
        (first
          | (go_at_call 14
             first
               | ((with_reducible refine (HS1.out _ (by assumption)).mono ?_); rintro o wa ⟨va, rfl, hoa, hka, haa⟩; have HOa := Lib.hid hoa; try (have HOb' := Lib.hid (own_aside HOb.out haa (Nat.lt_succ_self g))))
               | ((with_reducible refine (HS2.out _ (by assumption)).mono ?_); rintro o wb ⟨vb, rfl, hob, hkb, hab⟩; have HOb := Lib.hid hob; try (have HOa' := Lib.hid (own_aside HOa.out hab (Nat.lt_succ_self g))))))
      clear k0
      rename_i hHl
      have HWb := Lib.hid hHl.1
      have HAb := Lib.hid hHl.2.1
      have HTb := Lib.hid (show wb.ownsRow (g + 1) 3 1 (.slice (some ⟨gk, 0, none⟩) nl ct) nl (top.map (.int .i64)) from own_far HOr.out fun q hq => HAb.out.block q (HOr.out.lt q hq).2 (by have := (HOr.out.lt q hq).1; omega))
      have HSP := Lib.hid (split_any va vb la lb wb (read_own HOa'.out) (read_own HOb.out))
      clear hoa hka haa hob hkb hab hHl
      go_wp2_with fail
      refine HSP.out.mono ?_
      rintro o w12 ⟨n9, rfl, hn9, hb12⟩
      have HN := Lib.hid hn9
      have HW12 := Lib.hid (HWb.out.below hb12)
      have HT12 := Lib.hid (show w12.ownsRow (g + 1) 3 1 (.slice (some ⟨gk, 0, none⟩) nl ct) nl (top.map (.int .i64)) from own_far HTb.out fun q hq => hb12.block q (HTb.out.lt q hq).2)
      have HOa1 := Lib.hid (HOa'.out.below hb12)
      have HOb1 := Lib.hid (HOb.out.below hb12)
      have RQ := Lib.hid (RZ.out.below HW12.out.bel)
      obtain ⟨Aa, ca, hva⟩ := own_slice HOa1.out
      obtain ⟨Ab, cb, hvb⟩ := own_slice HOb1.out
      subst hva hvb
      obtain ⟨ln, hln⟩ : ∃ ln, ln = la.length := ⟨_, rfl⟩
      have HLA := Lib.hid hln
      have HLB := Lib.hid (show ln = lb.length from hln.trans HDW.out.1)
      have HOa2 := Lib.hid (show w12.ownsRow (g + 1) 3 1 (.slice Aa ln ca) ln (la.map (.int .i64)) from by rw [HLA.out]; exact HOa1.out)
      have HOb2 := Lib.hid (show w12.ownsRow (g + 1) 3 1 (.slice Ab ln cb) ln (lb.map (.int .i64)) from by rw [HLB.out]; exact HOb1.out)
      rw [← HLA.out, ← HLB.out]
      have hln9 : ln ≤ 4 := by rw [HLA.out]; exact HL4.out
      have x1 : ((ln : Int) != (ln : Int)) = false := by simp
      clear hn9 hb12 hln
      by_cases hnk : n9 = ln
      · have t7x : ((n9 : Int) == (ln : Int)) = true := by simp [hnk]
        clear hnk
        go_wp2_with fail
        go_roundw
        case rel => exact ⟨k + 1, by go_num, by omega, HW12, HT12⟩
        case measure => simp [intOf]; omega
      · have t7x : ((n9 : Int) == (ln : Int)) = false := beq_false_of_ne (by omega)
        have e3 : w12.cell? ⟨bl, off + h * 7 + 3, none⟩ = some (.int .i64 e.wt) := by
          obtain ⟨bl2, off2, hA2, _, hC2⟩ := RQ.out.at_ h hhm2
          injection hA2 with hA2
          injection hA2 with hA3 hA4
          subst hA3 hA4
          have h9 := hC2 3 (by omega)
          rw [← treW.ndAt_nat hhm2, HE.out] at h9
          exact h9
        by_cases hlt : weight < e.wt
        · have t8 : decide (weight < e.wt) = true := decide_eq_true hlt
          have HPP := HDW.out.2
          unfold toL at HPP
          rw [if_pos (show (ndAt m2 (h : Int)).wt < (ndAt m (h : Int)).wt by rw [HSA.out, HE.out]; exact hlt), if_pos (show (ndAt m2 (h : Int)).wt < (ndAt m (h : Int)).wt by rw [HSA.out, HE.out]; exact hlt)] at HPP
          obtain ⟨pp, qq, rr, y1, y2, y3, y4, y5, y6, y7, y8, y9, y10, y11, y12, y13⟩ := parted_at HPP HDW.out.1.symm (.inr HN.out) (by rw [← HLB.out]; exact hnk)
          have HY9 := Lib.hid y9
          have HY11 := Lib.hid y11
          have HY13 := Lib.hid y13
          have hsl : n9 < ln := by have := HLB.out; omega
          obtain ⟨gt', ct', hvt', hgt', hgl', _, _, hct', _⟩ := own_form HOa2.out (by omega)
          obtain ⟨gf', cf', hvf', hgf', hgk', _, _, hcf', _⟩ := own_form HOb2.out (by omega)
          injection hvt' with hv1 hv2 hv3
          subst hv1 hv3
          injection hvf' with hv4 hv5 hv6
          subst hv4 hv6
          have d1 : w12.cell? ⟨gt', n9 - 1, none⟩ = some (.int .i64 (pp : Int)) := by rw [hct' _ (by omega), List.getElem?_map, y6]; rfl
          have d2 : w12.cell? ⟨gt', n9, none⟩ = some (.int .i64 (qq : Int)) := by rw [hct' _ (by omega), List.getElem?_map, y7]; rfl
          have d3 : w12.cell? ⟨gf', n9, none⟩ = some (.int .i64 (rr : Int)) := by rw [hcf' _ (by omega), List.getElem?_map, y8]; rfl
          obtain ⟨n8, hn8⟩ : ∃ n8, n8 = n9 - 1 := ⟨_, rfl⟩
          rw [← hn8] at d1
          have wn : IntKind.i64.wrap ((n9 : Int) - 1) = (n8 : Int) := by rw [IntWalk.i64_in _ (by omega)]; omega
          have u0 : (0 : Int) ≤ n8 := by omega
          have u1 : (n8 : Int) < ln := by omega
          have u2 : (0 : Int) ≤ n9 := by omega
          have u3 : (n9 : Int) < ln := by omega
          have t9 : ((n9 : Int) == 0) = false := beq_false_of_ne (by omega)
          have HAB1 := Lib.hid (walkU.above_x RQ.out hmc hmc2 HF.out hhm2 y3)
          have HAB2 := Lib.hid (walkU.above_x RQ.out hmc hmc2 HF.out hhm2 y4)
          have HAB3 := Lib.hid (walkU.above_x RQ.out hmc hmc2 HF.out hhm2 y5)
          rw [y10, ← HMN.out] at HAB1
          rw [y11, ← HMN.out] at HAB2
          rw [y12, ← HMN.out] at HAB3
          obtain ⟨ra, zb, hra, hzb, er, ez, kr, kz⟩ := rack_of HF.out hhm2 (by rw [HE.out]; exact HC3.out)
          have HQQ := Lib.hid (bel_is HF.out hhm2 (by rw [HE.out]; exact HC3.out) hra hzb er ez kr kz y4 HY11.out HY9.out.2)
          have hrr := HE.out ▸ er
          obtain ⟨bl2, off2, hA2, _, hCr⟩ := RQ.out.at_ ra hra
          injection hA2 with hA2
          injection hA2 with hA3 hA4
          subst hA3 hA4
          obtain ⟨bl3, off3, hA5, _, hCz⟩ := RQ.out.at_ zb hzb
          injection hA5 with hA5
          injection hA5 with hA6 hA7
          subst hA6 hA7
          obtain ⟨bl4, off4, hA8, _, hCh⟩ := RQ.out.at_ h hhm2
          injection hA8 with hA8
          injection hA8 with hA9 hA10
          subst hA9 hA10
          have er2 : (m[h]).ab = (ra : Int) := by rw [← treW.ndAt_nat hhm2]; exact er
          have ez2 : (m[ra]).ab = (zb : Int) := by rw [← treW.ndAt_nat hra]; exact ez
          have b1 : w12.cell? ⟨bl, off + h * 7 + 2, none⟩ = some (.int .i64 (ra : Int)) := by rw [← er2]; exact hCh 2 (by omega)
          have b2 : w12.cell? ⟨bl, off + ra * 7 + 3, none⟩ = some (.int .i64 (m[ra]).wt) := hCr 3 (by omega)
          have b3 : w12.cell? ⟨bl, off + ra * 7 + 2, none⟩ = some (.int .i64 (zb : Int)) := by rw [← ez2]; exact hCr 2 (by omega)
          have b4 : w12.cell? ⟨bl, off + zb * 7 + 3, none⟩ = some (.int .i64 (m[zb]).wt) := hCz 3 (by omega)
          obtain ⟨wr1, hwr1⟩ : ∃ x, x = (m[ra]).wt := ⟨_, rfl⟩
          obtain ⟨wz1, hwz1⟩ : ∃ x, x = (m[zb]).wt := ⟨_, rfl⟩
          rw [← hwr1] at b2
          rw [← hwz1] at b4
          have HQE := Lib.hid (show 0 < wr1 → 0 < wz1 → qq = h from fun g1 g2 => by
            rcases HQQ.out with e9 | e9 | e9
            · exact e9
            · subst e9
              have := HY13.out (by omega)
              rw [treW.ndAt_nat hra, ← hwr1] at this
              omega
            · subst e9
              have := HY13.out (by omega)
              rw [treW.ndAt_nat hzb, ← hwz1] at this
              omega)
          have v0 : (0 : Int) ≤ ra := by omega
          have v1 : (ra : Int) < mn := by have := HMN.out; omega
          have v2 : (0 : Int) ≤ zb := by omega
          have v3 : (zb : Int) < mn := by have := HMN.out; omega
          clear hn8 y1 y2 y3 y4 y5 y6 y7 y8 y9 y10 y11 y12 y13 HPP hra hzb er ez kr kz hrr er2 ez2 hwr1 hwz1 hCr hCz hCh hct' hcf' hgt' hgl' hgf' hgk'
          go_wp2_with fail
          refine HAB1.out.mono ?_
          rintro o w13 ⟨rfl, rfl⟩
          go_wp2_with fail
          refine HAB2.out.mono ?_
          rintro o w13 ⟨rfl, rfl⟩
          go_wp2_with fail
          refine HAB3.out.mono ?_
          rintro o w13 ⟨rfl, rfl⟩
          by_cases g1 : 0 < wr1
          · have t10 : decide (0 < wr1) = true := decide_eq_true g1
            by_cases g2 : 0 < wz1
            · have t11 : decide (0 < wz1) = true := decide_eq_true g2
              have hqh := HQE.out g1 g2
              subst hqh
              have t12 : ((qq : Int) != (qq : Int)) = false := by simp
              clear g1 g2
              go_wp2_with fail
              go_roundw
              case rel => exact ⟨k + 1, by go_num, by omega, HW12, HT12⟩
              case measure => simp [intOf]; omega
            · have t11 : decide (0 < wz1) = false := decide_eq_false g2
              clear g1 g2
              go_wp2_with fail
              go_roundw
              case rel => exact ⟨k + 1, by go_num, by omega, HW12, HT12⟩
              case measure => simp [intOf]; omega
          · have t10 : decide (0 < wr1) = false := decide_eq_false g1
            clear g1
            go_wp2_with fail
            go_roundw
            case rel => exact ⟨k + 1, by go_num, by omega, HW12, HT12⟩
            case measure => simp [intOf]; omega
        · have t8 : decide (weight < e.wt) = false := decide_eq_false hlt
          have HPP := HDW.out.2
          unfold toL at HPP
          rw [if_neg (show ¬ (ndAt m2 (h : Int)).wt < (ndAt m (h : Int)).wt by rw [HSA.out, HE.out]; exact hlt), if_neg (show ¬ (ndAt m2 (h : Int)).wt < (ndAt m (h : Int)).wt by rw [HSA.out, HE.out]; exact hlt)] at HPP
          obtain ⟨pp, qq, rr, y1, y2, y3, y4, y5, y6, y7, y8, y9, y10, y11, y12, y13⟩ := parted_at HPP HDW.out.1 (.inl HN.out) (by rw [← HLA.out]; exact hnk)
          have HY9 := Lib.hid y9
          have HY11 := Lib.hid y11
          have HY13 := Lib.hid y13
          have hsl : n9 < ln := by have := HLA.out; omega
          obtain ⟨gt', ct', hvt', hgt', hgl', _, _, hct', _⟩ := own_form HOb2.out (by omega)
          obtain ⟨gf', cf', hvf', hgf', hgk', _, _, hcf', _⟩ := own_form HOa2.out (by omega)
          injection hvt' with hv1 hv2 hv3
          subst hv1 hv3
          injection hvf' with hv4 hv5 hv6
          subst hv4 hv6
          have d1 : w12.cell? ⟨gt', n9 - 1, none⟩ = some (.int .i64 (pp : Int)) := by rw [hct' _ (by omega), List.getElem?_map, y6]; rfl
          have d2 : w12.cell? ⟨gt', n9, none⟩ = some (.int .i64 (qq : Int)) := by rw [hct' _ (by omega), List.getElem?_map, y7]; rfl
          have d3 : w12.cell? ⟨gf', n9, none⟩ = some (.int .i64 (rr : Int)) := by rw [hcf' _ (by omega), List.getElem?_map, y8]; rfl
          obtain ⟨n8, hn8⟩ : ∃ n8, n8 = n9 - 1 := ⟨_, rfl⟩
          rw [← hn8] at d1
          have wn : IntKind.i64.wrap ((n9 : Int) - 1) = (n8 : Int) := by rw [IntWalk.i64_in _ (by omega)]; omega
          have u0 : (0 : Int) ≤ n8 := by omega
          have u1 : (n8 : Int) < ln := by omega
          have u2 : (0 : Int) ≤ n9 := by omega
          have u3 : (n9 : Int) < ln := by omega
          have t9 : ((n9 : Int) == 0) = false := beq_false_of_ne (by omega)
          have HAB1 := Lib.hid (walkU.above_x RQ.out hmc hmc2 HF.out hhm2 y3)
          have HAB2 := Lib.hid (walkU.above_x RQ.out hmc hmc2 HF.out hhm2 y4)
          have HAB3 := Lib.hid (walkU.above_x RQ.out hmc hmc2 HF.out hhm2 y5)
          rw [y10, ← HMN.out] at HAB1
          rw [y11, ← HMN.out] at HAB2
          rw [y12, ← HMN.out] at HAB3
          obtain ⟨ra, zb, hra, hzb, er, ez, kr, kz⟩ := rack_of HF.out hhm2 (by rw [HE.out]; exact HC3.out)
          have HQQ := Lib.hid (bel_is HF.out hhm2 (by rw [HE.out]; exact HC3.out) hra hzb er ez kr kz y4 HY11.out HY9.out.2)
          have hrr := HE.out ▸ er
          obtain ⟨bl2, off2, hA2, _, hCr⟩ := RQ.out.at_ ra hra
          injection hA2 with hA2
          injection hA2 with hA3 hA4
          subst hA3 hA4
          obtain ⟨bl3, off3, hA5, _, hCz⟩ := RQ.out.at_ zb hzb
          injection hA5 with hA5
          injection hA5 with hA6 hA7
          subst hA6 hA7
          obtain ⟨bl4, off4, hA8, _, hCh⟩ := RQ.out.at_ h hhm2
          injection hA8 with hA8
          injection hA8 with hA9 hA10
          subst hA9 hA10
          have er2 : (m[h]).ab = (ra : Int) := by rw [← treW.ndAt_nat hhm2]; exact er
          have ez2 : (m[ra]).ab = (zb : Int) := by rw [← treW.ndAt_nat hra]; exact ez
          have b1 : w12.cell? ⟨bl, off + h * 7 + 2, none⟩ = some (.int .i64 (ra : Int)) := by rw [← er2]; exact hCh 2 (by omega)
          have b2 : w12.cell? ⟨bl, off + ra * 7 + 3, none⟩ = some (.int .i64 (m[ra]).wt) := hCr 3 (by omega)
          have b3 : w12.cell? ⟨bl, off + ra * 7 + 2, none⟩ = some (.int .i64 (zb : Int)) := by rw [← ez2]; exact hCr 2 (by omega)
          have b4 : w12.cell? ⟨bl, off + zb * 7 + 3, none⟩ = some (.int .i64 (m[zb]).wt) := hCz 3 (by omega)
          obtain ⟨wr1, hwr1⟩ : ∃ x, x = (m[ra]).wt := ⟨_, rfl⟩
          obtain ⟨wz1, hwz1⟩ : ∃ x, x = (m[zb]).wt := ⟨_, rfl⟩
          rw [← hwr1] at b2
          rw [← hwz1] at b4
          have HQE := Lib.hid (show 0 < wr1 → 0 < wz1 → qq = h from fun g1 g2 => by
            rcases HQQ.out with e9 | e9 | e9
            · exact e9
            · subst e9
              have := HY13.out (by omega)
              rw [treW.ndAt_nat hra, ← hwr1] at this
              omega
            · subst e9
              have := HY13.out (by omega)
              rw [treW.ndAt_nat hzb, ← hwz1] at this
              omega)
          have v0 : (0 : Int) ≤ ra := by omega
          have v1 : (ra : Int) < mn := by have := HMN.out; omega
          have v2 : (0 : Int) ≤ zb := by omega
          have v3 : (zb : Int) < mn := by have := HMN.out; omega
          clear hn8 y1 y2 y3 y4 y5 y6 y7 y8 y9 y10 y11 y12 y13 HPP hra hzb er ez kr kz hrr er2 ez2 hwr1 hwz1 hCr hCz hCh hct' hcf' hgt' hgl' hgf' hgk'
          go_wp2_with fail
          refine HAB1.out.mono ?_
          rintro o w13 ⟨rfl, rfl⟩
          go_wp2_with fail
          refine HAB2.out.mono ?_
          rintro o w13 ⟨rfl, rfl⟩
          go_wp2_with fail
          refine HAB3.out.mono ?_
          rintro o w13 ⟨rfl, rfl⟩
          by_cases g1 : 0 < wr1
          · have t10 : decide (0 < wr1) = true := decide_eq_true g1
            by_cases g2 : 0 < wz1
            · have t11 : decide (0 < wz1) = true := decide_eq_true g2
              have hqh := HQE.out g1 g2
              subst hqh
              have t12 : ((qq : Int) != (qq : Int)) = false := by simp
              clear g1 g2
              go_wp2_with fail
              go_roundw
              case rel => exact ⟨k + 1, by go_num, by omega, HW12, HT12⟩
              case measure => simp [intOf]; omega
            · have t11 : decide (0 < wz1) = false := decide_eq_false g2
              clear g1 g2
              go_wp2_with fail
              go_roundw
              case rel => exact ⟨k + 1, by go_num, by omega, HW12, HT12⟩
              case measure => simp [intOf]; omega
          · have t10 : decide (0 < wr1) = false := decide_eq_false g1
            clear g1
            go_wp2_with fail
            go_roundw
            case rel => exact ⟨k + 1, by go_num, by omega, HW12, HT12⟩
            case measure => simp [intOf]; omega
    · have t1x : decide ((k : Int) < nl) = false := decide_eq_false (by omega)
      have HBW := Lib.hid (BZ.out.trans (HWr.out.bel.mono BZ.out.size))
      go_wp2_with fail
      refine (HAW.out wr).mono ?_
      rintro o w9 ⟨rfl, hb9⟩
      have HB9 := Lib.hid (HBW.out.trans (hb9.mono HBW.out.size))
      clear hb9
      go_wp2_with fail
      go_ret
      exact ⟨rfl, HB9.out⟩
end Go.Proofs.YtoaboklckkcjcaaGreat.walkY
