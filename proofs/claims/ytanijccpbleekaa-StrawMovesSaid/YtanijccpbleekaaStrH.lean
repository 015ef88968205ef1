/- Layer 25: the law of StrawMoves. -/
import Derived.Test.YtanijccpbleekaaStrG
import Derived.Test.YtanijccpbleekaaStrE
import Derived.Laws.AppendOwn
namespace Go.Proofs.Ytanijccpbleekaa.strH
open Go.ChangeShapes Go.WideShapes Go.ChangeAt Go.RowKit
open Go.Proofs.Ytanijccpbleekaa.base Go.Proofs.Ytanijccpbleekaa.onceB Go.Proofs.Ytanijccpbleekaa.onceC Go.Proofs.Ytanijccpbleekaa.wideG Go.Proofs.Ytanijccpbleekaa.wideH Go.Proofs.Ytanijccpbleekaa.wideI Go.Proofs.Ytanijccpbleekaa.strA Go.Proofs.Ytanijccpbleekaa.strB Go.Proofs.Ytanijccpbleekaa.strC Go.Proofs.Ytanijccpbleekaa.strD Go.Proofs.Ytanijccpbleekaa.strE Go.Proofs.Ytanijccpbleekaa.strG
set_option linter.unusedVariables false

theorem tab_type {g : Nat} {T : TypeId} {w : World} (h : Tab g T w) {k : Nat} {t : TypeId} {cs : Array Value} (hk : Blk w k t cs) (hs : t ≠ 38) (hg : k ≠ g) (o : Nat) (v : Value) : Tab g T (w.setCell ⟨k, o, none⟩ v) := by
  rcases h with h | ⟨q, h1, h2, h3⟩
  · exact .inl (h.far (fun e => hg e.symm) v)
  · refine .inr ⟨q, h1, h2.far (fun e => hg e.symm) v, h3.blk (Below.heap_setCell w ⟨k, o, none⟩ v q fun e => ?_)⟩
    obtain ⟨ds, h4, h5, _⟩ := h3
    have e2 : q = k := e
    subst e2
    have := Option.some.inj (h4.symm.trans hk)
    injection this with h6 h7
    exact hs h7.symm
def flat (l : List (Int × Int)) : List Value := l.flatMap fun x => [.int .u64 x.1, .int .u64 x.2]
theorem flat_len (l : List (Int × Int)) : (flat l).length = l.length * 2 := by
  induction l with
  | nil => rfl
  | cons a l ih => simp only [flat, List.flatMap_cons, List.length_append, List.length_cons, List.length_nil] at *; omega
theorem flat_at : ∀ (l : List (Int × Int)) (i : Nat), i < l.length → (flat l)[i * 2]? = some (.int .u64 (l.getD i (0, 0)).1) ∧ (flat l)[i * 2 + 1]? = some (.int .u64 (l.getD i (0, 0)).2)
  | [], i, h => by simp at h
  | a :: l, 0, h => by simp [flat]
  | a :: l, i + 1, h => by
    have ih := flat_at l i (by simpa using h)
    have e : flat (a :: l) = .int .u64 a.1 :: .int .u64 a.2 :: flat l := rfl
    rw [e, show (i + 1) * 2 = i * 2 + 1 + 1 by omega]
    simpa using ih
theorem flat_one (l : List (Int × Int)) : ∀ u ∈ flat l, u.oneCell' = true := fun u hu => by
  unfold flat at hu
  obtain ⟨e, _, h⟩ := List.mem_flatMap.mp hu
  simp at h
  rcases h with rfl | rfl <;> rfl
theorem flat_row {w : World} {B b off : Nat} {l : List (Int × Int)} (h : Row2 w B (some ⟨b, off, none⟩) l) : ∀ j u, (flat l)[j]? = some u → w.cell? ((⟨b, off, none⟩ : Addr).add j) = some u := fun j u hu => by
  have hj : j < l.length * 2 := by
    have := (List.getElem?_eq_some_iff.mp hu).1
    rw [flat_len] at this
    exact this
  have h1 := row2_at h (j / 2) (by omega)
  have h2 := flat_at l (j / 2) (by omega)
  rw [Addr.add_lit]
  rcases (show j = j / 2 * 2 ∨ j = j / 2 * 2 + 1 by omega) with e | e
  · rw [e] at hu ⊢
    rw [h2.1] at hu
    rw [h1.1]
    exact hu
  · rw [e] at hu ⊢
    rw [h2.2] at hu
    rw [← Nat.add_assoc, h1.2]
    exact hu
theorem own2 {w : World} {B : Nat} {v : Value} {l : List (Int × Int)} (hn : 0 < l.length) (h : w.ownsRow B 44 2 v l.length (flat l)) : ∃ g cap cur, v = .slice (some ⟨g, 0, none⟩) l.length cap ∧ B ≤ g ∧ Blk w g 44 cur ∧ l.length ≤ cap ∧ cap ≤ 9223372036854775807 ∧ (∀ i, i < l.length → cur[i * 2]? = some (.int .u64 (l.getD i (0, 0)).1) ∧ cur[i * 2 + 1]? = some (.int .u64 (l.getD i (0, 0)).2)) := by
  rcases h.2 with ⟨_, h0⟩ | ⟨g, cap, cur, e1, e2, e3, e4, e5, e6, e7⟩
  · omega
  · refine ⟨g, cap, cur, e1, e2, e3, e4, by unfold maxLen at e5; omega, fun i hi => ?_⟩
    have h2 := flat_at l i hi
    rw [← e7, List.getElem?_take, List.getElem?_take, if_pos (by omega), if_pos (by omega)] at h2
    simpa using h2
/-- The list with another weight at a place. -/
def putW (l : List (Int × Int)) (a : Nat) (wt : Int) : List (Int × Int) := l.set a ((l.getD a (0, 0)).1, wt)
theorem putW_at (l : List (Int × Int)) (a : Nat) (wt : Int) (h : a < l.length) : (putW l a wt).getD a (0, 0) = ((l.getD a (0, 0)).1, wt) := by
  unfold putW
  rw [List.getD_eq_getElem?_getD, List.getElem?_set_self h]
  rfl
theorem putW_ne (l : List (Int × Int)) (a : Nat) (wt : Int) (i : Nat) (h : i ≠ a) : (putW l a wt).getD i (0, 0) = l.getD i (0, 0) := by
  unfold putW
  rw [List.getD_eq_getElem?_getD, List.getElem?_set_ne (Ne.symm h), List.getD_eq_getElem?_getD]
theorem putW_good (l : List (Int × Int)) (a : Nat) (wt : Int) (h0 : 0 ≤ wt) (h1 : wt < 18446744073709551616) (hg : ∀ i, good (l.getD i (0, 0))) (h : a < l.length) : ∀ i, good ((putW l a wt).getD i (0, 0)) := fun i => by
  by_cases e : i = a
  · subst e
    rw [putW_at l i wt h]
    exact ⟨(hg i).1, h0, h1⟩
  · rw [putW_ne l a wt i e]
    exact hg i
theorem row2_put {w : World} {g : Nat} {cur : Array Value} {l : List (Int × Int)} {a : Nat} {wt : Int} (hb : Blk w g 44 ((cur.setIfInBounds (a * 2) (.int .u64 (l.getD a (0, 0)).1)).setIfInBounds (a * 2 + 1) (.int .u64 wt))) (ha : a < l.length)
    (hc : ∀ i, i < l.length → cur[i * 2]? = some (.int .u64 (l.getD i (0, 0)).1) ∧ cur[i * 2 + 1]? = some (.int .u64 (l.getD i (0, 0)).2)) : Row2 w w.heap.size (some ⟨g, 0, none⟩) (putW l a wt) := by
  refine .inr ⟨g, 0, rfl, hb.lt, fun i hi => ?_⟩
  have hi2 : i < l.length := by simpa [putW] using hi
  have h1 := hc i hi2
  have s1 := (Array.getElem?_eq_some_iff.mp h1.1).1
  have s2 := (Array.getElem?_eq_some_iff.mp h1.2).1
  rw [Nat.zero_add, hb.cell, hb.cell]
  by_cases e : i = a
  · subst e
    rw [putW_at l i wt ha]
    constructor
    · rw [Array.getElem?_setIfInBounds_ne (by omega), Array.getElem?_setIfInBounds_self_of_lt s1]
    · rw [Array.getElem?_setIfInBounds_self_of_lt (by simpa using s2)]
  · rw [putW_ne l a wt i e]
    constructor
    · rw [Array.getElem?_setIfInBounds_ne (by omega), Array.getElem?_setIfInBounds_ne (by omega)]
      exact h1.1
    · rw [Array.getElem?_setIfInBounds_ne (by omega), Array.getElem?_setIfInBounds_ne (by omega)]
      exact h1.2
/-- No two of the first q have one number. -/
def Dist (l : List (Int × Int)) (q : Nat) : Prop := ∀ x y, x < q → y < x → (l.getD x (0, 0)).1 ≠ (l.getD y (0, 0)).1
def DistTo (l : List (Int × Int)) (q j : Nat) : Prop := ∀ y, y < j → (l.getD q (0, 0)).1 ≠ (l.getD y (0, 0)).1
theorem Dist.next {l : List (Int × Int)} {q : Nat} (h : Dist l q) (h2 : DistTo l q q) : Dist l (q + 1) := fun x y hx hy => by
  rcases Nat.lt_or_ge x q with h3 | h3
  · exact h x y h3 hy
  · have : x = q := by omega
    subst this
    exact h2 y hy
theorem DistTo.next {l : List (Int × Int)} {q j : Nat} (h : DistTo l q j) (h2 : (l.getD q (0, 0)).1 ≠ (l.getD j (0, 0)).1) : DistTo l q (j + 1) := fun y hy => by
  rcases Nat.lt_or_ge y j with h3 | h3
  · exact h y h3
  · have : y = j := by omega
    subst this
    exact h2
theorem info_item : (Try.prog.info? 44).map (fun i => (i.zero, i.size, i.bytes)) = some (some (.agg #[.int .u64 0, .int .u64 0]), 2, 16) := by kernel_rfl
set_option maxRecDepth 100000 in
set_option maxHeartbeats 2000000 in
theorem moves_neg (key : Int) (v : Value) (A : Option Addr) (m c : Nat) (l : List (Int × Int)) (a0 wt : Int) (w : World) (hf : ∀ W, Calls Try.prog 11 #[v] W fun o w' => o = .returned (.slice A m c) ∧ W = w') (h : a0 < 0) :
    Calls Try.prog 6 #[.int .u64 key, v, .int .i64 a0, .int .u64 wt] w fun e w' => e = .returned (.bool true) ∧ Below w.heap.size w w' := by
  have HF := Lib.hid hf
  clear hf
  have t1 : decide (a0 < 0) = true := decide_eq_true h
  have HBB := Lib.hid (Below.refl w.heap.size w)
  clear h
  go_enter Try.func6, Try.ntmps6
  go_wp2_with fail
  refine (HF.out _).mono ?_
  rintro e w' ⟨rfl, rfl⟩
  have HAW := Lib.hid (awake_any w)
  go_wp2_with fail
  refine HAW.out.mono ?_
  rintro e wq ⟨rfl, hbq⟩
  have HZ := Lib.hid (HBB.out.trans (hbq.mono HBB.out.size))
  clear hbq
  go_wp2_with fail
  go_ret
  exact ⟨rfl, HZ.out⟩
set_option maxRecDepth 100000 in
set_option maxHeartbeats 2000000 in
theorem moves_big (key : Int) (v : Value) (A : Option Addr) (m c : Nat) (l : List (Int × Int)) (a0 wt : Int) (w : World) (hf : ∀ W, Calls Try.prog 11 #[v] W fun o w' => o = .returned (.slice A m c) ∧ W = w') (h : 0 ≤ a0) (h2 : (m : Int) ≤ a0) :
    Calls Try.prog 6 #[.int .u64 key, v, .int .i64 a0, .int .u64 wt] w fun e w' => e = .returned (.bool true) ∧ Below w.heap.size w w' := by
  have HF := Lib.hid hf
  clear hf
  have t1 : decide (a0 < 0) = false := decide_eq_false (by omega)
  have t2 : decide ((m : Int) ≤ a0) = true := decide_eq_true h2
  have HBB := Lib.hid (Below.refl w.heap.size w)
  clear h h2
  go_enter Try.func6, Try.ntmps6
  go_wp2_with fail
  refine (HF.out _).mono ?_
  rintro e w' ⟨rfl, rfl⟩
  have HAW := Lib.hid (awake_any w)
  go_wp2_with fail
  refine HAW.out.mono ?_
  rintro e wq ⟨rfl, hbq⟩
  have HZ := Lib.hid (HBB.out.trans (hbq.mono HBB.out.size))
  clear hbq
  go_wp2_with fail
  go_ret
  exact ⟨rfl, HZ.out⟩
set_option maxRecDepth 100000 in
set_option maxHeartbeats 2000000 in
theorem moves_zero (key : Int) (v : Value) (A : Option Addr) (m c : Nat) (l : List (Int × Int)) (a0 wt : Int) (w : World) (hf : ∀ W, Calls Try.prog 11 #[v] W fun o w' => o = .returned (.slice A m c) ∧ W = w') (h : 0 ≤ a0) (h2 : a0 < m) (h3 : wt = 0) :
    Calls Try.prog 6 #[.int .u64 key, v, .int .i64 a0, .int .u64 wt] w fun e w' => e = .returned (.bool true) ∧ Below w.heap.size w w' := by
  have HF := Lib.hid hf
  clear hf
  have t1 : decide (a0 < 0) = false := decide_eq_false (by omega)
  have t2 : decide ((m : Int) ≤ a0) = false := decide_eq_false (by omega)
  have HBB := Lib.hid (Below.refl w.heap.size w)
  subst h3
  clear h h2
  go_enter Try.func6, Try.ntmps6
  go_wp2_with fail
  refine (HF.out _).mono ?_
  rintro e w' ⟨rfl, rfl⟩
  have HAW := Lib.hid (awake_any w)
  go_wp2_with fail
  refine HAW.out.mono ?_
  rintro e wq ⟨rfl, hbq⟩
  have HZ := Lib.hid (HBB.out.trans (hbq.mono HBB.out.size))
  clear hbq
  go_wp2_with fail
  go_ret
  exact ⟨rfl, HZ.out⟩
set_option maxRecDepth 100000 in
set_option maxHeartbeats 2000000 in
theorem moves_none (key : Int) (v : Value) (A : Option Addr) (m c : Nat) (l : List (Int × Int)) (a0 wt : Int) (w : World) (hf : ∀ W, Calls Try.prog 11 #[v] W fun o w' => o = .returned (.slice A m c) ∧ W = w') (h : 0 ≤ a0) (h2 : a0 < m) (h3 : 0 < wt) (hl : l.length = m) (hr : Row2 w w.heap.size A l) (h4 : (l.getD a0.toNat (0, 0)).2 = 0) :
    Calls Try.prog 6 #[.int .u64 key, v, .int .i64 a0, .int .u64 wt] w fun e w' => e = .returned (.bool true) ∧ Below w.heap.size w w' := by
  have HF := Lib.hid hf
  clear hf
  obtain ⟨a, rfl⟩ := Int.eq_ofNat_of_zero_le h
  rw [Int.toNat_natCast] at h4
  have t1 : decide ((a : Int) < 0) = false := decide_eq_false (by omega)
  have t2 : decide ((m : Int) ≤ a) = false := decide_eq_false (by omega)
  have t2b : decide (m ≤ a) = false := decide_eq_false (by omega)
  have t3 : (wt == 0) = false := beq_eq_false_iff_ne.mpr (by omega)
  obtain ⟨b, off, hA, hbl, hc⟩ := hr.at_ (by omega)
  subst hA
  have c1 : w.cell? ⟨b, off + a * 2 + 1, none⟩ = some (.int .u64 0) := by have := (hc a (by omega)).2; rw [h4] at this; exact this
  have j0 : (0 : Int) ≤ a := by omega
  have j1 : (a : Int) < m := by omega
  have HBB := Lib.hid (Below.refl w.heap.size w)
  clear hc hr h4 h3 h h2
  go_enter Try.func6, Try.ntmps6
  go_wp2_with fail
  refine (HF.out _).mono ?_
  rintro e w' ⟨rfl, rfl⟩
  have HAW := Lib.hid (awake_any w)
  go_wp2_with fail
  refine HAW.out.mono ?_
  rintro e wq ⟨rfl, hbq⟩
  have HZ := Lib.hid (HBB.out.trans (hbq.mono HBB.out.size))
  clear hbq
  go_wp2_with fail
  go_ret
  exact ⟨rfl, HZ.out⟩
set_option maxRecDepth 100000 in
set_option maxHeartbeats 8000000 in
theorem moves_good (key : Int) (v : Value) (A : Option Addr) (m c : Nat) (l : List (Int × Int)) (a : Nat) (wt : Int) (w : World) (hf : ∀ W, Calls Try.prog 11 #[v] W fun o w' => o = .returned (.slice A m c) ∧ W = w')
    (ham : a < m) (h3 : 0 < wt) (h4 : wt < 18446744073709551616) (hl : l.length = m) (hm : m ≤ 30) (hmc : m ≤ c) (hcm : c ≤ 9223372036854775807) (hg : ∀ i, good (l.getD i (0, 0))) (hr : Row2 w w.heap.size A l) (h5 : 0 < (l.getD a (0, 0)).2) :
    Calls Try.prog 6 #[.int .u64 key, v, .int .i64 a, .int .u64 wt] w fun e w' => e = .returned (.bool true) ∧ Below w.heap.size w w' := by
  have HF := Lib.hid hf
  clear hf
  obtain ⟨i0, hi0, hz0, hz1, hz2⟩ := info_parts info_item
  have HI0 := Lib.hid hi0
  have HZ0 := Lib.hid hz0
  have HZ1 := Lib.hid hz1
  have HZ2 := Lib.hid hz2
  have t1 : decide ((a : Int) < 0) = false := decide_eq_false (by omega)
  have t2 : decide ((m : Int) ≤ a) = false := decide_eq_false (by omega)
  have t2b : decide (m ≤ a) = false := decide_eq_false (by omega)
  have t3 : (wt == 0) = false := beq_eq_false_iff_ne.mpr (by omega)
  have t4 : ((l.getD a (0, 0)).2 == 0) = false := beq_eq_false_iff_ne.mpr (by omega)
  obtain ⟨b, off, hA, hbl, hc⟩ := hr.at_ (by omega)
  subst hA
  have c0 : w.cell? ⟨b, off + a * 2, none⟩ = some (.int .u64 (l.getD a (0, 0)).1) := (hc a (by omega)).1
  have c1 : w.cell? ⟨b, off + a * 2 + 1, none⟩ = some (.int .u64 (l.getD a (0, 0)).2) := (hc a (by omega)).2
  have j0 : (0 : Int) ≤ a := by omega
  have j1 : (a : Int) < m := by omega
  have HC0 := Lib.hid c0
  have HC1 := Lib.hid c1
  have HR := Lib.hid hr
  have HL := Lib.hid hl
  have HG := Lib.hid hg
  have H5 := Lib.hid h5
  have H3 := Lib.hid h3
  have H4 := Lib.hid h4
  have HBL := Lib.hid hbl
  obtain ⟨xu, hxu⟩ : ∃ xu, xu = (l.getD a (0, 0)).1 := ⟨_, rfl⟩
  obtain ⟨xd, hxd⟩ : ∃ xd, xd = (l.getD a (0, 0)).2 := ⟨_, rfl⟩
  rw [← hxu] at c0 HC0
  rw [← hxd] at c1 HC1 t4
  have HXU := Lib.hid hxu
  have HXD := Lib.hid hxd
  clear hc hr hl hg h5 h3 h4 hbl hxu hxd hi0 hz0 hz1 hz2
  go_enter Try.func6, Try.ntmps6
  go_wp2_with fail
  refine (HF.out _).mono ?_
  rintro e w' ⟨rfl, rfl⟩
  go_wp2_with fail
  clear c0 c1 t1 t2 t2b t3 t4
  go_loopw [9, 10] (fun i k wr => ∃ q : Nat, i = .int .i64 q ∧ q ≤ m ∧ Dist l q ∧ Below w.heap.size w wr) (fun i _ _ => m - (intOf i).toNat)
  case atStart => exact ⟨0, rfl, by omega, fun x y h => by omega, Below.refl _ _⟩
  case round =>
    obtain ⟨q, rfl, hq, hd, hbel⟩ := hrel
    have HD := Lib.hid hd
    have HB := Lib.hid hbel
    clear hd hbel
    by_cases hqm : q < m
    · have t1 : decide ((q : Int) < m) = true := decide_eq_true (by omega)
      have t1b : decide (q < m) = true := decide_eq_true hqm
      go_wp2_with fail
      go_loopw [10] (fun k wz => ∃ j : Nat, k = .int .i64 j ∧ j ≤ q ∧ DistTo l q j ∧ Below w.heap.size w wz) (fun k _ => q - (intOf k).toNat)
      case atStart => exact ⟨0, rfl, by omega, fun y h => by omega, HB.out⟩
      case round =>
        obtain ⟨j, rfl, hj, hdt, hbel⟩ := hrel
        have HT := Lib.hid hdt
        have HB2 := Lib.hid hbel
        clear hdt hbel
        by_cases hjq : j < q
        · have t2 : decide ((j : Int) < q) = true := decide_eq_true (by omega)
          have t2b : decide (j < q) = true := decide_eq_true hjq
          have d1 := (row2_at (HR.out.below HB2.out) q (by rw [HL.out]; omega)).1
          have d2 := (row2_at (HR.out.below HB2.out) j (by rw [HL.out]; omega)).1
          have k0 : (0 : Int) ≤ q := by omega
          have k1 : (q : Int) < m := by omega
          have k2 : (0 : Int) ≤ j := by omega
          have k3 : (j : Int) < m := by omega
          by_cases hid : (l.getD q (0, 0)).1 = (l.getD j (0, 0)).1
          · rw [hid] at d1
            clear hid
            generalize (l.getD j (0, 0)).1 = y at *
            go_wp2_with fail
            go_quiet (fail)
            have HB3 := Lib.hid (below_drewN HB2.out nq)
            clear d1 d2
            have HAW := Lib.hid (awake_any (wr.drewN nq))
            go_wp2_with fail
            refine HAW.out.mono ?_
            rintro e wq ⟨rfl, hbq⟩
            have HZ := Lib.hid (HB3.out.trans (hbq.mono HB3.out.size))
            clear hbq
            go_wp2_with fail
            go_ret
            exact ⟨rfl, HZ.out⟩
          · have hne : ((l.getD q (0, 0)).1 == (l.getD j (0, 0)).1) = false := beq_eq_false_iff_ne.mpr hid
            have HT2 := Lib.hid (HT.out.next hid)
            clear hid
            generalize (l.getD q (0, 0)).1 = x at *
            generalize (l.getD j (0, 0)).1 = y at *
            go_wp2_with fail
            go_quiet (fail)
            clear d1 d2
            go_wp2_with fail
            go_roundw
            case rel => exact ⟨j + 1, by go_num, by omega, HT2.out, below_drewN HB2.out _⟩
            case measure => simp [intOf]; omega
        · have t2 : decide ((j : Int) < q) = false := decide_eq_false (by omega)
          have t2b : decide (j < q) = false := decide_eq_false hjq
          have hjq2 : j = q := by omega
          have HD2 := Lib.hid (HD.out.next (hjq2 ▸ HT.out))
          clear hjq2
          go_wp2_with fail
          go_roundw
          case rel => exact ⟨q + 1, by go_num, by omega, HD2.out, HB2.out⟩
          case measure => simp [intOf]; omega
    · have t1 : decide ((q : Int) < m) = false := decide_eq_false (by omega)
      have t1b : decide (q < m) = false := decide_eq_false hqm
      have hqm2 : q = m := by omega
      have HD2 := Lib.hid (show Dist l m from hqm2 ▸ HD.out)
      clear hqm2 HD
      obtain ⟨w1, hw1⟩ : ∃ w1, w1 = wr.alloc (.cells (TabC 0 0 (.slice none 0 0)) 48) := ⟨_, rfl⟩
      have HW1 := Lib.hid (show wr.alloc (.cells #[.int .u32 0, .int .i32 0, .int .u32 0, .slice none 0 0] 48) = w1 from hw1.symm)
      have HT1 := Lib.hid (show Tab wr.heap.size 48 w1 from .inl (hw1 ▸ Blk.new wr _ _))
      have HB1 := Lib.hid (show Below w.heap.size w w1 from hw1 ▸ HB.out.alloc HB.out.size _)
      have HP1 := Lib.hid (strD.pick_any wr.heap.size 48 key (some ⟨b, off, none⟩) m c l w1 HT1.out HL.out (by omega) HG.out (fun w' ha => rows_keep HR.out HB1.out HB.out.size ha))
      obtain ⟨pa, hpa⟩ := pk_some key l m a ham H5.out
      rw [hpa] at HP1
      have HPA := Lib.hid hpa
      clear hw1 hpa
      go_wp2_with fail
      rw [HW1.out]
      refine HP1.out.mono ?_
      rintro e w2 ⟨rfl, ht2, ha2⟩
      have HT2 := Lib.hid ht2
      have HB2 := Lib.hid (ha2.from HB1.out HB.out.size (Nat.le_refl _))
      have HGS := Lib.hid (show wr.heap.size < w2.heap.size from tab_lt ht2)
      have hb3 : Below w2.heap.size w2 (w2.alloc (.cells #[] 44)) := (Below.refl w2.heap.size w2).alloc (Nat.le_refl _) _
      have HB3 := Lib.hid (HB2.out.trans (hb3.mono HB2.out.size))
      have OWN := Lib.hid (World.ownsRow_made (e := 44) (size := 2) (base := w2.heap.size) w2 #[] 0 (Nat.le_refl _) (Nat.zero_le _) rfl)
      have NEWS := Lib.hid (flat_row (HR.out.below HB3.out))
      have ONE := Lib.hid (flat_one l)
      have FL := Lib.hid (show (flat l).length = m * 2 by rw [flat_len, HL.out])
      have P1 := Lib.hid (show 0 + m ≤ maxLen by unfold maxLen; omega)
      have P2 := Lib.hid (show (0 + m) * 16 ≤ 140737488355328 by omega)
      have P3 := Lib.hid (show w2.heap.size ≤ (w2.alloc (.cells #[] 44)).heap.size by simp)
      clear ht2 ha2 hb3
      rw [show plc (some pa) = (pa : Int) from rfl]
      go_wp2_with (at_builtin; refine wpList_append_own _ rfl (.tmp 67) (.tmp 68) _ rfl w2.heap.size 44 i0 _ 2 16 Try.underlying42 HI0.out HZ0.out HZ1.out HZ2.out rfl (by omega) _ 0 [] rfl OWN.out ⟨b, off, none⟩ m c (flat l) rfl FL.out NEWS.out ONE.out P1.out P2.out P3.out ?_
                   intro v4 w4 ho hgr _
                   simp only [Nat.zero_add, List.nil_append] at ho
                   obtain ⟨g2, cap, cur, hv4, hgb, hblk, hmc2, hcap, hcur⟩ := own2 (l := l) (by rw [HL.out]; omega) (by rw [HL.out]; exact ho)
                   rw [HL.out] at hv4 hmc2
                   subst hv4
                   have HT4 := Lib.hid (tab_blk HT2.out (fun k hk => (hgr.block k (Nat.lt_trans hk (by simp)) (fun e => by have e2 : some k = some w2.heap.size := e; injection e2 with e2; omega)).trans (Below.heap_alloc _ _ _ hk)))
                   have HB4 := Lib.hid (HB3.out.grown hgr HB3.out.size (fun k hk => by have e2 : some w2.heap.size = some k := hk; injection e2 with e2; have := HB2.out.size; omega))
                   have r4 := row2_at (HR.out.below HB4.out) a (by rw [HL.out]; exact ham)
                   rw [← HXU.out, ← HXD.out] at r4
                   have c0 : w4.cell? ⟨b, off + a * 2, none⟩ = some (.int .u64 xu) := r4.1
                   have hca := hcur a (by rw [HL.out]; exact ham)
                   rw [← HXU.out, ← HXD.out] at hca
                   have d0 : w4.cell? ⟨g2, a * 2, none⟩ = some (.int .u64 xu) := (hblk.cell _).trans hca.1
                   have d1 : w4.cell? ⟨g2, a * 2 + 1, none⟩ = some (.int .u64 xd) := (hblk.cell _).trans hca.2
                   have f0 : w4.frozen? ⟨g2, a * 2, none⟩ = false := hblk.frozen _
                   have f1 : w4.frozen? ⟨g2, a * 2 + 1, none⟩ = false := hblk.frozen _
                   have HG2 := Lib.hid (show wr.heap.size < g2 by have := HGS.out; omega)
                   have HB5 := Lib.hid ((HB4.out.setCell (p := ⟨g2, a * 2, none⟩) (by have := HB2.out.size; simp; omega) (.int .u64 xu)).setCell (p := ⟨g2, a * 2 + 1, none⟩) (by have := HB2.out.size; simp; omega) (.int .u64 wt))
                   have HT5 := Lib.hid (tab_type (tab_type HT4.out hblk (by decide) (by have := HG2.out; omega) (a * 2) (.int .u64 xu)) (hblk.set_ (a * 2) (.int .u64 xu)) (by decide) (by have := HG2.out; omega) (a * 2 + 1) (.int .u64 wt))
                   have HK5 := Lib.hid ((hblk.set_ (a * 2) (.int .u64 xu)).set_ (a * 2 + 1) (.int .u64 wt))
                   have HCU := Lib.hid hcur
                   have HP2 := Lib.hid (strD.pick_any wr.heap.size 48 key (some ⟨g2, 0, none⟩) m cap (putW l a wt) _ HT5.out (by rw [putW, List.length_set, HL.out]) (by omega) (putW_good l a wt (by have := H3.out; omega) H4.out HG.out (by rw [HL.out]; exact ham)) (fun w' ha => by
                     have hk := ha.blk HK5.out (by have := HG2.out; omega)
                     rw [HXU.out] at hk
                     exact row2_put hk (by rw [HL.out]; exact ham) HCU.out))
                   obtain ⟨pb, hpb⟩ := pk_some key (putW l a wt) m a ham (by rw [putW_at l a wt (by rw [HL.out]; exact ham)]; exact H3.out)
                   rw [hpb] at HP2
                   have HPB := Lib.hid hpb
                   clear ho hgr hgb hblk hcur r4 hca hpb)
      clear c0 d0 d1 f0 f1
      refine HP2.out.mono ?_
      rintro e w6 ⟨rfl, ht6, ha6⟩
      have HB6 := Lib.hid (ha6.from HB5.out HB.out.size (Nat.le_refl _))
      have r6 := row2_at (HR.out.below HB6.out) a (by rw [HL.out]; exact ham)
      rw [← HXU.out, ← HXD.out] at r6
      have c1 : w6.cell? ⟨b, off + a * 2 + 1, none⟩ = some (.int .u64 xd) := r6.2
      have t5 : decide ((pa : Int) < 0) = false := decide_eq_false (by omega)
      have t6 : decide ((pb : Int) < 0) = false := decide_eq_false (by omega)
      clear ht6 ha6 r6
      rw [show plc (some pb) = (pb : Int) from rfl]
      by_cases hpp : pa = pb
      · have t7 : ((pa : Int) == (pb : Int)) = true := beq_iff_eq.mpr (by omega)
        clear hpp
        have HAW := Lib.hid (awake_any w6)
        go_wp2_with fail
        refine HAW.out.mono ?_
        rintro e wq ⟨rfl, hbq⟩
        have HZ := Lib.hid (HB6.out.trans (hbq.mono HB6.out.size))
        clear hbq
        go_wp2_with fail
        go_ret
        exact ⟨rfl, HZ.out⟩
      · have t7 : ((pa : Int) == (pb : Int)) = false := beq_eq_false_iff_ne.mpr (by omega)
        have hmv := moves (key := key) m a ham wt HG.out (putW_good l a wt (by have := H3.out; omega) H4.out HG.out (by rw [HL.out]; exact ham)) H5.out H3.out (putW_at l a wt (by rw [HL.out]; exact ham)) (fun i hi => putW_ne l a wt i hi) HD2.out pa pb HPA.out HPB.out hpp
        rw [← HXD.out] at hmv
        by_cases hw : xd < wt
        · have t8 : decide (xd < wt) = true := decide_eq_true hw
          have t9 : ((pb : Int) == (a : Int)) = true := beq_iff_eq.mpr (by have := hmv.1 hw; omega)
          clear hmv hw hpp
          have HAW := Lib.hid (awake_any w6)
          go_wp2_with fail
          refine HAW.out.mono ?_
          rintro e wq ⟨rfl, hbq⟩
          have HZ := Lib.hid (HB6.out.trans (hbq.mono HB6.out.size))
          clear hbq
          go_wp2_with fail
          go_ret
          exact ⟨rfl, HZ.out⟩
        · have t8 : decide (xd < wt) = false := decide_eq_false hw
          have t9 : ((pa : Int) == (a : Int)) = true := beq_iff_eq.mpr (by have := hmv.2 (by omega); omega)
          clear hmv hw hpp
          have HAW := Lib.hid (awake_any w6)
          go_wp2_with fail
          refine HAW.out.mono ?_
          rintro e wq ⟨rfl, hbq⟩
          have HZ := Lib.hid (HB6.out.trans (hbq.mono HB6.out.size))
          clear hbq
          go_wp2_with fail
          go_ret
          exact ⟨rfl, HZ.out⟩
end Go.Proofs.Ytanijccpbleekaa.strH
