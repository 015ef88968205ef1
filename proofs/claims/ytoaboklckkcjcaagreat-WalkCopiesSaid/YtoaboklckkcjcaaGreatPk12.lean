/- 7 texts in one. -/
import Derived.Deep.RegionHeld3
import Derived.Deep.QuietTactic
import Derived.BigQuiet
import Derived.Deep.DeepCutAuto
import Derived.Lib.BitFns
import Derived.Lib.ItoaNum
import Derived.Test.YtoaboklckkcjcaaGreatPk01
import Derived.Test.YtoaboklckkcjcaaGreatPk02
import Derived.Test.YtoaboklckkcjcaaGreatPk04
import Derived.Test.YtoaboklckkcjcaaGreatPk09
import Derived.Test.YtoaboklckkcjcaaGreatPk11
/- Layer 23: the law of EligWeighs. -/
namespace Go.Proofs.YtoaboklckkcjcaaGreat.eliE
open Go.ChangeShapes Go.WideShapes Go.ChangeAt Go.RowKit
open Go.Proofs.YtoaboklckkcjcaaGreat.base Go.Proofs.YtoaboklckkcjcaaGreat.dfA Go.Proofs.YtoaboklckkcjcaaGreat.treA Go.Proofs.YtoaboklckkcjcaaGreat.treB Go.Proofs.YtoaboklckkcjcaaGreat.treC Go.Proofs.YtoaboklckkcjcaaGreat.treD Go.Proofs.YtoaboklckkcjcaaGreat.treE Go.Proofs.YtoaboklckkcjcaaGreat.treG Go.Proofs.YtoaboklckkcjcaaGreat.treH Go.Proofs.YtoaboklckkcjcaaGreat.treI Go.Proofs.YtoaboklckkcjcaaGreat.treM Go.Proofs.YtoaboklckkcjcaaGreat.treN Go.Proofs.YtoaboklckkcjcaaGreat.treW Go.Proofs.YtoaboklckkcjcaaGreat.treP Go.Proofs.YtoaboklckkcjcaaGreat.eliW Go.Proofs.YtoaboklckkcjcaaGreat.eliA Go.Proofs.YtoaboklckkcjcaaGreat.eliB Go.Proofs.YtoaboklckkcjcaaGreat.eliC Go.Proofs.YtoaboklckkcjcaaGreat.eliD
set_option linter.unusedVariables false

theorem wt_in {m : List Nd} {W : Nat → Int} {k : Nat} (hk : k < m.length) : wtOf m W k = W k := by
  unfold wtOf
  rw [isB_nat hk, if_pos rfl, Int.toNat_natCast]
theorem wt_out {m : List Nd} {W : Nat → Int} {i : Int} (h : isB i m.length = false) : wtOf m W i = 0 := by unfold wtOf; rw [h]; rfl
theorem domL_pre (m : List Nd) (W : Nat → Int) (kind : Int) : ∀ n k, k ≤ n → ∃ r, domL m W kind n = domL m W kind k ++ r := by
  intro n
  induction n with
  | zero => intro k hk; have : k = 0 := by omega
            subst this; exact ⟨[], by simp⟩
  | succ n ih =>
    intro k hk
    by_cases e : k = n + 1
    · subst e; exact ⟨[], by simp⟩
    · obtain ⟨r, hr⟩ := ih k (by omega)
      show ∃ r, (if ((ndAt m n).kind == kind && (wtOf m W n != 0)) = true then domL m W kind n ++ [(n : Int)] else domL m W kind n) = _
      split
      · exact ⟨r ++ [(n : Int)], by rw [hr, List.append_assoc]⟩
      · exact ⟨r, hr⟩
theorem domL_hit {m : List Nd} {W : Nat → Int} {kind : Int} {n k : Nat} (hk : k < n) (h : ((ndAt m k).kind == kind && (wtOf m W k != 0)) = true) : (domL m W kind k).length < (domL m W kind n).length ∧ (domL m W kind n)[(domL m W kind k).length]? = some (k : Int) := by
  obtain ⟨r, hr⟩ := domL_pre m W kind n (k + 1) (by omega)
  have h1 : domL m W kind (k + 1) = domL m W kind k ++ [(k : Int)] := by
    show (if ((ndAt m k).kind == kind && (wtOf m W k != 0)) = true then domL m W kind k ++ [(k : Int)] else domL m W kind k) = _
    rw [if_pos h]
  rw [hr, h1]
  constructor
  · rw [List.length_append, List.length_append, List.length_singleton]; omega
  · rw [List.getElem?_append_left (by rw [List.length_append, List.length_singleton]; omega), List.getElem?_append_right (Nat.le_refl _), Nat.sub_self]; rfl
end Go.Proofs.YtoaboklckkcjcaaGreat.eliE
/- Layer 26: a walker in memory, and a step. -/
namespace Go.Proofs.YtoaboklckkcjcaaGreat.walkA
open Go.ChangeShapes Go.WideShapes Go.ChangeAt Go.RowKit
open Go.Proofs.YtoaboklckkcjcaaGreat.base Go.Proofs.YtoaboklckkcjcaaGreat.dfA Go.Proofs.YtoaboklckkcjcaaGreat.treB Go.Proofs.YtoaboklckkcjcaaGreat.treD Go.Proofs.YtoaboklckkcjcaaGreat.treG Go.Proofs.YtoaboklckkcjcaaGreat.treH Go.Proofs.YtoaboklckkcjcaaGreat.treM Go.Proofs.YtoaboklckkcjcaaGreat.treW Go.Proofs.YtoaboklckkcjcaaGreat.eliW Go.Proofs.YtoaboklckkcjcaaGreat.eliA Go.Proofs.YtoaboklckkcjcaaGreat.eliB Go.Proofs.YtoaboklckkcjcaaGreat.eliE Go.Proofs.YtoaboklckkcjcaaGreat.wideG Go.Proofs.YtoaboklckkcjcaaGreat.wideH Go.Proofs.YtoaboklckkcjcaaGreat.strA Go.Proofs.YtoaboklckkcjcaaGreat.onceBw Go.Proofs.YtoaboklckkcjcaaGreat.onceCw Go.Proofs.YtoaboklckkcjcaaGreat.strCw Go.Proofs.YtoaboklckkcjcaaGreat.strDw
set_option linter.unusedVariables false

theorem ownI_nil (w : World) (B : Nat) : OwnI w B (.slice none 0 0) [] := ⟨rfl, .inl ⟨rfl, rfl⟩⟩
theorem ownI_up {w : World} {B B' : Nat} {v : Value} {l : List Int} (h : OwnI w B v l) (hb : B' ≤ B) : OwnI w B' v l := by
  refine ⟨h.1, ?_⟩
  rcases h.2 with h0 | ⟨g, cap, cur, h1, h2, h3⟩
  · exact .inl h0
  · exact .inr ⟨g, cap, cur, h1, Nat.le_trans hb h2, h3⟩
set_option maxHeartbeats 4000000 in
theorem kids_own {w : World} {T : Nat} {l : List Nd} (h : TreeOk w T l) (i : Int) : Calls Tryz.prog 44 #[.pointer (some ⟨T, 0, none⟩), .int .i64 i] w fun o w' => ∃ v, o = .returned v ∧ OwnI w' w.heap.size v (kidsP l i) ∧ Below w.heap.size w w' := by
  obtain ⟨A, c, K, kc, ht⟩ := h.at_
  have HI := Lib.hid (is_any ht i)
  unfold kidsP
  cases hq : isB i l.length with
  | false =>
    rw [hq] at HI
    rw [if_neg (by decide)]
    clear h ht hq
    go_enter Tryz.func44, Tryz.ntmps44
    go_wp2_with fail
    refine HI.out.mono ?_
    rintro o w1 ⟨rfl, hb⟩
    have HB := Lib.hid hb
    clear hb
    go_wp2_with fail
    go_ret
    exact ⟨_, rfl, ownI_nil _ _, HB.out⟩
  | true =>
    rw [hq] at HI
    rw [if_pos rfl]
    obtain ⟨a, rfl, ha⟩ : ∃ a : Nat, i = (a : Int) ∧ a < l.length := by
      unfold isB at hq
      simp only [Bool.and_eq_true, decide_eq_true_eq] at hq
      exact ⟨i.toNat, by omega, by omega⟩
    rw [Int.toNat_natCast]
    have HH := Lib.hid h
    clear hq ht h
    have kle := kidsL_le l l.length a
    obtain ⟨m, hm⟩ : ∃ m, m = kidsL l l.length a := ⟨_, rfl⟩
    have hml : m.length ≤ l.length := hm ▸ kle
    have HM := Lib.hid hm
    rw [← hm]
    obtain ⟨ln, hln⟩ : ∃ ln, ln = l.length := ⟨_, rfl⟩
    have HLN := Lib.hid hln
    have hl := HH.out.len
    rw [← hln] at ha hml hl
    clear hm kle hln
    go_enter Tryz.func44, Tryz.ntmps44
    go_wp2_with fail
    refine HI.out.mono ?_
    rintro o w1 ⟨rfl, hb⟩
    have HB := Lib.hid hb
    obtain ⟨⟨nv, kv, ks, hg⟩, _, _⟩ := HH.out.below hb
    have hkn := hg.kids.1
    rw [← HLN.out] at hg hkn
    obtain ⟨kg, kcap, hkv⟩ : ∃ g cap, kv = .slice (some ⟨g, 0, none⟩) ln cap := by
      have h7 := hg.kids
      rcases h7.2 with ⟨_, h0⟩ | ⟨g, cap, cur, h1, _⟩
      · omega
      · exact ⟨g, cap, h1⟩
    subst hkv
    have hal : a < ks.length := by omega
    have dk : w1.cell? ⟨T, 1, none⟩ = some (.slice (some ⟨kg, 0, none⟩) ln kcap) := hg.tree.cell 1
    have hcap : ln ≤ kcap ∧ kcap ≤ 9223372036854775807 := by
      have h7 := hg.kids
      rcases h7.2 with ⟨h0, _⟩ | ⟨g, cap, cur, h1, _, _, h4, h5, _⟩
      · cases h0
      · injection h1 with _ _ h1
        subst h1
        exact ⟨h4, by unfold maxLen at h5; omega⟩
    obtain ⟨hcap1, hcap2⟩ := hcap
    obtain ⟨u, hu⟩ : ∃ u, ks[a]? = some u := ⟨_, List.getElem?_eq_getElem hal⟩
    have da : w1.cell? ⟨kg, a, none⟩ = some u := by
      have h7 := hg.kids.cellAt a (by omega)
      rw [h7, hu]
    have OU := Lib.hid (show OwnI w1 (T + 1) u m from by have := hg.each a u hu; rw [HLN.out] at this; rwa [← HM.out] at this)
    have j0 : (0 : Int) ≤ a := by omega
    have j1 : (a : Int) < ln := by omega
    clear hb hg hu hkn
    have OU2 := OU.out
    unfold OwnI at OU2
    rcases OU2.2 with ⟨e1, e2⟩ | ⟨g, cap, cur, e1, e2, e3, e4, e5, e6, e7⟩
    · subst e1
      have hm0 : m = [] := List.eq_nil_of_length_eq_zero e2
      have HC := Lib.hid (Go.Proofs.Tryz.slices_Clone_int_nil 0 0 w1)
      clear OU2 e2
      go_wp2_with fail
      refine HC.out.mono ?_
      rintro o w2 ⟨rfl, rfl⟩
      go_wp2_with fail
      go_ret
      exact ⟨_, rfl, by rw [hm0]; exact ownI_nil _ _, HB.out⟩
    · subst e1
      have HC := Lib.hid (Go.Proofs.Tryz.slices_Clone_int g 0 m.length cap m w1 (Nat.le_refl _) (by omega) (fun j hj => by
        rw [Nat.zero_add, OU2.cellAt j (by simpa using hj), List.getElem?_map, List.getElem?_eq_getElem hj, List.getD_eq_getElem?_getD, List.getElem?_eq_getElem hj]
        rfl))
      clear OU2 e2 e3 e6 e7
      go_wp2_with fail
      refine HC.out.mono ?_
      rintro o w2 ⟨v, rfl, ho, _, hb⟩
      have HO := Lib.hid (show OwnI w2 w1.heap.size v m from by unfold OwnI; rw [List.take_of_length_le (Nat.le_refl _)] at ho; exact ho)
      have HB2 := Lib.hid (HB.out.trans (hb.mono HB.out.size))
      clear ho hb
      go_wp2_with fail
      go_ret
      exact ⟨_, rfl, ownI_up HO.out HB.out.size, HB2.out⟩
/-- A walker: its table of straws, its factor, its seed. -/
def WT (fac seed : Int) : TypeId × List Value := (51, [.int .i64 fac, .int .u64 seed])
structure WSt (z : World) (g : Nat) (fac seed : Int) (w : World) : Prop where
  tab : Tab g (WT fac seed) w
  bel : Below z.heap.size z w
  hg : z.heap.size ≤ g
section
variable {z w w' : World} {g : Nat} {fac seed : Int}
theorem WSt.below (h : WSt z g fac seed w) (hb : Below w.heap.size w w') : WSt z g fac seed w' := ⟨tab_below h.tab hb, h.bel.trans (hb.mono h.bel.size), h.hg⟩
theorem WSt.aside (h : WSt z g fac seed w) (ht : Tab g (WT fac seed) w') (ha : AsideG g w w') : WSt z g fac seed w' := ⟨ht, ha.from h.bel h.hg (Nat.le_refl _), h.hg⟩
theorem WSt.lt (h : WSt z g fac seed w) : g < w.heap.size := tab_lt h.tab
theorem WSt.c4 (h : WSt z g fac seed w) : w.cell? ⟨g, 4, none⟩ = some (.int .i64 fac) := by
  rcases h.tab with h | ⟨q, _, h, _⟩
  · exact h.cell 4
  · exact h.cell 4
theorem WSt.c5 (h : WSt z g fac seed w) : w.cell? ⟨g, 5, none⟩ = some (.int .u64 seed) := by
  rcases h.tab with h | ⟨q, _, h, _⟩
  · exact h.cell 5
  · exact h.cell 5
end
/-- What a step picks from. -/
def itemsW (m : List Nd) (W : Nat → Int) (at' : Int) : List (Int × Int) := (kidsP m at').map fun k => (k, wtOf m W k)
def pickL (ks : List Int) (o : Option Nat) : Int := match o with
  | none => -1
  | some j => ks.getD j 0
def stepW (m : List Nd) (W : Nat → Int) (seed key at' : Int) : Int := pickL (kidsP m at') (pk (mixD.ofZ seed [key, IntKind.u64.wrap at']) (itemsW m W at') (itemsW m W at').length)
theorem kidsL_in (l : List Nd) : ∀ (k a : Nat), ∀ x ∈ kidsL l k a, 0 ≤ x ∧ x < (k : Int)
  | 0, a, x, h => by simp [kidsL] at h
  | k + 1, a, x, h => by
    unfold kidsL at h
    split at h
    · rcases List.mem_append.mp h with h | h
      · have := kidsL_in l k a x h
        omega
      · rw [List.mem_singleton.mp h]
        omega
    · have := kidsL_in l k a x h
      omega
theorem kidsP_in {l : List Nd} {i x : Int} (h : x ∈ kidsP l i) : 0 ≤ x ∧ x < (l.length : Int) := by
  unfold kidsP at h
  split at h
  · exact kidsL_in l _ _ x h
  · simp at h
theorem kidsP_len (l : List Nd) (i : Int) : (kidsP l i).length ≤ l.length := by
  unfold kidsP
  split
  · exact kidsL_le l _ _
  · exact Nat.zero_le _
end Go.Proofs.YtoaboklckkcjcaaGreat.walkA
/- Layer 26: a step. -/
namespace Go.Proofs.YtoaboklckkcjcaaGreat.walkB
open Go.ChangeShapes Go.WideShapes Go.ChangeAt Go.RowKit
open Go.Proofs.YtoaboklckkcjcaaGreat.base Go.Proofs.YtoaboklckkcjcaaGreat.dfA Go.Proofs.YtoaboklckkcjcaaGreat.treB Go.Proofs.YtoaboklckkcjcaaGreat.treD Go.Proofs.YtoaboklckkcjcaaGreat.treG Go.Proofs.YtoaboklckkcjcaaGreat.treH Go.Proofs.YtoaboklckkcjcaaGreat.treM Go.Proofs.YtoaboklckkcjcaaGreat.treW Go.Proofs.YtoaboklckkcjcaaGreat.eliW Go.Proofs.YtoaboklckkcjcaaGreat.eliA Go.Proofs.YtoaboklckkcjcaaGreat.eliB Go.Proofs.YtoaboklckkcjcaaGreat.eliE Go.Proofs.YtoaboklckkcjcaaGreat.wideG Go.Proofs.YtoaboklckkcjcaaGreat.wideH Go.Proofs.YtoaboklckkcjcaaGreat.strA Go.Proofs.YtoaboklckkcjcaaGreat.onceBw Go.Proofs.YtoaboklckkcjcaaGreat.onceCw Go.Proofs.YtoaboklckkcjcaaGreat.strCw Go.Proofs.YtoaboklckkcjcaaGreat.strDw Go.Proofs.YtoaboklckkcjcaaGreat.walkA
set_option linter.unusedVariables false

/-- The first j items are put. -/
def ItemsTo (w : World) (q n : Nat) (l : List (Int × Int)) (j : Nat) : Prop := ∃ cur, Blk w q 97 cur ∧ cur.size = n * 2 ∧ ∀ i, i < j → cur[i * 2]? = some (.int .u64 (l.getD i (0, 0)).1) ∧ cur[i * 2 + 1]? = some (.int .u64 (l.getD i (0, 0)).2)
theorem ItemsTo.old {w : World} {q n : Nat} {l : List (Int × Int)} {j : Nat} (h : ItemsTo w q n l j) (k : Nat) (hk : k < n * 2) : (∃ u, w.cell? ⟨q, k, none⟩ = some u) ∧ w.frozen? ⟨q, k, none⟩ = false := by
  obtain ⟨cur, h1, h2, _⟩ := h
  exact ⟨⟨cur[k]'(by omega), by rw [h1.cell k, Array.getElem?_eq_getElem (by omega)]⟩, h1.frozen k⟩
theorem ItemsTo.next {w : World} {q n : Nat} {l : List (Int × Int)} {j : Nat} (h : ItemsTo w q n l j) (hj : j < n) : ItemsTo ((w.setCell ⟨q, j * 2, none⟩ (.int .u64 (l.getD j (0, 0)).1)).setCell ⟨q, j * 2 + 1, none⟩ (.int .u64 (l.getD j (0, 0)).2)) q n l (j + 1) := by
  obtain ⟨cur, h1, h2, h3⟩ := h
  refine ⟨_, (h1.set_ (j * 2) _).set_ (j * 2 + 1) _, by simpa using h2, fun i hi => ?_⟩
  by_cases e : i = j
  · subst e
    exact ⟨by rw [Array.getElem?_setIfInBounds_ne (by omega), Array.getElem?_setIfInBounds_self_of_lt (by omega)], by rw [Array.getElem?_setIfInBounds_self_of_lt (by simp; omega)]⟩
  · have := h3 i (by omega)
    exact ⟨by rw [Array.getElem?_setIfInBounds_ne (by omega), Array.getElem?_setIfInBounds_ne (by omega)]; exact this.1, by rw [Array.getElem?_setIfInBounds_ne (by omega), Array.getElem?_setIfInBounds_ne (by omega)]; exact this.2⟩
theorem ItemsTo.drewN {w : World} {q n : Nat} {l : List (Int × Int)} {j : Nat} (h : ItemsTo w q n l j) (k : Nat) : ItemsTo (w.drewN k) q n l j := h
theorem ItemsTo.row {w : World} {q n : Nat} {l : List (Int × Int)} (h : ItemsTo w q n l n) (hl : l.length = n) : Row2 w w.heap.size (some ⟨q, 0, none⟩) l := by
  obtain ⟨cur, h1, h2, h3⟩ := h
  refine .inr ⟨q, 0, rfl, h1.lt, fun i hi => ?_⟩
  have := h3 i (by omega)
  rw [Nat.zero_add, h1.cell, h1.cell]
  exact this
theorem ItemsTo.aside {w w' : World} {g q n : Nat} {l : List (Int × Int)} {j : Nat} (h : ItemsTo w q n l j) (ha : AsideG g w w') (hq : q ≠ g) : ItemsTo w' q n l j := by
  obtain ⟨cur, h1, h2, h3⟩ := h
  exact ⟨cur, ha.blk h1 hq, h2, h3⟩
theorem info_item : (Tryz.prog.info? 97).map (fun i => (i.zero, i.size, i.bytes)) = some (some (.agg #[.int .u64 0, .int .u64 0]), 2, 16) := by kernel_rfl
/-- What a walker's call comes to. -/
def WPost (z : World) (g : Nat) (fac seed : Int) (v : Value) (w : World) (o : Ending) (w' : World) : Prop := o = .returned v ∧ WSt z g fac seed w' ∧ AsideG g w w'
set_option maxHeartbeats 8000000 in
set_option maxRecDepth 100000 in
theorem step_any {z w : World} {g S T q0 : Nat} {fac seed : Int} {m : List Nd} {W : Nat → Int} (hs : SetOk z S T q0 m W) (h : WSt z g fac seed w) (hW : ∀ i, 0 ≤ W i ∧ W i < 18446744073709551616) (at' key : Int) :
    Calls Tryz.prog 13 #[.pointer (some ⟨g, 0, none⟩), .pointer (some ⟨S, 0, none⟩), .int .i64 at', .int .u64 key] w (WPost z g fac seed (.int .i64 (stepW m W seed key at')) w) := by
  have HS := Lib.hid (show ∀ V, Below z.heap.size z V → SetOk V S T q0 m W from fun V hV => hs.below hV)
  have HW := Lib.hid h
  have d0 : w.cell? ⟨S, 0, none⟩ = some (.pointer (some ⟨T, 0, none⟩)) := (HS.out w h.bel).set.cell 0
  have HKI := Lib.hid (kids_own (HS.out w h.bel).tree at')
  have HIN := Lib.hid (fun x (hx : x ∈ kidsP m at') => kidsP_in hx)
  have hkl := kidsP_len m at'
  have hm := (HS.out w h.bel).tree.len
  obtain ⟨ks, hks⟩ : ∃ ks, ks = kidsP m at' := ⟨_, rfl⟩
  obtain ⟨it, hit⟩ : ∃ it, it = itemsW m W at' := ⟨_, rfl⟩
  have HIT := Lib.hid (show it = ks.map (fun k => (k, wtOf m W k)) from by rw [hit, hks]; rfl)
  obtain ⟨n, hn⟩ : ∃ n, n = ks.length := ⟨_, rfl⟩
  have hitl : it.length = n := by rw [HIT.out, List.length_map, hn]
  obtain ⟨mk, hmk⟩ : ∃ mk, mk = mixD.ofZ seed [key, IntKind.u64.wrap at'] := ⟨_, rfl⟩
  have HP := Lib.hid (show stepW m W seed key at' = pickL ks (pk mk it n) from by unfold stepW; rw [← hit, ← hks, hitl, hmk])
  have HITL := Lib.hid hitl
  have HN := Lib.hid hn
  have HMK := Lib.hid hmk
  have HGD := Lib.hid (show ∀ i, good (it.getD i (0, 0)) from fun i => by
    rw [HIT.out, List.getD_eq_getElem?_getD, List.getElem?_map]
    rcases hx : ks[i]? with _ | x
    · show good (0, 0)
      exact ⟨⟨by decide, by decide⟩, by decide, by decide⟩
    · have hin := HIN.out x (hks ▸ List.mem_of_getElem? hx)
      refine ⟨⟨hin.1, by have := hin.2; show x < _; omega⟩, ?_⟩
      show 0 ≤ wtOf m W x ∧ wtOf m W x < _
      unfold wtOf
      split
      · exact hW _
      · exact ⟨by decide, by decide⟩)
  have hn1 : n ≤ 1000 := by rw [hn, hks]; omega
  rw [← hks] at HKI HIN
  obtain ⟨res, hres⟩ : ∃ res, res = stepW m W seed key at' := ⟨_, rfl⟩
  rw [← hres] at HP ⊢
  have hg := h.lt
  clear hs h hW hks hit hitl hn hmk hres hkl hm
  go_enter Tryz.func13, Tryz.ntmps13
  go_wp2_with fail
  refine HKI.out.mono ?_
  rintro o w1 ⟨v1, rfl, ho1, hb1⟩
  have HB1 := Lib.hid hb1
  have HO1 := Lib.hid ho1
  have HW1 := Lib.hid (HW.out.below hb1)
  obtain ⟨i0, hi0, hz0, hz1, hz2⟩ := info_parts info_item
  have hmk := run_make (P := Tryz.prog) w1 95 97 i0 _ Tryz.underlying95 hi0 hz0 .i64 .i64 (n : Int) (n : Int) (by omega) (Int.le_refl _) (by rw [hz2]; omega) (by omega)
  rw [Int.toNat_natCast, hz1] at hmk
  obtain ⟨AK, cK, hv1⟩ := own_slice ho1
  rw [← HN.out] at hv1
  subst hv1
  have hrow := own_row (show w1.ownsRow w.heap.size 3 1 (.slice AK n cK) n (ks.map (.int .i64)) from by have := ho1; unfold OwnI at this; rwa [← HN.out] at this)
  obtain ⟨q, hq⟩ : ∃ q, q = w1.heap.size := ⟨_, rfl⟩
  have HQ := Lib.hid hq
  obtain ⟨MC, hMC⟩ : ∃ MC, MC = madeCells (Value.agg #[.int .u64 0, .int .u64 0]).cells (n * 2) := ⟨_, rfl⟩
  have HI0 := Lib.hid (show ItemsTo (w1.alloc (.cells MC 97)) q n it 0 from ⟨MC, hq ▸ Blk.new w1 _ _, by rw [hMC, size_madeCells], fun i hi => by omega⟩)
  rw [← hMC, ← hq] at hmk
  have HROW := Lib.hid hrow
  have HOK := Lib.hid (show w1.ownsRow w.heap.size 3 1 (.slice AK n cK) n (ks.map (.int .i64)) from by have := ho1; unfold OwnI at this; rwa [← HN.out] at this)
  have HA := Lib.hid (show Below w1.heap.size w1 (w1.alloc (.cells MC 97)) from (Below.refl _ _).alloc (Nat.le_refl _) _)
  clear hi0 hz0 hz1 hz2 hb1 ho1 hrow hq hMC d0
  go_wp2_with fail
  clear hmk
  go_loopw [31] (fun i wr => ∃ (j : Nat), j ≤ n ∧ i = .int .i64 j ∧ Hid (Below w1.heap.size w1 wr) ∧ Hid (ItemsTo wr q n it j)) (fun i _ => n - (intOf i).toNat)
  case atStart => exact ⟨0, by omega, rfl, HA, HI0⟩
  case round =>
    obtain ⟨j, hj, rfl, HB, HIj⟩ := hrel
    have HWr := Lib.hid (HW1.out.below HB.out)
    have hsr := HS.out wr HWr.out.bel
    by_cases hlt : j < n
    · have hjk : j < ks.length := HN.out ▸ hlt
      have hrj := HROW.out.below HB.out
      obtain ⟨b, off, hA, hbl, hc⟩ := hrj.at_ (by intro e; rw [List.map_eq_nil_iff] at e; rw [e] at hjk; simp at hjk)
      subst hA
      have ck : wr.cell? ⟨b, off + j, none⟩ = some (.int .i64 ks[j]) := hc j _ (by rw [List.getElem?_map, List.getElem?_eq_getElem hjk]; rfl)
      have hin := HIN.out ks[j] (List.getElem_mem hjk)
      have HX := Lib.hid (show it.getD j (0, 0) = (ks[j], wtOf m W ks[j]) from by rw [HIT.out, List.getD_eq_getElem?_getD, List.getElem?_map, List.getElem?_eq_getElem hjk]; rfl)
      have HNX := Lib.hid (fun k => (HIj.out.drewN k).next hlt)
      obtain ⟨⟨u1, o1⟩, f1⟩ := HIj.out.old (j * 2) (by omega)
      obtain ⟨⟨u2, o2⟩, f2⟩ := HIj.out.old (j * 2 + 1) (by omega)
      obtain ⟨kd, hkd⟩ : ∃ kd, kd = ks[j] := ⟨_, rfl⟩
      rw [← hkd] at ck hin HX
      have HWT := Lib.hid (weight_x hsr kd)
      obtain ⟨wt, hwt⟩ : ∃ wt, wt = wtOf m W kd := ⟨_, rfl⟩
      rw [← hwt] at HWT HX
      rw [HX.out] at HNX
      have hlm := hsr.tree.len
      have hcv : IntKind.u64.wrap kd = kd := by rw [IntKind.wrap_u64]; omega
      have j0 : (0 : Int) ≤ j := by omega
      have j1 : (j : Int) < n := by omega
      have qb : w1.heap.size ≤ q := by rw [HQ.out]; exact Nat.le_refl _
      clear hrj hbl hc hin hkd hwt hjk hsr hlm
      go_wp2_with fail
      refine HWT.out.mono ?_
      rintro o w2 ⟨rfl, nq, rfl⟩
      have HB2 := Lib.hid (show Below w1.heap.size w1 (((wr.drewN nq).setCell ⟨q, j * 2, none⟩ (.int .u64 kd)).setCell ⟨q, j * 2 + 1, none⟩ (.int .u64 wt)) from ((below_drewN HB.out nq).setCell qb _).setCell qb _)
      have HI2 := Lib.hid (HNX.out nq)
      go_wp2_with fail
      go_roundw
      case rel => exact ⟨j + 1, by omega, by go_num, HB2, HI2⟩
      case measure => simp [intOf]; omega
    · obtain rfl : n = j := by omega
      obtain ⟨a', ha'⟩ : ∃ a', a' = IntKind.u64.wrap at' := ⟨_, rfl⟩
      have hcv : IntKind.u64.wrap at' = a' := ha'.symm
      have HMK2 := Lib.hid (show mk = mixD.ofZ seed [key, a'] from ha' ▸ HMK.out)
      have c5 : wr.drew.cell? ⟨g, 5, none⟩ = some (.int .u64 seed) := HWr.out.c5
      obtain ⟨W1, hW1⟩ : ∃ W1, W1 = (wr.alloc (.cells #[.int .u64 key, .int .u64 a'] 24)).drew := ⟨_, rfl⟩
      have hb1 : Below wr.heap.size wr W1 := hW1 ▸ ((Below.refl wr.heap.size wr).alloc (Nat.le_refl _) _).drew
      have hrr : Row W1 W1.heap.size (some ⟨wr.heap.size, 0, none⟩) ([key, a'].map (.int .u64)) := .inr ⟨wr.heap.size, 0, rfl, by rw [hW1]; simp, fun i u hu => by
        rw [Nat.zero_add, hW1, World.cell?_drew, (Blk.new wr 24 #[.int .u64 key, .int .u64 a']).cell i, ← hu, ← Array.getElem?_toList]
        rfl⟩
      have HM := Lib.hid (mixD.of_any seed _ 2 2 [key, a'] _ _ rfl (by omega) hrr)
      rw [← HMK2.out] at HM
      have HWW := Lib.hid (HWr.out.below hb1)
      have hqg : q ≠ g := by have := HW1.out.lt; have := HQ.out; omega
      have hIW : ItemsTo W1 q n it n := by
        obtain ⟨cur, x1, x2, x3⟩ := HIj.out
        exact ⟨cur, x1.below hb1 x1.lt, x2, x3⟩
      have HPK := Lib.hid (strDw.pick_any g (WT fac seed) mk (some ⟨q, 0, none⟩) n n it W1 HWW.out.tab HITL.out hn1 HGD.out (fun w' ha => (hIW.aside ha hqg).row HITL.out))
      have c5' : W1.cell? ⟨g, 5, none⟩ = some (.int .u64 seed) := HWW.out.c5
      have HW1' := Lib.hid hW1
      have HA1 := Lib.hid (((AsideG.refl g w1).below HB.out).below hb1)
      have c6 : (wr.alloc (.cells #[.int .u64 key, .int .u64 a'] 24)).drew.cell? ⟨g, 5, none⟩ = some (.int .u64 seed) := hW1 ▸ c5'
      clear ha' hb1 hrr hW1 hIW hsr
      go_wp2_with fail
      go_region_held3 (fun w' => w'.cell? ⟨g, 5, none⟩ = some (.int .u64 seed)) (first | with_reducible assumption)
        (first
          | (go_at_call 46; rw [← HW1'.out]; (with_reducible refine HM.out.mono ?_); rintro e w' ⟨rfl, rfl⟩)
          | (go_at_call 45; (with_reducible refine HPK.out.mono ?_)
             rintro e w5 ⟨rfl, ht5, ha5⟩
             have HA5 := Lib.hid (HA1.out.trans ha5)
             have HW5 := Lib.hid (HWW.out.aside ht5 ha5)
             have c7 : w5.cell? ⟨g, 5, none⟩ = some (.int .u64 seed) := HW5.out.c5
             clear ht5 ha5))
      have HAW := Lib.hid (((AsideG.refl g w).below HB1.out).trans HA5.out)
      rcases hpk : pk mk it n with _ | p
      · have HRS := Lib.hid (show res = -1 from by rw [HP.out, hpk]; rfl)
        rw [show plc none = -1 from rfl]
        clear hpk c5 c5' c6 c7
        go_wp2_with fail
        go_ret
        exact ⟨by rw [HRS.out]; rfl, HW5.out, HAW.out⟩
      · have hpn := (pk_lt mk it n p hpk).1
        have HRS := Lib.hid (show res = ks.getD p 0 from by rw [HP.out, hpk]; rfl)
        rw [show plc (some p) = (p : Int) from rfl]
        obtain ⟨gk, ck, hvk, hgk, hgl, _, _, hck, _⟩ := own_form HOK.out (by omega)
        injection hvk with hv1 hv2 hv3
        subst hv1 hv3
        have c0 : w1.cell? ⟨gk, p, none⟩ = some (.int .i64 res) := by
          rw [hck p hpn, List.getElem?_map, List.getElem?_eq_getElem (by rw [← HN.out]; exact hpn), HRS.out, List.getD_eq_getElem?_getD, List.getElem?_eq_getElem (by rw [← HN.out]; exact hpn)]
          rfl
        have c1 : w5.cell? ⟨gk, p, none⟩ = some (.int .i64 res) := by
          have hb := HA5.out.block gk hgl (by omega)
          rw [← c0]
          unfold World.cell?
          rw [hb]
        have t1 : ((p : Int) == -1) = false := beq_eq_false_iff_ne.mpr (by omega)
        have p0 : (0 : Int) ≤ p := by omega
        have p1 : (p : Int) < n := by omega
        clear hpk c5 c5' c6 c7 c0 hck
        go_wp2_with fail
        go_ret
        exact ⟨rfl, HW5.out, HAW.out⟩
end Go.Proofs.YtoaboklckkcjcaaGreat.walkB
/- Layer 26: the way down. -/
namespace Go.Proofs.YtoaboklckkcjcaaGreat.walkC
open Go.ChangeShapes Go.WideShapes Go.ChangeAt Go.RowKit
open Go.Proofs.YtoaboklckkcjcaaGreat.base Go.Proofs.YtoaboklckkcjcaaGreat.dfA Go.Proofs.YtoaboklckkcjcaaGreat.treB Go.Proofs.YtoaboklckkcjcaaGreat.treD Go.Proofs.YtoaboklckkcjcaaGreat.treG Go.Proofs.YtoaboklckkcjcaaGreat.treH Go.Proofs.YtoaboklckkcjcaaGreat.treM Go.Proofs.YtoaboklckkcjcaaGreat.treW Go.Proofs.YtoaboklckkcjcaaGreat.eliW Go.Proofs.YtoaboklckkcjcaaGreat.eliA Go.Proofs.YtoaboklckkcjcaaGreat.eliB Go.Proofs.YtoaboklckkcjcaaGreat.eliE Go.Proofs.YtoaboklckkcjcaaGreat.wideG Go.Proofs.YtoaboklckkcjcaaGreat.wideH Go.Proofs.YtoaboklckkcjcaaGreat.strA Go.Proofs.YtoaboklckkcjcaaGreat.onceBw Go.Proofs.YtoaboklckkcjcaaGreat.onceCw Go.Proofs.YtoaboklckkcjcaaGreat.strCw Go.Proofs.YtoaboklckkcjcaaGreat.strDw Go.Proofs.YtoaboklckkcjcaaGreat.walkA Go.Proofs.YtoaboklckkcjcaaGreat.walkB
set_option linter.unusedVariables false

theorem aside_grown {g : Nat} {a b c : World} {row : Option Nat} (h : AsideG g a b) (hg : b.grownBy c row) (hr : ∀ k, row = some k → a.heap.size ≤ k) : AsideG g a c :=
  ⟨hg.os.trans h.os, hg.tape.trans h.tape, hg.output.trans h.output, Nat.le_trans h.size hg.size, fun k h1 h2 => (hg.block k (Nat.lt_of_lt_of_le h1 h.size) (fun e => by have := hr k e.symm; omega)).trans (h.block k h1 h2)⟩
theorem tab_grown {g : Nat} {T : TypeId × List Value} {w w' : World} {B : Nat} {v : Value} {l : List Int} (h : Tab g T w) (ho : OwnI w B v l) (hB : g < B) (hg : w.grownBy w' v.ownBlock) : Tab g T w' := by
  have hne : some g ≠ v.ownBlock := fun e => by have := (ho.lt g e.symm).1; omega
  rcases h with h | ⟨q, h1, h2, h3⟩
  · exact .inl ((hg.block g h.lt hne).trans h)
  · refine .inr ⟨q, h1, (hg.block g h2.lt hne).trans h2, h3.blk (hg.block q h3.lt fun e => ?_)⟩
    obtain ⟨cs, h4, h5, _⟩ := h3
    rcases ho.2 with ⟨e1, _⟩ | ⟨k, cap, cur, e1, e2, e3, _⟩
    · subst e1
      cases e
    · subst e1
      injection e with e
      have e9 : q = k := e
      subst e9
      have := Option.some.inj (h4.symm.trans e3)
      injection this with h6 h7
      exact absurd h7 (by decide)
theorem wst_grown {z w w' : World} {g : Nat} {fac seed : Int} {B : Nat} {v : Value} {l : List Int} (h : WSt z g fac seed w) (ho : OwnI w B v l) (hB : g < B) (hg : w.grownBy w' v.ownBlock) : WSt z g fac seed w' :=
  ⟨tab_grown h.tab ho hB hg, h.bel.grown hg h.bel.size (fun k e => by have := (ho.lt k e).1; have := h.hg; omega), h.hg⟩
theorem kidsL_ab (l : List Nd) : ∀ (k a : Nat), ∀ x ∈ kidsL l k a, ∃ b : Nat, x = (b : Int) ∧ b < k ∧ kidB (l.getD b zNd) a = true
  | 0, a, x, h => by simp [kidsL] at h
  | k + 1, a, x, h => by
    unfold kidsL at h
    split at h
    · rename_i hk
      rcases List.mem_append.mp h with h | h
      · obtain ⟨b, h1, h2, h3⟩ := kidsL_ab l k a x h
        exact ⟨b, h1, by omega, h3⟩
      · exact ⟨k, List.mem_singleton.mp h, by omega, hk⟩
    · obtain ⟨b, h1, h2, h3⟩ := kidsL_ab l k a x h
      exact ⟨b, h1, by omega, h3⟩
theorem ndAt_nat {m : List Nd} {b : Nat} (hb : b < m.length) : ndAt m (b : Int) = m[b] := by
  unfold ndAt isB
  rw [if_pos (by simp; omega), Int.toNat_natCast, List.getD_eq_getElem?_getD, List.getElem?_eq_getElem hb]
  rfl
/-- A kid is one kind below. -/
theorem kidsP_kind {m : List Nd} (hf : Fine m) {a x : Int} (h : x ∈ kidsP m a) : 0 ≤ x ∧ x < (m.length : Int) ∧ (ndAt m x).kind = (ndAt m a).kind + 1 := by
  have hin := kidsP_in h
  refine ⟨hin.1, hin.2, ?_⟩
  unfold kidsP at h
  split at h
  · rename_i hq
    obtain ⟨b, rfl, hb, hk⟩ := kidsL_ab m _ _ x h
    obtain ⟨a', rfl, ha⟩ : ∃ a' : Nat, a = (a' : Int) ∧ a' < m.length := by
      unfold isB at hq
      simp only [Bool.and_eq_true, decide_eq_true_eq] at hq
      exact ⟨a.toNat, by omega, by omega⟩
    rw [Int.toNat_natCast] at hk
    have hgd : m.getD b zNd = m[b] := by rw [List.getD_eq_getElem?_getD, List.getElem?_eq_getElem hb]; rfl
    rw [hgd] at hk
    unfold kidB at hk
    simp only [Bool.and_eq_true, bne_iff_ne, beq_iff_eq] at hk
    obtain ⟨a2, ha2, e1, e2, e3⟩ := hf.sub b hb (by first | exact hk.1 | exact hk.2)
    have e4 : a2 = a' := by
      have : (m[b]).ab = (a' : Int) := by first | exact hk.2 | exact hk.1
      omega
    subst e4
    rw [ndAt_nat hb, ndAt_nat ha]
    omega
  · simp at h
theorem step_kind {m : List Nd} (hf : Fine m) {W : Nat → Int} {seed key a : Int} (h : stepW m W seed key a ≠ -1) : 0 ≤ stepW m W seed key a ∧ stepW m W seed key a < (m.length : Int) ∧ (ndAt m (stepW m W seed key a)).kind = (ndAt m a).kind + 1 := by
  unfold stepW at h ⊢
  rcases hp : pk (mixD.ofZ seed [key, IntKind.u64.wrap a]) (itemsW m W a) (itemsW m W a).length with _ | j
  · rw [hp] at h
    exact absurd rfl h
  · have hj := (pk_lt _ _ _ j hp).1
    have hj2 : j < (kidsP m a).length := by
      have : (itemsW m W a).length = (kidsP m a).length := by unfold itemsW; rw [List.length_map]
      omega
    show 0 ≤ (kidsP m a).getD j 0 ∧ (kidsP m a).getD j 0 < _ ∧ (ndAt m ((kidsP m a).getD j 0)).kind = _
    rw [List.getD_eq_getElem?_getD, List.getElem?_eq_getElem hj2]
    exact kidsP_kind hf (List.getElem_mem hj2)
/-- The way down from a node, of at most so many nodes. -/
def wayF (m : List Nd) (W : Nat → Int) (seed key : Int) : Nat → Int → Option (List Int)
  | 0, _ => none
  | f + 1, a => if ((ndAt m a).kind == 4) = true then some [a] else if stepW m W seed key a = -1 then none else (wayF m W seed key f (stepW m W seed key a)).map (a :: ·)
def downW (m : List Nd) (W : Nat → Int) (seed key a : Int) : List Int := if (wtOf m W a != 0) = true then (wayF m W seed key 4 a).getD [] else []
def DPost (z : World) (g : Nat) (fac seed : Int) (l : List Int) (w : World) (o : Ending) (w' : World) : Prop := ∃ v, o = .returned v ∧ OwnI w' w.heap.size v l ∧ WSt z g fac seed w' ∧ AsideG g w w'
theorem asideB {g : Nat} {a b : World} (h : Below a.heap.size a b) : AsideG g a b := (AsideG.refl g a).below h
theorem own_aside {w w' : World} {g B : Nat} {v : Value} {l : List Int} (h : OwnI w B v l) (ha : AsideG g w w') (hB : g < B) : OwnI w' B v l := h.far fun k hk => ha.block k (h.lt k hk).2 (by have := (h.lt k hk).1; omega)
set_option maxHeartbeats 8000000 in
set_option maxRecDepth 100000 in
theorem down_any {z w : World} {g S T q0 : Nat} {fac seed : Int} {m : List Nd} {W : Nat → Int} (hs : SetOk z S T q0 m W) (h : WSt z g fac seed w) (hW : ∀ i, 0 ≤ W i ∧ W i < 18446744073709551616) (at' key : Int) :
    Calls Tryz.prog 14 #[.pointer (some ⟨g, 0, none⟩), .pointer (some ⟨S, 0, none⟩), .int .i64 at', .int .u64 key] w (DPost z g fac seed (downW m W seed key at') w) := by
  have HS := Lib.hid (show ∀ V, Below z.heap.size z V → SetOk V S T q0 m W from fun V hV => hs.below hV)
  have HF := Lib.hid (fine_of hs.tree.good)
  have HW := Lib.hid h
  have HST := Lib.hid (show ∀ V, WSt z g fac seed V → ∀ a, Calls Tryz.prog 13 #[.pointer (some ⟨g, 0, none⟩), .pointer (some ⟨S, 0, none⟩), .int .i64 a, .int .u64 key] V (WPost z g fac seed (.int .i64 (stepW m W seed key a)) V) from fun V hV a => step_any hs hV hW a key)
  have HHA := Lib.hid (has_x (HS.out w h.bel) at')
  have HR := Lib.hid (show downW m W seed key at' = if (wtOf m W at' != 0) = true then (wayF m W seed key 4 at').getD [] else [] from rfl)
  have HAT := Lib.hid (show (wtOf m W at' != 0) = true → 0 ≤ at' ∧ at' < (m.length : Int) from fun e => by
    unfold wtOf at e
    split at e
    · rename_i hq
      unfold isB at hq
      simp only [Bool.and_eq_true, decide_eq_true_eq] at hq
      omega
    · exact absurd e (by decide))
  obtain ⟨i0, hi0, hz0, hz1, hz2⟩ := info_parts info_i
  have HI0 := Lib.hid hi0
  have HZ0 := Lib.hid hz0
  have HZ1 := Lib.hid hz1
  have HZ2 := Lib.hid hz2
  obtain ⟨res, hres⟩ : ∃ res, res = downW m W seed key at' := ⟨_, rfl⟩
  rw [← hres] at HR ⊢
  obtain ⟨full, hfull⟩ : ∃ full, full = wayF m W seed key 4 at' := ⟨_, rfl⟩
  rw [← hfull] at HR
  have HFU := Lib.hid (show full = (wayF m W seed key 4 at').map ([] ++ ·) from by rw [hfull]; simp)
  have hg := h.lt
  obtain ⟨y, hy⟩ : ∃ y, y = (wtOf m W at' != 0) := ⟨_, rfl⟩
  rw [← hy] at HR HAT HHA
  clear hs h hres hfull hi0 hz0 hz1 hz2 hy hW
  go_enter Tryz.func14, Tryz.ntmps14
  go_wp2_with fail
  refine HHA.out.mono ?_
  rintro o w1 ⟨rfl, nq, rfl⟩
  have HW1 := Lib.hid (HW.out.below (below_n w nq))
  have HA1 := Lib.hid (asideB (g := g) (below_n w nq))
  cases y with
  | false =>
    rw [if_neg (by decide)] at HR
    go_wp2_with fail
    go_ret
    exact ⟨_, rfl, by rw [HR.out]; exact ownI_nil _ _, HW1.out, HA1.out⟩
  | true =>
    rw [if_pos rfl] at HR
    have hat := HAT.out rfl
    have OE := Lib.hid (show OwnI ((w.drewN nq).alloc (.cells #[.int .i64 at'] 3)) w.heap.size (.slice (some ⟨w.heap.size, 0, none⟩) 1 1) [at'] from ⟨rfl, .inr ⟨w.heap.size, 1, #[.int .i64 at'], rfl, Nat.le_refl _, heap_alloc_new (w.drewN nq) _, Nat.le_refl _, by decide, rfl, rfl⟩⟩)
    have WE := Lib.hid (HW1.out.below ((Below.refl _ _).alloc (Nat.le_refl _) (.cells #[.int .i64 at'] 3)))
    have AE := Lib.hid (HA1.out.below ((Below.refl _ _).alloc (Nat.le_refl _) (.cells #[.int .i64 at'] 3)))
    go_wp2_with fail
    go_loopw [2, 9] (fun i v wr => ∃ (a : Int) (l : List Int) (f : Nat), i = .int .i64 a ∧ (0 ≤ a ∧ a < (m.length : Int)) ∧ 5 ≤ (f : Int) + (ndAt m a).kind ∧ l.length + f = 4 ∧ Hid (full = (wayF m W seed key f a).map (l ++ ·)) ∧ Hid (OwnI wr w.heap.size v (l ++ [a])) ∧ Hid (WSt z g fac seed wr) ∧ Hid (AsideG g w wr)) (fun i _ _ => 5 - (ndAt m (intOf i)).kind.toNat)
    case atStart => exact ⟨at', [], 4, rfl, hat, by have := (HF.out.lo at'.toNat (by omega)); have e := ndAt_nat (m := m) (b := at'.toNat) (by omega); rw [Int.toNat_of_nonneg hat.1] at e; rw [e]; omega, rfl, HFU, OE, WE, AE⟩
    case round =>
      obtain ⟨a, l, f, rfl, ha, hf, hl, HE, HO, HWr, HAr⟩ := hrel
      have hhi : (ndAt m a).kind ≤ 4 := by
        have := (HF.out.hi a.toNat (by omega))
        have e := ndAt_nat (m := m) (b := a.toNat) (by omega)
        rw [Int.toNat_of_nonneg ha.1] at e
        rw [e]
        exact this
      obtain ⟨f, rfl⟩ : ∃ f', f = f' + 1 := ⟨f - 1, by omega⟩
      have d0 : wr.cell? ⟨S, 0, none⟩ = some (.pointer (some ⟨T, 0, none⟩)) := (HS.out wr HWr.out.bel).set.cell 0
      have HND := Lib.hid (show Calls Tryz.prog 30 #[.pointer (some ⟨T, 0, none⟩), .int .i64 a] wr fun o w' => o = .returned (.agg (ndAt m a).cells) ∧ Below wr.heap.size wr w' from by
        obtain ⟨A2, c2, K2, kc2, ht2⟩ := (HS.out wr HWr.out.bel).tree.at_
        exact node_any ht2 a)
      have HST1 := Lib.hid (fun w2 (hw : WSt z g fac seed w2) => HST.out w2 hw a)
      have HSK := Lib.hid (fun hb => step_kind HF.out (m := m) (W := W) (seed := seed) (key := key) (a := a) hb)
      have HE2 := HE.out
      unfold wayF at HE2
      obtain ⟨b, hb⟩ : ∃ b, b = stepW m W seed key a := ⟨_, rfl⟩
      rw [← hb] at HST1 HSK HE2
      obtain ⟨e, he⟩ : ∃ e, e = ndAt m a := ⟨_, rfl⟩
      rw [← he] at HND HSK hf hhi HE2
      have HEE := Lib.hid he
      have hfd : ∀ W, (Instr.field 67 (.agg #[.string e.nm, .int .i64 e.kind, .int .i64 e.ab, .int .i64 e.wt, .bool e.v6, .int .u64 e.hi, .int .u64 e.lo]) 1).run Tryz.prog W = .ok (.int .i64 e.kind) W := fun _ => by kernel_rfl
      unfold Nd.cells at HND
      clear he hb
      go_wp2_with fail
      refine HND.out.mono ?_
      rintro o w2 ⟨rfl, hb⟩
      have HW2 := Lib.hid (HWr.out.below hb)
      have HO2 := Lib.hid (HO.out.below hb)
      have HA2 := Lib.hid (HAr.out.below hb)
      clear hb
      cases hk : (e.kind == 4) with
      | true =>
        rw [hk, if_pos rfl] at HE2
        have hkn : (e.kind != 4) = false := by unfold bne; rw [hk]; rfl
        go_wp2_with fail
        go_ret
        exact ⟨_, rfl, by rw [HR.out, HE2]; exact HO2.out, HW2.out, HA2.out⟩
      | false =>
        rw [hk, if_neg (by decide)] at HE2
        have hkn : (e.kind != 4) = true := by unfold bne; rw [hk]; rfl
        go_wp2_with fail
        refine (HST1.out w2 HW2.out).mono ?_
        rintro o w3 ⟨rfl, hw3, ha3⟩
        have HW3 := Lib.hid hw3
        have HO3 := Lib.hid (own_aside HO2.out ha3 hg)
        have HA3 := Lib.hid (HA2.out.trans ha3)
        clear hw3 ha3
        cases hb1 : (b == -1) with
        | true =>
          rw [if_pos (by simpa using hb1)] at HE2
          go_wp2_with fail
          go_ret
          exact ⟨_, rfl, by rw [HR.out, HE2]; exact ownI_nil _ _, HW3.out, HA3.out⟩
        | false =>
          have hbn : b ≠ -1 := by simpa using hb1
          have hsk := HSK.out hbn
          rw [if_neg hbn] at HE2
          have KO2 := Lib.hid (HO3.out.alloc (.cells #[.int .i64 b] 3))
          have KW2 := Lib.hid (HW3.out.below ((Below.refl _ _).alloc (Nat.le_refl _) (.cells #[.int .i64 b] 3)))
          have KA2 := Lib.hid (HA3.out.below ((Below.refl _ _).alloc (Nat.le_refl _) (.cells #[.int .i64 b] 3)))
          have HNE := Lib.hid (show ∀ p u, [Value.int .i64 b][p]? = some u → (w3.alloc (.cells #[.int .i64 b] 3)).cell? ((⟨w3.heap.size, 0, none⟩ : Addr).add p) = some u from fun p u hu => by
            rw [Addr.add_lit, Nat.zero_add, (Blk.new w3 3 #[.int .i64 b]).cell p]
            have h2 : (#[Value.int .i64 b])[p]? = some u := by simpa using hu
            exact h2)
          have H1 := Lib.hid (show ∀ u ∈ [Value.int .i64 (b : Int)], u.oneCell' = true from fun u hu => by simp at hu; subst hu; rfl)
          have P0 : (l ++ [a]).length ≤ 5 := by rw [List.length_append]; simp; omega
          have P1 := Lib.hid (show (l ++ [a]).length + 1 ≤ maxLen by unfold maxLen; omega)
          have P2 := Lib.hid (show ((l ++ [a]).length + 1) * 8 ≤ 140737488355328 by omega)
          have P3 := Lib.hid (show w.heap.size ≤ (w3.alloc (.cells #[.int .i64 b] 3)).heap.size from KA2.out.size)
          go_wp2_with (at_builtin; refine wpList_append_own _ rfl (.tmp 35) (.tmp 37) _ rfl w.heap.size 3 i0 _ 1 8 Tryz.underlying23 HI0.out HZ0.out HZ1.out HZ2.out rfl (by omega) _ (l ++ [a]).length ((l ++ [a]).map (Value.int .i64)) rfl KO2.out ⟨w3.heap.size, 0, none⟩ 1 1 [.int .i64 b] rfl rfl HNE.out H1.out P1.out P2.out P3.out ?_; intro v6 w6 ho hg6 _; have HO6 := Lib.hid (OwnI.snoc (l := l ++ [a]) ho); have HW6 := Lib.hid (wst_grown KW2.out KO2.out hg hg6); have HA6 := Lib.hid (aside_grown KA2.out hg6 (fun k hk => (KO2.out.lt k hk).1)); clear ho hg6)
          go_roundw
          case rel => exact ⟨b, l ++ [a], f, rfl, ⟨hsk.1, hsk.2.1⟩, by omega, by rw [List.length_append]; simp; omega, Lib.hid (by rw [HE2, Option.map_map]; congr 1; funext x; simp), HO6, HW6, HA6⟩
          case measure => simp only [intOf]; rw [hsk.2.2, HEE.out.symm]; omega
end Go.Proofs.YtoaboklckkcjcaaGreat.walkC
/- The arithmetic of a division of two words by one, digit by digit (no walk). -/
namespace Go.Proofs.YtoaboklckkcjcaaGreat.divA
set_option linter.unusedVariables false

/-- A digit's guess and the true digit: q guessed, r what it leaves of u by the high half alone. -/
theorem guess_le {u n y1 y0 q r : Int} (hy : 0 < y1 * 4294967296 + y0) (hu : q * y1 + r = u) (ht : q * y0 ≤ 4294967296 * r + n) : q ≤ (u * 4294967296 + n) / (y1 * 4294967296 + y0) := by
  rw [Int.le_ediv_iff_mul_le hy]
  have e : q * (y1 * 4294967296 + y0) = q * y1 * 4294967296 + q * y0 := by rw [Int.mul_add, Int.mul_assoc]
  rw [e, ← hu]
  generalize q * y1 = p at *
  omega
theorem guess_gt {u n y1 y0 q r : Int} (hy : 0 < y1 * 4294967296 + y0) (hu : q * y1 + r = u) (ht : 4294967296 * r + n < q * y0) : (u * 4294967296 + n) / (y1 * 4294967296 + y0) < q := by
  rw [Int.ediv_lt_iff_lt_mul hy]
  have e : q * (y1 * 4294967296 + y0) = q * y1 * 4294967296 + q * y0 := by rw [Int.mul_add, Int.mul_assoc]
  rw [e, ← hu]
  generalize q * y1 = p at *
  omega
/-- A digit is below the base. -/
theorem digit_lt {u n y : Int} (hu : u < y) (hn : n < 4294967296) (hy : 0 < y) : (u * 4294967296 + n) / y < 4294967296 := by
  rw [Int.ediv_lt_iff_lt_mul hy]
  omega
/-- The loop goes on: the guess was too great. -/
theorem guess_on {u n y1 y0 q r : Int} (hy : 0 < y1 * 4294967296 + y0) (hlt : u < y1 * 4294967296 + y0) (hn : n < 4294967296) (hu : q * y1 + r = u) (ht : 4294967296 ≤ q ∨ 4294967296 * r + n < q * y0) : (u * 4294967296 + n) / (y1 * 4294967296 + y0) ≤ q - 1 := by
  rcases ht with h | h
  · have := digit_lt hlt hn hy
    omega
  · have := guess_gt hy hu h
    omega
/-- The loop is left as the rest is above the base: the guess is the digit. -/
theorem guess_out {u n y1 y0 q r : Int} (hy0 : 0 ≤ y0) (hy9 : y0 < 4294967296) (hy1 : 0 < y1) (hlt : u < y1 * 4294967296 + y0) (hn : 0 ≤ n) (hq : 0 ≤ q) (hu : q * y1 + r = u) (hr : 4294967296 ≤ r) : q ≤ (u * 4294967296 + n) / (y1 * 4294967296 + y0) := by
  have h1 : q * y1 < 4294967296 * y1 := by omega
  have h2 : q < 4294967296 := Int.lt_of_mul_lt_mul_right h1 (by omega)
  refine guess_le (by omega) hu ?_
  have h3 : q * y0 ≤ q * 4294967296 := Int.mul_le_mul_of_nonneg_left (by omega) hq
  omega
/-- Two digits make the quotient. -/
theorem digits {u n1 n0 y q1 : Int} (hy : 0 < y) (h1 : q1 = (u * 4294967296 + n1) / y) :
    q1 * 4294967296 + ((u * 4294967296 + n1 - q1 * y) * 4294967296 + n0) / y = (u * 18446744073709551616 + n1 * 4294967296 + n0) / y ∧
      ((u * 4294967296 + n1 - q1 * y) * 4294967296 + n0) % y = (u * 18446744073709551616 + n1 * 4294967296 + n0) % y := by
  have e : (u * 18446744073709551616 + n1 * 4294967296 + n0) = (u * 4294967296 + n1 - q1 * y) * 4294967296 + n0 + q1 * 4294967296 * y := by
    have e2 : q1 * 4294967296 * y = q1 * y * 4294967296 := by rw [Int.mul_assoc, Int.mul_comm 4294967296 y, ← Int.mul_assoc]
    rw [e2]
    generalize q1 * y = p
    omega
  rw [e]
  constructor
  · rw [Int.add_mul_ediv_right _ _ (by omega), Int.add_comm]
  · rw [Int.add_mul_emod_self_right]
/-- Scaled alike, the quotient stays and what is left is scaled. -/
theorem scaled {a y s : Int} (hs : 0 < s) (hy : 0 < y) : (a * s) / (y * s) = a / y ∧ (a * s) % (y * s) / s = a % y := by
  constructor
  · exact Int.mul_ediv_mul_of_pos_left a y hs
  · rw [Int.mul_comm a s, Int.mul_comm y s, Int.mul_emod_mul_of_pos _ _ hs, Int.mul_ediv_cancel_left _ (by omega)]
end Go.Proofs.YtoaboklckkcjcaaGreat.divA
/- A division's words, shifted until the highest bit of what is divided by stands (no walk). -/
namespace Go.Proofs.YtoaboklckkcjcaaGreat.divB
open Go.Proofs.YtoaboklckkcjcaaGreat.wideB
set_option linter.unusedVariables false

theorem norm_y {y : Nat} (h0 : 0 < y) (h1 : y < 18446744073709551616) : ∃ s : Nat, s ≤ 63 ∧ (64 : Int) - (Lib.bitLen y : Int) = (s : Int) ∧ 9223372036854775808 ≤ y * 2 ^ s ∧ y * 2 ^ s < 18446744073709551616 := by
  obtain ⟨b1, b2, b3⟩ := Lib.bitLenAux_bounds 64 y (by omega) (by omega)
  have e : Lib.bitLen y = Lib.bitLenAux 64 y := rfl
  rw [← e] at b1 b2 b3
  generalize Lib.bitLen y = L at *
  have hL : L ≤ 64 := by
    rcases Nat.lt_or_ge 64 L with h | h
    · have := Nat.pow_le_pow_right (n := 2) (by omega) (show 64 ≤ L - 1 by omega)
      omega
    · exact h
  refine ⟨64 - L, by omega, by omega, ?_, ?_⟩
  · have h2 : 2 ^ (L - 1) * 2 ^ (64 - L) = 9223372036854775808 := by
      rw [← Nat.pow_add, show L - 1 + (64 - L) = 63 by omega]
    rw [← h2]
    exact Nat.mul_le_mul_right _ b2
  · have h2 : 2 ^ L * 2 ^ (64 - L) = 18446744073709551616 := by
      rw [← Nat.pow_add, show L + (64 - L) = 64 by omega]
    rw [← h2]
    exact Nat.mul_lt_mul_of_pos_right b3 (Nat.two_pow_pos _)
theorem lo_high (lo s : Nat) (hs : s ≤ 63) : lo * 2 ^ s / 18446744073709551616 = lo / 2 ^ (64 - s) := by
  have e : 18446744073709551616 = 2 ^ (64 - s) * 2 ^ s := by rw [← Nat.pow_add, show 64 - s + s = 64 by omega]
  rw [e]
  exact Nat.mul_div_mul_right _ _ (Nat.two_pow_pos _)
theorem hi_word (hi lo y s : Nat) (hs : s ≤ 63) (hlo : lo < 18446744073709551616) (hhi : hi < y) (hy : y * 2 ^ s < 18446744073709551616) :
    bits .or .u64 (IntKind.u64.wrap ((hi : Int) * 2 ^ s)) ((lo : Int) / 2 ^ (64 - s)) = (((hi * 18446744073709551616 + lo) * 2 ^ s / 18446744073709551616 : Nat) : Int) ∧
      IntKind.u64.wrap ((lo : Int) * 2 ^ s) = (((hi * 18446744073709551616 + lo) * 2 ^ s % 18446744073709551616 : Nat) : Int) ∧ (hi * 18446744073709551616 + lo) * 2 ^ s / 18446744073709551616 < y * 2 ^ s := by
  have e1 : (hi : Int) * 2 ^ s = ((hi * 2 ^ s : Nat) : Int) := by rw [Int.natCast_mul, Int.natCast_pow]; rfl
  have e2 : (lo : Int) * 2 ^ s = ((lo * 2 ^ s : Nat) : Int) := by rw [Int.natCast_mul, Int.natCast_pow]; rfl
  have e3 : (lo : Int) / 2 ^ (64 - s) = ((lo / 2 ^ (64 - s) : Nat) : Int) := by rw [Int.natCast_ediv, Int.natCast_pow]; rfl
  have hle : (hi + 1) * 2 ^ s ≤ y * 2 ^ s := Nat.mul_le_mul_right _ hhi
  rw [Nat.add_mul, Nat.one_mul] at hle
  have hlow : lo / 2 ^ (64 - s) < 2 ^ s := by
    rw [Nat.div_lt_iff_lt_mul (Nat.two_pow_pos _), ← Nat.pow_add, show s + (64 - s) = 64 by omega]
    exact hlo
  have hsplit : (hi * 18446744073709551616 + lo) * 2 ^ s = hi * 2 ^ s * 18446744073709551616 + lo * 2 ^ s := by
    rw [Nat.add_mul, Nat.mul_assoc, Nat.mul_comm 18446744073709551616, ← Nat.mul_assoc]
  have hq : (hi * 18446744073709551616 + lo) * 2 ^ s / 18446744073709551616 = hi * 2 ^ s + lo / 2 ^ (64 - s) := by
    rw [hsplit, Nat.add_comm, Nat.add_mul_div_right _ _ (by omega), lo_high lo s hs, Nat.add_comm]
  have hr : (hi * 18446744073709551616 + lo) * 2 ^ s % 18446744073709551616 = lo * 2 ^ s % 18446744073709551616 := by
    rw [hsplit, Nat.add_comm, Nat.add_mul_mod_self_right]
  rw [hq, hr, e1, e2, e3]
  have hor : hi * 2 ^ s ||| lo / 2 ^ (64 - s) = hi * 2 ^ s + lo / 2 ^ (64 - s) := by
    rw [← Nat.shiftLeft_eq, ← Nat.shiftLeft_add_eq_or_of_lt hlow]
  generalize hi * 2 ^ s = a at *
  generalize lo * 2 ^ s = b at *
  generalize lo / 2 ^ (64 - s) = d at *
  generalize 2 ^ s = p at *
  refine ⟨?_, ?_, by omega⟩
  · have ew : IntKind.u64.wrap (a : Int) = (a : Int) := by rw [IntKind.wrap_u64]; omega
    rw [ew, u64_or _ _ (by omega) (by omega) (by omega) (by omega), Int.toNat_natCast, Int.toNat_natCast, hor]
  · rw [IntKind.wrap_u64]
    omega
end Go.Proofs.YtoaboklckkcjcaaGreat.divB
/- math/bits.Div64. -/
namespace Go.Proofs.YtoaboklckkcjcaaGreat.divC
open Go.ChangeShapes Go.WideShapes Go.ChangeAt Go.RowKit
open Go.Proofs.YtoaboklckkcjcaaGreat.base Go.Proofs.YtoaboklckkcjcaaGreat.divA Go.Proofs.YtoaboklckkcjcaaGreat.divB Go.Proofs.YtoaboklckkcjcaaGreat.mixB
set_option linter.unusedVariables false

theorem div64_small (lo y : Int) (l0 : 0 ≤ lo) (l1 : lo < 18446744073709551616) (y0 : 0 < y) (y1 : y < 18446744073709551616) (w : World) :
    Calls Tryz.prog 114 #[.int .u64 0, .int .u64 lo, .int .u64 y] w fun e w' => e = .returned (.tuple #[.int .u64 (lo / y), .int .u64 (lo % y)]) ∧ Below w.heap.size w w' := by
  have f1 : (y == 0) = false := by simp; omega
  have f2 : decide (y ≤ 0) = false := by simp; omega
  go_enter Tryz.func114, Tryz.ntmps114
  go_wp2_with fail
  go_region
  go_wp2_with fail
  go_returns
  exact ⟨rfl, by go_grown⟩

end Go.Proofs.YtoaboklckkcjcaaGreat.divC
