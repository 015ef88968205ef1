/- 4 texts in one. -/
import Derived.Laws.IdiomCopy
import Derived.Test.YtoaboklckkcjcaaGreatPk03
import Derived.Test.YtoaboklckkcjcaaGreatPk09
import Derived.Test.YtoaboklckkcjcaaGreatPk10
import Derived.Test.YtoaboklckkcjcaaGreatPk11
import Derived.Test.YtoaboklckkcjcaaGreatPk18
import Derived.Test.YtoaboklckkcjcaaGreatPk20
/- Layer 26: ways from a level, and hosts, as one host weighs otherwise, in plain words. -/
namespace Go.Proofs.YtoaboklckkcjcaaGreat.walkV
open Go.ChangeShapes Go.WideShapes Go.ChangeAt Go.RowKit
open Go.Proofs.YtoaboklckkcjcaaGreat.base Go.Proofs.YtoaboklckkcjcaaGreat.dfA Go.Proofs.YtoaboklckkcjcaaGreat.treB Go.Proofs.YtoaboklckkcjcaaGreat.treD Go.Proofs.YtoaboklckkcjcaaGreat.treG Go.Proofs.YtoaboklckkcjcaaGreat.treH Go.Proofs.YtoaboklckkcjcaaGreat.treE Go.Proofs.YtoaboklckkcjcaaGreat.treC Go.Proofs.YtoaboklckkcjcaaGreat.treM Go.Proofs.YtoaboklckkcjcaaGreat.treW Go.Proofs.YtoaboklckkcjcaaGreat.eliW Go.Proofs.YtoaboklckkcjcaaGreat.eliB Go.Proofs.YtoaboklckkcjcaaGreat.eliG Go.Proofs.YtoaboklckkcjcaaGreat.walkA Go.Proofs.YtoaboklckkcjcaaGreat.walkC Go.Proofs.YtoaboklckkcjcaaGreat.walkE Go.Proofs.YtoaboklckkcjcaaGreat.walkD Go.Proofs.YtoaboklckkcjcaaGreat.walkG Go.Proofs.YtoaboklckkcjcaaGreat.walkL Go.Proofs.YtoaboklckkcjcaaGreat.walkM Go.Proofs.YtoaboklckkcjcaaGreat.walkN Go.Proofs.YtoaboklckkcjcaaGreat.walkS Go.Proofs.YtoaboklckkcjcaaGreat.walkT
set_option linter.unusedVariables false

/-- All that is asked of nodes and of the same nodes with another weight of the host h. -/
structure Two (h : Nat) (m n : List Nd) (H : List Int) : Prop where
  hf : Fine m
  hn : Fine n
  hh : Heavy m
  hg : Heavy n
  m60 : m.length ≤ 60
  L : Like h m n
  hm : h < m.length
  h4 : (ndAt m h).kind = 4
  hx : (ndAt m h).wt ≠ 0
  hy : (ndAt n h).wt ≠ 0
  hp : F m H h ≠ 0
section
variable {h : Nat} {m n : List Nd} {H : List Int}
theorem Two.symm (t : Two h m n H) : Two h n m H := ⟨t.hn, t.hf, t.hg, t.hh, by rw [t.L.len]; exact t.m60, t.L.symm, by rw [t.L.len]; exact t.hm, by rw [t.L.kind]; exact t.h4, t.hy, t.hx, (zero_like t.hf t.hn t.hh t.hg t.L t.hx t.hy H t.hm).mpr t.hp⟩
theorem Two.zero (t : Two h m n H) {i : Nat} (hi : i < m.length) : F n H i ≠ 0 ↔ F m H i ≠ 0 := zero_like t.hf t.hn t.hh t.hg t.L t.hx t.hy H hi
theorem Two.wtz (t : Two h m n H) (i : Int) : (wtOf n (F n H) i != 0) = (wtOf m (F m H) i != 0) := by
  unfold wtOf
  rw [t.L.len]
  cases hq : isB i m.length with
  | false => rfl
  | true =>
    obtain ⟨b, rfl, hb⟩ := isB_of hq
    rw [if_pos rfl, if_pos rfl, Int.toNat_natCast]
    have := t.zero hb
    by_cases e : F m H b = 0
    · have e2 : F n H b = 0 := Decidable.not_not.mp fun x => (this.mp x) e
      rw [e, e2]
    · have e2 : F n H b ≠ 0 := this.mpr e
      rw [bne_iff_ne.mpr e, bne_iff_ne.mpr e2]
theorem way_two (t : Two h m n H) (hle : (ndAt m h).wt ≤ (ndAt n h).wt) (seed key : Int) (f : Nat) {a : Nat} (ha : a < m.length) (hk : 5 ≤ (f : Int) + (ndAt m a).kind) (hz : F m H a ≠ 0) :
    ((wayF m (F m H) seed key f a).getD []).length = ((wayF n (F n H) seed key f a).getD []).length ∧ Parted m h ((wayF m (F m H) seed key f a).getD []) ((wayF n (F n H) seed key f a).getD []) := by
  obtain ⟨l, l', e1, e2, hP⟩ := walkT.ways t.hf t.hn t.hh t.hg t.m60 t.L t.hm t.h4 t.hx t.hy hle H t.hp seed key f a ha hk hz
  have l1 := way_len t.hf _ _ _ e1
  have l2 := way_len t.hn _ _ _ e2
  rw [t.L.kind] at l2
  rw [e1, e2, Option.getD_some, Option.getD_some]
  exact ⟨by omega, hP⟩
theorem down_f (m : List Nd) (W : Nat → Int) (seed key a : Int) (f : Nat) (hf : f = 4) : downW m W seed key a = if (wtOf m W a != 0) = true then (wayF m W seed key f a).getD [] else [] := by
  subst hf
  rfl
theorem ite_two {x : Bool} {l l' : List Int} {P : List Int → List Int → Prop} (h0 : P [] []) (h1 : x = true → P l l') : P (if x = true then l else []) (if x = true then l' else []) := by
  cases x with
  | false => exact h0
  | true => exact h1 rfl
theorem down_two (t : Two h m n H) (hle : (ndAt m h).wt ≤ (ndAt n h).wt) (seed key : Int) {a : Nat} (ha : a < m.length) (hk : (ndAt m a).kind = 1) :
    (downW m (F m H) seed key a).length = (downW n (F n H) seed key a).length ∧ Parted m h (downW m (F m H) seed key a) (downW n (F n H) seed key a) := by
  obtain ⟨f, hf⟩ : ∃ f : Nat, f = 4 := ⟨4, rfl⟩
  have hz := t.wtz (a : Int)
  rw [down_f m (F m H) seed key a f hf, down_f n (F n H) seed key a f hf, hz]
  refine ite_two (P := fun l l' => l.length = l'.length ∧ Parted m h l l') ⟨rfl, .inl rfl⟩ fun hq => ?_
  rw [wt_nat ha] at hq
  exact way_two t hle seed key f ha (by omega) (bne_iff_ne.mp hq)
theorem parted_like (t : Two h m n H) {l l' : List Int} (hP : Parted n h l l') : Parted m h l l' := by
  rcases hP with e | ⟨k, p, q, r, a1, a2, a3, a4, a5, a6, a7, a8, a9, a10, a11, a12, a13, a14, a15, a16⟩
  · exact .inl e
  · rw [t.L.len] at a3 a4 a5
    rw [belU_like t.L] at a12 a13 a14
    rw [t.L.kind] at a11 a15 a16
    refine .inr ⟨k, p, q, r, a1, a2, a3, a4, a5, a6, a7, a8, a9, a10, a11, a12, a13, a14, fun hk => ?_, a16⟩
    have hne : q ≠ h := fun e => by subst e; exact hk t.h4
    rw [← t.L.wt _ (by omega)]
    exact a15 hk
/-- The way that goes on towards the host, and the other one. -/
def toL (m n : List Nd) (h : Nat) (l l' : List Int) : List Int := if (ndAt n h).wt < (ndAt m h).wt then l else l'
theorem down_way (t : Two h m n H) (seed key : Int) {a : Nat} (ha : a < m.length) (hk : (ndAt m a).kind = 1) :
    (downW m (F m H) seed key a).length = (downW n (F n H) seed key a).length ∧ Parted m h (toL m n h (downW n (F n H) seed key a) (downW m (F m H) seed key a)) (toL m n h (downW m (F m H) seed key a) (downW n (F n H) seed key a)) := by
  unfold toL
  by_cases e : (ndAt n h).wt < (ndAt m h).wt
  · rw [if_pos e, if_pos e]
    have h1 := down_two t.symm (by omega) seed key (a := a) (by rw [t.L.len]; exact ha) (by rw [t.L.kind]; exact hk)
    exact ⟨h1.1.symm, parted_like t h1.2⟩
  · rw [if_neg e, if_neg e]
    exact down_two t (by omega) seed key ha hk
/-- What two ways tell that have their first k in common, and no more. -/
theorem parted_at {l l' : List Int} {k : Nat} (hP : Parted m h l l') (hl : l.length = l'.length) (hs : IsSpl l l' k ∨ IsSpl l' l k) (hk : k ≠ l.length) :
    ∃ p q r : Nat, 1 ≤ k ∧ k < l.length ∧ p < m.length ∧ q < m.length ∧ r < m.length ∧ l'[k - 1]? = some (p : Int) ∧ l'[k]? = some (q : Int) ∧ l[k]? = some (r : Int) ∧ (q ≠ r ∧ (ndAt m q).kind ≠ 1) ∧ belU m h p = true ∧ belU m h q = true ∧ belU m h r = false ∧ ((ndAt m q).kind ≠ 4 → (ndAt m q).wt = 0) := by
  have hs2 : IsSpl l l' k := by
    rcases hs with hs | hs
    · exact hs
    · exact ⟨hs.lb, hs.la, fun i ha hb hi => (hs.eq i hb ha hi).symm, fun ha hb e => hs.ne hb ha e.symm⟩
  have hkl : k < l.length := by have := hs2.la; omega
  rcases hP with e | ⟨j, p, q, r, a1, a2, a3, a4, a5, a6, a7, a8, a9, a10, a11, a12, a13, a14, a15, a16⟩
  · subst e
    exact absurd rfl (hs2.ne hkl hkl)
  · have hjl' : j < l'.length := by omega
    have hkj : k = j := by
      rcases Nat.lt_trichotomy k j with h1 | h1 | h1
      · exfalso
        have h2 := a6 k h1
        rw [List.getElem?_eq_getElem hkl, List.getElem?_eq_getElem (by omega)] at h2
        exact hs2.ne hkl (by omega) (Option.some.inj h2)
      · exact h1
      · exfalso
        have h2 := hs2.eq j a2 hjl' h1
        rw [List.getElem?_eq_getElem hjl'] at a9
        rw [List.getElem?_eq_getElem a2, h2] at a10
        have h3 := Option.some.inj a9
        have h4 := Option.some.inj a10
        have : (q : Int) = r := h3.symm.trans h4
        exact a11.1 (by omega)
    subst hkj
    exact ⟨p, q, r, a1, a2, a3, a4, a5, a7, a9, a10, a11, a12, a13, a14, a15⟩
/-- The host's rack and zone. -/
theorem rack_of (hf : Fine m) (hm : h < m.length) (h4 : (ndAt m h).kind = 4) : ∃ a b : Nat, a < m.length ∧ b < m.length ∧ (ndAt m h).ab = (a : Int) ∧ (ndAt m a).ab = (b : Int) ∧ (ndAt m a).kind = 3 ∧ (ndAt m b).kind = 2 := by
  rw [treW.ndAt_nat hm] at h4 ⊢
  obtain ⟨a, ha, e1, _, k1⟩ := hf.sub h hm (by omega)
  obtain ⟨b, hb, e2, _, k2⟩ := hf.sub a ha (by omega)
  exact ⟨a, b, ha, hb, e1, by rw [treW.ndAt_nat ha]; exact e2, by rw [treW.ndAt_nat ha]; omega, by rw [treW.ndAt_nat hb]; omega⟩
theorem bel_is (hf : Fine m) (hm : h < m.length) (h4 : (ndAt m h).kind = 4) {a b q : Nat} (ha : a < m.length) (hb : b < m.length) (e1 : (ndAt m h).ab = (a : Int)) (e2 : (ndAt m a).ab = (b : Int)) (k1 : (ndAt m a).kind = 3) (k2 : (ndAt m b).kind = 2) (hq : q < m.length) (hb' : belU m h q = true) (hk : (ndAt m q).kind ≠ 1) : q = h ∨ q = a ∨ q = b := by
  unfold belU at hb'
  have hu : upF m (ndAt m q).kind (h : Int) = (q : Int) := by simpa using hb'
  have hlo := hf.lo q hq
  have hhi := hf.hi q hq
  rw [← treW.ndAt_nat hq] at hlo hhi
  rw [treW.ndAt_nat hm] at h4 e1
  rw [treW.ndAt_nat ha] at k1 e2
  rw [treW.ndAt_nat hb] at k2
  by_cases c4 : (ndAt m q).kind = 4
  · rw [c4, upF_here 4 hm (by simp [h4])] at hu
    left; omega
  · rw [upF_step hf _ hm (beq_false_of_ne (by omega)), e1] at hu
    by_cases c3 : (ndAt m q).kind = 3
    · rw [c3, upF_here 3 ha (by simp [k1])] at hu
      right; left; omega
    · rw [upF_step hf _ ha (beq_false_of_ne (by omega)), e2] at hu
      have c2 : (ndAt m q).kind = 2 := by omega
      rw [c2, upF_here 2 hb (by simp [k2])] at hu
      right; right; omega
/-! The same nodes with another weight of one. -/
def setWt (m : List Nd) (h : Nat) (wt : Int) : List Nd := m.set h { ndAt m h with wt := wt }
theorem setWt_len (wt : Int) : (setWt m h wt).length = m.length := by unfold setWt; rw [List.length_set]
theorem setWt_at (hm : h < m.length) (wt : Int) : ndAt (setWt m h wt) (h : Int) = { ndAt m h with wt := wt } := by
  rw [treW.ndAt_nat (by rw [setWt_len]; exact hm)]
  unfold setWt
  rw [List.getElem_set_self]
theorem setWt_ne (wt : Int) {i : Int} (hi : i ≠ (h : Int)) : ndAt (setWt m h wt) i = ndAt m i := by
  unfold ndAt
  rw [setWt_len]
  cases hq : isB i m.length with
  | false => rfl
  | true =>
    obtain ⟨b, rfl, hb⟩ := isB_of hq
    rw [if_pos rfl, if_pos rfl, Int.toNat_natCast]
    unfold setWt
    rw [List.getD_eq_getElem?_getD, List.getD_eq_getElem?_getD, List.getElem?_set_ne (by omega)]
theorem setWt_like (hm : h < m.length) (wt : Int) : Like h m (setWt m h wt) := by
  refine ⟨setWt_len wt, fun i => ?_, fun i => ?_, fun i hi => by rw [setWt_ne wt hi]⟩
  · by_cases e : i = (h : Int)
    · subst e; rw [setWt_at hm]
    · rw [setWt_ne wt e]
  · by_cases e : i = (h : Int)
    · subst e; rw [setWt_at hm]
    · rw [setWt_ne wt e]
end
/-! What may be may be with another weight, too. -/
def strip (e : Nd) : Nd := { e with wt := 0 }
theorem setWt_strip (m : List Nd) (h : Nat) (wt : Int) (hm : h < m.length) : (setWt m h wt).map strip = m.map strip := by
  unfold setWt
  rw [List.map_set]
  have e : strip { ndAt m (h : Int) with wt := wt } = (m.map strip)[h]'(by rw [List.length_map]; exact hm) := by
    rw [List.getElem_map, treW.ndAt_nat hm]
    rfl
  rw [e, List.set_getElem_self]
theorem ndAt_strip (P : List Nd) (i : Int) : ndAt (P.map strip) i = strip (ndAt P i) := by
  unfold ndAt
  rw [List.length_map]
  split
  · rw [List.getD_eq_getElem?_getD, List.getD_eq_getElem?_getD, List.getElem?_map]
    cases P[i.toNat]? <;> rfl
  · rfl
theorem hasB_strip (P : List Nd) (n : Nd) : hasB (P.map strip) n = hasB P n := by
  unfold hasB
  rw [List.any_map]
  rfl
theorem ofK_strip (P : List Nd) (kd : Int) (k : Nat) : ofK (P.map strip) kd k = ofK P kd k := by
  unfold ofK
  congr 1
  apply List.filter_congr
  intro x _
  have e : ((P.map strip).getD x zNd).kind = (P.getD x zNd).kind := by
    rw [List.getD_eq_getElem?_getD, List.getD_eq_getElem?_getD, List.getElem?_map]
    cases P[x]? <;> rfl
  rw [e]
theorem whyF_strip (P : List Nd) (n : Nd) : whyF (P.map strip) n = whyF P n := by
  unfold whyF whyZ fullB
  rw [ndAt_strip, hasB_strip, ofK_strip, ofK_strip, List.length_map]
  rfl
theorem whyF_same {P P' : List Nd} (e : P'.map strip = P.map strip) (n : Nd) : whyF P' n = whyF P n := by rw [← whyF_strip P', e, whyF_strip]
theorem whyF_wt {P : List Nd} {n : Nd} (h0 : whyF P n = 0) (h4 : n.kind = 4) (wt : Int) (w0 : 0 ≤ wt) (w1 : wt ≤ 65535) : whyF P { n with wt := wt } = 0 := by
  obtain ⟨nm, kind, ab, wt0, v6, hi, lo⟩ := n
  simp only at h4
  subst h4
  have hh : hasB P ⟨nm, 4, ab, wt, v6, hi, lo⟩ = hasB P ⟨nm, 4, ab, wt0, v6, hi, lo⟩ := rfl
  have e1 : (decide (wt < 0) || decide (65535 < wt) || ((4 : Int) == 1 && !(wt == 0))) = false := by
    rw [decide_eq_false (show ¬ wt < 0 by omega), decide_eq_false (show ¬ 65535 < wt by omega)]
    rfl
  have key : whyZ P ⟨nm, 4, ab, wt, v6, hi, lo⟩ = 0 ∧ ¬ fullB P 4 = true := by
    unfold whyF at h0
    simp only at h0
    by_cases hz : whyZ P ⟨nm, 4, ab, wt0, v6, hi, lo⟩ = 0
    · rw [if_pos hz] at h0
      refine ⟨?_, fun hc => by rw [if_pos hc] at h0; cases h0⟩
      unfold whyZ at hz ⊢
      simp only at hz ⊢
      rw [e1, hh]
      split at hz
      · cases hz
      · rename_i c1
        rw [if_neg c1]
        split at hz
        · cases hz
        · rw [if_neg (by decide)]
          exact hz
    · rw [if_neg hz] at h0
      exact absurd h0 hz
  show (if whyZ P ⟨nm, 4, ab, wt, v6, hi, lo⟩ = 0 then (if fullB P 4 = true then 6 else 0) else whyZ P ⟨nm, 4, ab, wt, v6, hi, lo⟩) = 0
  rw [if_pos key.1, if_neg key.2]
theorem setWt_good {m : List Nd} {h : Nat} (hg : GoodTo m m.length) (hm : h < m.length) (h4 : (ndAt m h).kind = 4) (wt : Int) (w0 : 0 ≤ wt) (w1 : wt ≤ 65535) : GoodTo (setWt m h wt) (setWt m h wt).length := fun j hj hjk => by
  rw [setWt_len] at hj
  have h0 := hg j hj hj
  have ht : ((setWt m h wt).take j).map strip = (m.take j).map strip := by rw [List.map_take, List.map_take, setWt_strip m h wt hm]
  rw [whyF_same ht]
  by_cases e : j = h
  · subst e
    have e2 : (setWt m j wt)[j]'(by rw [setWt_len]; exact hm) = { m[j] with wt := wt } := by
      unfold setWt
      rw [List.getElem_set_self, treW.ndAt_nat hm]
    rw [e2]
    rw [treW.ndAt_nat hm] at h4
    exact whyF_wt h0 h4 wt w0 w1
  · have e2 : (setWt m h wt)[j]'(by rw [setWt_len]; exact hj) = m[j] := by
      unfold setWt
      rw [List.getElem_set_ne (by omega)]
    rw [e2]
    exact h0
theorem setWt_two {m : List Nd} {h : Nat} {H : List Int} (hg : GoodTo m m.length) (m60 : m.length ≤ 60) (hm : h < m.length) (h4 : (ndAt m h).kind = 4) (hp : F m H h ≠ 0) (wt : Int) (w0 : 0 < wt) (w1 : wt ≤ 65535) : Two h m (setWt m h wt) H := by
  have hs := setWt_good hg hm h4 wt (by omega) w1
  refine ⟨fine_of hg, fine_of hs, heavy_of hg, heavy_of hs, m60, setWt_like hm wt, hm, h4, fun e => ?_, by rw [setWt_at hm]; show wt ≠ 0; omega, hp⟩
  have e1 := F_eq (fine_of hg) H hm
  rw [if_pos h4] at e1
  unfold hw0 pkB at e1
  rw [e] at e1
  simp at e1
  exact hp e1
end Go.Proofs.YtoaboklckkcjcaaGreat.walkV
/- Layer 26: the law's above. -/
namespace Go.Proofs.YtoaboklckkcjcaaGreat.walkU
open Go.ChangeShapes Go.WideShapes Go.ChangeAt Go.RowKit
open Go.Proofs.YtoaboklckkcjcaaGreat.base Go.Proofs.YtoaboklckkcjcaaGreat.dfA Go.Proofs.YtoaboklckkcjcaaGreat.treB Go.Proofs.YtoaboklckkcjcaaGreat.treG Go.Proofs.YtoaboklckkcjcaaGreat.treM Go.Proofs.YtoaboklckkcjcaaGreat.treW Go.Proofs.YtoaboklckkcjcaaGreat.treP Go.Proofs.YtoaboklckkcjcaaGreat.eliW Go.Proofs.YtoaboklckkcjcaaGreat.eliA Go.Proofs.YtoaboklckkcjcaaGreat.eliB Go.Proofs.YtoaboklckkcjcaaGreat.eliC
set_option linter.unusedVariables false

set_option maxHeartbeats 8000000 in
theorem above_x {m : List Nd} {A : Option Addr} {c : Nat} {w : World} (hr : RdN w A m) (hcap : m.length ≤ c) (hcap2 : c ≤ 9223372036854775807) (hf : Fine m) {x a : Nat} (hx : x < m.length) (ha : a < m.length) :
    Calls Tryz.prog 33 #[.slice A m.length c, .int .i64 (a : Int), .int .i64 (x : Int)] w fun o w' => o = .returned (.bool (belU m x a)) ∧ w' = w := by
  have HF := Lib.hid hf
  have HR := Lib.hid hr
  have HB := Lib.hid (belF_U hf ha hx)
  obtain ⟨n, hn⟩ : ∃ n, n = m.length := ⟨_, rfl⟩
  have HN := Lib.hid hn
  rw [← hn] at hcap ⊢
  obtain ⟨r, hr2⟩ : ∃ r, r = belU m x a := ⟨_, rfl⟩
  have HRR := Lib.hid hr2
  rw [← hr2] at HB ⊢
  clear hf hr hn hr2
  go_enter Tryz.func33, Tryz.ntmps33
  go_wp2_with fail
  go_loopw [2, 7] (fun i' k' wr => ∃ (y : Int) (k : Nat), i' = .int .i64 y ∧ k' = .int .i64 k ∧ k ≤ 4 ∧ Hid (belF m (a : Int) (4 - k) y = r) ∧ wr = w) (fun _ k' _ => 4 - (intOf k').toNat)
  case atStart => exact ⟨x, 0, rfl, rfl, by omega, HB, rfl⟩
  case round =>
    obtain ⟨y, k, rfl, rfl, hk4, HX, rfl⟩ := hrel
    by_cases hk : k < 4
    · have t1 : decide ((k : Int) < 4) = true := decide_eq_true (by omega)
      cases hq : isB y m.length with
      | false =>
        have HU := Lib.hid (belF_out (m := m) (a := (a : Int)) hq (4 - k))
        rcases isB_not hq with hx0 | hx0
        · have t2 : decide (0 ≤ y) = false := decide_eq_false (by omega)
          clear hq
          go_wp2_with fail
          go_ret
          exact ⟨by rw [← HX.out, HU.out]; rfl, rfl⟩
        · have t2 : decide (0 ≤ y) = true := decide_eq_true (by omega)
          have t3 : decide (y < (n : Int)) = false := decide_eq_false (by have := HN.out; omega)
          clear hq
          go_wp2_with fail
          go_ret
          exact ⟨by rw [← HX.out, HU.out]; rfl, rfl⟩
      | true =>
        obtain ⟨b, rfl, hb⟩ := isB_of hq
        obtain ⟨bl, off, hA, hbl, hC⟩ := HR.out.at_ b hb
        subst hA
        have HA := Lib.hid (show belF m (a : Int) (4 - k) (b : Int) = if ((b : Int) == (a : Int)) = true then true else belF m (a : Int) (4 - (k + 1)) (m[b]).ab from by
          rw [show 4 - k = (4 - (k + 1)) + 1 by omega]
          show (if isB (b : Int) m.length = true then (if ((b : Int) == (a : Int)) = true then true else belF m (a : Int) (4 - (k + 1)) (ndAt m (b : Int)).ab) else false) = _
          rw [isB_nat hb, if_pos rfl, ndAt_nat hb])
        obtain ⟨e, he⟩ : ∃ e, e = m[b] := ⟨_, rfl⟩
        rw [← he] at hC HA
        have d2 : wr.cell? ⟨bl, off + b * 7 + 2, none⟩ = some (.int .i64 e.ab) := hC 2 (by omega)
        have j0 : (0 : Int) ≤ b := by omega
        have j1 : (b : Int) < n := by have := HN.out; omega
        have t2 : decide ((0 : Int) ≤ b) = true := decide_eq_true j0
        have t3 : decide ((b : Int) < n) = true := decide_eq_true j1
        clear hC he hq
        by_cases hba : b = a
        · subst hba
          rw [if_pos (by simp)] at HA
          have x1 : ((b : Int) == (b : Int)) = true := by simp
          go_wp2_with fail
          go_ret
          exact ⟨by rw [← HX.out, HA.out]; rfl, rfl⟩
        · have hkd : ((b : Int) == (a : Int)) = false := beq_false_of_ne (by omega)
          have hkd2 : (b == a) = false := beq_false_of_ne hba
          rw [hkd, if_neg (by decide)] at HA
          clear hba
          go_wp2_with fail
          go_roundw
          case rel => exact ⟨e.ab, k + 1, rfl, by go_num, by omega, Lib.hid (HA.out.symm.trans HX.out), trivial⟩
          case measure => simp [intOf]; omega
    · have t1 : decide ((k : Int) < 4) = false := decide_eq_false (by omega)
      have HU := Lib.hid (show r = false from by rw [← HX.out, show 4 - k = 0 by omega]; rfl)
      go_wp2_with fail
      go_ret
      exact ⟨by rw [HU.out]; rfl, rfl⟩
end Go.Proofs.YtoaboklckkcjcaaGreat.walkU
/- Layer 16: the law's Made. -/
namespace Go.Proofs.YtoaboklckkcjcaaGreat.treX
open Go.ChangeShapes Go.WideShapes Go.ChangeAt Go.RowKit
open Go.Proofs.YtoaboklckkcjcaaGreat.base Go.Proofs.YtoaboklckkcjcaaGreat.dfA Go.Proofs.YtoaboklckkcjcaaGreat.treA Go.Proofs.YtoaboklckkcjcaaGreat.treB Go.Proofs.YtoaboklckkcjcaaGreat.treC Go.Proofs.YtoaboklckkcjcaaGreat.treD Go.Proofs.YtoaboklckkcjcaaGreat.treE Go.Proofs.YtoaboklckkcjcaaGreat.treG Go.Proofs.YtoaboklckkcjcaaGreat.treH Go.Proofs.YtoaboklckkcjcaaGreat.treI Go.Proofs.YtoaboklckkcjcaaGreat.treM Go.Proofs.YtoaboklckkcjcaaGreat.treN
set_option linter.unusedVariables false

/-- Those of the first k nodes that may stand behind those ahead of them that do. -/
def madeTo (l : List Nd) : Nat → List Nd
  | 0 => []
  | k + 1 => if whyF (madeTo l k) (l.getD k zNd) = 0 then madeTo l k ++ [l.getD k zNd] else madeTo l k
theorem madeTo_yes {l m : List Nd} {k : Nat} {e : Nd} (h : m = madeTo l k) (hk : k < l.length) (he : e = l[k]) (hw : whyF m e = 0) : m ++ [e] = madeTo l (k + 1) := by
  have hg : l.getD k zNd = e := by rw [List.getD_eq_getElem?_getD, List.getElem?_eq_getElem hk, he]; rfl
  unfold madeTo
  rw [hg, ← h, if_pos hw]
theorem madeTo_no {l m : List Nd} {k : Nat} {e : Nd} (h : m = madeTo l k) (hk : k < l.length) (he : e = l[k]) (hw : whyF m e ≠ 0) : m = madeTo l (k + 1) := by
  have hg : l.getD k zNd = e := by rw [List.getD_eq_getElem?_getD, List.getElem?_eq_getElem hk, he]; rfl
  unfold madeTo
  rw [hg, ← h, if_neg hw]
/-- Nodes that may be all stand. -/
theorem madeTo_good {l : List Nd} (h : GoodTo l l.length) : ∀ k, k ≤ l.length → madeTo l k = l.take k
  | 0, _ => by rw [List.take_zero]; rfl
  | k + 1, hk => by
    have ih := madeTo_good h k (by omega)
    have hg : l.getD k zNd = l[k]'(by omega) := by rw [List.getD_eq_getElem?_getD, List.getElem?_eq_getElem (by omega)]; rfl
    unfold madeTo
    rw [ih, hg, if_pos (h k (by omega) (by omega)), List.take_add_one, List.getElem?_eq_getElem (by omega)]
    rfl
theorem madeTo_all {l : List Nd} (h : GoodTo l l.length) : madeTo l l.length = l := by rw [madeTo_good h _ (Nat.le_refl _), List.take_length]
/-- What Made hands back. -/
def MadeX (w : World) (l : List Nd) (o : Ending) (w' : World) : Prop := ∃ (T : Nat) (m : List Nd) (A : Option Addr) (c : Nat), o = .returned (.tuple #[.pointer (some ⟨T, 0, none⟩), .slice A m.length c]) ∧ TreeOk w' T m ∧ RdN w' A m ∧ m.length ≤ 60 ∧ m.length ≤ c ∧ c ≤ 9223372036854775807 ∧ Below w.heap.size w w' ∧ m = madeTo l l.length ∧ ∀ j (hj : j < m.length), (m[j]).nm.size ≤ 9223372036854775807
set_option maxRecDepth 100000 in
set_option maxHeartbeats 16000000 in
theorem made_x (A : Option Addr) (n c : Nat) (l : List Nd) (w : World) (hr : RdN w A l) (hl : l.length ≤ 60) (hcap : l.length ≤ c) (hcap2 : c ≤ 9223372036854775807) (hnm : ∀ j (hj : j < l.length), (l[j]).nm.size ≤ 9223372036854775807)
    (hfew : ∀ W', Calls Tryz.prog 39 #[.slice A n c] W' fun o w' => o = .returned (.slice A l.length c) ∧ Below W'.heap.size W' w') :
    Calls Tryz.prog 9 #[.slice A n c] w (MadeX w l) := by
  obtain ⟨i0, hi0, hz0, hz1, hz2⟩ := info_parts info_n
  have HI0 := Lib.hid hi0
  have HZ0 := Lib.hid hz0
  have HZ1 := Lib.hid hz1
  have HZ2 := Lib.hid hz2
  have HR := Lib.hid hr
  have HNM := Lib.hid hnm
  have HFW := Lib.hid (hfew w)
  obtain ⟨ln, hln⟩ : ∃ ln, ln = l.length := ⟨_, rfl⟩
  have HLN := Lib.hid hln
  rw [← hln] at hl hcap HFW
  clear hi0 hz0 hz1 hz2 hr hnm hfew hln
  go_enter Tryz.func9, Tryz.ntmps9
  go_wp2_with fail
  refine HFW.out.mono ?_
  rintro o w1 ⟨rfl, hb1⟩
  have B1 := Lib.hid hb1
  clear hb1
  go_wp2_with fail
  go_loopw [4, 5] (fun v i wr => ∃ (k : Nat) (m : List Nd), i = .int .i64 k ∧ k ≤ ln ∧ wr.ownsRow w.heap.size 67 7 v m.length (flatN m) ∧ m.length ≤ k ∧ GoodTo m m.length ∧ (∀ j (hj : j < m.length), (m[j]).nm.size ≤ 9223372036854775807) ∧ Below w.heap.size w wr ∧ Hid (m = madeTo l k)) (fun _ i _ => ln - (intOf i).toNat)
  case atStart => exact ⟨0, [], rfl, by omega, World.ownsRow_nil _ _ _ 7, by simp, (fun j hj => by simp at hj), (fun j hj => by simp at hj), B1.out, Lib.hid rfl⟩
  case round =>
    obtain ⟨k, m, rfl, hk, hown, hmk, hgood, hmnm, hbel, HMT⟩ := hrel
    obtain ⟨A2, c2, rfl, hm1, hm2, hrd⟩ := rdN_own hown
    have KO := Lib.hid hown
    have KG := Lib.hid hgood
    have KN := Lib.hid hmnm
    have KB := Lib.hid hbel
    have KR := Lib.hid hrd
    clear hown hgood hmnm hbel hrd
    by_cases hkn : k < ln
    · have t1 : decide ((k : Int) < ln) = true := decide_eq_true (by omega)
      have hjl : k < l.length := HLN.out ▸ hkn
      obtain ⟨b, off, hA, hbl, hC⟩ := (HR.out.below KB.out).at_ k hjl
      subst hA
      have HNK := Lib.hid (HNM.out k hjl)
      obtain ⟨e, he⟩ : ∃ e, e = l[k] := ⟨_, rfl⟩
      have HEE := Lib.hid he
      have HMY := Lib.hid (fun hw => madeTo_yes HMT.out hjl he hw)
      have HMN := Lib.hid (fun hw => madeTo_no HMT.out hjl he hw)
      rw [← he] at hC HNK
      have d0 : wr.cell? ⟨b, off + k * 7, none⟩ = some (.string e.nm) := hC 0 (by omega)
      have d1 : wr.cell? ⟨b, off + k * 7 + 1, none⟩ = some (.int .i64 e.kind) := hC 1 (by omega)
      have d2 : wr.cell? ⟨b, off + k * 7 + 2, none⟩ = some (.int .i64 e.ab) := hC 2 (by omega)
      have d3 : wr.cell? ⟨b, off + k * 7 + 3, none⟩ = some (.int .i64 e.wt) := hC 3 (by omega)
      have d4 : wr.cell? ⟨b, off + k * 7 + 4, none⟩ = some (.bool e.v6) := hC 4 (by omega)
      have d5 : wr.cell? ⟨b, off + k * 7 + 5, none⟩ = some (.int .u64 e.hi) := hC 5 (by omega)
      have d6 : wr.cell? ⟨b, off + k * 7 + 6, none⟩ = some (.int .u64 e.lo) := hC 6 (by omega)
      have j0 : (0 : Int) ≤ k := by omega
      have j1 : (k : Int) < ln := by omega
      have HWH := Lib.hid (show Calls Tryz.prog 40 #[.agg e.cells, .slice A2 m.length c2] wr fun o w' => o = .returned (.int .i64 (whyF m e)) ∧ Below wr.heap.size wr w' from treF.lawwhy_any A2 c2 m wr e KR.out (by omega) (by omega) hm2 HNK.out)
      have HC := Lib.hid (show ∀ W, Below wr.heap.size wr W → (W.cell? ⟨b, off + k * 7, none⟩ = some (.string e.nm) ∧ W.cell? ⟨b, off + k * 7 + 1, none⟩ = some (.int .i64 e.kind) ∧ W.cell? ⟨b, off + k * 7 + 2, none⟩ = some (.int .i64 e.ab) ∧ W.cell? ⟨b, off + k * 7 + 3, none⟩ = some (.int .i64 e.wt) ∧ W.cell? ⟨b, off + k * 7 + 4, none⟩ = some (.bool e.v6) ∧ W.cell? ⟨b, off + k * 7 + 5, none⟩ = some (.int .u64 e.hi) ∧ W.cell? ⟨b, off + k * 7 + 6, none⟩ = some (.int .u64 e.lo)) from fun W hb => by
        have hc := fun i hi => ((hb.cell (p := ⟨b, off + k * 7 + i, none⟩) hbl).trans (hC i hi))
        exact ⟨hc 0 (by omega), hc 1 (by omega), hc 2 (by omega), hc 3 (by omega), hc 4 (by omega), hc 5 (by omega), hc 6 (by omega)⟩)
      unfold Nd.cells at HWH
      obtain ⟨q, hq⟩ : ∃ q, q = whyF m e := ⟨_, rfl⟩
      have HQ := Lib.hid hq
      rw [← hq] at HMY HMN
      rw [← hq] at HWH
      clear hC he hq
      go_wp2_with fail
      refine HWH.out.mono ?_
      rintro o w3 ⟨rfl, hb3⟩
      have B3 := Lib.hid (KB.out.trans (hb3.mono KB.out.size))
      have KO3 := Lib.hid (own_n KO.out hb3)
      clear d0 d1 d2 d3 d4 d5 d6
      obtain ⟨d0, d1, d2, d3, d4, d5, d6⟩ := HC.out _ hb3
      clear hb3
      by_cases hq0 : q = 0
      · subst hq0
        have BA := Lib.hid (show Below w3.heap.size w3 (w3.alloc (.cells #[.string e.nm, .int .i64 e.kind, .int .i64 e.ab, .int .i64 e.wt, .bool e.v6, .int .u64 e.hi, .int .u64 e.lo] 67)) from (Below.refl _ _).alloc (Nat.le_refl _) _)
        have B4 := Lib.hid (B3.out.trans (BA.out.mono B3.out.size))
        have KO4 := Lib.hid (own_n KO3.out BA.out)
        have HNE := Lib.hid (show ∀ p u, e.cells.toList[p]? = some u → (w3.alloc (.cells #[.string e.nm, .int .i64 e.kind, .int .i64 e.ab, .int .i64 e.wt, .bool e.v6, .int .u64 e.hi, .int .u64 e.lo] 67)).cell? ((⟨w3.heap.size, 0, none⟩ : Addr).add p) = some u from fun p u hu => by
          have h3 : (w3.alloc (.cells #[.string e.nm, .int .i64 e.kind, .int .i64 e.ab, .int .i64 e.wt, .bool e.v6, .int .u64 e.hi, .int .u64 e.lo] 67)).cell? ⟨w3.heap.size, p, none⟩ = (#[.string e.nm, .int .i64 e.kind, .int .i64 e.ab, .int .i64 e.wt, .bool e.v6, .int .u64 e.hi, .int .u64 e.lo])[p]? := (Blk.new w3 67 #[.string e.nm, .int .i64 e.kind, .int .i64 e.ab, .int .i64 e.wt, .bool e.v6, .int .u64 e.hi, .int .u64 e.lo]).cell p
          rw [Addr.add_lit, Nat.zero_add, h3]
          have h2 : e.cells[p]? = some u := by simpa using hu
          exact h2)
        have P1 := Lib.hid (show m.length + 1 ≤ maxLen by unfold maxLen; omega)
        have P2 := Lib.hid (show (m.length + 1) * 64 ≤ 140737488355328 by omega)
        have P3 := Lib.hid (show w.heap.size ≤ (w3.alloc (.cells #[.string e.nm, .int .i64 e.kind, .int .i64 e.ab, .int .i64 e.wt, .bool e.v6, .int .u64 e.hi, .int .u64 e.lo] 67)).heap.size from B4.out.size)
        have KGS := Lib.hid (good_snoc KG.out HQ.out.symm)
        have KNS := Lib.hid (nm_snoc KN.out HNK.out)
        go_wp2_with (at_builtin; refine wpList_append_own _ rfl (.tmp 24) (.tmp 29) _ rfl w.heap.size 67 i0 _ 7 64 Tryz.underlying22 HI0.out HZ0.out HZ1.out HZ2.out rfl (by omega) (.slice A2 m.length c2) m.length (flatN m) rfl KO4.out ⟨w3.heap.size, 0, none⟩ 1 1 e.cells.toList rfl rfl HNE.out (one_n1 e) P1.out P2.out P3.out ?_; intro v6 w6 ho hg _; have HO1 := Lib.hid (show w6.ownsRow w.heap.size 67 7 v6 (m ++ [e]).length (flatN (m ++ [e])) by rw [flatN_snoc, List.length_append]; exact ho); have HB1 := Lib.hid (B4.out.grown hg P3.out (fun k hk => (KO4.out.lt k hk).1)); clear ho hg)
        go_roundw
        case rel => exact ⟨k + 1, m ++ [e], by go_num, by omega, HO1.out, by rw [List.length_append, List.length_singleton]; omega, KGS.out, KNS.out, HB1.out, Lib.hid (HMY.out trivial)⟩
        case measure => simp [intOf]; omega
      · have q0 : (q == 0) = false := beq_false_of_ne hq0
        have HMX := Lib.hid (HMN.out hq0)
        clear hq0
        go_wp2_with fail
        go_roundw
        case rel => exact ⟨k + 1, m, by go_num, by omega, KO3.out, by omega, KG.out, KN.out, B3.out, HMX⟩
        case measure => simp [intOf]; omega
    · have t1 : decide ((k : Int) < ln) = false := decide_eq_false (by omega)
      obtain rfl : ln = k := by omega
      have HNW := Lib.hid (new_any A2 c2 m wr KR.out (by omega) (by omega) hm2 KN.out)
      go_wp2_with fail
      refine HNW.out.mono ?_
      rintro o w3 ⟨hp, hb3⟩
      have B3 := Lib.hid (KB.out.trans (hb3.mono KB.out.size))
      have KR3 := Lib.hid (KR.out.below hb3)
      rcases hp with ⟨i, hi, _, hb, rfl⟩ | ⟨hg, nv, kv, ks, rfl, hgr⟩
      · exact absurd (KG.out i hi hi) hb
      · have HT := Lib.hid (show TreeOk w3 wr.heap.size m from ⟨⟨nv, kv, ks, hgr⟩, KG.out, by omega⟩)
        clear hg hgr hb3
        go_wp2_with fail
        go_ret2
        exact ⟨wr.heap.size, m, A2, c2, rfl, HT.out, KR3.out, by omega, hm1, hm2, B3.out, by rw [← HLN.out]; exact HMT.out, KN.out⟩
end Go.Proofs.YtoaboklckkcjcaaGreat.treX
/- Layer 26: nodes of the call's own, one of them written anew. -/
namespace Go.Proofs.YtoaboklckkcjcaaGreat.walkX
open Go.ChangeShapes Go.WideShapes Go.ChangeAt Go.RowKit
open Go.Proofs.YtoaboklckkcjcaaGreat.base Go.Proofs.YtoaboklckkcjcaaGreat.dfA Go.Proofs.YtoaboklckkcjcaaGreat.treB Go.Proofs.YtoaboklckkcjcaaGreat.treG Go.Proofs.YtoaboklckkcjcaaGreat.treM Go.Proofs.YtoaboklckkcjcaaGreat.walkV Go.Proofs.YtoaboklckkcjcaaGreat.onceBw Go.Proofs.YtoaboklckkcjcaaGreat.eliB Go.Proofs.YtoaboklckkcjcaaGreat.walkC
set_option linter.unusedVariables false

def setL : Array Value → Nat → List Value → Array Value
  | cs, _, [] => cs
  | cs, o, v :: l => setL (cs.setIfInBounds o v) (o + 1) l
theorem setL_size : ∀ (l : List Value) (cs : Array Value) (o : Nat), (setL cs o l).size = cs.size
  | [], _, _ => rfl
  | v :: l, cs, o => by rw [setL, setL_size l]; simp
theorem setL_out : ∀ (l : List Value) (cs : Array Value) (o i : Nat), (i < o ∨ o + l.length ≤ i) → (setL cs o l)[i]? = cs[i]?
  | [], _, _, _, _ => rfl
  | v :: l, cs, o, i, h => by
    rw [setL, setL_out l _ _ _ (by simp at h; omega), Array.getElem?_setIfInBounds, if_neg (by simp at h; omega)]
theorem setL_in : ∀ (l : List Value) (cs : Array Value) (o j : Nat), o + l.length ≤ cs.size → j < l.length → (setL cs o l)[o + j]? = l[j]?
  | [], _, _, _, _, h => by simp at h
  | v :: l, cs, o, 0, h, _ => by
    rw [setL, setL_out l _ _ _ (by omega), Nat.add_zero, Array.getElem?_setIfInBounds, if_pos rfl, if_pos (by simp at h; omega)]
    rfl
  | v :: l, cs, o, j + 1, h, hj => by
    rw [setL, show o + (j + 1) = o + 1 + j by omega, setL_in l _ _ _ (by simp at h ⊢; omega) (by simpa using hj)]
    rfl
theorem blk_setCells {g : Nat} {T : TypeId} : ∀ (l : List Value) (w : World) (cs : Array Value) (o : Nat), Blk w g T cs → Blk (w.setCells g o l) g T (setL cs o l)
  | [], _, _, _, h => h
  | v :: l, w, cs, o, h => blk_setCells l _ _ _ (h.set_ o v)
theorem blk_setCells_far {g k : Nat} {T : TypeId} (hk : k ≠ g) {cs : Array Value} : ∀ (l : List Value) (w : World) (o : Nat), Blk w k T cs → Blk (w.setCells g o l) k T cs
  | [], _, _, h => h
  | v :: l, w, o, h => blk_setCells_far hk l _ _ (h.far (p := ⟨g, o, none⟩) hk v)
theorem below_setCells {B g : Nat} {a : World} (hg : B ≤ g) : ∀ (l : List Value) (w : World) (o : Nat), Below B a w → Below B a (w.setCells g o l)
  | [], _, _, h => h
  | v :: l, w, o, h => below_setCells hg l _ _ (h.setCell (p := ⟨g, o, none⟩) hg v)
/-- A row of nodes of the call's own. -/
theorem own_nodes {w : World} {B : Nat} {v : Value} {l : List Nd} (hn : 0 < l.length) (h : w.ownsRow B 67 7 v l.length (flatN l)) : ∃ g cap cur, v = .slice (some ⟨g, 0, none⟩) l.length cap ∧ B ≤ g ∧ Blk w g 67 cur ∧ l.length ≤ cap ∧ cap ≤ 9223372036854775807 ∧ l.length * 7 ≤ cur.size ∧ RdN w (some ⟨g, 0, none⟩) l := by
  rcases h.2 with ⟨_, h0⟩ | ⟨g, cap, cur, e1, e2, e3, e4, e5, e6, e7⟩
  · omega
  · obtain ⟨A, c, f1, f2, f3, f4, _⟩ := rdN_own2 h
    rw [e1] at f1
    injection f1 with f5 f6 f7
    subst f5
    exact ⟨g, cap, cur, e1, e2, e3, e4, by unfold maxLen at e5; omega, by rw [e6]; exact Nat.mul_le_mul_right 7 e4, f4⟩
theorem rdN_put {w : World} {g : Nat} {l : List Nd} {cur : Array Value} (hb : Blk w g 67 cur) (hc : l.length * 7 ≤ cur.size) (hr : RdN w (some ⟨g, 0, none⟩) l) {h : Nat} (hh : h < l.length) (e : Nd) : RdN (w.setCells g (h * 7) e.cells.toList) (some ⟨g, 0, none⟩) (l.set h e) := by
  have h7 : e.cells.toList.length = 7 := rfl
  have hLi : ∀ i : Nat, e.cells.toList[i]? = e.cells[i]? := fun i => by simp
  obtain ⟨L, hL⟩ : ∃ L, L = e.cells.toList := ⟨_, rfl⟩
  rw [← hL] at h7 hLi ⊢
  clear hL
  have hb2 := blk_setCells L w cur (h * 7) hb
  refine .inr ⟨g, 0, rfl, hb2.lt, fun j hj i hi => ?_⟩
  rw [List.length_set] at hj
  rw [Nat.zero_add, hb2.cell]
  by_cases hjh : j = h
  · subst hjh
    rw [List.getElem_set_self, setL_in L cur (j * 7) i (by omega) (by omega)]
    exact hLi i
  · rw [List.getElem_set_ne (by omega), setL_out L cur (h * 7) (j * 7 + i) (by omega)]
    obtain ⟨b, off, hA, _, hC⟩ := hr.at_ j hj
    injection hA with hA
    injection hA with h1 h2 h3
    subst h1 h2
    have h9 := hC i hi
    rw [Nat.zero_add, hb.cell] at h9
    exact h9
theorem setWt_nm {m : List Nd} {h : Nat} (hm : h < m.length) (wt : Int) (hn : ∀ j (hj : j < m.length), (m[j]).nm.size ≤ 9223372036854775807) : ∀ j (hj : j < (setWt m h wt).length), ((setWt m h wt)[j]).nm.size ≤ 9223372036854775807 := fun j hj => by
  rw [setWt_len] at hj
  by_cases e : j = h
  · subst e
    have e2 : (setWt m j wt)[j]'(by rw [setWt_len]; exact hm) = { m[j] with wt := wt } := by
      unfold setWt
      rw [List.getElem_set_self, treW.ndAt_nat hm]
    rw [e2]
    exact hn j hm
  · have e2 : (setWt m h wt)[j]'(by rw [setWt_len]; exact hj) = m[j] := by
      unfold setWt
      rw [List.getElem_set_ne (by omega)]
    rw [e2]
    exact hn j hj
theorem aside_cell {g : Nat} {a b : World} (h : AsideG g a b) {q o : Nat} (hq : q < a.heap.size) (hg : q ≠ g) : b.cell? ⟨q, o, none⟩ = a.cell? ⟨q, o, none⟩ := by
  have e := h.block q hq hg
  unfold World.cell?
  simp only [e]
theorem way_le {m : List Nd} {W : Nat → Int} {seed key : Int} : ∀ (f : Nat) (a : Int) (l : List Int), wayF m W seed key f a = some l → l.length ≤ f
  | 0, a, l, e => by cases e
  | f + 1, a, l, e => by
    unfold wayF at e
    split at e
    · injection e with e; subst e
      simp
    · split at e
      · cases e
      · rw [Option.map_eq_some_iff] at e
        obtain ⟨x, hx, rfl⟩ := e
        have := way_le f _ x hx
        rw [List.length_cons]
        omega
theorem down_le (m : List Nd) (W : Nat → Int) (seed key a : Int) : (downW m W seed key a).length ≤ 4 := by
  obtain ⟨f, hf⟩ : ∃ f : Nat, f = 4 := ⟨4, rfl⟩
  rw [down_f m W seed key a f hf]
  split
  · cases e : wayF m W seed key f a with
    | none => simp
    | some l => have := way_le f a l e; rw [Option.getD_some]; omega
  · simp
end Go.Proofs.YtoaboklckkcjcaaGreat.walkX
