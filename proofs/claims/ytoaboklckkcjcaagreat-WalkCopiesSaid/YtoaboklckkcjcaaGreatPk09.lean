/- 3 texts in one. -/
import Derived.Deep.DeepCutAuto
import Derived.Deep.RegionHeld3
import Derived.Test.YtoaboklckkcjcaaGreatPk07
import Derived.Test.YtoaboklckkcjcaaGreatPk08
/- Layer 16: what a tree that is made tells. -/
namespace Go.Proofs.YtoaboklckkcjcaaGreat.treM
open Go.ChangeShapes Go.WideShapes Go.ChangeAt Go.RowKit
open Go.Proofs.YtoaboklckkcjcaaGreat.base Go.Proofs.YtoaboklckkcjcaaGreat.dfA Go.Proofs.YtoaboklckkcjcaaGreat.treB Go.Proofs.YtoaboklckkcjcaaGreat.treD Go.Proofs.YtoaboklckkcjcaaGreat.treG Go.Proofs.YtoaboklckkcjcaaGreat.treH Go.Proofs.YtoaboklckkcjcaaGreat.treJ
set_option linter.unusedVariables false

/-- A slice that reads as numbers. -/
def RdI (w : World) (A : Option Addr) (l : List Int) : Prop := l = [] ∨ ∃ b off, A = some ⟨b, off, none⟩ ∧ b < w.heap.size ∧ ∀ (j : Nat) (x : Int), l[j]? = some x → w.cell? ⟨b, off + j, none⟩ = some (.int .i64 x)
theorem RdI.below {w w' : World} {A : Option Addr} {l : List Int} (h : RdI w A l) (hb : Below w.heap.size w w') : RdI w' A l := by
  rcases h with h0 | ⟨b, off, h1, h2, h3⟩
  · exact .inl h0
  · exact .inr ⟨b, off, h1, Nat.lt_of_lt_of_le h2 hb.size, fun j x hx => (hb.cell (p := ⟨b, off + j, none⟩) h2).trans (h3 j x hx)⟩
theorem RdI.at_ {w : World} {A : Option Addr} {l : List Int} (h : RdI w A l) (j : Nat) (hj : j < l.length) : ∃ b off, A = some ⟨b, off, none⟩ ∧ b < w.heap.size ∧ w.cell? ⟨b, off + j, none⟩ = some (.int .i64 l[j]) := by
  rcases h with h0 | ⟨b, off, h1, h2, h3⟩
  · subst h0; simp at hj
  · exact ⟨b, off, h1, h2, h3 j _ (List.getElem?_eq_getElem hj)⟩
/-- A value that reads as a list of numbers. -/
def ReadI (w : World) (v : Value) (l : List Int) : Prop := ∃ A c, v = .slice A l.length c ∧ l.length ≤ c ∧ c ≤ 9223372036854775807 ∧ RdI w A l
theorem ReadI.below {w w' : World} {v : Value} {l : List Int} (h : ReadI w v l) (hb : Below w.heap.size w w') : ReadI w' v l := by
  obtain ⟨A, c, h1, h2, h3, h4⟩ := h
  exact ⟨A, c, h1, h2, h3, h4.below hb⟩
theorem ReadI.nil (w : World) : ReadI w (.slice none 0 0) [] := ⟨none, 0, rfl, Nat.le_refl _, by omega, .inl rfl⟩
theorem read_own {w : World} {B : Nat} {v : Value} {l : List Int} (h : OwnI w B v l) : ReadI w v l := by
  have h0 := h
  unfold OwnI at h0
  rcases h0.2 with ⟨e1, e2⟩ | ⟨g, cap, cur, e1, e2, e3, e4, e5, e6, e7⟩
  · have : l = [] := List.eq_nil_of_length_eq_zero e2
    subst this
    exact ⟨none, 0, e1, Nat.le_refl _, by omega, .inl rfl⟩
  · refine ⟨_, cap, e1, e4, by unfold maxLen at e5; omega, .inr ⟨g, 0, rfl, (h0.lt g (by rw [e1]; rfl)).2, fun j x hx => ?_⟩⟩
    have hj : j < l.length := (List.getElem?_eq_some_iff.mp hx).1
    rw [e1] at h0
    rw [Nat.zero_add, h0.cellAt j (by simpa using hj), List.getElem?_map, hx]
    rfl
/-- Nodes of the call's own read as a list. -/
theorem rdN_own2 {w : World} {B : Nat} {v : Value} {l : List Nd} (h : w.ownsRow B 67 7 v l.length (flatN l)) : ∃ A c, v = .slice A l.length c ∧ l.length ≤ c ∧ c ≤ 9223372036854775807 ∧ RdN w A l ∧ ∀ ad : Addr, A = some ad → B ≤ ad.block ∧ ad.block < w.heap.size := by
  rcases h.2 with ⟨h0, h1⟩ | ⟨g, cap, cur, e1, e2, e3, e4, e5, e6, e7⟩
  · have hl : l = [] := List.eq_nil_of_length_eq_zero h1
    subst hl
    exact ⟨none, 0, h0, Nat.le_refl _, by omega, .inl rfl, fun ad e => by cases e⟩
  · refine ⟨_, cap, e1, e4, by unfold maxLen at e5; omega, .inr ⟨g, 0, rfl, (h.lt g (by rw [e1]; rfl)).2, fun j hj i hi => ?_⟩, fun ad e => by injection e with e; subst e; exact ⟨e2, (h.lt g (by rw [e1]; rfl)).2⟩⟩
    have h7 := h
    rw [e1] at h7
    rw [Nat.zero_add, h7.cellAt (j * 7 + i) (by omega)]
    exact flatN_at l j hj i hi
theorem rdN_own {w : World} {B : Nat} {v : Value} {l : List Nd} (h : w.ownsRow B 67 7 v l.length (flatN l)) : ∃ A c, v = .slice A l.length c ∧ l.length ≤ c ∧ c ≤ 9223372036854775807 ∧ RdN w A l := by
  obtain ⟨A, c, h1, h2, h3, h4, _⟩ := rdN_own2 h
  exact ⟨A, c, h1, h2, h3, h4⟩
theorem flat_of {w : World} {b off : Nat} {l : List Nd} (h : RdN w (some ⟨b, off, none⟩) l) : ∀ (q : Nat) (u : Value), (flatN l)[q]? = some u → w.cell? ((⟨b, off, none⟩ : Addr).add q) = some u := by
  intro q u hu
  have hq : q < l.length * 7 := by
    have := (List.getElem?_eq_some_iff.mp hu).1
    rwa [flatN_len] at this
  have hj : q / 7 < l.length := by omega
  obtain ⟨b2, o2, hA, _, hC⟩ := h.at_ (q / 7) hj
  injection hA with hA
  injection hA with e1 e2
  subst e1 e2
  have h1 := hC (q % 7) (Nat.mod_lt _ (by omega))
  have h2 := flatN_at l (q / 7) hj (q % 7) (Nat.mod_lt _ (by omega))
  rw [show q / 7 * 7 + q % 7 = q by omega, hu] at h2
  rw [Addr.add_lit, show off + q = off + q / 7 * 7 + q % 7 by omega, h1, ← h2]
theorem one_f (l : List Nd) : ∀ u ∈ flatN l, u.oneCell' = true := fun u hu => by
  unfold flatN at hu
  rw [List.mem_flatMap] at hu
  obtain ⟨e, _, he⟩ := hu
  exact one_n1 e u he
def ClP (w : World) (l : List Nd) (o : Ending) (w' : World) : Prop := ∃ A c, o = .returned (.slice A l.length c) ∧ l.length ≤ c ∧ c ≤ 9223372036854775807 ∧ RdN w' A l ∧ Below w.heap.size w w' ∧ ∀ ad : Addr, A = some ad → w.heap.size ≤ ad.block ∧ ad.block < w'.heap.size
/-- A tree that is made: nodes l, which may all be. -/
structure TreeOk (w : World) (T : Nat) (l : List Nd) : Prop where
  grow : ∃ nv kv ks, Grow T w l l.length (kidsL l l.length) nv kv ks
  good : GoodTo l l.length
  len : l.length ≤ 1000
theorem TreeOk.below {w w' : World} {T : Nat} {l : List Nd} (h : TreeOk w T l) (hb : Below w.heap.size w w') : TreeOk w' T l := by
  obtain ⟨⟨nv, kv, ks, hg⟩, h2, h3⟩ := h
  exact ⟨⟨nv, kv, ks, hg.below hb⟩, h2, h3⟩
theorem TreeOk.at_ {w : World} {T : Nat} {l : List Nd} (h : TreeOk w T l) : ∃ A c K kc, TreeAt w T l A c K l.length kc := by
  obtain ⟨⟨nv, kv, ks, hg⟩, _⟩ := h
  obtain ⟨A, c, K, kc, ht, _⟩ := hg.at_
  exact ⟨A, c, K, kc, ht⟩
/-- The nodes right below node i. -/
def kidsP (l : List Nd) (i : Int) : List Int := if isB i l.length = true then kidsL l l.length i.toNat else []
set_option maxHeartbeats 4000000 in
theorem kids_any {w : World} {T : Nat} {l : List Nd} (h : TreeOk w T l) (i : Int) : Calls Tryz.prog 44 #[.pointer (some ⟨T, 0, none⟩), .int .i64 i] w fun o w' => ∃ v, o = .returned v ∧ ReadI w' v (kidsP l i) ∧ Below w.heap.size w w' := by
  obtain ⟨A, c, K, kc, ht⟩ := h.at_
  have HI := Lib.hid (is_any ht i)
  unfold kidsP
  cases hq : isB i l.length with
  | false =>
    rw [hq] at HI
    rw [if_neg (by decide)]
    clear h ht hq
    go_enter Tryz.func44, Tryz.ntmps44
    go_wp2_with fail
    refine HI.out.mono ?_
    rintro o w1 ⟨rfl, hb⟩
    have HB := Lib.hid hb
    clear hb
    go_wp2_with fail
    go_ret
    exact ⟨_, rfl, ReadI.nil _, HB.out⟩
  | true =>
    rw [hq] at HI
    rw [if_pos rfl]
    obtain ⟨a, rfl, ha⟩ : ∃ a : Nat, i = (a : Int) ∧ a < l.length := by
      unfold isB at hq
      simp only [Bool.and_eq_true, decide_eq_true_eq] at hq
      exact ⟨i.toNat, by omega, by omega⟩
    rw [Int.toNat_natCast]
    have HH := Lib.hid h
    clear hq ht h
    have kle := kidsL_le l l.length a
    obtain ⟨m, hm⟩ : ∃ m, m = kidsL l l.length a := ⟨_, rfl⟩
    have hml : m.length ≤ l.length := hm ▸ kle
    have HM := Lib.hid hm
    rw [← hm]
    obtain ⟨ln, hln⟩ : ∃ ln, ln = l.length := ⟨_, rfl⟩
    have HLN := Lib.hid hln
    have hl := HH.out.len
    rw [← hln] at ha hml hl
    clear hm kle hln
    go_enter Tryz.func44, Tryz.ntmps44
    go_wp2_with fail
    refine HI.out.mono ?_
    rintro o w1 ⟨rfl, hb⟩
    have HB := Lib.hid hb
    obtain ⟨⟨nv, kv, ks, hg⟩, _, _⟩ := HH.out.below hb
    have hkn := hg.kids.1
    rw [← HLN.out] at hg hkn
    obtain ⟨kg, kcap, hkv⟩ : ∃ g cap, kv = .slice (some ⟨g, 0, none⟩) ln cap := by
      have h7 := hg.kids
      rcases h7.2 with ⟨_, h0⟩ | ⟨g, cap, cur, h1, _⟩
      · omega
      · exact ⟨g, cap, h1⟩
    subst hkv
    have hal : a < ks.length := by omega
    have dk : w1.cell? ⟨T, 1, none⟩ = some (.slice (some ⟨kg, 0, none⟩) ln kcap) := hg.tree.cell 1
    have hcap : ln ≤ kcap ∧ kcap ≤ 9223372036854775807 := by
      have h7 := hg.kids
      rcases h7.2 with ⟨h0, _⟩ | ⟨g, cap, cur, h1, _, _, h4, h5, _⟩
      · cases h0
      · injection h1 with _ _ h1
        subst h1
        exact ⟨h4, by unfold maxLen at h5; omega⟩
    obtain ⟨hcap1, hcap2⟩ := hcap
    obtain ⟨u, hu⟩ : ∃ u, ks[a]? = some u := ⟨_, List.getElem?_eq_getElem hal⟩
    have da : w1.cell? ⟨kg, a, none⟩ = some u := by
      have h7 := hg.kids.cellAt a (by omega)
      rw [h7, hu]
    have OU := Lib.hid (show OwnI w1 (T + 1) u m from by have := hg.each a u hu; rw [HLN.out] at this; rwa [← HM.out] at this)
    have j0 : (0 : Int) ≤ a := by omega
    have j1 : (a : Int) < ln := by omega
    clear hb hg hu hkn
    have OU2 := OU.out
    unfold OwnI at OU2
    rcases OU2.2 with ⟨e1, e2⟩ | ⟨g, cap, cur, e1, e2, e3, e4, e5, e6, e7⟩
    · subst e1
      have hm0 : m = [] := List.eq_nil_of_length_eq_zero e2
      have HC := Lib.hid (Go.Proofs.Tryz.slices_Clone_int_nil 0 0 w1)
      clear OU2 e2
      go_wp2_with fail
      refine HC.out.mono ?_
      rintro o w2 ⟨rfl, rfl⟩
      go_wp2_with fail
      go_ret
      exact ⟨_, rfl, by rw [hm0]; exact ReadI.nil _, HB.out⟩
    · subst e1
      have HC := Lib.hid (Go.Proofs.Tryz.slices_Clone_int g 0 m.length cap m w1 (Nat.le_refl _) (by omega) (fun j hj => by
        rw [Nat.zero_add, OU2.cellAt j (by simpa using hj), List.getElem?_map, List.getElem?_eq_getElem hj, List.getD_eq_getElem?_getD, List.getElem?_eq_getElem hj]
        rfl))
      clear OU2 e2 e3 e6 e7
      go_wp2_with fail
      refine HC.out.mono ?_
      rintro o w2 ⟨v, rfl, ho, _, hb⟩
      have HO := Lib.hid (show OwnI w2 w1.heap.size v m from by unfold OwnI; rw [List.take_of_length_le (Nat.le_refl _)] at ho; exact ho)
      have HB2 := Lib.hid (HB.out.trans (hb.mono HB.out.size))
      clear ho hb
      go_wp2_with fail
      go_ret
      exact ⟨_, rfl, read_own HO.out, HB2.out⟩
end Go.Proofs.YtoaboklckkcjcaaGreat.treM
/- Layer 16: which node is above which. -/
namespace Go.Proofs.YtoaboklckkcjcaaGreat.treP
open Go.ChangeShapes Go.WideShapes Go.ChangeAt Go.RowKit
open Go.Proofs.YtoaboklckkcjcaaGreat.base Go.Proofs.YtoaboklckkcjcaaGreat.dfA Go.Proofs.YtoaboklckkcjcaaGreat.treA Go.Proofs.YtoaboklckkcjcaaGreat.treB Go.Proofs.YtoaboklckkcjcaaGreat.treC Go.Proofs.YtoaboklckkcjcaaGreat.treD Go.Proofs.YtoaboklckkcjcaaGreat.treE Go.Proofs.YtoaboklckkcjcaaGreat.treG Go.Proofs.YtoaboklckkcjcaaGreat.treH Go.Proofs.YtoaboklckkcjcaaGreat.treM Go.Proofs.YtoaboklckkcjcaaGreat.treW
set_option linter.unusedVariables false

set_option maxHeartbeats 2000000 in
theorem len_x {t : Nat} {l : List Nd} {A : Option Addr} {c : Nat} {K : Option Addr} {kn kc : Nat} {w : World} (h : TreeAt w t l A c K kn kc) : Calls Tryz.prog 42 #[.pointer (some ⟨t, 0, none⟩)] w fun e w' => e = .returned (.int .i64 l.length) ∧ w' = w := by
  have d0 := h.nodes
  clear h
  go_enter Tryz.func42, Tryz.ntmps42
  go_wp2
  go_ret
  exact ⟨rfl, rfl⟩
set_option maxHeartbeats 2000000 in
theorem is_x {t : Nat} {l : List Nd} {A : Option Addr} {c : Nat} {K : Option Addr} {kn kc : Nat} {w : World} (h : TreeAt w t l A c K kn kc) (i : Int) : Calls Tryz.prog 63 #[.pointer (some ⟨t, 0, none⟩), .int .i64 i] w fun e w' => e = .returned (.bool (isB i l.length)) ∧ w' = w := by
  have HL := Lib.hid (len_x h)
  unfold isB
  clear h
  go_enter Tryz.func63, Tryz.ntmps63
  by_cases h0 : 0 ≤ i
  · rw [show decide (0 ≤ i) = true from decide_eq_true h0, Bool.true_and]
    go_wp2_with fail
    refine HL.out.mono ?_
    rintro e w' ⟨rfl, rfl⟩
    go_wp2_with fail
    go_ret
    exact ⟨rfl, rfl⟩
  · rw [show decide (0 ≤ i) = false from decide_eq_false h0, Bool.false_and]
    go_wp2_with fail
    go_ret
    exact ⟨rfl, rfl⟩
set_option maxHeartbeats 8000000 in
theorem up_x {t : Nat} {l : List Nd} {A : Option Addr} {c : Nat} {K : Option Addr} {kn kc : Nat} {w : World} (h : TreeAt w t l A c K kn kc) (hf : Fine l) (i kind : Int) :
    Calls Tryz.prog 31 #[.pointer (some ⟨t, 0, none⟩), .int .i64 i, .int .i64 kind] w fun o w' => o = .returned (.int .i64 (upF l kind i)) ∧ w' = w := by
  have HF := Lib.hid hf
  have HI := Lib.hid (fun i => is_x h i)
  have d0 := h.nodes
  have hcap := h.cap
  have hcap2 := h.cap2
  have HR := Lib.hid h.rd
  obtain ⟨n, hn⟩ : ∃ n, n = l.length := ⟨_, rfl⟩
  have HN := Lib.hid hn
  rw [← hn] at d0 hcap
  clear hf h hn
  go_enter Tryz.func31, Tryz.ntmps31
  go_wp2_with fail
  go_loopw [1] (fun i' wr => ∃ x : Int, i' = .int .i64 x ∧ Hid (upF l kind x = upF l kind i) ∧ wr = w) (fun i' _ => (intOf i' + 1).toNat)
  case atStart => exact ⟨i, rfl, Lib.hid rfl, rfl⟩
  case round =>
    obtain ⟨x, rfl, HX, rfl⟩ := hrel
    have HIx := Lib.hid (HI.out x)
    cases hq : isB x l.length with
    | false =>
      have HU := Lib.hid (upF_out (m := l) kind hq)
      rw [hq] at HIx
      clear hq
      go_wp2_with fail
      refine HIx.out.mono ?_
      rintro o w1 ⟨rfl, rfl⟩
      go_wp2_with fail
      go_ret
      exact ⟨by rw [← HX.out, HU.out]; rfl, rfl⟩
    | true =>
      rw [hq] at HIx
      obtain ⟨a, rfl, ha⟩ := isB_of hq
      obtain ⟨b, off, hA, hbl, hC⟩ := HR.out.at_ a ha
      subst hA
      have HA := Lib.hid (show upF l kind (a : Int) = upF l kind (l[a]).ab ∨ ((l[a]).kind == kind) = true from by
        cases hk : ((l[a]).kind == kind) with
        | true => exact .inr rfl
        | false => exact .inl (upF_step HF.out kind ha hk))
      have HH := Lib.hid (show ((l[a]).kind == kind) = true → upF l kind (a : Int) = (a : Int) from fun h => upF_here kind ha h)
      have HM := Lib.hid (show ((l[a]).ab + 1).toNat < ((a : Int) + 1).toNat from by
        by_cases hk : (l[a]).kind = 1
        · rw [HF.out.lev a ha hk]; omega
        · obtain ⟨b, hb, hab, hba, _⟩ := HF.out.sub a ha hk
          rw [hab]; omega)
      obtain ⟨e, he⟩ : ∃ e, e = l[a] := ⟨_, rfl⟩
      rw [← he] at hC HA HH HM
      rw [← HN.out] at ha
      have d1 : wr.cell? ⟨b, off + a * 7 + 1, none⟩ = some (.int .i64 e.kind) := hC 1 (by omega)
      have d2 : wr.cell? ⟨b, off + a * 7 + 2, none⟩ = some (.int .i64 e.ab) := hC 2 (by omega)
      have j0 : (0 : Int) ≤ a := by omega
      have j1 : (a : Int) < n := by omega
      clear hC he hq
      cases hk : (e.kind == kind) with
      | true =>
        have HU := Lib.hid (HH.out hk)
        go_wp2_with fail
        refine HIx.out.mono ?_
        rintro o w1 ⟨rfl, rfl⟩
        go_wp2_with fail
        go_ret
        exact ⟨by rw [← HX.out, HU.out]; rfl, rfl⟩
      | false =>
        have HU := Lib.hid (show upF l kind (a : Int) = upF l kind e.ab from by
          rcases HA.out with h | h
          · exact h
          · rw [hk] at h; cases h)
        go_wp2_with fail
        refine HIx.out.mono ?_
        rintro o w1 ⟨rfl, rfl⟩
        go_wp2_with fail
        go_roundw
        case rel => exact ⟨e.ab, rfl, Lib.hid (HU.out.symm.trans HX.out), trivial⟩
        case measure => exact HM.out
set_option maxHeartbeats 4000000 in
theorem level_x {T : Nat} {m : List Nd} {w : World} (h : TreeOk w T m) (i : Int) : Calls Tryz.prog 26 #[.pointer (some ⟨T, 0, none⟩), .int .i64 i] w fun o w' => o = .returned (.int .i64 (levW m (upF m 1 i) m.length)) ∧ Below w.heap.size w w' := by
  have HT := Lib.hid h
  have HF := Lib.hid (fine_of h.good)
  obtain ⟨A, c, K, kc, ht⟩ := h.at_
  have HL := Lib.hid (levels_any ht (by have := h.len; omega))
  have HLV := Lib.hid (levW_is m (upF m 1 i) m.length (Nat.le_refl _))
  have hlen := ofK_len m 1 m.length
  have hml := h.len
  clear h ht
  rw [HLV.out]
  go_enter Tryz.func26, Tryz.ntmps26
  go_wp2_with fail
  refine HL.out.mono ?_
  rintro o w1 ⟨v, rfl, ho, hb⟩
  have B1 := Lib.hid hb
  obtain ⟨A1, c1, K1, kc1, ht1⟩ := (HT.out.below hb).at_
  have HU := Lib.hid (up_x ht1 HF.out i 1)
  have HO := Lib.hid ho
  clear hb ht1 ho
  go_wp2_with fail
  refine HU.out.mono ?_
  rintro o w2 ⟨rfl, rfl⟩
  have h0 := HO.out
  unfold OwnI at h0
  rcases h0.2 with ⟨e1, e2⟩ | ⟨g, cap, cur, e1, e2, e3, e4, e5, e6, e7⟩
  · have hz : ofK m 1 m.length = [] := List.eq_nil_of_length_eq_zero e2
    subst e1
    have HZ := Lib.hid hz
    have HX := Lib.hid (fun (a : Option Addr) (c : Nat) (x : Int) W => Go.Proofs.Tryz.slices_Index_int_empty a c x W)
    clear h0 e2 hz hlen
    go_wp2_with fail
    refine (HX.out _ _ _ _).mono ?_
    rintro o w3 ⟨rfl, rfl⟩
    go_wp2_with fail
    go_ret
    exact ⟨by rw [HZ.out]; rfl, B1.out⟩
  · subst e1
    have HX := Lib.hid (Go.Proofs.Tryz.slices_Index_int g 0 (ofK m 1 m.length).length cap (ofK m 1 m.length) (upF m 1 i) w2 (Nat.le_refl _) (by omega) (fun j hj => by
      rw [Nat.zero_add, h0.cellAt j (by simpa using hj), List.getElem?_map, List.getElem?_eq_getElem hj, List.getD_eq_getElem?_getD, List.getElem?_eq_getElem hj]
      rfl))
    rw [List.take_of_length_le (Nat.le_refl _)] at HX
    clear h0 e2 e3 e6 e7 hlen
    go_wp2_with fail
    refine HX.out.mono ?_
    rintro o w3 ⟨rfl, rfl⟩
    go_wp2_with fail
    go_ret
    exact ⟨rfl, B1.out⟩
end Go.Proofs.YtoaboklckkcjcaaGreat.treP
/- Layer 23: elig.New. -/
namespace Go.Proofs.YtoaboklckkcjcaaGreat.eliA
open Go.ChangeShapes Go.WideShapes Go.ChangeAt Go.RowKit
open Go.Proofs.YtoaboklckkcjcaaGreat.base Go.Proofs.YtoaboklckkcjcaaGreat.dfA Go.Proofs.YtoaboklckkcjcaaGreat.treA Go.Proofs.YtoaboklckkcjcaaGreat.treB Go.Proofs.YtoaboklckkcjcaaGreat.treC Go.Proofs.YtoaboklckkcjcaaGreat.treD Go.Proofs.YtoaboklckkcjcaaGreat.treE Go.Proofs.YtoaboklckkcjcaaGreat.treG Go.Proofs.YtoaboklckkcjcaaGreat.treH Go.Proofs.YtoaboklckkcjcaaGreat.treM Go.Proofs.YtoaboklckkcjcaaGreat.treW Go.Proofs.YtoaboklckkcjcaaGreat.treP Go.Proofs.YtoaboklckkcjcaaGreat.eliW
set_option linter.unusedVariables false

/-- Cells that are the numbers W. -/
def AtU (n : Nat) (W : Nat → Int) (cs : Array Value) : Prop := cs.size = n ∧ ∀ j, j < n → cs[j]? = some (.int .u64 (W j))
def putU (W : Nat → Int) (k : Nat) (x : Int) : Nat → Int := fun j => if j = k then x else W j
theorem AtU.put {n : Nat} {W : Nat → Int} {cs : Array Value} (h : AtU n W cs) (k : Nat) (x : Int) : AtU n (putU W k x) (cs.setIfInBounds k (.int .u64 x)) := by
  refine ⟨by rw [Array.size_setIfInBounds]; exact h.1, fun j hj => ?_⟩
  unfold putU
  by_cases e : j = k
  · subst e
    rw [if_pos rfl, Array.getElem?_setIfInBounds_self_of_lt (by rw [h.1]; exact hj)]
  · rw [if_neg e, Array.getElem?_setIfInBounds_ne (fun he => e he.symm)]
    exact h.2 j hj
theorem AtU.congr {n : Nat} {W W' : Nat → Int} {cs : Array Value} (h : AtU n W cs) (e : ∀ j, j < n → W j = W' j) : AtU n W' cs := ⟨h.1, fun j hj => by rw [← e j hj]; exact h.2 j hj⟩
theorem AtU.zeros (n : Nat) : AtU n (fun _ => 0) (zeros n (.int .u64 0)) := ⟨zeros_size _ _, fun j hj => by unfold base.zeros; simp [hj]⟩
/-- A set as it is made: at w0's end, weights first. -/
structure ESt (w0 : World) (t : Option Addr) (n : Nat) (W : Nat → Int) (w : World) : Prop where
  set : Blk w (w0.heap.size + 1) 93 #[.pointer t, .slice (some ⟨w0.heap.size, 0, none⟩) n n]
  wts : ∃ cs, Blk w w0.heap.size 24 cs ∧ AtU n W cs
  bel : Below w0.heap.size w0 w
section
variable {w0 w w1 : World} {t : Option Addr} {n : Nat} {W W' : Nat → Int}
theorem ESt.below (h : ESt w0 t n W w) (hb : Below w.heap.size w w1) : ESt w0 t n W w1 := by
  obtain ⟨cs, h1, h2⟩ := h.wts
  exact ⟨h.set.below hb h.set.lt, ⟨cs, h1.below hb h1.lt, h2⟩, h.bel.trans (hb.mono h.bel.size)⟩
theorem ESt.put (h : ESt w0 t n W w) (k : Nat) (x : Int) : ESt w0 t n (putU W k x) (w.setCell ⟨w0.heap.size, k, none⟩ (.int .u64 x)) := by
  obtain ⟨cs, h1, h2⟩ := h.wts
  exact ⟨h.set.far (by show w0.heap.size + 1 ≠ w0.heap.size; omega) _, ⟨_, h1.set_ k _, h2.put k x⟩, h.bel.setCell (p := ⟨w0.heap.size, k, none⟩) (Nat.le_refl _) _⟩
theorem ESt.congr (h : ESt w0 t n W w) (e : ∀ j, j < n → W j = W' j) : ESt w0 t n W' w := by
  obtain ⟨cs, h1, h2⟩ := h.wts
  exact ⟨h.set, ⟨cs, h1, h2.congr e⟩, h.bel⟩
theorem ESt.cell (h : ESt w0 t n W w) {k : Nat} (hk : k < n) : w.cell? ⟨w0.heap.size, k, none⟩ = some (.int .u64 (W k)) ∧ w.frozen? ⟨w0.heap.size, k, none⟩ = false := by
  obtain ⟨cs, h1, h2⟩ := h.wts
  exact ⟨(h1.cell k).trans (h2.2 k hk), h1.frozen k⟩
theorem ESt.sl (h : ESt w0 t n W w) : w.cell? ⟨w0.heap.size + 1, 1, none⟩ = some (.slice (some ⟨w0.heap.size, 0, none⟩) n n) := h.set.cell 1
end
theorem set_size (w : World) (p : Addr) (v : Value) : (w.setCell p v).heap.size = w.heap.size := by simp [World.setCell]
theorem wp_let {P : Program} {c : Code} {Q : Exit → Act → World → Prop} {a : Act} {w : World} (h : ∀ Q', Q' = Q → c.wp P Q' a w) : c.wp P Q a w := h Q rfl
theorem info_u : (Tryz.prog.info? 24).map (fun i => (i.zero, i.size, i.bytes)) = some (some (.int .u64 0), 1, 8) := by kernel_rfl
/-- The first pass. -/
theorem hw_next {m : List Nd} (H : List Int) (hs : List Int) (x : Int) (j : Nat) : hw0 m (hs ++ [x]) j = if (ndAt m j).kind = 4 ∧ (j : Int) = x then (ndAt m j).wt else hw0 m hs j := by
  unfold hw0 pkB
  rw [List.contains_append]
  by_cases hk : (ndAt m j).kind = 4
  · have h1 : ((ndAt m j).kind == 4) = true := by simp [hk]
    rw [h1, Bool.true_and]
    by_cases hx : (j : Int) = x
    · rw [if_pos (show (ndAt m j).kind = 4 ∧ (j : Int) = x from ⟨hk, hx⟩)]
      have h2 : ([x] : List Int).contains (j : Int) = true := by simp [hx]
      rw [h2, Bool.or_true, Bool.and_true]
      cases hz : ((ndAt m j).wt == 0) with
      | true => rw [if_neg (by decide)]; exact (by simpa using hz : (ndAt m j).wt = 0).symm
      | false => rw [if_pos (by decide)]
    · rw [if_neg (show ¬((ndAt m j).kind = 4 ∧ (j : Int) = x) from fun h => hx h.2)]
      have h2 : ([x] : List Int).contains (j : Int) = false := by simp [hx]
      rw [h2, Bool.or_false]
  · have h1 : ((ndAt m j).kind == 4) = false := beq_false_of_ne hk
    rw [h1, Bool.false_and, Bool.false_and, if_neg (by decide), if_neg (show ¬((ndAt m j).kind = 4 ∧ (j : Int) = x) from fun h => hk h.1), Bool.false_and, if_neg (by decide)]
/-- What stands in the cells when all from i on have been told. -/
def accW (m : List Nd) (H : List Int) (i : Nat) (j : Nat) : Int := if i ≤ j then F m H j else hw0 m H j + (SF m H j - sumF (gF m H j) i)
theorem acc_start {m : List Nd} (H : List Int) {j : Nat} (hj : j < m.length) : accW m H m.length j = hw0 m H j := by
  unfold accW SF
  rw [if_neg (by omega)]
  omega
/-- What stands at i ahead of its turn. -/
theorem acc_at {m : List Nd} (hf : Fine m) (H : List Int) {i : Nat} (hi : i < m.length) : accW m H (i + 1) i = if (ndAt m i).kind = 4 then hw0 m H i else SF m H i := by
  unfold accW
  rw [if_neg (by omega), pre_zero hf H i hi (i + 1) (Nat.le_refl _)]
  by_cases hk : (ndAt m i).kind = 4
  · rw [if_pos hk]
    unfold SF
    rw [host_none hf H hk _ (Nat.le_refl _)]
    omega
  · rw [if_neg hk]
    have : hw0 m H i = 0 := by
      unfold hw0
      rw [if_neg]
      intro h
      exact hk (pkB_parts h).1
    omega
/-- The turn of i, above which a is. -/
theorem acc_next {m : List Nd} (hf : Fine m) (H : List Int) {i : Nat} (hi : i < m.length) (a : Int) (ha : (ndAt m i).ab = a) (j : Nat) (hj : j < m.length) :
    accW m H i j = if j = i then F m H i else (if (j : Int) = a then accW m H (i + 1) j + F m H i else accW m H (i + 1) j) := by
  by_cases hji : j = i
  · subst hji
    rw [if_pos rfl]
    unfold accW
    rw [if_pos (Nat.le_refl _)]
  · rw [if_neg hji]
    have hs : sumF (gF m H j) (i + 1) = sumF (gF m H j) i + gF m H j i := rfl
    unfold accW
    by_cases hja : (j : Int) = a
    · rw [if_pos hja]
      have hg : gF m H j i = F m H i := by unfold gF; rw [if_pos (by rw [ha]; exact hja.symm)]
      have hlt : j < i := by
        have := (kid_kind hf hi (show (ndAt m i).ab = (j : Int) by rw [ha]; exact hja.symm)).1
        exact this
      rw [if_neg (by omega), if_neg (by omega)]
      omega
    · rw [if_neg hja]
      have hg : gF m H j i = 0 := by unfold gF; rw [if_neg (by rw [ha]; exact fun e => hja e.symm)]
      by_cases hlt : i ≤ j
      · rw [if_pos hlt, if_pos (by omega)]
      · rw [if_neg hlt, if_neg (by omega)]
        omega
theorem acc_range {m : List Nd} (hf : Fine m) (hh : Heavy m) (hm : m.length ≤ 60) (H : List Int) (i j : Nat) (hi : i ≤ m.length) : 0 ≤ accW m H i j ∧ accW m H i j ≤ 100000000000000 := by
  unfold accW
  have h1 := F_lo hh H j
  have h2 := F_hi hh hm H j
  have h3 := sum_lo hh H j i
  have h4 := sum_hi hh hm H j m.length hm
  have h5 := sumF_mono (gF_lo hh H j) i m.length hi
  have h6 : 0 ≤ hw0 m H j ∧ hw0 m H j ≤ 65535 := by
    have := wt_range hh j
    unfold hw0
    split <;> omega
  have h7 : SF m H j = sumF (gF m H j) m.length := rfl
  split <;> omega
/-- What New hands back. -/
def NewP (w : World) (T : Nat) (m : List Nd) (H : List Int) (o : Ending) (w' : World) : Prop := o = .returned (.pointer (some ⟨w.heap.size + 1, 0, none⟩)) ∧ ESt w (some ⟨T, 0, none⟩) m.length (F m H) w' ∧ w.heap.size + 2 ≤ w'.heap.size
set_option maxRecDepth 100000 in
set_option maxHeartbeats 32000000 in
theorem new_any {w : World} {T : Nat} {m : List Nd} (h : TreeOk w T m) (hm60 : m.length ≤ 60) (A : Option Addr) (c : Nat) (H : List Int) (hr : RdI w A H) (hH : H.length ≤ 100) (hcap : H.length ≤ c) (hcap2 : c ≤ 9223372036854775807) :
    Calls Tryz.prog 11 #[.pointer (some ⟨T, 0, none⟩), .slice A H.length c] w (NewP w T m H) := by
  obtain ⟨i0, hi0, hz0, hz1, hz2⟩ := info_parts info_u
  obtain ⟨n, hn⟩ : ∃ n, n = m.length := ⟨_, rfl⟩
  have hmk := Lib.hid (fun (W : World) => run_make_one (P := Tryz.prog) 31 24 i0 _ Tryz.underlying31 hi0 hz0 hz1 rfl .i64 .i64 (n : Int) (by omega) (by rw [hz2]; omega) (by omega) W)
  have HF := Lib.hid (fine_of h.good)
  have HH := Lib.hid (heavy_of h.good)
  have HT := Lib.hid h
  have HN := Lib.hid hn
  have HR := Lib.hid hr
  obtain ⟨AT, cT, KT, kcT, ht⟩ := h.at_
  have HL := Lib.hid (len_x ht)
  rw [← hn] at HL hm60
  obtain ⟨w1, hw1⟩ : ∃ w1, w1 = (w.alloc (.cells (zeros n (.int .u64 0)) 24)).alloc (.cells #[.pointer (some ⟨T, 0, none⟩), .slice (some ⟨w.heap.size, 0, none⟩) n n] 93) := ⟨_, rfl⟩
  have HW1 := Lib.hid (show (w.alloc (.cells (zeros n (.int .u64 0)) 24)).alloc (.cells #[.pointer (some ⟨T, 0, none⟩), .slice (some ⟨w.heap.size, 0, none⟩) n n] 93) = w1 from hw1.symm)
  have HZ1 := Lib.hid (show w1.heap.size = w.heap.size + 2 by rw [hw1]; simp)
  have HE := Lib.hid (show ESt w (some ⟨T, 0, none⟩) n (fun j => hw0 m [] j) w1 from by
    have h1 : ∀ j, j < n → (fun _ : Nat => (0 : Int)) j = hw0 m [] j := fun j _ => by unfold hw0 pkB; simp
    refine ESt.congr ?_ h1
    refine ⟨?_, ⟨zeros n (.int .u64 0), ?_, AtU.zeros n⟩, ?_⟩
    · have := Blk.new (w.alloc (.cells (zeros n (.int .u64 0)) 24)) 93 #[.pointer (some ⟨T, 0, none⟩), .slice (some ⟨w.heap.size, 0, none⟩) n n]
      rw [hw1]
      simpa using this
    · rw [hw1]; exact (Blk.new w _ _).alloc _
    · rw [hw1]; exact ((Below.refl w.heap.size w).alloc (Nat.le_refl _) _).alloc (by simp) _)
  obtain ⟨hl, hhl⟩ : ∃ hl, hl = H.length := ⟨_, rfl⟩
  have HHL := Lib.hid hhl
  rw [← hhl] at hH hcap ⊢
  clear h hr ht hw1 hi0 hz0 hz1 hz2 hn hhl
  go_enter Tryz.func11, Tryz.ntmps11
  go_wp2_with fail
  refine HL.out.mono ?_
  rintro o w2 ⟨rfl, rfl⟩
  have hmk2 := hmk.out w2
  rw [Int.toNat_natCast] at hmk2
  go_wp2_with fail
  rw [HW1.out]
  clear hmk2
  go_loopw [19] (fun i wr => ∃ k : Nat, i = .int .i64 k ∧ k ≤ hl ∧ Hid (ESt w2 (some ⟨T, 0, none⟩) n (fun j => hw0 m (H.take k) j) wr) ∧ w2.heap.size + 2 ≤ wr.heap.size) (fun i _ => hl - (intOf i).toNat)
  case atStart => exact ⟨0, rfl, by omega, HE, by rw [HZ1.out]; exact Nat.le_refl _⟩
  case round =>
    obtain ⟨k, rfl, hk, HS, hsz⟩ := hrel
    have BW := Lib.hid (HS.out.bel)
    by_cases hkn : k < hl
    · have t1 : decide ((k : Int) < hl) = true := decide_eq_true (by omega)
      have hkl : k < H.length := HHL.out ▸ hkn
      obtain ⟨b, off, hA, hbl, hc⟩ := (HR.out.below BW.out).at_ k hkl
      subst hA
      have HTK := Lib.hid (show H.take (k + 1) = H.take k ++ [H[k]] by rw [List.take_succ_eq_append_getElem hkl])
      obtain ⟨x, hx⟩ : ∃ x, x = H[k] := ⟨_, rfl⟩
      rw [← hx] at hc HTK
      have j0 : (0 : Int) ≤ k := by omega
      have j1 : (k : Int) < hl := by omega
      have HND := Lib.hid (show Calls Tryz.prog 30 #[.pointer (some ⟨T, 0, none⟩), .int .i64 x] wr fun o w' => o = .returned (.agg (ndAt m x).cells) ∧ Below wr.heap.size wr w' from by
        obtain ⟨A2, c2, K2, kc2, ht2⟩ := (HT.out.below BW.out).at_
        exact node_any ht2 x)
      obtain ⟨e, he⟩ : ∃ e, e = ndAt m x := ⟨_, rfl⟩
      have HEE := Lib.hid he
      rw [← he] at HND
      unfold Nd.cells at HND
      clear hx he
      go_wp2_with fail
      refine HND.out.mono ?_
      rintro o w3 ⟨rfl, hb⟩
      have B3 := Lib.hid hb
      clear hb
      obtain ⟨w4, hw4⟩ : ∃ w4, w4 = w3.alloc (.cells #[.string e.nm, .int .i64 e.kind, .int .i64 e.ab, .int .i64 e.wt, .bool e.v6, .int .u64 e.hi, .int .u64 e.lo] 67) := ⟨_, rfl⟩
      have HB4 := Lib.hid (show Below w3.heap.size w3 w4 from hw4 ▸ (Below.refl w3.heap.size w3).alloc (Nat.le_refl _) _)
      have HN4 := Lib.hid (show Blk w4 w3.heap.size 67 #[.string e.nm, .int .i64 e.kind, .int .i64 e.ab, .int .i64 e.wt, .bool e.v6, .int .u64 e.hi, .int .u64 e.lo] from hw4 ▸ Blk.new w3 _ _)
      have HW4 := Lib.hid (show w3.alloc (.cells #[.string e.nm, .int .i64 e.kind, .int .i64 e.ab, .int .i64 e.wt, .bool e.v6, .int .u64 e.hi, .int .u64 e.lo] 67) = w4 from hw4.symm)
      have S4 := Lib.hid ((HS.out.below B3.out).below HB4.out)
      have hsz4 : w2.heap.size + 2 ≤ w4.heap.size := by have := B3.out.size; have := HB4.out.size; omega
      cases hk4 : (e.kind == 4) with
      | true =>
        obtain ⟨a, rfl, ha⟩ : ∃ a : Nat, x = (a : Int) ∧ a < m.length := by
          cases hq : isB x m.length with
          | true => exact isB_of hq
          | false =>
            have : e.kind = 0 := by rw [HEE.out, ndAt_none hq]; rfl
            rw [this] at hk4
            cases hk4
        have hwt := wt_range HH.out a
        rw [← HEE.out] at hwt
        have u1 : IntKind.u64.wrap e.wt = e.wt := by rw [IntKind.wrap_u64]; omega
        have HK4 := Lib.hid hk4
        have j2 : (0 : Int) ≤ a := by omega
        have j3 : (a : Int) < n := by have := HN.out; omega
        have D4 := Lib.hid (S4.out.below (Below.refl _ _).drew)
        have c4 := (D4.out.cell (k := a) (by have := HN.out; omega)).1
        have f4 := (D4.out.cell (k := a) (by have := HN.out; omega)).2
        have s0 : w4.drew.cell? ⟨w2.heap.size + 1, 1, none⟩ = some (.slice (some ⟨w2.heap.size, 0, none⟩) n n) ∧ w4.drew.cell? ⟨w3.heap.size, 3, none⟩ = some (.int .i64 e.wt) := ⟨D4.out.sl, HN4.out.cell 3⟩
        have x1 : w4.cell? ⟨w3.heap.size, 1, none⟩ = some (.int .i64 e.kind) := HN4.out.cell 1
        have x1' : (w3.alloc (.cells #[.string e.nm, .int .i64 e.kind, .int .i64 e.ab, .int .i64 e.wt, .bool e.v6, .int .u64 e.hi, .int .u64 e.lo] 67)).cell? ⟨w3.heap.size, 1, none⟩ = some (.int .i64 e.kind) := by rw [HW4.out]; exact x1
        have S5 := Lib.hid (show ESt w2 (some ⟨T, 0, none⟩) n (putU (fun j => hw0 m (H.take k) j) a e.wt) (w4.setCell ⟨w2.heap.size, a, none⟩ (.int .u64 e.wt)).drew from D4.out.put a e.wt)
        have s1 : (w4.setCell ⟨w2.heap.size, a, none⟩ (.int .u64 e.wt)).drew.cell? ⟨w2.heap.size + 1, 1, none⟩ = some (.slice (some ⟨w2.heap.size, 0, none⟩) n n) ∧ (w4.setCell ⟨w2.heap.size, a, none⟩ (.int .u64 e.wt)).drew.cell? ⟨w3.heap.size, 3, none⟩ = some (.int .i64 e.wt) := ⟨S5.out.sl, (HN4.out.far (p := ⟨w2.heap.size, a, none⟩) (by show w3.heap.size ≠ w2.heap.size; have := B3.out.size; omega) _).cell 3⟩
        clear hwt hw4
        go_wp2_with fail
        rw [HW4.out]
        go_region_held3 (fun w' => w'.cell? ⟨w2.heap.size + 1, 1, none⟩ = some (.slice (some ⟨w2.heap.size, 0, none⟩) n n) ∧ w'.cell? ⟨w3.heap.size, 3, none⟩ = some (.int .i64 e.wt)) (first | assumption) (first | fail)
        go_wp2_with fail
        go_roundw
        case rel => exact ⟨k + 1, by go_num, by omega, Lib.hid (S5.out.congr fun j hj => by
          rw [HTK.out, hw_next H]
          unfold putU
          by_cases hja : j = a
          · subst hja
            rw [if_pos rfl, if_pos ⟨by rw [← HEE.out]; simpa using HK4.out, rfl⟩, HEE.out]
          · rw [if_neg hja, if_neg (fun h => hja (by omega))]), by rw [show (World.setCell _ _ _).drew.heap.size = w4.heap.size from by simp [World.setCell, World.drew]]; exact hsz4⟩
        case measure => simp [intOf]; omega
      | false =>
        have HK4 := Lib.hid hk4
        have x1' : (w3.alloc (.cells #[.string e.nm, .int .i64 e.kind, .int .i64 e.ab, .int .i64 e.wt, .bool e.v6, .int .u64 e.hi, .int .u64 e.lo] 67)).cell? ⟨w3.heap.size, 1, none⟩ = some (.int .i64 e.kind) := by rw [HW4.out]; exact HN4.out.cell 1
        clear hw4
        go_wp2_with fail
        rw [HW4.out]
        go_roundw
        case rel => exact ⟨k + 1, by go_num, by omega, Lib.hid (S4.out.congr fun j hj => by
          rw [HTK.out, hw_next H, if_neg]
          rintro ⟨h1, rfl⟩
          rw [← HEE.out] at h1
          rw [h1] at HK4
          exact absurd HK4.out (by decide)), hsz4⟩
        case measure => simp [intOf]; omega
    · have t1 : decide ((k : Int) < hl) = false := decide_eq_false (by omega)
      obtain rfl : hl = k := by omega
      have HL2 := Lib.hid (show Calls Tryz.prog 42 #[.pointer (some ⟨T, 0, none⟩)] wr fun o w' => o = .returned (.int .i64 n) ∧ w' = wr from by
        obtain ⟨A2, c2, K2, kc2, ht2⟩ := (HT.out.below BW.out).at_
        have h1 := len_x ht2
        rwa [← HN.out] at h1)
      have S6 := Lib.hid (show ESt w2 (some ⟨T, 0, none⟩) n (accW m H n) wr from HS.out.congr fun j hj => by
        rw [HHL.out, List.take_of_length_le (Nat.le_refl _), HN.out, acc_start H (by rw [← HN.out]; exact hj)])
      clear HS
      go_wp2_with fail
      refine HL2.out.mono ?_
      rintro o w3 ⟨rfl, rfl⟩
      go_wp2_with fail
      go_loopw [9] (fun iv wr => ∃ (d : Nat) (x : Int), iv = .int .i64 x ∧ x = (d : Int) - 1 ∧ d ≤ n ∧ Hid (ESt w2 (some ⟨T, 0, none⟩) n (accW m H d) wr) ∧ w2.heap.size + 2 ≤ wr.heap.size) (fun iv _ => (intOf iv + 1).toNat)
      case atStart => exact ⟨n, _, rfl, rfl, Nat.le_refl _, S6, hsz⟩
      case round =>
        obtain ⟨d, x, rfl, hx, hd, HS, hsz2⟩ := hrel
        rcases d with _ | i
        · obtain rfl : x = -1 := by omega
          clear hx hd
          have t0 : decide ((0 : Int) ≤ -1) = false := by decide
          go_wp2_with fail
          go_ret
          refine ⟨rfl, ?_, hsz2⟩
          rw [← HN.out]
          refine HS.out.congr fun j hj => ?_
          unfold accW
          rw [if_pos (Nat.zero_le _)]
        · obtain rfl : x = (i : Int) := by omega
          have hi : i < n := by omega
          clear hx hd
          have him : i < m.length := HN.out ▸ hi
          have BW2 := Lib.hid (HS.out.bel)
          have HND := Lib.hid (show Calls Tryz.prog 30 #[.pointer (some ⟨T, 0, none⟩), .int .i64 (i : Int)] wr fun o w' => o = .returned (.agg (ndAt m i).cells) ∧ Below wr.heap.size wr w' from by
            obtain ⟨A2, c2, K2, kc2, ht2⟩ := (HT.out.below BW2.out).at_
            exact node_any ht2 i)
          have HFE := Lib.hid (F_eq HF.out H him)
          have HAT := Lib.hid (acc_at HF.out H him)
          have HRG := Lib.hid (acc_range HF.out HH.out (HN.out ▸ hm60) H)
          have HFL := Lib.hid (F_lo HH.out H i)
          have HFH := Lib.hid (F_hi HH.out (HN.out ▸ hm60) H i)
          have HNX := Lib.hid (fun (a : Int) (ha : (ndAt m i).ab = a) (j : Nat) (hj : j < m.length) => acc_next HF.out H him a ha j hj)
          have HKD := Lib.hid (show (ndAt m i).kind ≠ 1 → ∃ a : Nat, (ndAt m i).ab = (a : Int) ∧ a < i from fun h => by
            rw [ndAt_nat him] at h ⊢
            obtain ⟨a, ha, hab, hai, _⟩ := HF.out.sub i him h
            exact ⟨a, hab, hai⟩)
          have HKL := Lib.hid (show (ndAt m i).kind = 1 → (ndAt m i).ab = -1 from fun h => by
            rw [ndAt_nat him] at h ⊢
            exact HF.out.lev i him h)
          have hwt := wt_range HH.out i
          obtain ⟨e, he⟩ : ∃ e, e = ndAt m i := ⟨_, rfl⟩
          rw [← he] at HND HFE HAT HNX HKD HKL hwt
          unfold Nd.cells at HND
          have u1 : IntKind.u64.wrap e.wt = e.wt := by rw [IntKind.wrap_u64]; omega
          have j2 : (0 : Int) ≤ i := by omega
          have j3 : (i : Int) < n := by omega
          clear he hwt
          go_wp2_with fail
          refine HND.out.mono ?_
          rintro o w5 ⟨rfl, hb⟩
          have B5 := Lib.hid hb
          clear hb
          obtain ⟨w4, hw4⟩ : ∃ w4, w4 = w5.alloc (.cells #[.string e.nm, .int .i64 e.kind, .int .i64 e.ab, .int .i64 e.wt, .bool e.v6, .int .u64 e.hi, .int .u64 e.lo] 67) := ⟨_, rfl⟩
          have HB4 := Lib.hid (show Below w5.heap.size w5 w4 from hw4 ▸ (Below.refl w5.heap.size w5).alloc (Nat.le_refl _) _)
          have HN4 := Lib.hid (show Blk w4 w5.heap.size 67 #[.string e.nm, .int .i64 e.kind, .int .i64 e.ab, .int .i64 e.wt, .bool e.v6, .int .u64 e.hi, .int .u64 e.lo] from hw4 ▸ Blk.new w5 _ _)
          have HW4 := Lib.hid (show w5.alloc (.cells #[.string e.nm, .int .i64 e.kind, .int .i64 e.ab, .int .i64 e.wt, .bool e.v6, .int .u64 e.hi, .int .u64 e.lo] 67) = w4 from hw4.symm)
          have S4 := Lib.hid ((HS.out.below B5.out).below HB4.out)
          have hsz4 : w2.heap.size + 2 ≤ w4.heap.size := by have := B5.out.size; have := HB4.out.size; omega
          have hg5 : w2.heap.size + 2 ≤ w5.heap.size := by have := B5.out.size; omega
          obtain ⟨y, hy⟩ : ∃ y, y = accW m H (i + 1) i := ⟨_, rfl⟩
          have HY := Lib.hid hy
          rw [← hy] at HAT
          clear hw4 hy
          go_upto_region 13 with fail
          rw [HW4.out]
          have n1 : w4.cell? ⟨w5.heap.size, 1, none⟩ = some (.int .i64 e.kind) := HN4.out.cell 1
          have n3 : w4.cell? ⟨w5.heap.size, 3, none⟩ = some (.int .i64 e.wt) := HN4.out.cell 3
          have n4 : w4.cell? ⟨w2.heap.size + 1, 1, none⟩ = some (.slice (some ⟨w2.heap.size, 0, none⟩) n n) := S4.out.sl
          have n5 : w4.cell? ⟨w2.heap.size, i, none⟩ = some (.int .u64 y) := by rw [HY.out]; exact (S4.out.cell hi).1
          go_cut [66] (fun v wv => v = .bool ((e.kind != 4) && (e.wt != 0) && (y != 0)) ∧ wv = w4)
          case first =>
            cases k1 : (e.kind != 4) with
            | false => have K1 := Lib.hid k1; go_wp2_with fail; all_goals go_meet; all_goals exact ⟨by rw [K1.out]; rfl, rfl⟩
            | true =>
              cases k2 : (e.wt != 0) with
              | false => have K1 := Lib.hid k1; have K2 := Lib.hid k2; go_wp2_with fail; all_goals go_meet; all_goals exact ⟨by rw [K1.out, K2.out]; rfl, rfl⟩
              | true =>
                cases k3 : (y != 0) with
                | false => have K1 := Lib.hid k1; have K2 := Lib.hid k2; have K3 := Lib.hid k3; go_wp2_with fail; all_goals go_meet; all_goals exact ⟨by rw [K1.out, K2.out, K3.out]; rfl, rfl⟩
                | true => have K1 := Lib.hid k1; have K2 := Lib.hid k2; have K3 := Lib.hid k3; go_wp2_with fail; all_goals go_meet; all_goals exact ⟨by rw [K1.out, K2.out, K3.out]; rfl, rfl⟩
          case rest =>
            obtain ⟨rfl, rfl⟩ := hcut
            clear n1 n3 n4 n5
            go_upto_if 66 with fail
            go_cut [9] (fun x9 wv => x9 = .int .i64 (i : Int) ∧ Hid (ESt w2 (some ⟨T, 0, none⟩) n (putU (accW m H (i + 1)) i (F m H i)) wv) ∧ Hid (Blk wv w5.heap.size 67 #[.string e.nm, .int .i64 e.kind, .int .i64 e.ab, .int .i64 e.wt, .bool e.v6, .int .u64 e.hi, .int .u64 e.lo]) ∧ w2.heap.size + 2 ≤ wv.heap.size)
            case first =>
              cases hq : ((e.kind != 4) && (e.wt != 0) && (y != 0)) with
              | true =>
                have HFV := Lib.hid (show F m H i = e.wt from by
                  simp only [Bool.and_eq_true, bne_iff_ne, ne_eq] at hq
                  rw [HFE.out, if_neg hq.1.1, if_pos]
                  rw [if_neg hq.1.1] at HAT
                  exact ⟨hq.1.2, HAT.out ▸ hq.2⟩)
                have D4 := Lib.hid (S4.out.below (Below.refl _ _).drew)
                have c4 := (D4.out.cell hi).1
                have f4 := (D4.out.cell hi).2
                have S5 := Lib.hid (show ESt w2 (some ⟨T, 0, none⟩) n (putU (accW m H (i + 1)) i e.wt) (wc.setCell ⟨w2.heap.size, i, none⟩ (.int .u64 e.wt)).drew from D4.out.put i e.wt)
                have N5 := Lib.hid (show Blk (wc.setCell ⟨w2.heap.size, i, none⟩ (.int .u64 e.wt)).drew w5.heap.size 67 #[.string e.nm, .int .i64 e.kind, .int .i64 e.ab, .int .i64 e.wt, .bool e.v6, .int .u64 e.hi, .int .u64 e.lo] from (HN4.out.far (p := ⟨w2.heap.size, i, none⟩) (by show w5.heap.size ≠ w2.heap.size; omega) _).drew)
                have s0 : wc.drew.cell? ⟨w2.heap.size + 1, 1, none⟩ = some (.slice (some ⟨w2.heap.size, 0, none⟩) n n) ∧ wc.drew.cell? ⟨w5.heap.size, 3, none⟩ = some (.int .i64 e.wt) := ⟨D4.out.sl, HN4.out.cell 3⟩
                have s1 : (wc.setCell ⟨w2.heap.size, i, none⟩ (.int .u64 e.wt)).drew.cell? ⟨w2.heap.size + 1, 1, none⟩ = some (.slice (some ⟨w2.heap.size, 0, none⟩) n n) ∧ (wc.setCell ⟨w2.heap.size, i, none⟩ (.int .u64 e.wt)).drew.cell? ⟨w5.heap.size, 3, none⟩ = some (.int .i64 e.wt) := ⟨S5.out.sl, N5.out.cell 3⟩
                go_wp2_with fail
                go_region_held3 (fun w' => w'.cell? ⟨w2.heap.size + 1, 1, none⟩ = some (.slice (some ⟨w2.heap.size, 0, none⟩) n n) ∧ w'.cell? ⟨w5.heap.size, 3, none⟩ = some (.int .i64 e.wt)) (first | assumption) (first | fail)
                go_wp2_with fail
                go_meet
                exact ⟨rfl, by rw [HFV.out]; exact S5, N5, by rw [show (World.setCell _ _ _).drew.heap.size = wc.heap.size from by simp [World.setCell, World.drew]]; exact hsz4⟩
              | false =>
                have HFV := Lib.hid (show F m H i = y from by
                  rw [HFE.out, HAT.out]
                  by_cases h4 : e.kind = 4
                  · rw [if_pos h4, if_pos h4]
                  · have hs := HAT.out
                    rw [if_neg h4] at hs
                    rw [if_neg h4, if_neg h4, if_neg]
                    rintro ⟨h1, h2⟩
                    have : ((e.kind != 4) && (e.wt != 0) && (y != 0)) = true := by simp [h4, h1, hs, h2]
                    rw [hq] at this; cases this)
                go_wp2_with fail
                go_meet
                exact ⟨rfl, Lib.hid (S4.out.congr fun j hj => by
                  unfold putU
                  by_cases hji : j = i
                  · subst hji; rw [if_pos rfl, HFV.out, HY.out]
                  · rw [if_neg hji]), HN4, hsz4⟩
            case rest =>
              obtain ⟨rfl, S7, N7, hsz7⟩ := hcut
              have m1 : wc.cell? ⟨w5.heap.size, 1, none⟩ = some (.int .i64 e.kind) := N7.out.cell 1
              by_cases hk1 : e.kind = 1
              · have q1 : (e.kind != 1) = false := by simp [hk1]
                have HAB := Lib.hid (HKL.out hk1)
                clear hk1
                go_wp2_with fail
                go_roundw
                case rel => exact ⟨i, (i : Int) - 1, rfl, rfl, by omega, Lib.hid (S7.out.congr fun j hj => by
                  rw [HNX.out (-1) HAB.out j (by rw [← HN.out]; exact hj)]
                  unfold putU
                  by_cases hji : j = i
                  · rw [if_pos hji, if_pos hji]
                  · rw [if_neg hji, if_neg hji, if_neg (by omega)]), hsz7⟩
                case measure => simp [intOf] <;> omega
              · have q1 : (e.kind != 1) = true := by simp [hk1]
                obtain ⟨a, hab, hai⟩ := HKD.out hk1
                have HAB := Lib.hid hab
                obtain ⟨ya, hya⟩ : ∃ ya, ya = accW m H (i + 1) a := ⟨_, rfl⟩
                have HYA := Lib.hid hya
                obtain ⟨f, hf⟩ : ∃ f, f = F m H i := ⟨_, rfl⟩
                have HFV := Lib.hid hf
                have hrg := HRG.out (i + 1) a (by rw [← HN.out]; omega)
                rw [← hya] at hrg
                have hf1 := HFL.out
                have hf2 := HFH.out
                rw [← hf] at hf1 hf2
                have u2 : IntKind.u64.wrap (ya + f) = ya + f := by rw [IntKind.wrap_u64]; omega
                have DW := Lib.hid (S7.out.below (Below.refl _ _).drew)
                have han : a < n := by omega
                have HPA := Lib.hid (show putU (accW m H (i + 1)) i (F m H i) a = ya from by unfold putU; rw [if_neg (by omega), HYA.out])
                have HPI := Lib.hid (show putU (accW m H (i + 1)) i (F m H i) i = f from by unfold putU; rw [if_pos rfl, HFV.out])
                have cA : wc.drew.cell? ⟨w2.heap.size, a, none⟩ = some (.int .u64 ya) := by rw [(DW.out.cell han).1, HPA.out]
                have fA : wc.drew.frozen? ⟨w2.heap.size, a, none⟩ = false := (DW.out.cell han).2
                have S8 := Lib.hid (DW.out.put a (ya + f))
                have s0 : wc.drew.cell? ⟨w2.heap.size + 1, 1, none⟩ = some (.slice (some ⟨w2.heap.size, 0, none⟩) n n) ∧ wc.drew.cell? ⟨w5.heap.size, 2, none⟩ = some (.int .i64 (a : Int)) ∧ wc.drew.cell? ⟨w2.heap.size, i, none⟩ = some (.int .u64 f) := ⟨DW.out.sl, by rw [← HAB.out]; exact N7.out.cell 2, by rw [(DW.out.cell hi).1, HPI.out]⟩
                have s1 : (wc.drew.setCell ⟨w2.heap.size, a, none⟩ (.int .u64 (ya + f))).cell? ⟨w2.heap.size + 1, 1, none⟩ = some (.slice (some ⟨w2.heap.size, 0, none⟩) n n) ∧ (wc.drew.setCell ⟨w2.heap.size, a, none⟩ (.int .u64 (ya + f))).cell? ⟨w5.heap.size, 2, none⟩ = some (.int .i64 (a : Int)) ∧ (wc.drew.setCell ⟨w2.heap.size, a, none⟩ (.int .u64 (ya + f))).cell? ⟨w2.heap.size, i, none⟩ = some (.int .u64 f) := ⟨S8.out.sl, by rw [← HAB.out]; exact (N7.out.drew.far (p := ⟨w2.heap.size, a, none⟩) (by show w5.heap.size ≠ w2.heap.size; omega) _).cell 2, by rw [(S8.out.cell hi).1]; unfold putU; rw [if_neg (by omega), if_pos rfl, HFV.out]⟩
                have a0 : (0 : Int) ≤ a := by omega
                have a1 : (a : Int) < n := by omega
                have hszs : w2.heap.size + 2 ≤ (wc.drew.setCell ⟨w2.heap.size, a, none⟩ (.int .u64 (ya + f))).heap.size := by rw [set_size]; exact hsz7
                clear hk1 hya hf hrg hf1 hf2 hab
                go_wp2_with fail
                refine wp_let (fun Q hQ => ?_)
                have HQ := Lib.hid hQ
                clear hQ
                refine wp_region_noPanic ?_
                refine wp_region_held_drew (S := (fun w' => w'.cell? ⟨w2.heap.size + 1, 1, none⟩ = some (.slice (some ⟨w2.heap.size, 0, none⟩) n n) ∧ w'.cell? ⟨w5.heap.size, 2, none⟩ = some (.int .i64 (a : Int)) ∧ w'.cell? ⟨w2.heap.size, i, none⟩ = some (.int .u64 f))) (by kernel_rfl) s0 (fun hHeld => ?_)
                refine wpAnyH_take (i := 0) (v := ?_) (by simp only [List.getElem?_toArray, List.getElem?_cons_zero]; rfl) (by kernel_rfl) (by kernel_rfl) (by kernel_rfl) (fun _ _ _ h => h) (Or.inl ⟨by rfl, ?_⟩) hHeld ?_
                (rotate_left 1; (focus ((intro w hSw; (try dsimp only at hSw); go_simp) <;> with_reducible rfl)); all_goals skip)
                try simp only [Act.put, List.setIfInBounds_toArray, List.set_cons_zero, List.set_cons_succ]
                refine wpAnyH_take (i := 1) (v := ?_) (by simp only [List.getElem?_toArray, List.getElem?_cons_succ, List.getElem?_cons_zero]; rfl) (by kernel_rfl) (by kernel_rfl) (by kernel_rfl) (fun _ _ _ h => h) (Or.inl ⟨by rfl, ?_⟩) hHeld ?_
                (rotate_left 1; (focus ((intro w hSw; (try dsimp only at hSw); go_simp) <;> with_reducible rfl)); all_goals skip)
                try simp only [Act.put, List.setIfInBounds_toArray, List.set_cons_zero, List.set_cons_succ]
                refine wpAnyH_take (i := 2) (v := ?_) (by simp only [List.getElem?_toArray, List.getElem?_cons_succ, List.getElem?_cons_zero]; rfl) (by kernel_rfl) (by kernel_rfl) (by kernel_rfl) (fun _ _ _ h => h) (Or.inl ⟨by rfl, ?_⟩) hHeld ?_
                (rotate_left 1; (focus ((intro w hSw; (try dsimp only at hSw); go_simp) <;> with_reducible rfl)); all_goals skip)
                try simp only [Act.put, List.setIfInBounds_toArray, List.set_cons_zero, List.set_cons_succ]
                refine wpAnyH_take (i := 3) (v := ?_) (by simp only [List.getElem?_toArray, List.getElem?_cons_succ, List.getElem?_cons_zero]; rfl) (by kernel_rfl) (by kernel_rfl) (by kernel_rfl) (fun _ _ _ h => h) (Or.inl ⟨by rfl, ?_⟩) hHeld ?_
                (rotate_left 1; (focus ((intro w hSw; (try dsimp only at hSw); go_simp) <;> with_reducible rfl)); all_goals skip)
                try simp only [Act.put, List.setIfInBounds_toArray, List.set_cons_zero, List.set_cons_succ]
                refine wpAnyH_take (i := 4) (v := ?_) (by simp only [List.getElem?_toArray, List.getElem?_cons_succ, List.getElem?_cons_zero]; rfl) (by kernel_rfl) (by kernel_rfl) (by kernel_rfl) (fun _ _ _ h => h) (Or.inl ⟨by rfl, ?_⟩) hHeld ?_
                (rotate_left 1; (focus ((intro w hSw; (try dsimp only at hSw); go_simp) <;> with_reducible rfl)); all_goals skip)
                try simp only [Act.put, List.setIfInBounds_toArray, List.set_cons_zero, List.set_cons_succ]
                refine wpAnyH_take (i := 5) (v := ?_) (by simp only [List.getElem?_toArray, List.getElem?_cons_succ, List.getElem?_cons_zero]; rfl) (by kernel_rfl) (by kernel_rfl) (by kernel_rfl) (fun _ _ _ h => h) (Or.inl ⟨by rfl, ?_⟩) hHeld ?_
                (rotate_left 1; (focus ((intro w hSw; (try dsimp only at hSw); go_simp) <;> with_reducible rfl)); all_goals skip)
                try simp only [Act.put, List.setIfInBounds_toArray, List.set_cons_zero, List.set_cons_succ]
                refine wpAnyH_take (i := 6) (v := ?_) (by simp only [List.getElem?_toArray, List.getElem?_cons_succ, List.getElem?_cons_zero]; rfl) (by kernel_rfl) (by kernel_rfl) (by kernel_rfl) (fun _ _ _ h => h) (Or.inl ⟨by rfl, ?_⟩) hHeld ?_
                (rotate_left 1; (focus ((intro w hSw; (try dsimp only at hSw); go_simp) <;> with_reducible rfl)); all_goals skip)
                try simp only [Act.put, List.setIfInBounds_toArray, List.set_cons_zero, List.set_cons_succ]
                refine wpAnyH_take (i := 8) (v := ?_) (by simp only [List.getElem?_toArray, List.getElem?_cons_succ, List.getElem?_cons_zero]; rfl) (by kernel_rfl) (by kernel_rfl) (by kernel_rfl) (fun _ _ _ h => h) (Or.inl ⟨by rfl, ?_⟩) hHeld ?_
                (rotate_left 1; (focus ((intro w hSw; (try dsimp only at hSw); go_simp) <;> with_reducible rfl)); all_goals skip)
                try simp only [Act.put, List.setIfInBounds_toArray, List.set_cons_zero, List.set_cons_succ]
                refine wpAnyH_take (i := 9) (v := ?_) (by simp only [List.getElem?_toArray, List.getElem?_cons_succ, List.getElem?_cons_zero]; rfl) (by kernel_rfl) (by kernel_rfl) (by kernel_rfl) (fun _ _ _ h => h) (Or.inl ⟨by rfl, ?_⟩) hHeld ?_
                (rotate_left 1; (focus ((intro w hSw; (try dsimp only at hSw); go_simp) <;> with_reducible rfl)); all_goals skip)
                try simp only [Act.put, List.setIfInBounds_toArray, List.set_cons_zero, List.set_cons_succ]
                refine wpAnyH_take (i := 10) (v := ?_) (by simp only [List.getElem?_toArray, List.getElem?_cons_succ, List.getElem?_cons_zero]; rfl) (by kernel_rfl) (by kernel_rfl) (by kernel_rfl) (fun _ _ _ h => h) (Or.inl ⟨by rfl, ?_⟩) hHeld ?_
                (rotate_left 1; (focus ((intro w hSw; (try dsimp only at hSw); go_simp) <;> with_reducible rfl)); all_goals skip)
                try simp only [Act.put, List.setIfInBounds_toArray, List.set_cons_zero, List.set_cons_succ]
                refine wpAnyH_take (i := 11) (v := ?_) (by simp only [List.getElem?_toArray, List.getElem?_cons_succ, List.getElem?_cons_zero]; rfl) (by kernel_rfl) (by kernel_rfl) (by kernel_rfl) (fun _ _ _ h => h) (Or.inl ⟨by rfl, ?_⟩) hHeld ?_
                (rotate_left 1; (focus ((intro w hSw; (try dsimp only at hSw); go_simp) <;> with_reducible rfl)); all_goals skip)
                try simp only [Act.put, List.setIfInBounds_toArray, List.set_cons_zero, List.set_cons_succ]
                refine wpAnyH_take (i := 12) (v := ?_) (by simp only [List.getElem?_toArray, List.getElem?_cons_succ, List.getElem?_cons_zero]; rfl) (by kernel_rfl) (by kernel_rfl) (by kernel_rfl) (fun _ _ _ h => h) (Or.inl ⟨by rfl, ?_⟩) hHeld ?_
                (rotate_left 1; (focus ((intro w hSw; (try dsimp only at hSw); go_simp) <;> with_reducible rfl)); all_goals skip)
                try simp only [Act.put, List.setIfInBounds_toArray, List.set_cons_zero, List.set_cons_succ]
                refine wpAnyH_take (i := 13) (v := ?_) (by simp only [List.getElem?_toArray, List.getElem?_cons_succ, List.getElem?_cons_zero]; rfl) (by kernel_rfl) (by kernel_rfl) (by kernel_rfl) (fun _ _ _ h => h) (Or.inl ⟨by rfl, ?_⟩) hHeld ?_
                (rotate_left 1; (focus ((intro w hSw; (try dsimp only at hSw); go_simp) <;> with_reducible rfl)); all_goals skip)
                try simp only [Act.put, List.setIfInBounds_toArray, List.set_cons_zero, List.set_cons_succ]
                refine wpAnyH_take (i := 14) (v := ?_) (by simp only [List.getElem?_toArray, List.getElem?_cons_succ, List.getElem?_cons_zero]; rfl) (by kernel_rfl) (by kernel_rfl) (by kernel_rfl) (fun _ _ _ h => h) (Or.inl ⟨by rfl, ?_⟩) hHeld ?_
                (rotate_left 1; (focus ((intro w hSw; (try dsimp only at hSw); go_simp) <;> with_reducible rfl)); all_goals skip)
                try simp only [Act.put, List.setIfInBounds_toArray, List.set_cons_zero, List.set_cons_succ]
                refine wpAnyH_ready (rs := [7]) (by kernel_rfl) (by simp) ?_
                refine AllReadyH.cons (by simp only [List.getElem?_toArray, List.getElem?_cons_succ, List.getElem?_cons_zero]; rfl) (fun K hK => ?_) ?_
                (rotate_left 1; (focus exact AllReadyH.nil); rotate_right 1)
                go_simp
                refine hK.out _ _ s0 (fun hHeld => ?_)
                clear hK K
                try simp only [Act.put, List.setIfInBounds_toArray, List.set_cons_zero, List.set_cons_succ]
                refine wpAnyH_take (i := 15) (v := ?_) (by simp only [List.getElem?_toArray, List.getElem?_cons_succ, List.getElem?_cons_zero]; rfl) (by kernel_rfl) (by kernel_rfl) (by kernel_rfl) (fun _ _ _ h => h) (Or.inl ⟨by rfl, ?_⟩) hHeld ?_
                (rotate_left 1; (focus ((intro w hSw; (try dsimp only at hSw); go_simp) <;> with_reducible rfl)); all_goals skip)
                try simp only [Act.put, List.setIfInBounds_toArray, List.set_cons_zero, List.set_cons_succ]
                refine wpAnyH_take (i := 16) (v := ?_) (by simp only [List.getElem?_toArray, List.getElem?_cons_succ, List.getElem?_cons_zero]; rfl) (by kernel_rfl) (by kernel_rfl) (by kernel_rfl) (fun _ _ _ h => h) (Or.inl ⟨by rfl, ?_⟩) hHeld ?_
                (rotate_left 1; (focus ((intro w hSw; (try dsimp only at hSw); go_simp) <;> with_reducible rfl)); all_goals skip)
                try simp only [Act.put, List.setIfInBounds_toArray, List.set_cons_zero, List.set_cons_succ]
                refine wpAnyH_ready (rs := [17]) (by kernel_rfl) (by simp) ?_
                refine AllReadyH.cons (by simp only [List.getElem?_toArray, List.getElem?_cons_succ, List.getElem?_cons_zero]; rfl) (fun K hK => ?_) ?_
                (rotate_left 1; (focus exact AllReadyH.nil); rotate_right 1)
                go_simp
                refine hK.out _ _ s1 (fun hHeld => ?_)
                clear hK K
                try simp only [Act.put, List.setIfInBounds_toArray, List.set_cons_zero, List.set_cons_succ]
                refine wpAnyH_done (by kernel_rfl) (NoPanic.normal ?_) _
                rw [HQ.out]
                go_wp2_with fail
                go_roundw
                case rel => exact ⟨i, (i : Int) - 1, rfl, rfl, by omega, Lib.hid (S8.out.congr fun j hj => by
                  rw [HNX.out a HAB.out j (by rw [← HN.out]; exact hj)]
                  unfold putU
                  by_cases hji : j = i
                  · rw [if_neg (by omega), if_pos hji, if_pos hji]
                  · rw [if_neg hji]
                    by_cases hja : j = a
                    · subst hja
                      rw [if_pos rfl, if_pos rfl, HYA.out, HFV.out, if_neg hji]
                    · rw [if_neg hja, if_neg hji, if_neg (by omega)]), hszs⟩
                case measure => simp [intOf] <;> omega
end Go.Proofs.YtoaboklckkcjcaaGreat.eliA
