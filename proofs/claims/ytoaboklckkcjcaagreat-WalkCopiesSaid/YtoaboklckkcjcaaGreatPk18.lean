/- 6 texts in one. -/
import Derived.Test.YtoaboklckkcjcaaGreatPk02
import Derived.Test.YtoaboklckkcjcaaGreatPk14
import Derived.Test.YtoaboklckkcjcaaGreatPk16
/- Layer 26: the level that a walker draws. -/
namespace Go.Proofs.YtoaboklckkcjcaaGreat.walkL
open Go.ChangeShapes Go.WideShapes Go.ChangeAt Go.RowKit
open Go.Proofs.YtoaboklckkcjcaaGreat.base Go.Proofs.YtoaboklckkcjcaaGreat.dfA Go.Proofs.YtoaboklckkcjcaaGreat.treB Go.Proofs.YtoaboklckkcjcaaGreat.treD Go.Proofs.YtoaboklckkcjcaaGreat.treM Go.Proofs.YtoaboklckkcjcaaGreat.eliW Go.Proofs.YtoaboklckkcjcaaGreat.eliB Go.Proofs.YtoaboklckkcjcaaGreat.walkA Go.Proofs.YtoaboklckkcjcaaGreat.walkG
set_option linter.unusedVariables false

theorem shares_len (xs ys : List Int) (f : Int) : (sharesL xs ys f).length ≤ 4 := by
  unfold sharesL
  split
  · rename_i h
    rw [List.length_map, List.length_range]
    exact h.2.1
  · exact Nat.zero_le _
theorem shares_in (xs ys : List Int) (f : Int) (i : Nat) : 0 ≤ (sharesL xs ys f).getD i 0 ∧ (sharesL xs ys f).getD i 0 ≤ 20000 := by
  unfold sharesL
  split
  · rw [List.getD_eq_getElem?_getD, List.getElem?_map]
    rcases hx : (List.range xs.length)[i]? with _ | j
    · show (0 : Int) ≤ 0 ∧ (0 : Int) ≤ 20000
      exact ⟨by decide, by decide⟩
    · exact loadL.ofZ_in xs _ _ _ j
  · simp
theorem lev_in (l : List Int) (d : Int) : ∀ n, -1 ≤ loadF.lev l d n ∧ loadF.lev l d n < n
  | 0 => by unfold loadF.lev; decide
  | k + 1 => by
    have := lev_in l d k
    unfold loadF.lev
    split <;> omega
theorem below_10 {x : Int} (h0 : 0 ≤ x) (h1 : x < 18446744073709551616) : 0 ≤ mixB.below x 10000 ∧ mixB.below x 10000 < 10000 := by
  unfold mixB.below
  rw [if_neg (by decide)]
  exact mixB.mul_lt h0 h1 (by decide)
/-- The level that a key draws. -/
noncomputable def levelW (m : List Nd) (W : Nat → Int) (seed fac f key : Int) : Int := loadH.backZ (loadF.lev (loadsW m W fac f) (mixB.below (mixD.ofZ seed [key]) 10000) (loadsW m W fac f).length) f (loadsW m W fac f).length
set_option maxHeartbeats 8000000 in
set_option maxRecDepth 100000 in
theorem level_w {z w : World} {g S T q0 : Nat} {fac seed : Int} {m : List Nd} {W : Nat → Int} (hs : SetOk z S T q0 m W) (h : WSt z g fac seed w) (hm : m.length ≤ 60) (f key : Int) :
    Calls Tryz.prog 24 #[.pointer (some ⟨g, 0, none⟩), .pointer (some ⟨S, 0, none⟩), .int .i64 f, .int .u64 key] w fun o w' => o = .returned (.int .i64 (levelW m W seed fac f key)) ∧ Below w.heap.size w w' := by
  have HL := Lib.hid (walkH.loads_any hs h hm f)
  have HW := Lib.hid h
  have HV := Lib.hid (show levelW m W seed fac f key = loadH.backZ (loadF.lev (loadsW m W fac f) (mixB.below (mixD.ofZ seed [key]) 10000) (loadsW m W fac f).length) f (loadsW m W fac f).length from rfl)
  have HLE := Lib.hid (show (loadsW m W fac f).length ≤ 4 from shares_len _ _ _)
  have HIN := Lib.hid (show ∀ i, 0 ≤ (loadsW m W fac f).getD i 0 ∧ (loadsW m W fac f).getD i 0 ≤ 20000 from fun i => shares_in _ _ _ i)
  obtain ⟨l, hl⟩ : ∃ l, l = loadsW m W fac f := ⟨_, rfl⟩
  rw [← hl] at HL HV HLE HIN
  obtain ⟨n, hn⟩ : ∃ n, n = l.length := ⟨_, rfl⟩
  have HN := Lib.hid hn
  rw [← hn] at HV HLE
  obtain ⟨res, hres⟩ : ∃ res, res = levelW m W seed fac f key := ⟨_, rfl⟩
  rw [← hres] at HV ⊢
  clear hs h hl hn hres
  go_enter Tryz.func24, Tryz.ntmps24
  go_wp2_with fail
  refine HL.out.mono ?_
  rintro o w1 ⟨v, rfl, ho, hb⟩
  have HB := Lib.hid hb
  obtain ⟨A, c, hv⟩ := own_slice ho
  subst hv
  rw [← HN.out] at ho ⊢
  have HO := Lib.hid ho
  have c5 : w1.cell? ⟨g, 5, none⟩ = some (.int .u64 seed) := (HW.out.below hb).c5
  obtain ⟨w2, hw2⟩ : ∃ w2, w2 = w1.alloc (.cells #[.int .u64 key] 24) := ⟨_, rfl⟩
  have hb2 : Below w1.heap.size w1 w2 := hw2 ▸ (Below.refl _ _).alloc (Nat.le_refl _) _
  have hr : Row w2 (w1.heap.size + 1) (some ⟨w1.heap.size, 0, none⟩) ([key].map (.int .u64)) := .inr ⟨w1.heap.size, 0, rfl, by omega, fun i u hu => by
    rw [Nat.zero_add, hw2, (Blk.new w1 24 #[.int .u64 key]).cell i]
    simpa using hu⟩
  have HM := Lib.hid (mixD.of_any seed _ 1 1 [key] _ _ rfl (by omega) hr)
  have hmi := strA.mix_in seed key
  obtain ⟨x, hx⟩ : ∃ x, x = mixD.ofZ seed [key] := ⟨_, rfl⟩
  rw [← hx] at HM HV hmi
  have HBW := Lib.hid (mixB.below_any x 10000 hmi.1 hmi.2 (by omega) (by omega) w2)
  have hbd := below_10 hmi.1 hmi.2
  obtain ⟨y, hy⟩ : ∃ y, y = mixB.below x 10000 := ⟨_, rfl⟩
  rw [← hy] at HBW HV hbd
  have HLV := Lib.hid (loadF.level_any A n c l y w2 HN.out.symm HLE.out (fun i _ => by have := HIN.out i; omega) (own_row (show w2.ownsRow w.heap.size 3 1 (.slice A n c) n (l.map (.int .i64)) from by
    have h1 := (show OwnI w1 w.heap.size (.slice A n c) l from ho).below hb2
    unfold OwnI at h1
    rwa [← HN.out] at h1)) (by omega) (by omega))
  have hli := lev_in l y n
  obtain ⟨q, hq⟩ : ∃ q, q = loadF.lev l y n := ⟨_, rfl⟩
  rw [← hq] at HLV HV hli
  have HBK := Lib.hid (loadH.back_any q f n (by have := HLE.out; omega) (by omega) (by have := HLE.out; omega) w2)
  have HB2 := Lib.hid (hb.trans (hb2.mono hb.size))
  have HW2 := Lib.hid hw2
  have hle := HLE.out
  clear hb hb2 hw2 hr hx hy hq ho hmi hbd hli
  go_wp2_with fail
  rw [← HW2.out]
  refine HM.out.mono ?_
  rintro o w' ⟨rfl, rfl⟩
  go_wp2_with fail
  refine HBW.out.mono ?_
  rintro o w' ⟨rfl, rfl⟩
  go_wp2_with fail
  refine HLV.out.mono ?_
  rintro o w' ⟨rfl, rfl⟩
  go_wp2_with fail
  refine HBK.out.mono ?_
  rintro o w' ⟨rfl, rfl⟩
  go_wp2_with fail
  go_ret
  exact ⟨by rw [HV.out]; rfl, HB2.out⟩
end Go.Proofs.YtoaboklckkcjcaaGreat.walkL
/- Layer 26: the host that a walker picks. -/
namespace Go.Proofs.YtoaboklckkcjcaaGreat.walkM
open Go.ChangeShapes Go.WideShapes Go.ChangeAt Go.RowKit
open Go.Proofs.YtoaboklckkcjcaaGreat.base Go.Proofs.YtoaboklckkcjcaaGreat.dfA Go.Proofs.YtoaboklckkcjcaaGreat.treB Go.Proofs.YtoaboklckkcjcaaGreat.treD Go.Proofs.YtoaboklckkcjcaaGreat.treM Go.Proofs.YtoaboklckkcjcaaGreat.treW Go.Proofs.YtoaboklckkcjcaaGreat.eliW Go.Proofs.YtoaboklckkcjcaaGreat.eliB Go.Proofs.YtoaboklckkcjcaaGreat.eliG Go.Proofs.YtoaboklckkcjcaaGreat.eliH Go.Proofs.YtoaboklckkcjcaaGreat.onceBw Go.Proofs.YtoaboklckkcjcaaGreat.walkA Go.Proofs.YtoaboklckkcjcaaGreat.walkB Go.Proofs.YtoaboklckkcjcaaGreat.walkC Go.Proofs.YtoaboklckkcjcaaGreat.walkG Go.Proofs.YtoaboklckkcjcaaGreat.walkL
set_option linter.unusedVariables false

theorem loads_len (m : List Nd) (W : Nat → Int) (fac f : Int) : (loadsW m W fac f).length ≤ (ofK m 1 m.length).length := by
  unfold loadsW sharesL
  split
  · rw [List.length_map, List.length_range, turnL_len]
    unfold haveL
    rw [List.length_map, List.length_range]
    exact Nat.le_refl _
  · exact Nat.zero_le _
theorem level_range (m : List Nd) (W : Nat → Int) (seed fac f key : Int) : levelW m W seed fac f key = -1 ∨ (0 ≤ levelW m W seed fac f key ∧ levelW m W seed fac f key < ((ofK m 1 m.length).length : Int)) := by
  have h1 := loads_len m W fac f
  have h2 := lev_in (loadsW m W fac f) (mixB.below (mixD.ofZ seed [key]) 10000) (loadsW m W fac f).length
  unfold levelW loadH.backZ
  split
  · omega
  · split <;> omega
/-- The way down to the host that a key picks. -/
noncomputable def wayW (m : List Nd) (W : Nat → Int) (seed fac f key : Int) : List Int := if levelW m W seed fac f key = -1 then [] else downW m W seed key ((ofK m 1 m.length).getD (levelW m W seed fac f key).toNat 0)
noncomputable def hostW (m : List Nd) (W : Nat → Int) (seed fac f key : Int) : Int := (wayW m W seed fac f key).getLast?.getD (-1)
set_option maxHeartbeats 8000000 in
set_option maxRecDepth 100000 in
theorem host_w {z w : World} {g S T q0 : Nat} {fac seed : Int} {m : List Nd} {W : Nat → Int} (hs : SetOk z S T q0 m W) (h : WSt z g fac seed w) (hm : m.length ≤ 60) (hW : ∀ i, 0 ≤ W i ∧ W i < 18446744073709551616) (f key : Int) :
    Calls Tryz.prog 21 #[.pointer (some ⟨g, 0, none⟩), .pointer (some ⟨S, 0, none⟩), .int .i64 f, .int .u64 key] w (WPost z g fac seed (.int .i64 (hostW m W seed fac f key)) w) := by
  have HL := Lib.hid (level_w hs h hm f key)
  have HW := Lib.hid h
  have HSZ := Lib.hid hs
  have HRG := Lib.hid (level_range m W seed fac f key)
  have HWY := Lib.hid (show wayW m W seed fac f key = if levelW m W seed fac f key = -1 then [] else downW m W seed key ((ofK m 1 m.length).getD (levelW m W seed fac f key).toNat 0) from rfl)
  have HH := Lib.hid (show hostW m W seed fac f key = (wayW m W seed fac f key).getLast?.getD (-1) from rfl)
  have HDN := Lib.hid (show ∀ V, WSt z g fac seed V → ∀ a, Calls Tryz.prog 14 #[.pointer (some ⟨g, 0, none⟩), .pointer (some ⟨S, 0, none⟩), .int .i64 a, .int .u64 key] V (DPost z g fac seed (downW m W seed key a) V) from fun V hV a => down_any hs hV hW a key)
  have HLS := Lib.hid (show ∀ V, WSt z g fac seed V → V.cell? ⟨S, 0, none⟩ = some (.pointer (some ⟨T, 0, none⟩)) ∧ Calls Tryz.prog 55 #[.pointer (some ⟨T, 0, none⟩)] V fun o w' => ∃ v, o = .returned v ∧ OwnI w' V.heap.size v (ofK m 1 m.length) ∧ Below V.heap.size V w' from fun V hV => by
    have h1 := hs.below hV.bel
    obtain ⟨A2, c2, K2, kc2, ht2⟩ := h1.tree.at_
    exact ⟨h1.set.cell 0, levels_any ht2 (by omega)⟩)
  obtain ⟨x, hx⟩ : ∃ x, x = levelW m W seed fac f key := ⟨_, rfl⟩
  obtain ⟨wy, hwy⟩ : ∃ wy, wy = wayW m W seed fac f key := ⟨_, rfl⟩
  obtain ⟨res, hres⟩ : ∃ res, res = hostW m W seed fac f key := ⟨_, rfl⟩
  rw [← hx] at HL HRG HWY
  rw [← hwy] at HWY HH
  rw [← hres] at HH ⊢
  have hg := h.lt
  clear hs h hW hx hwy hres
  go_enter Tryz.func21, Tryz.ntmps21
  go_wp2_with fail
  refine HL.out.mono ?_
  rintro o w1 ⟨rfl, hb⟩
  have HW1 := Lib.hid (HW.out.below hb)
  have HA1 := Lib.hid (asideB (g := g) hb)
  clear hb
  rcases HRG.out with rfl | hr
  · have HRS := Lib.hid (show res = -1 from by rw [HH.out, HWY.out, if_pos rfl]; rfl)
    go_wp2_with fail
    go_ret
    exact ⟨by rw [HRS.out]; rfl, HW1.out, HA1.out⟩
  · have hxn : x ≠ -1 := by omega
    have t1 : (x == -1) = false := beq_false_of_ne hxn
    obtain ⟨k, rfl⟩ : ∃ k : Nat, x = (k : Int) := ⟨x.toNat, by omega⟩
    have hk : k < (ofK m 1 m.length).length := by omega
    have HW2 := HWY.out
    rw [if_neg hxn, Int.toNat_natCast, List.getD_eq_getElem?_getD, List.getElem?_eq_getElem hk] at HW2
    have d0 := (HLS.out w1 HW1.out).1
    have HLC := Lib.hid (HLS.out w1 HW1.out).2
    clear hr hxn
    go_wp2_with fail
    refine HLC.out.mono ?_
    rintro o w2 ⟨v, rfl, ho, hb⟩
    have HWb := Lib.hid (HW1.out.below hb)
    have HAb := Lib.hid (HA1.out.below hb)
    have ho2 := ho
    unfold OwnI at ho2
    obtain ⟨gk, ck, hvk, hgk, hgl, hc1, hc2, hck, _⟩ := own_form ho2 (by omega)
    subst hvk
    obtain ⟨nl, hnl⟩ : ∃ nl, nl = (ofK m 1 m.length).length := ⟨_, rfl⟩
    obtain ⟨a, ha⟩ : ∃ a, a = (ofK m 1 m.length)[k] := ⟨_, rfl⟩
    have c0 : w2.cell? ⟨gk, k, none⟩ = some (.int .i64 a) := by
      rw [hck k hk, List.getElem?_map, List.getElem?_eq_getElem hk, ha]
      rfl
    rw [← hnl] at hk ⊢
    have HD := Lib.hid (HDN.out w2 HWb.out a)
    have HWA := Lib.hid (show wy = downW m W seed key a from by rw [HW2, ha]; rfl)
    have p0 : (0 : Int) ≤ k := by omega
    have p1 : (k : Int) < nl := by omega
    rw [← HWA.out] at HD
    clear hb ho ho2 hck hnl ha HW2 d0
    go_wp2_with fail
    refine HD.out.mono ?_
    rintro o w3 ⟨v3, rfl, ho3, hw3, ha3⟩
    have HW3 := Lib.hid hw3
    have HA3 := Lib.hid (HAb.out.trans ha3)
    obtain ⟨A3, c3, hv3⟩ := own_slice ho3
    subst hv3
    obtain ⟨n3, hn3⟩ : ∃ n, n = wy.length := ⟨_, rfl⟩
    by_cases hz : wy = []
    · subst hz
      have HRS := Lib.hid (show res = -1 from by rw [HH.out]; rfl)
      have hn0 : n3 = 0 := by rw [hn3]; rfl
      rw [← hn3, hn0]
      clear ho3 hw3 ha3 hn3
      go_wp2_with fail
      go_ret
      exact ⟨by rw [HRS.out]; rfl, HW3.out, HA3.out⟩
    · have hpos : 0 < wy.length := List.length_pos_iff.mpr hz
      obtain ⟨p, hp⟩ : ∃ p, n3 = p + 1 := ⟨n3 - 1, by omega⟩
      subst hp
      have ho4 := ho3
      unfold OwnI at ho4
      obtain ⟨g4, c4, hv4, hg4, hgl4, hd1, hd2, hc4, _⟩ := own_form ho4 hpos
      injection hv4 with hv1 hv2 hv3
      subst hv1 hv3
      have HRS := Lib.hid (show res = wy[p]'(by omega) from by
        rw [HH.out, List.getLast?_eq_getElem?, show wy.length - 1 = p by omega, List.getElem?_eq_getElem (by omega)]
        rfl)
      have c1 : w3.cell? ⟨g4, p, none⟩ = some (.int .i64 res) := by
        rw [hc4 p (by omega), List.getElem?_map, List.getElem?_eq_getElem (by omega), HRS.out]
        rfl
      rw [← hn3]
      have q0' : (0 : Int) ≤ p := by omega
      have q1' : (p : Int) < (p : Int) + 1 := by omega
      have t2 : (((p : Int) + 1) == 0) = false := beq_false_of_ne (by omega)
      have hdl : p + 1 ≤ c3 := by omega
      have hps : p ≤ 9223372036854775806 := by
        try unfold maxLen at hd2
        omega
      clear ho3 hw3 ha3 hc4 ho4 HRS hd1 hd2 hz hpos
      clear hn3
      go_wp2_with fail
      go_ret
      exact ⟨rfl, HW3.out, HA3.out⟩
end Go.Proofs.YtoaboklckkcjcaaGreat.walkM
/- Layer 26: which ways there are, in plain words. -/
namespace Go.Proofs.YtoaboklckkcjcaaGreat.walkN
open Go.ChangeShapes Go.WideShapes Go.ChangeAt Go.RowKit
open Go.Proofs.YtoaboklckkcjcaaGreat.base Go.Proofs.YtoaboklckkcjcaaGreat.dfA Go.Proofs.YtoaboklckkcjcaaGreat.treB Go.Proofs.YtoaboklckkcjcaaGreat.treG Go.Proofs.YtoaboklckkcjcaaGreat.treM Go.Proofs.YtoaboklckkcjcaaGreat.treW Go.Proofs.YtoaboklckkcjcaaGreat.eliW Go.Proofs.YtoaboklckkcjcaaGreat.strA Go.Proofs.YtoaboklckkcjcaaGreat.eliB Go.Proofs.YtoaboklckkcjcaaGreat.walkA Go.Proofs.YtoaboklckkcjcaaGreat.walkC Go.Proofs.YtoaboklckkcjcaaGreat.walkE
set_option linter.unusedVariables false

theorem pk_none (key : Int) (l : List (Int × Int)) : ∀ k, pk key l k = none → ∀ i, i < k → ¬ 0 < (l.getD i (0, 0)).2
  | 0, _, i, hi => by omega
  | k + 1, h, i, hi => by
    unfold pk at h
    by_cases hw : 0 < (l.getD k (0, 0)).2
    · rw [if_pos hw] at h
      rcases hp : pk key l k with _ | j
      · rw [hp] at h; cases h
      · rw [hp] at h
        simp only at h
        split at h <;> cases h
    · rw [if_neg hw] at h
      by_cases e : i = k
      · subst e; exact hw
      · exact pk_none key l k h i (by omega)
theorem kid_ab {m : List Nd} {a b : Nat} (hb : b < m.length) (h : kidB (m.getD b zNd) a = true) : (ndAt m b).ab = (a : Int) := by
  have hgd : m.getD b zNd = m[b] := by rw [List.getD_eq_getElem?_getD, List.getElem?_eq_getElem hb]; rfl
  rw [hgd] at h
  unfold kidB at h
  rw [treW.ndAt_nat hb]
  simp only [Bool.and_eq_true, beq_iff_eq] at h
  exact h.2
theorem kidsP_nat {m : List Nd} {a : Nat} (ha : a < m.length) : kidsP m (a : Int) = kidsL m m.length a := by
  unfold kidsP isB
  rw [if_pos (by simp; omega), Int.toNat_natCast]
theorem kidsL_mem (m : List Nd) (a b : Nat) (h : kidB (m.getD b zNd) a = true) : ∀ k, b < k → (b : Int) ∈ kidsL m k a
  | 0, h0 => by omega
  | k + 1, h0 => by
    unfold kidsL
    by_cases e : b = k
    · subst e
      rw [if_pos h]
      exact List.mem_append_right _ (List.mem_singleton.mpr rfl)
    · have := kidsL_mem m a b h k (by omega)
      split
      · exact List.mem_append_left _ this
      · exact this
theorem kid_b {m : List Nd} (hf : Fine m) {a b : Nat} (hb : b < m.length) (h : (ndAt m b).ab = (a : Int)) : kidB (m.getD b zNd) a = true := by
  have hgd : m.getD b zNd = m[b] := by rw [List.getD_eq_getElem?_getD, List.getElem?_eq_getElem hb]; rfl
  rw [hgd]
  rw [treW.ndAt_nat hb] at h
  unfold kidB
  have h1 : (m[b]).kind ≠ 1 := fun e => by have := hf.lev b hb e; omega
  simp [h, h1]
theorem zero_kids {m : List Nd} (hf : Fine m) (hh : Heavy m) (H : List Int) {a : Nat} (ha : a < m.length) (hk : (ndAt m a).kind ≠ 4) (hz : F m H a = 0) : ∀ x ∈ kidsP m (a : Int), wtOf m (F m H) x = 0 := fun x hx => by
  rw [kidsP_nat ha] at hx
  obtain ⟨b, rfl, hb, hkb⟩ := kidsL_ab m _ _ x hx
  rw [wt_nat hb]
  have hab := kid_ab hb hkb
  have hS : SF m H a = 0 := by
    have h1 := F_eq hf H ha
    rw [if_neg hk, hz] at h1
    by_cases hc : (ndAt m a).wt ≠ 0 ∧ SF m H a ≠ 0
    · rw [if_pos hc] at h1
      exact absurd h1.symm hc.1
    · rw [if_neg hc] at h1
      exact h1.symm
  have hn := sumF_ne (g := gF m H a) (fun q => gF_lo hh H a q) m.length
  have hg : ¬ gF m H a b ≠ 0 := fun h => absurd hS (hn.mpr ⟨b, hb, h⟩)
  have hg2 : gF m H a b = F m H b := by unfold gF; rw [if_pos hab]
  rw [hg2] at hg
  exact Decidable.not_not.mp hg
theorem items_at (m : List Nd) (W : Nat → Int) (a : Int) (j : Nat) (h : j < (kidsP m a).length) : (itemsW m W a).getD j (0, 0) = ((kidsP m a)[j], wtOf m W (kidsP m a)[j]) := by
  unfold itemsW
  rw [List.getD_eq_getElem?_getD, List.getElem?_map, List.getElem?_eq_getElem h]
  rfl
theorem items_len (m : List Nd) (W : Nat → Int) (a : Int) : (itemsW m W a).length = (kidsP m a).length := by unfold itemsW; rw [List.length_map]
/-- Where nothing weighs, no way leads down. -/
theorem none_way {m : List Nd} (hf : Fine m) (hh : Heavy m) (H : List Int) {a : Nat} (ha : a < m.length) (hk : (ndAt m a).kind ≠ 4) (hz : F m H a = 0) (seed key : Int) (f : Nat) : wayF m (F m H) seed key f (a : Int) = none := by
  cases f with
  | zero => rfl
  | succ f =>
    have hs : stepW m (F m H) seed key (a : Int) = -1 := by
      unfold stepW
      rcases hp : pk (mixD.ofZ seed [key, IntKind.u64.wrap (a : Int)]) (itemsW m (F m H) a) (itemsW m (F m H) a).length with _ | j
      · rfl
      · have h1 := pk_lt _ _ _ j hp
        rw [items_len] at h1
        rw [items_at m (F m H) a j h1.1] at h1
        have := zero_kids hf hh H ha hk hz _ (List.getElem_mem h1.1)
        have h2 : 0 < wtOf m (F m H) (kidsP m a)[j] := h1.2
        omega
    unfold wayF
    rw [if_neg (by simpa using hk), if_pos hs]
/-- Where something weighs, a way leads down to a host that weighs something; it stays below the same level. -/
theorem some_way {m : List Nd} (hf : Fine m) (hh : Heavy m) (H : List Int) (seed key : Int) : ∀ (f a : Nat), (ha : a < m.length) → 5 ≤ (f : Int) + (ndAt m a).kind → F m H a ≠ 0 →
    ∃ l h, wayF m (F m H) seed key f (a : Int) = some l ∧ l.getLast? = some (h : Int) ∧ ∃ hn : Nat, h = (hn : Int) ∧ hn < m.length ∧ (ndAt m hn).kind = 4 ∧ F m H hn ≠ 0 ∧ upF m 1 (hn : Int) = upF m 1 (a : Int)
  | 0, a, ha, hk, hz => by
    rw [treW.ndAt_nat ha] at hk
    have := hf.hi a ha
    omega
  | f + 1, a, ha, hk, hz => by
    unfold wayF
    by_cases h4 : (ndAt m a).kind = 4
    · rw [if_pos (by simpa using h4)]
      exact ⟨[(a : Int)], a, rfl, rfl, a, rfl, ha, h4, hz, rfl⟩
    · rw [if_neg (by simpa using h4)]
      have hS : SF m H a ≠ 0 := fun h0 => by
        have h1 := F_eq hf H ha
        rw [if_neg h4, h0, if_neg (by simp)] at h1
        exact hz h1
      obtain ⟨b, hb, hg⟩ := (sumF_ne (g := gF m H a) (fun q => gF_lo hh H a q) m.length).mp hS
      have hab : (ndAt m b).ab = (a : Int) := by
        unfold gF at hg
        by_cases e : (ndAt m b).ab = (a : Int)
        · exact e
        · rw [if_neg e] at hg; exact absurd rfl hg
      have hFb : F m H b ≠ 0 := by unfold gF at hg; rwa [if_pos hab] at hg
      have hmem : (b : Int) ∈ kidsP m (a : Int) := by
        rw [kidsP_nat ha]
        exact kidsL_mem m a b (kid_b hf hb hab) m.length hb
      obtain ⟨i, hi, hix⟩ := List.getElem_of_mem hmem
      have hstep : ∃ c : Nat, stepW m (F m H) seed key (a : Int) = (c : Int) ∧ c < m.length ∧ (c : Int) ∈ kidsP m (a : Int) ∧ F m H c ≠ 0 := by
        unfold stepW
        rcases hp : pk (mixD.ofZ seed [key, IntKind.u64.wrap (a : Int)]) (itemsW m (F m H) a) (itemsW m (F m H) a).length with _ | j
        · have h1 := pk_none _ _ _ hp i (by rw [items_len]; exact hi)
          rw [items_at m (F m H) a i hi, hix] at h1
          have h2 := F_lo hh H b
          have h3 : ¬ 0 < wtOf m (F m H) (b : Int) := h1
          rw [wt_nat hb] at h3
          omega
        · have h1 := pk_lt _ _ _ j hp
          rw [items_len] at h1
          rw [items_at m (F m H) a j h1.1] at h1
          have h2 : 0 < wtOf m (F m H) (kidsP m a)[j] := h1.2
          have hm := List.getElem_mem h1.1
          have hin := kidsP_in hm
          obtain ⟨c, hc⟩ : ∃ c : Nat, (kidsP m (a : Int))[j] = (c : Int) := ⟨((kidsP m (a : Int))[j]).toNat, by omega⟩
          rw [hc] at h2 hm hin
          rw [wt_nat (by omega)] at h2
          refine ⟨c, ?_, by omega, hm, by omega⟩
          show (kidsP m (a : Int)).getD j 0 = _
          rw [List.getD_eq_getElem?_getD, List.getElem?_eq_getElem h1.1]
          exact hc
      obtain ⟨c, e1, hc, hcm, hFc⟩ := hstep
      rw [e1, if_neg (by omega)]
      have hck := (kidsP_kind hf hcm).2.2
      obtain ⟨l, h, e2, e3, hn, e4, e5, e6, e7, e8⟩ := some_way hf hh H seed key f c hc (by omega) hFc
      rw [e2]
      refine ⟨(a : Int) :: l, h, rfl, ?_, hn, e4, e5, e6, e7, ?_⟩
      · rw [List.getLast?_cons, e3]; rfl
      · have hcab : (ndAt m c).ab = (a : Int) := by
          rw [kidsP_nat ha] at hcm
          obtain ⟨c', e, hc', hkb⟩ := kidsL_ab m _ _ _ hcm
          have : c' = c := by omega
          subst this
          exact kid_ab hc' hkb
        rw [treW.ndAt_nat hc] at hcab hck
        rw [treW.ndAt_nat ha] at hck
        have hlo := hf.lo a ha
        rw [e8, upF_step hf 1 hc (beq_false_of_ne (by omega)), hcab]
end Go.Proofs.YtoaboklckkcjcaaGreat.walkN
/- Layer 26: the law's own Host. -/
namespace Go.Proofs.YtoaboklckkcjcaaGreat.walkO
open Go.ChangeShapes Go.WideShapes Go.ChangeAt Go.RowKit
open Go.Proofs.YtoaboklckkcjcaaGreat.base Go.Proofs.YtoaboklckkcjcaaGreat.dfA Go.Proofs.YtoaboklckkcjcaaGreat.treB Go.Proofs.YtoaboklckkcjcaaGreat.treD Go.Proofs.YtoaboklckkcjcaaGreat.treG Go.Proofs.YtoaboklckkcjcaaGreat.treM Go.Proofs.YtoaboklckkcjcaaGreat.treW Go.Proofs.YtoaboklckkcjcaaGreat.eliW Go.Proofs.YtoaboklckkcjcaaGreat.eliB Go.Proofs.YtoaboklckkcjcaaGreat.eliH Go.Proofs.YtoaboklckkcjcaaGreat.walkA Go.Proofs.YtoaboklckkcjcaaGreat.walkC Go.Proofs.YtoaboklckkcjcaaGreat.walkE Go.Proofs.YtoaboklckkcjcaaGreat.walkG Go.Proofs.YtoaboklckkcjcaaGreat.walkL Go.Proofs.YtoaboklckkcjcaaGreat.walkM Go.Proofs.YtoaboklckkcjcaaGreat.walkN
set_option linter.unusedVariables false

theorem loads_full (m : List Nd) (W : Nat → Int) (fac f : Int) : (loadsW m W fac f).length = 0 ∨ (loadsW m W fac f).length = (ofK m 1 m.length).length := by
  unfold loadsW sharesL
  split
  · rw [List.length_map, List.length_range, turnL_len]
    unfold haveL
    rw [List.length_map, List.length_range]
    exact .inr rfl
  · exact .inl rfl
/-- Which of n levels is the k-th of those who begin at f. -/
def backN (k n : Nat) (f : Int) : Nat := if f < 0 ∨ (n : Int) ≤ f then k else (k + f.toNat) % n
theorem backN_lt {k n : Nat} {f : Int} (h : k < n) : backN k n f < n := by
  unfold backN
  split
  · exact h
  · exact Nat.mod_lt _ (by omega)
theorem back_eq {k n : Nat} {f : Int} (h : k < n) : loadH.backZ (k : Int) f n = (backN k n f : Int) := by
  unfold loadH.backZ backN
  by_cases hf : f < 0 ∨ (n : Int) ≤ f
  · rw [if_pos (by omega), if_pos hf]
  · rw [if_neg (by omega), if_neg hf]
    obtain ⟨q, rfl⟩ : ∃ q : Nat, f = (q : Int) := ⟨f.toNat, by omega⟩
    rw [Int.toNat_natCast]
    split
    · have : (k + q) % n = k + q - n := by
        rw [Nat.mod_eq_sub_mod (by omega), Nat.mod_eq_of_lt (by omega)]
      rw [this]
      omega
    · rw [Nat.mod_eq_of_lt (by omega)]
      omega
/-- Down, whether or not something weighs there. -/
theorem down_eq {m : List Nd} (hf : Fine m) (hh : Heavy m) (H : List Int) {a : Nat} (ha : a < m.length) (hk : (ndAt m a).kind ≠ 4) (seed key : Int) : downW m (F m H) seed key (a : Int) = (wayF m (F m H) seed key 4 (a : Int)).getD [] := by
  unfold downW
  rw [wt_nat ha]
  by_cases hz : F m H a = 0
  · rw [if_neg (by simp [hz]), none_way hf hh H ha hk hz]
    rfl
  · rw [if_pos (by simp [hz])]
/-- What the law's Host comes to, as it draws the k-th level. -/
theorem host_at {m : List Nd} (hf : Fine m) (hh : Heavy m) (H : List Int) (seed fac f key : Int) {k : Nat} (hk : k < (loadsW m (F m H) fac f).length) (h1 : loadF.pre (loadsW m (F m H) fac f) k ≤ mixB.below (mixD.ofZ seed [key]) 10000) (h2 : mixB.below (mixD.ofZ seed [key]) 10000 < loadF.pre (loadsW m (F m H) fac f) (k + 1)) :
    (loadsW m (F m H) fac f).length = (ofK m 1 m.length).length ∧ ∃ a : Nat, a < m.length ∧ (ofK m 1 m.length)[backN k (ofK m 1 m.length).length f]? = some (a : Int) ∧ levelW m (F m H) seed fac f key = (backN k (ofK m 1 m.length).length f : Int) ∧ hostW m (F m H) seed fac f key = (((wayF m (F m H) seed key 4 (a : Int)).getD []).getLast?).getD (-1) := by
  have hn : (loadsW m (F m H) fac f).length = (ofK m 1 m.length).length := by
    rcases loads_full m (F m H) fac f with h | h
    · omega
    · exact h
  refine ⟨hn, ?_⟩
  have hq := backN_lt (f := f) (show k < (ofK m 1 m.length).length by omega)
  obtain ⟨e1, e2, e3⟩ := lvA_in hq
  have hlev : levelW m (F m H) seed fac f key = (backN k (ofK m 1 m.length).length f : Int) := by
    unfold levelW
    rw [loadF.lev_at _ _ k _ hk h1 h2, hn, back_eq (by omega)]
  refine ⟨lvA m (backN k (ofK m 1 m.length).length f), e2, e1, hlev, ?_⟩
  unfold hostW wayW
  rw [hlev, if_neg (by omega), Int.toNat_natCast, List.getD_eq_getElem?_getD, e1]
  show (downW m (F m H) seed key (lvA m (backN k (ofK m 1 m.length).length f) : Int)).getLast?.getD (-1) = _
  rw [down_eq hf hh H e2 (by omega)]
theorem host_no (m : List Nd) (W : Nat → Int) (seed fac f key : Int) (h : loadF.pre (loadsW m W fac f) (loadsW m W fac f).length ≤ mixB.below (mixD.ofZ seed [key]) 10000) : levelW m W seed fac f key = -1 ∧ hostW m W seed fac f key = -1 := by
  have hlev : levelW m W seed fac f key = -1 := by
    unfold levelW
    rw [loadF.lev_none _ _ _ h]
    unfold loadH.backZ
    rw [if_pos (by omega)]
  refine ⟨hlev, ?_⟩
  unfold hostW wayW
  rw [hlev, if_pos rfl]
  rfl
set_option maxHeartbeats 16000000 in
set_option maxRecDepth 100000 in
theorem lhost_any {w : World} {A : Option Addr} {m : List Nd} {b c : Nat} {H : List Int} (h : LawIn w A m b (F m H)) (hcap : m.length ≤ c) (hcap2 : c ≤ 9223372036854775807) (hm : m.length ≤ 60) (hW : ∀ i, 0 ≤ F m H i ∧ F m H i < 18446744073709551616) (hf : Fine m) (hh : Heavy m) (f key seed fac : Int) :
    Calls Tryz.prog 22 #[.slice A m.length c, .slice (some ⟨b, 0, none⟩) m.length m.length, .int .i64 f, .int .u64 key, .int .u64 seed, .int .i64 fac] w fun o w' => o = .returned (.int .i64 (hostW m (F m H) seed fac f key)) ∧ Below w.heap.size w w' := by
  have HLO := Lib.hid (walkJ.lloads_any h hcap hcap2 hm (fun i => (hW i).1) hf f fac)
  have HLV := Lib.hid (show ∀ V, Below w.heap.size w V → Calls Tryz.prog 25 #[.slice A m.length c] V fun o w' => ∃ v, o = .returned v ∧ OwnI w' V.heap.size v (ofK m 1 m.length) ∧ Below V.heap.size V w' from fun V hV => walkI.levels_any (h.below hV).rd hcap hcap2 (by omega))
  have HDN := Lib.hid (show ∀ V, Below w.heap.size w V → ∀ a : Nat, a < m.length → Calls Tryz.prog 16 #[.slice A m.length c, .slice (some ⟨b, 0, none⟩) m.length m.length, .int .u64 seed, .int .i64 (a : Int), .int .u64 key] V fun o w' => ∃ v, o = .returned v ∧ OwnI w' V.heap.size v ((wayF m (F m H) seed key 4 a).getD []) ∧ Below V.heap.size V w' from fun V hV a ha => walkF.ldown_any (h.below hV) hcap hcap2 (by omega) hW hf seed key ha)
  have HAT := Lib.hid (fun (k : Nat) hk h1 h2 => host_at hf hh H seed fac f key (k := k) hk h1 h2)
  have HNO := Lib.hid (host_no m (F m H) seed fac f key)
  have HIN := Lib.hid (show ∀ i, 0 ≤ (loadsW m (F m H) fac f).getD i 0 ∧ (loadsW m (F m H) fac f).getD i 0 ≤ 20000 from fun i => shares_in _ _ _ i)
  have hle : (loadsW m (F m H) fac f).length ≤ (ofK m 1 m.length).length := loads_len m (F m H) fac f
  have hole := ofK_len m 1 m.length
  obtain ⟨lvs, hlvs⟩ : ∃ l, l = ofK m 1 m.length := ⟨_, rfl⟩
  rw [← hlvs] at HLV HAT hle hole
  obtain ⟨mn, hmn⟩ : ∃ mn, mn = m.length := ⟨_, rfl⟩
  obtain ⟨x, hx⟩ : ∃ x, x = loadsW m (F m H) fac f := ⟨_, rfl⟩
  rw [← hx] at HLO HAT HNO HIN
  have hmi := strA.mix_in seed key
  have hbd := below_10 hmi.1 hmi.2
  obtain ⟨mx, hmx⟩ : ∃ mx, mx = mixD.ofZ seed [key] := ⟨_, rfl⟩
  rw [← hmx] at hmi hbd HAT HNO
  obtain ⟨d, hd⟩ : ∃ d, d = mixB.below mx 10000 := ⟨_, rfl⟩
  rw [← hd] at hbd HAT HNO
  obtain ⟨res, hres⟩ : ∃ res, res = hostW m (F m H) seed fac f key := ⟨_, rfl⟩
  rw [← hres] at HAT HNO ⊢
  have HBW := Lib.hid (fun W => mixB.refbelow_any mx 10000 hmi.1 hmi.2 (by omega) (by omega) W)
  rw [← hd] at HBW
  rw [← hx] at hle
  have HMX := Lib.hid hmx
  have HMN := Lib.hid hmn
  obtain ⟨nl, hnl⟩ : ∃ nl, nl = lvs.length := ⟨_, rfl⟩
  rw [← hnl] at hle hole HAT
  obtain ⟨n, hn⟩ : ∃ n, n = x.length := ⟨_, rfl⟩
  rw [← hn] at hle
  have HX := Lib.hid hn
  rw [← hmn] at HLO HLV HDN ⊢
  clear h hW hf hh hx hmi hmx hd hres hmn hn hcap hcap2 hlvs
  go_enter Tryz.func22, Tryz.ntmps22
  go_wp2_with fail
  refine HLO.out.mono ?_
  rintro o w1 ⟨v, rfl, ho, hb⟩
  have HB1 := Lib.hid hb
  have HO1 := Lib.hid ho
  have hr : Row (w1.alloc (.cells #[.int .u64 key] 24)) (w1.heap.size + 1) (some ⟨w1.heap.size, 0, none⟩) ([key].map (.int .u64)) := .inr ⟨w1.heap.size, 0, rfl, by omega, fun i u hu => by
    rw [Nat.zero_add, (Blk.new w1 24 #[.int .u64 key]).cell i]
    simpa using hu⟩
  have HM := Lib.hid (mixD.refof_any seed _ 1 1 [key] _ _ rfl (by omega) hr)
  rw [← HMX.out] at HM
  obtain ⟨AX, cX, hv⟩ := own_slice ho
  subst hv
  rw [← HX.out]
  obtain ⟨w2, hw2⟩ : ∃ w2, w2 = w1.alloc (.cells #[.int .u64 key] 24) := ⟨_, rfl⟩
  have HW2 := Lib.hid hw2
  have HB2 := Lib.hid (show Below w.heap.size w w2 from hw2 ▸ hb.alloc hb.size _)
  have HO2 := Lib.hid (show OwnI w2 w.heap.size (.slice AX x.length cX) x from hw2 ▸ ho.alloc _)
  rw [← hw2] at HM
  clear hb ho hr hw2
  go_wp2_with fail
  rw [← HW2.out]
  refine HM.out.mono ?_
  rintro o w' ⟨rfl, rfl⟩
  go_wp2_with fail
  refine (HBW.out _).mono ?_
  rintro o w' ⟨rfl, rfl⟩
  go_wp2_with fail
  go_loopw [14, 15] (fun dr i wr => ∃ k : Nat, i = .int .i64 k ∧ k ≤ n ∧ dr = .int .i64 (d - loadF.pre x k) ∧ Hid (loadF.pre x k ≤ d) ∧ Hid (Below w2.heap.size w2 wr)) (fun _ i _ => n - (intOf i).toNat)
  case atStart => exact ⟨0, rfl, by omega, by rw [show loadF.pre x 0 = 0 from rfl, Int.sub_zero], Lib.hid (by show (0 : Int) ≤ d; exact hbd.1), Lib.hid (Below.refl _ _)⟩
  case round =>
    obtain ⟨k, rfl, hk, rfl, HPR, HBr⟩ := hrel
    have HB := Lib.hid (HB2.out.trans (HBr.out.mono HB2.out.size))
    by_cases hkn : k < n
    · have t1 : decide ((k : Int) < n) = true := decide_eq_true (by omega)
      have hkx : k < x.length := by have := HX.out; omega
      have ho6 := HO2.out
      unfold OwnI at ho6
      obtain ⟨gx, cx, hvx, hgx, hgxl, _, _, hcx, _⟩ := own_form ho6 (by omega)
      injection hvx with hv1 hv2 hv3
      subst hv1 hv3
      have hxk := HIN.out k
      have hpre : loadF.pre x (k + 1) = loadF.pre x k + max (x.getD k 0) 0 := rfl
      obtain ⟨xk, hxk2⟩ : ∃ xk, xk = x.getD k 0 := ⟨_, rfl⟩
      have c0 : wr.cell? ⟨gx, k, none⟩ = some (.int .i64 xk) := by
        rw [HBr.out.cell (p := ⟨gx, k, none⟩) hgxl, hcx k hkx, List.getElem?_map, List.getElem?_eq_getElem hkx, hxk2, List.getD_eq_getElem?_getD, List.getElem?_eq_getElem hkx]
        rfl
      rw [← hxk2] at hxk hpre
      have hpk := HPR.out
      have hp0 := loadF.pre_mono x (Nat.zero_le k)
      rw [show loadF.pre x 0 = 0 from rfl] at hp0
      have j0 : (0 : Int) ≤ k := by omega
      have j1 : (k : Int) < n := by omega
      have HATk := Lib.hid (HAT.out k)
      obtain ⟨pk', hpk'⟩ : ∃ p, p = loadF.pre x k := ⟨_, rfl⟩
      rw [← hpk'] at hpk hp0 hpre ⊢
      clear ho6 hcx hxk2 hgx hgxl
      by_cases hit : d - pk' < xk
      · have t2 : decide (d - pk' < xk) = true := decide_eq_true hit
        obtain ⟨hnn, a, ha, hqa, hlev, hhost⟩ := HATk.out hkx (by omega) (by omega)
        have hnl2 : n = nl := by have := HX.out; omega
        have hkl : k < nl := by omega
        obtain ⟨q, hq⟩ : ∃ q, q = backN k nl f := ⟨_, rfl⟩
        have hql : q < nl := hq ▸ backN_lt hkl
        rw [← hq] at hqa
        have i0' : (0 : Int) ≤ q := by omega
        have i1' : (q : Int) < nl := by omega
        rw [← HMN.out] at ha
        clear hlev hnn hpk' HAT HATk
        by_cases hf0 : f < 0
        · obtain rfl : q = k := by rw [hq]; unfold backN; rw [if_pos (.inl hf0)]
          have t3 : decide (0 ≤ f) = false := decide_eq_false (by omega)
          clear hq
          go_wp2_with fail
          refine (HLV.out wr HB.out).mono ?_
          rintro o w5 ⟨v5, rfl, ho5, hb5⟩
          have HB5 := Lib.hid (HB.out.trans (hb5.mono HB.out.size))
          have ho6 := ho5
          unfold OwnI at ho6
          obtain ⟨gk, ck, hvk, hgk, hgl, hc1, hc2, hck, _⟩ := own_form ho6 (by omega)
          subst hvk
          have c9 : w5.cell? ⟨gk, q, none⟩ = some (.int .i64 (a : Int)) := by
            rw [hck q (by omega), List.getElem?_map, hqa]
            rfl
          rw [← hnl]
          have HD5 := Lib.hid (HDN.out w5 HB5.out a ha)
          clear ho5 ho6 hb5 hck hgk hgl
          go_wp2_with fail
          refine HD5.out.mono ?_
          rintro o w6 ⟨v6, rfl, ho7, hb7⟩
          have HB6 := Lib.hid (HB5.out.trans (hb7.mono HB5.out.size))
          obtain ⟨A3, c3, hv3⟩ := own_slice ho7
          subst hv3
          obtain ⟨wy, hwy⟩ : ∃ wy, wy = (wayF m (F m H) seed key 4 (a : Int)).getD [] := ⟨_, rfl⟩
          rw [← hwy] at hhost ho7 ⊢
          obtain ⟨n3, hn3⟩ : ∃ n, n = wy.length := ⟨_, rfl⟩
          by_cases hz : wy = []
          · subst hz
            have HRS := Lib.hid (show res = -1 from by rw [hhost]; rfl)
            have hn0 : n3 = 0 := by rw [hn3]; rfl
            rw [← hn3, hn0]
            clear ho7 hb7 hn3 hwy hhost
            go_wp2_with fail
            go_ret
            exact ⟨by rw [HRS.out]; rfl, HB6.out⟩
          · have hpos : 0 < wy.length := List.length_pos_iff.mpr hz
            obtain ⟨p, hp⟩ : ∃ p, n3 = p + 1 := ⟨n3 - 1, by omega⟩
            subst hp
            have ho4 := ho7
            unfold OwnI at ho4
            obtain ⟨g4, c4, hv4, hg4, hgl4, hd1, hd2, hc4, _⟩ := own_form ho4 hpos
            injection hv4 with hv1 hv2 hv3
            subst hv1 hv3
            have HRS := Lib.hid (show res = wy[p]'(by omega) from by
              rw [hhost, List.getLast?_eq_getElem?, show wy.length - 1 = p by omega, List.getElem?_eq_getElem (by omega)]
              rfl)
            have c1 : w6.cell? ⟨g4, p, none⟩ = some (.int .i64 res) := by
              rw [hc4 p (by omega), List.getElem?_map, List.getElem?_eq_getElem (by omega), HRS.out]
              rfl
            rw [← hn3]
            have q0' : (0 : Int) ≤ p := by omega
            have q1' : (p : Int) < (p : Int) + 1 := by omega
            have t2 : (((p : Int) + 1) == 0) = false := beq_false_of_ne (by omega)
            have hps : p ≤ 9223372036854775806 := by
              try unfold maxLen at hd2
              omega
            clear ho7 hb7 hc4 ho4 HRS hd1 hd2 hz hpos hhost hwy
            clear hn3
            go_wp2_with fail
            go_ret
            exact ⟨rfl, HB6.out⟩
        · by_cases hf1 : (nl : Int) ≤ f
          · obtain rfl : q = k := by rw [hq]; unfold backN; rw [if_pos (.inr hf1)]
            have t3 : decide (0 ≤ f) = true := decide_eq_true (by omega)
            have t4 : decide (f < nl) = false := decide_eq_false (by omega)
            clear hq
            go_wp2_with fail
            refine (HLV.out wr HB.out).mono ?_
            rintro o w5 ⟨v5, rfl, ho5, hb5⟩
            have HB5 := Lib.hid (HB.out.trans (hb5.mono HB.out.size))
            have ho6 := ho5
            unfold OwnI at ho6
            obtain ⟨gk, ck, hvk, hgk, hgl, hc1, hc2, hck, _⟩ := own_form ho6 (by omega)
            subst hvk
            have c9 : w5.cell? ⟨gk, q, none⟩ = some (.int .i64 (a : Int)) := by
              rw [hck q (by omega), List.getElem?_map, hqa]
              rfl
            rw [← hnl]
            have HD5 := Lib.hid (HDN.out w5 HB5.out a ha)
            clear ho5 ho6 hb5 hck hgk hgl
            go_wp2_with fail
            refine HD5.out.mono ?_
            rintro o w6 ⟨v6, rfl, ho7, hb7⟩
            have HB6 := Lib.hid (HB5.out.trans (hb7.mono HB5.out.size))
            obtain ⟨A3, c3, hv3⟩ := own_slice ho7
            subst hv3
            obtain ⟨wy, hwy⟩ : ∃ wy, wy = (wayF m (F m H) seed key 4 (a : Int)).getD [] := ⟨_, rfl⟩
            rw [← hwy] at hhost ho7 ⊢
            obtain ⟨n3, hn3⟩ : ∃ n, n = wy.length := ⟨_, rfl⟩
            by_cases hz : wy = []
            · subst hz
              have HRS := Lib.hid (show res = -1 from by rw [hhost]; rfl)
              have hn0 : n3 = 0 := by rw [hn3]; rfl
              rw [← hn3, hn0]
              clear ho7 hb7 hn3 hwy hhost
              go_wp2_with fail
              go_ret
              exact ⟨by rw [HRS.out]; rfl, HB6.out⟩
            · have hpos : 0 < wy.length := List.length_pos_iff.mpr hz
              obtain ⟨p, hp⟩ : ∃ p, n3 = p + 1 := ⟨n3 - 1, by omega⟩
              subst hp
              have ho4 := ho7
              unfold OwnI at ho4
              obtain ⟨g4, c4, hv4, hg4, hgl4, hd1, hd2, hc4, _⟩ := own_form ho4 hpos
              injection hv4 with hv1 hv2 hv3
              subst hv1 hv3
              have HRS := Lib.hid (show res = wy[p]'(by omega) from by
                rw [hhost, List.getLast?_eq_getElem?, show wy.length - 1 = p by omega, List.getElem?_eq_getElem (by omega)]
                rfl)
              have c1 : w6.cell? ⟨g4, p, none⟩ = some (.int .i64 res) := by
                rw [hc4 p (by omega), List.getElem?_map, List.getElem?_eq_getElem (by omega), HRS.out]
                rfl
              rw [← hn3]
              have q0' : (0 : Int) ≤ p := by omega
              have q1' : (p : Int) < (p : Int) + 1 := by omega
              have t2 : (((p : Int) + 1) == 0) = false := beq_false_of_ne (by omega)
              have hps : p ≤ 9223372036854775806 := by
                try unfold maxLen at hd2
                omega
              clear ho7 hb7 hc4 ho4 HRS hd1 hd2 hz hpos hhost hwy
              clear hn3
              go_wp2_with fail
              go_ret
              exact ⟨rfl, HB6.out⟩
          · have t3 : decide (0 ≤ f) = true := decide_eq_true (by omega)
            have t4 : decide (f < nl) = true := decide_eq_true (by omega)
            obtain ⟨fn, rfl⟩ : ∃ fn : Nat, f = (fn : Int) := ⟨f.toNat, by omega⟩
            have hqe : q = (k + fn) % nl := by rw [hq]; unfold backN; rw [if_neg (by omega), Int.toNat_natCast]
            have hmod : ((k : Int) + fn).tmod nl = (q : Int) := by
              rw [hqe, Int.tmod_eq_emod_of_nonneg (by omega)]
              simp
            have hmod2 : ((k : Int) + fn) % nl = (q : Int) := by
              rw [hqe]
              simp
            rw [hnl] at hmod hmod2
            clear hq hqe
            go_wp2_with fail
            refine (HLV.out wr HB.out).mono ?_
            rintro o w5 ⟨v5, rfl, ho5, hb5⟩
            have HB5 := Lib.hid (HB.out.trans (hb5.mono HB.out.size))
            have ho6 := ho5
            unfold OwnI at ho6
            obtain ⟨gk, ck, hvk, hgk, hgl, hc1, hc2, hck, _⟩ := own_form ho6 (by omega)
            subst hvk
            have c9 : w5.cell? ⟨gk, q, none⟩ = some (.int .i64 (a : Int)) := by
              rw [hck q (by omega), List.getElem?_map, hqa]
              rfl
            rw [← hnl]
            have HD5 := Lib.hid (HDN.out w5 HB5.out a ha)
            clear ho5 ho6 hb5 hck hgk hgl
            go_wp2_with fail
            refine HD5.out.mono ?_
            rintro o w6 ⟨v6, rfl, ho7, hb7⟩
            have HB6 := Lib.hid (HB5.out.trans (hb7.mono HB5.out.size))
            obtain ⟨A3, c3, hv3⟩ := own_slice ho7
            subst hv3
            obtain ⟨wy, hwy⟩ : ∃ wy, wy = (wayF m (F m H) seed key 4 (a : Int)).getD [] := ⟨_, rfl⟩
            rw [← hwy] at hhost ho7 ⊢
            obtain ⟨n3, hn3⟩ : ∃ n, n = wy.length := ⟨_, rfl⟩
            by_cases hz : wy = []
            · subst hz
              have HRS := Lib.hid (show res = -1 from by rw [hhost]; rfl)
              have hn0 : n3 = 0 := by rw [hn3]; rfl
              rw [← hn3, hn0]
              clear ho7 hb7 hn3 hwy hhost
              go_wp2_with fail
              go_ret
              exact ⟨by rw [HRS.out]; rfl, HB6.out⟩
            · have hpos : 0 < wy.length := List.length_pos_iff.mpr hz
              obtain ⟨p, hp⟩ : ∃ p, n3 = p + 1 := ⟨n3 - 1, by omega⟩
              subst hp
              have ho4 := ho7
              unfold OwnI at ho4
              obtain ⟨g4, c4, hv4, hg4, hgl4, hd1, hd2, hc4, _⟩ := own_form ho4 hpos
              injection hv4 with hv1 hv2 hv3
              subst hv1 hv3
              have HRS := Lib.hid (show res = wy[p]'(by omega) from by
                rw [hhost, List.getLast?_eq_getElem?, show wy.length - 1 = p by omega, List.getElem?_eq_getElem (by omega)]
                rfl)
              have c1 : w6.cell? ⟨g4, p, none⟩ = some (.int .i64 res) := by
                rw [hc4 p (by omega), List.getElem?_map, List.getElem?_eq_getElem (by omega), HRS.out]
                rfl
              rw [← hn3]
              have q0' : (0 : Int) ≤ p := by omega
              have q1' : (p : Int) < (p : Int) + 1 := by omega
              have t2 : (((p : Int) + 1) == 0) = false := beq_false_of_ne (by omega)
              have hps : p ≤ 9223372036854775806 := by
                try unfold maxLen at hd2
                omega
              clear ho7 hb7 hc4 ho4 HRS hd1 hd2 hz hpos hhost hwy
              clear hn3
              go_wp2_with fail
              go_ret
              exact ⟨rfl, HB6.out⟩
      · have t2 : decide (d - pk' < xk) = false := decide_eq_false hit
        go_wp2_with fail
        go_roundw
        case rel => exact ⟨k + 1, by go_num, by omega, by rw [hpre]; congr 1; omega, Lib.hid (by rw [hpre]; omega), HBr⟩
        case measure => simp [intOf]; omega
    · have t1 : decide ((k : Int) < n) = false := decide_eq_false (by omega)
      have HRS := Lib.hid (show res = -1 from (HNO.out (by have h1 := HPR.out; have h2 := HX.out; rwa [show k = x.length by omega] at h1)).2)
      go_wp2_with fail
      go_ret
      exact ⟨by rw [HRS.out]; rfl, HB.out⟩
end Go.Proofs.YtoaboklckkcjcaaGreat.walkO
/- Layer 26: the host that is picked, in plain words. -/
namespace Go.Proofs.YtoaboklckkcjcaaGreat.walkP
open Go.ChangeShapes Go.WideShapes Go.ChangeAt Go.RowKit
open Go.Proofs.YtoaboklckkcjcaaGreat.base Go.Proofs.YtoaboklckkcjcaaGreat.dfA Go.Proofs.YtoaboklckkcjcaaGreat.treB Go.Proofs.YtoaboklckkcjcaaGreat.treD Go.Proofs.YtoaboklckkcjcaaGreat.treM Go.Proofs.YtoaboklckkcjcaaGreat.treW Go.Proofs.YtoaboklckkcjcaaGreat.eliW Go.Proofs.YtoaboklckkcjcaaGreat.eliB Go.Proofs.YtoaboklckkcjcaaGreat.eliG Go.Proofs.YtoaboklckkcjcaaGreat.eliH Go.Proofs.YtoaboklckkcjcaaGreat.walkA Go.Proofs.YtoaboklckkcjcaaGreat.walkC Go.Proofs.YtoaboklckkcjcaaGreat.walkE Go.Proofs.YtoaboklckkcjcaaGreat.walkG Go.Proofs.YtoaboklckkcjcaaGreat.walkL Go.Proofs.YtoaboklckkcjcaaGreat.walkM Go.Proofs.YtoaboklckkcjcaaGreat.walkN Go.Proofs.YtoaboklckkcjcaaGreat.walkO
set_option linter.unusedVariables false

/-- A host that is picked may be picked, and is below the level that is drawn. -/
theorem host_good {m : List Nd} (hf : Fine m) (hh : Heavy m) (H : List Int) (seed fac f key : Int) (h : hostW m (F m H) seed fac f key ≠ -1) :
    ∃ hn k : Nat, hostW m (F m H) seed fac f key = (hn : Int) ∧ hn < m.length ∧ (ndAt m hn).kind = 4 ∧ F m H hn ≠ 0 ∧ levelW m (F m H) seed fac f key = (k : Int) ∧ k < (ofK m 1 m.length).length ∧ levW m (upF m 1 (hn : Int)) m.length = (k : Int) := by
  by_cases hl : levelW m (F m H) seed fac f key = -1
  · exfalso
    apply h
    unfold hostW wayW
    rw [if_pos hl]
    rfl
  · obtain ⟨k, hk⟩ : ∃ k : Nat, levelW m (F m H) seed fac f key = (k : Int) := by
      rcases level_range m (F m H) seed fac f key with h1 | h1
      · exact absurd h1 hl
      · exact ⟨(levelW m (F m H) seed fac f key).toNat, by omega⟩
    have hkn : k < (ofK m 1 m.length).length := by
      rcases level_range m (F m H) seed fac f key with h1 | h1
      · exact absurd h1 hl
      · omega
    obtain ⟨e1, e2, e3⟩ := lvA_in hkn
    obtain ⟨a, ha⟩ : ∃ a, a = lvA m k := ⟨_, rfl⟩
    rw [← ha] at e1 e2 e3
    have hw : hostW m (F m H) seed fac f key = (downW m (F m H) seed key (a : Int)).getLast?.getD (-1) := by
      unfold hostW wayW
      rw [if_neg hl, hk, Int.toNat_natCast, List.getD_eq_getElem?_getD, e1]
      rfl
    rw [hw] at h ⊢
    by_cases hz : F m H a = 0
    · exfalso
      apply h
      unfold downW
      rw [wt_nat e2, if_neg (by simp [hz])]
      rfl
    · obtain ⟨l, h', e4, e5, hn, e6, e7, e8, e9, e10⟩ := some_way hf hh H seed key 4 a e2 (by omega) hz
      have hd : downW m (F m H) seed key (a : Int) = l := by
        unfold downW
        rw [wt_nat e2, if_pos (by simp [hz]), e4]
        rfl
      have hup : upF m 1 (hn : Int) = (a : Int) := by
        rw [e10]
        exact upF_here 1 e2 (by rw [treW.ndAt_nat e2] at e3; simp [e3])
      refine ⟨hn, k, by rw [hd, e5, e6]; rfl, e7, e8, e9, hk, hkn, ?_⟩
      obtain ⟨q, a', q1, q2, q3, q4, _, q5⟩ := lev_at hf e7
      rw [levW_is m _ m.length (Nat.le_refl _), q5]
      have : (a' : Int) = a := by rw [← q4, hup]
      have hqk : q = k := lev_inj (by rw [q3, this]) e1
      rw [hqk]
end Go.Proofs.YtoaboklckkcjcaaGreat.walkP
/- Layer 26: if a host can be picked, one is. -/
namespace Go.Proofs.YtoaboklckkcjcaaGreat.walkQ
open Go.ChangeShapes Go.WideShapes Go.ChangeAt Go.RowKit
open Go.Proofs.YtoaboklckkcjcaaGreat.base Go.Proofs.YtoaboklckkcjcaaGreat.dfA Go.Proofs.YtoaboklckkcjcaaGreat.treB Go.Proofs.YtoaboklckkcjcaaGreat.treD Go.Proofs.YtoaboklckkcjcaaGreat.treF Go.Proofs.YtoaboklckkcjcaaGreat.treH Go.Proofs.YtoaboklckkcjcaaGreat.treM Go.Proofs.YtoaboklckkcjcaaGreat.treW Go.Proofs.YtoaboklckkcjcaaGreat.eliW Go.Proofs.YtoaboklckkcjcaaGreat.eliB Go.Proofs.YtoaboklckkcjcaaGreat.eliG Go.Proofs.YtoaboklckkcjcaaGreat.eliH Go.Proofs.YtoaboklckkcjcaaGreat.walkA Go.Proofs.YtoaboklckkcjcaaGreat.walkC Go.Proofs.YtoaboklckkcjcaaGreat.walkE Go.Proofs.YtoaboklckkcjcaaGreat.walkG Go.Proofs.YtoaboklckkcjcaaGreat.walkL Go.Proofs.YtoaboklckkcjcaaGreat.walkM Go.Proofs.YtoaboklckkcjcaaGreat.walkN Go.Proofs.YtoaboklckkcjcaaGreat.walkO
set_option linter.unusedVariables false

theorem ofK_take (m : List Nd) (kind : Int) (k : Nat) (hk : k ≤ m.length) : ofK (m.take k) kind k = ofK m kind k := by
  unfold ofK
  congr 1
  refine List.filter_congr fun i hi => ?_
  have : i < k := List.mem_range.mp hi
  rw [List.getD_eq_getElem?_getD, List.getD_eq_getElem?_getD, List.getElem?_take_of_lt this]
theorem four_levels {m : List Nd} (hg : treH.GoodTo m m.length) : ∀ k, k ≤ m.length → (ofK m 1 k).length ≤ 4
  | 0, _ => by simp [ofK]
  | k + 1, hk => by
    have ih := four_levels hg k (by omega)
    have hkm : k < m.length := by omega
    rw [ofK_next hkm]
    by_cases h1 : ((m[k]).kind == 1) = true
    · rw [if_pos h1, List.length_append]
      have hw := hg k hkm hkm
      unfold treH.whyF at hw
      by_cases hz : treE.whyZ (m.take k) m[k] = 0
      · rw [if_pos hz] at hw
        by_cases hfu : fullB (m.take k) (m[k]).kind = true
        · rw [if_pos hfu] at hw; exact absurd hw (by decide)
        · have hfb : fullB (m.take k) (m[k]).kind = false := by simpa using hfu
          unfold fullB at hfb
          rw [Bool.or_eq_false_iff] at hfb
          have h2 := hfb.2
          rw [if_pos (by simpa using h1), decide_eq_false_iff_not, List.length_take, Nat.min_eq_left (by omega), ofK_take m 1 k (by omega)] at h2
          simp
          omega
      · rw [if_neg hz] at hw
        exact absurd hw hz
    · rw [if_neg h1, List.append_nil]
      exact ih
theorem turn_at (l : List Int) (f : Int) (i : Nat) (hi : i < l.length) : (turnL l f).getD i 0 = l.getD (backN i l.length f) 0 := by
  unfold turnL backN
  by_cases hf : f < 0 ∨ (l.length : Int) ≤ f
  · rw [if_pos hf, if_pos hf]
  · rw [if_neg hf, if_neg hf]
    obtain ⟨q, rfl⟩ : ∃ q : Nat, f = (q : Int) := ⟨f.toNat, by omega⟩
    rw [Int.toNat_natCast]
    have hq : q < l.length := by omega
    rw [List.getD_eq_getElem?_getD, List.getD_eq_getElem?_getD]
    by_cases h : i < l.length - q
    · rw [List.getElem?_append_left (by rw [List.length_drop]; exact h), List.getElem?_drop, Nat.mod_eq_of_lt (by omega), Nat.add_comm]
    · rw [List.getElem?_append_right (by rw [List.length_drop]; omega), List.length_drop, List.getElem?_take_of_lt (by omega)]
      have : (i + q) % l.length = i - (l.length - q) := by
        rw [Nat.mod_eq_sub_mod (by omega), Nat.mod_eq_of_lt (by omega)]
        omega
      rw [this]
/-- Each level has a place among those who begin at f. -/
theorem back_on {n : Nat} (f : Int) (q : Nat) (hq : q < n) : ∃ i, i < n ∧ backN i n f = q := by
  by_cases hf : f < 0 ∨ (n : Int) ≤ f
  · exact ⟨q, hq, by unfold backN; rw [if_pos hf]⟩
  · obtain ⟨p, rfl⟩ : ∃ p : Nat, f = (p : Int) := ⟨f.toNat, by omega⟩
    have hp : p < n := by omega
    have e : ∀ i, backN i n (p : Int) = (i + p) % n := fun i => by
      unfold backN
      rw [if_neg hf, Int.toNat_natCast]
    by_cases h : p ≤ q
    · exact ⟨q - p, by omega, by rw [e, Nat.sub_add_cancel h, Nat.mod_eq_of_lt hq]⟩
    · exact ⟨q + n - p, by omega, by rw [e, Nat.sub_add_cancel (by omega), Nat.add_mod_right, Nat.mod_eq_of_lt hq]⟩
theorem cnt_mono {m : List Nd} {p p' : Nat → Bool} (h : ∀ x, p x = true → p' x = true) (a : Nat) : ∀ l, cntL m p a l ≤ cntL m p' a l
  | [] => Nat.le_refl _
  | x :: l => by
    have ih := cnt_mono (m := m) h a l
    unfold cntL
    by_cases e : (belU m x.toNat a && p x.toNat) = true
    · rw [if_pos e, if_pos (by rw [Bool.and_eq_true] at e ⊢; exact ⟨e.1, h _ e.2⟩)]
      omega
    · rw [if_neg e]
      split <;> omega
theorem cnt_pos {m : List Nd} {p : Nat → Bool} {a : Nat} : ∀ l : List Int, (∃ x ∈ l, belU m x.toNat a = true ∧ p x.toNat = true) ↔ 0 < cntL m p a l
  | [] => by simp [cntL]
  | y :: l => by
    have ih := cnt_pos (m := m) (p := p) (a := a) l
    unfold cntL
    constructor
    · rintro ⟨x, hx, h1, h2⟩
      rcases List.mem_cons.mp hx with rfl | hx
      · rw [if_pos (by rw [h1, h2]; rfl)]
        omega
      · have := ih.mp ⟨x, hx, h1, h2⟩
        omega
    · intro h
      by_cases e : (belU m y.toNat a && p y.toNat) = true
      · rw [Bool.and_eq_true] at e
        exact ⟨y, List.mem_cons_self .., e.1, e.2⟩
      · rw [if_neg e] at h
        obtain ⟨x, hx, h1⟩ := ih.mpr (by omega)
        exact ⟨x, List.mem_cons_of_mem _ hx, h1⟩
theorem pre_tab (v : Nat → Int) (hv : ∀ i, 0 ≤ v i) (n : Nat) : ∀ k, k ≤ n → loadF.pre ((List.range n).map v) k = loadC.sumF v k
  | 0, _ => rfl
  | k + 1, hk => by
    have ih := pre_tab v hv n k (by omega)
    show loadF.pre _ k + max (((List.range n).map v).getD k 0) 0 = loadC.sumF v k + v k
    rw [ih, List.getD_eq_getElem?_getD, List.getElem?_map, List.getElem?_range (by omega)]
    have := hv k
    show loadC.sumF v k + max (v k) 0 = _
    omega
theorem have_at (m : List Nd) (W : Nat → Int) (q : Nat) (hq : q < (ofK m 1 m.length).length) : (haveL m W).getD q 0 = ((cntL m (fun x => wtOf m W x != 0) (lvA m q) (ofK m 4 m.length) : Nat) : Int) := by
  unfold haveL
  rw [List.getD_eq_getElem?_getD, List.getElem?_map, List.getElem?_range hq]
  rfl
theorem all_at (m : List Nd) (q : Nat) (hq : q < (ofK m 1 m.length).length) : (allL m).getD q 0 = ((cntL m (fun _ => true) (lvA m q) (ofK m 4 m.length) : Nat) : Int) := by
  unfold allL
  rw [List.getD_eq_getElem?_getD, List.getElem?_map, List.getElem?_range hq]
  rfl
theorem have_len (m : List Nd) (W : Nat → Int) : (haveL m W).length = (ofK m 1 m.length).length := by unfold haveL; rw [List.length_map, List.length_range]
theorem all_len (m : List Nd) : (allL m).length = (ofK m 1 m.length).length := by unfold allL; rw [List.length_map, List.length_range]
/-- Where a host can be picked, one is. -/
theorem host_some {m : List Nd} (hg : treH.GoodTo m m.length) (hf : Fine m) (hh : Heavy m) (hm : m.length ≤ 60) (H : List Int) (seed fac f key : Int) (f1 : 100 ≤ fac) (f2 : fac ≤ 1000) {x : Nat} (hx : x < m.length) (h4 : (ndAt m x).kind = 4) (hz : F m H x ≠ 0) : hostW m (F m H) seed fac f key ≠ -1 := by
  have hnl4 := four_levels hg m.length (Nat.le_refl _)
  obtain ⟨nl, hnl⟩ : ∃ nl, nl = (ofK m 1 m.length).length := ⟨_, rfl⟩
  have hxl : (turnL (haveL m (F m H)) f).length = nl := by rw [turnL_len, have_len, hnl]
  have hyl : (turnL (allL m) f).length = nl := by rw [turnL_len, all_len, hnl]
  have hxi : ∀ i, i < nl → (turnL (haveL m (F m H)) f).getD i 0 = ((cntL m (fun x => wtOf m (F m H) x != 0) (lvA m (backN i nl f)) (ofK m 4 m.length) : Nat) : Int) := fun i hi => by
    have hb := backN_lt (f := f) hi
    rw [turn_at _ f i (by rw [have_len, ← hnl]; exact hi), have_len, ← hnl, have_at m _ _ (by rw [← hnl]; exact hb)]
  have hyi : ∀ i, i < nl → (turnL (allL m) f).getD i 0 = ((cntL m (fun _ => true) (lvA m (backN i nl f)) (ofK m 4 m.length) : Nat) : Int) := fun i hi => by
    have hb := backN_lt (f := f) hi
    rw [turn_at _ f i (by rw [all_len, ← hnl]; exact hi), all_len, ← hnl, all_at m _ (by rw [← hnl]; exact hb)]
  obtain ⟨xs, hxs⟩ : ∃ l, l = turnL (haveL m (F m H)) f := ⟨_, rfl⟩
  obtain ⟨ys, hys⟩ : ∃ l, l = turnL (allL m) f := ⟨_, rfl⟩
  rw [← hxs] at hxl hxi
  rw [← hys] at hyl hyi
  have hright : loadB.rightP xs ys fac := by
    refine ⟨by rw [hxl, hyl], by rw [hxl]; omega, f1, f2, fun i hi => ?_⟩
    rw [hxl] at hi
    unfold loadB.okp
    rw [hxi i hi, hyi i hi]
    have c1 := cnt_mono (m := m) (p := fun x => wtOf m (F m H) x != 0) (p' := fun _ => true) (fun _ _ => rfl) (lvA m (backN i nl f)) (ofK m 4 m.length)
    have c2 := cntL_le m (fun _ => true) (lvA m (backN i nl f)) (ofK m 4 m.length)
    have c3 := ofK_len m 4 m.length
    exact decide_eq_true ⟨by omega, by omega, by omega⟩
  have hsh : loadsW m (F m H) fac f = (List.range nl).map (loadD.ofZ xs nl (loadC.capZ (loadC.sumF (loadC.heaZ xs ys fac) nl)) (loadC.heaZ xs ys fac)) := by
    unfold loadsW sharesL
    rw [← hxs, ← hys, if_pos hright, hxl]
  have hlen : (loadsW m (F m H) fac f).length = nl := by rw [hsh, List.length_map, List.length_range]
  obtain ⟨q, a0, hq, ha0, hqa, hua, hka, _⟩ := lev_at hf hx
  rw [← hnl] at hq
  obtain ⟨i0, hi0, hib⟩ := back_on (n := nl) f q hq
  have hmemx : (x : Int) ∈ ofK m 4 m.length := by
    unfold ofK
    rw [List.mem_map]
    refine ⟨x, List.mem_filter.mpr ⟨List.mem_range.mpr hx, ?_⟩, rfl⟩
    rw [List.getD_eq_getElem?_getD, List.getElem?_eq_getElem hx]
    rw [treW.ndAt_nat hx] at h4
    simp [h4]
  have hpos0 : 0 < xs.getD i0 0 := by
    rw [hxi i0 hi0, hib]
    have : 0 < cntL m (fun x => wtOf m (F m H) x != 0) (lvA m q) (ofK m 4 m.length) := by
      refine (cnt_pos _).mp ⟨(x : Int), hmemx, ?_, ?_⟩
      · rw [Int.toNat_natCast, bel_lev (by rw [lvA_of hqa]; exact hka), hua, lvA_of hqa]
        simp
      · rw [Int.toNat_natCast]
        show (wtOf m (F m H) (x : Int) != 0) = true
        rw [wt_nat hx]
        simp [hz]
    omega
  have hfp : ∃ p, loadC.firstP xs nl = some p := by
    rcases hp : loadC.firstP xs nl with _ | p
    · exact absurd hpos0 (loadL.firstP_none xs nl hp i0 hi0)
    · exact ⟨p, rfl⟩
  obtain ⟨p, hp⟩ := hfp
  have hsum := loadL.sum_all xs nl (loadC.capZ (loadC.sumF (loadC.heaZ xs ys fac) nl)) (loadC.heaZ xs ys fac) p hp
  have hv0 : ∀ i, 0 ≤ loadD.ofZ xs nl (loadC.capZ (loadC.sumF (loadC.heaZ xs ys fac) nl)) (loadC.heaZ xs ys fac) i := fun i => (loadL.ofZ_in xs nl _ _ i).1
  have hmi := strA.mix_in seed key
  have hbd := below_10 hmi.1 hmi.2
  have hpre : loadF.pre (loadsW m (F m H) fac f) nl = 10000 := by rw [hsh, pre_tab _ hv0 nl nl (Nat.le_refl _), hsum]
  obtain ⟨k, hk, k1, k2⟩ := loadF.lev_some (loadsW m (F m H) fac f) (mixB.below (mixD.ofZ seed [key]) 10000) nl hbd.1 (by rw [hpre]; exact hbd.2)
  obtain ⟨_, a, ha, hka2, _, hhost⟩ := host_at hf hh H seed fac f key (k := k) (by rw [hlen]; exact hk) k1 k2
  rw [← hnl] at hka2
  have hk2 : 0 < loadD.ofZ xs nl (loadC.capZ (loadC.sumF (loadC.heaZ xs ys fac) nl)) (loadC.heaZ xs ys fac) k := by
    rw [hsh, pre_tab _ hv0 nl k (by omega)] at k1
    rw [hsh, pre_tab _ hv0 nl (k + 1) (by omega)] at k2
    have : loadC.sumF (loadD.ofZ xs nl (loadC.capZ (loadC.sumF (loadC.heaZ xs ys fac) nl)) (loadC.heaZ xs ys fac)) (k + 1) = loadC.sumF (loadD.ofZ xs nl (loadC.capZ (loadC.sumF (loadC.heaZ xs ys fac) nl)) (loadC.heaZ xs ys fac)) k + loadD.ofZ xs nl (loadC.capZ (loadC.sumF (loadC.heaZ xs ys fac) nl)) (loadC.heaZ xs ys fac) k := rfl
    omega
  have hxk : xs.getD k 0 ≠ 0 := fun e => by
    have hh0 : loadC.heaZ xs ys fac k = 0 := by
      unfold loadC.heaZ
      rw [e]
      exact loadL.health_none _ _
    have := loadL.ofZ_bare xs nl (loadC.capZ (loadC.sumF (loadC.heaZ xs ys fac) nl)) (loadC.heaZ xs ys fac) k hh0 e
    omega
  rw [hxi k hk, lvA_of (by exact hka2)] at hxk
  obtain ⟨y, hy, hy1, hy2⟩ := (cnt_pos (ofK m 4 m.length)).mpr (show 0 < cntL m (fun x => wtOf m (F m H) x != 0) a (ofK m 4 m.length) by omega)
  have hFa : F m H a ≠ 0 := by
    have hyy : ∃ yn : Nat, y = (yn : Int) ∧ yn < m.length ∧ (ndAt m yn).kind = 4 := by
      unfold ofK at hy
      rw [List.mem_map] at hy
      obtain ⟨yn, h1, h2⟩ := hy
      have h3 := List.mem_filter.mp h1
      have h5 := List.mem_range.mp h3.1
      refine ⟨yn, h2.symm, h5, ?_⟩
      have h6 := h3.2
      rw [List.getD_eq_getElem?_getD, List.getElem?_eq_getElem h5] at h6
      rw [treW.ndAt_nat h5]
      simpa using h6
    obtain ⟨yn, rfl, hyn, hy4⟩ := hyy
    rw [Int.toNat_natCast] at hy1 hy2
    have hy3 : (wtOf m (F m H) (yn : Int) != 0) = true := hy2
    rw [wt_nat hyn] at hy3
    refine (F_has hf hh H m.length a ha (by omega)).mpr ⟨yn, hyn, ?_, hy1⟩
    rw [← F_pk hf H hyn]
    simp [hy4]
    simpa using hy3
  have hk1 : (ndAt m a).kind = 1 := by
    have h1 := lvA_in (m := m) (q := backN k nl f) (by rw [← hnl]; exact backN_lt hk)
    have h2 : lvA m (backN k nl f) = a := lvA_of hka2
    rw [← h2]
    exact h1.2.2
  obtain ⟨l, h', e4, e5, hn, e6, _⟩ := some_way hf hh H seed key 4 a ha (by omega) hFa
  rw [hhost, e4]
  show l.getLast?.getD (-1) ≠ -1
  rw [e5, e6]
  show (hn : Int) ≠ -1
  omega
end Go.Proofs.YtoaboklckkcjcaaGreat.walkQ
