/- 4 texts in one. -/
import Derived.Deep.CutBlock
import Derived.Test.YtoaboklckkcjcaaGreatPk03
import Derived.Test.YtoaboklckkcjcaaGreatPk10
import Derived.Test.YtoaboklckkcjcaaGreatPk15
/- Layer 26: the law's own step. -/
namespace Go.Proofs.YtoaboklckkcjcaaGreat.walkE
open Go.ChangeShapes Go.WideShapes Go.ChangeAt Go.RowKit
open Go.Proofs.YtoaboklckkcjcaaGreat.base Go.Proofs.YtoaboklckkcjcaaGreat.dfA Go.Proofs.YtoaboklckkcjcaaGreat.treB Go.Proofs.YtoaboklckkcjcaaGreat.treD Go.Proofs.YtoaboklckkcjcaaGreat.treG Go.Proofs.YtoaboklckkcjcaaGreat.treM Go.Proofs.YtoaboklckkcjcaaGreat.treW Go.Proofs.YtoaboklckkcjcaaGreat.eliW Go.Proofs.YtoaboklckkcjcaaGreat.eliA Go.Proofs.YtoaboklckkcjcaaGreat.eliB Go.Proofs.YtoaboklckkcjcaaGreat.wideC Go.Proofs.YtoaboklckkcjcaaGreat.wideD Go.Proofs.YtoaboklckkcjcaaGreat.wideF Go.Proofs.YtoaboklckkcjcaaGreat.wideG Go.Proofs.YtoaboklckkcjcaaGreat.wideH Go.Proofs.YtoaboklckkcjcaaGreat.strA Go.Proofs.YtoaboklckkcjcaaGreat.walkA Go.Proofs.YtoaboklckkcjcaaGreat.walkC
set_option linter.unusedVariables false

theorem pk_app (key : Int) (l r : List (Int × Int)) : ∀ k, k ≤ l.length → pk key (l ++ r) k = pk key l k
  | 0, _ => rfl
  | k + 1, h => by
    have ih := pk_app key l r k (by omega)
    have e : ∀ i, i ≤ k → (l ++ r).getD i (0, 0) = l.getD i (0, 0) := fun i hi => by
      rw [List.getD_eq_getElem?_getD, List.getD_eq_getElem?_getD, List.getElem?_append_left (by omega)]
    unfold pk
    rw [ih, e k (Nat.le_refl _)]
    rcases hp : pk key l k with _ | j
    · rfl
    · have hj := (pk_lt key l k j hp).1
      simp only [e j (by omega)]
/-- The best kid of node a among the first k nodes: the first one with the shortest straw. -/
def bst (m : List Nd) (W : Nat → Int) (over : Int) (a : Nat) : Nat → Option Nat
  | 0 => none
  | k + 1 => if (kidB (m.getD k zNd) a && W k != 0) = true then (match bst m W over a k with
    | none => some k
    | some j => if cmpI (lenZ over k * W j) (lenZ over j * W k) < 0 then some k else some j) else bst m W over a k
theorem bst_lt (m : List Nd) (W : Nat → Int) (over : Int) (a : Nat) : ∀ k j, bst m W over a k = some j → j < k
  | 0, j, h => by cases h
  | k + 1, j, h => by
    have ih := bst_lt m W over a k
    unfold bst at h
    split at h
    · rcases hb : bst m W over a k with _ | q
      · rw [hb] at h
        injection h with h
        omega
      · rw [hb] at h
        simp only at h
        have := ih q hb
        split at h <;> (injection h with h; omega)
    · have := ih j h
      omega
def its (m : List Nd) (W : Nat → Int) (ks : List Int) : List (Int × Int) := ks.map fun k => (k, wtOf m W k)
theorem its_at (m : List Nd) (W : Nat → Int) (ks : List Int) (j : Nat) (h : j < ks.length) : (its m W ks).getD j (0, 0) = (ks[j], wtOf m W ks[j]) := by
  unfold its
  rw [List.getD_eq_getElem?_getD, List.getElem?_map, List.getElem?_eq_getElem h]
  rfl
theorem wt_nat {m : List Nd} {W : Nat → Int} {k : Nat} (h : k < m.length) : wtOf m W (k : Int) = W k := by
  unfold wtOf isB
  rw [if_pos (by simp; omega), Int.toNat_natCast]
/-- It is the one that the kids' straws give. -/
theorem bst_pk {m : List Nd} {W : Nat → Int} (hW : ∀ i, 0 ≤ W i) (over : Int) (a : Nat) : ∀ k, k ≤ m.length →
    plc (bst m W over a k) = pickL (kidsL m k a) (pk over (its m W (kidsL m k a)) (kidsL m k a).length)
  | 0, _ => rfl
  | k + 1, hk => by
    have ih := bst_pk (m := m) hW over a k (by omega)
    unfold bst kidsL
    cases hb : kidB (m.getD k zNd) a with
    | false =>
      rw [Bool.false_and, if_neg (by decide), if_neg (by decide)]
      exact ih
    | true =>
      rw [Bool.true_and, if_pos rfl]
      obtain ⟨ks, hks⟩ : ∃ ks, ks = kidsL m k a := ⟨_, rfl⟩
      have hin : ∀ x ∈ ks, 0 ≤ x ∧ x < (k : Int) := fun x hx => kidsL_in m k a x (hks ▸ hx)
      rw [← hks] at ih ⊢
      have e0 : its m W (ks ++ [(k : Int)]) = its m W ks ++ [((k : Int), W k)] := by
        unfold its
        rw [List.map_append, List.map_singleton, wt_nat (m := m) (show k < m.length by omega)]
      have el : (its m W ks).length = ks.length := by unfold its; rw [List.length_map]
      have e1 : (its m W ks ++ [((k : Int), W k)]).getD ks.length (0, 0) = ((k : Int), W k) := by
        rw [List.getD_eq_getElem?_getD, List.getElem?_append_right (by omega), el, Nat.sub_self]
        rfl
      have e2 : pk over (its m W ks ++ [((k : Int), W k)]) ks.length = pk over (its m W ks) ks.length := pk_app over _ _ _ (by omega)
      have e3 : ∀ j, j < ks.length → (its m W ks ++ [((k : Int), W k)]).getD j (0, 0) = (its m W ks).getD j (0, 0) := fun j hj => by
        rw [List.getD_eq_getElem?_getD, List.getD_eq_getElem?_getD, List.getElem?_append_left (by omega)]
      have e4 : ∀ o : Option Nat, (∀ j, o = some j → j < ks.length) → pickL (ks ++ [(k : Int)]) o = pickL ks o := fun o ho => by
        rcases o with _ | j
        · rfl
        · show (ks ++ [(k : Int)]).getD j 0 = ks.getD j 0
          rw [List.getD_eq_getElem?_getD, List.getD_eq_getElem?_getD, List.getElem?_append_left (ho j rfl)]
      have e5 : pickL (ks ++ [(k : Int)]) (some ks.length) = (k : Int) := by
        show (ks ++ [(k : Int)]).getD ks.length 0 = (k : Int)
        rw [List.getD_eq_getElem?_getD, List.getElem?_append_right (Nat.le_refl _), Nat.sub_self]
        rfl
      rw [e0, List.length_append, List.length_singleton]
      unfold pk
      rw [e1, e2]
      have hw := hW k
      have hlt := fun j (h : pk over (its m W ks) ks.length = some j) => (pk_lt over _ _ j h).1
      by_cases hz : W k = 0
      · rw [if_neg (by simp [hz]), if_neg (by show ¬ 0 < W k; omega), e4 _ hlt]
        exact ih
      · rw [if_pos (by simp [hz]), if_pos (by show 0 < W k; omega)]
        rcases hp : pk over (its m W ks) ks.length with _ | j
        · rw [hp] at ih
          have hbn : bst m W over a k = none := by
            rcases hq : bst m W over a k with _ | q
            · rfl
            · rw [hq] at ih
              have : (q : Int) = -1 := ih
              omega
          rw [hbn]
          exact e5.symm
        · have hj := hlt j hp
          rw [hp] at ih
          have hx := hin _ (List.getElem_mem hj)
          have hg : ks.getD j 0 = ks[j] := by rw [List.getD_eq_getElem?_getD, List.getElem?_eq_getElem hj]; rfl
          rcases hq : bst m W over a k with _ | q
          · rw [hq] at ih
            have : (-1 : Int) = ks.getD j 0 := ih
            omega
          · rw [hq] at ih
            have hqk : (q : Int) = ks[j] := hg ▸ (show (q : Int) = ks.getD j 0 from ih)
            simp only [e3 j hj, its_at m W ks j hj]
            rw [← hqk, wt_nat (show q < m.length by omega)]
            have hs : shB over ((k : Int), W k) ((q : Int), W q) = decide (cmpI (lenZ over k * W q) (lenZ over q * W k) < 0) := by
              unfold shB
              have : decide ((k : Int) < (q : Int)) = false := decide_eq_false (by omega)
              simp only [this, Bool.and_false, Bool.or_false]
            rw [hs]
            by_cases hc : cmpI (lenZ over k * W q) (lenZ over q * W k) < 0
            · rw [if_pos hc, decide_eq_true hc, if_pos rfl]
              exact e5.symm
            · rw [if_neg hc, decide_eq_false hc, if_neg (by decide), e4 (some j) (fun j' e => by injection e with e; omega)]
              show (q : Int) = ks.getD j 0
              rw [hg, hqk]
def bestO (o : Option Nat) (over : Int) : Int := match o with
  | none => 0
  | some j => lenZ over j
theorem keep2 {W w w' : World} {p1 p2 : Addr} {v1 v2 : Value} (h : Below W.heap.size W w ∧ w.cell? p1 = some v1 ∧ w.cell? p2 = some v2) (hb : Below w.heap.size w w') : Below W.heap.size W w' ∧ w'.cell? p1 = some v1 ∧ w'.cell? p2 = some v2 := by
  have := keep4 (p3 := p1) (p4 := p1) (v3 := v1) (v4 := v1) ⟨h.1, h.2.1, h.2.2, h.2.1, h.2.1⟩ hb
  exact ⟨this.1, this.2.1, this.2.2.1⟩
/-- What the law's step reads. -/
structure LawIn (w : World) (A : Option Addr) (m : List Nd) (b : Nat) (W : Nat → Int) : Prop where
  rd : RdN w A m
  wt : ∃ cs, Blk w b 24 cs ∧ AtU m.length W cs
theorem LawIn.below {w w' : World} {A : Option Addr} {m : List Nd} {b : Nat} {W : Nat → Int} (h : LawIn w A m b W) (hb : Below w.heap.size w w') : LawIn w' A m b W := by
  obtain ⟨h1, cs, h2, h3⟩ := h
  exact ⟨h1.below hb, cs, h2.below hb h2.lt, h3⟩
theorem LawIn.cell {w : World} {A : Option Addr} {m : List Nd} {b : Nat} {W : Nat → Int} (h : LawIn w A m b W) {k : Nat} (hk : k < m.length) : w.cell? ⟨b, k, none⟩ = some (.int .u64 (W k)) := by
  obtain ⟨h1, cs, h2, h3⟩ := h
  exact (h2.cell k).trans (h3.2 k hk)
set_option maxHeartbeats 8000000 in
set_option maxRecDepth 100000 in
theorem lstep_any {w : World} {A : Option Addr} {m : List Nd} {b c : Nat} {W : Nat → Int} (h : LawIn w A m b W) (hcap : m.length ≤ c) (hcap2 : c ≤ 9223372036854775807) (hm : m.length ≤ 1000) (hW : ∀ i, 0 ≤ W i ∧ W i < 18446744073709551616) (hf : Fine m) (seed key : Int) {a : Nat} (ha : a < m.length) :
    Calls Tryz.prog 17 #[.slice A m.length c, .slice (some ⟨b, 0, none⟩) m.length m.length, .int .u64 seed, .int .i64 (a : Int), .int .u64 key] w fun o w' => o = .returned (.int .i64 (stepW m W seed key a)) ∧ Below w.heap.size w w' := by
  obtain ⟨over, hov⟩ : ∃ over, over = mixD.ofZ seed [key, IntKind.u64.wrap a] := ⟨_, rfl⟩
  have HP := Lib.hid (show plc (bst m W over a m.length) = stepW m W seed key a from by
    rw [bst_pk (fun i => (hW i).1) over a m.length (Nat.le_refl _)]
    have hk : kidsP m (a : Int) = kidsL m m.length a := by
      unfold kidsP isB
      rw [if_pos (by simp; omega), Int.toNat_natCast]
    unfold stepW itemsW
    rw [hk, ← hov, List.length_map]
    rfl)
  have HL := Lib.hid h
  have HWW := Lib.hid hW
  obtain ⟨a', ha'⟩ : ∃ a', a' = IntKind.u64.wrap (a : Int) := ⟨_, rfl⟩
  have hcv : IntKind.u64.wrap (a : Int) = a' := ha'.symm
  rw [hcv] at hov
  have hr : Row (w.alloc (.cells #[.int .u64 key, .int .u64 a'] 24)) (w.heap.size + 1) (some ⟨w.heap.size, 0, none⟩) ([key, a'].map (.int .u64)) := .inr ⟨w.heap.size, 0, rfl, by omega, fun i u hu => by
    rw [Nat.zero_add, (Blk.new w 24 #[.int .u64 key, .int .u64 a']).cell i, ← hu, ← Array.getElem?_toList]
    rfl⟩
  have HM := Lib.hid (mixD.refof_any seed _ 2 2 [key, a'] _ _ rfl (by omega) hr)
  rw [← hov] at HM
  have HA0 := Lib.hid ((Below.refl w.heap.size w).alloc (Nat.le_refl _) (.cells #[.int .u64 key, .int .u64 a'] 24))
  obtain ⟨n, hn⟩ : ∃ n, n = m.length := ⟨_, rfl⟩
  have HN := Lib.hid hn
  have HF := Lib.hid (fun d W => onceD.refof_any d W)
  have HKB := Lib.hid (show ∀ k (hk : k < m.length), kidB (m.getD k zNd) a = ((m[k]).ab == (a : Int)) from fun k hk => by
    have e : m.getD k zNd = m[k] := by rw [List.getD_eq_getElem?_getD, List.getElem?_eq_getElem hk]; rfl
    rw [e]
    unfold kidB
    by_cases h1 : (m[k]).kind = 1
    · have := hf.lev k hk h1
      rw [show ((m[k]).ab == (a : Int)) = false from beq_false_of_ne (by omega), Bool.and_false]
    · rw [show ((m[k]).kind != 1) = true from bne_iff_ne.mpr h1, Bool.true_and])
  obtain ⟨res, hres⟩ : ∃ res, res = stepW m W seed key a := ⟨_, rfl⟩
  rw [← hn] at hcap hm ⊢
  rw [← hres] at HP ⊢
  clear h hW ha' hr hov hn hres hf
  go_enter Tryz.func17, Tryz.ntmps17
  go_wp2_with fail
  refine HM.out.mono ?_
  rintro e w' ⟨rfl, rfl⟩
  go_wp2_with fail
  go_loopw [12, 13, 14] (fun bs lo i wr => ∃ k : Nat, i = .int .i64 k ∧ k ≤ n ∧ bs = .int .i64 (plc (bst m W over a k)) ∧ lo = .int .u64 (bestO (bst m W over a k) over) ∧ Hid (Below w.heap.size w wr)) (fun _ _ i _ => n - (intOf i).toNat)
  case atStart => exact ⟨0, rfl, by omega, rfl, rfl, HA0⟩
  case round =>
    obtain ⟨k, rfl, hk, rfl, rfl, KB⟩ := hrel
    by_cases hkn : k < n
    · have t1 : decide ((k : Int) < n) = true := decide_eq_true (by omega)
      have hkm : k < m.length := by have := HN.out; omega
      have KL := Lib.hid (HL.out.below KB.out)
      obtain ⟨bl, off, hA, hbl, hC⟩ := KL.out.rd.at_ k hkm
      subst hA
      have d2 : wr.cell? ⟨bl, off + k * 7 + 2, none⟩ = some (.int .i64 (m[k]).ab) := hC 2 (by omega)
      have HNX := Lib.hid (show bst m W over a (k + 1) = if (((m[k]).ab == (a : Int)) && W k != 0) = true then (match bst m W over a k with
        | none => some k
        | some j => if cmpI (lenZ over k * W j) (lenZ over j * W k) < 0 then some k else some j) else bst m W over a k from by rw [← HKB.out k hkm]; rfl)
      have dw : wr.cell? ⟨b, k, none⟩ = some (.int .u64 (W k)) := KL.out.cell hkm
      have j0 : (0 : Int) ≤ k := by omega
      have j1 : (k : Int) < n := by omega
      obtain ⟨ab, hab⟩ : ∃ ab, ab = (m[k]).ab := ⟨_, rfl⟩
      rw [← hab] at d2 HNX
      have HLT := Lib.hid (bst_lt m W over a k)
      clear hC hab
      cases hq : (ab == (a : Int)) with
      | false =>
        have hq2 : (ab != (a : Int)) = true := by unfold bne; rw [hq]; rfl
        rw [hq, Bool.false_and, if_neg (by decide)] at HNX
        generalize bst m W over a k = o at *
        go_wp2_with fail
        go_roundw
        case rel => exact ⟨k + 1, by go_num, by omega, by rw [HNX.out], by rw [HNX.out], KB⟩
        case measure => simp [intOf]; omega
      | true =>
        have hq2 : (ab != (a : Int)) = false := by unfold bne; rw [hq]; rfl
        rw [hq, Bool.true_and] at HNX
        cases hz : (W k == 0) with
        | true =>
          have hz2 : (W k != 0) = false := by unfold bne; rw [hz]; rfl
          rw [hz2, if_neg (by decide)] at HNX
          generalize bst m W over a k = o at *
          go_wp2_with fail
          go_roundw
          case rel => exact ⟨k + 1, by go_num, by omega, by rw [HNX.out], by rw [HNX.out], KB⟩
          case measure => simp [intOf]; omega
        | false =>
          have hz2 : (W k != 0) = true := by unfold bne; rw [hz]; rfl
          rw [hz2, if_pos rfl] at HNX
          have hrk : Row (wr.alloc (.cells #[.int .u64 (k : Int)] 24)) (wr.heap.size + 1) (some ⟨wr.heap.size, 0, none⟩) ([(k : Int)].map (.int .u64)) := .inr ⟨wr.heap.size, 0, rfl, by omega, fun i u hu => by
            rw [Nat.zero_add, (Blk.new wr 24 #[.int .u64 (k : Int)]).cell i]
            simpa using hu⟩
          have HM2 := Lib.hid (mixD.refof_any over _ 1 1 [(k : Int)] _ _ rfl (by omega) hrk)
          have hmx := mix_in over k
          have hlz := lenZ_in over k
          have he : lenZ over k = logC.ofZ (mixD.ofZ over [(k : Int)] / 281474976710656 + 1) := rfl
          have hck : IntKind.u64.wrap (k : Int) = k := by rw [IntKind.wrap_u64]; omega
          have HB1 := Lib.hid (KB.out.alloc KB.out.size (.cells #[.int .u64 (k : Int)] 24))
          have HRW := Lib.hid (HWW.out k)
          have HRJ := Lib.hid (fun j => HWW.out j)
          have HL1 := Lib.hid (HL.out.below HB1.out)
          have dk1 : (wr.alloc (.cells #[.int .u64 (k : Int)] 24)).cell? ⟨b, k, none⟩ = some (.int .u64 (W k)) := HL1.out.cell hkm
          obtain ⟨x, hx⟩ : ∃ x, x = mixD.ofZ over [(k : Int)] := ⟨_, rfl⟩
          rw [← hx] at HM2 hmx he
          obtain ⟨hm0, hm1⟩ := hmx
          obtain ⟨y, hy⟩ : ∃ y, y = lenZ over k := ⟨_, rfl⟩
          rw [← hy] at he hlz HNX
          have HE := Lib.hid he
          have HY := Lib.hid hy
          have HLZ := Lib.hid hlz
          clear hrk hx he hy hlz
          rcases ho : bst m W over a k with _ | j
          · rw [ho] at HNX
            rw [show plc none = -1 from rfl, show bestO none over = 0 from rfl]
            go_wp2_with fail
            refine HM2.out.mono ?_
            rintro e w' ⟨rfl, rfl⟩
            go_wp2_with fail
            refine (HF.out _ _).mono ?_
            rintro e w' ⟨rfl, rfl⟩
            go_wp2_with fail
            go_quiet (fail)
            go_wp2_with fail
            go_roundw
            case rel => exact ⟨k + 1, by go_num, by omega, by rw [HNX.out]; rfl, by rw [HNX.out]; show _ = Value.int .u64 (lenZ over k); rw [← HY.out, HE.out], Lib.hid (below_drewN HB1.out _)⟩
            case measure => simp [intOf]; omega
          · rw [ho] at HNX
            have hj := HLT.out j ho
            simp only at HNX
            rw [show plc (some j) = (j : Int) from rfl, show bestO (some j) over = lenZ over j from rfl]
            have dj1 : (wr.alloc (.cells #[.int .u64 (k : Int)] 24)).cell? ⟨b, j, none⟩ = some (.int .u64 (W j)) := HL1.out.cell (by omega)
            have hly := lenZ_in over j
            obtain ⟨v, hv⟩ : ∃ v, v = lenZ over j := ⟨_, rfl⟩
            have HV := Lib.hid hv
            rw [← hv] at hly HNX ⊢
            clear hv
            have hwj := HRJ.out j
            have hwk := HRW.out
            generalize W j = wj at *
            generalize W k = wk at *
            have HC := Lib.hid (show cmp128 (y * wj / 18446744073709551616) (y * wj % 18446744073709551616) (v * wk / 18446744073709551616) (v * wk % 18446744073709551616) = cmpI (y * wj) (v * wk) from cmp128_div _ _)
            have HX1 := Lib.hid (fun W => wideB.mul_any y wj HLZ.out.1 HLZ.out.2 hwj.1 hwj.2 W)
            have HX2 := Lib.hid (fun W => wideB.mul_any v wk hly.1 hly.2 hwk.1 hwk.2 W)
            generalize cmpI (y * wj) (v * wk) = z at *
            generalize y * wj = p at *
            generalize v * wk = q at *
            have HNN := Lib.hid (fun W => numCmp_any (p / 18446744073709551616) (p % 18446744073709551616) (q / 18446744073709551616) (q % 18446744073709551616) W)
            rw [HC.out] at HNN
            have t3 : decide ((j : Int) < 0) = false := decide_eq_false (by omega)
            have jj0 : (0 : Int) ≤ (j : Int) := by omega
            have jj : (j : Int) < (n : Int) := by omega
            obtain ⟨W1, hW1⟩ : ∃ W1, W1 = wr.alloc (.cells #[.int .u64 (k : Int)] 24) := ⟨_, rfl⟩
            rw [← hW1] at HM2 dk1 dj1 HB1
            have HW1 := Lib.hid hW1
            have k0 : Below W1.heap.size W1 W1.drew ∧ W1.drew.cell? ⟨b, k, none⟩ = some (.int .u64 wk) ∧ W1.drew.cell? ⟨b, j, none⟩ = some (.int .u64 wj) := ⟨(Below.refl _ _).drew, dk1, dj1⟩
            clear hW1 ho hly hwj hwk hz2
            go_wp2_with fail
            rw [← HW1.out]
            refine HM2.out.mono ?_
            rintro e w' ⟨rfl, rfl⟩
            go_wp2_with fail
            refine (HF.out _ _).mono ?_
            rintro e w' ⟨rfl, rfl⟩
            go_wp2_with fail
            rw [← HE.out]
            go_region_held3 (fun w' => Below W1.heap.size W1 w' ∧ w'.cell? ⟨b, k, none⟩ = some (.int .u64 wk) ∧ w'.cell? ⟨b, j, none⟩ = some (.int .u64 wj))
              (first | exact k0 | (refine keep2 ?_ hb; assumption))
              (first
                | (go_at_call 50; (first | (with_reducible refine (HX1.out _).mono ?_) | (with_reducible refine (HX2.out _).mono ?_)); rintro e w' ⟨rfl, hb⟩)
                | (go_at_call 51; (with_reducible refine (HNN.out _).mono ?_); rintro e w' ⟨rfl, hb⟩))
            rename_i hH
            have HB2 := Lib.hid (HB1.out.trans (hH.1.mono HB1.out.size))
            clear hH k0 dk1 dj1 d2 dw
            by_cases hzz : z < 0
            · have f1 : decide (z < 0) = true := decide_eq_true hzz
              rw [if_pos hzz] at HNX
              go_wp2_with fail <;> try (exfalso; omega)
              go_roundw
              case rel => exact ⟨k + 1, by go_num, by omega, by rw [HNX.out]; rfl, by rw [HNX.out]; show _ = Value.int .u64 (lenZ over k); rw [← HY.out], HB2⟩
              case measure => simp [intOf]; omega
            · have f1 : decide (z < 0) = false := decide_eq_false hzz
              rw [if_neg hzz] at HNX
              go_wp2_with fail <;> try (exfalso; omega)
              go_roundw
              case rel => exact ⟨k + 1, by go_num, by omega, by rw [HNX.out]; rfl, by rw [HNX.out, HV.out]; rfl, HB2⟩
              case measure => simp [intOf]; omega
    · obtain rfl : n = k := by omega
      have t1 : decide ((n : Int) < n) = false := decide_eq_false (by omega)
      have HR := Lib.hid (show plc (bst m W over a n) = res from by have := HP.out; rwa [← HN.out] at this)
      go_wp2_with fail
      go_ret
      exact ⟨by rw [← HR.out]; rfl, KB.out⟩
end Go.Proofs.YtoaboklckkcjcaaGreat.walkE
/- Layer 26: the law's own way down. -/
namespace Go.Proofs.YtoaboklckkcjcaaGreat.walkF
open Go.ChangeShapes Go.WideShapes Go.ChangeAt Go.RowKit
open Go.Proofs.YtoaboklckkcjcaaGreat.base Go.Proofs.YtoaboklckkcjcaaGreat.dfA Go.Proofs.YtoaboklckkcjcaaGreat.treB Go.Proofs.YtoaboklckkcjcaaGreat.treD Go.Proofs.YtoaboklckkcjcaaGreat.treG Go.Proofs.YtoaboklckkcjcaaGreat.treM Go.Proofs.YtoaboklckkcjcaaGreat.treW Go.Proofs.YtoaboklckkcjcaaGreat.eliW Go.Proofs.YtoaboklckkcjcaaGreat.eliA Go.Proofs.YtoaboklckkcjcaaGreat.eliB Go.Proofs.YtoaboklckkcjcaaGreat.walkA Go.Proofs.YtoaboklckkcjcaaGreat.walkC Go.Proofs.YtoaboklckkcjcaaGreat.walkE
set_option linter.unusedVariables false

/-- The way's rest. -/
def restF (m : List Nd) (W : Nat → Int) (seed key : Int) (f : Nat) (x : Int) : Option (List Int) := if x = -1 then none else wayF m W seed key f x
theorem rest_next (m : List Nd) (W : Nat → Int) (seed key : Int) (f : Nat) (x : Int) (hx : x ≠ -1) : restF m W seed key (f + 1) x = if ((ndAt m x).kind == 4) = true then some [x] else (restF m W seed key f (stepW m W seed key x)).map (x :: ·) := by
  unfold restF
  rw [if_neg hx]
  show (if ((ndAt m x).kind == 4) = true then some [x] else if stepW m W seed key x = -1 then none else (wayF m W seed key f (stepW m W seed key x)).map (x :: ·)) = _
  by_cases h1 : ((ndAt m x).kind == 4) = true
  · rw [if_pos h1, if_pos h1]
  · rw [if_neg h1, if_neg h1]
    by_cases h2 : stepW m W seed key x = -1
    · rw [if_pos h2, if_pos h2]; rfl
    · rw [if_neg h2, if_neg h2]
set_option maxHeartbeats 8000000 in
set_option maxRecDepth 100000 in
theorem ldown_any {w : World} {A : Option Addr} {m : List Nd} {b c : Nat} {W : Nat → Int} (h : LawIn w A m b W) (hcap : m.length ≤ c) (hcap2 : c ≤ 9223372036854775807) (hm : m.length ≤ 1000) (hW : ∀ i, 0 ≤ W i ∧ W i < 18446744073709551616) (hf : Fine m) (seed key : Int) {a : Nat} (ha : a < m.length) :
    Calls Tryz.prog 16 #[.slice A m.length c, .slice (some ⟨b, 0, none⟩) m.length m.length, .int .u64 seed, .int .i64 (a : Int), .int .u64 key] w fun o w' => ∃ v, o = .returned v ∧ OwnI w' w.heap.size v ((wayF m W seed key 4 a).getD []) ∧ Below w.heap.size w w' := by
  obtain ⟨i0, hi0, hz0, hz1, hz2⟩ := info_parts info_i
  have HI0 := Lib.hid hi0
  have HZ0 := Lib.hid hz0
  have HZ1 := Lib.hid hz1
  have HZ2 := Lib.hid hz2
  have HL := Lib.hid h
  have HST := Lib.hid (show ∀ V, Below w.heap.size w V → ∀ x : Nat, x < m.length → Calls Tryz.prog 17 #[.slice A m.length c, .slice (some ⟨b, 0, none⟩) m.length m.length, .int .u64 seed, .int .i64 (x : Int), .int .u64 key] V fun o w' => o = .returned (.int .i64 (stepW m W seed key x)) ∧ Below V.heap.size V w' from fun V hV x hx => lstep_any (h.below hV) hcap hcap2 hm hW hf seed key hx)
  have HSK := Lib.hid (fun (x : Int) hb => step_kind hf (m := m) (W := W) (seed := seed) (key := key) (a := x) hb)
  obtain ⟨full, hfull⟩ : ∃ full, full = wayF m W seed key 4 a := ⟨_, rfl⟩
  have HFU := Lib.hid (show full = (restF m W seed key 4 a).map ([] ++ ·) from by
    rw [hfull]
    unfold restF
    rw [if_neg (by omega)]
    simp)
  obtain ⟨n, hn⟩ : ∃ n, n = m.length := ⟨_, rfl⟩
  have HN := Lib.hid hn
  rw [← hfull]
  rw [← hn] at hcap hm HST ⊢
  have W0 := Lib.hid (Below.refl w.heap.size w)
  clear h hi0 hz0 hz1 hz2 hW hf hfull hn
  go_enter Tryz.func16, Tryz.ntmps16
  go_wp2_with fail
  go_loopw [3, 11, 12] (fun i v k' wr => ∃ (x : Int) (l : List Int) (k : Nat), i = .int .i64 x ∧ k' = .int .i64 k ∧ k ≤ 4 ∧ (x = -1 ∨ (0 ≤ x ∧ x < (n : Int))) ∧ l.length = k ∧ Hid (full = (restF m W seed key (4 - k) x).map (l ++ ·)) ∧ Hid (OwnI wr w.heap.size v l) ∧ Hid (Below w.heap.size w wr)) (fun _ _ k' _ => 4 - (intOf k').toNat)
  case atStart => exact ⟨a, [], 0, rfl, rfl, by omega, .inr ⟨by omega, by have := HN.out; omega⟩, rfl, HFU, Lib.hid (ownI_nil _ _), W0⟩
  case round =>
    obtain ⟨x, l, k, rfl, rfl, hk4, hx, hl, HE, HO, HB⟩ := hrel
    by_cases hk : k < 4
    · have t1 : decide ((k : Int) < 4) = true := decide_eq_true (by omega)
      rcases hx with rfl | hx
      · have HF2 := Lib.hid (show full = none from by rw [HE.out]; rfl)
        go_wp2_with fail
        go_ret
        exact ⟨_, rfl, by rw [HF2.out]; exact ownI_nil _ _, HB.out⟩
      · obtain ⟨xn, rfl⟩ : ∃ xn : Nat, x = (xn : Int) := ⟨x.toNat, by omega⟩
        have hxm : xn < m.length := by have := HN.out; omega
        have t2 : decide (0 ≤ (xn : Int)) = true := decide_eq_true (by omega)
        have HE2 := HE.out
        rw [show 4 - k = (4 - (k + 1)) + 1 by omega, rest_next m W seed key _ (xn : Int) (by omega), treW.ndAt_nat hxm] at HE2
        have KO2 := Lib.hid (HO.out.alloc (.cells #[.int .i64 (xn : Int)] 3))
        have KB2 := Lib.hid (HB.out.alloc HB.out.size (.cells #[.int .i64 (xn : Int)] 3))
        have HNE := Lib.hid (show ∀ p u, [Value.int .i64 (xn : Int)][p]? = some u → (wr.alloc (.cells #[.int .i64 (xn : Int)] 3)).cell? ((⟨wr.heap.size, 0, none⟩ : Addr).add p) = some u from fun p u hu => by
          rw [Addr.add_lit, Nat.zero_add, (Blk.new wr 3 #[.int .i64 (xn : Int)]).cell p]
          have h2 : (#[Value.int .i64 (xn : Int)])[p]? = some u := by simpa using hu
          exact h2)
        have H1 := Lib.hid (show ∀ u ∈ [Value.int .i64 (xn : Int)], u.oneCell' = true from fun u hu => by simp at hu; subst hu; rfl)
        have P1 := Lib.hid (show l.length + 1 ≤ maxLen by unfold maxLen; omega)
        have P2 := Lib.hid (show (l.length + 1) * 8 ≤ 140737488355328 by omega)
        have P3 := Lib.hid (show w.heap.size ≤ (wr.alloc (.cells #[.int .i64 (xn : Int)] 3)).heap.size from KB2.out.size)
        obtain ⟨bl, off, hA, _, _⟩ := (HL.out.below HB.out).rd.at_ xn hxm
        subst hA
        have HC1 := Lib.hid (show ∀ V, Below w.heap.size w V → V.cell? ⟨bl, off + xn * 7 + 1, none⟩ = some (.int .i64 (m[xn]).kind) from fun V hV => by
          obtain ⟨bl', off', hA, _, hC⟩ := (HL.out.below hV).rd.at_ xn hxm
          injection hA with hA
          injection hA with h1 h2
          subst h1 h2
          exact hC 1 (by omega))
        obtain ⟨kd, hkd⟩ : ∃ kd, kd = (m[xn]).kind := ⟨_, rfl⟩
        rw [← hkd] at HC1 HE2
        have j0 : (0 : Int) ≤ xn := by omega
        have j1 : (xn : Int) < n := hx.2
        clear hkd
        have HSX := Lib.hid (HSK.out (xn : Int))
        cases hk5 : (kd == 4) with
        | true =>
          rw [hk5, if_pos rfl] at HE2
          have HE3 := Lib.hid HE2
          clear HE2
          go_wp2_with (at_builtin; refine wpList_append_own _ rfl (.tmp 21) (.tmp 23) _ rfl w.heap.size 3 i0 _ 1 8 Tryz.underlying23 HI0.out HZ0.out HZ1.out HZ2.out rfl (by omega) _ l.length (l.map (Value.int .i64)) rfl KO2.out ⟨wr.heap.size, 0, none⟩ 1 1 [.int .i64 (xn : Int)] rfl rfl HNE.out H1.out P1.out P2.out P3.out ?_; intro v6 w6 ho hg6 _; have HO6 := Lib.hid (OwnI.snoc (l := l) ho); have HB6 := Lib.hid (KB2.out.grown hg6 P3.out (fun k hk => (KO2.out.lt k hk).1)); have c6 := HC1.out w6 HB6.out; clear ho hg6)
          go_ret
          exact ⟨_, rfl, by rw [HE3.out]; exact HO6.out, HB6.out⟩
        | false =>
          rw [hk5, if_neg (by decide)] at HE2
          obtain ⟨y, hy⟩ : ∃ y, y = stepW m W seed key (xn : Int) := ⟨_, rfl⟩
          rw [← hy] at HE2 HSX
          have HE3 := Lib.hid HE2
          have HSY := Lib.hid (show ∀ V, Below w.heap.size w V → Calls Tryz.prog 17 #[.slice (some ⟨bl, off, none⟩) n c, .slice (some ⟨b, 0, none⟩) n n, .int .u64 seed, .int .i64 (xn : Int), .int .u64 key] V (fun o w' => o = .returned (.int .i64 y) ∧ Below V.heap.size V w') from fun V hV => by rw [hy]; exact HST.out V hV xn (by have := HN.out; omega))
          clear HE2 hy
          go_wp2_with (at_builtin; refine wpList_append_own _ rfl (.tmp 21) (.tmp 23) _ rfl w.heap.size 3 i0 _ 1 8 Tryz.underlying23 HI0.out HZ0.out HZ1.out HZ2.out rfl (by omega) _ l.length (l.map (Value.int .i64)) rfl KO2.out ⟨wr.heap.size, 0, none⟩ 1 1 [.int .i64 (xn : Int)] rfl rfl HNE.out H1.out P1.out P2.out P3.out ?_; intro v6 w6 ho hg6 _; have HO6 := Lib.hid (OwnI.snoc (l := l) ho); have HB6 := Lib.hid (KB2.out.grown hg6 P3.out (fun k hk => (KO2.out.lt k hk).1)); have c6 := HC1.out w6 HB6.out; clear ho hg6)
          refine (HSY.out w6 HB6.out).mono ?_
          rintro o w7 ⟨rfl, hb⟩
          have HO7 := Lib.hid (HO6.out.below hb)
          have HB7 := Lib.hid (HB6.out.trans (hb.mono HB6.out.size))
          clear hb
          go_wp2_with fail
          go_roundw
          case rel => exact ⟨y, l ++ [(xn : Int)], k + 1, rfl, by go_num, by omega, by
            by_cases e : y = -1
            · exact .inl e
            · have := HSX.out e
              exact .inr ⟨this.1, by have := HN.out; omega⟩, by rw [List.length_append]; simp; omega, Lib.hid (by rw [HE3.out, Option.map_map]; congr 1; funext x; simp), HO7, HB7⟩
          case measure => simp [intOf]; omega
    · have t1 : decide ((k : Int) < 4) = false := decide_eq_false (by omega)
      have HF2 := Lib.hid (show full = none from by
        rw [HE.out, show 4 - k = 0 by omega]
        unfold restF
        split <;> rfl)
      go_wp2_with fail
      go_ret
      exact ⟨_, rfl, by rw [HF2.out]; exact ownI_nil _ _, HB.out⟩
end Go.Proofs.YtoaboklckkcjcaaGreat.walkF
/- Layer 26: the law's levels; are two lists the same? -/
namespace Go.Proofs.YtoaboklckkcjcaaGreat.walkI
open Go.ChangeShapes Go.WideShapes Go.ChangeAt Go.RowKit
open Go.Proofs.YtoaboklckkcjcaaGreat.base Go.Proofs.YtoaboklckkcjcaaGreat.dfA Go.Proofs.YtoaboklckkcjcaaGreat.treB Go.Proofs.YtoaboklckkcjcaaGreat.treD Go.Proofs.YtoaboklckkcjcaaGreat.treM Go.Proofs.YtoaboklckkcjcaaGreat.treW Go.Proofs.YtoaboklckkcjcaaGreat.eliW Go.Proofs.YtoaboklckkcjcaaGreat.eliA Go.Proofs.YtoaboklckkcjcaaGreat.eliB Go.Proofs.YtoaboklckkcjcaaGreat.eliG Go.Proofs.YtoaboklckkcjcaaGreat.eliH Go.Proofs.YtoaboklckkcjcaaGreat.walkA
set_option linter.unusedVariables false

set_option maxHeartbeats 8000000 in
set_option maxRecDepth 100000 in
theorem levels_any {w : World} {A : Option Addr} {m : List Nd} {c : Nat} (h : RdN w A m) (hcap : m.length ≤ c) (hcap2 : c ≤ 9223372036854775807) (hm : m.length ≤ 1000) :
    Calls Tryz.prog 25 #[.slice A m.length c] w fun o w' => ∃ v, o = .returned v ∧ OwnI w' w.heap.size v (ofK m 1 m.length) ∧ Below w.heap.size w w' := by
  obtain ⟨i0, hi0, hz0, hz1, hz2⟩ := info_parts info_i
  have HI0 := Lib.hid hi0
  have HZ0 := Lib.hid hz0
  have HZ1 := Lib.hid hz1
  have HZ2 := Lib.hid hz2
  have HR := Lib.hid h
  obtain ⟨n, hn⟩ : ∃ n, n = m.length := ⟨_, rfl⟩
  have HN := Lib.hid hn
  obtain ⟨res, hres⟩ : ∃ res, res = ofK m 1 m.length := ⟨_, rfl⟩
  have HRES := Lib.hid hres
  rw [← hres]
  rw [← hn] at hcap hm ⊢
  have W0 := Lib.hid (Below.refl w.heap.size w)
  clear h hi0 hz0 hz1 hz2 hn hres
  go_enter Tryz.func25, Tryz.ntmps25
  go_wp2_with fail
  go_loopw [3, 4] (fun v i wr => ∃ k : Nat, i = .int .i64 k ∧ k ≤ n ∧ Hid (OwnI wr w.heap.size v (ofK m 1 k)) ∧ Hid (Below w.heap.size w wr)) (fun _ i _ => n - (intOf i).toNat)
  case atStart => exact ⟨0, rfl, by omega, Lib.hid (ownI_nil _ _), W0⟩
  case round =>
    obtain ⟨k, rfl, hk, HO, HB⟩ := hrel
    by_cases hkn : k < n
    · have t1 : decide ((k : Int) < n) = true := decide_eq_true (by omega)
      have hkm : k < m.length := by have := HN.out; omega
      obtain ⟨bl, off, hA, hbl, hC⟩ := (HR.out.below HB.out).at_ k hkm
      subst hA
      have d1 : wr.cell? ⟨bl, off + k * 7 + 1, none⟩ = some (.int .i64 (m[k]).kind) := hC 1 (by omega)
      have hnx := ofK_next (kind := 1) hkm
      have hle := ofK_len m 1 k
      obtain ⟨kd, hkd⟩ : ∃ kd, kd = (m[k]).kind := ⟨_, rfl⟩
      rw [← hkd] at d1 hnx
      have j0 : (0 : Int) ≤ k := by omega
      have j1 : (k : Int) < n := by omega
      clear hC hkd
      cases hq : (kd == 1) with
      | false =>
        rw [hq, if_neg (by decide), List.append_nil] at hnx
        have HNX := Lib.hid hnx
        clear hnx
        go_wp2_with fail
        go_roundw
        case rel => exact ⟨k + 1, by go_num, by omega, by rw [HNX.out]; exact HO, HB⟩
        case measure => simp [intOf]; omega
      | true =>
        rw [hq, if_pos rfl] at hnx
        have HNX := Lib.hid hnx
        have KO2 := Lib.hid (HO.out.alloc (.cells #[.int .i64 (k : Int)] 3))
        have KB2 := Lib.hid (HB.out.alloc HB.out.size (.cells #[.int .i64 (k : Int)] 3))
        have HNE := Lib.hid (show ∀ p u, [Value.int .i64 (k : Int)][p]? = some u → (wr.alloc (.cells #[.int .i64 (k : Int)] 3)).cell? ((⟨wr.heap.size, 0, none⟩ : Addr).add p) = some u from fun p u hu => by
          rw [Addr.add_lit, Nat.zero_add, (Blk.new wr 3 #[.int .i64 (k : Int)]).cell p]
          have h2 : (#[Value.int .i64 (k : Int)])[p]? = some u := by simpa using hu
          exact h2)
        have H1 := Lib.hid (show ∀ u ∈ [Value.int .i64 (k : Int)], u.oneCell' = true from fun u hu => by simp at hu; subst hu; rfl)
        have P1 := Lib.hid (show (ofK m 1 k).length + 1 ≤ maxLen by unfold maxLen; omega)
        have P2 := Lib.hid (show ((ofK m 1 k).length + 1) * 8 ≤ 140737488355328 by omega)
        have P3 := Lib.hid (show w.heap.size ≤ (wr.alloc (.cells #[.int .i64 (k : Int)] 3)).heap.size from KB2.out.size)
        clear hnx hle
        go_wp2_with (at_builtin; refine wpList_append_own _ rfl (.tmp 17) (.tmp 19) _ rfl w.heap.size 3 i0 _ 1 8 Tryz.underlying23 HI0.out HZ0.out HZ1.out HZ2.out rfl (by omega) _ (ofK m 1 k).length ((ofK m 1 k).map (Value.int .i64)) rfl KO2.out ⟨wr.heap.size, 0, none⟩ 1 1 [.int .i64 (k : Int)] rfl rfl HNE.out H1.out P1.out P2.out P3.out ?_; intro v6 w6 ho hg6 _; have HO6 := Lib.hid (OwnI.snoc (l := ofK m 1 k) ho); have HB6 := Lib.hid (KB2.out.grown hg6 P3.out (fun k hk => (KO2.out.lt k hk).1)); clear ho hg6)
        go_roundw
        case rel => exact ⟨k + 1, by go_num, by omega, by rw [HNX.out]; exact HO6, HB6⟩
        case measure => simp [intOf]; omega
    · have t1 : decide ((k : Int) < n) = false := decide_eq_false (by omega)
      obtain rfl : n = k := by omega
      go_wp2_with fail
      go_ret
      exact ⟨_, rfl, by rw [HRES.out, ← HN.out]; exact HO.out, HB.out⟩
theorem lsame_any (v1 v2 : Value) (l : List Int) (w : World) (h1 : ReadI w v1 l) (h2 : ReadI w v2 l) : Calls Tryz.prog 18 #[v1, v2] w fun o w' => o = .returned (.bool true) ∧ Below w.heap.size w w' := by
  obtain ⟨A1, c1, rfl, p1, p2, r1⟩ := h1
  obtain ⟨A2, c2, rfl, p3, p4, r2⟩ := h2
  have R1 := Lib.hid r1
  have R2 := Lib.hid r2
  have HW := Lib.hid (Below.refl w.heap.size w)
  obtain ⟨n, hn⟩ : ∃ n, n = l.length := ⟨_, rfl⟩
  have HN := Lib.hid hn
  rw [← hn] at p1 p3 ⊢
  clear r1 r2 hn
  go_enter Tryz.func18, Tryz.ntmps18
  go_wp2_with fail
  go_loopw [5] (fun i wr => ∃ k : Nat, i = .int .i64 k ∧ k ≤ n ∧ Below w.heap.size w wr) (fun i _ => n - (intOf i).toNat)
  case atStart => exact ⟨0, rfl, by omega, HW.out⟩
  case round =>
    obtain ⟨k, rfl, hk, hbel⟩ := hrel
    have KB := Lib.hid hbel
    clear hbel
    by_cases hkn : k < n
    · have t1 : decide ((k : Int) < n) = true := decide_eq_true (by omega)
      obtain ⟨b1, o1, hA1, x1, d1⟩ := (R1.out.below KB.out).at_ k (by have := HN.out; omega)
      obtain ⟨b2, o2, hA2, x2, d2⟩ := (R2.out.below KB.out).at_ k (by have := HN.out; omega)
      subst hA1 hA2
      obtain ⟨x, hx⟩ : ∃ x, x = l[k]'(by have := HN.out; omega) := ⟨_, rfl⟩
      rw [← hx] at d1 d2
      have s0 : wr.drew.cell? ⟨b1, o1 + k, none⟩ = some (.int .i64 x) ∧ wr.drew.cell? ⟨b2, o2 + k, none⟩ = some (.int .i64 x) := ⟨d1, d2⟩
      have j0 : (0 : Int) ≤ k := by omega
      have j1 : (k : Int) < n := by omega
      clear hx d1 d2 x1 x2
      go_wp2_with fail
      go_region_held3 (fun w' => w'.cell? ⟨b1, o1 + k, none⟩ = some (.int .i64 x) ∧ w'.cell? ⟨b2, o2 + k, none⟩ = some (.int .i64 x)) (assumption) (first | fail)
      go_wp2_with fail
      go_roundw
      case rel => exact ⟨k + 1, by go_num, by omega, KB.out.drew⟩
      case measure => simp [intOf]; omega
    · have t1 : decide ((k : Int) < n) = false := decide_eq_false (by omega)
      go_wp2_with fail
      go_ret
      exact ⟨rfl, KB.out⟩
end Go.Proofs.YtoaboklckkcjcaaGreat.walkI
/- Layer 26: the law's own loads. -/
namespace Go.Proofs.YtoaboklckkcjcaaGreat.walkJ
open Go.ChangeShapes Go.WideShapes Go.ChangeAt Go.RowKit
open Go.Proofs.YtoaboklckkcjcaaGreat.base Go.Proofs.YtoaboklckkcjcaaGreat.dfA Go.Proofs.YtoaboklckkcjcaaGreat.treB Go.Proofs.YtoaboklckkcjcaaGreat.treD Go.Proofs.YtoaboklckkcjcaaGreat.treM Go.Proofs.YtoaboklckkcjcaaGreat.treW Go.Proofs.YtoaboklckkcjcaaGreat.eliW Go.Proofs.YtoaboklckkcjcaaGreat.eliA Go.Proofs.YtoaboklckkcjcaaGreat.eliB Go.Proofs.YtoaboklckkcjcaaGreat.eliG Go.Proofs.YtoaboklckkcjcaaGreat.eliH Go.Proofs.YtoaboklckkcjcaaGreat.walkA Go.Proofs.YtoaboklckkcjcaaGreat.walkE Go.Proofs.YtoaboklckkcjcaaGreat.walkG
set_option linter.unusedVariables false

theorem rd_all {w : World} {bl off : Nat} {m : List Nd} (h : RdN w (some ⟨bl, off, none⟩) m) (j : Nat) (hj : j < m.length) : w.cell? ⟨bl, off + j * 7 + 1, none⟩ = some (.int .i64 (m[j]).kind) ∧ w.cell? ⟨bl, off + j * 7 + 2, none⟩ = some (.int .i64 (m[j]).ab) := by
  obtain ⟨b', o', e, _, hc⟩ := h.at_ j hj
  injection e with e
  injection e with e1 e2
  subst e1 e2
  exact ⟨hc 1 (by omega), hc 2 (by omega)⟩
theorem chain {m : List Nd} (hf : Fine m) {k : Nat} (hk : k < m.length) (h4 : (m[k]).kind = 4) : ∃ r z a : Nat, ∃ (hr : r < m.length) (hz : z < m.length) (ha : a < m.length), (m[k]).ab = (r : Int) ∧ (m[r]).ab = (z : Int) ∧ (m[z]).ab = (a : Int) ∧ upF m 1 (k : Int) = (a : Int) := by
  obtain ⟨r, hr, e1, _, k1⟩ := hf.sub k hk (by omega)
  obtain ⟨z, hz, e2, _, k2⟩ := hf.sub r hr (by omega)
  obtain ⟨a, ha, e3, _, k3⟩ := hf.sub z hz (by omega)
  refine ⟨r, z, a, hr, hz, ha, e1, e2, e3, ?_⟩
  rw [upF_step hf 1 hk (beq_false_of_ne (by omega)), e1, upF_step hf 1 hr (beq_false_of_ne (by omega)), e2, upF_step hf 1 hz (beq_false_of_ne (by omega)), e3]
  exact upF_here _ ha (by simp; omega)
set_option maxHeartbeats 16000000 in
set_option maxRecDepth 100000 in
theorem lloads_any {w : World} {A : Option Addr} {m : List Nd} {b c : Nat} {W : Nat → Int} (h : LawIn w A m b W) (hcap : m.length ≤ c) (hcap2 : c ≤ 9223372036854775807) (hm : m.length ≤ 60) (hW : ∀ i, 0 ≤ W i) (hf : Fine m) (f fac : Int) :
    Calls Tryz.prog 20 #[.slice A m.length c, .slice (some ⟨b, 0, none⟩) m.length m.length, .int .i64 f, .int .i64 fac] w fun o w' => ∃ v, o = .returned v ∧ OwnI w' w.heap.size v (loadsW m W fac f) ∧ Below w.heap.size w w' := by
  obtain ⟨i0, hi0, hz0, hz1, hz2⟩ := info_parts info_i
  have HL := Lib.hid h
  have HF := Lib.hid hf
  have HWW := Lib.hid hW
  have HLV := Lib.hid (walkI.levels_any h.rd hcap hcap2 (by omega))
  obtain ⟨nl, hnl⟩ : ∃ nl, nl = (ofK m 1 m.length).length := ⟨_, rfl⟩
  have HNL := Lib.hid hnl
  have hnl60 : nl ≤ 60 := by rw [hnl]; exact Nat.le_trans (ofK_len m 1 m.length) hm
  have hmk := fun (W : World) => run_make_one (P := Tryz.prog) 23 3 i0 _ Tryz.underlying23 hi0 hz0 hz1 rfl .i64 .i64 (nl : Int) (by omega) (by rw [hz2]; omega) (by omega) W
  have hmk2 : ∀ W : World, (Instr.makeSlice 23 (.int .i64 (nl : Int)) (.int .i64 (nl : Int))).run Tryz.prog W = .ok (.slice (some ⟨W.heap.size, 0, none⟩) nl nl) (W.alloc (.cells (zeros nl (.int .i64 0)) 3)) := fun W => by
    have h1 := hmk W
    rw [Int.toNat_natCast] at h1
    exact h1
  obtain ⟨n, hn⟩ : ∃ n, n = m.length := ⟨_, rfl⟩
  have HN := Lib.hid hn
  obtain ⟨res, hres⟩ : ∃ res, res = loadsW m W fac f := ⟨_, rfl⟩
  have HRES := Lib.hid hres
  rw [← hres]
  rw [← hn] at HLV hcap hm ⊢
  clear h hf hW hnl hmk hi0 hz0 hz1 hz2 hn hres
  go_enter Tryz.func20, Tryz.ntmps20
  go_wp2_with fail
  refine HLV.out.mono ?_
  rintro o w2 ⟨v, rfl, ho, hb⟩
  have B2 := Lib.hid hb
  have L2 := Lib.hid (HL.out.below hb)
  obtain ⟨AL, cL, rfl, hl1, hl2, hrl⟩ := read_own ho
  rw [HN.out] at hrl
  have HRL := Lib.hid hrl
  rw [HN.out, ← HNL.out] at hl1
  clear ho hb hrl
  rw [HN.out, ← HNL.out, ← HN.out]
  go_upto_region 2 with fail
  go_cut [10, 11] (fun x5 x6 wx => ∃ g1 g2, x5 = .slice (some ⟨g1, 0, none⟩) nl nl ∧ x6 = .slice (some ⟨g2, 0, none⟩) nl nl ∧ g1 ≠ g2 ∧ w2.heap.size ≤ g1 ∧ w2.heap.size ≤ g2 ∧ Hid (Cn w2 nl g1 g2 (fun _ => 0) (fun _ => 0) wx))
  case first =>
    have HKK := Lib.hid (show ∀ a b : Nat, (a = w2.heap.size ∧ b = w2.heap.size + 1) ∨ (a = w2.heap.size + 1 ∧ b = w2.heap.size) → Cn w2 nl a b (fun _ => 0) (fun _ => 0) ((w2.alloc (.cells (zeros nl (.int .i64 0)) 3)).alloc (.cells (zeros nl (.int .i64 0)) 3)).drew from by
      have k1 : Blk ((w2.alloc (.cells (zeros nl (.int .i64 0)) 3)).alloc (.cells (zeros nl (.int .i64 0)) 3)).drew w2.heap.size 3 (zeros nl (.int .i64 0)) := ((Blk.new w2 _ _).alloc _).drew
      have k2 : Blk ((w2.alloc (.cells (zeros nl (.int .i64 0)) 3)).alloc (.cells (zeros nl (.int .i64 0)) 3)).drew (w2.heap.size + 1) 3 (zeros nl (.int .i64 0)) := by
        have := (Blk.new (w2.alloc (.cells (zeros nl (.int .i64 0)) 3)) 3 (zeros nl (.int .i64 0))).drew
        simpa using this
      have kb : Below w2.heap.size w2 ((w2.alloc (.cells (zeros nl (.int .i64 0)) 3)).alloc (.cells (zeros nl (.int .i64 0)) 3)).drew := (((Below.refl w2.heap.size w2).alloc (Nat.le_refl _) _).alloc (by simp) _).drew
      rintro a b (⟨rfl, rfl⟩ | ⟨rfl, rfl⟩)
      · exact ⟨⟨_, k1, AtI.zeros nl⟩, ⟨_, k2, AtI.zeros nl⟩, kb⟩
      · exact ⟨⟨_, k2, AtI.zeros nl⟩, ⟨_, k1, AtI.zeros nl⟩, kb⟩)
    go_wp2_with fail
    go_region
    all_goals go_wp2_with fail
    all_goals go_meet
    · exact ⟨_, _, rfl, rfl, by omega, by omega, by omega, Lib.hid (HKK.out _ _ (.inl ⟨rfl, rfl⟩))⟩
    · exact ⟨_, _, rfl, rfl, by omega, by omega, by omega, Lib.hid (HKK.out _ _ (.inr ⟨rfl, rfl⟩))⟩
  case rest =>
    obtain ⟨g1, g2, rfl, rfl, hg, hg1, hg2, HC⟩ := hcut
    clear hmk2
    go_wp2_with fail
    go_loopw [12] (fun i wr => ∃ k : Nat, i = .int .i64 k ∧ k ≤ n ∧ Hid (Cn w2 nl g1 g2 (fun q => cntL m (fun x => wtOf m W x != 0) (lvA m q) (ofK m 4 k)) (fun q => cntL m (fun _ => true) (lvA m q) (ofK m 4 k)) wr)) (fun i _ => n - (intOf i).toNat)
    case atStart => exact ⟨0, rfl, by omega, HC⟩
    case round =>
      obtain ⟨k, rfl, hk, KC⟩ := hrel
      by_cases hkn : k < n
      · have t1 : decide ((k : Int) < n) = true := decide_eq_true (by omega)
        have hkm : k < m.length := by have := HN.out; omega
        obtain ⟨bl, off, hA, hbl, hC0⟩ := (L2.out.below KC.out.bel).rd.at_ k hkm
        subst hA
        clear hC0
        have HCL := Lib.hid (show ∀ V, Below w2.heap.size w2 V → ∀ j (hj : j < m.length), V.cell? ⟨bl, off + j * 7 + 1, none⟩ = some (.int .i64 (m[j]).kind) ∧ V.cell? ⟨bl, off + j * 7 + 2, none⟩ = some (.int .i64 (m[j]).ab) from fun V hV j hj => rd_all (L2.out.below hV).rd j hj)
        have d1 := (HCL.out wr KC.out.bel k hkm).1
        have hnx := ofK_next (kind := 4) hkm
        have j0 : (0 : Int) ≤ k := by omega
        have j1 : (k : Int) < n := by omega
        by_cases hq : (m[k]).kind = 4
        · rw [if_pos (by simpa using hq)] at hnx
          obtain ⟨r, z, a, hr, hz, ha, e1, e2, e3, hu⟩ := chain HF.out hkm hq
          obtain ⟨q, a2, hql, ha2, hqa, hua, _, _⟩ := lev_at HF.out hkm
          obtain rfl : a = a2 := by omega
          have hq' : q < nl := by rw [HNL.out]; exact hql
          have d2 := (HCL.out wr KC.out.bel k hkm).2
          have d3 := (HCL.out wr KC.out.bel r hr).2
          have d4 := (HCL.out wr KC.out.bel z hz).2
          rw [hq] at d1
          rw [e1] at d2
          rw [e2] at d3
          rw [e3] at d4
          have r0 : (0 : Int) ≤ r := by omega
          have r1 : (r : Int) < n := by have := HN.out; omega
          have z0 : (0 : Int) ≤ z := by omega
          have z1 : (z : Int) < n := by have := HN.out; omega
          have HC1 := Lib.hid (show ∀ (p : Nat → Bool) j, j < nl → cntL m p (lvA m j) (ofK m 4 (k + 1)) = if j = q then (cntL m p (lvA m q) (ofK m 4 k) + if p k = true then 1 else 0) else cntL m p (lvA m j) (ofK m 4 k) from fun p j hj => by
            rw [hnx]
            exact cnt_next hqa hua j (by rw [← HNL.out]; exact hj))
          have HLVJ := Lib.hid (show ∀ j, j < nl → ∃ bL oL, AL = some ⟨bL, oL, none⟩ ∧ ∀ V, Below w2.heap.size w2 V → V.cell? ⟨bL, oL + j, none⟩ = some (.int .i64 (lvA m j : Int)) from fun j hj => by
            have hjl : j < (ofK m 1 m.length).length := by rw [← HNL.out]; exact hj
            obtain ⟨bL, oL, hAL, _, _⟩ := HRL.out.at_ j hjl
            subst hAL
            refine ⟨bL, oL, rfl, fun V hV => ?_⟩
            obtain ⟨b', o', e1, _, e2⟩ := (HRL.out.below hV).at_ j hjl
            injection e1 with e1
            injection e1 with e3 e4
            subst e3 e4
            have h1 := (lvA_in hjl).1
            rw [List.getElem?_eq_getElem hjl] at h1
            injection h1 with h1
            rw [e2, h1])
          have HQJ := Lib.hid (show ∀ j, j < nl → (((lvA m j : Nat) : Int) = (a : Int) ↔ j = q) from fun j hj => by
            have hjl : j < (ofK m 1 m.length).length := by rw [← HNL.out]; exact hj
            have h1 := (lvA_in hjl).1
            exact ⟨fun e => lev_inj (by rw [h1, e]) hqa, fun e => by subst e; rw [lvA_of hqa]⟩)
          have HWK := Lib.hid (show W k = wtOf m W (k : Int) from (wt_nat hkm).symm)
          have hkm2 := hkm
          have HKC := Lib.hid (show Cn w2 nl g1 g2 (fun q' => if q' < 0 then cntL m (fun x => wtOf m W x != 0) (lvA m q') (ofK m 4 (k + 1)) else cntL m (fun x => wtOf m W x != 0) (lvA m q') (ofK m 4 k)) (fun q' => if q' < 0 then cntL m (fun _ => true) (lvA m q') (ofK m 4 (k + 1)) else cntL m (fun _ => true) (lvA m q') (ofK m 4 k)) wr from (KC.out.congr1 fun j hj => by rw [if_neg (by omega)]).congr2 fun j hj => by rw [if_neg (by omega)])
          clear hnx e1 e2 e3 hu hqa hua hq hql ha2
          go_wp2_with fail
          clear d1 d2 d3 d4
          go_loopw [14] (fun jj wx => ∃ j : Nat, jj = .int .i64 j ∧ j ≤ nl ∧ Hid (Cn w2 nl g1 g2 (fun q' => if q' < j then cntL m (fun x => wtOf m W x != 0) (lvA m q') (ofK m 4 (k + 1)) else cntL m (fun x => wtOf m W x != 0) (lvA m q') (ofK m 4 k)) (fun q' => if q' < j then cntL m (fun _ => true) (lvA m q') (ofK m 4 (k + 1)) else cntL m (fun _ => true) (lvA m q') (ofK m 4 k)) wx)) (fun jj _ => nl - (intOf jj).toNat)
          case atStart => exact ⟨0, rfl, by omega, HKC⟩
          case round =>
            obtain ⟨j, rfl, hj, JC⟩ := hrel
            by_cases hjn : j < nl
            · have t3 : decide ((j : Int) < nl) = true := decide_eq_true (by omega)
              obtain ⟨bL, oL, hAL, hV⟩ := HLVJ.out j hjn
              subst hAL
              have HVV := Lib.hid hV
              have cl : wr.cell? ⟨bL, oL + j, none⟩ = some (.int .i64 (lvA m j : Int)) := hV wr JC.out.bel
              have i0' : (0 : Int) ≤ j := by omega
              have i1' : (j : Int) < nl := by omega
              clear hV
              by_cases hjq : j = q
              · have hla := (HQJ.out j hjn).mpr hjq
                have HJQ := Lib.hid hjq
                clear hjq
                rw [hla] at cl
                have t4 : ((a : Int) != (a : Int)) = false := by simp
                have HA1 := Lib.hid (fun p => HC1.out p j hjn)
                obtain ⟨y2, hy2⟩ : ∃ y2, y2 = cntL m (fun _ => true) (lvA m j) (ofK m 4 k) := ⟨_, rfl⟩
                obtain ⟨y1, hy1⟩ : ∃ y1, y1 = cntL m (fun x => wtOf m W x != 0) (lvA m j) (ofK m 4 k) := ⟨_, rfl⟩
                have hyb2 : y2 ≤ 60 := by
                  have h1 := cntL_le m (fun _ => true) (lvA m j) (ofK m 4 k)
                  have h2 := ofK_len m 4 k
                  omega
                have hyb1 : y1 ≤ 60 := by
                  have h1 := cntL_le m (fun x => wtOf m W x != 0) (lvA m j) (ofK m 4 k)
                  have h2 := ofK_len m 4 k
                  omega
                have e2 : wr.cell? ⟨g2, j, none⟩ = some (.int .i64 (y2 : Int)) := by
                  rw [(JC.out.c2 hjn).1, if_neg (by omega), hy2]
                have f2 : wr.frozen? ⟨g2, j, none⟩ = false := (JC.out.c2 hjn).2
                have C5 := Lib.hid (show Cn w2 nl g1 g2 (fun q' => if q' < j then cntL m (fun x => wtOf m W x != 0) (lvA m q') (ofK m 4 (k + 1)) else cntL m (fun x => wtOf m W x != 0) (lvA m q') (ofK m 4 k)) (fun q' => if q' < j + 1 then cntL m (fun _ => true) (lvA m q') (ofK m 4 (k + 1)) else cntL m (fun _ => true) (lvA m q') (ofK m 4 k)) (wr.setCell ⟨g2, j, none⟩ (.int .i64 ((y2 : Int) + 1))) from JC.out.put2 hg hg2 j (y2 + 1) fun q' hq2 => by
                  try dsimp only
                  by_cases e : q' = j
                  · rw [if_pos e, if_pos (by omega), HC1.out _ q' hq2, if_pos (e.trans HJQ.out), hy2, HJQ.out, if_pos rfl]
                  · rw [if_neg e]
                    by_cases e3 : q' < j
                    · rw [if_pos (by omega), if_pos e3]
                    · rw [if_neg (by omega), if_neg e3])
                obtain ⟨w5, hw5⟩ : ∃ w5, w5 = wr.setCell ⟨g2, j, none⟩ (.int .i64 ((y2 : Int) + 1)) := ⟨_, rfl⟩
                have HW5 := Lib.hid hw5
                rw [← hw5] at C5
                have dw : w5.cell? ⟨b, k, none⟩ = some (.int .u64 (W k)) := (L2.out.below C5.out.bel).cell hkm
                have e1 : w5.cell? ⟨g1, j, none⟩ = some (.int .i64 (y1 : Int)) := by
                  rw [(C5.out.c1 hjn).1, if_neg (by omega), hy1]
                have f1 : w5.frozen? ⟨g1, j, none⟩ = false := (C5.out.c1 hjn).2
                have hwn := HWW.out k
                have HWK2 := HWK.out
                obtain ⟨wk, hwk⟩ : ∃ wk, wk = W k := ⟨_, rfl⟩
                rw [← hwk] at dw hwn HWK2
                rw [hw5] at dw e1 f1
                clear hwk hw5 hla
                by_cases hz : 0 < wk
                · have HCF := Lib.hid (show Cn w2 nl g1 g2 (fun q' => if q' < j + 1 then cntL m (fun x => wtOf m W x != 0) (lvA m q') (ofK m 4 (k + 1)) else cntL m (fun x => wtOf m W x != 0) (lvA m q') (ofK m 4 k)) (fun q' => if q' < j + 1 then cntL m (fun _ => true) (lvA m q') (ofK m 4 (k + 1)) else cntL m (fun _ => true) (lvA m q') (ofK m 4 k)) ((wr.setCell ⟨g2, j, none⟩ (.int .i64 ((y2 : Int) + 1))).setCell ⟨g1, j, none⟩ (.int .i64 ((y1 : Int) + 1))) from by
                    rw [← HW5.out]
                    exact C5.out.put1 hg hg1 j (y1 + 1) fun q' hq2 => by
                      try dsimp only
                      by_cases e : q' = j
                      · rw [if_pos e, if_pos (by omega), HC1.out _ q' hq2, if_pos (e.trans HJQ.out), hy1, HJQ.out, if_pos (by rw [← HWK2]; simp; omega)]
                      · rw [if_neg e]
                        by_cases e3 : q' < j
                        · rw [if_pos (by omega), if_pos e3]
                        · rw [if_neg (by omega), if_neg e3])
                  clear hy1 hy2
                  have t5 : decide (0 < wk) = true := decide_eq_true hz
                  go_wp2_with fail
                  go_roundw
                  case rel => exact ⟨j + 1, by go_num, by omega, HCF⟩
                  case measure => simp [intOf]; omega
                · have HCF := Lib.hid (show Cn w2 nl g1 g2 (fun q' => if q' < j + 1 then cntL m (fun x => wtOf m W x != 0) (lvA m q') (ofK m 4 (k + 1)) else cntL m (fun x => wtOf m W x != 0) (lvA m q') (ofK m 4 k)) (fun q' => if q' < j + 1 then cntL m (fun _ => true) (lvA m q') (ofK m 4 (k + 1)) else cntL m (fun _ => true) (lvA m q') (ofK m 4 k)) (wr.setCell ⟨g2, j, none⟩ (.int .i64 ((y2 : Int) + 1))) from by
                    rw [← HW5.out]
                    exact C5.out.congr1 fun q' hq2 => by
                      by_cases e : q' = j
                      · rw [if_neg (by omega), if_pos (by omega), HC1.out _ q' hq2, if_pos (e.trans HJQ.out), if_neg (by rw [← HWK2]; simp; omega), Nat.add_zero, e, HJQ.out]
                      · by_cases e3 : q' < j
                        · rw [if_pos e3, if_pos (by omega)]
                        · rw [if_neg e3, if_neg (by omega)])
                  clear hy1 hy2
                  have t5 : decide (0 < wk) = false := decide_eq_false hz
                  go_wp2_with fail
                  go_roundw
                  case rel => exact ⟨j + 1, by go_num, by omega, HCF⟩
                  case measure => simp [intOf]; omega
              · have t4 : ((lvA m j : Int) != (a : Int)) = true := bne_iff_ne.mpr fun e => hjq ((HQJ.out j hjn).mp e)
                have hN : ∀ (p : Nat → Bool), cntL m p (lvA m j) (ofK m 4 (k + 1)) = cntL m p (lvA m j) (ofK m 4 k) := fun p => by rw [HC1.out p j hjn, if_neg hjq]
                have HNN := Lib.hid hN
                have HJ2 := Lib.hid (show Cn w2 nl g1 g2 (fun q' => if q' < j + 1 then cntL m (fun x => wtOf m W x != 0) (lvA m q') (ofK m 4 (k + 1)) else cntL m (fun x => wtOf m W x != 0) (lvA m q') (ofK m 4 k)) (fun q' => if q' < j + 1 then cntL m (fun _ => true) (lvA m q') (ofK m 4 (k + 1)) else cntL m (fun _ => true) (lvA m q') (ofK m 4 k)) wr from (JC.out.congr1 fun q' hq2 => by
                  by_cases e : q' = j
                  · subst e; rw [if_neg (by omega), if_pos (by omega), hN]
                  · by_cases e3 : q' < j
                    · rw [if_pos e3, if_pos (by omega)]
                    · rw [if_neg e3, if_neg (by omega)]).congr2 fun q' hq2 => by
                  by_cases e : q' = j
                  · subst e; rw [if_neg (by omega), if_pos (by omega), hN]
                  · by_cases e3 : q' < j
                    · rw [if_pos e3, if_pos (by omega)]
                    · rw [if_neg e3, if_neg (by omega)])
                clear hN
                go_wp2_with fail
                go_roundw
                case rel => exact ⟨j + 1, by go_num, by omega, HJ2⟩
                case measure => simp [intOf]; omega
            · have t3 : decide ((j : Int) < nl) = false := decide_eq_false (by omega)
              have HJ3 := Lib.hid (show Cn w2 nl g1 g2 (fun q => cntL m (fun x => wtOf m W x != 0) (lvA m q) (ofK m 4 (k + 1))) (fun q => cntL m (fun _ => true) (lvA m q) (ofK m 4 (k + 1))) wr from (JC.out.congr1 fun q' hq2 => by rw [if_pos (by omega)]).congr2 fun q' hq2 => by rw [if_pos (by omega)])
              go_wp2_with fail
              go_roundw
              case rel => exact ⟨k + 1, by go_num, by omega, HJ3⟩
              case measure => simp [intOf]; omega
        · rw [if_neg (by simpa using hq), List.append_nil] at hnx
          have HNX := Lib.hid hnx
          obtain ⟨kd, hkd⟩ : ∃ kd, kd = (m[k]).kind := ⟨_, rfl⟩
          rw [← hkd] at d1 hq
          have t2 : (kd != 4) = true := bne_iff_ne.mpr hq
          clear hnx hkd
          go_wp2_with fail
          go_roundw
          case rel => exact ⟨k + 1, by go_num, by omega, by rw [HNX.out]; exact KC⟩
          case measure => simp [intOf]; omega
      · have t1 : decide ((k : Int) < n) = false := decide_eq_false (by omega)
        obtain rfl : n = k := by omega
        have HX1 := Lib.hid (show haveL m W = (List.range nl).map fun q => ((cntL m (fun x => wtOf m W x != 0) (lvA m q) (ofK m 4 n) : Nat) : Int) from by rw [HNL.out, HN.out]; rfl)
        have HX2 := Lib.hid (show allL m = (List.range nl).map fun q => ((cntL m (fun _ => true) (lvA m q) (ofK m 4 n) : Nat) : Int) from by rw [HNL.out, HN.out]; rfl)
        obtain ⟨l1, hl1'⟩ : ∃ l, l = haveL m W := ⟨_, rfl⟩
        obtain ⟨l2, hl2'⟩ : ∃ l, l = allL m := ⟨_, rfl⟩
        have HLD := Lib.hid (show res = sharesL (turnL l1 f) (turnL l2 f) fac from by rw [HRES.out, hl1', hl2']; rfl)
        rw [← hl1'] at HX1
        rw [← hl2'] at HX2
        have E1 := Lib.hid (show l1.length = nl by rw [HX1.out, List.length_map, List.length_range])
        have E2 := Lib.hid (show l2.length = nl by rw [HX2.out, List.length_map, List.length_range])
        obtain ⟨⟨c1, b1, a1⟩, ⟨c2, b2, a2⟩, hb⟩ := KC.out
        have R1 := Lib.hid (show Row wr wr.heap.size (some ⟨g1, 0, none⟩) (l1.map (.int .i64)) from HX1.out ▸ row_cs b1 a1)
        have R2 := Lib.hid (show Row wr wr.heap.size (some ⟨g2, 0, none⟩) (l2.map (.int .i64)) from HX2.out ▸ row_cs b2 a2)
        have HB := Lib.hid (B2.out.trans (hb.mono B2.out.size))
        have HT1 := Lib.hid (turn_any g1 nl l1 f wr E1.out (by omega) R1.out b1.lt)
        have HT2 := Lib.hid (show ∀ V, Below wr.heap.size wr V → Calls Tryz.prog 54 #[.slice (some ⟨g2, 0, none⟩) nl nl, .int .i64 f] V fun o w' => ∃ v, o = .returned v ∧ OwnI w' V.heap.size v (turnL l2 f) ∧ Below V.heap.size V w' from fun V hV => turn_any g2 nl l2 f V E2.out (by omega) ((R2.out.below hV).more hV.size) (Nat.lt_of_lt_of_le b2.lt hV.size))
        have HOF := Lib.hid (show ∀ V v1 v2 B1 B2, w.heap.size ≤ V.heap.size → OwnI V B1 v1 (turnL l1 f) → OwnI V B2 v2 (turnL l2 f) → Calls Tryz.prog 53 #[v1, v2, .int .i64 fac] V fun o w' => ∃ v, o = .returned v ∧ OwnI w' w.heap.size v res ∧ Below V.heap.size V w' from fun V v1 v2 B1 B2 hV h1 h2 => by
          rw [HLD.out]
          refine (of_any v1 v2 _ _ fac V B1 B2 h1 h2 (by rw [turnL_len, E1.out]; omega) (by rw [turnL_len, E2.out]; omega)).mono ?_
          rintro o w' ⟨v, e, ho, hb⟩
          exact ⟨v, e, ownI_up ho hV, hb⟩)
        clear b1 a1 b2 a2 hb hl1' hl2'
        go_wp2_with fail
        refine HT1.out.mono ?_
        rintro o w5 ⟨v5, rfl, ho5, hb5⟩
        have O5 := Lib.hid ho5
        have B5 := Lib.hid hb5
        clear ho5 hb5
        go_wp2_with fail
        refine (HT2.out w5 B5.out).mono ?_
        rintro o w6 ⟨v6, rfl, ho6, hb6⟩
        have O6 := Lib.hid ho6
        have O56 := Lib.hid (O5.out.below hb6)
        have B6 := Lib.hid (HB.out.trans ((B5.out.trans (hb6.mono B5.out.size)).mono HB.out.size))
        clear ho6 hb6
        go_wp2_with fail
        refine (HOF.out w6 v5 v6 _ _ B6.out.size O56.out O6.out).mono ?_
        rintro o w7 ⟨v7, rfl, ho7, hb7⟩
        have O7 := Lib.hid ho7
        have B7 := Lib.hid (B6.out.trans (hb7.mono B6.out.size))
        clear ho7 hb7
        go_wp2_with fail
        go_ret
        exact ⟨_, rfl, O7.out, B7.out⟩
end Go.Proofs.YtoaboklckkcjcaaGreat.walkJ
