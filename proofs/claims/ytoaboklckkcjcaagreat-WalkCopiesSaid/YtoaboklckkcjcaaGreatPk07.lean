/- 2 texts in one. -/
import Derived.Lib.Slices
import Derived.Test.YtoaboklckkcjcaaGreatPk06
/- Layer 16: what nodes that may all be are, in plain words. -/
namespace Go.Proofs.YtoaboklckkcjcaaGreat.treW
open Go.ChangeShapes Go.WideShapes Go.ChangeAt Go.RowKit
open Go.Proofs.YtoaboklckkcjcaaGreat.base Go.Proofs.YtoaboklckkcjcaaGreat.dfA Go.Proofs.YtoaboklckkcjcaaGreat.treB Go.Proofs.YtoaboklckkcjcaaGreat.treC Go.Proofs.YtoaboklckkcjcaaGreat.treD Go.Proofs.YtoaboklckkcjcaaGreat.treE Go.Proofs.YtoaboklckkcjcaaGreat.treG Go.Proofs.YtoaboklckkcjcaaGreat.treH
set_option linter.unusedVariables false

theorem isB_nat {a n : Nat} (h : a < n) : isB (a : Int) n = true := by
  unfold isB
  rw [decide_eq_true (show (0 : Int) ≤ a by omega), decide_eq_true (show (a : Int) < n by omega)]; rfl
theorem isB_of {i : Int} {n : Nat} (h : isB i n = true) : ∃ a : Nat, i = (a : Int) ∧ a < n := by
  unfold isB at h
  simp only [Bool.and_eq_true, decide_eq_true_eq] at h
  exact ⟨i.toNat, by omega, by omega⟩
theorem isB_not {i : Int} {n : Nat} (h : isB i n = false) : i < 0 ∨ (n : Int) ≤ i := by
  unfold isB at h
  by_cases h1 : 0 ≤ i
  · right
    rw [decide_eq_true h1, Bool.true_and] at h
    have := of_decide_eq_false h
    omega
  · left; omega
/-- What whyZ says of a node that may stand there. -/
theorem whyZ_parts {l : List Nd} {n : Nd} (h : whyZ l n = 0) : 1 ≤ n.kind ∧ n.kind ≤ 4 ∧ (n.kind = 1 → n.ab = -1) ∧ (n.kind ≠ 1 → (ndAt l n.ab).kind = n.kind - 1) ∧ hasB l n = false := by
  unfold whyZ at h
  split at h
  · cases h
  · rename_i h1
    split at h
    · cases h
    · split at h
      · cases h
      · rename_i h3
        split at h
        · cases h
        · rename_i h4
          split at h
          · cases h
          · split at h
            · cases h
            · rename_i h6
              simp at h1 h3 h4 h6
              exact ⟨by omega, by omega, h3, h4, h6⟩
structure Fine (m : List Nd) : Prop where
  lo : ∀ j (hj : j < m.length), 1 ≤ (m[j]).kind
  hi : ∀ j (hj : j < m.length), (m[j]).kind ≤ 4
  lev : ∀ j (hj : j < m.length), (m[j]).kind = 1 → (m[j]).ab = -1
  sub : ∀ j (hj : j < m.length), (m[j]).kind ≠ 1 → ∃ a : Nat, ∃ ha : a < m.length, (m[j]).ab = (a : Int) ∧ a < j ∧ (m[a]).kind = (m[j]).kind - 1
  nm : ∀ i j (hi : i < m.length) (hj : j < m.length), i < j → (m[i]).nm ≠ (m[j]).nm
theorem fine_of {m : List Nd} (h : GoodTo m m.length) : Fine m := by
  have key : ∀ j (hj : j < m.length), whyZ (m.take j) m[j] = 0 := fun j hj => by
    have h1 := h j hj hj
    unfold whyF at h1
    by_cases hz : whyZ (m.take j) m[j] = 0
    · exact hz
    · rw [if_neg hz] at h1; exact absurd h1 hz
  refine ⟨fun j hj => (whyZ_parts (key j hj)).1, fun j hj => (whyZ_parts (key j hj)).2.1, fun j hj => (whyZ_parts (key j hj)).2.2.1, fun j hj hk => ?_, fun i j hi hj hij he => ?_⟩
  · obtain ⟨p1, p2, p3, p4, p5⟩ := whyZ_parts (key j hj)
    have p6 := p4 hk
    obtain ⟨a, ha, hal⟩ := above_in (key j hj) hk
    rw [List.length_take] at hal
    have haj : a < j := by omega
    have ham : a < m.length := by omega
    refine ⟨a, ham, ha, haj, ?_⟩
    rw [ha] at p6
    unfold ndAt at p6
    rw [isB_nat (by rw [List.length_take]; omega), if_pos rfl, Int.toNat_natCast, List.getD_eq_getElem?_getD, List.getElem?_take_of_lt haj, List.getElem?_eq_getElem ham] at p6
    exact p6
  · obtain ⟨p1, p2, p3, p4, p5⟩ := whyZ_parts (key j hj)
    unfold hasB at p5
    rw [List.any_eq_false] at p5
    have hil : i < (m.take j).length := by rw [List.length_take]; omega
    have h1 := p5 ((m.take j)[i]) (List.getElem_mem hil)
    rw [List.getElem_take] at h1
    apply h1
    unfold twB
    rw [str_yes he, Bool.true_or]
/-- The law's kids of i among the first k. -/
def kidW (m : List Nd) (i : Int) : Nat → List Int
  | 0 => []
  | k + 1 => if ((m.getD k zNd).ab == i && decide (0 ≤ i)) = true then kidW m i k ++ [(k : Int)] else kidW m i k
theorem kidW_len (m : List Nd) (i : Int) (k : Nat) : (kidW m i k).length ≤ k := by
  induction k with
  | zero => exact Nat.le_refl _
  | succ k ih =>
    unfold kidW
    split
    · rw [List.length_append]; exact Nat.succ_le_succ ih
    · exact Nat.le_succ_of_le ih
theorem kidW_next {m : List Nd} {k : Nat} (i : Int) (hk : k < m.length) : kidW m i (k + 1) = if ((m[k]).ab == i && decide (0 ≤ i)) = true then kidW m i k ++ [(k : Int)] else kidW m i k := by
  have h1 : m.getD k zNd = m[k] := by rw [List.getD_eq_getElem?_getD, List.getElem?_eq_getElem hk]; rfl
  show (if ((m.getD k zNd).ab == i && decide (0 ≤ i)) = true then kidW m i k ++ [(k : Int)] else kidW m i k) = _
  rw [h1]
theorem kidW_nat {m : List Nd} (hf : Fine m) (a : Nat) : ∀ k, k ≤ m.length → kidW m (a : Int) k = kidsL m k a := by
  intro k
  induction k with
  | zero => intro _; rfl
  | succ k ih =>
    intro hk
    rw [kidW_next _ (show k < m.length by omega), ih (by omega)]
    have h1 : m.getD k zNd = m[k]'(by omega) := by rw [List.getD_eq_getElem?_getD, List.getElem?_eq_getElem (by omega)]; rfl
    show _ = if kidB (m.getD k zNd) a = true then kidsL m k a ++ [(k : Int)] else kidsL m k a
    rw [h1]
    have h2 : ((m[k]'(by omega)).ab == (a : Int) && decide (0 ≤ (a : Int))) = kidB (m[k]'(by omega)) a := by
      unfold kidB
      rw [decide_eq_true (show (0 : Int) ≤ a by omega), Bool.and_true]
      by_cases hkd : (m[k]'(by omega)).kind = 1
      · have hab := hf.lev k (by omega) hkd
        rw [hab, hkd]
        have : ((-1 : Int) == (a : Int)) = false := beq_false_of_ne (by omega)
        rw [this]; rfl
      · have : ((m[k]'(by omega)).kind != 1) = true := by simp [hkd]
        rw [this, Bool.true_and]
    rw [h2]
theorem kidW_none {m : List Nd} (hf : Fine m) {i : Int} (h : isB i m.length = false) : ∀ k, k ≤ m.length → kidW m i k = [] := by
  intro k
  induction k with
  | zero => intro _; rfl
  | succ k ih =>
    intro hk
    rw [kidW_next _ (show k < m.length by omega), ih (by omega)]
    rw [if_neg]
    intro hc
    simp only [Bool.and_eq_true, beq_iff_eq, decide_eq_true_eq] at hc
    obtain ⟨h1, h2⟩ := hc
    by_cases hkd : (m[k]'(by omega)).kind = 1
    · have := hf.lev k (by omega) hkd; omega
    · obtain ⟨a, ha, hab, haj, _⟩ := hf.sub k (by omega) hkd
      rcases isB_not h with h3 | h3 <;> omega
/-- Where the name was found last among the first k. -/
def findW (m : List Nd) (s : ByteArray) : Nat → Int
  | 0 => -1
  | k + 1 => if (m.getD k zNd).nm.toList == s.toList then (k : Int) else findW m s k
theorem findW_next {m : List Nd} {k : Nat} (s : ByteArray) (hk : k < m.length) : findW m s (k + 1) = if ((m[k]).nm.toList == s.toList) = true then (k : Int) else findW m s k := by
  have h1 : m.getD k zNd = m[k] := by rw [List.getD_eq_getElem?_getD, List.getElem?_eq_getElem hk]; rfl
  show (if ((m.getD k zNd).nm.toList == s.toList) = true then (k : Int) else findW m s k) = _
  rw [h1]
theorem findW_is {m : List Nd} (hf : Fine m) (s : ByteArray) : IsFind m s (findW m s m.length) := by
  have key : ∀ k, k ≤ m.length → (findW m s k = -1 ∧ ∀ q (hq : q < m.length), q < k → (m[q]).nm ≠ s) ∨ (∃ j, ∃ hj : j < m.length, j < k ∧ findW m s k = (j : Int) ∧ (m[j]).nm = s) := by
    intro k
    induction k with
    | zero => intro _; exact .inl ⟨rfl, fun q hq h => by omega⟩
    | succ k ih =>
      intro hk
      rw [findW_next s (show k < m.length by omega)]
      cases hq : ((m[k]'(by omega)).nm.toList == s.toList) with
      | true =>
        rw [if_pos rfl]
        refine .inr ⟨k, by omega, by omega, rfl, ?_⟩
        have h2 : (m[k]'(by omega)).nm.toList = s.toList := by simpa using hq
        rw [ByteArray.toList_eq, ByteArray.toList_eq] at h2
        exact bytes_inj h2
      | false =>
        rw [if_neg (by decide)]
        rcases ih (by omega) with ⟨e1, e2⟩ | ⟨j, hj, hjk, e1, e2⟩
        · refine .inl ⟨e1, fun q hql hqk => ?_⟩
          by_cases hqe : q = k
          · subst hqe
            intro he
            rw [str_yes he] at hq
            cases hq
          · exact e2 q hql (by omega)
        · exact .inr ⟨j, hj, by omega, e1, e2⟩
  rcases key m.length (Nat.le_refl _) with ⟨e1, e2⟩ | ⟨j, hj, _, e1, e2⟩
  · rw [e1]
    exact .inl ⟨rfl, fun e he => by
      obtain ⟨q, hq, rfl⟩ := List.mem_iff_getElem.mp he
      exact e2 q hq hq⟩
  · rw [e1]
    refine .inr ⟨j, hj, rfl, e2, fun q hq he => ?_⟩
    exact hf.nm q j (by omega) hj hq (he.trans e2.symm)
/-- The node of the number i among the first k. -/
def wantW (m : List Nd) (i : Int) (k : Nat) : Nd := if isB i k = true then m.getD i.toNat zNd else zNd
theorem wantW_here {m : List Nd} {k : Nat} (hk : k < m.length) : wantW m (k : Int) (k + 1) = m[k] := by
  unfold wantW
  rw [isB_nat (by omega), if_pos rfl, Int.toNat_natCast, List.getD_eq_getElem?_getD, List.getElem?_eq_getElem hk]; rfl
theorem wantW_next {m : List Nd} {k : Nat} {i : Int} (h : (k : Int) ≠ i) : wantW m i (k + 1) = wantW m i k := by
  unfold wantW
  have : isB i (k + 1) = isB i k := by
    unfold isB
    congr 1
    rw [decide_eq_decide]
    omega
  rw [this]
theorem wantW_end (m : List Nd) (i : Int) : wantW m i m.length = ndAt m i := rfl
/-- The node of a kind that one is, or is below: in so many steps. -/
def upW (m : List Nd) (kind : Int) : Nat → Int → Int
  | 0, _ => -1
  | f + 1, i => if isB i m.length = true then (if ((ndAt m i).kind == kind) = true then i else upW m kind f (ndAt m i).ab) else -1
theorem upW_out {m : List Nd} {kind : Int} {i : Int} (h : isB i m.length = false) : ∀ f, upW m kind f i = -1 := by
  intro f
  cases f with
  | zero => rfl
  | succ f => unfold upW; rw [h]; rfl
theorem ndAt_nat {m : List Nd} {a : Nat} (h : a < m.length) : ndAt m (a : Int) = m[a] := by
  unfold ndAt
  rw [isB_nat h, if_pos rfl, Int.toNat_natCast, List.getD_eq_getElem?_getD, List.getElem?_eq_getElem h]; rfl
/-- More steps than the kind tell nothing more. -/
theorem upW_more {m : List Nd} (hf : Fine m) (kind : Int) : ∀ (f : Nat) (a : Nat) (ha : a < m.length), (m[a]).kind ≤ (f : Int) → ∀ g, f ≤ g → upW m kind g (a : Int) = upW m kind f (a : Int) := by
  intro f
  induction f with
  | zero => intro a ha h; have := hf.lo a ha; omega
  | succ f ih =>
    intro a ha h g hg
    obtain ⟨g', rfl⟩ : ∃ g', g = g' + 1 := ⟨g - 1, by omega⟩
    unfold upW
    rw [isB_nat ha, if_pos rfl, if_pos rfl, ndAt_nat ha]
    split
    · rfl
    · by_cases hk : (m[a]).kind = 1
      · rw [hf.lev a ha hk]
        have hz : isB (-1) m.length = false := by unfold isB; rfl
        rw [upW_out hz, upW_out hz]
      · obtain ⟨b, hb, hab, hba, hkb⟩ := hf.sub a ha hk
        rw [hab]
        exact ih b hb (by omega) g' (by omega)
/-- The node of a kind that one is, or is below. -/
def upF (m : List Nd) (kind i : Int) : Int := upW m kind 4 i
theorem upF_step {m : List Nd} (hf : Fine m) (kind : Int) {a : Nat} (ha : a < m.length) (h : ((m[a]).kind == kind) = false) : upF m kind (a : Int) = upF m kind (m[a]).ab := by
  unfold upF
  show (if isB (a : Int) m.length = true then (if ((ndAt m (a : Int)).kind == kind) = true then (a : Int) else upW m kind 3 (ndAt m (a : Int)).ab) else -1) = _
  rw [isB_nat ha, if_pos rfl, ndAt_nat ha, h, if_neg (by decide)]
  by_cases hk : (m[a]).kind = 1
  · rw [hf.lev a ha hk]
    have hz : isB (-1) m.length = false := by unfold isB; rfl
    rw [upW_out hz, upW_out hz]
  · obtain ⟨b, hb, hab, hba, hkb⟩ := hf.sub a ha hk
    rw [hab]
    have := hf.hi a ha
    exact (upW_more hf kind 3 b hb (by omega) 4 (by omega)).symm
theorem upF_here {m : List Nd} (kind : Int) {a : Nat} (ha : a < m.length) (h : ((m[a]).kind == kind) = true) : upF m kind (a : Int) = (a : Int) := by
  unfold upF upW
  rw [isB_nat ha, if_pos rfl, ndAt_nat ha, if_pos h]
theorem upF_out {m : List Nd} (kind : Int) {i : Int} (h : isB i m.length = false) : upF m kind i = -1 := upW_out h 4
/-- Each is below a level. -/
theorem upF_level {m : List Nd} (hf : Fine m) : ∀ (n a : Nat) (ha : a < m.length), a < n → ∃ b : Nat, ∃ hb : b < m.length, upF m 1 (a : Int) = (b : Int) ∧ (m[b]).kind = 1 := by
  intro n
  induction n with
  | zero => intro a ha h; omega
  | succ n ih =>
    intro a ha h
    by_cases hk : (m[a]).kind = 1
    · exact ⟨a, ha, upF_here 1 ha (by simp [hk]), hk⟩
    · obtain ⟨b, hb, hab, hba, hkb⟩ := hf.sub a ha hk
      rw [upF_step hf 1 ha (by simp [hk]), hab]
      exact ih b hb (by omega)
/-- The place of a number among the levels of the first k; -1: none. -/
def levW (m : List Nd) (u : Int) : Nat → Int
  | 0 => -1
  | k + 1 => if ((m.getD k zNd).kind == 1 && u == (k : Int)) = true then ((ofK m 1 k).length : Int) else levW m u k
theorem levW_next {m : List Nd} {k : Nat} (u : Int) (hk : k < m.length) : levW m u (k + 1) = if ((m[k]).kind == 1 && u == (k : Int)) = true then ((ofK m 1 k).length : Int) else levW m u k := by
  have h1 : m.getD k zNd = m[k] := by rw [List.getD_eq_getElem?_getD, List.getElem?_eq_getElem hk]; rfl
  show (if ((m.getD k zNd).kind == 1 && u == (k : Int)) = true then ((ofK m 1 k).length : Int) else levW m u k) = _
  rw [h1]
theorem ofK_mem {m : List Nd} {kind : Int} {k : Nat} {x : Int} (h : x ∈ ofK m kind k) : ∃ j : Nat, x = (j : Int) ∧ j < k ∧ (m.getD j zNd).kind = kind := by
  unfold ofK at h
  rw [List.mem_map] at h
  obtain ⟨j, hj, rfl⟩ := h
  rw [List.mem_filter, List.mem_range] at hj
  exact ⟨j, rfl, hj.1, by simpa using hj.2⟩
theorem idx_new (u : Int) : ∀ (zs : List Int) (i : Nat), (∀ x, x ∈ zs → x ≠ u) → Lib.idxFrom (zs ++ [u]) u i = ((i + zs.length : Nat) : Int) := by
  intro zs
  induction zs with
  | nil => intro i _; show (if u = u then (i : Int) else _) = _; rw [if_pos rfl]; rfl
  | cons z zs ih =>
    intro i h
    show (if z = u then (i : Int) else Lib.idxFrom (zs ++ [u]) u (i + 1)) = _
    rw [if_neg (h z (by simp)), ih (i + 1) (fun x hx => h x (by simp [hx]))]
    congr 1
    rw [List.length_cons]; omega
theorem idx_old (u y : Int) (hy : y ≠ u) : ∀ (zs : List Int) (i : Nat), Lib.idxFrom (zs ++ [y]) u i = Lib.idxFrom zs u i := by
  intro zs
  induction zs with
  | nil => intro i; show (if y = u then (i : Int) else Lib.idxFrom [] u (i + 1)) = _; rw [if_neg hy]; rfl
  | cons z zs ih =>
    intro i
    show (if z = u then (i : Int) else Lib.idxFrom (zs ++ [y]) u (i + 1)) = (if z = u then (i : Int) else Lib.idxFrom zs u (i + 1))
    rw [ih (i + 1)]
theorem levW_is (m : List Nd) (u : Int) : ∀ k, k ≤ m.length → levW m u k = Lib.idxOf (ofK m 1 k) u := by
  intro k
  induction k with
  | zero => intro _; rfl
  | succ k ih =>
    intro hk
    rw [levW_next u (show k < m.length by omega), ih (by omega), ofK_next (show k < m.length by omega)]
    cases h1 : ((m[k]'(by omega)).kind == 1) with
    | false => rw [Bool.false_and, if_neg (by decide), if_neg (by decide), List.append_nil]
    | true =>
      rw [Bool.true_and, if_pos rfl]
      by_cases h2 : u = (k : Int)
      · subst h2
        rw [if_pos (by simp)]
        unfold Lib.idxOf
        rw [idx_new _ _ _ (fun x hx => by
          obtain ⟨j, rfl, hj, _⟩ := ofK_mem hx
          omega), Nat.zero_add]
      · rw [if_neg (by simp [h2])]
        unfold Lib.idxOf
        rw [idx_old _ _ (fun e => h2 e.symm)]
/-- The hosts below i among the first k, as the law tells them. -/
def belW (m : List Nd) (i : Int) (kind : Int) : Nat → List Int
  | 0 => []
  | k + 1 => if ((m.getD k zNd).kind == 4 && upF m kind (k : Int) == i) = true then belW m i kind k ++ [(k : Int)] else belW m i kind k
theorem belW_next {m : List Nd} {k : Nat} (i kind : Int) (hk : k < m.length) : belW m i kind (k + 1) = if ((m[k]).kind == 4 && upF m kind (k : Int) == i) = true then belW m i kind k ++ [(k : Int)] else belW m i kind k := by
  have h1 : m.getD k zNd = m[k] := by rw [List.getD_eq_getElem?_getD, List.getElem?_eq_getElem hk]; rfl
  show (if ((m.getD k zNd).kind == 4 && upF m kind (k : Int) == i) = true then belW m i kind k ++ [(k : Int)] else belW m i kind k) = _
  rw [h1]
theorem belW_len (m : List Nd) (i kind : Int) (k : Nat) : (belW m i kind k).length ≤ k := by
  induction k with
  | zero => exact Nat.le_refl _
  | succ k ih =>
    unfold belW
    split
    · rw [List.length_append]; exact Nat.succ_le_succ ih
    · exact Nat.le_succ_of_le ih
theorem belW_is (m : List Nd) (i kind : Int) : ∀ k, k ≤ m.length → belW m i kind k = (ofK m 4 k).filter fun x => !(upF m kind x != i) := by
  intro k
  induction k with
  | zero => intro _; rfl
  | succ k ih =>
    intro hk
    rw [belW_next i kind (show k < m.length by omega), ih (by omega), ofK_next (show k < m.length by omega), List.filter_append]
    cases h1 : ((m[k]'(by omega)).kind == 4) with
    | false => simp
    | true =>
      cases h2 : (upF m kind (k : Int) == i) with
      | true => simp [bne, h2]
      | false => simp [bne, h2]
end Go.Proofs.YtoaboklckkcjcaaGreat.treW
/- Layer 23: what nodes weigh, in plain words. -/
namespace Go.Proofs.YtoaboklckkcjcaaGreat.eliW
open Go.ChangeShapes Go.WideShapes Go.ChangeAt Go.RowKit
open Go.Proofs.YtoaboklckkcjcaaGreat.base Go.Proofs.YtoaboklckkcjcaaGreat.dfA Go.Proofs.YtoaboklckkcjcaaGreat.treB Go.Proofs.YtoaboklckkcjcaaGreat.treC Go.Proofs.YtoaboklckkcjcaaGreat.treD Go.Proofs.YtoaboklckkcjcaaGreat.treE Go.Proofs.YtoaboklckkcjcaaGreat.treG Go.Proofs.YtoaboklckkcjcaaGreat.treH Go.Proofs.YtoaboklckkcjcaaGreat.treW
set_option linter.unusedVariables false

/-- What nodes that may be weigh at most, and least. -/
structure Heavy (m : List Nd) : Prop where
  lo : ∀ j (hj : j < m.length), 0 ≤ (m[j]).wt
  hi : ∀ j (hj : j < m.length), (m[j]).wt ≤ 65535
  lev : ∀ j (hj : j < m.length), (m[j]).kind = 1 → (m[j]).wt = 0
theorem whyZ_wt {l : List Nd} {n : Nd} (h : whyZ l n = 0) : 0 ≤ n.wt ∧ n.wt ≤ 65535 ∧ (n.kind = 1 → n.wt = 0) := by
  unfold whyZ at h
  split at h
  · cases h
  · split at h
    · cases h
    · rename_i h2
      simp at h2
      exact ⟨by omega, by omega, h2.2⟩
theorem heavy_of {m : List Nd} (h : GoodTo m m.length) : Heavy m := by
  have key : ∀ j (hj : j < m.length), whyZ (m.take j) m[j] = 0 := fun j hj => by
    have h1 := h j hj hj
    unfold whyF at h1
    by_cases hz : whyZ (m.take j) m[j] = 0
    · exact hz
    · rw [if_neg hz] at h1; exact absurd h1 hz
  exact ⟨fun j hj => (whyZ_wt (key j hj)).1, fun j hj => (whyZ_wt (key j hj)).2.1, fun j hj => (whyZ_wt (key j hj)).2.2⟩
/-- A sum of the first n. -/
def sumF (g : Nat → Int) : Nat → Int
  | 0 => 0
  | k + 1 => sumF g k + g k
theorem sumF_congr {g h : Nat → Int} : ∀ n, (∀ k, k < n → g k = h k) → sumF g n = sumF h n := by
  intro n
  induction n with
  | zero => intro _; rfl
  | succ n ih => intro e; show sumF g n + g n = sumF h n + h n; rw [ih (fun k hk => e k (by omega)), e n (by omega)]
theorem sumF_lo {g : Nat → Int} : ∀ n, (∀ k, k < n → 0 ≤ g k) → 0 ≤ sumF g n := by
  intro n
  induction n with
  | zero => intro _; exact Int.le_refl _
  | succ n ih => intro e; have := ih (fun k hk => e k (by omega)); have := e n (by omega); show 0 ≤ sumF g n + g n; omega
theorem sumF_hi {g : Nat → Int} (B : Int) : ∀ n : Nat, (∀ k, k < n → g k ≤ B) → sumF g n ≤ n * B := by
  intro n
  induction n with
  | zero => intro _; show (0 : Int) ≤ ((0 : Nat) : Int) * B; simp
  | succ n ih =>
    intro e
    have h1 := ih (fun k hk => e k (by omega))
    have h2 := e n (by omega)
    show sumF g n + g n ≤ ((n + 1 : Nat) : Int) * B
    have h3 : ((n + 1 : Nat) : Int) * B = (n : Int) * B + B := by rw [Int.natCast_add, Int.add_mul]; simp
    omega
theorem sumF_mono {g : Nat → Int} (h : ∀ k, 0 ≤ g k) : ∀ a b, a ≤ b → sumF g a ≤ sumF g b := by
  intro a b hab
  induction b with
  | zero => have : a = 0 := by omega
            subst this; exact Int.le_refl _
  | succ b ih =>
    by_cases e : a = b + 1
    · subst e; exact Int.le_refl _
    · have := ih (by omega); have := h b; show sumF g a ≤ sumF g b + g b; omega
theorem sumF_zero {g : Nat → Int} : ∀ n, (∀ k, k < n → g k = 0) → sumF g n = 0 := by
  intro n
  induction n with
  | zero => intro _; rfl
  | succ n ih => intro e; show sumF g n + g n = 0; rw [ih (fun k hk => e k (by omega)), e n (by omega)]; rfl
/-- A sum of what is not less than nothing is not 0 just where one of it isn't. -/
theorem sumF_ne {g : Nat → Int} (h : ∀ k, 0 ≤ g k) : ∀ n, sumF g n ≠ 0 ↔ ∃ k, k < n ∧ g k ≠ 0 := by
  intro n
  constructor
  · intro hs
    have := Classical.byContradiction fun hc : ¬ ∃ k, k < n ∧ g k ≠ 0 => hs (sumF_zero n fun k hk => Classical.byContradiction fun he => hc ⟨k, hk, he⟩)
    exact this
  · rintro ⟨k, hk, hg⟩
    have h1 := sumF_mono h (k + 1) n (by omega)
    have h2 : sumF g (k + 1) = sumF g k + g k := rfl
    have h3 := sumF_lo k (fun q _ => h q)
    have h4 := h k
    omega
/-- May the node i be picked? -/
def pkB (m : List Nd) (H : List Int) (i : Nat) : Bool := (ndAt m i).kind == 4 && !((ndAt m i).wt == 0) && H.contains (i : Int)
def hw0 (m : List Nd) (H : List Int) (i : Nat) : Int := if pkB m H i = true then (ndAt m i).wt else 0
/-- What a node weighs, of so many kinds. -/
def Fz (m : List Nd) (H : List Int) : Nat → Nat → Int
  | 0, _ => 0
  | f + 1, i => if (ndAt m i).kind = 4 then hw0 m H i else
      (if (ndAt m i).wt ≠ 0 ∧ sumF (fun k => if (ndAt m k).ab = (i : Int) then Fz m H f k else 0) m.length ≠ 0 then (ndAt m i).wt else sumF (fun k => if (ndAt m k).ab = (i : Int) then Fz m H f k else 0) m.length)
theorem kid_kind {m : List Nd} (hf : Fine m) {q i : Nat} (hq : q < m.length) (h : (ndAt m q).ab = (i : Int)) : i < q ∧ i < m.length ∧ (ndAt m q).kind = (ndAt m i).kind + 1 ∧ (ndAt m q).kind ≠ 1 := by
  rw [ndAt_nat hq] at h ⊢
  by_cases hk : (m[q]).kind = 1
  · have := hf.lev q hq hk; omega
  · obtain ⟨a, ha, hab, haq, hka⟩ := hf.sub q hq hk
    have : a = i := by omega
    subst this
    rw [ndAt_nat ha]
    exact ⟨haq, ha, by omega, hk⟩
theorem Fz_stab {m : List Nd} (hf : Fine m) (H : List Int) : ∀ (f i : Nat), i < m.length → 5 ≤ (f : Int) + (ndAt m i).kind → Fz m H f i = Fz m H (f + 1) i := by
  intro f
  induction f with
  | zero => intro i hi h; rw [ndAt_nat hi] at h; have := hf.hi i hi; omega
  | succ f ih =>
    intro i hi h
    unfold Fz
    by_cases hk : (ndAt m i).kind = 4
    · rw [if_pos hk, if_pos hk]
    · rw [if_neg hk, if_neg hk]
      have e : sumF (fun k => if (ndAt m k).ab = (i : Int) then Fz m H f k else 0) m.length = sumF (fun k => if (ndAt m k).ab = (i : Int) then Fz m H (f + 1) k else 0) m.length := sumF_congr _ fun q hq => by
        by_cases hab : (ndAt m q).ab = (i : Int)
        · rw [if_pos hab, if_pos hab]
          have := (kid_kind hf hq hab).2.2.1
          exact ih q hq (by omega)
        · rw [if_neg hab, if_neg hab]
      rw [e]
/-- What a node weighs. -/
def F (m : List Nd) (H : List Int) (i : Nat) : Int := Fz m H 4 i
/-- What the kid q of i weighs; 0, if it is none. -/
def gF (m : List Nd) (H : List Int) (i : Nat) (q : Nat) : Int := if (ndAt m q).ab = (i : Int) then F m H q else 0
/-- All that the nodes right below i weigh. -/
def SF (m : List Nd) (H : List Int) (i : Nat) : Int := sumF (gF m H i) m.length
theorem F_eq {m : List Nd} (hf : Fine m) (H : List Int) {i : Nat} (hi : i < m.length) : F m H i = if (ndAt m i).kind = 4 then hw0 m H i else (if (ndAt m i).wt ≠ 0 ∧ SF m H i ≠ 0 then (ndAt m i).wt else SF m H i) := by
  have e : sumF (fun k => if (ndAt m k).ab = (i : Int) then Fz m H 3 k else 0) m.length = SF m H i := sumF_congr _ fun q hq => by
    unfold gF F
    by_cases hab : (ndAt m q).ab = (i : Int)
    · rw [if_pos hab, if_pos hab]
      have h1 := (kid_kind hf hq hab).2.2.1
      have h2 := (kid_kind hf hq hab).2.1
      rw [ndAt_nat h2] at h1
      have := hf.lo i h2
      exact Fz_stab hf H 3 q hq (by omega)
    · rw [if_neg hab, if_neg hab]
  show (if (ndAt m i).kind = 4 then hw0 m H i else
      (if (ndAt m i).wt ≠ 0 ∧ sumF (fun k => if (ndAt m k).ab = (i : Int) then Fz m H 3 k else 0) m.length ≠ 0 then (ndAt m i).wt else sumF (fun k => if (ndAt m k).ab = (i : Int) then Fz m H 3 k else 0) m.length)) = _
  rw [e]
theorem wt_range {m : List Nd} (hh : Heavy m) (i : Nat) : 0 ≤ (ndAt m i).wt ∧ (ndAt m i).wt ≤ 65535 := by
  by_cases hi : i < m.length
  · rw [ndAt_nat hi]; exact ⟨hh.lo i hi, hh.hi i hi⟩
  · have hb : isB (i : Int) m.length = false := by unfold isB; simp only [Bool.and_eq_false_iff, decide_eq_false_iff_not]; omega
    rw [ndAt_none hb]; exact ⟨by decide, by decide⟩
theorem Fz_lo {m : List Nd} (hh : Heavy m) (H : List Int) : ∀ f i, 0 ≤ Fz m H f i := by
  intro f
  induction f with
  | zero => intro i; exact Int.le_refl _
  | succ f ih =>
    intro i
    have hs : 0 ≤ sumF (fun k => if (ndAt m k).ab = (i : Int) then Fz m H f k else 0) m.length := sumF_lo _ fun q _ => by
      by_cases hab : (ndAt m q).ab = (i : Int)
      · rw [if_pos hab]; exact ih q
      · rw [if_neg hab]; exact Int.le_refl _
    have := (wt_range hh i).1
    unfold Fz hw0
    repeat' split
    all_goals omega
theorem Fz_hi {m : List Nd} (hh : Heavy m) (hm : m.length ≤ 60) (H : List Int) : ∀ f i, Fz m H f i ≤ 65535 * 61 ^ f := by
  intro f
  induction f with
  | zero => intro i; show (0 : Int) ≤ _; decide
  | succ f ih =>
    intro i
    have hs : sumF (fun k => if (ndAt m k).ab = (i : Int) then Fz m H f k else 0) m.length ≤ m.length * (65535 * 61 ^ f) := sumF_hi _ _ fun q _ => by
      by_cases hab : (ndAt m q).ab = (i : Int)
      · rw [if_pos hab]; exact ih q
      · rw [if_neg hab]
        exact Int.mul_nonneg (by decide) (Int.pow_nonneg (by decide))
    have hp : (0 : Int) < 61 ^ f := Int.pow_pos (by decide)
    have h1 : (m.length : Int) * (65535 * 61 ^ f) ≤ 60 * (65535 * 61 ^ f) := Int.mul_le_mul_of_nonneg_right (by omega) (by omega)
    have h2 : (61 : Int) ^ (f + 1) = 61 ^ f * 61 := Int.pow_succ 61 f
    have := (wt_range hh i).2
    unfold Fz hw0
    repeat' split
    all_goals omega
theorem F_lo {m : List Nd} (hh : Heavy m) (H : List Int) (i : Nat) : 0 ≤ F m H i := Fz_lo hh H 4 i
theorem F_hi {m : List Nd} (hh : Heavy m) (hm : m.length ≤ 60) (H : List Int) (i : Nat) : F m H i ≤ 1000000000000 := by
  have := Fz_hi hh hm H 4 i
  have h2 : (65535 : Int) * 61 ^ 4 ≤ 1000000000000 := by decide
  unfold F
  omega
theorem gF_lo {m : List Nd} (hh : Heavy m) (H : List Int) (i q : Nat) : 0 ≤ gF m H i q := by
  unfold gF
  split
  · exact F_lo hh H q
  · exact Int.le_refl _
theorem gF_hi {m : List Nd} (hh : Heavy m) (hm : m.length ≤ 60) (H : List Int) (i q : Nat) : gF m H i q ≤ 1000000000000 := by
  unfold gF
  split
  · exact F_hi hh hm H q
  · decide
theorem sum_lo {m : List Nd} (hh : Heavy m) (H : List Int) (i k : Nat) : 0 ≤ sumF (gF m H i) k := sumF_lo k fun q _ => gF_lo hh H i q
theorem sum_hi {m : List Nd} (hh : Heavy m) (hm : m.length ≤ 60) (H : List Int) (i k : Nat) (hk : k ≤ 60) : sumF (gF m H i) k ≤ 60000000000000 := by
  have := sumF_hi (g := gF m H i) 1000000000000 k fun q _ => gF_hi hh hm H i q
  have h2 : (k : Int) * 1000000000000 ≤ 60 * 1000000000000 := Int.mul_le_mul_of_nonneg_right (by omega) (by decide)
  omega
/-- None of the first i + 1 is right below i. -/
theorem pre_zero {m : List Nd} (hf : Fine m) (H : List Int) (i : Nat) (hi : i < m.length) : ∀ k, k ≤ i + 1 → sumF (gF m H i) k = 0 := fun k hk => sumF_zero k fun q hq => by
  unfold gF
  rw [if_neg]
  intro h
  have := kid_kind hf (show q < m.length by omega) h
  omega
/-- No node is below a host. -/
theorem host_none {m : List Nd} (hf : Fine m) (H : List Int) {i : Nat} (h : (ndAt m i).kind = 4) : ∀ k, k ≤ m.length → sumF (gF m H i) k = 0 := fun k hk => sumF_zero k fun q hq => by
  unfold gF
  rw [if_neg]
  intro he
  have hq2 : q < m.length := by omega
  have h1 := (kid_kind hf hq2 he).2.2.1
  rw [ndAt_nat hq2] at h1
  have := hf.hi q hq2
  omega
/-! Up and below. -/
theorem up_low {m : List Nd} (hf : Fine m) (kd : Int) : ∀ (n x : Nat), x < n → x < m.length → (ndAt m x).kind < kd → upF m kd (x : Int) = -1 := by
  intro n
  induction n with
  | zero => intro x h; omega
  | succ n ih =>
    intro x hxn hx hk
    rw [ndAt_nat hx] at hk
    rw [upF_step hf kd hx (beq_false_of_ne (by omega))]
    by_cases h1 : (m[x]).kind = 1
    · rw [hf.lev x hx h1]; exact upF_out kd rfl
    · obtain ⟨a, ha, hab, hax, hka⟩ := hf.sub x hx h1
      rw [hab]
      exact ih a (by omega) ha (by rw [ndAt_nat ha]; omega)
theorem up_some {m : List Nd} (hf : Fine m) (kd : Int) (hk1 : 1 ≤ kd) : ∀ (n x : Nat), x < n → x < m.length → kd ≤ (ndAt m x).kind → ∃ q : Nat, q < m.length ∧ upF m kd (x : Int) = (q : Int) ∧ (ndAt m q).kind = kd := by
  intro n
  induction n with
  | zero => intro x h; omega
  | succ n ih =>
    intro x hxn hx hk
    have hk0 := hk
    rw [ndAt_nat hx] at hk
    by_cases he : (m[x]).kind = kd
    · exact ⟨x, hx, upF_here kd hx (by simp [he]), by rw [ndAt_nat hx]; exact he⟩
    · rw [upF_step hf kd hx (beq_false_of_ne he)]
      by_cases h1 : (m[x]).kind = 1
      · omega
      · obtain ⟨a, ha, hab, hax, hka⟩ := hf.sub x hx h1
        rw [hab]
        exact ih a (by omega) ha (by rw [ndAt_nat ha]; omega)
theorem up_kind {m : List Nd} (hf : Fine m) (kd : Int) : ∀ (n x q : Nat), x < n → x < m.length → upF m kd (x : Int) = (q : Int) → q < m.length ∧ (ndAt m q).kind = kd := by
  intro n
  induction n with
  | zero => intro x q h; omega
  | succ n ih =>
    intro x q hxn hx hu
    by_cases he : (m[x]).kind = kd
    · rw [upF_here kd hx (by simp [he])] at hu
      have : x = q := by omega
      subst this
      exact ⟨hx, by rw [ndAt_nat hx]; exact he⟩
    · rw [upF_step hf kd hx (beq_false_of_ne he)] at hu
      by_cases h1 : (m[x]).kind = 1
      · rw [hf.lev x hx h1, upF_out kd rfl] at hu; omega
      · obtain ⟨a, ha, hab, hax, hka⟩ := hf.sub x hx h1
        rw [hab] at hu
        exact ih a q (by omega) ha hu
/-- Who is above somebody above. -/
theorem up_comp {m : List Nd} (hf : Fine m) (kd kd' : Int) (hk : kd' ≤ kd) : ∀ (n x q : Nat), x < n → x < m.length → upF m kd (x : Int) = (q : Int) → upF m kd' (x : Int) = upF m kd' (q : Int) := by
  intro n
  induction n with
  | zero => intro x q h; omega
  | succ n ih =>
    intro x q hxn hx hu
    by_cases he : (m[x]).kind = kd
    · rw [upF_here kd hx (by simp [he])] at hu
      have : x = q := by omega
      subst this
      rfl
    · have hu0 := hu
      rw [upF_step hf kd hx (beq_false_of_ne he)] at hu
      by_cases he' : (m[x]).kind = kd'
      · have := up_low hf kd (x + 1) x (by omega) hx (by rw [ndAt_nat hx]; omega)
        rw [this] at hu0; omega
      · rw [upF_step hf kd' hx (beq_false_of_ne he')]
        by_cases h1 : (m[x]).kind = 1
        · rw [hf.lev x hx h1, upF_out kd rfl] at hu; omega
        · obtain ⟨a, ha, hab, hax, hka⟩ := hf.sub x hx h1
          rw [hab] at hu ⊢
          exact ih a q (by omega) ha hu
/-- Is x the node a, or below it? -/
def belU (m : List Nd) (x a : Nat) : Bool := upF m (ndAt m a).kind (x : Int) == (a : Int)
theorem belU_self {m : List Nd} {a : Nat} (ha : a < m.length) : belU m a a = true := by
  unfold belU
  rw [upF_here _ ha (by rw [ndAt_nat ha]; simp)]; simp
theorem belU_kid {m : List Nd} (hf : Fine m) {k q i : Nat} (hk : k < m.length) (hq : q < m.length) (hab : (ndAt m q).ab = (i : Int)) (h : belU m k q = true) : belU m k i = true := by
  unfold belU at h ⊢
  have h1 : upF m (ndAt m q).kind (k : Int) = (q : Int) := by simpa using h
  obtain ⟨hiq, him, hkd, hne⟩ := kid_kind hf hq hab
  rw [up_comp hf _ (ndAt m i).kind (by omega) (k + 1) k q (by omega) hk h1, upF_step hf _ hq (beq_false_of_ne (by rw [← ndAt_nat hq]; omega)), ← ndAt_nat hq, hab, upF_here _ him (by rw [ndAt_nat him]; simp)]
  simp
theorem belU_via {m : List Nd} (hf : Fine m) {k i : Nat} (hk : k < m.length) (hi : i < m.length) (h4 : (ndAt m k).kind = 4) (hi4 : (ndAt m i).kind ≠ 4) (h : belU m k i = true) : ∃ q, q < m.length ∧ (ndAt m q).ab = (i : Int) ∧ belU m k q = true := by
  unfold belU at h
  have h1 : upF m (ndAt m i).kind (k : Int) = (i : Int) := by simpa using h
  have hil : 1 ≤ (ndAt m i).kind ∧ (ndAt m i).kind ≤ 4 := by rw [ndAt_nat hi]; exact ⟨hf.lo i hi, hf.hi i hi⟩
  obtain ⟨q, hq, hu, hqk⟩ := up_some hf ((ndAt m i).kind + 1) (by omega) (k + 1) k (by omega) hk (by omega)
  have h2 := up_comp hf _ (ndAt m i).kind (by omega) (k + 1) k q (by omega) hk hu
  rw [h1] at h2
  have hqk2 := hqk
  rw [ndAt_nat hq] at hqk2
  rw [upF_step hf _ hq (beq_false_of_ne (by omega))] at h2
  obtain ⟨a, ha, hab, haq, hka⟩ := hf.sub q hq (by omega)
  rw [hab, upF_here _ ha (by rw [show (m[a]).kind = (ndAt m i).kind by omega]; simp)] at h2
  refine ⟨q, hq, by rw [ndAt_nat hq, hab]; exact h2.symm, ?_⟩
  unfold belU
  rw [hqk, hu]; simp
/-- Is i a host that may be picked, or is one below it? -/
def hasP (m : List Nd) (H : List Int) (i : Nat) : Prop := ∃ k, k < m.length ∧ pkB m H k = true ∧ belU m k i = true
theorem pkB_parts {m : List Nd} {H : List Int} {k : Nat} (h : pkB m H k = true) : (ndAt m k).kind = 4 ∧ (ndAt m k).wt ≠ 0 ∧ H.contains (k : Int) = true := by
  unfold pkB at h
  simp only [Bool.and_eq_true, beq_iff_eq, Bool.not_eq_true', beq_eq_false_iff_ne, ne_eq] at h
  exact ⟨h.1.1, h.1.2, h.2⟩
/-- A node weighs something just if it has such a host. -/
theorem F_has {m : List Nd} (hf : Fine m) (hh : Heavy m) (H : List Int) : ∀ (d i : Nat), i < m.length → m.length - i ≤ d → (F m H i ≠ 0 ↔ hasP m H i) := by
  intro d
  induction d with
  | zero => intro i hi h; omega
  | succ d ih =>
    intro i hi hd
    rw [F_eq hf H hi]
    by_cases hk : (ndAt m i).kind = 4
    · rw [if_pos hk]
      unfold hw0
      constructor
      · intro h
        by_cases hp : pkB m H i = true
        · exact ⟨i, hi, hp, belU_self hi⟩
        · rw [if_neg hp] at h; exact absurd rfl h
      · rintro ⟨k, hkl, hp, hb⟩
        have h4 := (pkB_parts hp).1
        have : upF m (ndAt m i).kind (k : Int) = (i : Int) := by unfold belU at hb; simpa using hb
        rw [hk, upF_here 4 hkl (by rw [← ndAt_nat hkl, h4]; rfl)] at this
        have : k = i := by omega
        subst this
        rw [if_pos hp]
        exact (pkB_parts hp).2.1
    · rw [if_neg hk]
      have key : SF m H i ≠ 0 ↔ hasP m H i := by
        unfold SF
        rw [sumF_ne (gF_lo hh H i)]
        constructor
        · rintro ⟨q, hq, hg⟩
          unfold gF at hg
          by_cases hab : (ndAt m q).ab = (i : Int)
          · rw [if_pos hab] at hg
            have hiq := (kid_kind hf hq hab).1
            obtain ⟨k, hkl, hp, hb⟩ := (ih q hq (by omega)).mp hg
            exact ⟨k, hkl, hp, belU_kid hf hkl hq hab hb⟩
          · rw [if_neg hab] at hg; exact absurd rfl hg
        · rintro ⟨k, hkl, hp, hb⟩
          obtain ⟨q, hq, hab, hb2⟩ := belU_via hf hkl hi (pkB_parts hp).1 hk hb
          refine ⟨q, hq, ?_⟩
          unfold gF
          rw [if_pos hab]
          have hiq := (kid_kind hf hq hab).1
          exact (ih q hq (by omega)).mpr ⟨k, hkl, hp, hb2⟩
      by_cases hw : (ndAt m i).wt ≠ 0 ∧ SF m H i ≠ 0
      · rw [if_pos hw]
        exact ⟨fun _ => key.mp hw.2, fun _ => hw.1⟩
      · rw [if_neg hw]
        exact key
theorem F_host {m : List Nd} (hf : Fine m) (H : List Int) {i : Nat} (hi : i < m.length) (hk : (ndAt m i).kind = 4) : F m H i = hw0 m H i := by rw [F_eq hf H hi, if_pos hk]
theorem F_pk {m : List Nd} (hf : Fine m) (H : List Int) {i : Nat} (hi : i < m.length) : ((ndAt m i).kind == 4 && (F m H i != 0)) = pkB m H i := by
  cases hk : ((ndAt m i).kind == 4) with
  | false => unfold pkB; rw [hk]; rfl
  | true =>
    have hk4 : (ndAt m i).kind = 4 := by simpa using hk
    rw [F_host hf H hi hk4, Bool.true_and]
    unfold hw0
    cases hp : pkB m H i with
    | true => rw [if_pos rfl]; simp [(pkB_parts hp).2.1]
    | false => rw [if_neg (by decide)]; rfl
end Go.Proofs.YtoaboklckkcjcaaGreat.eliW
