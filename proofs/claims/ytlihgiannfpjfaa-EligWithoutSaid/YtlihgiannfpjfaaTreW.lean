/- Layer 16: what nodes that may all be are, in plain words. -/
import Derived.Test.YtlihgiannfpjfaaTreH
import Derived.Lib.Slices
namespace Go.Proofs.Ytlihgiannfpjfaa.treW
open Go.ChangeShapes Go.WideShapes Go.ChangeAt Go.RowKit
open Go.Proofs.Ytlihgiannfpjfaa.base Go.Proofs.Ytlihgiannfpjfaa.dfA Go.Proofs.Ytlihgiannfpjfaa.treB Go.Proofs.Ytlihgiannfpjfaa.treC Go.Proofs.Ytlihgiannfpjfaa.treD Go.Proofs.Ytlihgiannfpjfaa.treE Go.Proofs.Ytlihgiannfpjfaa.treG Go.Proofs.Ytlihgiannfpjfaa.treH
set_option linter.unusedVariables false

theorem isB_nat {a n : Nat} (h : a < n) : isB (a : Int) n = true := by
  unfold isB
  rw [decide_eq_true (show (0 : Int) ≤ a by omega), decide_eq_true (show (a : Int) < n by omega)]; rfl
theorem isB_of {i : Int} {n : Nat} (h : isB i n = true) : ∃ a : Nat, i = (a : Int) ∧ a < n := by
  unfold isB at h
  simp only [Bool.and_eq_true, decide_eq_true_eq] at h
  exact ⟨i.toNat, by omega, by omega⟩
theorem isB_not {i : Int} {n : Nat} (h : isB i n = false) : i < 0 ∨ (n : Int) ≤ i := by
  unfold isB at h
  by_cases h1 : 0 ≤ i
  · right
    rw [decide_eq_true h1, Bool.true_and] at h
    have := of_decide_eq_false h
    omega
  · left; omega
/-- What whyZ says of a node that may stand there. -/
theorem whyZ_parts {l : List Nd} {n : Nd} (h : whyZ l n = 0) : 1 ≤ n.kind ∧ n.kind ≤ 4 ∧ (n.kind = 1 → n.ab = -1) ∧ (n.kind ≠ 1 → (ndAt l n.ab).kind = n.kind - 1) ∧ hasB l n = false := by
  unfold whyZ at h
  split at h
  · cases h
  · rename_i h1
    split at h
    · cases h
    · split at h
      · cases h
      · rename_i h3
        split at h
        · cases h
        · rename_i h4
          split at h
          · cases h
          · split at h
            · cases h
            · rename_i h6
              simp at h1 h3 h4 h6
              exact ⟨by omega, by omega, h3, h4, h6⟩
structure Fine (m : List Nd) : Prop where
  lo : ∀ j (hj : j < m.length), 1 ≤ (m[j]).kind
  hi : ∀ j (hj : j < m.length), (m[j]).kind ≤ 4
  lev : ∀ j (hj : j < m.length), (m[j]).kind = 1 → (m[j]).ab = -1
  sub : ∀ j (hj : j < m.length), (m[j]).kind ≠ 1 → ∃ a : Nat, ∃ ha : a < m.length, (m[j]).ab = (a : Int) ∧ a < j ∧ (m[a]).kind = (m[j]).kind - 1
  nm : ∀ i j (hi : i < m.length) (hj : j < m.length), i < j → (m[i]).nm ≠ (m[j]).nm
theorem fine_of {m : List Nd} (h : GoodTo m m.length) : Fine m := by
  have key : ∀ j (hj : j < m.length), whyZ (m.take j) m[j] = 0 := fun j hj => by
    have h1 := h j hj hj
    unfold whyF at h1
    by_cases hz : whyZ (m.take j) m[j] = 0
    · exact hz
    · rw [if_neg hz] at h1; exact absurd h1 hz
  refine ⟨fun j hj => (whyZ_parts (key j hj)).1, fun j hj => (whyZ_parts (key j hj)).2.1, fun j hj => (whyZ_parts (key j hj)).2.2.1, fun j hj hk => ?_, fun i j hi hj hij he => ?_⟩
  · obtain ⟨p1, p2, p3, p4, p5⟩ := whyZ_parts (key j hj)
    have p6 := p4 hk
    obtain ⟨a, ha, hal⟩ := above_in (key j hj) hk
    rw [List.length_take] at hal
    have haj : a < j := by omega
    have ham : a < m.length := by omega
    refine ⟨a, ham, ha, haj, ?_⟩
    rw [ha] at p6
    unfold ndAt at p6
    rw [isB_nat (by rw [List.length_take]; omega), if_pos rfl, Int.toNat_natCast, List.getD_eq_getElem?_getD, List.getElem?_take_of_lt haj, List.getElem?_eq_getElem ham] at p6
    exact p6
  · obtain ⟨p1, p2, p3, p4, p5⟩ := whyZ_parts (key j hj)
    unfold hasB at p5
    rw [List.any_eq_false] at p5
    have hil : i < (m.take j).length := by rw [List.length_take]; omega
    have h1 := p5 ((m.take j)[i]) (List.getElem_mem hil)
    rw [List.getElem_take] at h1
    apply h1
    unfold twB
    rw [str_yes he, Bool.true_or]
/-- The law's kids of i among the first k. -/
def kidW (m : List Nd) (i : Int) : Nat → List Int
  | 0 => []
  | k + 1 => if ((m.getD k zNd).ab == i && decide (0 ≤ i)) = true then kidW m i k ++ [(k : Int)] else kidW m i k
theorem kidW_len (m : List Nd) (i : Int) (k : Nat) : (kidW m i k).length ≤ k := by
  induction k with
  | zero => exact Nat.le_refl _
  | succ k ih =>
    unfold kidW
    split
    · rw [List.length_append]; exact Nat.succ_le_succ ih
    · exact Nat.le_succ_of_le ih
theorem kidW_next {m : List Nd} {k : Nat} (i : Int) (hk : k < m.length) : kidW m i (k + 1) = if ((m[k]).ab == i && decide (0 ≤ i)) = true then kidW m i k ++ [(k : Int)] else kidW m i k := by
  have h1 : m.getD k zNd = m[k] := by rw [List.getD_eq_getElem?_getD, List.getElem?_eq_getElem hk]; rfl
  show (if ((m.getD k zNd).ab == i && decide (0 ≤ i)) = true then kidW m i k ++ [(k : Int)] else kidW m i k) = _
  rw [h1]
theorem kidW_nat {m : List Nd} (hf : Fine m) (a : Nat) : ∀ k, k ≤ m.length → kidW m (a : Int) k = kidsL m k a := by
  intro k
  induction k with
  | zero => intro _; rfl
  | succ k ih =>
    intro hk
    rw [kidW_next _ (show k < m.length by omega), ih (by omega)]
    have h1 : m.getD k zNd = m[k]'(by omega) := by rw [List.getD_eq_getElem?_getD, List.getElem?_eq_getElem (by omega)]; rfl
    show _ = if kidB (m.getD k zNd) a = true then kidsL m k a ++ [(k : Int)] else kidsL m k a
    rw [h1]
    have h2 : ((m[k]'(by omega)).ab == (a : Int) && decide (0 ≤ (a : Int))) = kidB (m[k]'(by omega)) a := by
      unfold kidB
      rw [decide_eq_true (show (0 : Int) ≤ a by omega), Bool.and_true]
      by_cases hkd : (m[k]'(by omega)).kind = 1
      · have hab := hf.lev k (by omega) hkd
        rw [hab, hkd]
        have : ((-1 : Int) == (a : Int)) = false := beq_false_of_ne (by omega)
        rw [this]; rfl
      · have : ((m[k]'(by omega)).kind != 1) = true := by simp [hkd]
        rw [this, Bool.true_and]
    rw [h2]
theorem kidW_none {m : List Nd} (hf : Fine m) {i : Int} (h : isB i m.length = false) : ∀ k, k ≤ m.length → kidW m i k = [] := by
  intro k
  induction k with
  | zero => intro _; rfl
  | succ k ih =>
    intro hk
    rw [kidW_next _ (show k < m.length by omega), ih (by omega)]
    rw [if_neg]
    intro hc
    simp only [Bool.and_eq_true, beq_iff_eq, decide_eq_true_eq] at hc
    obtain ⟨h1, h2⟩ := hc
    by_cases hkd : (m[k]'(by omega)).kind = 1
    · have := hf.lev k (by omega) hkd; omega
    · obtain ⟨a, ha, hab, haj, _⟩ := hf.sub k (by omega) hkd
      rcases isB_not h with h3 | h3 <;> omega
/-- Where the name was found last among the first k. -/
def findW (m : List Nd) (s : ByteArray) : Nat → Int
  | 0 => -1
  | k + 1 => if (m.getD k zNd).nm.toList == s.toList then (k : Int) else findW m s k
theorem findW_next {m : List Nd} {k : Nat} (s : ByteArray) (hk : k < m.length) : findW m s (k + 1) = if ((m[k]).nm.toList == s.toList) = true then (k : Int) else findW m s k := by
  have h1 : m.getD k zNd = m[k] := by rw [List.getD_eq_getElem?_getD, List.getElem?_eq_getElem hk]; rfl
  show (if ((m.getD k zNd).nm.toList == s.toList) = true then (k : Int) else findW m s k) = _
  rw [h1]
theorem findW_is {m : List Nd} (hf : Fine m) (s : ByteArray) : IsFind m s (findW m s m.length) := by
  have key : ∀ k, k ≤ m.length → (findW m s k = -1 ∧ ∀ q (hq : q < m.length), q < k → (m[q]).nm ≠ s) ∨ (∃ j, ∃ hj : j < m.length, j < k ∧ findW m s k = (j : Int) ∧ (m[j]).nm = s) := by
    intro k
    induction k with
    | zero => intro _; exact .inl ⟨rfl, fun q hq h => by omega⟩
    | succ k ih =>
      intro hk
      rw [findW_next s (show k < m.length by omega)]
      cases hq : ((m[k]'(by omega)).nm.toList == s.toList) with
      | true =>
        rw [if_pos rfl]
        refine .inr ⟨k, by omega, by omega, rfl, ?_⟩
        have h2 : (m[k]'(by omega)).nm.toList = s.toList := by simpa using hq
        rw [ByteArray.toList_eq, ByteArray.toList_eq] at h2
        exact bytes_inj h2
      | false =>
        rw [if_neg (by decide)]
        rcases ih (by omega) with ⟨e1, e2⟩ | ⟨j, hj, hjk, e1, e2⟩
        · refine .inl ⟨e1, fun q hql hqk => ?_⟩
          by_cases hqe : q = k
          · subst hqe
            intro he
            rw [str_yes he] at hq
            cases hq
          · exact e2 q hql (by omega)
        · exact .inr ⟨j, hj, by omega, e1, e2⟩
  rcases key m.length (Nat.le_refl _) with ⟨e1, e2⟩ | ⟨j, hj, _, e1, e2⟩
  · rw [e1]
    exact .inl ⟨rfl, fun e he => by
      obtain ⟨q, hq, rfl⟩ := List.mem_iff_getElem.mp he
      exact e2 q hq hq⟩
  · rw [e1]
    refine .inr ⟨j, hj, rfl, e2, fun q hq he => ?_⟩
    exact hf.nm q j (by omega) hj hq (he.trans e2.symm)
/-- The node of the number i among the first k. -/
def wantW (m : List Nd) (i : Int) (k : Nat) : Nd := if isB i k = true then m.getD i.toNat zNd else zNd
theorem wantW_here {m : List Nd} {k : Nat} (hk : k < m.length) : wantW m (k : Int) (k + 1) = m[k] := by
  unfold wantW
  rw [isB_nat (by omega), if_pos rfl, Int.toNat_natCast, List.getD_eq_getElem?_getD, List.getElem?_eq_getElem hk]; rfl
theorem wantW_next {m : List Nd} {k : Nat} {i : Int} (h : (k : Int) ≠ i) : wantW m i (k + 1) = wantW m i k := by
  unfold wantW
  have : isB i (k + 1) = isB i k := by
    unfold isB
    congr 1
    rw [decide_eq_decide]
    omega
  rw [this]
theorem wantW_end (m : List Nd) (i : Int) : wantW m i m.length = ndAt m i := rfl
/-- The node of a kind that one is, or is below: in so many steps. -/
def upW (m : List Nd) (kind : Int) : Nat → Int → Int
  | 0, _ => -1
  | f + 1, i => if isB i m.length = true then (if ((ndAt m i).kind == kind) = true then i else upW m kind f (ndAt m i).ab) else -1
theorem upW_out {m : List Nd} {kind : Int} {i : Int} (h : isB i m.length = false) : ∀ f, upW m kind f i = -1 := by
  intro f
  cases f with
  | zero => rfl
  | succ f => unfold upW; rw [h]; rfl
theorem ndAt_nat {m : List Nd} {a : Nat} (h : a < m.length) : ndAt m (a : Int) = m[a] := by
  unfold ndAt
  rw [isB_nat h, if_pos rfl, Int.toNat_natCast, List.getD_eq_getElem?_getD, List.getElem?_eq_getElem h]; rfl
/-- More steps than the kind tell nothing more. -/
theorem upW_more {m : List Nd} (hf : Fine m) (kind : Int) : ∀ (f : Nat) (a : Nat) (ha : a < m.length), (m[a]).kind ≤ (f : Int) → ∀ g, f ≤ g → upW m kind g (a : Int) = upW m kind f (a : Int) := by
  intro f
  induction f with
  | zero => intro a ha h; have := hf.lo a ha; omega
  | succ f ih =>
    intro a ha h g hg
    obtain ⟨g', rfl⟩ : ∃ g', g = g' + 1 := ⟨g - 1, by omega⟩
    unfold upW
    rw [isB_nat ha, if_pos rfl, if_pos rfl, ndAt_nat ha]
    split
    · rfl
    · by_cases hk : (m[a]).kind = 1
      · rw [hf.lev a ha hk]
        have hz : isB (-1) m.length = false := by unfold isB; rfl
        rw [upW_out hz, upW_out hz]
      · obtain ⟨b, hb, hab, hba, hkb⟩ := hf.sub a ha hk
        rw [hab]
        exact ih b hb (by omega) g' (by omega)
/-- The node of a kind that one is, or is below. -/
def upF (m : List Nd) (kind i : Int) : Int := upW m kind 4 i
theorem upF_step {m : List Nd} (hf : Fine m) (kind : Int) {a : Nat} (ha : a < m.length) (h : ((m[a]).kind == kind) = false) : upF m kind (a : Int) = upF m kind (m[a]).ab := by
  unfold upF
  show (if isB (a : Int) m.length = true then (if ((ndAt m (a : Int)).kind == kind) = true then (a : Int) else upW m kind 3 (ndAt m (a : Int)).ab) else -1) = _
  rw [isB_nat ha, if_pos rfl, ndAt_nat ha, h, if_neg (by decide)]
  by_cases hk : (m[a]).kind = 1
  · rw [hf.lev a ha hk]
    have hz : isB (-1) m.length = false := by unfold isB; rfl
    rw [upW_out hz, upW_out hz]
  · obtain ⟨b, hb, hab, hba, hkb⟩ := hf.sub a ha hk
    rw [hab]
    have := hf.hi a ha
    exact (upW_more hf kind 3 b hb (by omega) 4 (by omega)).symm
theorem upF_here {m : List Nd} (kind : Int) {a : Nat} (ha : a < m.length) (h : ((m[a]).kind == kind) = true) : upF m kind (a : Int) = (a : Int) := by
  unfold upF upW
  rw [isB_nat ha, if_pos rfl, ndAt_nat ha, if_pos h]
theorem upF_out {m : List Nd} (kind : Int) {i : Int} (h : isB i m.length = false) : upF m kind i = -1 := upW_out h 4
/-- Each is below a level. -/
theorem upF_level {m : List Nd} (hf : Fine m) : ∀ (n a : Nat) (ha : a < m.length), a < n → ∃ b : Nat, ∃ hb : b < m.length, upF m 1 (a : Int) = (b : Int) ∧ (m[b]).kind = 1 := by
  intro n
  induction n with
  | zero => intro a ha h; omega
  | succ n ih =>
    intro a ha h
    by_cases hk : (m[a]).kind = 1
    · exact ⟨a, ha, upF_here 1 ha (by simp [hk]), hk⟩
    · obtain ⟨b, hb, hab, hba, hkb⟩ := hf.sub a ha hk
      rw [upF_step hf 1 ha (by simp [hk]), hab]
      exact ih b hb (by omega)
/-- The place of a number among the levels of the first k; -1: none. -/
def levW (m : List Nd) (u : Int) : Nat → Int
  | 0 => -1
  | k + 1 => if ((m.getD k zNd).kind == 1 && u == (k : Int)) = true then ((ofK m 1 k).length : Int) else levW m u k
theorem levW_next {m : List Nd} {k : Nat} (u : Int) (hk : k < m.length) : levW m u (k + 1) = if ((m[k]).kind == 1 && u == (k : Int)) = true then ((ofK m 1 k).length : Int) else levW m u k := by
  have h1 : m.getD k zNd = m[k] := by rw [List.getD_eq_getElem?_getD, List.getElem?_eq_getElem hk]; rfl
  show (if ((m.getD k zNd).kind == 1 && u == (k : Int)) = true then ((ofK m 1 k).length : Int) else levW m u k) = _
  rw [h1]
theorem ofK_mem {m : List Nd} {kind : Int} {k : Nat} {x : Int} (h : x ∈ ofK m kind k) : ∃ j : Nat, x = (j : Int) ∧ j < k ∧ (m.getD j zNd).kind = kind := by
  unfold ofK at h
  rw [List.mem_map] at h
  obtain ⟨j, hj, rfl⟩ := h
  rw [List.mem_filter, List.mem_range] at hj
  exact ⟨j, rfl, hj.1, by simpa using hj.2⟩
theorem idx_new (u : Int) : ∀ (zs : List Int) (i : Nat), (∀ x, x ∈ zs → x ≠ u) → Lib.idxFrom (zs ++ [u]) u i = ((i + zs.length : Nat) : Int) := by
  intro zs
  induction zs with
  | nil => intro i _; show (if u = u then (i : Int) else _) = _; rw [if_pos rfl]; rfl
  | cons z zs ih =>
    intro i h
    show (if z = u then (i : Int) else Lib.idxFrom (zs ++ [u]) u (i + 1)) = _
    rw [if_neg (h z (by simp)), ih (i + 1) (fun x hx => h x (by simp [hx]))]
    congr 1
    rw [List.length_cons]; omega
theorem idx_old (u y : Int) (hy : y ≠ u) : ∀ (zs : List Int) (i : Nat), Lib.idxFrom (zs ++ [y]) u i = Lib.idxFrom zs u i := by
  intro zs
  induction zs with
  | nil => intro i; show (if y = u then (i : Int) else Lib.idxFrom [] u (i + 1)) = _; rw [if_neg hy]; rfl
  | cons z zs ih =>
    intro i
    show (if z = u then (i : Int) else Lib.idxFrom (zs ++ [y]) u (i + 1)) = (if z = u then (i : Int) else Lib.idxFrom zs u (i + 1))
    rw [ih (i + 1)]
theorem levW_is (m : List Nd) (u : Int) : ∀ k, k ≤ m.length → levW m u k = Lib.idxOf (ofK m 1 k) u := by
  intro k
  induction k with
  | zero => intro _; rfl
  | succ k ih =>
    intro hk
    rw [levW_next u (show k < m.length by omega), ih (by omega), ofK_next (show k < m.length by omega)]
    cases h1 : ((m[k]'(by omega)).kind == 1) with
    | false => rw [Bool.false_and, if_neg (by decide), if_neg (by decide), List.append_nil]
    | true =>
      rw [Bool.true_and, if_pos rfl]
      by_cases h2 : u = (k : Int)
      · subst h2
        rw [if_pos (by simp)]
        unfold Lib.idxOf
        rw [idx_new _ _ _ (fun x hx => by
          obtain ⟨j, rfl, hj, _⟩ := ofK_mem hx
          omega), Nat.zero_add]
      · rw [if_neg (by simp [h2])]
        unfold Lib.idxOf
        rw [idx_old _ _ (fun e => h2 e.symm)]
/-- The hosts below i among the first k, as the law tells them. -/
def belW (m : List Nd) (i : Int) (kind : Int) : Nat → List Int
  | 0 => []
  | k + 1 => if ((m.getD k zNd).kind == 4 && upF m kind (k : Int) == i) = true then belW m i kind k ++ [(k : Int)] else belW m i kind k
theorem belW_next {m : List Nd} {k : Nat} (i kind : Int) (hk : k < m.length) : belW m i kind (k + 1) = if ((m[k]).kind == 4 && upF m kind (k : Int) == i) = true then belW m i kind k ++ [(k : Int)] else belW m i kind k := by
  have h1 : m.getD k zNd = m[k] := by rw [List.getD_eq_getElem?_getD, List.getElem?_eq_getElem hk]; rfl
  show (if ((m.getD k zNd).kind == 4 && upF m kind (k : Int) == i) = true then belW m i kind k ++ [(k : Int)] else belW m i kind k) = _
  rw [h1]
theorem belW_len (m : List Nd) (i kind : Int) (k : Nat) : (belW m i kind k).length ≤ k := by
  induction k with
  | zero => exact Nat.le_refl _
  | succ k ih =>
    unfold belW
    split
    · rw [List.length_append]; exact Nat.succ_le_succ ih
    · exact Nat.le_succ_of_le ih
theorem belW_is (m : List Nd) (i kind : Int) : ∀ k, k ≤ m.length → belW m i kind k = (ofK m 4 k).filter fun x => !(upF m kind x != i) := by
  intro k
  induction k with
  | zero => intro _; rfl
  | succ k ih =>
    intro hk
    rw [belW_next i kind (show k < m.length by omega), ih (by omega), ofK_next (show k < m.length by omega), List.filter_append]
    cases h1 : ((m[k]'(by omega)).kind == 4) with
    | false => simp
    | true =>
      cases h2 : (upF m kind (k : Int) == i) with
      | true => simp [bne, h2]
      | false => simp [bne, h2]
end Go.Proofs.Ytlihgiannfpjfaa.treW
