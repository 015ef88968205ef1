/- Layer 9: headers that extend, in plain words. -/
import Derived.Test.YtndekicblbpkjaaNet
namespace Go.Proofs.Ytndekicblbpkjaa.sixW
open Go.Proofs.Ytndekicblbpkjaa.octA Go.Proofs.Ytndekicblbpkjaa.octB Go.Proofs.Ytndekicblbpkjaa.net
set_option linter.unusedVariables false

/-- A header that extends: its kind, its bytes behind the first one. -/
abbrev XP := Int × List Int
def U8 (l : List Int) : Prop := ∀ x ∈ l, 0 ≤ x ∧ x ≤ 255
theorem U8.app {a b : List Int} (h : U8 (a ++ b)) : U8 a ∧ U8 b := ⟨fun x hx => h x (List.mem_append_left _ hx), fun x hx => h x (List.mem_append_right _ hx)⟩
theorem U8.join {a b : List Int} (h : U8 a) (k : U8 b) : U8 (a ++ b) := fun x hx => by
  rcases List.mem_append.mp hx with h1 | h1
  · exact h x h1
  · exact k x h1
theorem U8.take {l : List Int} (h : U8 l) (k : Nat) : U8 (l.take k) := fun x hx => h x (List.mem_of_mem_take hx)
theorem U8.drop {l : List Int} (h : U8 l) (k : Nat) : U8 (l.drop k) := fun x hx => h x (List.mem_of_mem_drop hx)
theorem U8.get {l : List Int} (h : U8 l) (k : Nat) : 0 ≤ l.getD k 0 ∧ l.getD k 0 ≤ 255 := by
  rw [List.getD_eq_getElem?_getD]
  rcases Nat.lt_or_ge k l.length with hk | hk
  · rw [List.getElem?_eq_getElem hk]; exact h _ (List.getElem_mem hk)
  · rw [List.getElem?_eq_none hk]; simp
def isX (k : Int) : Bool := decide (k = 0 ∨ k = 43 ∨ k = 44 ∨ k = 60)
def isPart (x : XP) : Bool := decide (x.1 = 44 ∧ x.2.length = 7)
def lies : List XP → Int
  | [] => 0
  | x :: l => if isPart x = true then 256 * x.2.getD 1 0 + x.2.getD 2 0 else lies l
theorem lies_in : ∀ {l : List XP}, (∀ x ∈ l, U8 x.2) → 0 ≤ lies l ∧ lies l ≤ 65535
  | [], _ => ⟨Int.le_refl _, by decide⟩
  | x :: l, h => by
    have h1 := (h x (by simp)).get 1
    have h2 := (h x (by simp)).get 2
    unfold lies
    split
    · omega
    · exact lies_in fun y hy => h y (by simp [hy])
theorem lies_app : ∀ (l m : List XP), lies (l ++ m) = if l.any isPart = true then lies l else lies m
  | [], m => by simp
  | x :: l, m => by
    have ih := lies_app l m
    show (if isPart x = true then _ else lies (l ++ m)) = _
    rw [ih]
    show _ = if (isPart x || l.any isPart) = true then (if isPart x = true then _ else lies l) else lies m
    cases isPart x
    · rw [Bool.false_or]
      cases l.any isPart <;> rfl
    · rfl
theorem lies_none {l : List XP} (h : l.any isPart = false) : lies l = 0 := by
  induction l with
  | nil => rfl
  | cons x l ih =>
    simp only [List.any_cons, Bool.or_eq_false_iff] at h
    unfold lies
    rw [h.1, if_neg (by decide)]
    exact ih h.2
/-- Where a part lies stays as more come behind, once it lies elsewhere than at 0. -/
theorem lies_keep {l : List XP} (h : lies l ≠ 0) (m : List XP) : lies (l ++ m) = lies l := by
  rw [lies_app]
  cases ha : l.any isPart
  · exact absurd (lies_none ha) h
  · rw [if_pos rfl]
def rightX (x : XP) (k : Nat) : Bool := isX x.1 && decide (¬ (x.1 = 0 ∧ k ≠ 0)) && decide (x.2.length ≤ 2047 ∧ x.2.length % 8 = 7) && (if x.1 = 44 then decide (x.2.length = 7) else decide (x.2.getD 0 0 = (x.2.length / 8 : Nat)))
def nextK (l : List XP) (p : Int) : Int := match l with
  | [] => p
  | x :: _ => x.1
/-- The bytes of headers that extend, with what comes behind them. -/
def extB : List XP → Int → List Int
  | [], _ => []
  | x :: l, p => nextK l p :: (x.2 ++ extB l p)
/-- May these extend a header? -/
structure RightE (l : List XP) : Prop where
  most : l.length ≤ 8
  each : ∀ i (h : i < l.length), rightX l[i] i = true
  whole : ∀ i, i < l.length → lies (l.take i) / 8 = 0
/-- The headers that extend one, by what comes next. -/
def chn : Nat → List XP → Int → List Int → Option (List XP × Int × List Int)
  | 0, _, _, _ => none
  | f + 1, xs, p, b =>
    if isX p = true then
      if lies xs / 8 ≠ 0 ∨ xs.length = 8 ∨ b.length < 8 ∨ (p = 0 ∧ xs.length ≠ 0) then none
      else if b.length < (if p = 44 then 8 else 8 + 8 * (b.getD 1 0).toNat) then none
      else chn f (xs ++ [(p, (b.take (if p = 44 then 8 else 8 + 8 * (b.getD 1 0).toNat)).drop 1)]) (b.getD 0 0) (b.drop (if p = 44 then 8 else 8 + 8 * (b.getD 1 0).toNat))
    else some (xs, p, b)
theorem chn_done {f : Nat} {xs : List XP} {p : Int} {b : List Int} (h : isX p = false) : chn (f + 1) xs p b = some (xs, p, b) := by
  rw [chn, h, if_neg (by decide)]
theorem chn_no {f : Nat} {xs : List XP} {p : Int} {b : List Int} (h : isX p = true) (k : lies xs / 8 ≠ 0 ∨ xs.length = 8 ∨ b.length < 8 ∨ (p = 0 ∧ xs.length ≠ 0)) : chn (f + 1) xs p b = none := by
  rw [chn, h, if_pos rfl, if_pos k]
/-- How long one is that begins here. -/
def siz (p : Int) (b : List Int) : Nat := if p = 44 then 8 else 8 + 8 * (b.getD 1 0).toNat
theorem siz_8 (p : Int) (b : List Int) : 8 ≤ siz p b := by unfold siz; split <;> omega
theorem siz_le (p : Int) {b : List Int} (h : U8 b) : siz p b ≤ 2048 := by
  have := h.get 1
  unfold siz; split <;> omega
theorem chn_short {f : Nat} {xs : List XP} {p : Int} {b : List Int} (h : isX p = true) (k : b.length < siz p b) : chn (f + 1) xs p b = none := by
  unfold siz at k
  rw [chn, h, if_pos rfl]
  split
  · rfl
  · first | rfl | rw [if_pos k]
theorem chn_next {f : Nat} {xs : List XP} {p : Int} {b : List Int} (h : isX p = true) (k : ¬ (lies xs / 8 ≠ 0 ∨ xs.length = 8 ∨ b.length < 8 ∨ (p = 0 ∧ xs.length ≠ 0))) (k2 : siz p b ≤ b.length) :
    chn (f + 1) xs p b = chn f (xs ++ [(p, (b.take (siz p b)).drop 1)]) (b.getD 0 0) (b.drop (siz p b)) := by
  unfold siz at k2 ⊢
  rw [chn, h, if_pos rfl, if_neg k, if_neg (by omega)]
theorem right_new {xs : List XP} {p : Int} {b : List Int} (hx : RightE xs) (hu : U8 b) (h : isX p = true) (k : ¬ (lies xs / 8 ≠ 0 ∨ xs.length = 8 ∨ b.length < 8 ∨ (p = 0 ∧ xs.length ≠ 0))) (k2 : siz p b ≤ b.length) :
    RightE (xs ++ [(p, (b.take (siz p b)).drop 1)]) := by
  have hm := hx.most
  have h1 := hu.get 1
  have hl : ((b.take (siz p b)).drop 1).length = siz p b - 1 := by rw [List.length_drop, List.length_take]; omega
  have h8 := siz_8 p b
  have hd : ((b.take (siz p b)).drop 1).getD 0 0 = b.getD 1 0 := by
    rw [List.getD_eq_getElem?_getD, List.getD_eq_getElem?_getD, List.getElem?_drop, List.getElem?_take, if_pos (by omega)]
  refine ⟨by rw [List.length_append]; simp; omega, fun i hi => ?_, fun i hi => ?_⟩
  · rw [List.length_append] at hi
    rcases Nat.lt_or_ge i xs.length with h9 | h9
    · rw [List.getElem_append_left h9]; exact hx.each i h9
    · have e : i = xs.length := by simp at hi; omega
      subst e
      rw [List.getElem_append_right (Nat.le_refl _)]
      simp only [Nat.sub_self, List.getElem_cons_zero]
      unfold rightX
      simp only [hl, hd]
      have k3 : ¬ (p = 0 ∧ xs.length ≠ 0) := fun h => k (.inr (.inr (.inr h)))
      rw [h, decide_eq_true k3]
      have k4 : siz p b - 1 ≤ 2047 ∧ (siz p b - 1) % 8 = 7 := by unfold siz; split <;> omega
      rw [decide_eq_true k4]
      unfold siz
      by_cases hp : p = 44
      · simp [hp]
      · rw [if_neg hp, if_neg hp]
        have k5 : b.getD 1 0 = (((8 + 8 * (b.getD 1 0).toNat - 1) / 8 : Nat) : Int) := by omega
        rw [decide_eq_true k5]
        rfl
  · rw [List.length_append] at hi
    have hi : i ≤ xs.length := by simp at hi; omega
    rw [List.take_append_of_le_length hi]
    rcases Nat.lt_or_ge i xs.length with h9 | h9
    · exact hx.whole i h9
    · rw [List.take_of_length_le h9]
      exact Decidable.byContradiction fun h => k (.inl h)
theorem ext_one (p : Int) (b : List Int) (h8 : 1 ≤ siz p b) (k2 : siz p b ≤ b.length) : b.getD 0 0 :: ((b.take (siz p b)).drop 1 ++ b.drop (siz p b)) = b := by
  match b, k2 with
  | [], k2 => simp at k2; omega
  | a :: t, k2 =>
    obtain ⟨s, hs⟩ : ∃ s, siz p (a :: t) = s + 1 := ⟨siz p (a :: t) - 1, by omega⟩
    rw [hs]
    simp
/-- What is told of bytes is what they are. -/
theorem chn_sound : ∀ (f : Nat) (xs : List XP) (p : Int) (b : List Int) {ys : List XP} {q : Int} {r : List Int}, U8 b → 0 ≤ p ∧ p ≤ 255 → RightE xs → (∀ x ∈ xs, U8 x.2) → chn f xs p b = some (ys, q, r) →
    ∃ zs, ys = xs ++ zs ∧ nextK zs q = p ∧ b = extB zs q ++ r ∧ RightE ys ∧ isX q = false ∧ 0 ≤ q ∧ q ≤ 255 ∧ (∀ x ∈ ys, U8 x.2) ∧ U8 r ∧ r.length ≤ b.length
  | 0, xs, p, b, ys, q, r, _, _, _, _, h => by cases h
  | f + 1, xs, p, b, ys, q, r, hu, hp, hx, hxu, h => by
    cases hi : isX p with
    | false =>
      rw [chn_done hi] at h
      injection h with h
      injection h with e1 h
      injection h with e2 e3
      subst e1 e2 e3
      exact ⟨[], by simp, rfl, by simp [extB], hx, hi, hp.1, hp.2, hxu, hu, Nat.le_refl _⟩
    | true =>
      by_cases k : lies xs / 8 ≠ 0 ∨ xs.length = 8 ∨ b.length < 8 ∨ (p = 0 ∧ xs.length ≠ 0)
      · rw [chn_no hi k] at h; cases h
      · rcases Nat.lt_or_ge b.length (siz p b) with k2 | k2
        · rw [chn_short hi k2] at h; cases h
        · rw [chn_next hi k k2] at h
          obtain ⟨zs, e1, e2, e3, e4, e5, e6, e7, e8, e9, e10⟩ := chn_sound f _ _ _ (hu.drop _) (hu.get 0) (right_new hx hu hi k k2) (fun x hx' => by
            rcases List.mem_append.mp hx' with h1 | h1
            · exact hxu x h1
            · rw [List.mem_singleton.mp h1]; exact (hu.take _).drop _) h
          refine ⟨(p, (b.take (siz p b)).drop 1) :: zs, by rw [e1]; simp, rfl, ?_, e4, e5, e6, e7, e8, e9, by rw [List.length_drop] at e10; omega⟩
          show b = nextK zs q :: ((b.take (siz p b)).drop 1 ++ extB zs q) ++ r
          rw [e2, List.cons_append, List.append_assoc, ← e3]
          exact (ext_one p b (by have := siz_8 p b; omega) k2).symm
theorem right_siz {x : XP} {k : Nat} (h : rightX x k = true) (hu : U8 x.2) (t : List Int) (n : Int) : siz x.1 (n :: (x.2 ++ t)) = 1 + x.2.length ∧ 7 ≤ x.2.length ∧ isX x.1 = true ∧ ¬ (x.1 = 0 ∧ k ≠ 0) := by
  unfold rightX at h
  simp only [Bool.and_eq_true, decide_eq_true_eq] at h
  obtain ⟨⟨⟨h1, h2⟩, h3, h4⟩, h5⟩ := h
  have h7 : 7 ≤ x.2.length := by omega
  refine ⟨?_, h7, h1, h2⟩
  have e : (n :: (x.2 ++ t)).getD 1 0 = x.2.getD 0 0 := by
    rw [List.getD_eq_getElem?_getD, List.getD_eq_getElem?_getD, List.getElem?_cons_succ, List.getElem?_append_left (by omega)]
  unfold siz
  rw [e]
  by_cases hp : x.1 = 44
  · rw [if_pos hp]; rw [if_pos hp] at h5
    have := of_decide_eq_true h5
    omega
  · rw [if_neg hp]; rw [if_neg hp] at h5
    have := of_decide_eq_true h5
    omega
/-- What was put is told again. -/
theorem chn_put : ∀ (zs : List XP) (xs : List XP) (q : Int) (r : List Int) (f : Nat), RightE (xs ++ zs) → (∀ x ∈ zs, U8 x.2) → isX q = false → zs.length < f → chn f xs (nextK zs q) (extB zs q ++ r) = some (xs ++ zs, q, r)
  | [], xs, q, r, f, _, _, hq, hf => by
    obtain ⟨f, rfl⟩ : ∃ g, f = g + 1 := ⟨f - 1, by simp at hf; omega⟩
    show chn (f + 1) xs q ([] ++ r) = _
    rw [chn_done hq]
    simp
  | x :: zs, xs, q, r, f, hR, hu, hq, hf => by
    obtain ⟨f, rfl⟩ : ∃ g, f = g + 1 := ⟨f - 1, by simp at hf; omega⟩
    have hlen : xs.length < (xs ++ x :: zs).length := by simp
    have hr := hR.each xs.length hlen
    rw [List.getElem_append_right (Nat.le_refl _)] at hr
    simp only [Nat.sub_self, List.getElem_cons_zero] at hr
    have hw := hR.whole xs.length hlen
    rw [List.take_left] at hw
    have hm := hR.most
    rw [List.length_append, List.length_cons] at hm
    have eb : extB (x :: zs) q ++ r = nextK zs q :: (x.2 ++ (extB zs q ++ r)) := by show nextK zs q :: (x.2 ++ extB zs q) ++ r = _; simp
    obtain ⟨s1, s2, s3, s4⟩ := right_siz hr (hu x (by simp)) (extB zs q ++ r) (nextK zs q)
    rw [eb]
    show chn (f + 1) xs x.1 _ = _
    have hlb : (nextK zs q :: (x.2 ++ (extB zs q ++ r))).length = 1 + x.2.length + (extB zs q ++ r).length := by rw [List.length_cons, List.length_append]; omega
    rw [chn_next s3 (by
      rintro (h | h | h | h)
      · exact h hw
      · omega
      · rw [hlb] at h; omega
      · exact s4 h) (by rw [s1, hlb]; omega), s1]
    have e1 : ((nextK zs q :: (x.2 ++ (extB zs q ++ r))).take (1 + x.2.length)).drop 1 = x.2 := by
      rw [Nat.add_comm, List.take_succ_cons]
      simp
    have e2 : (nextK zs q :: (x.2 ++ (extB zs q ++ r))).drop (1 + x.2.length) = extB zs q ++ r := by
      rw [Nat.add_comm, List.drop_succ_cons, List.drop_left]
    rw [e1, e2]
    have := chn_put zs (xs ++ [(x.1, x.2)]) q r f (by rw [List.append_assoc]; exact hR) (fun y hy => hu y (by simp [hy])) hq (by simp at hf; omega)
    rw [List.append_assoc] at this
    exact this
/-- How long the headers are that extend. -/
def extL (l : List XP) : Nat := (l.map fun x => 1 + x.2.length).sum
theorem extB_len : ∀ (l : List XP) (p : Int), (extB l p).length = extL l
  | [], _ => rfl
  | x :: l, p => by
    show (nextK l p :: (x.2 ++ extB l p)).length = _
    rw [List.length_cons, List.length_append, extB_len l p]
    unfold extL
    simp
    omega
theorem extL_le {l : List XP} (h : RightE l) : extL l ≤ 16384 := by
  have key : ∀ (m : List XP), (∀ x ∈ m, x.2.length ≤ 2047) → extL m ≤ 2048 * m.length := by
    intro m hm
    induction m with
    | nil => exact Nat.le_refl _
    | cons x m ih =>
      have := hm x (by simp)
      have := ih fun y hy => hm y (by simp [hy])
      unfold extL at this ⊢
      simp
      omega
  have h1 := key l fun x hx => by
    obtain ⟨i, hi, rfl⟩ := List.getElem_of_mem hx
    have := h.each i hi
    unfold rightX at this
    simp only [Bool.and_eq_true, decide_eq_true_eq] at this
    exact this.1.2.1
  have := h.most
  omega
theorem extB_in : ∀ (l : List XP) (p : Int), (∀ x ∈ l, U8 x.2 ∧ 0 ≤ x.1 ∧ x.1 ≤ 255) → 0 ≤ p ∧ p ≤ 255 → U8 (extB l p) ∧ 0 ≤ nextK l p ∧ nextK l p ≤ 255
  | [], p, _, hp => ⟨fun x hx => (by cases hx), hp⟩
  | x :: l, p, h, hp => by
    obtain ⟨h1, h2⟩ := extB_in l p (fun y hy => h y (by simp [hy])) hp
    refine ⟨?_, (h x (by simp)).2⟩
    intro y hy
    have hy : y ∈ nextK l p :: (x.2 ++ extB l p) := hy
    rcases List.mem_cons.mp hy with rfl | hy
    · exact h2
    · exact ((h x (by simp)).1.join h1) y hy
theorem isX_in {k : Int} (h : isX k = true) : 0 ≤ k ∧ k ≤ 255 := by
  unfold isX at h
  have := of_decide_eq_true h
  omega
theorem RightE.kinds {l : List XP} (h : RightE l) : ∀ x ∈ l, 0 ≤ x.1 ∧ x.1 ≤ 255 := fun x hx => by
  obtain ⟨i, hi, rfl⟩ := List.getElem_of_mem hx
  have := h.each i hi
  unfold rightX at this
  simp only [Bool.and_eq_true] at this
  exact isX_in this.1.1.1
theorem RightE.nil : RightE [] := ⟨by simp, fun i h => by simp at h, fun i h => by simp at h⟩
end Go.Proofs.Ytndekicblbpkjaa.sixW
