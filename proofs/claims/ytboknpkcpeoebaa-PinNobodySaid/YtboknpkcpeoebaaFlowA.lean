/- Layer 27: rows of places that know each other, in plain words. -/
import Derived.Test.YtboknpkcpeoebaaBase
namespace Go.Proofs.Ytboknpkcpeoebaa.flowA
set_option linter.unusedVariables false

def updF {α : Type} (f : Nat → α) (k : Nat) (x : α) : Nat → α := fun i => if i = k then x else f i
theorem updF_here {α : Type} (f : Nat → α) (k : Nat) (x : α) : updF f k x k = x := by unfold updF; rw [if_pos rfl]
theorem updF_far {α : Type} (f : Nat → α) (k i : Nat) (x : α) (h : i ≠ k) : updF f k x i = f i := by unfold updF; rw [if_neg h]
/-- The first of a list, or another number; the last one likewise. -/
def headZ (L : List Nat) (x : Int) : Int := match L with
  | [] => x
  | q :: _ => (q : Int)
def lastZ : List Nat → Int → Int
  | [], x => x
  | q :: L, _ => lastZ L (q : Int)
/-- A row of places, each of which knows the one ahead and the one behind. -/
def Seg (nw od : Nat → Int) : Int → List Nat → Int → Prop
  | _, [], _ => True
  | prev, p :: L, next => nw p = prev ∧ od p = headZ L next ∧ Seg nw od (p : Int) L next
theorem lastZ_app (A B : List Nat) (x : Int) : lastZ (A ++ B) x = lastZ B (lastZ A x) := by
  induction A generalizing x with
  | nil => rfl
  | cons a A ih => exact ih _
theorem headZ_app (A B : List Nat) (x : Int) : headZ (A ++ B) x = headZ A (headZ B x) := by cases A <;> rfl
theorem seg_app (nw od : Nat → Int) (A B : List Nat) (p x : Int) : Seg nw od p (A ++ B) x ↔ Seg nw od p A (headZ B x) ∧ Seg nw od (lastZ A p) B x := by
  induction A generalizing p with
  | nil => exact ⟨fun h => ⟨trivial, h⟩, fun h => h.2⟩
  | cons a A ih =>
    show (nw a = p ∧ od a = headZ (A ++ B) x ∧ Seg nw od (a : Int) (A ++ B) x) ↔ (nw a = p ∧ od a = headZ A (headZ B x) ∧ Seg nw od (a : Int) A (headZ B x)) ∧ Seg nw od (lastZ A (a : Int)) B x
    rw [ih, headZ_app]
    constructor
    · rintro ⟨h1, h2, h3, h4⟩; exact ⟨⟨h1, h2, h3⟩, h4⟩
    · rintro ⟨⟨h1, h2, h3⟩, h4⟩; exact ⟨h1, h2, h3, h4⟩
theorem seg_ext {nw od nw' od' : Nat → Int} (L : List Nat) (p x : Int) (h : Seg nw od p L x) (e1 : ∀ q ∈ L, nw' q = nw q) (e2 : ∀ q ∈ L, od' q = od q) : Seg nw' od' p L x := by
  induction L generalizing p with
  | nil => trivial
  | cons a L ih =>
    obtain ⟨h1, h2, h3⟩ := h
    exact ⟨(e1 a (by simp)).trans h1, (e2 a (by simp)).trans h2, ih _ h3 (fun q hq => e1 q (by simp [hq])) (fun q hq => e2 q (by simp [hq]))⟩
/-- The last one gets another one behind it. -/
theorem seg_end {nw od : Nat → Int} (A : List Nat) (a : Nat) (p x y : Int) (h : Seg nw od p (A ++ [a]) x) (hn : (A ++ [a]).Nodup) : Seg nw (updF od a y) p (A ++ [a]) y := by
  rw [seg_app] at h ⊢
  obtain ⟨h1, h2, h3, _⟩ := h
  have hA : a ∉ A := by
    rw [List.nodup_append] at hn
    intro hm
    exact hn.2.2 a hm a (by simp) rfl
  refine ⟨seg_ext A p _ h1 (fun q _ => rfl) (fun q hq => updF_far _ _ _ _ (fun e => hA (e ▸ hq))), h2, ?_, trivial⟩
  exact updF_here _ _ _
/-- The first one gets another one ahead of it. -/
theorem seg_start {nw od : Nat → Int} (B : List Nat) (b : Nat) (p x y : Int) (h : Seg nw od p (b :: B) x) (hn : (b :: B).Nodup) : Seg (updF nw b y) od y (b :: B) x := by
  obtain ⟨_, h2, h3⟩ := h
  have hB : b ∉ B := (List.nodup_cons.mp hn).1
  exact ⟨updF_here _ _ _, h2, seg_ext B _ _ h3 (fun q hq => updF_far _ _ _ _ (fun e => hB (e ▸ hq))) (fun q _ => rfl)⟩
/-- What a place that is taken out leaves: those around it know each other. -/
def outNw (nw : Nat → Int) (newer older : Int) : Nat → Int := if older = -1 then nw else updF nw older.toNat newer
def outOd (od : Nat → Int) (newer older : Int) : Nat → Int := if newer = -1 then od else updF od newer.toNat older
theorem lastZ_cons (A : List Nat) (x : Int) : A = [] ∨ ∃ (A' : List Nat) (a : Nat), A = A' ++ [a] ∧ lastZ A x = (a : Int) := by
  rcases List.eq_nil_or_concat A with h | ⟨A', a, h⟩
  · exact .inl h
  · right
    rw [List.concat_eq_append] at h
    refine ⟨A', a, h, ?_⟩
    rw [h, lastZ_app]
    rfl
theorem seg_out {nw od : Nat → Int} (A B : List Nat) (m : Nat) (h : Seg nw od (-1) (A ++ m :: B) (-1)) (hn : (A ++ m :: B).Nodup) :
    nw m = lastZ A (-1) ∧ od m = headZ B (-1) ∧ Seg (outNw nw (nw m) (od m)) (outOd od (nw m) (od m)) (-1) (A ++ B) (-1) := by
  rw [seg_app] at h
  obtain ⟨h1, h2, h3, h4⟩ := h
  refine ⟨h2, h3, ?_⟩
  rw [h2, h3]
  have hmA : m ∉ A := by
    rw [List.nodup_append] at hn
    exact fun hm => hn.2.2 m hm m (by simp) rfl
  have hAB : ∀ a ∈ A, ∀ b ∈ B, a ≠ b := by
    rw [List.nodup_append] at hn
    exact fun a ha b hb => hn.2.2 a ha b (by simp [hb])
  have hnA : A.Nodup := by rw [List.nodup_append] at hn; exact hn.1
  have hnB : B.Nodup := by rw [List.nodup_append] at hn; exact (List.nodup_cons.mp hn.2.1).2
  have hA2 : Seg nw (outOd od (lastZ A (-1)) (headZ B (-1))) (-1) A (headZ B (-1)) := by
    rcases lastZ_cons A (-1) with e | ⟨A', a, e, el⟩
    · subst e; exact trivial
    · rw [el]
      unfold outOd
      rw [if_neg (by omega), Int.toNat_natCast]
      rw [e] at h1 hnA ⊢
      exact seg_end A' a _ _ _ h1 hnA
  have hB2 : Seg (outNw nw (lastZ A (-1)) (headZ B (-1))) od (lastZ A (-1)) B (-1) := by
    cases B with
    | nil => exact trivial
    | cons b B =>
      show Seg (outNw nw (lastZ A (-1)) (b : Int)) od (lastZ A (-1)) (b :: B) (-1)
      unfold outNw
      rw [if_neg (by omega), Int.toNat_natCast]
      exact seg_start B b _ _ _ h4 hnB
  rw [seg_app]
  refine ⟨seg_ext A _ _ hA2 (fun q hq => ?_) (fun q _ => rfl), seg_ext B _ _ hB2 (fun q _ => rfl) (fun q hq => ?_)⟩
  · unfold outNw
    split
    · rfl
    · cases B with
      | nil => rename_i e; exact absurd rfl e
      | cons b B =>
        refine updF_far _ _ _ _ ?_
        show q ≠ ((b : Int)).toNat
        rw [Int.toNat_natCast]
        exact hAB q hq b (by simp)
  · unfold outOd
    split
    · rfl
    · rcases lastZ_cons A (-1) with e | ⟨A', a, e, el⟩
      · subst e; rename_i e2; exact absurd rfl e2
      · refine updF_far _ _ _ _ ?_
        rw [el, Int.toNat_natCast]
        exact fun e3 => hAB a (by rw [e]; simp) q hq e3.symm
/-- A place comes ahead of all. -/
theorem seg_in {nw od : Nat → Int} (L : List Nat) (m : Nat) (h : Seg nw od (-1) L (-1)) (hn : (m :: L).Nodup) :
    Seg (updF (outNw nw (m : Int) (headZ L (-1))) m (-1)) (updF od m (headZ L (-1))) (-1) (m :: L) (-1) := by
  have hm : m ∉ L := (List.nodup_cons.mp hn).1
  have hL : L.Nodup := (List.nodup_cons.mp hn).2
  refine ⟨updF_here _ _ _, updF_here _ _ _, ?_⟩
  have h2 : Seg (outNw nw (m : Int) (headZ L (-1))) od (m : Int) L (-1) := by
    cases L with
    | nil => exact trivial
    | cons b B =>
      show Seg (outNw nw (m : Int) (b : Int)) od (m : Int) (b :: B) (-1)
      unfold outNw
      rw [if_neg (by omega), Int.toNat_natCast]
      exact seg_start B b _ _ _ h hL
  exact seg_ext L _ _ h2 (fun q hq => updF_far _ _ _ _ (fun e => hm (e ▸ hq))) (fun q hq => updF_far _ _ _ _ (fun e => hm (e ▸ hq)))
/-- A row of places by one pointer each. -/
def Chn (bh : Nat → Int) : List Nat → Int → Prop
  | [], _ => True
  | p :: L, x => bh p = headZ L x ∧ Chn bh L x
theorem chn_ext {bh bh' : Nat → Int} (L : List Nat) (x : Int) (h : Chn bh L x) (e : ∀ q ∈ L, bh' q = bh q) : Chn bh' L x := by
  induction L with
  | nil => trivial
  | cons a L ih => exact ⟨(e a (by simp)).trans h.1, ih h.2 fun q hq => e q (by simp [hq])⟩
theorem chn_app (bh : Nat → Int) (A B : List Nat) (x : Int) : Chn bh (A ++ B) x ↔ Chn bh A (headZ B x) ∧ Chn bh B x := by
  induction A with
  | nil => exact ⟨fun h => ⟨trivial, h⟩, fun h => h.2⟩
  | cons a A ih =>
    show (bh a = headZ (A ++ B) x ∧ Chn bh (A ++ B) x) ↔ (bh a = headZ A (headZ B x) ∧ Chn bh A (headZ B x)) ∧ Chn bh B x
    rw [ih, headZ_app]
    constructor
    · rintro ⟨h1, h2, h3⟩; exact ⟨⟨h1, h2⟩, h3⟩
    · rintro ⟨⟨h1, h2⟩, h3⟩; exact ⟨h1, h2, h3⟩
/-- A place ahead of all in its row. -/
theorem chn_in {bh : Nat → Int} (L : List Nat) (m : Nat) (x : Int) (h : Chn bh L x) (hm : m ∉ L) : Chn (updF bh m (headZ L x)) (m :: L) x :=
  ⟨updF_here _ _ _, chn_ext L x h fun q hq => updF_far _ _ _ _ (fun e => hm (e ▸ hq))⟩
/-- A place behind another one goes out of its row. -/
theorem chn_out {bh : Nat → Int} (A B : List Nat) (a m : Nat) (x : Int) (h : Chn bh (A ++ a :: m :: B) x) (hn : (A ++ a :: m :: B).Nodup) : bh a = (m : Int) ∧ bh m = headZ B x ∧ Chn (updF bh a (bh m)) (A ++ a :: B) x := by
  rw [chn_app] at h
  obtain ⟨h1, h2, h3, h4⟩ := h
  have hd := hn
  rw [List.nodup_append] at hd
  have haA : a ∉ A := fun hm => hd.2.2 a hm a (by simp) rfl
  have haB : a ∉ B := fun hm => (List.nodup_cons.mp hd.2.1).1 (by simp [hm])
  refine ⟨h2, h3, ?_⟩
  rw [chn_app]
  exact ⟨chn_ext A _ h1 (fun q hq => updF_far _ _ _ _ (fun e => haA (e ▸ hq))), by rw [updF_here]; exact h3, chn_ext B _ h4 (fun q hq => updF_far _ _ _ _ (fun e => haB (e ▸ hq)))⟩
end Go.Proofs.Ytboknpkcpeoebaa.flowA
