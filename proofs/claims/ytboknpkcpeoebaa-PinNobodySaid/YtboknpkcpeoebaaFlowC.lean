/- Layer 27: a table of flows, whole: what goes, what comes. -/
import Derived.Test.YtboknpkcpeoebaaFlowB
namespace Go.Proofs.Ytboknpkcpeoebaa.flowC
open Go.Proofs.Ytboknpkcpeoebaa.flowA Go.Proofs.Ytboknpkcpeoebaa.flowB
set_option linter.unusedVariables false

section
variable {E K : Type}
/-- A table whose flows are these places, in the order in which they were used; F are free, C r are those in row r. -/
structure GoodT (n most : Nat) (key : E → K) (hh : K → Nat) (t : Tb E) (L F : List Nat) (C : Nat → List Nat) : Prop where
  lru : Lru t L
  size : t.size = L.length
  free : t.free = headZ F (-1)
  fch : Chn t.bh F (-1)
  perm : (L ++ F).Perm (List.range t.np)
  rows : ∀ r, r < n → t.rows r = headZ (C r) (-1)
  rch : ∀ r, r < n → Chn t.bh (C r) (-1)
  rnd : ∀ r, r < n → (C r).Nodup
  mem : ∀ r, r < n → ∀ p, p ∈ C r ↔ (p ∈ L ∧ hh (key (t.ent p)) = r)
  hlt : ∀ k, hh k < n
  uniq : ∀ p, p ∈ L → ∀ q, q ∈ L → key (t.ent p) = key (t.ent q) → p = q
  cap : t.np ≤ most
theorem GoodT.lf {n most : Nat} {key : E → K} {hh : K → Nat} {t : Tb E} {L F : List Nat} {C : Nat → List Nat} (g : GoodT n most key hh t L F C) : (L ++ F).Nodup := g.perm.nodup_iff.mpr List.nodup_range
theorem GoodT.lt {n most : Nat} {key : E → K} {hh : K → Nat} {t : Tb E} {L F : List Nat} {C : Nat → List Nat} (g : GoodT n most key hh t L F C) (p : Nat) (hp : p ∈ L ∨ p ∈ F) : p < t.np :=
  List.mem_range.mp (g.perm.mem_iff.mp (List.mem_append.mpr hp))
/-- The places behind one that goes, in its row: it is the first, or another one is right ahead of it. -/
def outRows (t : Tb E) (r a : Nat) : Nat → Int := if t.rows r = (a : Int) then updF t.rows r (t.bh a) else t.rows
def outBh (t : Tb E) (r a x : Nat) : Nat → Int := if t.rows r = (a : Int) then t.bh else updF t.bh x (t.bh a)
/-- What is taken out: x is the one right ahead of it in its row, if it is not the first. -/
def takeT (t : Tb E) (z : E) (r a x : Nat) : Tb E :=
  { unlinkT t a with
    size := t.size - 1
    ent := updF t.ent a z
    nw := updF (unlinkT t a).nw a 0
    od := updF (unlinkT t a).od a 0
    bh := updF (outBh t r a x) a t.free
    rows := outRows t r a
    free := (a : Int) }
theorem mem_erase_nodup {L : List Nat} (h : L.Nodup) (a p : Nat) : p ∈ L.erase a ↔ p ∈ L ∧ p ≠ a := by
  rw [h.mem_erase_iff]
  exact ⟨fun ⟨a, b⟩ => ⟨b, a⟩, fun ⟨a, b⟩ => ⟨b, a⟩⟩
theorem good_take {n most : Nat} {key : E → K} {hh : K → Nat} {t : Tb E} {A B F : List Nat} {C : Nat → List Nat} {a : Nat} (g : GoodT n most key hh t (A ++ a :: B) F C) (z : E) (r x : Nat) (hr : hh (key (t.ent a)) = r)
    (hx : t.rows r ≠ (a : Int) → ∃ U V, C r = U ++ x :: a :: V) :
    GoodT n most key hh (takeT t z r a x) (A ++ B) (a :: F) (fun q => if q = r then (C r).erase a else C q) := by
  have hrn : r < n := hr ▸ g.hlt _
  have hlf := g.lf
  have hnL := g.lru.nd
  have haF : a ∉ F := by
    rw [List.nodup_append] at hlf
    exact fun hm => hlf.2.2 a (by simp) a hm rfl
  have haAB : a ∉ A ++ B := by
    rw [List.nodup_append] at hnL
    rw [List.mem_append]
    rintro (hm | hm)
    · exact hnL.2.2 a hm a (by simp) rfl
    · exact (List.nodup_cons.mp hnL.2.1).1 hm
  have haC : a ∈ C r := (g.mem r hrn a).mpr ⟨by simp, hr⟩
  have hun := g.lru.unlink
  have ne_of : ∀ q, q ∈ A ++ B → q ≠ a := fun q hq e => haAB (e ▸ hq)
  have memL : ∀ q, q ∈ A ++ a :: B ↔ q = a ∨ q ∈ A ++ B := by
    intro q
    simp only [List.mem_append, List.mem_cons]
    constructor
    · rintro (h | h | h)
      · exact .inr (.inl h)
      · exact .inl h
      · exact .inr (.inr h)
    · rintro (h | h | h)
      · exact .inr (.inl h)
      · exact .inl h
      · exact .inr (.inr h)
  -- the row of a
  have hCF : ∀ q, q < n → ∀ p, p ∈ C q → p ∉ F := fun q hq p hp hF => by
    have h1 := ((g.mem q hq p).mp hp).1
    rw [List.nodup_append] at hlf
    exact hlf.2.2 p h1 p hF rfl
  have hCC : ∀ q, q < n → q ≠ r → ∀ p, p ∈ C q → p ∉ C r := fun q hq hne p hp hpr => by
    have h1 := ((g.mem q hq p).mp hp).2
    have h2 := ((g.mem r hrn p).mp hpr).2
    exact hne (h1.symm.trans h2)
  have rowfact : (outRows t r a r = headZ ((C r).erase a) (-1) ∧ Chn (updF (outBh t r a x) a t.free) ((C r).erase a) (-1)) := by
    by_cases e : t.rows r = (a : Int)
    · have hc := g.rows r hrn
      have hch := g.rch r hrn
      have hnd := g.rnd r hrn
      cases hcr : C r with
      | nil => rw [hcr] at haC; cases haC
      | cons b V =>
        rw [hcr] at hc hch hnd
        have hb : b = a := by
          have : ((b : Nat) : Int) = (a : Int) := hc.symm.trans e
          omega
        subst hb
        rw [List.erase_cons_head]
        unfold outRows outBh
        rw [if_pos e, if_pos e, updF_here]
        exact ⟨hch.1, chn_ext V _ hch.2 fun q hq => updF_far _ _ _ _ (fun e2 => (List.nodup_cons.mp hnd).1 (e2 ▸ hq))⟩
    · obtain ⟨U, V, hC⟩ := hx e
      have hch := g.rch r hrn
      have hnd := g.rnd r hrn
      have hrw := g.rows r hrn
      rw [hC] at hch hnd hrw ⊢
      obtain ⟨_, c2, c3⟩ := chn_out U V x a (-1) hch hnd
      have her : (U ++ x :: a :: V).erase a = U ++ x :: V := by
        have hU : a ∉ U := by
          rw [List.nodup_append] at hnd
          exact fun hm => hnd.2.2 a hm a (by simp) rfl
        have hxa : x ≠ a := by
          rw [List.nodup_append] at hnd
          exact fun e2 => (List.nodup_cons.mp hnd.2.1).1 (by rw [e2]; simp)
        rw [List.erase_append_right _ hU, List.erase_cons_tail (by simpa using hxa), List.erase_cons_head]
      rw [her]
      unfold outRows outBh
      rw [if_neg e, if_neg e]
      have hna : ∀ q, q ∈ U ++ x :: V → q ≠ a := by
        intro q hq e2
        subst e2
        have hd := hnd
        rw [List.nodup_append] at hd
        rw [List.mem_append, List.mem_cons] at hq
        rcases hq with h | h | h
        · exact hd.2.2 q h q (by simp) rfl
        · exact (List.nodup_cons.mp hd.2.1).1 (by rw [← h]; simp)
        · exact (List.nodup_cons.mp (List.nodup_cons.mp hd.2.1).2).1 h
      refine ⟨?_, chn_ext _ _ c3 fun q hq => updF_far _ _ _ _ (hna q hq)⟩
      rw [hrw, headZ_app, headZ_app]
      rfl
  have outOther : ∀ q, q < n → q ≠ r → outRows t r a q = t.rows q := by
    intro q _ hne
    unfold outRows
    split
    · exact updF_far _ _ _ _ hne
    · rfl
  have bhOther : ∀ p, p ≠ a → p ∉ C r → updF (outBh t r a x) a t.free p = t.bh p := by
    intro p hpa hpC
    rw [updF_far _ _ _ _ hpa]
    unfold outBh
    split
    · rfl
    · rename_i e
      obtain ⟨U, V, hC⟩ := hx e
      exact updF_far _ _ _ _ (fun e2 => hpC (by rw [hC, e2]; simp))
  refine ⟨?_, ?_, rfl, ?_, ?_, fun q hq => ?_, fun q hq => ?_, fun q hq => ?_, fun q hq p => ?_, g.hlt, fun p hp q hq he => ?_, g.cap⟩
  · refine ⟨seg_ext _ _ _ hun.seg (fun q hq => updF_far _ _ _ _ (ne_of q hq)) (fun q hq => updF_far _ _ _ _ (ne_of q hq)), hun.nd, hun.hd, hun.tl⟩
  · show t.size - 1 = (A ++ B).length
    rw [g.size]
    simp
  · show updF (outBh t r a x) a t.free a = headZ F (-1) ∧ Chn (updF (outBh t r a x) a t.free) F (-1)
    refine ⟨by rw [updF_here]; exact g.free, chn_ext F _ g.fch fun q hq => ?_⟩
    refine bhOther q (fun e => haF (e ▸ hq)) (fun hc => hCF r hrn q hc hq)
  · refine List.Perm.trans ?_ g.perm
    rw [List.append_assoc]
    refine List.Perm.trans (List.Perm.append_left A ?_) (by rw [List.append_assoc])
    exact List.perm_middle
  · show outRows t r a q = headZ (if q = r then (C r).erase a else C q) (-1)
    by_cases e : q = r
    · rw [if_pos e, e]; exact rowfact.1
    · rw [if_neg e, outOther q hq e]; exact g.rows q hq
  · show Chn (updF (outBh t r a x) a t.free) (if q = r then (C r).erase a else C q) (-1)
    by_cases e : q = r
    · rw [if_pos e]; exact rowfact.2
    · rw [if_neg e]
      refine chn_ext _ _ (g.rch q hq) fun p hp => bhOther p (fun e2 => ?_) (hCC q hq e p hp)
      subst e2
      exact hCC q hq e p hp haC
  · show (if q = r then (C r).erase a else C q).Nodup
    by_cases e : q = r
    · rw [if_pos e]; exact (g.rnd r hrn).erase a
    · rw [if_neg e]; exact g.rnd q hq
  · show p ∈ (if q = r then (C r).erase a else C q) ↔ (p ∈ A ++ B ∧ hh (key (updF t.ent a z p)) = q)
    by_cases e : q = r
    · rw [if_pos e, mem_erase_nodup (g.rnd r hrn), g.mem r hrn, memL, e]
      constructor
      · rintro ⟨⟨h1, h2⟩, h3⟩
        rw [updF_far _ _ _ _ h3]
        exact ⟨h1.resolve_left h3, h2⟩
      · rintro ⟨h1, h2⟩
        rw [updF_far _ _ _ _ (ne_of p h1)] at h2
        exact ⟨⟨.inr h1, h2⟩, ne_of p h1⟩
    · rw [if_neg e, g.mem q hq, memL]
      constructor
      · rintro ⟨h1, h2⟩
        have hpa : p ≠ a := fun e2 => e (by rw [← h2, e2]; exact hr)
        rw [updF_far _ _ _ _ hpa]
        exact ⟨h1.resolve_left hpa, h2⟩
      · rintro ⟨h1, h2⟩
        rw [updF_far _ _ _ _ (ne_of p h1)] at h2
        exact ⟨.inr h1, h2⟩
  · have h1 : key (updF t.ent a z p) = key (updF t.ent a z q) := he
    rw [updF_far _ _ _ _ (ne_of p hp), updF_far _ _ _ _ (ne_of q hq)] at h1
    exact g.uniq p ((memL p).mpr (.inr hp)) q ((memL q).mpr (.inr hq)) h1
end
end Go.Proofs.Ytboknpkcpeoebaa.flowC
