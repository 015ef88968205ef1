/- Layer 27: a table of flows, whole: what comes in, what is used. -/
import Derived.Test.YtboknpkcpeoebaaFlowC
namespace Go.Proofs.Ytboknpkcpeoebaa.flowD
open Go.Proofs.Ytboknpkcpeoebaa.flowA Go.Proofs.Ytboknpkcpeoebaa.flowB Go.Proofs.Ytboknpkcpeoebaa.flowC
set_option linter.unusedVariables false

section
variable {E K : Type}
/-- A flow that is put at a place: it is the first of its row, and the one that was used last. -/
def placeT (t : Tb E) (e : E) (r a np : Nat) (free : Int) : Tb E :=
  linkT { t with size := t.size + 1, np := np, ent := updF t.ent a e, nw := updF t.nw a 0, od := updF t.od a 0, bh := updF t.bh a (t.rows r), rows := updF t.rows r (a : Int), free := free } a
theorem linkT_keep (t : Tb E) (a : Nat) : (linkT t a).size = t.size ∧ (linkT t a).np = t.np ∧ (linkT t a).ent = t.ent ∧ (linkT t a).bh = t.bh ∧ (linkT t a).rows = t.rows ∧ (linkT t a).free = t.free := by
  unfold linkT
  split <;> exact ⟨rfl, rfl, rfl, rfl, rfl, rfl⟩
theorem unlinkT_keep (t : Tb E) (a : Nat) : (unlinkT t a).size = t.size ∧ (unlinkT t a).np = t.np ∧ (unlinkT t a).ent = t.ent ∧ (unlinkT t a).bh = t.bh ∧ (unlinkT t a).rows = t.rows ∧ (unlinkT t a).free = t.free := ⟨rfl, rfl, rfl, rfl, rfl, rfl⟩
theorem good_place {n most : Nat} {key : E → K} {hh : K → Nat} {t : Tb E} {L F F' : List Nat} {C : Nat → List Nat} (g : GoodT n most key hh t L F C) (e : E) (r a np : Nat) (free : Int) (hr : hh (key e) = r) (hk : ∀ p, p ∈ L → key (t.ent p) ≠ key e)
    (ha : a ∉ L) (haF : a ∉ F') (hF : ∀ q, q ∈ F' → q ∈ F) (hfree : free = headZ F' (-1)) (hch : Chn t.bh F' (-1)) (hperm : ((a :: L) ++ F').Perm (List.range np)) (hcap : np ≤ most) :
    GoodT n most key hh (placeT t e r a np free) (a :: L) F' (fun q => if q = r then a :: C r else C q) := by
  have hrn : r < n := hr ▸ g.hlt _
  obtain ⟨t0, ht0⟩ : ∃ t0 : Tb E, t0 = { t with size := t.size + 1, np := np, ent := updF t.ent a e, nw := updF t.nw a 0, od := updF t.od a 0, bh := updF t.bh a (t.rows r), rows := updF t.rows r (a : Int), free := free } := ⟨_, rfl⟩
  have hl0 : Lru t0 L := by
    rw [ht0]
    exact ⟨seg_ext L _ _ g.lru.seg (fun q hq => updF_far _ _ _ _ (fun e2 => ha (e2 ▸ hq))) (fun q hq => updF_far _ _ _ _ (fun e2 => ha (e2 ▸ hq))), g.lru.nd, g.lru.hd, g.lru.tl⟩
  have hl := hl0.link a ha
  obtain ⟨k1, k2, k3, k4, k5, k6⟩ := linkT_keep t0 a
  have hp : placeT t e r a np free = linkT t0 a := by rw [ht0]; rfl
  have haC : ∀ q, q < n → a ∉ C q := fun q hq hm => ha ((g.mem q hq a).mp hm).1
  rw [hp]
  have s1 : t0.size = t.size + 1 := by rw [ht0]
  have s2 : t0.np = np := by rw [ht0]
  have s3 : t0.ent = updF t.ent a e := by rw [ht0]
  have s4 : t0.bh = updF t.bh a (t.rows r) := by rw [ht0]
  have s5 : t0.rows = updF t.rows r (a : Int) := by rw [ht0]
  have s6 : t0.free = free := by rw [ht0]
  refine ⟨hl, ?_, ?_, ?_, ?_, fun q hq => ?_, fun q hq => ?_, fun q hq => ?_, fun q hq p => ?_, g.hlt, fun p hp q hq he => ?_, ?_⟩
  · rw [k1, s1, g.size]; rfl
  · rw [k6, s6]; exact hfree
  · rw [k4, s4]
    exact chn_ext F' _ hch fun q hq => updF_far _ _ _ _ (fun e2 => haF (e2 ▸ hq))
  · rw [k2, s2]; exact hperm
  · rw [k5, s5]
    by_cases e1 : q = r
    · rw [if_pos e1, e1, updF_here]; rfl
    · rw [if_neg e1, updF_far _ _ _ _ e1]; exact g.rows q hq
  · rw [k4, s4]
    by_cases e1 : q = r
    · rw [if_pos e1, g.rows r hrn]
      exact chn_in (C r) a (-1) (g.rch r hrn) (haC r hrn)
    · rw [if_neg e1]
      exact chn_ext _ _ (g.rch q hq) fun p hp => updF_far _ _ _ _ (fun e2 => haC q hq (e2 ▸ hp))
  · by_cases e1 : q = r
    · rw [if_pos e1]; exact List.nodup_cons.mpr ⟨haC r hrn, g.rnd r hrn⟩
    · rw [if_neg e1]; exact g.rnd q hq
  · rw [k3, s3]
    by_cases e1 : q = r
    · rw [if_pos e1, List.mem_cons, List.mem_cons, g.mem r hrn, e1]
      by_cases e2 : p = a
      · subst e2
        rw [updF_here]
        exact ⟨fun _ => ⟨.inl rfl, hr⟩, fun _ => .inl rfl⟩
      · rw [updF_far _ _ _ _ e2]
        exact ⟨fun h => ⟨.inr (h.resolve_left e2).1, (h.resolve_left e2).2⟩, fun h => .inr ⟨h.1.resolve_left e2, h.2⟩⟩
    · rw [if_neg e1, List.mem_cons, g.mem q hq]
      by_cases e2 : p = a
      · subst e2
        rw [updF_here]
        exact ⟨fun h => absurd h.1 ha, fun h => absurd (h.2.symm.trans hr) e1⟩
      · rw [updF_far _ _ _ _ e2]
        exact ⟨fun h => ⟨.inr h.1, h.2⟩, fun h => ⟨h.1.resolve_left e2, h.2⟩⟩
  · rw [k3, s3] at he
    rw [List.mem_cons] at hp hq
    by_cases e1 : p = a
    · by_cases e2 : q = a
      · rw [e1, e2]
      · have hq' := hq.resolve_left e2
        rw [e1, updF_here, updF_far _ _ _ _ e2] at he
        exact absurd he.symm (hk q hq')
    · have hp' := hp.resolve_left e1
      by_cases e2 : q = a
      · rw [e2, updF_here, updF_far _ _ _ _ e1] at he
        exact absurd he (hk p hp')
      · rw [updF_far _ _ _ _ e1, updF_far _ _ _ _ e2] at he
        exact g.uniq p hp' q (hq.resolve_left e2) he
  · rw [k2, s2]; exact hcap
/-- There is a new place. -/
theorem good_addNew {n most : Nat} {key : E → K} {hh : K → Nat} {t : Tb E} {L : List Nat} {C : Nat → List Nat} (g : GoodT n most key hh t L [] C) (e : E) (r : Nat) (hr : hh (key e) = r) (hk : ∀ p, p ∈ L → key (t.ent p) ≠ key e) (hs : L.length < most) :
    GoodT n most key hh (placeT t e r t.np (t.np + 1) (-1)) (t.np :: L) [] (fun q => if q = r then t.np :: C r else C q) := by
  have hp := g.perm
  rw [List.append_nil] at hp
  have hl := hp.length_eq
  rw [List.length_range] at hl
  refine good_place g e r t.np (t.np + 1) (-1) hr hk (fun hm => ?_) (by simp) (fun q hq => hq) rfl trivial ?_ (by omega)
  · exact Nat.lt_irrefl _ (g.lt t.np (.inl hm))
  · rw [List.append_nil, List.range_succ]
    exact (List.Perm.cons t.np hp).trans (List.perm_append_singleton _ _).symm
/-- There is a place that is free. -/
theorem good_addFree {n most : Nat} {key : E → K} {hh : K → Nat} {t : Tb E} {L F : List Nat} {f : Nat} {C : Nat → List Nat} (g : GoodT n most key hh t L (f :: F) C) (e : E) (r : Nat) (hr : hh (key e) = r) (hk : ∀ p, p ∈ L → key (t.ent p) ≠ key e) :
    GoodT n most key hh (placeT t e r f t.np (t.bh f)) (f :: L) F (fun q => if q = r then f :: C r else C q) := by
  have hlf := g.lf
  rw [List.nodup_append] at hlf
  refine good_place g e r f t.np (t.bh f) hr hk (fun hm => hlf.2.2 f hm f (by simp) rfl) ((List.nodup_cons.mp hlf.2.1).1) (fun q hq => by simp [hq]) g.fch.1 g.fch.2 ?_ g.cap
  exact (List.perm_middle (l₁ := L) (l₂ := F) (a := f)).symm.trans g.perm
/-- A flow that is used is the one that was used last. -/
theorem good_touch {n most : Nat} {key : E → K} {hh : K → Nat} {t : Tb E} {A B F : List Nat} {C : Nat → List Nat} {a : Nat} (g : GoodT n most key hh t (A ++ a :: B) F C) : GoodT n most key hh (linkT (unlinkT t a) a) (a :: (A ++ B)) F C := by
  obtain ⟨k1, k2, k3, k4, k5, k6⟩ := linkT_keep (unlinkT t a) a
  have hm : (a :: (A ++ B)).Perm (A ++ a :: B) := List.perm_middle.symm
  refine ⟨g.lru.touch, ?_, ?_, ?_, ?_, fun q hq => ?_, fun q hq => ?_, g.rnd, fun q hq p => ?_, g.hlt, fun p hp q hq he => ?_, ?_⟩
  · rw [k1, hm.length_eq]; exact g.size
  · rw [k6]; exact g.free
  · rw [k4]; exact g.fch
  · rw [k2]; exact (hm.append_right F).trans g.perm
  · rw [k5]; exact g.rows q hq
  · rw [k4]; exact g.rch q hq
  · rw [k3, g.mem q hq, hm.mem_iff]; exact Iff.rfl
  · rw [k3] at he
    exact g.uniq p (hm.mem_iff.mp hp) q (hm.mem_iff.mp hq) he
  · rw [k2]; exact g.cap
/-- What is known of a flow is changed. -/
theorem good_turn {n most : Nat} {key : E → K} {hh : K → Nat} {t : Tb E} {L F : List Nat} {C : Nat → List Nat} (g : GoodT n most key hh t L F C) (a : Nat) (e : E) (ha : a ∈ L) (hk : key e = key (t.ent a)) : GoodT n most key hh { t with ent := updF t.ent a e } L F C := by
  have hkey : ∀ p, key (updF t.ent a e p) = key (t.ent p) := by
    intro p
    by_cases h : p = a
    · rw [h, updF_here]; exact hk
    · rw [updF_far _ _ _ _ h]
  refine ⟨⟨g.lru.seg, g.lru.nd, g.lru.hd, g.lru.tl⟩, g.size, g.free, g.fch, g.perm, g.rows, g.rch, g.rnd, fun q hq p => ?_, g.hlt, fun p hp q hq he => ?_, g.cap⟩
  · show p ∈ C q ↔ (p ∈ L ∧ hh (key (updF t.ent a e p)) = q)
    rw [hkey]; exact g.mem q hq p
  · have h1 : key (updF t.ent a e p) = key (updF t.ent a e q) := he
    rw [hkey, hkey] at h1
    exact g.uniq p hp q hq h1
/-- A table without flows. -/
theorem good_new (n most : Nat) (key : E → K) (hh : K → Nat) (hlt : ∀ k, hh k < n) (ent : Nat → E) (nw od bh : Nat → Int) : GoodT n most key hh ⟨0, 0, ent, nw, od, bh, fun _ => -1, -1, -1, -1⟩ [] [] (fun _ => []) :=
  ⟨⟨trivial, List.nodup_nil, rfl, rfl⟩, rfl, rfl, trivial, List.Perm.refl _, fun _ _ => rfl, fun _ _ => trivial, fun _ _ => List.nodup_nil, fun _ _ p => ⟨fun h => (by cases h), fun h => (by cases h.1)⟩, hlt, fun p hp => (by cases hp), Nat.zero_le _⟩
end
end Go.Proofs.Ytboknpkcpeoebaa.flowD
