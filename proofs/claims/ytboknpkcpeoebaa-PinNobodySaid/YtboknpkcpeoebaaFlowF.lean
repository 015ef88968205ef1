/- Layer 27: along a row. -/
import Derived.Test.YtboknpkcpeoebaaFlowD
namespace Go.Proofs.Ytboknpkcpeoebaa.flowF
open Go.Proofs.Ytboknpkcpeoebaa.flowA Go.Proofs.Ytboknpkcpeoebaa.flowB Go.Proofs.Ytboknpkcpeoebaa.flowC Go.Proofs.Ytboknpkcpeoebaa.flowD
set_option linter.unusedVariables false

section
variable {E K : Type}
theorem map_upd {α : Type} (f : Nat → α) (a : Nat) (x : α) (L : List Nat) (h : a ∉ L) : L.map (updF f a x) = L.map f :=
  List.map_congr_left fun q hq => updF_far _ _ _ _ fun e => h (e ▸ hq)
/-- Along a row: what has been seen has another key. -/
structure Walk (key : E → K) (t : Tb E) (C : List Nat) (k : K) (A R : List Nat) : Prop where
  all : C = A ++ R
  no : ∀ p, p ∈ A → key (t.ent p) ≠ k
theorem walk_start (key : E → K) (t : Tb E) (C : List Nat) (k : K) : Walk key t C k [] C := ⟨rfl, fun p hp => (by cases hp)⟩
theorem walk_next {key : E → K} {t : Tb E} {C : List Nat} {k : K} {A R : List Nat} {p : Nat} (h : Walk key t C k A (p :: R)) (hc : Chn t.bh C (-1)) (hk : key (t.ent p) ≠ k) : t.bh p = headZ R (-1) ∧ Walk key t C k (A ++ [p]) R := by
  have hc2 := hc
  rw [h.all, chn_app] at hc2
  refine ⟨hc2.2.1, by rw [h.all]; simp, fun q hq => ?_⟩
  rw [List.mem_append] at hq
  rcases hq with hq | hq
  · exact h.no q hq
  · rw [List.mem_singleton] at hq
    rw [hq]; exact hk
theorem headZ_cons {R : List Nat} (h : headZ R (-1) ≠ -1) : ∃ p R', R = p :: R' ∧ headZ R (-1) = (p : Int) := by
  cases R with
  | nil => exact absurd rfl h
  | cons p R' => exact ⟨p, R', rfl, rfl⟩
theorem walk_found {n most : Nat} {key : E → K} {hh : K → Nat} {t : Tb E} {L F : List Nat} {C : Nat → List Nat} (g : GoodT n most key hh t L F C) {k : K} {A R : List Nat} {p : Nat} (h : Walk key t (C (hh k)) k A (p :: R)) : p ∈ L :=
  ((g.mem (hh k) (g.hlt k) p).mp (by rw [h.all]; simp)).1
theorem walk_none {n most : Nat} {key : E → K} {hh : K → Nat} {t : Tb E} {L F : List Nat} {C : Nat → List Nat} (g : GoodT n most key hh t L F C) {k : K} {A : List Nat} (h : Walk key t (C (hh k)) k A []) : ∀ p, p ∈ L → key (t.ent p) ≠ k := by
  intro p hp e
  have hm : p ∈ C (hh k) := (g.mem (hh k) (g.hlt k) p).mpr ⟨hp, by rw [e]⟩
  rw [h.all, List.append_nil] at hm
  exact h.no p hm e
/-- Where a flow is in the order. -/
theorem split_at {L : List Nat} {p : Nat} (h : p ∈ L) : ∃ A B, L = A ++ p :: B := List.append_of_mem h
/-- Along a row up to the one right ahead of a place. -/
structure Ahead (C : List Nat) (a : Nat) (U : List Nat) (y : Nat) (R : List Nat) : Prop where
  all : C = U ++ y :: R
  mem : a ∈ R
theorem ahead_start {C : List Nat} {b a : Nat} {V : List Nat} (h : C = b :: V) (ha : a ∈ C) (hne : b ≠ a) : Ahead C a [] b V := by
  refine ⟨h, ?_⟩
  rw [h, List.mem_cons] at ha
  exact ha.resolve_left fun e => hne e.symm
theorem ahead_step {C : List Nat} {a : Nat} {U : List Nat} {y : Nat} {R : List Nat} {bh : Nat → Int} (h : Ahead C a U y R) (hc : Chn bh C (-1)) : ∃ b V, R = b :: V ∧ bh y = (b : Int) ∧ (b = a → C = U ++ y :: a :: V) ∧ (b ≠ a → Ahead C a (U ++ [y]) b V) := by
  have hc2 := hc
  rw [h.all, chn_app] at hc2
  cases hR : R with
  | nil => have := h.mem; rw [hR] at this; cases this
  | cons b V =>
    rw [hR] at hc2
    refine ⟨b, V, rfl, hc2.2.1, fun e => by rw [h.all, hR, e], fun e => ⟨by rw [h.all, hR]; simp, ?_⟩⟩
    have := h.mem
    rw [hR, List.mem_cons] at this
    exact this.resolve_left fun e2 => e e2.symm
/-- The last of the order, and those ahead of it. -/
theorem last_of {t : Tb E} {L : List Nat} (h : Lru t L) (hne : L ≠ []) : ∃ (A : List Nat) (a : Nat), L = A ++ [a] ∧ t.oldest = (a : Int) := by
  rcases lastZ_cons L (-1) with e | ⟨A, a, e, el⟩
  · exact absurd e hne
  · exact ⟨A, a, e, h.tl.trans el⟩
end

end Go.Proofs.Ytboknpkcpeoebaa.flowF
