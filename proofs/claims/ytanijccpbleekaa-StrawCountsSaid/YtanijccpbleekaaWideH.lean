/- Layer 1: the least of fractions. -/
import Derived.Test.YtanijccpbleekaaWideG
namespace Go.Proofs.Ytanijccpbleekaa.wideH
open Go.ChangeShapes Go.WideShapes Go.ChangeAt Go.RowKit
open Go.Proofs.Ytanijccpbleekaa.base Go.Proofs.Ytanijccpbleekaa.wideC Go.Proofs.Ytanijccpbleekaa.wideD Go.Proofs.Ytanijccpbleekaa.wideF Go.Proofs.Ytanijccpbleekaa.wideG
set_option linter.unusedVariables false

/-- The slice at A reads as these fractions, in blocks below B. -/
def Row2 (w : World) (B : Nat) (A : Option Addr) (xs : List (Int × Int)) : Prop :=
  xs = [] ∨ ∃ b off, A = some ⟨b, off, none⟩ ∧ b < B ∧ ∀ i, i < xs.length → w.cell? ⟨b, off + i * 2, none⟩ = some (.int .u64 (xs.getD i (0, 0)).1) ∧ w.cell? ⟨b, off + i * 2 + 1, none⟩ = some (.int .u64 (xs.getD i (0, 0)).2)
theorem Row2.below {w w' : World} {B : Nat} {A : Option Addr} {xs : List (Int × Int)} (h : Row2 w B A xs) (hb : Below B w w') : Row2 w' B A xs := by
  rcases h with h | ⟨b, off, rfl, hlt, hc⟩
  · exact .inl h
  · exact .inr ⟨b, off, rfl, hlt, fun i hi => ⟨(hb.cell (p := ⟨b, off + i * 2, none⟩) hlt).trans (hc i hi).1, (hb.cell (p := ⟨b, off + i * 2 + 1, none⟩) hlt).trans (hc i hi).2⟩⟩
theorem Row2.at_ {w : World} {B : Nat} {A : Option Addr} {xs : List (Int × Int)} (h : Row2 w B A xs) (hne : 0 < xs.length) : ∃ b off, A = some ⟨b, off, none⟩ ∧ b < B ∧ ∀ i, i < xs.length → w.cell? ⟨b, off + i * 2, none⟩ = some (.int .u64 (xs.getD i (0, 0)).1) ∧ w.cell? ⟨b, off + i * 2 + 1, none⟩ = some (.int .u64 (xs.getD i (0, 0)).2) := by
  rcases h with h | h
  · rw [h] at hne; simp at hne
  · exact h

theorem box_el {w : World} {p : Addr} {q : Addr} {u v x y : Value} {t : TypeId} (h1 : w.cell? p = some x) (h2 : w.cell? q = some y) (W : World) (hW : W = w.alloc (.cells #[u, v] t)) :
    Below W.heap.size W W.drew ∧ W.drew.cell? ⟨w.heap.size, 0, none⟩ = some u ∧ W.drew.cell? ⟨w.heap.size, 1, none⟩ = some v ∧ W.drew.cell? p = some x ∧ W.drew.cell? q = some y := by
  subst hW
  have hb : Below w.heap.size w (w.alloc (.cells #[u, v] t)).drew := ((Below.refl _ _).alloc (Nat.le_refl _) _).drew
  exact ⟨(Below.refl _ _).drew, (Blk.new w t #[u, v]).drew.cell 0, (Blk.new w t #[u, v]).drew.cell 1, kept h1 hb, kept h2 hb⟩
end Go.Proofs.Ytanijccpbleekaa.wideH
