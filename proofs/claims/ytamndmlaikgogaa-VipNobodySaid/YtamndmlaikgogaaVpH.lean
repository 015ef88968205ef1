/- Layer 30: which keys are in. -/
import Derived.Test.YtamndmlaikgogaaVpG
namespace Go.Proofs.Ytamndmlaikgogaa.vpH
open Go.ChangeShapes Go.WideShapes Go.ChangeAt Go.RowKit
open Go.Proofs.Ytamndmlaikgogaa.base Go.Proofs.Ytamndmlaikgogaa.dfA Go.Proofs.Ytamndmlaikgogaa.treB Go.Proofs.Ytamndmlaikgogaa.vdA Go.Proofs.Ytamndmlaikgogaa.vdB Go.Proofs.Ytamndmlaikgogaa.vdC Go.Proofs.Ytamndmlaikgogaa.vdD Go.Proofs.Ytamndmlaikgogaa.vpA Go.Proofs.Ytamndmlaikgogaa.vpB Go.Proofs.Ytamndmlaikgogaa.vpC Go.Proofs.Ytamndmlaikgogaa.vpD Go.Proofs.Ytamndmlaikgogaa.vpE Go.Proofs.Ytamndmlaikgogaa.vpF Go.Proofs.Ytamndmlaikgogaa.vpG
open Go.Maps
set_option linter.unusedVariables false

def sameA (v6 : Bool) (hi lo : Int) (e : Vp) : Bool := e.v6 == v6 && e.hi == hi && e.lo == lo
def sameT (v6 : Bool) (hi lo pr po : Int) (e : Vp) : Bool := e.v6 == v6 && e.hi == hi && e.lo == lo && e.pr == pr && e.po == po
theorem map_tgt (l : List Vp) (k : Nat) : IsMap (tgt l k) := by
  induction k with
  | zero => exact ⟨[], rfl⟩
  | succ k ih => exact ih.put _ _
theorem map_our (l : List Vp) (k : Nat) : IsMap (our l k) := by
  induction k with
  | zero => exact ⟨[], rfl⟩
  | succ k ih => exact ih.put _ _
theorem isT (v6 : Bool) (hi lo pr po : Int) : WideAt.IsKeyLit (kT v6 hi lo pr po) := trivial
theorem isA (v6 : Bool) (hi lo : Int) : WideAt.IsKeyLit (kA v6 hi lo) := trivial
theorem tgt_look (l : List Vp) (v6 : Bool) (hi lo pr po : Int) (h1 : (Lit.int .u64 hi).wf = true) (h2 : (Lit.int .u64 lo).wf = true) (h3 : (Lit.int .i64 pr).wf = true) (h4 : (Lit.int .i64 po).wf = true) (n : Nat) (hv : ∀ j, j < n → VpIn (l.getD j zVp)) :
    Maps.has (tgt l n) (kT v6 hi lo pr po) = oOf (fnd (fun j => sameT v6 hi lo pr po (l.getD j zVp)) n) ∧ (tgt l n).atKey (kT v6 hi lo pr po) (.lit (.int .i64 0)) = .lit (.int .i64 (lOf (fnd (fun j => sameT v6 hi lo pr po (l.getD j zVp)) n))) := by
  induction n with
  | zero => exact ⟨rfl, rfl⟩
  | succ n ih =>
    have ih := ih (fun j hj => hv j (by omega))
    have hn := hv n (by omega)
    show Maps.has ((tgt l n).put _ _) _ = oOf (if sameT v6 hi lo pr po (l.getD n zVp) = true then some n else fnd _ n) ∧ ((tgt l n).put _ _).atKey _ _ = _
    rw [show fnd (fun j => sameT v6 hi lo pr po (l.getD j zVp)) (n + 1) = if sameT v6 hi lo pr po (l.getD n zVp) = true then some n else fnd (fun j => sameT v6 hi lo pr po (l.getD j zVp)) n from rfl]
    by_cases hs : sameT v6 hi lo pr po (l.getD n zVp) = true
    · rw [if_pos hs]
      unfold sameT at hs
      simp only [Bool.and_eq_true, beq_iff_eq] at hs
      obtain ⟨⟨⟨⟨rfl, rfl⟩, rfl⟩, rfl⟩, rfl⟩ := hs
      exact ⟨has_put_same (map_tgt l n) (isT _ _ _ _ _) _, atKey_put_same (map_tgt l n) (isT _ _ _ _ _) _ _⟩
    · rw [if_neg hs]
      have hne : kT v6 hi lo pr po ≠ kT (l.getD n zVp).v6 (l.getD n zVp).hi (l.getD n zVp).lo (l.getD n zVp).pr (l.getD n zVp).po := by
        intro e
        obtain ⟨a, b, c, d, f⟩ := kT_inj h1 h2 h3 h4 hn.hi hn.lo hn.pr hn.po e
        apply hs
        unfold sameT
        rw [a, b, c, d, f]
        simp
      rw [has_put_other hne, atKey_put_other hne]
      exact ih
theorem our_look (l : List Vp) (v6 : Bool) (hi lo : Int) (h1 : (Lit.int .u64 hi).wf = true) (h2 : (Lit.int .u64 lo).wf = true) (n : Nat) (hv : ∀ j, j < n → VpIn (l.getD j zVp)) :
    Maps.has (our l n) (kA v6 hi lo) = oOf (fnd (fun j => sameA v6 hi lo (l.getD j zVp)) n) := by
  induction n with
  | zero => rfl
  | succ n ih =>
    have ih := ih (fun j hj => hv j (by omega))
    have hn := hv n (by omega)
    show Maps.has ((our l n).put _ _) _ = oOf (if sameA v6 hi lo (l.getD n zVp) = true then some n else fnd _ n)
    by_cases hs : sameA v6 hi lo (l.getD n zVp) = true
    · rw [if_pos hs]
      unfold sameA at hs
      simp only [Bool.and_eq_true, beq_iff_eq] at hs
      obtain ⟨⟨rfl, rfl⟩, rfl⟩ := hs
      exact has_put_same (map_our l n) (isA _ _ _) _
    · rw [if_neg hs]
      have hne : kA v6 hi lo ≠ kA (l.getD n zVp).v6 (l.getD n zVp).hi (l.getD n zVp).lo := by
        intro e
        obtain ⟨a, b, c⟩ := kA_inj h1 h2 hn.hi hn.lo e
        apply hs
        unfold sameA
        rw [a, b, c]
        simp
      rw [has_put_other hne]
      exact ih
theorem fnd_lt {h : Nat → Bool} {n j : Nat} (e : fnd h n = some j) : j < n ∧ h j = true := by
  induction n with
  | zero => cases e
  | succ n ih =>
    unfold fnd at e
    by_cases hn : h n = true
    · rw [if_pos hn] at e
      injection e with e
      subst e
      exact ⟨by omega, hn⟩
    · rw [if_neg hn] at e
      have := ih e
      exact ⟨by omega, this.2⟩
theorem zero_i (W : World) : (zeroValue 3).run Try.prog W = .ok (.int .i64 0) W := by kernel_rfl
theorem zero_u (W : World) : (zeroValue 99).run Try.prog W = .ok (.agg #[]) W := by kernel_rfl
/-- A look-up of a place. -/
theorem look_t {W : World} {mb n : Nat} {l : List Vp} (h : W.ownsMap Try.prog 98 (plainElem Try.prog 3) mb n (tgt l n)) (hv : ∀ j, j < n → VpIn (l.getD j zVp)) (v6 : Bool) (hi lo pr po : Int) (h1 : (Lit.int .u64 hi).wf = true) (h2 : (Lit.int .u64 lo).wf = true) (h3 : (Lit.int .i64 pr).wf = true) (h4 : (Lit.int .i64 po).wf = true) :
    (Instr.lookup 67 (.map (some mb)) (.agg #[.bool v6, .int .u64 hi, .int .u64 lo, .int .i64 pr, .int .i64 po]) true).run Try.prog W = .ok (.tuple #[.int .i64 (lOf (fnd (fun j => sameT v6 hi lo pr po (l.getD j zVp)) n)), .bool (oOf (fnd (fun j => sameT v6 hi lo pr po (l.getD j zVp)) n))]) W := by
  have q := tgt_look l v6 hi lo pr po h1 h2 h3 h4 n hv
  obtain ⟨v, ps, hrun, hR⟩ := h.look_ok (Keyed.of_law lawT) Try.underlying67 (zero_i W) (plainElem_int Try.underlying3 (by decide)) (keyT_of v6 hi lo pr po h1 h2 h3 h4)
  obtain ⟨a, rfl, hz, _⟩ := plainElem_int_inv Try.underlying3 hR
  have hz2 := (Lit.int.inj (DataW.lit.inj (q.2.symm.trans (congrArg Prod.fst hz)))).2
  rw [hrun, q.1, hz2]
theorem look_u {W : World} {ob n : Nat} {l : List Vp} (h : W.ownsMap Try.prog 27 unitElem ob n (our l n)) (hv : ∀ j, j < n → VpIn (l.getD j zVp)) (v6 : Bool) (hi lo : Int) (h1 : (Lit.int .u64 hi).wf = true) (h2 : (Lit.int .u64 lo).wf = true) :
    (Instr.lookup 68 (.map (some ob)) (.agg #[.bool v6, .int .u64 hi, .int .u64 lo]) true).run Try.prog W = .ok (.tuple #[.agg #[], .bool (oOf (fnd (fun j => sameA v6 hi lo (l.getD j zVp)) n))]) W := by
  have q := our_look l v6 hi lo h1 h2 n hv
  obtain ⟨v, ps, hrun, hR⟩ := h.look_ok (Keyed.of_law lawA) Try.underlying68 (zero_u W) unitElem_mk (keyA_of v6 hi lo h1 h2)
  obtain ⟨rfl, _⟩ := unitElem_inv hR
  rw [hrun, q]
end Go.Proofs.Ytamndmlaikgogaa.vpH
