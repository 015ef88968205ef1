/- A sum that came in. -/
import Derived.Test.YtpgodmcpdgbhaaaCountD
import Derived.Test.YtpgodmcpdgbhaaaLeaf
namespace Go.Proofs.Ytpgodmcpdgbhaaa.base
open Go.RowKit Go.WideShapes Go.ChangeShapes Go.Joins Go.Deep
set_option linter.unusedVariables false
section
variable {H : Type} {enc : TypeId × Value → H} {w : World} {base b0 : Nat} {spare : Nat → Bool} {held : Bool}
theorem leaves_ints {P : Program} {k : IntKind} : ∀ (n : Nat) (cs : List Value), Leaves enc P w base spare held (List.replicate n (.int k)) cs → cs.length = n ∧ ∃ f : Nat → Int, ∀ i, i < n → cs[i]? = some (.int k (f i)) ∧ (Lit.int k (f i)).wf = true
  | 0, cs, h => by
    simp only [List.replicate, Leaves] at h
    subst h
    exact ⟨rfl, fun _ => 0, fun i hi => absurd hi (by omega)⟩
  | n + 1, cs, h => by
    obtain ⟨c, cs', rfl, ⟨x, rfl, hx⟩, h2⟩ := h
    obtain ⟨hl, f, hf⟩ := leaves_ints n cs' h2
    refine ⟨by simp [hl], fun i => match i with | 0 => x | i + 1 => f i, fun i hi => ?_⟩
    match i, hi with
    | 0, _ => exact ⟨rfl, hx⟩
    | i + 1, hi => exact hf i (by omega)
theorem sum_leafs : leafs Try.prog 4 24 = some (List.replicate 29 (.int .i64)) := by kernel_rfl
theorem open_sum {r : Reach} {v : Value} {d : DataW H} {p : List MemPlace} (hv : Value.okWide Try.prog w r b0 24 v) (h : DataW.Trod enc Try.prog w base spare held 24 v d p) :
    ∃ (cs : Array Value) (f : Nat → Int), v = .agg cs ∧ Go.Proofs.Ytpgodmcpdgbhaaa.countC.At cs f ∧ ∀ i, i < 29 → (Lit.int .i64 (f i)).wf = true := by
  obtain ⟨cs, rfl, hl⟩ := open_leaves 4 _ Try.underlying24 sum_leafs hv h
  obtain ⟨h1, f, h2⟩ := leaves_ints 29 cs hl
  exact ⟨cs.toArray, f, rfl, ⟨by simpa using h1, fun i hi => by simpa using (h2 i hi).1⟩, fun i hi => (h2 i hi).2⟩
end
end Go.Proofs.Ytpgodmcpdgbhaaa.base
