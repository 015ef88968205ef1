/- Layer 7: bytes that came in, cut. -/
import Derived.Test.YthbmgeggnkeejaaOctD
namespace Go.Proofs.Ythbmgeggnkeejaa.octJ
open Go.ChangeShapes Go.WideShapes Go.ChangeAt Go.RowKit
open Go.Proofs.Ythbmgeggnkeejaa.base Go.Proofs.Ythbmgeggnkeejaa.octD
set_option linter.unusedVariables false
theorem none_cap {k : IntKind} {w : World} {a : Option Addr} {len cap : Nat} {zs : List Int}
    (h : (a = none ∧ len = 0 ∧ cap = 0 ∧ zs = []) ∨ ∃ x, a = some x ∧ len ≤ cap ∧ cap ≤ maxLen ∧ zs.length = cap ∧ (∀ i, i < zs.length → w.cell? (x.add i) = some (.int k (zs.getD i 0))) ∧ ∀ n ∈ zs, (Lit.int k n).wf = true) : a = none → cap = 0 := by
  rcases h with ⟨_, _, h, _⟩ | ⟨x, rfl, _⟩
  · exact fun _ => h
  · intro h; cases h
theorem cut_arg {w : World} {B : Nat} {A : Option Addr} {n c : Nat} {l : List Int} (hl : l.length = n) (hr : Row w B A (l.map (.int .u8))) (hnc : n ≤ c) (hc : c ≤ 9223372036854775807) :
    (l.take (min n 100)).length = min n 100 ∧ Row w B A ((l.take (min n 100)).map (.int .u8)) ∧
      Hid (∀ w : World, Calls Try.prog 15 #[.slice A n c] w fun e w' => e = .returned (.slice A (min n 100 : Nat) c) ∧ w = w') := by
  refine ⟨by rw [List.length_take]; omega, ?_, Lib.hid fun w => ?_⟩
  · have := hr.take (min n 100)
    rwa [← List.map_take] at this
  · refine cut_any A n c w hnc hc (fun x hx h => ?_) (fun h => ?_)
    · rcases hr with h0 | ⟨b, off, hA, _⟩
      · have := congrArg List.length h0; simp at this; rw [this] at hl; simp at hl; omega
      · rw [hx] at hA; injection hA with hA; exact ⟨b, off, hA⟩
    · rcases hr with h0 | ⟨b, off, hA, _⟩
      · have := congrArg List.length h0; simp at this; rw [this] at hl; simpa using hl.symm
      · rw [h] at hA; cases hA
theorem take_u8 {l : List Int} {m : Nat} (h : ∀ x ∈ l, (Lit.int .u8 x).wf = true) : ∀ x ∈ l.take m, 0 ≤ x ∧ x ≤ 255 := fun x hx => bounds_u8 (h x (List.mem_of_mem_take hx))
end Go.Proofs.Ythbmgeggnkeejaa.octJ
