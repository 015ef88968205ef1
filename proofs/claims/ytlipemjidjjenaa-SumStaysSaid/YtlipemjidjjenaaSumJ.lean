/- Layer 4: bytes that came in, cut. -/
import Derived.Test.YtlipemjidjjenaaSumI
namespace Go.Proofs.Ytlipemjidjjenaa.sumJ
open Go.ChangeShapes Go.WideShapes Go.ChangeAt Go.RowKit
open Go.Proofs.Ytlipemjidjjenaa.base Go.Proofs.Ytlipemjidjjenaa.sumH Go.Proofs.Ytlipemjidjjenaa.sumI
set_option linter.unusedVariables false
theorem cut_arg {w : World} {A : Option Addr} {n c : Nat} {l : List Int} (hl : l.length = n) (hr : Row w w.heap.size A (l.map (.int .u8))) (hle : n ≤ c) (hc : c ≤ 9223372036854775807) :
    (l.take 400).length = min n 400 ∧ Row w w.heap.size A ((l.take 400).map (.int .u8)) ∧
      Hid (∀ w : World, Calls Try.prog 48 #[.slice A n c] w fun e w' => e = .returned (.slice A (min n 400 : Nat) c) ∧ w = w') := by
  refine ⟨by rw [List.length_take, hl, Nat.min_comm], by rw [List.map_take]; exact hr.take 400, Lib.hid fun w' => cut_any A n c w' hle hc ?_ ?_⟩
  · intro x hx hn
    obtain ⟨b, off, h, _⟩ := hr.at_ (by intro h; have h2 := congrArg List.length h; rw [List.length_map, hl, List.length_nil] at h2; omega)
    rw [h] at hx
    injection hx with hx
    exact ⟨b, off, hx.symm⟩
  · rintro rfl
    have h := row_none hr
    have h2 := congrArg List.length h
    rw [List.length_map, hl, List.length_nil] at h2
    exact h2
theorem take_u8 {l : List Int} (hw : ∀ x ∈ l, (Lit.int .u8 x).wf = true) : ∀ x ∈ l.take 400, 0 ≤ x ∧ x ≤ 255 := fun x hx => bounds_u8 (hw x (List.mem_of_mem_take hx))
theorem none_cap {k : IntKind} {w : World} {a : Option Addr} {len cap : Nat} {zs : List Int}
    (h : (a = none ∧ len = 0 ∧ cap = 0 ∧ zs = []) ∨ ∃ x, a = some x ∧ len ≤ cap ∧ cap ≤ maxLen ∧ zs.length = cap ∧ (∀ i, i < zs.length → w.cell? (x.add i) = some (.int k (zs.getD i 0))) ∧ ∀ n ∈ zs, (Lit.int k n).wf = true) : a = none → cap = 0 := by
  rintro rfl
  rcases h with ⟨_, _, h, _⟩ | ⟨x, h, _⟩
  · exact h
  · cases h
end Go.Proofs.Ytlipemjidjjenaa.sumJ
