/- Layer 8: bytes from a place on, wherever the capacity ends. -/
import Derived.Test.YtgikoljnmmnkkaaFourG
namespace Go.Proofs.Ytgikoljnmmnkkaa.fourY0
open Go.ChangeShapes Go.WideShapes Go.ChangeAt Go.RowKit
open Go.Proofs.Ytgikoljnmmnkkaa.base Go.Proofs.Ytgikoljnmmnkkaa.sumC Go.Proofs.Ytgikoljnmmnkkaa.octE Go.Proofs.Ytgikoljnmmnkkaa.rdrA
set_option linter.unusedVariables false

theorem slice_from (b off n c s : Nat) (hs : s ≤ n) (hnc : n ≤ c) : ∃ AX : Option Addr,
    (∀ W : World, (Instr.slice 22 (.slice (some ⟨b, off, none⟩) n c) (some (.int .i64 (s : Int))) none none).run Try.prog W = .ok (.slice AX (n - s) (c - s)) W) ∧
    (∀ W : World, (Instr.sliceAt 22 (.slice (some ⟨b, off, none⟩) n c) (some (.int .i64 (s : Int))) none none).run Try.prog W = .ok (.slice AX (n - s) (c - s)) W) ∧
    ∀ (w : World) (B : Nat) (l : List Int), b < B → l.length = n → Lies w b off l → Row w B AX ((l.drop s).map (.int .u8)) := by
  have hu : Try.prog.underlying 22 = some (.slice (Try.prog.elem 22)) := by kernel_rfl
  have hz : ∀ W : World, (sizeOf (Try.prog.elem 22)).run Try.prog W = .ok 1 W := fun _ => by kernel_rfl
  have key : ∀ W : World, (Instr.slice 22 (.slice (some ⟨b, off, none⟩) n c) (some (.int .i64 (s : Int))) none none).run Try.prog W = .ok (.slice (if c = s then some ⟨b, off, none⟩ else some ⟨b, off + s, none⟩) (n - s) (c - s)) W := by
    intro W
    rw [run_slice_l W 22 (some ⟨b, off, none⟩) n c hu .i64 (s : Int) (by omega) (by omega), hz]
    simp only [Result.andThen, sliced, Int.toNat_natCast, Nat.mul_one, Option.map_some, Addr.add_lit]
  refine ⟨if c = s then some ⟨b, off, none⟩ else some ⟨b, off + s, none⟩, key, fun W => ?_, ?_⟩
  · rw [run_sliceAt_slice W 22 _ _ _ _ hu, key]
  · intro w B l hb hl hL
    by_cases e : c = s
    · have : l.drop s = [] := List.drop_eq_nil_of_le (by omega)
      rw [this]
      exact .inl rfl
    · rw [if_neg e]
      exact (hL.drop s).row hb
end Go.Proofs.Ytgikoljnmmnkkaa.fourY0
