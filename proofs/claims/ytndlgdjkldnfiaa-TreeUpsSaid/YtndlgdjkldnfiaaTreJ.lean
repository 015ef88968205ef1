/- Layer 16: the chapter's example. -/
import Derived.Test.YtndlgdjkldnfiaaTreI
namespace Go.Proofs.Ytndlgdjkldnfiaa.treJ
open Go.ChangeShapes Go.WideShapes Go.ChangeAt Go.RowKit
open Go.Proofs.Ytndlgdjkldnfiaa.base Go.Proofs.Ytndlgdjkldnfiaa.dfA Go.Proofs.Ytndlgdjkldnfiaa.treA Go.Proofs.Ytndlgdjkldnfiaa.treB Go.Proofs.Ytndlgdjkldnfiaa.treC Go.Proofs.Ytndlgdjkldnfiaa.treD Go.Proofs.Ytndlgdjkldnfiaa.treE Go.Proofs.Ytndlgdjkldnfiaa.treG Go.Proofs.Ytndlgdjkldnfiaa.treH Go.Proofs.Ytndlgdjkldnfiaa.treI
set_option linter.unusedVariables false

def ex0 : Nd := ⟨⟨#[108]⟩, 1, -1, 0, false, 0, 0⟩
def ex1 : Nd := ⟨⟨#[122]⟩, 2, 0, 0, false, 0, 0⟩
def ex2 : Nd := ⟨⟨#[104]⟩, 4, 1, 0, false, 0, 0⟩
theorem ex_0 : whyF [] ex0 = 0 := by kernel_rfl
theorem ex_1 : whyF [ex0] ex1 = 0 := by kernel_rfl
theorem ex_2 : whyF [ex0, ex1] ex2 = 16 := by kernel_rfl
/-- What New tells of the three. -/
theorem ex_post {w w' : World} {o : Ending} (h : NewPost [ex0, ex1, ex2] w o w') : o = .returned (.tuple #[.pointer none, .int .i64 2, .int .i64 16]) := by
  have h0 : whyF ([ex0, ex1, ex2].take 0) ex0 = 0 := ex_0
  have h1 : whyF ([ex0, ex1, ex2].take 1) ex1 = 0 := ex_1
  have h2 : whyF ([ex0, ex1, ex2].take 2) ex2 = 16 := ex_2
  rcases h with ⟨i, hi, hg, hb, rfl⟩ | ⟨hg, _⟩
  · have hi3 : i < 3 := hi
    have hc : i = 0 ∨ i = 1 ∨ i = 2 := by omega
    rcases hc with rfl | rfl | rfl
    · exact absurd h0 hb
    · exact absurd h1 hb
    · show Ending.returned (.tuple #[.pointer none, .int .i64 2, .int .i64 (whyF ([ex0, ex1, ex2].take 2) ex2)]) = _
      rw [h2]
  · have h3 : whyF ([ex0, ex1, ex2].take 2) ex2 = 0 := hg 2 (by decide) (by decide)
    rw [h2] at h3
    cases h3
set_option maxHeartbeats 4000000 in
theorem awake_any (w : World) : Calls Try.prog 12 #[] w fun o w' => o = .returned (.bool true) ∧ Below w.heap.size w w' := by
  obtain ⟨w1, hw1⟩ : ∃ w1, w1 = w.alloc (.cells (ex0.cells ++ ex1.cells ++ ex2.cells) 34) := ⟨_, rfl⟩
  have HW := Lib.hid (show Below w.heap.size w w1 from hw1 ▸ (Below.refl w.heap.size w).alloc (Nat.le_refl _) _)
  have hb : Blk w1 w.heap.size 34 (ex0.cells ++ ex1.cells ++ ex2.cells) := hw1 ▸ Blk.new w _ _
  have hr : RdN w1 (some ⟨w.heap.size, 0, none⟩) [ex0, ex1, ex2] := .inr ⟨w.heap.size, 0, rfl, hb.lt, fun j hj i hi => by
    have hj3 : j < 3 := hj
    rw [hb.cell]
    have hc : (j = 0 ∨ j = 1 ∨ j = 2) ∧ (i = 0 ∨ i = 1 ∨ i = 2 ∨ i = 3 ∨ i = 4 ∨ i = 5 ∨ i = 6) := by omega
    rcases hc with ⟨rfl | rfl | rfl, rfl | rfl | rfl | rfl | rfl | rfl | rfl⟩ <;> rfl⟩
  have HN := Lib.hid (new_any (some ⟨w.heap.size, 0, none⟩) 3 [ex0, ex1, ex2] w1 hr (by decide) (by decide) (by decide) (fun j hj => by
    have hj3 : j < 3 := hj
    have hc : j = 0 ∨ j = 1 ∨ j = 2 := by omega
    rcases hc with rfl | rfl | rfl <;> exact (show (1 : Nat) ≤ 9223372036854775807 by omega)))
  have HW1 := Lib.hid hw1
  clear hw1 hb hr
  go_enter Try.func12, Try.ntmps12
  go_wp2_with fail
  rw [show w.alloc (.cells #[.string ⟨#[108]⟩, .int .i64 1, .int .i64 (-1), .int .i64 0, .bool false, .int .u64 0, .int .u64 0, .string ⟨#[122]⟩, .int .i64 2, .int .i64 0, .int .i64 0, .bool false, .int .u64 0, .int .u64 0, .string ⟨#[104]⟩, .int .i64 4, .int .i64 1, .int .i64 0, .bool false, .int .u64 0, .int .u64 0] 34) = w1 from HW1.out.symm]
  refine HN.out.mono ?_
  rintro o w2 ⟨hp, hb2⟩
  obtain rfl := ex_post hp
  have B2 := Lib.hid (HW.out.trans (hb2.mono HW.out.size))
  clear hp hb2
  go_wp2_with fail
  go_ret
  exact ⟨rfl, B2.out⟩
end Go.Proofs.Ytndlgdjkldnfiaa.treJ
