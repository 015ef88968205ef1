/- Layer 23: the chapter's example; the law of EligWeighs. -/
import Derived.Test.YtlihgiannfpjfaaEliC
import Derived.Test.YtlihgiannfpjfaaTreN
namespace Go.Proofs.Ytlihgiannfpjfaa.eliD
open Go.ChangeShapes Go.WideShapes Go.ChangeAt Go.RowKit
open Go.Proofs.Ytlihgiannfpjfaa.base Go.Proofs.Ytlihgiannfpjfaa.dfA Go.Proofs.Ytlihgiannfpjfaa.treA Go.Proofs.Ytlihgiannfpjfaa.treB Go.Proofs.Ytlihgiannfpjfaa.treC Go.Proofs.Ytlihgiannfpjfaa.treD Go.Proofs.Ytlihgiannfpjfaa.treE Go.Proofs.Ytlihgiannfpjfaa.treG Go.Proofs.Ytlihgiannfpjfaa.treH Go.Proofs.Ytlihgiannfpjfaa.treI Go.Proofs.Ytlihgiannfpjfaa.treM Go.Proofs.Ytlihgiannfpjfaa.treN Go.Proofs.Ytlihgiannfpjfaa.treW Go.Proofs.Ytlihgiannfpjfaa.treP Go.Proofs.Ytlihgiannfpjfaa.eliW Go.Proofs.Ytlihgiannfpjfaa.eliA Go.Proofs.Ytlihgiannfpjfaa.eliB Go.Proofs.Ytlihgiannfpjfaa.eliC
set_option linter.unusedVariables false

def ex0 : Nd := ⟨⟨#[108]⟩, 1, -1, 0, false, 0, 0⟩
def ex1 : Nd := ⟨⟨#[122]⟩, 2, 0, 9, false, 0, 0⟩
def ex2 : Nd := ⟨⟨#[114]⟩, 3, 1, 0, false, 0, 0⟩
def ex3 : Nd := ⟨⟨#[104]⟩, 4, 2, 5, false, 0, 0⟩
def exL : List Nd := [ex0, ex1, ex2, ex3]
theorem ex_good : GoodTo exL exL.length := fun j hj _ => by
  have hj4 : j < 4 := hj
  have hc : j = 0 ∨ j = 1 ∨ j = 2 ∨ j = 3 := by omega
  rcases hc with rfl | rfl | rfl | rfl
  · exact (show whyF [] ex0 = 0 by kernel_rfl)
  · exact (show whyF [ex0] ex1 = 0 by kernel_rfl)
  · exact (show whyF [ex0, ex1] ex2 = 0 by kernel_rfl)
  · exact (show whyF [ex0, ex1, ex2] ex3 = 0 by kernel_rfl)
theorem ex_w0 : wtOf exL (F exL []) 1 = 0 := by kernel_rfl
theorem ex_w1 : wtOf exL (F exL [3]) 1 = 9 := by kernel_rfl
theorem ex_w2 : wtOf exL (F exL [3]) 2 = 5 := by kernel_rfl
theorem ex_w3 : (wtOf exL (F exL [3]) 0 != 0) = true := by kernel_rfl
set_option maxHeartbeats 4000000 in
theorem awake_any (w : World) : Calls Try.prog 16 #[] w fun o w' => o = .returned (.bool true) ∧ Below w.heap.size w w' := by
  obtain ⟨w1, hw1⟩ : ∃ w1, w1 = w.alloc (.cells (ex0.cells ++ ex1.cells ++ ex2.cells ++ ex3.cells) 44) := ⟨_, rfl⟩
  have HW := Lib.hid (show Below w.heap.size w w1 from hw1 ▸ (Below.refl w.heap.size w).alloc (Nat.le_refl _) _)
  have hb : Blk w1 w.heap.size 44 (ex0.cells ++ ex1.cells ++ ex2.cells ++ ex3.cells) := hw1 ▸ Blk.new w _ _
  have hr : RdN w1 (some ⟨w.heap.size, 0, none⟩) exL := .inr ⟨w.heap.size, 0, rfl, hb.lt, fun j hj i hi => by
    have hj4 : j < 4 := hj
    rw [hb.cell]
    have hc : (j = 0 ∨ j = 1 ∨ j = 2 ∨ j = 3) ∧ (i = 0 ∨ i = 1 ∨ i = 2 ∨ i = 3 ∨ i = 4 ∨ i = 5 ∨ i = 6) := by omega
    rcases hc with ⟨rfl | rfl | rfl | rfl, rfl | rfl | rfl | rfl | rfl | rfl | rfl⟩ <;> rfl⟩
  have HN := Lib.hid (treI.new_any (some ⟨w.heap.size, 0, none⟩) 4 exL w1 hr (by decide) (by decide) (by decide) (fun j hj => by
    have hj4 : j < 4 := hj
    have hc : j = 0 ∨ j = 1 ∨ j = 2 ∨ j = 3 := by omega
    rcases hc with rfl | rfl | rfl | rfl <;> exact (show (1 : Nat) ≤ 9223372036854775807 by omega)))
  have HW1 := Lib.hid hw1
  clear hw1 hb hr
  go_enter Try.func16, Try.ntmps16
  go_wp2_with fail
  rw [show w.alloc (.cells #[.string ⟨#[108]⟩, .int .i64 1, .int .i64 (-1), .int .i64 0, .bool false, .int .u64 0, .int .u64 0, .string ⟨#[122]⟩, .int .i64 2, .int .i64 0, .int .i64 9, .bool false, .int .u64 0, .int .u64 0, .string ⟨#[114]⟩, .int .i64 3, .int .i64 1, .int .i64 0, .bool false, .int .u64 0, .int .u64 0, .string ⟨#[104]⟩, .int .i64 4, .int .i64 2, .int .i64 5, .bool false, .int .u64 0, .int .u64 0] 44) = w1 from HW1.out.symm]
  refine HN.out.mono ?_
  rintro o w2 ⟨hp, hb2⟩
  have B2 := Lib.hid (HW.out.trans (hb2.mono HW.out.size))
  rcases hp with ⟨i, hi, _, hbad, rfl⟩ | ⟨hg, nv, kv, ks, rfl, hgr⟩
  · exact absurd (ex_good i hi hi) hbad
  · have HT := Lib.hid (show TreeOk w2 w1.heap.size exL from ⟨⟨nv, kv, ks, hgr⟩, hg, by decide⟩)
    have HA := Lib.hid (eliA.new_any HT.out (by decide) none 0 [] (.inl rfl) (by decide) (by decide) (by omega))
    clear hg hgr hb2
    go_wp2_with fail
    refine HA.out.mono ?_
    rintro o w3 ⟨rfl, hs3, hz3⟩
    have B3 := Lib.hid (B2.out.trans (hs3.bel.mono B2.out.size))
    have S3 := Lib.hid (setOk_of hs3 HT.out)
    obtain ⟨w4, hw4⟩ : ∃ w4, w4 = w3.alloc (.cells #[.int .i64 3] 3) := ⟨_, rfl⟩
    have BA := Lib.hid (show Below w3.heap.size w3 w4 from hw4 ▸ (Below.refl w3.heap.size w3).alloc (Nat.le_refl _) _)
    have HK := Lib.hid (show Blk w4 w3.heap.size 3 #[.int .i64 3] from hw4 ▸ Blk.new w3 _ _)
    have HW4 := Lib.hid (show w3.alloc (.cells #[.int .i64 3] 3) = w4 from hw4.symm)
    have S4 := Lib.hid (S3.out.below BA.out)
    have HB := Lib.hid (eliA.new_any S4.out.tree (by decide) (some ⟨w3.heap.size, 0, none⟩) 1 [3] (.inr ⟨w3.heap.size, 0, rfl, HK.out.lt, fun j x hx => by
      rw [Nat.zero_add, HK.out.cell j]
      have hj : j = 0 := by have := (List.getElem?_eq_some_iff.mp hx).1; simpa using this
      subst hj
      simp at hx
      subst hx
      rfl⟩) (by decide) (by decide) (by omega))
    clear hs3 hz3 hw4
    go_wp2_with fail
    rw [HW4.out]
    refine HB.out.mono ?_
    rintro o w5 ⟨rfl, hs5, hz5⟩
    have B5 := Lib.hid ((B3.out.trans (BA.out.mono B3.out.size)).trans (hs5.bel.mono (B3.out.trans (BA.out.mono B3.out.size)).size))
    have S5 := Lib.hid (S4.out.below hs5.bel)
    have U5 := Lib.hid (setOk_of hs5 S4.out.tree)
    have X1 := Lib.hid (weight_x S5.out 1)
    rw [ex_w0] at X1
    clear hs5 hz5
    go_wp2_with fail
    refine X1.out.mono ?_
    rintro o w6 ⟨rfl, q, rfl⟩
    have X2 := Lib.hid (weight_x (U5.out.below (below_n _ q)) 1)
    rw [ex_w1] at X2
    have B6 := Lib.hid (B5.out.trans ((below_n w5 q).mono B5.out.size))
    have U6 := Lib.hid (U5.out.below (below_n w5 q))
    obtain ⟨w6, hw6⟩ : ∃ w6, w6 = w5.drewN q := ⟨_, rfl⟩
    rw [← hw6] at X2 B6 U6 ⊢
    clear hw6
    go_wp2_with fail
    refine X2.out.mono ?_
    rintro o w7 ⟨rfl, q2, rfl⟩
    have X3 := Lib.hid (weight_x (U6.out.below (below_n _ q2)) 2)
    rw [ex_w2] at X3
    have B7 := Lib.hid (B6.out.trans ((below_n w6 q2).mono B6.out.size))
    have U7 := Lib.hid (U6.out.below (below_n w6 q2))
    obtain ⟨w7, hw7⟩ : ∃ w7, w7 = w6.drewN q2 := ⟨_, rfl⟩
    rw [← hw7] at X3 B7 U7 ⊢
    clear hw7
    go_wp2_with fail
    refine X3.out.mono ?_
    rintro o w8 ⟨rfl, q3, rfl⟩
    have X4 := Lib.hid (has_x (U7.out.below (below_n _ q3)) 0)
    rw [ex_w3] at X4
    have B8 := Lib.hid (B7.out.trans ((below_n w7 q3).mono B7.out.size))
    obtain ⟨w8, hw8⟩ : ∃ w8, w8 = w7.drewN q3 := ⟨_, rfl⟩
    rw [← hw8] at X4 B8 ⊢
    clear hw8
    go_wp2_with fail
    refine X4.out.mono ?_
    rintro o w9 ⟨rfl, q4, rfl⟩
    go_wp2_with fail
    go_ret
    exact ⟨rfl, B8.out.trans ((below_n w8 q4).mono B8.out.size)⟩
end Go.Proofs.Ytlihgiannfpjfaa.eliD
