/- Layer 27: a new table. -/
import Derived.Test.YtboknpkcpeoebaaFlowX
import Derived.Test.YtboknpkcpeoebaaRingC
namespace Go.Proofs.Ytboknpkcpeoebaa.flowY
open Go.ChangeShapes Go.WideShapes Go.ChangeAt Go.RowKit
open Go.Proofs.Ytboknpkcpeoebaa.base Go.Proofs.Ytboknpkcpeoebaa.flowA Go.Proofs.Ytboknpkcpeoebaa.flowB Go.Proofs.Ytboknpkcpeoebaa.flowC Go.Proofs.Ytboknpkcpeoebaa.flowD Go.Proofs.Ytboknpkcpeoebaa.flowE Go.Proofs.Ytboknpkcpeoebaa.flowF Go.Proofs.Ytboknpkcpeoebaa.flowG Go.Proofs.Ytboknpkcpeoebaa.flowH Go.Proofs.Ytboknpkcpeoebaa.flowI Go.Proofs.Ytboknpkcpeoebaa.flowL Go.Proofs.Ytboknpkcpeoebaa.flowM Go.Proofs.Ytboknpkcpeoebaa.flowN Go.Proofs.Ytboknpkcpeoebaa.flowO Go.Proofs.Ytboknpkcpeoebaa.flowP Go.Proofs.Ytboknpkcpeoebaa.flowQ Go.Proofs.Ytboknpkcpeoebaa.flowR Go.Proofs.Ytboknpkcpeoebaa.flowS Go.Proofs.Ytboknpkcpeoebaa.flowT Go.Proofs.Ytboknpkcpeoebaa.flowU Go.Proofs.Ytboknpkcpeoebaa.flowV Go.Proofs.Ytboknpkcpeoebaa.flowW Go.Proofs.Ytboknpkcpeoebaa.flowX
set_option linter.unusedVariables false

theorem new_bad (m seed : Int) (w : World) (h : m < 1 ∨ 4096 < m) : Calls Try.prog 36 #[.int .i64 m, .int .u64 seed] w fun o w' => o = .returned (.tuple #[.pointer none, .int .i64 1]) ∧ Below w.heap.size w w' := by
  have HB := Lib.hid (Below.refl w.heap.size w)
  by_cases h1 : m < 1
  · have q1 : decide (m < 1) = true := decide_eq_true h1
    clear h
    go_enter Try.func36, Try.ntmps36
    go_wp2_with fail
    refine bodyPost_ret (results_tmp2 rfl _ _ _) rfl ?_
    first | exact ⟨rfl, HB.out⟩ | exact ⟨rfl, HB.out.drew⟩
  · have q1 : decide (m < 1) = false := decide_eq_false h1
    have h2 : 4096 < m := by omega
    have q2 : decide (4096 < m) = true := decide_eq_true h2
    clear h
    go_enter Try.func36, Try.ntmps36
    go_wp2_with fail
    refine bodyPost_ret (results_tmp2 rfl _ _ _) rfl ?_
    first | exact ⟨rfl, HB.out⟩ | exact ⟨rfl, HB.out.drew⟩
theorem new_good (n : Nat) (seed : Int) (w : World) (hn : 1 ≤ n) (hn2 : n ≤ 4096) : Calls Try.prog 36 #[.int .i64 n, .int .u64 seed] w fun o w' => ∃ ta r, o = .returned (.tuple #[.pointer (some ⟨ta, 0, none⟩), .int .i64 0]) ∧ Tab w' ta r (.slice none 0 0) n seed [] ∧ w.heap.size ≤ ta ∧ w.heap.size ≤ r ∧ Below w.heap.size w w' := by
  have q1 : decide ((n : Int) < 1) = false := decide_eq_false (by omega)
  have q2 : decide ((4096 : Int) < n) = false := decide_eq_false (by omega)
  have hrep := ringC.repeat_any w.heap.size 0 1 (-1) n (w.alloc (.cells #[.int .i64 (-1)] 3)) ((Blk.new w 3 #[.int .i64 (-1)]).cell 0) hn (by omega)
  have HR := Lib.hid hrep
  have HA := Lib.hid ((Below.refl w.heap.size w).alloc (Nat.le_refl _) (.cells #[.int .i64 (-1)] 3))
  clear hrep
  go_enter Try.func36, Try.ntmps36
  go_wp2_with fail
  refine HR.out.mono ?_
  rintro o w2 ⟨he, hr2, hb2⟩
  obtain ⟨g, hg⟩ : ∃ g, g = (w.alloc (.cells #[.int .i64 (-1)] 3)).heap.size := ⟨_, rfl⟩
  rw [← hg] at hr2 he
  subst he
  have hgl := hr2.lt
  have hgw : w.heap.size ≤ g := by rw [hg]; simp
  have hbw : Below w.heap.size w w2 := HA.out.trans (hb2.mono HA.out.size)
  have HBW := Lib.hid (hbw.alloc hbw.size (.cells #[.int .i64 n, .int .u64 seed, .int .i64 0, .slice none 0 0, .slice (some ⟨g, 0, none⟩) n n, .int .i64 (-1), .int .i64 (-1), .int .i64 (-1)] 96))
  have hsz : w.heap.size ≤ w2.heap.size := hbw.size
  have HT := Lib.hid (show Tab (w2.alloc (.cells #[.int .i64 n, .int .u64 seed, .int .i64 0, .slice none 0 0, .slice (some ⟨g, 0, none⟩) n n, .int .i64 (-1), .int .i64 (-1), .int .i64 (-1)] 96)) w2.heap.size g (.slice none 0 0) n seed [] from by
    refine ⟨⟨0, 0, fun _ => zeroE, fun _ => 0, fun _ => 0, fun _ => 0, fun _ => -1, -1, -1, -1⟩, [], [], fun _ => [], ⟨Blk.new w2 _ _, ⟨_, (hr2.alloc _), ?_⟩, .inl ⟨rfl, rfl⟩, by omega⟩, good_new n n Ent.x (rowN n seed) (fun x => (row_in n seed x hn).2) _ _ _ _, rfl⟩
    refine ⟨by rw [List.size_toArray, ringC.rep_len _ _ _ (Nat.le_refl _)], fun i hi => ?_⟩
    have := ringC.rep_get (-1) n n i hi
    simpa using this)
  clear hr2 hb2 hg hbw
  go_wp2_with fail
  refine bodyPost_ret (results_tmp2 rfl _ _ _) rfl ?_
  exact ⟨_, _, rfl, HT.out, hsz, hgw, HBW.out⟩
end Go.Proofs.Ytboknpkcpeoebaa.flowY
