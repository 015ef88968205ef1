/- Layer 28: begin, run, the law on states. -/
import Derived.Test.YtboknpkcpeoebaaConnA
import Derived.Test.YtboknpkcpeoebaaKeep
namespace Go.Proofs.Ytboknpkcpeoebaa.connB
open Go.ChangeShapes Go.WideShapes Go.ChangeAt Go.RowKit
open Go.Proofs.Ytboknpkcpeoebaa.base Go.Proofs.Ytboknpkcpeoebaa.connA
set_option linter.unusedVariables false

theorem begin_any (p f : Int) (w : World) :
    Calls Try.prog 22 #[.int .i64 p, .int .i64 f] w fun e w' => e = .returned (.int .i64 (beginZ p f)) ∧ Below w.heap.size w w' := by
  by_cases h : p = 6
  · have hv : beginZ p f = nextZ 2 f := by simp [beginZ, h]
    have t : (p != 6) = false := by simp [h]
    rw [hv]
    clear hv h
    go_enter Try.func22, Try.ntmps22
    go_wp2_with fail
    refine (next_any _ _ _).mono ?_
    rintro e w1 ⟨rfl, hb⟩
    go_wp2_with fail
    go_ret
    exact ⟨rfl, hb⟩
  · have hv : beginZ p f = 5 := by simp [beginZ, h]
    have t : (p != 6) = true := by simp [h]
    rw [hv]
    clear hv h
    go_enter Try.func22, Try.ntmps22
    go_wp2
    go_ret
    exact ⟨rfl, Below.refl _ _⟩
def runZ (p : Int) : List Int → Int
  | [] => 0
  | f :: r => r.foldl nextZ (beginZ p f)
theorem runZ_one (p f : Int) : runZ p [f] = beginZ p f := rfl
theorem runZ_snoc (p : Int) (l : List Int) (f : Int) (h : 0 < l.length) : runZ p (l ++ [f]) = nextZ (runZ p l) f := by
  cases l with
  | nil => simp at h
  | cons a r => simp [runZ]
theorem take_snoc (l : List Int) (k : Nat) (h : k < l.length) : l.take (k + 1) = l.take k ++ [l[k]] := List.take_succ_eq_append_getElem h

end Go.Proofs.Ytboknpkcpeoebaa.connB
