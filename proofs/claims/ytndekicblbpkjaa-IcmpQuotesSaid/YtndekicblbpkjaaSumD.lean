/- Layer 4: checks turned by words, and the words of a number. -/
import Derived.Test.YtndekicblbpkjaaSumC
import Derived.Test.YtndekicblbpkjaaQuiet
namespace Go.Proofs.Ytndekicblbpkjaa.sumD
open Go.ChangeShapes Go.WideShapes Go.ChangeAt Go.RowKit
open Go.Proofs.Ytndekicblbpkjaa.base Go.Proofs.Ytndekicblbpkjaa.sumA Go.Proofs.Ytndekicblbpkjaa.sumB Go.Proofs.Ytndekicblbpkjaa.sumC
set_option linter.unusedVariables false

def turn (c f t : Int) : Int := 65535 - fo (65535 - c + (65535 - f) + t)
def turns (c : Int) : List Int → List Int → Int
  | f :: fs, t :: ts => turns (turn c f t) fs ts
  | _, _ => c
theorem turn_bd (c f t : Int) (a1 : c ≤ 65535) (b1 : f ≤ 65535) (c0 : 0 ≤ t) : 0 ≤ turn c f t ∧ turn c f t ≤ 65535 := by
  have := fo_bd (65535 - c + (65535 - f) + t) (by omega)
  unfold turn; omega
theorem turns_snoc : ∀ (fs ts : List Int) (c f t : Int), fs.length = ts.length → turns c (fs ++ [f]) (ts ++ [t]) = turn (turns c fs ts) f t
  | [], [], c, f, t, _ => rfl
  | f' :: fs, t' :: ts, c, f, t, h => by
    simp only [List.cons_append, turns]
    exact turns_snoc fs ts _ f t (by simpa using h)
  | [], _ :: _, _, _, _, h => by simp at h
  | _ :: _, [], _, _, _, h => by simp at h
theorem turns_min : ∀ (fs ts : List Int) (c : Int), turns c (fs.take (min fs.length ts.length)) (ts.take (min fs.length ts.length)) = turns c fs ts
  | [], _, c => by simp [turns]
  | f :: fs, [], c => by simp [turns]
  | f :: fs, t :: ts, c => by
    have e : min (f :: fs).length (t :: ts).length = min fs.length ts.length + 1 := by simp only [List.length_cons]; omega
    rw [e]
    simp only [List.take_succ_cons, turns]
    exact turns_min fs ts _
theorem take_snoc {α : Type} (l : List α) (k : Nat) (h : k < l.length) : l.take (k + 1) = l.take k ++ [l[k]] := by
  rw [List.take_succ_eq_append_getElem h]

end Go.Proofs.Ytndekicblbpkjaa.sumD
