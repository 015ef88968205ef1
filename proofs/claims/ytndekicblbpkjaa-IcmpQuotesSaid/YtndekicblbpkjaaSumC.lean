/- Layer 4: checks, and the law on sums of two words. -/
import Derived.Test.YtndekicblbpkjaaSumB
import Derived.Test.YtndekicblbpkjaaKeep
namespace Go.Proofs.Ytndekicblbpkjaa.sumC
open Go.ChangeShapes Go.WideShapes Go.ChangeAt Go.RowKit
open Go.Proofs.Ytndekicblbpkjaa.base Go.Proofs.Ytndekicblbpkjaa.sumA Go.Proofs.Ytndekicblbpkjaa.sumB
set_option linter.unusedVariables false

theorem row_blk {w : World} {g : Nat} {t : TypeId} {cs : Array Value} (h : Blk w g t cs) : Row w w.heap.size (some ⟨g, 0, none⟩) cs.toList :=
  .inr ⟨g, 0, rfl, h.lt, fun i u hu => by rw [Nat.zero_add, h.cell i]; simpa using hu⟩

theorem check_any (A : Option Addr) (n c : Nat) (ps : List Part) (w : World) (B : Nat) (hn : ps.length = n) (hn2 : n ≤ 1000) (hlen : (flat ps).length ≤ 1099511627776)
    (hr : Row w B A (ps.map Part.val)) (hp : ∀ p ∈ ps, p.ok w B) :
    Calls Try.prog 94 #[.slice A n c] w fun e w' => e = .returned (.int .u16 (65535 - fo (wsum (flat ps)))) ∧ w = w' := by
  have H := Lib.hid (of_any A n c ps w B hn hn2 hlen hr hp)
  have b := fo_bd (wsum (flat ps)) (wsum_bd _ (flat_mem hp)).1
  have hsg : IntKind.u16.signed = false := rfl
  have n3 := not16 _ b.1 b.2
  clear hr hp hn hlen
  go_enter Try.func94, Try.ntmps94
  go_wp2_with fail
  refine H.out.mono ?_
  rintro e w' ⟨rfl, rfl⟩
  go_wp2
  go_ret
  exact ⟨rfl, rfl⟩

theorem right_any (A : Option Addr) (n c : Nat) (ps : List Part) (w : World) (B : Nat) (hn : ps.length = n) (hn2 : n ≤ 1000) (hlen : (flat ps).length ≤ 1099511627776)
    (hr : Row w B A (ps.map Part.val)) (hp : ∀ p ∈ ps, p.ok w B) :
    Calls Try.prog 85 #[.slice A n c] w fun e w' => e = .returned (.bool (fo (wsum (flat ps)) == 65535)) ∧ w = w' := by
  have H := Lib.hid (of_any A n c ps w B hn hn2 hlen hr hp)
  clear hr hp hn hlen
  go_enter Try.func85, Try.ntmps85
  go_wp2_with fail
  refine H.out.mono ?_
  rintro e w' ⟨rfl, rfl⟩
  go_wp2
  go_ret
  exact ⟨rfl, rfl⟩

end Go.Proofs.Ytndekicblbpkjaa.sumC
