/- Layer 4: the law on sums of bytes. -/
import Derived.Test.YtgikoljnmmnkkaaSumH
import Derived.Test.YtgikoljnmmnkkaaIsRow
namespace Go.Proofs.Ytgikoljnmmnkkaa.sumI
open Go.ChangeShapes Go.WideShapes Go.ChangeAt Go.RowKit
open Go.Proofs.Ytgikoljnmmnkkaa.base Go.Proofs.Ytgikoljnmmnkkaa.sumA Go.Proofs.Ytgikoljnmmnkkaa.sumB Go.Proofs.Ytgikoljnmmnkkaa.sumC Go.Proofs.Ytgikoljnmmnkkaa.sumE Go.Proofs.Ytgikoljnmmnkkaa.sumH
set_option linter.unusedVariables false

theorem info_u8 : (Try.prog.info? 5).map (fun i => (i.zero, i.size, i.bytes)) = some (some (.int .u8 0), 1, 1) := by kernel_rfl
theorem row3 {w : World} {g : Nat} {t : TypeId} {a b c : Value} (h : Blk w g t #[a, b, c]) : Row w w.heap.size (some ⟨g, 0, none⟩) [a, b, c] := row_blk h

theorem three {w W : World} {A1 A2 A3 : Option Addr} {n1 n2 n3 c1 c2 c3 : Nat} {l1 l2 l3 : List Int} (h1 : l1.length = n1) (h2 : l2.length = n2) (h3 : l3.length = n3)
    (r1 : Row w w.heap.size A1 (l1.map (.int .u8))) (r2 : Row w w.heap.size A2 (l2.map (.int .u8))) (r3 : Row w w.heap.size A3 (l3.map (.int .u8)))
    (b1 : ∀ x ∈ l1, 0 ≤ x ∧ x ≤ 255) (b2 : ∀ x ∈ l2, 0 ≤ x ∧ x ≤ 255) (b3 : ∀ x ∈ l3, 0 ≤ x ∧ x ≤ 255) (hb : Below w.heap.size w W) (t : TypeId) :
    Row (W.alloc (.cells #[.slice A1 n1 c1, .slice A2 n2 c2, .slice A3 n3 c3] t)) (W.heap.size + 1) (some ⟨W.heap.size, 0, none⟩) (([⟨A1, c1, l1⟩, ⟨A2, c2, l2⟩, ⟨A3, c3, l3⟩] : List Part).map Part.val) ∧
      ∀ p ∈ ([⟨A1, c1, l1⟩, ⟨A2, c2, l2⟩, ⟨A3, c3, l3⟩] : List Part), p.ok (W.alloc (.cells #[.slice A1 n1 c1, .slice A2 n2 c2, .slice A3 n3 c3] t)) (W.heap.size + 1) := by
  subst h1 h2 h3
  have hs := hb.size
  refine ⟨(row3 (Blk.new W t _)).more (by simp), fun p hp => ?_⟩
  have hb2 := hb.alloc hs (.cells #[.slice A1 l1.length c1, .slice A2 l2.length c2, .slice A3 l3.length c3] t)
  simp only [List.mem_cons, List.not_mem_nil, or_false] at hp
  rcases hp with rfl | rfl | rfl
  · exact ⟨(r1.below hb2).more (by omega), b1⟩
  · exact ⟨(r2.below hb2).more (by omega), b2⟩
  · exact ⟨(r3.below hb2).more (by omega), b3⟩

end Go.Proofs.Ytgikoljnmmnkkaa.sumI
