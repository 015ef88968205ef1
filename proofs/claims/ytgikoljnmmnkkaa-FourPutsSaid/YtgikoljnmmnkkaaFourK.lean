/- Layer 8: the law on headers that are put. -/
import Derived.Test.YtgikoljnmmnkkaaFourI
import Derived.Test.YtgikoljnmmnkkaaFourP
namespace Go.Proofs.Ytgikoljnmmnkkaa.fourK
open Go.ChangeShapes Go.WideShapes Go.ChangeAt Go.RowKit
open Go.Proofs.Ytgikoljnmmnkkaa.base Go.Proofs.Ytgikoljnmmnkkaa.sumA Go.Proofs.Ytgikoljnmmnkkaa.sumB Go.Proofs.Ytgikoljnmmnkkaa.octA Go.Proofs.Ytgikoljnmmnkkaa.octB Go.Proofs.Ytgikoljnmmnkkaa.octC Go.Proofs.Ytgikoljnmmnkkaa.octD Go.Proofs.Ytgikoljnmmnkkaa.octE Go.Proofs.Ytgikoljnmmnkkaa.octF Go.Proofs.Ytgikoljnmmnkkaa.octK Go.Proofs.Ytgikoljnmmnkkaa.rdrA Go.Proofs.Ytgikoljnmmnkkaa.udpA Go.Proofs.Ytgikoljnmmnkkaa.tcpC Go.Proofs.Ytgikoljnmmnkkaa.net Go.Proofs.Ytgikoljnmmnkkaa.fourA Go.Proofs.Ytgikoljnmmnkkaa.fourB Go.Proofs.Ytgikoljnmmnkkaa.fourC Go.Proofs.Ytgikoljnmmnkkaa.fourD Go.Proofs.Ytgikoljnmmnkkaa.fourE Go.Proofs.Ytgikoljnmmnkkaa.fourF Go.Proofs.Ytgikoljnmmnkkaa.fourG Go.Proofs.Ytgikoljnmmnkkaa.fourI Go.Proofs.Ytgikoljnmmnkkaa.fourO Go.Proofs.Ytgikoljnmmnkkaa.fourP
set_option linter.unusedVariables false

theorem puts_any (v1 v2 : Value) (tos id : Int) (df mf : Bool) (fr ttl pr : Int) (s6 : Bool) (sh sl : Int) (d6 : Bool) (dh dl : Int) (AO : Option Addr) (no co : Nat) (os : List Int) (A1 A3 : Option Addr) (n1 n3 c1 c3 : Nat) (l1 l3 : List Int) (w : World) (s0 : 0 ≤ sl) (d0 : 0 ≤ dl)
    (hol : os.length = no) (hor : Row w w.heap.size AO (os.map (.int .u8))) (hoz : AO = none → co = 0) (hox : ∀ x ∈ os, 0 ≤ x ∧ x ≤ 255)
    (h1 : l1.length = n1) (k1 : n1 ≤ 300) (z1 : A1 = none → c1 = 0) (r1 : Row w w.heap.size A1 (l1.map (.int .u8))) (b1 : ∀ x ∈ l1, 0 ≤ x ∧ x ≤ 255)
    (h3 : l3.length = n3) (k3 : n3 ≤ 300) (z3 : A3 = none → c3 = 0) (r3 : Row w w.heap.size A3 (l3.map (.int .u8))) (b3 : ∀ x ∈ l3, 0 ≤ x ∧ x ≤ 255)
    (C1 : Hid (∀ w : World, Calls Try.prog 24 #[v1] w fun e w' => e = .returned (.slice A1 n1 c1) ∧ w = w'))
    (C2 : Hid (∀ w : World, Calls Try.prog 24 #[v2] w fun e w' => e = .returned (.slice A3 n3 c3) ∧ w = w')) :
    Calls Try.prog 7 #[.agg #[.int .i64 tos, .int .i64 id, .bool df, .bool mf, .int .i64 fr, .int .i64 ttl, .int .i64 pr, .bool s6, .int .u64 sh, .int .u64 sl, .bool d6, .int .u64 dh, .int .u64 dl, .slice AO no co], v1, v2] w fun e w' => e = .returned (.bool true) ∧ Below w.heap.size w w' := by
  by_cases h : okG tos id fr ttl pr s6 sh sl d6 dh dl no
  · obtain ⟨g1, g2, g3, g4, g5, ⟨e1, e2, e3⟩, ⟨f1, f2, f3⟩, g8, g9⟩ := h
    subst e1 e2 f1 f2
    exact good v1 v2 tos id df mf fr ttl pr sl dl AO no co os A1 A3 n1 n3 c1 c3 l1 l3 w ⟨g1, g4, g5, g2, g3, ⟨s0, e3⟩, ⟨d0, f3⟩, g8, g9⟩ hol hor hoz hox h1 k1 z1 r1 b1 h3 k3 z3 r3 b3 C1 C2
  · exact law_wrong v1 v2 tos id df mf fr ttl pr s6 sh sl d6 dh dl AO no co A1 n1 c1 w s0 d0 h C1
end Go.Proofs.Ytgikoljnmmnkkaa.fourK
