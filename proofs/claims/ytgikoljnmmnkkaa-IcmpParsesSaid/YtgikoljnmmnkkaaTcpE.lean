/- Layer 10: the law's bytes of a segment. -/
import Derived.Test.YtgikoljnmmnkkaaTcpD
import Derived.Test.YtgikoljnmmnkkaaApp
namespace Go.Proofs.Ytgikoljnmmnkkaa.tcpE
open Go.ChangeShapes Go.WideShapes Go.ChangeAt Go.RowKit
open Go.Proofs.Ytgikoljnmmnkkaa.base Go.Proofs.Ytgikoljnmmnkkaa.sumA Go.Proofs.Ytgikoljnmmnkkaa.sumB Go.Proofs.Ytgikoljnmmnkkaa.octA Go.Proofs.Ytgikoljnmmnkkaa.octB Go.Proofs.Ytgikoljnmmnkkaa.octC Go.Proofs.Ytgikoljnmmnkkaa.octF Go.Proofs.Ytgikoljnmmnkkaa.rdrA Go.Proofs.Ytgikoljnmmnkkaa.udpA Go.Proofs.Ytgikoljnmmnkkaa.udpE Go.Proofs.Ytgikoljnmmnkkaa.tcpC Go.Proofs.Ytgikoljnmmnkkaa.tcpD
set_option linter.unusedVariables false

/-- A segment, its check 0. -/
def tb (sp dp sq ak fl wn ur : Int) (os pl : List Int) : List Int :=
  [sp / 256, sp % 256, dp / 256, dp % 256, sq / 65536 / 256, sq / 65536 % 256, sq % 65536 / 256, sq % 65536 % 256, ak / 65536 / 256, ak / 65536 % 256, ak % 65536 / 256, ak % 65536 % 256,
    (5 + (os.length : Int) / 4) * 16, fl, wn / 256, wn % 256, 0, 0, ur / 256, ur % 256] ++ os ++ pl
def LBPost (w : World) (l : List Int) (e : Ending) (w' : World) : Prop :=
  ∃ v, e = .returned v ∧ w'.ownsRow w.heap.size 5 1 v l.length (l.map (.int .u8)) ∧ Below w.heap.size w w'
theorem keep8 {w w' : World} {p0 p1 p2 p3 p4 p5 p6 p7 : Addr} {v0 v1 v2 v3 v4 v5 v6 v7 : Value} (h : w.cell? p0 = some v0 ∧ w.cell? p1 = some v1 ∧ w.cell? p2 = some v2 ∧ w.cell? p3 = some v3 ∧ w.cell? p4 = some v4 ∧ w.cell? p5 = some v5 ∧ w.cell? p6 = some v6 ∧ w.cell? p7 = some v7) (hb : Below w.heap.size w w') :
    w'.cell? p0 = some v0 ∧ w'.cell? p1 = some v1 ∧ w'.cell? p2 = some v2 ∧ w'.cell? p3 = some v3 ∧ w'.cell? p4 = some v4 ∧ w'.cell? p5 = some v5 ∧ w'.cell? p6 = some v6 ∧ w'.cell? p7 = some v7 :=
  ⟨kept h.1 hb, kept h.2.1 hb, kept h.2.2.1 hb, kept h.2.2.2.1 hb, kept h.2.2.2.2.1 hb, kept h.2.2.2.2.2.1 hb, kept h.2.2.2.2.2.2.1 hb, kept h.2.2.2.2.2.2.2 hb⟩
theorem keepB {a w' : World} {k : Nat} {v0 : Value} {v1 : Value} {v2 : Value} {v3 : Value} {v4 : Value} {v5 : Value} {v6 : Value} {v7 : Value} (h : a.cell? ⟨k, 0, none⟩ = some v0 ∧ a.cell? ⟨k, 1, none⟩ = some v1 ∧ a.cell? ⟨k, 2, none⟩ = some v2 ∧ a.cell? ⟨k, 3, none⟩ = some v3 ∧ a.cell? ⟨k, 4, none⟩ = some v4 ∧ a.cell? ⟨k, 5, none⟩ = some v5 ∧ a.cell? ⟨k, 6, none⟩ = some v6 ∧ a.cell? ⟨k, 7, none⟩ = some v7) (hb : Below (k + 1) a w') : w'.cell? ⟨k, 0, none⟩ = some v0 ∧ w'.cell? ⟨k, 1, none⟩ = some v1 ∧ w'.cell? ⟨k, 2, none⟩ = some v2 ∧ w'.cell? ⟨k, 3, none⟩ = some v3 ∧ w'.cell? ⟨k, 4, none⟩ = some v4 ∧ w'.cell? ⟨k, 5, none⟩ = some v5 ∧ w'.cell? ⟨k, 6, none⟩ = some v6 ∧ w'.cell? ⟨k, 7, none⟩ = some v7 := by
  obtain ⟨h0, h1, h2, h3, h4, h5, h6, h7⟩ := h
  exact ⟨(hb.cell (p := ⟨k, 0, none⟩) (Nat.lt_succ_self k)).trans h0, (hb.cell (p := ⟨k, 1, none⟩) (Nat.lt_succ_self k)).trans h1, (hb.cell (p := ⟨k, 2, none⟩) (Nat.lt_succ_self k)).trans h2, (hb.cell (p := ⟨k, 3, none⟩) (Nat.lt_succ_self k)).trans h3, (hb.cell (p := ⟨k, 4, none⟩) (Nat.lt_succ_self k)).trans h4, (hb.cell (p := ⟨k, 5, none⟩) (Nat.lt_succ_self k)).trans h5, (hb.cell (p := ⟨k, 6, none⟩) (Nat.lt_succ_self k)).trans h6, (hb.cell (p := ⟨k, 7, none⟩) (Nat.lt_succ_self k)).trans h7⟩
end Go.Proofs.Ytgikoljnmmnkkaa.tcpE
