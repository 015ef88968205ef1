/- Layer 11: what came in, opened; the law on datagrams that are put. -/
import Derived.Test.YtjgeknkfinaimaaUdpH
import Derived.Test.YtjgeknkfinaimaaUdpL
import Derived.Test.YtjgeknkfinaimaaUdpM
import Derived.Test.YtjgeknkfinaimaaLeaf
namespace Go.Proofs.Ytjgeknkfinaimaa.udpN
open Go.ChangeShapes Go.WideShapes Go.ChangeAt Go.RowKit
open Go.Proofs.Ytjgeknkfinaimaa.base Go.Proofs.Ytjgeknkfinaimaa.sumA Go.Proofs.Ytjgeknkfinaimaa.sumB Go.Proofs.Ytjgeknkfinaimaa.octA Go.Proofs.Ytjgeknkfinaimaa.octB Go.Proofs.Ytjgeknkfinaimaa.octC Go.Proofs.Ytjgeknkfinaimaa.octE Go.Proofs.Ytjgeknkfinaimaa.octF Go.Proofs.Ytjgeknkfinaimaa.rdrA Go.Proofs.Ytjgeknkfinaimaa.udpA Go.Proofs.Ytjgeknkfinaimaa.udpB Go.Proofs.Ytjgeknkfinaimaa.udpD Go.Proofs.Ytjgeknkfinaimaa.udpE Go.Proofs.Ytjgeknkfinaimaa.udpK Go.Proofs.Ytjgeknkfinaimaa.udpL Go.Proofs.Ytjgeknkfinaimaa.udpM
set_option linter.unusedVariables false

section
variable {H : Type} {enc : TypeId × Value → H} {P : Program} {w : World} {b0 base : Nat} {held : Bool}
theorem open_bytes {r : Reach} {t e : TypeId} {k : IntKind} {v : Value} {d : DataW H} {p : List MemPlace} (ht : P.underlying t = some (.slice e)) (he : P.underlying e = some (.int k)) (hc : P.cellsOf e = 1)
    (hv : Value.okWide P w r b0 t v) (h : DataW.Trod enc P w base (fun _ => true) held t v d p) :
    ∃ a len cap zs, v = .slice a len cap ∧ ((a = none ∧ len = 0 ∧ cap = 0 ∧ zs = []) ∨ ∃ x, a = some x ∧ len ≤ cap ∧ cap ≤ maxLen ∧ zs.length = cap ∧ (∀ i, i < zs.length → w.cell? (x.add i) = some (.int k (zs.getD i 0))) ∧ ∀ n ∈ zs, (Lit.int k n).wf = true) := by
  obtain ⟨a, len, cap, rfl⟩ := okWide_slice ht hv
  obtain ⟨fuel, hf⟩ := h
  rcases open_ints ht he hc hf with ⟨hcs, _⟩ | ⟨x, l, c, zs, hcs, _, hl, hm, hz, _, hcell, hwz⟩
  · simp [Value.cells] at hcs
    obtain ⟨rfl, rfl, rfl⟩ := hcs
    exact ⟨_, _, _, [], rfl, .inl ⟨rfl, rfl, rfl, rfl⟩⟩
  · simp [Value.cells] at hcs
    obtain ⟨rfl, rfl, rfl⟩ := hcs
    exact ⟨_, _, _, zs, rfl, .inr ⟨_, rfl, hl, hm, by simpa using hz, hcell, hwz⟩⟩
end
theorem puts_any (v1 v2 : Value) (A1 A2 : Option Addr) (n1 n2 c1 c2 : Nat) (l1 l2 : List Int) (sp dp : Int) (bare : Bool) (w : World) (h1 : l1.length = n1) (h2 : l2.length = n2) (k1 : n1 ≤ 300) (k2 : n2 ≤ 300) (hn2 : n2 ≤ c2) (hc2 : c2 ≤ 9223372036854775807) (z1 : A1 = none → c1 = 0) (z2 : A2 = none → c2 = 0) (r1 : Row w w.heap.size A1 (l1.map (.int .u8))) (r2 : Row w w.heap.size A2 (l2.map (.int .u8))) (b1 : ∀ x ∈ l1, 0 ≤ x ∧ x ≤ 255) (b2 : ∀ x ∈ l2, 0 ≤ x ∧ x ≤ 255)
    (C1 : Hid (∀ w : World, Calls Try.prog 10 #[v1] w fun e w' => e = .returned (.slice A1 n1 c1) ∧ w = w'))
    (C2 : Hid (∀ w : World, Calls Try.prog 10 #[v2] w fun e w' => e = .returned (.slice A2 n2 c2) ∧ w = w')) :
    Calls Try.prog 5 #[.agg #[.int .i64 sp, .int .i64 dp, .bool bare], v1, v2] w fun e w' => e = .returned (.bool true) ∧ Below w.heap.size w w' := by
  by_cases hp : ports sp dp
  · cases bare with
    | true =>
      rcases Nat.mod_two_eq_zero_or_one n2 with he | he
      · exact bare_even v1 v2 A1 n1 n2 c1 c2 l1 l2 sp dp w A2 h1 k1 k2 hn2 hc2 z1 r1 b1 b2 he h2 r2 z2 C1 C2 hp
      · obtain ⟨b, off, rfl, hb, hs⟩ := lies_of r2 (by omega)
        by_cases ho : c2 = 1
        · exact bare_one v1 v2 A1 n1 n2 c1 c2 l1 (l2.drop 1) sp dp w b off h1 k1 k2 hn2 hc2 z1 r1 b1 (drop_u8 b2 1) he ho (by rw [List.length_drop]; omega) (.inl (by rw [List.drop_eq_nil_of_le (by omega)]; rfl)) C1 C2 hp
        · exact bare_odd v1 v2 A1 n1 n2 c1 c2 l1 (l2.drop 1) sp dp w b off h1 k1 k2 hn2 hc2 z1 r1 b1 (drop_u8 b2 1) he ho (by rw [List.length_drop, h2]) ((hs.drop 1).row hb) C1 C2 hp
    | false =>
      rcases Nat.mod_two_eq_zero_or_one n2 with he | he
      · exact sum_even v1 v2 A1 n1 n2 c1 c2 l1 l2 sp dp w A2 h1 k1 k2 hn2 hc2 z1 r1 b1 b2 he h2 r2 z2 C1 C2 hp
      · obtain ⟨b, off, rfl, hb, hs⟩ := lies_of r2 (by omega)
        by_cases ho : c2 = 1
        · exact sum_one v1 v2 A1 n1 n2 c1 c2 l1 (l2.drop 1) sp dp w b off h1 k1 k2 hn2 hc2 z1 r1 b1 (drop_u8 b2 1) he ho (by rw [List.length_drop]; omega) (.inl (by rw [List.drop_eq_nil_of_le (by omega)]; rfl)) C1 C2 hp
        · exact sum_odd v1 v2 A1 n1 n2 c1 c2 l1 (l2.drop 1) sp dp w b off h1 k1 k2 hn2 hc2 z1 r1 b1 (drop_u8 b2 1) he ho (by rw [List.length_drop, h2]) ((hs.drop 1).row hb) C1 C2 hp
  · rcases Nat.mod_two_eq_zero_or_one n2 with he | he
    · exact wrong_even bare v1 v2 A1 n1 n2 c1 c2 l1 l2 sp dp w A2 h1 k1 k2 hn2 hc2 z1 r1 b1 b2 he h2 r2 z2 C1 C2 hp
    · obtain ⟨b, off, rfl, hb, hs⟩ := lies_of r2 (by omega)
      by_cases ho : c2 = 1
      · exact wrong_one bare v1 v2 A1 n1 n2 c1 c2 l1 (l2.drop 1) sp dp w b off h1 k1 k2 hn2 hc2 z1 r1 b1 (drop_u8 b2 1) he ho (by rw [List.length_drop]; omega) (.inl (by rw [List.drop_eq_nil_of_le (by omega)]; rfl)) C1 C2 hp
      · exact wrong_odd bare v1 v2 A1 n1 n2 c1 c2 l1 (l2.drop 1) sp dp w b off h1 k1 k2 hn2 hc2 z1 r1 b1 (drop_u8 b2 1) he ho (by rw [List.length_drop, h2]) ((hs.drop 1).row hb) C1 C2 hp
end Go.Proofs.Ytjgeknkfinaimaa.udpN
