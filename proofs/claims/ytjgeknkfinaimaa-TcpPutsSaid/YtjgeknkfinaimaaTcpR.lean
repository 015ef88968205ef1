/- Layer 10: the law on segments that are put. -/
import Derived.Test.YtjgeknkfinaimaaTcpO
import Derived.Test.YtjgeknkfinaimaaTcpP
import Derived.Test.YtjgeknkfinaimaaLeaf
namespace Go.Proofs.Ytjgeknkfinaimaa.tcpR
open Go.ChangeShapes Go.WideShapes Go.ChangeAt Go.RowKit
open Go.Proofs.Ytjgeknkfinaimaa.base Go.Proofs.Ytjgeknkfinaimaa.sumA Go.Proofs.Ytjgeknkfinaimaa.sumB Go.Proofs.Ytjgeknkfinaimaa.octA Go.Proofs.Ytjgeknkfinaimaa.octB Go.Proofs.Ytjgeknkfinaimaa.octC Go.Proofs.Ytjgeknkfinaimaa.octE Go.Proofs.Ytjgeknkfinaimaa.octF Go.Proofs.Ytjgeknkfinaimaa.octK Go.Proofs.Ytjgeknkfinaimaa.rdrA Go.Proofs.Ytjgeknkfinaimaa.udpA Go.Proofs.Ytjgeknkfinaimaa.udpE Go.Proofs.Ytjgeknkfinaimaa.tcpC Go.Proofs.Ytjgeknkfinaimaa.tcpD Go.Proofs.Ytjgeknkfinaimaa.tcpE Go.Proofs.Ytjgeknkfinaimaa.tcpI Go.Proofs.Ytjgeknkfinaimaa.tcpJ Go.Proofs.Ytjgeknkfinaimaa.tcpF Go.Proofs.Ytjgeknkfinaimaa.tcpK Go.Proofs.Ytjgeknkfinaimaa.tcpL Go.Proofs.Ytjgeknkfinaimaa.tcpM Go.Proofs.Ytjgeknkfinaimaa.tcpN Go.Proofs.Ytjgeknkfinaimaa.tcpO Go.Proofs.Ytjgeknkfinaimaa.tcpP
set_option linter.unusedVariables false

section
variable {H : Type} {enc : TypeId × Value → H} {P : Program} {w : World} {base : Nat} {held : Bool}
theorem open_bytes {r : Reach} {b0 : Nat} {t e : TypeId} {k : IntKind} {v : Value} {d : DataW H} {p : List MemPlace} (ht : P.underlying t = some (.slice e)) (he : P.underlying e = some (.int k)) (hc : P.cellsOf e = 1)
    (hv : Value.okWide P w r b0 t v) (h : DataW.Trod enc P w base (fun _ => true) held t v d p) :
    ∃ a len cap zs, v = .slice a len cap ∧ ((a = none ∧ len = 0 ∧ cap = 0 ∧ zs = []) ∨ ∃ x, a = some x ∧ len ≤ cap ∧ cap ≤ maxLen ∧ zs.length = cap ∧ (∀ i, i < zs.length → w.cell? (x.add i) = some (.int k (zs.getD i 0))) ∧ ∀ n ∈ zs, (Lit.int k n).wf = true) := by
  obtain ⟨a, len, cap, rfl⟩ := okWide_slice ht hv
  obtain ⟨fuel, hf⟩ := h
  rcases open_ints ht he hc hf with ⟨hcs, _⟩ | ⟨x, l, c, zs, hcs, _, hl, hm, hz, _, hcell, hwz⟩
  · simp [Value.cells] at hcs
    obtain ⟨rfl, rfl, rfl⟩ := hcs
    exact ⟨_, _, _, [], rfl, .inl ⟨rfl, rfl, rfl, rfl⟩⟩
  · simp [Value.cells] at hcs
    obtain ⟨rfl, rfl, rfl⟩ := hcs
    exact ⟨_, _, _, zs, rfl, .inr ⟨_, rfl, hl, hm, by simpa using hz, hcell, hwz⟩⟩
theorem open_tail {t e : TypeId} {k : IntKind} {a : Option Addr} {len cap m : Nat} {y : DataW H × List MemPlace} (ht : P.underlying t = some (.slice e)) (he : P.underlying e = some (.int k)) (hc : P.cellsOf e = 1)
    (hf : DataW.trod enc P w base (fun _ => true) held m t [.slice a len cap] = some y) :
    ∃ zs : List Int, (a = none ∧ len = 0 ∧ cap = 0 ∧ zs = []) ∨ ∃ x, a = some x ∧ len ≤ cap ∧ cap ≤ maxLen ∧ zs.length = cap ∧ (∀ i, i < zs.length → w.cell? (x.add i) = some (.int k (zs.getD i 0))) ∧ ∀ n ∈ zs, (Lit.int k n).wf = true := by
  rcases open_ints ht he hc hf with ⟨hcs, _⟩ | ⟨x, l, c, zs, hcs, _, hl, hm, hz, _, hcell, hwz⟩
  · simp at hcs
    obtain ⟨rfl, rfl, rfl⟩ := hcs
    exact ⟨[], .inl ⟨rfl, rfl, rfl, rfl⟩⟩
  · simp at hcs
    obtain ⟨rfl, rfl, rfl⟩ := hcs
    exact ⟨zs, .inr ⟨_, rfl, hl, hm, by simpa using hz, hcell, hwz⟩⟩
end
theorem puts_any (v1 v2 : Value) (A1 A2 : Option Addr) (n1 n2 c1 c2 : Nat) (l1 l2 os : List Int) (sp dp sq ak fl wn ur : Int) (AO : Option Addr) (no co : Nat) (w : World) (h1 : l1.length = n1) (h2 : l2.length = n2) (k1 : n1 ≤ 300) (k2 : n2 ≤ 300) (hn2 : n2 ≤ c2) (hc2 : c2 ≤ 9223372036854775807) (z1 : A1 = none → c1 = 0) (z2 : A2 = none → c2 = 0) (r1 : Row w w.heap.size A1 (l1.map (.int .u8))) (r2 : Row w w.heap.size A2 (l2.map (.int .u8))) (b1 : ∀ x ∈ l1, 0 ≤ x ∧ x ≤ 255) (b2 : ∀ x ∈ l2, 0 ≤ x ∧ x ≤ 255)
    (hol : os.length = no) (hor : Row w w.heap.size AO (os.map (.int .u8))) (hoz : AO = none → co = 0) (hox : ∀ x ∈ os, 0 ≤ x ∧ x ≤ 255) (s5 : 0 ≤ sq) (s6 : sq ≤ 4294967295) (s7 : 0 ≤ ak) (s8 : ak ≤ 4294967295)
    (C1 : Hid (∀ w : World, Calls Try.prog 17 #[v1] w fun e w' => e = .returned (.slice A1 n1 c1) ∧ w = w'))
    (C2 : Hid (∀ w : World, Calls Try.prog 17 #[v2] w fun e w' => e = .returned (.slice A2 n2 c2) ∧ w = w')) :
    Calls Try.prog 7 #[.agg #[.int .i64 sp, .int .i64 dp, .int .u32 sq, .int .u32 ak, .int .i64 fl, .int .i64 wn, .int .i64 ur, .slice AO no co], v1, v2] w fun e w' => e = .returned (.bool true) ∧ Below w.heap.size w w' := by
  by_cases hp : okH sp dp wn ur fl no
  · rcases Nat.mod_two_eq_zero_or_one n2 with he | he
    · exact good_even v1 v2 A1 n1 n2 c1 c2 l1 l2 os sp dp sq ak fl wn ur AO no co w A2 h1 k1 k2 hn2 hc2 z1 r1 b1 b2 he h2 r2 z2 hol hor hoz hox s5 s6 s7 s8 C1 C2 hp
    · obtain ⟨b, off, rfl, hb, hs⟩ := lies_of r2 (by omega)
      by_cases ho : c2 = 1
      · exact good_one v1 v2 A1 n1 n2 c1 c2 l1 (l2.drop 1) os sp dp sq ak fl wn ur AO no co w b off h1 k1 k2 hn2 hc2 z1 r1 b1 (fun x hx => b2 x (List.mem_of_mem_drop hx)) he ho (by rw [List.length_drop]; omega) (.inl (by rw [List.drop_eq_nil_of_le (by omega)]; rfl)) hol hor hoz hox s5 s6 s7 s8 C1 C2 hp
      · exact good_odd v1 v2 A1 n1 n2 c1 c2 l1 (l2.drop 1) os sp dp sq ak fl wn ur AO no co w b off h1 k1 k2 hn2 hc2 z1 r1 b1 (fun x hx => b2 x (List.mem_of_mem_drop hx)) he ho (by rw [List.length_drop, h2]) ((hs.drop 1).row hb) hol hor hoz hox s5 s6 s7 s8 C1 C2 hp
  · rcases Nat.mod_two_eq_zero_or_one n2 with he | he
    · exact wrong_even v1 v2 A1 n1 n2 c1 c2 l1 l2 os sp dp sq ak fl wn ur AO no co w A2 h1 k1 k2 hn2 hc2 z1 r1 b1 b2 he h2 r2 z2 hol hor hoz hox s5 s6 s7 s8 C1 C2 hp
    · obtain ⟨b, off, rfl, hb, hs⟩ := lies_of r2 (by omega)
      by_cases ho : c2 = 1
      · exact wrong_one v1 v2 A1 n1 n2 c1 c2 l1 (l2.drop 1) os sp dp sq ak fl wn ur AO no co w b off h1 k1 k2 hn2 hc2 z1 r1 b1 (fun x hx => b2 x (List.mem_of_mem_drop hx)) he ho (by rw [List.length_drop]; omega) (.inl (by rw [List.drop_eq_nil_of_le (by omega)]; rfl)) hol hor hoz hox s5 s6 s7 s8 C1 C2 hp
      · exact wrong_odd v1 v2 A1 n1 n2 c1 c2 l1 (l2.drop 1) os sp dp sq ak fl wn ur AO no co w b off h1 k1 k2 hn2 hc2 z1 r1 b1 (fun x hx => b2 x (List.mem_of_mem_drop hx)) he ho (by rw [List.length_drop, h2]) ((hs.drop 1).row hb) hol hor hoz hox s5 s6 s7 s8 C1 C2 hp
end Go.Proofs.Ytjgeknkfinaimaa.tcpR
