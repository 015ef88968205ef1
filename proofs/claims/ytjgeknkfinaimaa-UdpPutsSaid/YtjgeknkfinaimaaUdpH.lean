/- Layer 11: bytes that came in, cut; the law on bytes that are parsed. -/
import Derived.Test.YtjgeknkfinaimaaUdpG
namespace Go.Proofs.Ytjgeknkfinaimaa.udpH
open Go.ChangeShapes Go.WideShapes Go.ChangeAt Go.RowKit
open Go.Proofs.Ytjgeknkfinaimaa.base Go.Proofs.Ytjgeknkfinaimaa.sumA Go.Proofs.Ytjgeknkfinaimaa.sumB Go.Proofs.Ytjgeknkfinaimaa.octA Go.Proofs.Ytjgeknkfinaimaa.octB Go.Proofs.Ytjgeknkfinaimaa.octC Go.Proofs.Ytjgeknkfinaimaa.octE Go.Proofs.Ytjgeknkfinaimaa.octF Go.Proofs.Ytjgeknkfinaimaa.rdrA Go.Proofs.Ytjgeknkfinaimaa.udpA Go.Proofs.Ytjgeknkfinaimaa.udpB Go.Proofs.Ytjgeknkfinaimaa.udpD Go.Proofs.Ytjgeknkfinaimaa.udpE Go.Proofs.Ytjgeknkfinaimaa.udpF Go.Proofs.Ytjgeknkfinaimaa.udpG
set_option linter.unusedVariables false
theorem none_cap {k : IntKind} {w : World} {a : Option Addr} {len cap : Nat} {zs : List Int}
    (h : (a = none ∧ len = 0 ∧ cap = 0 ∧ zs = []) ∨ ∃ x, a = some x ∧ len ≤ cap ∧ cap ≤ maxLen ∧ zs.length = cap ∧ (∀ i, i < zs.length → w.cell? (x.add i) = some (.int k (zs.getD i 0))) ∧ ∀ n ∈ zs, (Lit.int k n).wf = true) : a = none → cap = 0 := by
  rcases h with ⟨_, _, h, _⟩ | ⟨x, rfl, _⟩
  · exact fun _ => h
  · intro h; cases h
theorem cut11_arg {w : World} {B : Nat} {A : Option Addr} {n c : Nat} {l : List Int} (hl : l.length = n) (hr : Row w B A (l.map (.int .u8))) (hnc : n ≤ c) (hc : c ≤ 9223372036854775807) :
    (l.take (min n 300)).length = min n 300 ∧ Row w B A ((l.take (min n 300)).map (.int .u8)) ∧
      Hid (∀ w : World, Calls Try.prog 10 #[.slice A n c] w fun e w' => e = .returned (.slice A (min n 300 : Nat) c) ∧ w = w') := by
  refine ⟨by rw [List.length_take]; omega, ?_, Lib.hid fun w => ?_⟩
  · have := hr.take (min n 300)
    rwa [← List.map_take] at this
  · refine cut_any A n c w hnc hc (fun x hx h => ?_) (fun h => ?_)
    · rcases hr with h0 | ⟨b, off, hA, _⟩
      · have := congrArg List.length h0; simp at this; rw [this] at hl; simp at hl; omega
      · rw [hx] at hA; injection hA with hA; exact ⟨b, off, hA⟩
    · rcases hr with h0 | ⟨b, off, hA, _⟩
      · have := congrArg List.length h0; simp at this; rw [this] at hl; simpa using hl.symm
      · rw [h] at hA; cases hA
theorem take_u8 {l : List Int} {m : Nat} (h : ∀ x ∈ l, (Lit.int .u8 x).wf = true) : ∀ x ∈ l.take m, 0 ≤ x ∧ x ≤ 255 := fun x hx => bounds_u8 (h x (List.mem_of_mem_take hx))
theorem parses_any (v1 v2 : Value) (A1 A2 : Option Addr) (n1 n2 c1 c2 : Nat) (l1 l2 : List Int) (bare : Bool) (w : World) (h1 : l1.length = n1) (h2 : l2.length = n2) (k1 : n1 ≤ 300) (k2 : n2 ≤ 300) (hnc : n1 ≤ c1) (hc : c1 ≤ 9223372036854775807) (z2 : A2 = none → c2 = 0) (r1 : Row w w.heap.size A1 (l1.map (.int .u8))) (r2 : Row w w.heap.size A2 (l2.map (.int .u8))) (b1 : ∀ x ∈ l1, 0 ≤ x ∧ x ≤ 255) (b2 : ∀ x ∈ l2, 0 ≤ x ∧ x ≤ 255)
    (C1 : Hid (∀ w : World, Calls Try.prog 10 #[v1] w fun e w' => e = .returned (.slice A1 n1 c1) ∧ w = w'))
    (C2 : Hid (∀ w : World, Calls Try.prog 10 #[v2] w fun e w' => e = .returned (.slice A2 n2 c2) ∧ w = w')) :
    Calls Try.prog 4 #[v1, v2, .bool bare] w fun e w' => e = .returned (.bool true) ∧ Below w.heap.size w w' := by
  by_cases h8 : n1 < 8
  · exact parses_short v1 v2 A1 A2 n1 n2 c1 c2 bare w h8 C1 C2
  obtain ⟨b, off, rfl, hb, hs⟩ := lies_of r1 (by omega)
  by_cases h4 : w16 l1 4 = n1
  · by_cases h6 : w16 l1 6 = 0
    · cases bare with
      | false => exact parses_bare0 v1 v2 b off A2 n1 n2 c1 c2 l1 l2 w h1 h2 (by omega) k1 k2 hnc hc hb hs z2 r2 b1 b2 C1 C2 h4 h6
      | true => exact parses_okbare v1 v2 b off A2 n1 n2 c1 c2 l1 l2 w h1 h2 (by omega) k1 k2 hnc hc hb hs z2 r2 b1 b2 C1 C2 h4 h6
    · by_cases hS : fo (wsum (l2 ++ l1)) = 65535
      · exact parses_oksum v1 v2 b off A2 n1 n2 c1 c2 l1 l2 bare w h1 h2 (by omega) k1 k2 hnc hc hb hs z2 r2 b1 b2 C1 C2 h4 h6 hS
      · exact parses_sum v1 v2 b off A2 n1 n2 c1 c2 l1 l2 bare w h1 h2 (by omega) k1 k2 hnc hc hb hs z2 r2 b1 b2 C1 C2 h4 h6 hS
  · exact parses_len v1 v2 b off A2 n1 n2 c1 c2 l1 l2 bare w h1 h2 (by omega) k1 k2 hnc hc hb hs z2 r2 b1 b2 C1 C2 h4
end Go.Proofs.Ytjgeknkfinaimaa.udpH
