/- 4 texts in one. -/
import Derived.Deep.RegionHeld3
import Derived.BigQuiet
import Derived.Test.YtodckfgfbcnkoaaTb01
import Derived.Test.YtodckfgfbcnkoaaTb03
/- What the packages over octet and sum share: facts carried over a step, bytes of numbers, what comes in. -/
namespace Go.Proofs.Ytodckfgfbcnkoaa.net
open Go.ChangeShapes Go.WideShapes Go.ChangeAt Go.RowKit Go.Joins Go.Deep
open Go.Proofs.Ytodckfgfbcnkoaa.base Go.Proofs.Ytodckfgfbcnkoaa.sumA Go.Proofs.Ytodckfgfbcnkoaa.sumB Go.Proofs.Ytodckfgfbcnkoaa.octA Go.Proofs.Ytodckfgfbcnkoaa.rdrA
set_option linter.unusedVariables false

theorem pb_two (x : Int) (h0 : 0 ≤ x) (h1 : x ≤ 65535) : pb x 2 2 = [x / 256, x % 256] := by
  show [byteZ x (2 - 1 - 0), byteZ x (2 - 1 - 1)] = _
  unfold byteZ
  have a : x / 2 ^ (8 * (2 - 1 - 0)) = x / 256 := rfl
  have b : x / 2 ^ (8 * (2 - 1 - 1)) = x := by show x / 1 = x; omega
  rw [a, b]
  congr 1
  omega
theorem own_keep {w w' : World} {base n : Nat} {e : TypeId} {v : Value} {xs : List Value} (h : w.ownsRow base e 1 v n xs) (hb : Below w.heap.size w w') : w'.ownsRow base e 1 v n xs := by
  refine ⟨h.1, ?_⟩
  rcases h.2 with hn | ⟨g, cap, cur, rfl, hg, hgg, rest⟩
  · exact .inl hn
  · exact .inr ⟨g, cap, cur, rfl, hg, (hb.block g (Array.getElem?_eq_some_iff.1 hgg).1).trans hgg, rest⟩
theorem bneT {a b : Int} (h : a ≠ b) : (a != b) = true := by simpa using h
theorem bneF {a b : Int} (h : a = b) : (a != b) = false := by subst h; simp
theorem eqT {a b : Int} (h : a = b) : (a == b) = true := by simpa using h
theorem eqF {a b : Int} (h : a ≠ b) : (a == b) = false := by simpa using h
theorem wsum_app : ∀ (n : Nat) (a b : List Int), a.length = 2 * n → wsum (a ++ b) = wsum a + wsum b := by
  intro n
  induction n with
  | zero => intro a b h; have e : a = [] := List.eq_nil_of_length_eq_zero (by omega); subst e; simp [wsum]
  | succ n ih =>
    intro a b h
    match a, h with
    | x :: y :: a, h =>
      have := ih a b (by simp at h; omega)
      show wsum (x :: y :: (a ++ b)) = wsum (x :: y :: a) + wsum b
      simp only [wsum]
      rw [this]
      omega
theorem pb_four (x : Int) (h0 : 0 ≤ x) (h1 : x ≤ 4294967295) : pb x 4 4 = [x / 65536 / 256, x / 65536 % 256, x % 65536 / 256, x % 65536 % 256] := by
  show [byteZ x 3, byteZ x 2, byteZ x 1, byteZ x 0] = _
  unfold byteZ
  have a : x / 2 ^ (8 * 3) = x / 16777216 := rfl
  have b : x / 2 ^ (8 * 2) = x / 65536 := rfl
  have c : x / 2 ^ (8 * 1) = x / 256 := rfl
  have d : x / 2 ^ (8 * 0) = x := by show x / 1 = x; omega
  rw [a, b, c, d]
  congr 1
  · omega
  · congr 1
    congr 1
    · omega
    · congr 1
      omega
theorem pb_one (x : Int) (h0 : 0 ≤ x) (h1 : x ≤ 255) : pb x 1 1 = [x] := by
  show [byteZ x 0] = _
  unfold byteZ
  have d : x / 2 ^ (8 * 0) = x := by show x / 1 = x; omega
  rw [d]
  congr 1
  omega
theorem fo_full (s : Int) (h : 0 ≤ s) : fo (s + (65535 - fo s)) = 65535 ∨ fo s = 65535 := by
  have a := fo_bd s h
  have b := fo_add (x := s) (t := 65535 - fo s) h (by omega)
  refine .inl ?_
  rw [← b, show fo s + (65535 - fo s) = 65535 by omega]
  rfl
theorem none_cap {k : IntKind} {w : World} {a : Option Addr} {len cap : Nat} {zs : List Int}
    (h : (a = none ∧ len = 0 ∧ cap = 0 ∧ zs = []) ∨ ∃ x, a = some x ∧ len ≤ cap ∧ cap ≤ maxLen ∧ zs.length = cap ∧ (∀ i, i < zs.length → w.cell? (x.add i) = some (.int k (zs.getD i 0))) ∧ ∀ n ∈ zs, (Lit.int k n).wf = true) : a = none → cap = 0 := by
  rcases h with ⟨_, _, h, _⟩ | ⟨x, rfl, _⟩
  · exact fun _ => h
  · intro h; cases h
section
variable {H : Type} {enc : TypeId × Value → H} {P : Program} {w : World} {base : Nat} {held : Bool}
theorem open_bytes {r : Reach} {b0 : Nat} {t e : TypeId} {k : IntKind} {v : Value} {d : DataW H} {p : List MemPlace} (ht : P.underlying t = some (.slice e)) (he : P.underlying e = some (.int k)) (hc : P.cellsOf e = 1)
    (hv : Value.okWide P w r b0 t v) (h : DataW.Trod enc P w base (fun _ => true) held t v d p) :
    ∃ a len cap zs, v = .slice a len cap ∧ ((a = none ∧ len = 0 ∧ cap = 0 ∧ zs = []) ∨ ∃ x, a = some x ∧ len ≤ cap ∧ cap ≤ maxLen ∧ zs.length = cap ∧ (∀ i, i < zs.length → w.cell? (x.add i) = some (.int k (zs.getD i 0))) ∧ ∀ n ∈ zs, (Lit.int k n).wf = true) := by
  obtain ⟨a, len, cap, rfl⟩ := okWide_slice ht hv
  obtain ⟨fuel, hf⟩ := h
  rcases open_ints ht he hc hf with ⟨hcs, _⟩ | ⟨x, l, c, zs, hcs, _, hl, hm, hz, _, hcell, hwz⟩
  · simp [Value.cells] at hcs
    obtain ⟨rfl, rfl, rfl⟩ := hcs
    exact ⟨_, _, _, [], rfl, .inl ⟨rfl, rfl, rfl, rfl⟩⟩
  · simp [Value.cells] at hcs
    obtain ⟨rfl, rfl, rfl⟩ := hcs
    exact ⟨_, _, _, zs, rfl, .inr ⟨_, rfl, hl, hm, by simpa using hz, hcell, hwz⟩⟩
end
section
variable {w w' : World}
theorem Rdr_keep {B g : Nat} {l : List Int} (h : Rdr w B g l) (hB : B ≤ w.heap.size) (hb : Below w.heap.size w w') : Rdr w' B g l := h.below hb hB h.lt
end
end Go.Proofs.Ytodckfgfbcnkoaa.net
namespace Go.Proofs.Ytodckfgfbcnkoaa.tcpDn
end Go.Proofs.Ytodckfgfbcnkoaa.tcpDn
namespace Go.Proofs.Ytodckfgfbcnkoaa.icmpA
end Go.Proofs.Ytodckfgfbcnkoaa.icmpA
namespace Go.Proofs.Ytodckfgfbcnkoaa.icmpC
end Go.Proofs.Ytodckfgfbcnkoaa.icmpC
