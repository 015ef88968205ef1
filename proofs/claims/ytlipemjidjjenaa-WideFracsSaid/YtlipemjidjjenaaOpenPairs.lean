/- Arguments opened: a slice of structs of two unsigned words. -/
import Derived.Test.YtlipemjidjjenaaWideJ
import Derived.Lib.SmallJoins
import Derived.Deep.Slices
import Derived.Deep.Fields
namespace Go.Proofs.Ytlipemjidjjenaa.openPairs
open Go.RowKit Go.WideShapes Go.ChangeShapes Go.Joins Go.Deep
open Go.Proofs.Ytlipemjidjjenaa.base Go.Proofs.Ytlipemjidjjenaa.wideG Go.Proofs.Ytlipemjidjjenaa.wideH
set_option linter.unusedVariables false
section
variable {H : Type} {enc : TypeId × Value → H} {P : Program} {w : World} {b0 base : Nat} {spare : Nat → Bool} {held : Bool}
/-- The number in a cell. -/
def numAt (w : World) (p : Addr) : Int := match w.cell? p with
  | some (.int _ z) => z
  | _ => 0
def pairs (w : World) (a : Addr) (n : Nat) : List (Int × Int) := (List.range n).map fun i => (numAt w (a.add (i * 2)), numAt w (a.add (i * 2 + 1)))
theorem pairs_get (w : World) (a : Addr) (n i : Nat) (h : i < n) : (pairs w a n).getD i (0, 0) = (numAt w (a.add (i * 2)), numAt w (a.add (i * 2 + 1))) := by
  rw [List.getD_eq_getElem?_getD]
  simp [pairs, h]
theorem pairs_out (w : World) (a : Addr) (n i : Nat) (h : n ≤ i) : (pairs w a n).getD i (0, 0) = (0, 0) := by
  rw [List.getD_eq_getElem?_getD, List.getElem?_eq_none (by simp [pairs, h])]
  rfl
theorem open_pairs {r : Reach} {t e u : TypeId} {f0 f1 : Field} {v : Value} {d : DataW H} {p : List MemPlace} (ht : P.underlying t = some (.slice e)) (he : P.underlying e = some (.struct #[f0, f1])) (h0 : f0.type = u) (h1 : f1.type = u)
    (hu : P.underlying u = some (.int .u64)) (hone : oneCellFields P #[f0, f1] = true) (hC : P.cellsOf e = 2) (hv : Value.okWide P w r b0 t v) (h : DataW.Trod enc P w base spare held t v d p) :
    v = .slice none 0 0 ∨ ∃ a len cap, v = .slice (some a) len cap ∧ len ≤ cap ∧ cap ≤ 9223372036854775807 ∧ (∀ i, good ((pairs w a len).getD i (0, 0))) ∧ Row2 w w.heap.size (some a) (pairs w a len) := by
  obtain ⟨a0, len, cap, rfl⟩ := okWide_slice ht hv
  obtain ⟨fuel, hf⟩ := h
  rcases open_slice ht hf with ⟨hcs, hx⟩ | ⟨a, len', cap', m, n, D, Pl, hcs, hb, hl, hm, hmm, hx, hi⟩
  · simp [Value.cells] at hcs
    obtain ⟨rfl, rfl, rfl⟩ := hcs
    exact .inl rfl
  · simp [Value.cells] at hcs
    obtain ⟨rfl, rfl, rfl⟩ := hcs
    have each : ∀ i, i < len → ∃ x y : Int, w.cell? (a.add (i * 2)) = some (.int .u64 x) ∧ w.cell? (a.add (i * 2 + 1)) = some (.int .u64 y) ∧ good (x, y) := by
      intro i hil
      obtain ⟨cs', hc, ht'⟩ := hi i (by rw [hmm]; split <;> omega)
      rw [hC] at hc
      obtain ⟨_, hcl, hat⟩ := World.cells?_some hc
      obtain ⟨c0, c1, rfl⟩ : ∃ c0 c1, cs' = [c0, c1] := by
        match cs', hcl with
        | [c0, c1], _ => exact ⟨_, _, rfl⟩
      obtain ⟨y0, y1, n', hy, _, g0, g1⟩ := trod_struct2 he ht'
      obtain ⟨o0, k0⟩ := hone_of hone 0 f0 rfl
      obtain ⟨o1, k1⟩ := hone_of hone 1 f1 rfl
      have g0' : DataW.trod enc P w base spare held n' f0.type [c0] = some y0 := by simpa [o0, k0] using g0
      have g1' : DataW.trod enc P w base spare held n' f1.type [c1] = some y1 := by simpa [o1, k1] using g1
      rw [h0] at g0'
      rw [h1] at g1'
      obtain ⟨x, e0, _, wx⟩ := DataW.trod_int hu g0'
      obtain ⟨y, e1, _, wy⟩ := DataW.trod_int hu g1'
      simp at e0 e1
      subst e0 e1
      have bx := bounds_u64 wx
      have byy := bounds_u64 wy
      have c0 := hat 0 (by omega)
      have c1 := hat 1 (by omega)
      rw [add_add] at c0 c1
      refine ⟨x, y, by simpa using c0, by simpa using c1, ⟨bx.1, ?_⟩, byy.1, ?_⟩
      · show x < 18446744073709551616
        omega
      · show y < 18446744073709551616
        omega
    have eachN : ∀ i, i < len → w.cell? (a.add (i * 2)) = some (.int .u64 ((pairs w a len).getD i (0, 0)).1) ∧ w.cell? (a.add (i * 2 + 1)) = some (.int .u64 ((pairs w a len).getD i (0, 0)).2) ∧ good ((pairs w a len).getD i (0, 0)) := by
      intro i hil
      obtain ⟨x, y, c0, c1, g⟩ := each i hil
      have e0 : numAt w (a.add (i * 2)) = x := by unfold numAt; rw [c0]
      have e1 : numAt w (a.add (i * 2 + 1)) = y := by unfold numAt; rw [c1]
      rw [pairs_get w a len i hil, e0, e1]
      exact ⟨c0, c1, g⟩
    unfold maxLen at hm
    refine .inr ⟨a, len, cap, rfl, hl, hm, fun i => ?_, ?_⟩
    · rcases Nat.lt_or_ge i len with hil | hil
      · exact (eachN i hil).2.2
      · rw [pairs_out w a len i hil]
        exact ⟨⟨by decide, by decide⟩, by decide, by decide⟩
    · rcases Nat.eq_zero_or_pos len with hz | hz
      · subst hz
        exact .inl rfl
      · have hlen : (pairs w a len).length = len := by simp [pairs]
        have c00 := (eachN 0 hz).1
        obtain ⟨b, off, spot⟩ := a
        have hspot : spot = none := by simpa [Addr.add] using World.cell?_spot c00
        subst hspot
        refine .inr ⟨b, off, rfl, ?_, fun i hi => ?_⟩
        · exact block_lt (p := ⟨b, off + 0, none⟩) (by rw [← Go.WideShapes.add_plain]; simpa using c00)
        · rw [hlen] at hi
          have h2 := eachN i hi
          rw [Go.WideShapes.add_plain, Go.WideShapes.add_plain] at h2
          exact ⟨h2.1, h2.2.1⟩
theorem pairs_len (w : World) (a : Addr) (n : Nat) : (pairs w a n).length = n := by simp [pairs]
theorem pairs_cut {a : Addr} {len B : Nat} (hn : 40 < len) (hg : ∀ i, good ((pairs w a len).getD i (0, 0))) (hr : Row2 w B (some a) (pairs w a len)) :
    ∃ b off, a = ⟨b, off, none⟩ ∧ Row2 w B (some ⟨b, off, none⟩) (pairs w a 40) ∧ ∀ i, good ((pairs w a 40).getD i (0, 0)) := by
  obtain ⟨b, off, ha, hb, hc⟩ := hr.at_ (by rw [pairs_len]; omega)
  injection ha with ha
  have same : ∀ i, i < 40 → (pairs w a 40).getD i (0, 0) = (pairs w a len).getD i (0, 0) := fun i hi => by rw [pairs_get w a 40 i hi, pairs_get w a len i (by omega)]
  refine ⟨b, off, ha, .inr ⟨b, off, rfl, hb, fun i hi => ?_⟩, fun i => ?_⟩
  · rw [pairs_len] at hi
    rw [same i hi]
    exact hc i (by rw [pairs_len]; omega)
  · rcases Nat.lt_or_ge i 40 with hil | hil
    · rw [same i hil]
      exact hg i
    · rw [pairs_out w a 40 i hil]
      exact ⟨⟨by decide, by decide⟩, by decide, by decide⟩
end
end Go.Proofs.Ytlipemjidjjenaa.openPairs
