/- Layer 43: nodes, and which is the first of a name. -/
import Derived.Test.YtamndmlaikgogaaOpenRows
import Derived.Test.YtamndmlaikgogaaKeep
namespace Go.Proofs.Ytamndmlaikgogaa.dfA
open Go.ChangeShapes Go.WideShapes Go.ChangeAt Go.RowKit
open Go.Proofs.Ytamndmlaikgogaa.base
set_option linter.unusedVariables false

/-- A node: its name, its kind, the one above it, its weight, its address. -/
structure Nd where
  nm : ByteArray
  kind : Int
  ab : Int
  wt : Int
  v6 : Bool
  hi : Int
  lo : Int
def Nd.cells (e : Nd) : Array Value := #[.string e.nm, .int .i64 e.kind, .int .i64 e.ab, .int .i64 e.wt, .bool e.v6, .int .u64 e.hi, .int .u64 e.lo]
/-- A slice that reads as nodes. -/
def RdN (w : World) (A : Option Addr) (l : List Nd) : Prop := l = [] ∨ ∃ b off, A = some ⟨b, off, none⟩ ∧ b < w.heap.size ∧ ∀ j (hj : j < l.length), ∀ i, i < 7 → w.cell? ⟨b, off + j * 7 + i, none⟩ = (l[j]).cells[i]?
theorem RdN.below {w w' : World} {A : Option Addr} {l : List Nd} (h : RdN w A l) (hb : Below w.heap.size w w') : RdN w' A l := by
  rcases h with h0 | ⟨b, off, h1, h2, h3⟩
  · exact .inl h0
  · refine .inr ⟨b, off, h1, Nat.lt_of_lt_of_le h2 hb.size, fun j hj i hi => ?_⟩
    rw [← h3 j hj i hi]
    unfold World.cell?
    rw [hb.block b h2]
theorem RdN.at_ {w : World} {A : Option Addr} {l : List Nd} (h : RdN w A l) (j : Nat) (hj : j < l.length) : ∃ b off, A = some ⟨b, off, none⟩ ∧ b < w.heap.size ∧ ∀ i, i < 7 → w.cell? ⟨b, off + j * 7 + i, none⟩ = (l[j]).cells[i]? := by
  rcases h with h0 | ⟨b, off, h1, h2, h3⟩
  · subst h0; simp at hj
  · exact ⟨b, off, h1, h2, fun i hi => h3 j hj i hi⟩
/-- The first of a name. -/
def IsFind (l : List Nd) (s : ByteArray) (at' : Int) : Prop := (at' = -1 ∧ ∀ e, e ∈ l → e.nm ≠ s) ∨ ∃ j, ∃ hj : j < l.length, at' = (j : Int) ∧ (l[j]).nm = s ∧ ∀ q, ∀ hq : q < j, (l[q]'(by omega)).nm ≠ s
theorem IsFind.uniq {l : List Nd} {s : ByteArray} {a b : Int} (h1 : IsFind l s a) (h2 : IsFind l s b) : a = b := by
  rcases h1 with ⟨e1, n1⟩ | ⟨j, hj, e1, n1, m1⟩ <;> rcases h2 with ⟨e2, n2⟩ | ⟨q, hq, e2, n2, m2⟩
  · rw [e1, e2]
  · exact absurd n2 (n1 _ (List.getElem_mem hq))
  · exact absurd n1 (n2 _ (List.getElem_mem hj))
  · rcases Nat.lt_trichotomy j q with h | h | h
    · exact absurd n1 (m2 j h)
    · rw [e1, e2, h]
    · exact absurd n2 (m1 q h)
theorem str_yes {a b : ByteArray} (h : a = b) : (a.toList == b.toList) = true := by rw [h]; simp
theorem str_no {a b : ByteArray} (h : a ≠ b) : (a.toList == b.toList) = false := by
  cases hq : (a.toList == b.toList) with
  | false => rfl
  | true =>
    have h2 : a.toList = b.toList := by simpa using hq
    rw [ByteArray.toList_eq, ByteArray.toList_eq] at h2
    exact absurd (bytes_inj h2) h
/-- As far as has been looked. -/
def NoF (l : List Nd) (s : ByteArray) (j : Nat) : Prop := ∀ q, ∀ hq : q < l.length, q < j → (l[q]).nm ≠ s
theorem NoF.none {l : List Nd} {s : ByteArray} (h : NoF l s l.length) : IsFind l s (-1) := .inl ⟨rfl, fun e he => by
  obtain ⟨q, hq, rfl⟩ := List.mem_iff_getElem.mp he
  exact h q hq hq⟩
theorem NoF.here {l : List Nd} {s : ByteArray} {j : Nat} (h : NoF l s j) (hj : j < l.length) (e : (l[j]).nm = s) : IsFind l s (j : Int) := .inr ⟨j, hj, rfl, e, fun q hq => h q (by omega) hq⟩
theorem NoF.next {l : List Nd} {s : ByteArray} {j : Nat} (h : NoF l s j) (hj : j < l.length) (e : (l[j]).nm ≠ s) : NoF l s (j + 1) := fun q hq hq2 => by
  by_cases hqj : q = j
  · subst hqj; exact e
  · exact h q hq (by omega)
end Go.Proofs.Ytamndmlaikgogaa.dfA
