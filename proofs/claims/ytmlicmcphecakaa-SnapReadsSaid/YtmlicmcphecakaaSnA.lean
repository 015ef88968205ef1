/- Layer 44: ops and their bytes, in plain words. -/
import Derived.Test.YtmlicmcphecakaaNet
import Derived.Lib.AppendStr
namespace Go.Proofs.Ytmlicmcphecakaa.snA
open Go.ChangeShapes Go.WideShapes Go.ChangeAt Go.RowKit
open Go.Proofs.Ytmlicmcphecakaa.base Go.Proofs.Ytmlicmcphecakaa.octA Go.Proofs.Ytmlicmcphecakaa.octB Go.Proofs.Ytmlicmcphecakaa.net
set_option linter.unusedVariables false

/-- An op: its numbers, its text's bytes (and where they lie), its name. -/
structure Ob where
  kind : Int
  A : Option Addr
  c : Nat
  bs : List Int
  nm : ByteArray
  host : Int
  n : Int
  up : Bool
def Ob.cells (o : Ob) : Array Value := #[.int .i64 o.kind, .slice o.A o.bs.length o.c, .string o.nm, .int .i64 o.host, .int .i64 o.n, .bool o.up]
def RightP (k : Int) (nb sz : Nat) (h n : Int) : Prop := 0 ≤ k ∧ k ≤ 255 ∧ nb ≤ 65536 ∧ sz ≤ 255 ∧ 0 ≤ h ∧ h ≤ 4294967295 ∧ 0 ≤ n ∧ n ≤ 4294967295
instance (k : Int) (nb sz : Nat) (h n : Int) : Decidable (RightP k nb sz h n) := by unfold RightP; infer_instance
def Ob.right (o : Ob) : Prop := RightP o.kind o.bs.length o.nm.size o.host o.n
instance (o : Ob) : Decidable o.right := by unfold Ob.right; infer_instance
/-- A text's bytes. -/
def strZ (s : ByteArray) : List Int := s.data.toList.map fun b => (b.toNat : Int)
theorem strCells_Z (s : ByteArray) : Lib.strCells s = (strZ s).map (.int .u8) := by
  unfold Lib.strCells strZ
  rw [List.map_map]
  rfl
theorem strZ_len (s : ByteArray) : (strZ s).length = s.size := by
  unfold strZ
  rw [List.length_map]
  rfl
theorem strZ_in (s : ByteArray) : ∀ x ∈ strZ s, 0 ≤ x ∧ x ≤ 255 := fun x hx => by
  unfold strZ at hx
  rw [List.mem_map] at hx
  obtain ⟨b, _, rfl⟩ := hx
  have := b.toNat_lt
  omega
def upZ (b : Bool) : Int := if b = true then 1 else 0
/-- The bytes of an op. -/
def opB (o : Ob) : List Int := allb 1 [o.kind, upZ o.up] ++ allb 4 [o.host, o.n, (o.bs.length : Int)] ++ o.bs ++ pb (o.nm.size : Int) 1 1 ++ strZ o.nm
def opsB (l : List Ob) : List Int := l.flatMap opB
theorem opsB_snoc (l : List Ob) (o : Ob) : opsB (l ++ [o]) = opsB l ++ opB o := by simp [opsB]
theorem opB_len (o : Ob) : (opB o).length = 15 + o.bs.length + o.nm.size := by
  unfold opB
  rw [List.length_append, List.length_append, List.length_append, List.length_append, allb_len, allb_len, pb_len, strZ_len]
  simp
  omega
/-- The bytes of ops: how many, and each. -/
def allO (l : List Ob) : List Int := [68, 83, 84, 49] ++ pb (l.length : Int) 4 4 ++ opsB l
theorem pb_in (n : Int) (k j : Nat) : ∀ x ∈ pb n k j, 0 ≤ x ∧ x ≤ 255 := fun x hx => by
  unfold pb at hx
  rw [List.mem_map] at hx
  obtain ⟨t, _, rfl⟩ := hx
  exact byteZ_in _ _
theorem allb_in (k : Nat) (l : List Int) : ∀ x ∈ allb k l, 0 ≤ x ∧ x ≤ 255 := fun x hx => by
  unfold allb at hx
  rw [List.mem_flatMap] at hx
  obtain ⟨n, _, h⟩ := hx
  exact pb_in n k k x h
theorem opB_in (o : Ob) (h : ∀ x ∈ o.bs, 0 ≤ x ∧ x ≤ 255) : ∀ x ∈ opB o, 0 ≤ x ∧ x ≤ 255 := fun x hx => by
  unfold opB at hx
  simp only [List.mem_append] at hx
  rcases hx with (((h1 | h1) | h1) | h1) | h1
  · exact allb_in _ _ x h1
  · exact allb_in _ _ x h1
  · exact h x h1
  · exact pb_in _ _ _ x h1
  · exact strZ_in _ x h1
theorem opsB_in (l : List Ob) (h : ∀ o ∈ l, ∀ x ∈ o.bs, 0 ≤ x ∧ x ≤ 255) : ∀ x ∈ opsB l, 0 ≤ x ∧ x ≤ 255 := fun x hx => by
  unfold opsB at hx
  rw [List.mem_flatMap] at hx
  obtain ⟨o, ho, h1⟩ := hx
  exact opB_in o (h o ho) x h1
theorem opsB_len (l : List Ob) (h : ∀ o ∈ l, o.bs.length ≤ 600 ∧ o.nm.size ≤ 255) : (opsB l).length ≤ 870 * l.length := by
  induction l with
  | nil => exact Nat.le_refl _
  | cons o l ih =>
    have e : opsB (o :: l) = opB o ++ opsB l := by simp [opsB]
    have h1 := h o (by simp)
    have h2 := ih (fun x hx => h x (by simp [hx]))
    rw [e, List.length_append, opB_len, List.length_cons]
    omega
/-- A slice that reads as ops. -/
structure RdO (w : World) (A : Option Addr) (l : List Ob) : Prop where
  row : l = [] ∨ ∃ b off, A = some ⟨b, off, none⟩ ∧ b < w.heap.size ∧ ∀ j (hj : j < l.length), ∀ i, i < 6 → w.cell? ⟨b, off + j * 6 + i, none⟩ = (l[j]).cells[i]?
  els : ∀ o ∈ l, Row w w.heap.size o.A (o.bs.map (.int .u8)) ∧ o.bs.length ≤ o.c ∧ o.c ≤ 9223372036854775807 ∧ o.nm.size ≤ 9223372036854775807 ∧ ∀ x ∈ o.bs, 0 ≤ x ∧ x ≤ 255
theorem RdO.at_ {w : World} {A : Option Addr} {l : List Ob} (h : RdO w A l) (j : Nat) (hj : j < l.length) : ∃ b off, A = some ⟨b, off, none⟩ ∧ b < w.heap.size ∧ ∀ i, i < 6 → w.cell? ⟨b, off + j * 6 + i, none⟩ = (l[j]).cells[i]? := by
  rcases h.row with rfl | ⟨b, off, h1, h2, h3⟩
  · simp at hj
  · exact ⟨b, off, h1, h2, h3 j hj⟩
theorem RdO.below {w w' : World} {A : Option Addr} {l : List Ob} (h : RdO w A l) (hb : Below w.heap.size w w') : RdO w' A l := by
  refine ⟨?_, fun o ho => ?_⟩
  · rcases h.row with rfl | ⟨b, off, h1, h2, h3⟩
    · exact .inl rfl
    · exact .inr ⟨b, off, h1, Nat.lt_of_lt_of_le h2 hb.size, fun j hj i hi => (hb.cell (p := ⟨b, off + j * 6 + i, none⟩) h2).trans (h3 j hj i hi)⟩
  · obtain ⟨h1, h2⟩ := h.els o ho
    exact ⟨(h1.below hb).more hb.size, h2⟩
end Go.Proofs.Ytmlicmcphecakaa.snA
