/- Layer 10: a reader's rest; the header that bytes begin with. -/
import Derived.Test.YtmlicmcphecakaaUdpA
namespace Go.Proofs.Ytmlicmcphecakaa.tcpC
open Go.ChangeShapes Go.WideShapes Go.ChangeAt Go.RowKit
open Go.Proofs.Ytmlicmcphecakaa.base Go.Proofs.Ytmlicmcphecakaa.octA Go.Proofs.Ytmlicmcphecakaa.octB Go.Proofs.Ytmlicmcphecakaa.octC Go.Proofs.Ytmlicmcphecakaa.octF Go.Proofs.Ytmlicmcphecakaa.rdrA Go.Proofs.Ytmlicmcphecakaa.udpA
set_option linter.unusedVariables false

theorem left_any (B g : Nat) (l : List Int) (w : World) (h : Rdr w B g l) :
    Calls Try.prog 21 #[.pointer (some ⟨g, 0, none⟩)] w fun e w' => e = .returned (.int .i64 (l.length : Int)) ∧ w = w' := by
  obtain ⟨b, off, c, hblk, _⟩ := h
  have c0 : w.cell? ⟨g, 0, none⟩ = some (.slice (some ⟨b, off, none⟩) l.length c) := hblk.cell 0
  clear hblk
  generalize l.length = n at *
  go_enter Try.func21, Try.ntmps21
  go_wp2
  go_ret
  exact ⟨rfl, rfl⟩
def RestPost (w : World) (g : Nat) (l : List Int) (e : Ending) (w' : World) : Prop :=
  ∃ v w1, e = .returned v ∧ Only g w w1 ∧ w'.ownsRow w1.heap.size 5 1 v l.length (l.map (.int .u8)) ∧ Below w1.heap.size w1 w'
theorem atN_one (l : List Int) (i : Nat) : atN (l.drop i) 0 1 = l.getD i 0 := by
  show 0 * 256 + (l.drop i).getD (0 + 0) 0 = _
  rw [List.getD_eq_getElem?_getD, List.getElem?_drop, ← List.getD_eq_getElem?_getD]
  simp
def w32 (l : List Int) (i : Nat) : Int := w16 l i * 65536 + w16 l (i + 2)
theorem atN_four (l : List Int) (i : Nat) : atN (l.drop i) 0 4 = w32 l i := by
  have e : ∀ j, (l.drop i).getD j 0 = l.getD (i + j) 0 := fun j => by
    rw [List.getD_eq_getElem?_getD, List.getD_eq_getElem?_getD, List.getElem?_drop]
  show (((0 * 256 + (l.drop i).getD (0 + 0) 0) * 256 + (l.drop i).getD (0 + 1) 0) * 256 + (l.drop i).getD (0 + 2) 0) * 256 + (l.drop i).getD (0 + 3) 0 = _
  rw [e, e, e, e]
  unfold w32 w16
  simp only [Nat.add_zero, Nat.zero_add, Nat.add_assoc]
  show _ = (l.getD i 0 * 256 + l.getD (i + 1) 0) * 65536 + (l.getD (i + 2) 0 * 256 + l.getD (i + 3) 0)
  omega
theorem w32_in (l : List Int) (hb : ∀ x ∈ l, 0 ≤ x ∧ x ≤ 255) (i : Nat) : 0 ≤ w32 l i ∧ w32 l i ≤ 4294967295 := by
  have a := w16_in l hb i
  have b := w16_in l hb (i + 2)
  unfold w32
  omega
def NPost (w : World) (B g i k : Nat) (v : Int) (l : List Int) (e : Ending) (w' : World) : Prop :=
  e = .returned (.int .u64 v) ∧ Rdr w' B g (l.drop (i + k)) ∧ Only g w w'
theorem num_one (B g i : Nat) (l : List Int) (w : World) (hB : B ≤ g) (h : Rdr w B g (l.drop i)) (hk : i + 1 ≤ l.length) (hb : ∀ x ∈ l, 0 ≤ x ∧ x ≤ 255) :
    Calls Try.prog 18 #[.pointer (some ⟨g, 0, none⟩), .int .i64 1] w (NPost w B g i 1 (l.getD i 0) l) := by
  refine (num_any B g 1 (l.drop i) w hB h (by rw [List.length_drop]; omega) (by omega) (drop_u8 hb i)).mono ?_
  rintro e w' ⟨rfl, h1, h2⟩
  exact ⟨by rw [atN_one], by rwa [List.drop_drop] at h1, h2⟩
theorem num_four (B g i : Nat) (l : List Int) (w : World) (hB : B ≤ g) (h : Rdr w B g (l.drop i)) (hk : i + 4 ≤ l.length) (hb : ∀ x ∈ l, 0 ≤ x ∧ x ≤ 255) :
    Calls Try.prog 18 #[.pointer (some ⟨g, 0, none⟩), .int .i64 4] w (NPost w B g i 4 (w32 l i) l) := by
  refine (num_any B g 4 (l.drop i) w hB h (by rw [List.length_drop]; omega) (by omega) (drop_u8 hb i)).mono ?_
  rintro e w' ⟨rfl, h1, h2⟩
  exact ⟨by rw [atN_four], by rwa [List.drop_drop] at h1, h2⟩
def ReadPost (w : World) (l : List Int) (e : Ending) (w' : World) : Prop :=
  ∃ A n c, e = .returned (.agg #[.int .i64 (w16 l 0), .int .i64 (w16 l 2), .int .u32 (w32 l 4), .int .u32 (w32 l 8), .int .i64 (l.getD 13 0), .int .i64 (w16 l 14), .int .i64 (w16 l 18), .slice A n c]) ∧ n = l.length - 20 ∧ (A = none → c = 0) ∧ w'.ownsRow w.heap.size 5 1 (.slice A n c) n ((l.drop 20).map (.int .u8)) ∧ Below w.heap.size w w'
theorem own_none {w : World} {base : Nat} {e : TypeId} {A : Option Addr} {n c : Nat} {xs : List Value} (h : w.ownsRow base e 1 (.slice A n c) n xs) : A = none → c = 0 := fun hA => by
  rcases Go.Proofs.Ytmlicmcphecakaa.octE.own_cases h with ⟨h, _⟩ | ⟨g, cap, h, _⟩
  · injection h
  · injection h with h; rw [hA] at h; cases h
end Go.Proofs.Ytmlicmcphecakaa.tcpC
