/- Layer 7: a reader of bytes. -/
import Derived.Test.YtndekicblbpkjaaOctC
import Derived.Test.YtndekicblbpkjaaKeep
namespace Go.Proofs.Ytndekicblbpkjaa.rdrA
open Go.ChangeShapes Go.WideShapes Go.ChangeAt Go.RowKit
open Go.Proofs.Ytndekicblbpkjaa.base Go.Proofs.Ytndekicblbpkjaa.octA Go.Proofs.Ytndekicblbpkjaa.octB Go.Proofs.Ytndekicblbpkjaa.octC
set_option linter.unusedVariables false

/-- These bytes lie from an address on. -/
def Lies (w : World) (b off : Nat) (l : List Int) : Prop := ∀ i, i < l.length → w.cell? ⟨b, off + i, none⟩ = some (.int .u8 (l.getD i 0))
/-- The reader at block g has these bytes left, which lie in blocks below B. -/
def Rdr (w : World) (B g : Nat) (l : List Int) : Prop :=
  ∃ b off c, Blk w g 128 #[.slice (some ⟨b, off, none⟩) l.length c, .int .i64 0] ∧ b < B ∧ Lies w b off l ∧ l.length ≤ c ∧ c ≤ 9223372036854775807
theorem Lies.take {w : World} {b off : Nat} {l : List Int} (h : Lies w b off l) (k : Nat) : Lies w b off (l.take k) := fun i hi => by
  rw [List.length_take] at hi
  rw [h i (by omega), List.getD_eq_getElem?_getD, List.getD_eq_getElem?_getD, List.getElem?_take, if_pos (by omega)]
theorem Lies.drop {w : World} {b off : Nat} {l : List Int} (h : Lies w b off l) (k : Nat) : Lies w b (off + k) (l.drop k) := fun i hi => by
  rw [List.length_drop] at hi
  rw [Nat.add_assoc, h (k + i) (by omega), List.getD_eq_getElem?_getD, List.getD_eq_getElem?_getD, List.getElem?_drop]
theorem Lies.below {w w' : World} {B b off : Nat} {l : List Int} (h : Lies w b off l) (hb : Below B w w') (hlt : b < B) : Lies w' b off l := fun i hi => (hb.cell (p := ⟨b, off + i, none⟩) hlt).trans (h i hi)
theorem Lies.row {w : World} {B b off : Nat} {l : List Int} (h : Lies w b off l) (hb : b < B) : Row w B (some ⟨b, off, none⟩) (l.map (.int .u8)) := by
  refine .inr ⟨b, off, rfl, hb, fun i u hu => ?_⟩
  rw [List.getElem?_map] at hu
  have hi : i < l.length := by
    rcases Nat.lt_or_ge i l.length with h | h
    · exact h
    · rw [List.getElem?_eq_none h] at hu; cases hu
  rw [h i hi]
  rw [List.getElem?_eq_getElem hi] at hu
  rw [List.getD_eq_getElem?_getD, List.getElem?_eq_getElem hi]
  simpa using hu
theorem lies_of {w : World} {B : Nat} {A : Option Addr} {l : List Int} (h : Row w B A (l.map (.int .u8))) (h0 : 0 < l.length) : ∃ b off, A = some ⟨b, off, none⟩ ∧ b < B ∧ Lies w b off l := slice_from h 0 h0
theorem Rdr.below {w w' : World} {B g B' : Nat} {l : List Int} (h : Rdr w B g l) (hb : Below B' w w') (hB : B ≤ B') (hg : g < B') : Rdr w' B g l := by
  obtain ⟨b, off, c, h1, h2, h3, h4, h5⟩ := h
  exact ⟨b, off, c, h1.below hb hg, h2, h3.below hb (by omega), h4, h5⟩
theorem Rdr.lt {w : World} {B g : Nat} {l : List Int} (h : Rdr w B g l) : g < w.heap.size := by
  obtain ⟨b, off, c, h1, _⟩ := h
  exact h1.lt
/-- Only the first cell of block g may have changed. -/
def Only (g : Nat) (w w' : World) : Prop := ∃ v, w' = w.setCell ⟨g, 0, none⟩ v
section
variable {g : Nat} {w w' : World}
theorem Only.below (h : Only g w w') {B : Nat} (hB : B ≤ g) : Below B w w' := by
  obtain ⟨v, rfl⟩ := h
  exact (Below.refl B w).setCell (p := ⟨g, 0, none⟩) hB v
theorem Only.size (h : Only g w w') : w'.heap.size = w.heap.size := by
  obtain ⟨v, rfl⟩ := h
  simp
theorem Only.blk (h : Only g w w') {x : Nat} {t : TypeId} {cs : Array Value} (hb : Blk w x t cs) (hx : x ≠ g) : Blk w' x t cs := by
  obtain ⟨v, rfl⟩ := h
  exact hb.far (p := ⟨g, 0, none⟩) hx v
theorem Only.from (h : Only g w w') {B : Nat} {a : World} (hb : Below B a w) (hB : B ≤ g) : Below B a w' := by
  obtain ⟨v, rfl⟩ := h
  exact hb.setCell (p := ⟨g, 0, none⟩) hB v
end
theorem own_far {w : World} {base : Nat} {e : TypeId} {v : Value} {n : Nat} {xs : List Value} (h : w.ownsRow base e 1 v n xs) (p : Addr) (hp : p.block < base) (u : Value) : (w.setCell p u).ownsRow base e 1 v n xs := by
  refine ⟨h.1, ?_⟩
  rcases h.2 with hn | ⟨g, cap, cur, rfl, hb, hgg, rest⟩
  · exact .inl hn
  · exact .inr ⟨g, cap, cur, rfl, hb, (Below.heap_setCell w p u g (by omega)).trans hgg, rest⟩
theorem own_base {w : World} {base base' : Nat} {e : TypeId} {v : Value} {n : Nat} {xs : List Value} (h : w.ownsRow base e 1 v n xs) (hb : base' ≤ base) : w.ownsRow base' e 1 v n xs := by
  refine ⟨h.1, ?_⟩
  rcases h.2 with hn | ⟨g, cap, cur, rfl, hg, rest⟩
  · exact .inl hn
  · exact .inr ⟨g, cap, cur, rfl, by omega, rest⟩
def RawPost (w : World) (B g : Nat) (l : List Int) (k : Nat) (e : Ending) (w' : World) : Prop :=
  ∃ b off, e = .returned (.slice (some ⟨b, off, none⟩) k k) ∧ b < B ∧ Lies w' b off (l.take k) ∧ Rdr w' B g (l.drop k) ∧ Only g w w'
theorem raw_any (B g k : Nat) (l : List Int) (w : World) (hB : B ≤ g) (h : Rdr w B g l) (hk : k ≤ l.length) :
    Calls Try.prog 96 #[.pointer (some ⟨g, 0, none⟩), .int .i64 k] w (RawPost w B g l k) := by
  obtain ⟨b, off, c, hblk, hb, hlies, hlc, hc⟩ := h
  have hd : (l.drop k).length = l.length - k := List.length_drop
  have c0 : w.cell? ⟨g, 0, none⟩ = some (.slice (some ⟨b, off, none⟩) l.length c) := by rw [hblk.cell 0]; rfl
  have f0 : w.frozen? ⟨g, 0, none⟩ = false := hblk.frozen 0
  have HBLK := Lib.hid hblk
  have HL := Lib.hid hlies
  have HD := Lib.hid hd
  clear hblk hlies hd
  generalize hn : l.length = n at *
  have HN := Lib.hid hn
  clear hn
  have hbel : ∀ v, Below g w (w.setCell ⟨g, 0, none⟩ v) := fun v => (Below.refl g w).setCell (p := ⟨g, 0, none⟩) (Nat.le_refl g) v
  have HBEL := Lib.hid hbel
  clear hbel
  by_cases hck : c = k
  · subst hck
    have hnc : n = c := by omega
    go_enter Try.func96, Try.ntmps96
    go_wp2_with fail
    go_ret
    refine ⟨b, off, rfl, hb, (HL.out.below (HBEL.out _) (by omega)).take _, ⟨b, off, 0, ?_, hb, fun i hi => ?_, ?_, ?_⟩, ⟨_, rfl⟩⟩
    · rw [HD.out, hnc, Nat.sub_self]; exact (HBLK.out.set_ 0 _)
    · rw [HD.out] at hi; omega
    · rw [HD.out]; omega
    · omega
  · go_enter Try.func96, Try.ntmps96
    go_wp2_with fail
    go_ret
    refine ⟨b, off, rfl, hb, (HL.out.below (HBEL.out _) (by omega)).take _, ⟨b, off + k, c - k, ?_, hb, (HL.out.below (HBEL.out _) (by omega)).drop k, ?_, ?_⟩, ⟨_, rfl⟩⟩
    · rw [HD.out]; exact (HBLK.out.set_ 0 _)
    · rw [HD.out]; omega
    · omega
def NumPost (w : World) (B g : Nat) (l : List Int) (k : Nat) (e : Ending) (w' : World) : Prop :=
  e = .returned (.int .u64 (atN l 0 k)) ∧ Rdr w' B g (l.drop k) ∧ Only g w w'
theorem atN_take (l : List Int) (k : Nat) : ∀ j, j ≤ k → atN (l.take k) 0 j = atN l 0 j := by
  intro j
  induction j with
  | zero => intro _; rfl
  | succ j ih =>
    intro h
    rw [atN, atN, ih (by omega), List.getD_eq_getElem?_getD, List.getD_eq_getElem?_getD, List.getElem?_take, if_pos (by omega)]
theorem num_any (B g k : Nat) (l : List Int) (w : World) (hB : B ≤ g) (h : Rdr w B g l) (hk : k ≤ l.length) (hk8 : k ≤ 8) (hb : ∀ x ∈ l, 0 ≤ x ∧ x ≤ 255) :
    Calls Try.prog 72 #[.pointer (some ⟨g, 0, none⟩), .int .i64 k] w (NumPost w B g l k) := by
  have HR := Lib.hid (raw_any B g k l w hB h hk)
  have HIN := Lib.hid (show ∀ j, 0 ≤ atN l 0 j ∧ atN l 0 j < 256 ^ j from fun j => atN_in l 0 hb j)
  have HG := Lib.hid (show ∀ j, 0 ≤ l.getD j 0 ∧ l.getD j 0 ≤ 255 from fun j => getD_in l hb j)
  have HTL := Lib.hid (show (l.take k).length = k by rw [List.length_take]; omega)
  clear h hb hk
  go_enter Try.func72, Try.ntmps72
  go_wp2_with fail
  refine HR.out.mono ?_
  rintro e w1 ⟨b, off, rfl, hbB, hlies, hrdr, hbel⟩
  have HL := Lib.hid hlies
  have HRD := Lib.hid hrdr
  have HBE := Lib.hid hbel
  clear hlies hrdr hbel
  go_wp2_with fail
  go_loop [5, 7, 12] (fun x _ i => ∃ j : Nat, j ≤ k ∧ i = .int .i64 j ∧ x = .int .u64 (atN l 0 j)) (fun _ _ i => k - (intOf i).toNat)
  case atStart => exact ⟨0, by omega, rfl, rfl⟩
  case round =>
    obtain ⟨j, hj, rfl, rfl⟩ := hrel
    by_cases hlt : j < k
    · have hin := HIN.out j
      have hp := pow256 j (by omega)
      have hst : atN l 0 (j + 1) = atN l 0 j * 256 + l.getD (0 + j) 0 := rfl
      rw [Nat.zero_add] at hst
      have hg := HG.out j
      obtain ⟨z, hz⟩ := Int.eq_ofNat_of_zero_le hin.1
      have hz2 : (z : Int) * 256 + 255 < 18446744073709551616 := by rw [← hz]; omega
      rw [hz] at hst ⊢
      clear hin hp hz
      have hcell := HL.out j (by rw [HTL.out]; exact hlt)
      rw [List.getD_eq_getElem?_getD, List.getElem?_take, if_pos hlt, ← List.getD_eq_getElem?_getD] at hcell
      obtain ⟨y, hy⟩ := Int.eq_ofNat_of_zero_le hg.1
      rw [hy] at hst hcell hg
      have hor := or_add z y (by omega) (by omega)
      have e3 : IntKind.u64.wrap ((z : Int) * 256) = (z : Int) * 256 := by rw [IntKind.wrap_u64]; omega
      have e4 : IntKind.u64.wrap (y : Int) = (y : Int) := by rw [IntKind.wrap_u64]; omega
      have HST := Lib.hid hst
      clear hst hy
      go_wp2_with fail
      go_round
      case rel => exact ⟨j + 1, by omega, by go_num, by rw [HST.out]⟩
      case measure => simp [intOf]; omega
    · obtain rfl : k = j := by omega
      generalize hg : atN l 0 k = z at *
      have HZ := Lib.hid hg
      clear hg
      go_wp2_with fail
      go_ret
      refine ⟨?_, HRD.out, HBE.out⟩
      rw [HZ.out]
      rfl
theorem read_any (b off c : Nat) (l : List Int) (w : World) :
    Calls Try.prog 71 #[.slice (some ⟨b, off, none⟩) l.length c] w fun e w' => e = .returned (.pointer (some ⟨w.heap.size, 0, none⟩)) ∧ w' = w.alloc (.cells #[.slice (some ⟨b, off, none⟩) l.length c, .int .i64 0] 128) := by
  generalize l.length = n
  go_enter Try.func71, Try.ntmps71
  go_wp2
  go_ret
  exact ⟨rfl, rfl⟩
def ReadPost (w : World) (B : Nat) (l : List Int) (e : Ending) (w' : World) : Prop :=
  e = .returned (.pointer (some ⟨w.heap.size, 0, none⟩)) ∧ Rdr w' B w.heap.size l ∧ Below w.heap.size w w' ∧ w'.heap.size = w.heap.size + 1
theorem read_rdr (b off n c B : Nat) (l : List Int) (w : World) (hl : l.length = n) (hnc : n ≤ c) (hc : c ≤ 9223372036854775807) (hb : b < B) (hB : B ≤ w.heap.size) (hs : Lies w b off l) :
    Calls Try.prog 71 #[.slice (some ⟨b, off, none⟩) n c] w (ReadPost w B l) := by
  subst hl
  refine (read_any b off c l w).mono ?_
  rintro e w' ⟨rfl, rfl⟩
  refine ⟨rfl, ⟨b, off, c, Blk.new _ _ _, hb, hs.below ((Below.refl _ _).alloc (Nat.le_refl _) _) (by omega), hnc, hc⟩, (Below.refl _ _).alloc (Nat.le_refl _) _, by simp⟩
end Go.Proofs.Ytndekicblbpkjaa.rdrA
