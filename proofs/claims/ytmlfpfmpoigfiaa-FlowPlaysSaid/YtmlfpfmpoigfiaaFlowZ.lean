/- Layer 27: its example. -/
import Derived.Test.YtmlfpfmpoigfiaaFlowY
namespace Go.Proofs.Ytmlfpfmpoigfiaa.flowZ
open Go.ChangeShapes Go.WideShapes Go.ChangeAt Go.RowKit
open Go.Proofs.Ytmlfpfmpoigfiaa.base Go.Proofs.Ytmlfpfmpoigfiaa.flowA Go.Proofs.Ytmlfpfmpoigfiaa.flowB Go.Proofs.Ytmlfpfmpoigfiaa.flowC Go.Proofs.Ytmlfpfmpoigfiaa.flowD Go.Proofs.Ytmlfpfmpoigfiaa.flowE Go.Proofs.Ytmlfpfmpoigfiaa.flowF Go.Proofs.Ytmlfpfmpoigfiaa.flowG Go.Proofs.Ytmlfpfmpoigfiaa.flowH Go.Proofs.Ytmlfpfmpoigfiaa.flowI Go.Proofs.Ytmlfpfmpoigfiaa.flowL Go.Proofs.Ytmlfpfmpoigfiaa.flowM Go.Proofs.Ytmlfpfmpoigfiaa.flowN Go.Proofs.Ytmlfpfmpoigfiaa.flowO Go.Proofs.Ytmlfpfmpoigfiaa.flowP Go.Proofs.Ytmlfpfmpoigfiaa.flowQ Go.Proofs.Ytmlfpfmpoigfiaa.flowR Go.Proofs.Ytmlfpfmpoigfiaa.flowS Go.Proofs.Ytmlfpfmpoigfiaa.flowT Go.Proofs.Ytmlfpfmpoigfiaa.flowU Go.Proofs.Ytmlfpfmpoigfiaa.flowV Go.Proofs.Ytmlfpfmpoigfiaa.flowW Go.Proofs.Ytmlfpfmpoigfiaa.flowX Go.Proofs.Ytmlfpfmpoigfiaa.flowY
set_option linter.unusedVariables false

def ex1 : Ent := ⟨⟨0, false, 0, 0, false, 0, 0, 0, 0⟩, 1, 0, 0⟩
def ex2 : Ent := ⟨⟨6, false, 0, 0, false, 0, 0, 0, 0⟩, 2, 0, 0⟩
/-- A table that a call has made, and what is below it. -/
structure Own27 (B : Nat) (w0 w : World) (ta r : Nat) (v : Value) (n : Nat) (seed : Int) (l : List Ent) : Prop where
  tab : Tab w ta r v n seed l
  bel : Below B w0 w
  h1 : B ≤ ta
  h2 : B ≤ r
  h3 : ∀ g, v.ownBlock = some g → B ≤ g
theorem Own27.frm {B : Nat} {w0 w w' : World} {ta r : Nat} {v : Value} {n : Nat} {seed : Int} {l : List Ent} (h : Own27 B w0 w ta r v n seed l) (hf : Frm ta r v w w') (hB : B ≤ w0.heap.size) : Below B w0 w' :=
  h.bel.trans (hf.below h.h1 h.h2 h.h3 (Nat.le_trans hB h.bel.size))
theorem Own27.put {B : Nat} {w0 w : World} {ta r : Nat} {v : Value} {n : Nat} {seed : Int} {l : List Ent} (h : Own27 B w0 w ta r v n seed l) (hB : B ≤ w0.heap.size) (e : Ent) (hn : 1 ≤ n) (hn2 : n ≤ 4096) :
    Calls Try.prog 7 #[.pointer (some ⟨ta, 0, none⟩), .agg e.cells] w fun o w' => ∃ v2 g ok l2, o = .returned (.tuple #[.agg (Ent.cells g), .bool ok]) ∧ Own27 B w0 w' ta r v2 n seed l2 ∧ ((∃ A e0 B0, l = A ++ e0 :: B0 ∧ e0.x = e.x ∧ g = zeroE ∧ ok = false ∧ l2 = e :: (A ++ B0)) ∨ ((∀ e0, e0 ∈ l → e0.x ≠ e.x) ∧ l.length < n ∧ g = zeroE ∧ ok = false ∧ l2 = e :: l) ∨ ((∀ e0, e0 ∈ l → e0.x ≠ e.x) ∧ l.length = n ∧ ∃ A, l = A ++ [g] ∧ ok = true ∧ l2 = e :: A)) := by
  refine (put_tab e h.tab hn hn2).mono ?_
  rintro o w' ⟨v2, hf, hv, hd⟩
  have hb := h.frm hf hB
  have hv3 : ∀ g, v2.ownBlock = some g → B ≤ g := fun g e => by
    rcases hv g e with e2 | e2
    · exact h.h3 g e2
    · exact Nat.le_trans (Nat.le_trans hB h.bel.size) e2
  rcases hd with ⟨A, e0, B0, hl, hx, ho, ht⟩ | ⟨hno, hlen, ho, ht⟩ | ⟨hno, hlen, A, e0, hl, ho, ht⟩
  · exact ⟨v2, zeroE, false, _, ho, ⟨ht, hb, h.h1, h.h2, hv3⟩, .inl ⟨A, e0, B0, hl, hx, rfl, rfl, rfl⟩⟩
  · exact ⟨v2, zeroE, false, _, ho, ⟨ht, hb, h.h1, h.h2, hv3⟩, .inr (.inl ⟨hno, hlen, rfl, rfl, rfl⟩)⟩
  · exact ⟨v2, e0, true, _, ho, ⟨ht, hb, h.h1, h.h2, hv3⟩, .inr (.inr ⟨hno, hlen, A, hl, rfl, rfl⟩)⟩
set_option maxHeartbeats 4000000 in
theorem awake_any (w : World) : Calls Try.prog 18 #[] w fun e w' => e = .returned (.bool true) ∧ Below w.heap.size w w' := by
  have HN := Lib.hid (new_good 1 0 w (by omega) (by omega))
  go_enter Try.func18, Try.ntmps18
  go_wp2_with fail
  refine HN.out.mono ?_
  rintro o w1 ⟨ta, r, rfl, ht, h1, h2, hb⟩
  have S1 := Lib.hid (show Own27 w.heap.size w w1 ta r (.slice none 0 0) 1 0 [] from ⟨ht, hb, h1, h2, fun g e => by cases e⟩)
  clear ht h1 h2 hb HN
  go_wp2_with fail
  refine (S1.out.put (Nat.le_refl _) ex1 (by omega) (by omega)).mono ?_
  rintro o w2 ⟨v2, g, ok, l2, rfl, hs, hd⟩
  have hl2 : l2 = [ex1] := by
    rcases hd with ⟨A, e0, B0, hl, _⟩ | ⟨_, _, _, _, hl⟩ | ⟨_, hlen, _⟩
    · simp at hl
    · exact hl
    · simp at hlen
  rw [hl2] at hs
  have S2 := Lib.hid hs
  clear hs hd hl2 S1
  go_wp2_with fail
  refine (S2.out.put (Nat.le_refl _) ex2 (by omega) (by omega)).mono ?_
  rintro o w3 ⟨v3, g3, ok3, l3, rfl, hs, hd⟩
  obtain ⟨rfl, rfl, rfl⟩ : g3 = ex1 ∧ ok3 = true ∧ l3 = [ex2] := by
    rcases hd with ⟨A, e0, B0, hl, hx, _⟩ | ⟨_, hlen, _⟩ | ⟨_, _, A, hl, h1, h2⟩
    · cases A with
      | nil =>
        simp only [List.nil_append, List.cons.injEq] at hl
        rw [← hl.1] at hx
        have h6 := congrArg Tup.pr hx
        exact absurd h6 (by decide)
      | cons a A => simp at hl
    · simp at hlen
    · cases A with
      | nil =>
        simp only [List.nil_append, List.cons.injEq, and_true] at hl
        exact ⟨hl.symm, h1, h2⟩
      | cons a A => simp at hl
  have S3 := Lib.hid hs
  clear hs hd S2
  have HA := Lib.hid ((Below.refl w3.heap.size w3).alloc (Nat.le_refl _) (.cells #[.int .i64 0, .bool false, .int .u64 0, .int .u64 0, .bool false, .int .u64 0, .int .u64 0, .int .i64 0, .int .i64 0, .int .i64 1, .int .i64 0, .int .i64 0] 33))
  have HL := Lib.hid (len_tab (S3.out.tab.far HA.out))
  have HBZ := Lib.hid (S3.out.bel.trans (HA.out.mono S3.out.bel.size))
  rw [show [ex2].length = 1 from rfl] at HL
  unfold ex1 Ent.cells
  dsimp only
  go_wp2_with fail
  refine HL.out.mono ?_
  rintro o w5 ⟨rfl, hb⟩
  have HB5 := Lib.hid (HBZ.out.trans (hb.mono HBZ.out.size))
  clear hb
  go_wp2_with fail
  go_ret
  first | exact ⟨rfl, HB5.out⟩ | exact ⟨rfl, HB5.out.drew⟩
end Go.Proofs.Ytmlfpfmpoigfiaa.flowZ
