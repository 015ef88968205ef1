/- Layer 29: New, the example. -/
import Derived.Test.YtboknpkcpeoebaaPinD
namespace Go.Proofs.Ytboknpkcpeoebaa.pinE
open Go.ChangeShapes Go.WideShapes Go.ChangeAt Go.RowKit
open Go.Proofs.Ytboknpkcpeoebaa.base Go.Proofs.Ytboknpkcpeoebaa.flowE Go.Proofs.Ytboknpkcpeoebaa.flowG Go.Proofs.Ytboknpkcpeoebaa.flowI Go.Proofs.Ytboknpkcpeoebaa.flowP Go.Proofs.Ytboknpkcpeoebaa.flowS Go.Proofs.Ytboknpkcpeoebaa.flowT Go.Proofs.Ytboknpkcpeoebaa.flowX Go.Proofs.Ytboknpkcpeoebaa.connD Go.Proofs.Ytboknpkcpeoebaa.pinA
open Go.Proofs.Ytboknpkcpeoebaa.pinB Go.Proofs.Ytboknpkcpeoebaa.pinC Go.Proofs.Ytboknpkcpeoebaa.pinD Go.Proofs.Ytboknpkcpeoebaa.flowO Go.Proofs.Ytboknpkcpeoebaa.flowY Go.Proofs.Ytboknpkcpeoebaa.connA Go.Proofs.Ytboknpkcpeoebaa.connB
set_option linter.unusedVariables false

def NewPost (n : Nat) (seed : Int) (R : Rl) (w : World) (o : Ending) (w' : World) : Prop := ∃ pa ta r, o = .returned (.tuple #[.pointer (some ⟨pa, 0, none⟩), .int .i64 0]) ∧ Pn w' pa ta r (.slice none 0 0) n seed R 0 [] ∧ w.heap.size ≤ pa ∧ w.heap.size ≤ ta ∧ w.heap.size ≤ r ∧ Below w.heap.size w w'
set_option maxHeartbeats 2000000 in
theorem new_ok (n : Nat) (seed : Int) (R : Rl) (w : World) (hn : 1 ≤ n) (hn2 : n ≤ 4096) (hR : rightB R.a R.b R.c R.d = true) : Calls Try.prog 15 #[.int .i64 n, .int .u64 seed, .agg #[.int .i64 R.a, .int .i64 R.b, .int .i64 R.c, .int .i64 R.d]] w (NewPost n seed R w) := by
  have hb1 : Below w.heap.size w (w.alloc (.cells #[.int .i64 R.a, .int .i64 R.b, .int .i64 R.c, .int .i64 R.d] 32)) := (Below.refl w.heap.size w).alloc (Nat.le_refl _) _
  have HB1 := Lib.hid hb1
  have HK1 := Lib.hid (Blk.new w 32 #[.int .i64 R.a, .int .i64 R.b, .int .i64 R.c, .int .i64 R.d])
  have HRT := Lib.hid (right_any R.a R.b R.c R.d (w.alloc (.cells #[.int .i64 R.a, .int .i64 R.b, .int .i64 R.c, .int .i64 R.d] 32)))
  rw [hR] at HRT
  have HNW := Lib.hid (fun W => new_good n seed W hn hn2)
  have HR := Lib.hid hR
  clear hb1 hR
  go_enter Try.func15, Try.ntmps15
  go_wp2_with fail
  refine HRT.out.mono ?_
  rintro o w2 ⟨rfl, hb⟩
  have HK2 := Lib.hid (HK1.out.below hb HK1.out.lt)
  have HB2 := Lib.hid (HB1.out.trans (hb.mono HB1.out.size))
  clear hb
  go_wp2_with fail
  refine (HNW.out _).mono ?_
  rintro o w3 ⟨ta, r, rfl, ht, h1, h2, hb⟩
  have hk3 := HK2.out.below hb HK2.out.lt
  have c0 : w3.cell? ⟨w.heap.size, 0, none⟩ = some (.int .i64 R.a) := hk3.cell 0
  have c1 : w3.cell? ⟨w.heap.size, 1, none⟩ = some (.int .i64 R.b) := hk3.cell 1
  have c2 : w3.cell? ⟨w.heap.size, 2, none⟩ = some (.int .i64 R.c) := hk3.cell 2
  have c3 : w3.cell? ⟨w.heap.size, 3, none⟩ = some (.int .i64 R.d) := hk3.cell 3
  have hb4 : Below w3.heap.size w3 (w3.alloc (.cells #[.pointer (some ⟨ta, 0, none⟩), .int .i64 R.a, .int .i64 R.b, .int .i64 R.c, .int .i64 R.d, .int .i64 0] 34)) := (Below.refl w3.heap.size w3).alloc (Nat.le_refl _) _
  have HP := Lib.hid (show NewPost n seed R w (.returned (.tuple #[.pointer (some ⟨w3.heap.size, 0, none⟩), .int .i64 0])) (w3.alloc (.cells #[.pointer (some ⟨ta, 0, none⟩), .int .i64 R.a, .int .i64 R.b, .int .i64 R.c, .int .i64 R.d, .int .i64 0] 34)) from
    ⟨w3.heap.size, ta, r, rfl, ⟨Blk.new w3 _ _, ht.far hb4, by have := tab_lt ht ta (.inl rfl); omega, by have := tab_lt ht r (.inr (.inl rfl)); omega, (fun g e => by cases e), HR.out, by omega, by omega⟩, Nat.le_trans HB2.out.size hb.size, Nat.le_trans HB2.out.size h1, Nat.le_trans HB2.out.size h2, (HB2.out.trans (hb.mono HB2.out.size)).alloc (Nat.le_trans HB2.out.size hb.size) _⟩)
  clear ht h1 h2 hb hk3 hb4
  go_wp2_with fail
  go_ret2
  exact HP.out
/-- The flow of the example. -/
def exT : Tup := ⟨6, false, 0, 0, false, 0, 0, 0, 0⟩
def exR : Rl := ⟨30, 3600, 60, 120⟩
/-- Pins that a call has made, a flow beside them, what is below. -/
structure St (w0 : World) (q pa ta r : Nat) (v : Value) (l : List Ent) (w : World) : Prop where
  pn : Pn w pa ta r v 2 0 exR 0 l
  box : Blk w q 26 exT.cells
  bel : Below w0.heap.size w0 w
  h1 : w0.heap.size ≤ pa
  h2 : w0.heap.size ≤ ta
  h3 : w0.heap.size ≤ r
  h4 : ∀ g, v.ownBlock = some g → w0.heap.size ≤ g ∧ g ≠ q
  h5 : q ≠ ta ∧ q ≠ r
theorem St.below {w0 : World} {q pa ta r : Nat} {v : Value} {l : List Ent} {w w' : World} (h : St w0 q pa ta r v l w) (hb : Below w.heap.size w w') : St w0 q pa ta r v l w' :=
  ⟨h.pn.far hb, h.box.below hb h.box.lt, h.bel.trans (hb.mono h.bel.size), h.h1, h.h2, h.h3, h.h4, h.h5⟩
theorem St.frm {w0 : World} {q pa ta r : Nat} {v v2 : Value} {l l2 : List Ent} {w w' : World} (h : St w0 q pa ta r v l w) (hp : Pn w' pa ta r v2 2 0 exR 0 l2) (hf : Frm ta r v w w') (hv : ∀ g, v2.ownBlock = some g → v.ownBlock = some g ∨ w.heap.size ≤ g) : St w0 q pa ta r v2 l2 w' :=
  ⟨hp, hf.blk h.box h.h5.1 h.h5.2 (fun e => (h.h4 q e.symm).2 rfl), h.bel.trans (hf.below h.h2 h.h3 (fun g e => (h.h4 g e).1) h.bel.size), h.h1, h.h2, h.h3, (fun g e => by
    rcases hv g e with h9 | h9
    · exact h.h4 g h9
    · have a := h.bel.size
      have b := h.box.lt
      exact ⟨by omega, by omega⟩), h.h5⟩
theorem St.cells {w0 : World} {q pa ta r : Nat} {v : Value} {l : List Ent} {w : World} (h : St w0 q pa ta r v l w) : w.cell? ⟨q, 0, none⟩ = some (.int .i64 6) ∧ w.cell? ⟨q, 1, none⟩ = some (.bool false) ∧ w.cell? ⟨q, 2, none⟩ = some (.int .u64 0) ∧ w.cell? ⟨q, 3, none⟩ = some (.int .u64 0) ∧ w.cell? ⟨q, 4, none⟩ = some (.bool false) ∧ w.cell? ⟨q, 5, none⟩ = some (.int .u64 0) ∧ w.cell? ⟨q, 6, none⟩ = some (.int .u64 0) ∧ w.cell? ⟨q, 7, none⟩ = some (.int .i64 0) ∧ w.cell? ⟨q, 8, none⟩ = some (.int .i64 0) :=
  ⟨h.box.cell 0, h.box.cell 1, h.box.cell 2, h.box.cell 3, h.box.cell 4, h.box.cell 5, h.box.cell 6, h.box.cell 7, h.box.cell 8⟩
theorem begin_no : beginZ 6 4 = 4 := by decide
theorem begin_yes : beginZ 6 2 = 1 := by decide
set_option maxRecDepth 100000 in
set_option maxHeartbeats 4000000 in
theorem awake_any (w : World) : Calls Try.prog 14 #[] w fun e w' => e = .returned (.bool true) ∧ Below w.heap.size w w' := by
  have HPL := Lib.hid (fun W => plain_any W)
  have HNW := Lib.hid (show ∀ W, Calls Try.prog 15 #[.int .i64 2, .int .u64 0, .agg #[.int .i64 30, .int .i64 3600, .int .i64 60, .int .i64 120]] W (NewPost 2 0 exR W) from fun W => new_ok 2 0 exR W (by omega) (by omega) (by decide))
  have HPN := Lib.hid (show ∀ W q pa ta r v l f, St w q pa ta r v l W → Calls Try.prog 6 #[.pointer (some ⟨pa, 0, none⟩), .agg #[.int .i64 6, .bool false, .int .u64 0, .int .u64 0, .bool false, .int .u64 0, .int .u64 0, .int .i64 0, .int .i64 0], .int .i64 5, .int .i64 f] W (PinPost pa ta r v 2 0 exR 0 l exT 5 f W) from fun W q pa ta r v l f h => pin_any exT 5 f h.pn (by omega) (by omega))
  have HHO := Lib.hid (show ∀ W q pa ta r v l, St w q pa ta r v l W → Calls Try.prog 9 #[.pointer (some ⟨pa, 0, none⟩), .agg #[.int .i64 6, .bool false, .int .u64 0, .int .u64 0, .bool false, .int .u64 0, .int .u64 0, .int .i64 0, .int .i64 0]] W (HostPost exT l W) from fun W q pa ta r v l h => host_any exT h.pn (by omega) (by omega))
  go_enter Try.func14, Try.ntmps14
  go_wp2_with fail
  refine (HPL.out _).mono ?_
  rintro o w1 ⟨rfl, hb1⟩
  have HB1 := Lib.hid hb1
  clear hb1
  go_wp2_with fail
  refine (HNW.out _).mono ?_
  rintro o w2 ⟨pa, ta, r, rfl, hp, k1, k2, k3, hb⟩
  have hba : Below w2.heap.size w2 (w2.alloc (.cells #[.int .i64 6, .bool false, .int .u64 0, .int .u64 0, .bool false, .int .u64 0, .int .u64 0, .int .i64 0, .int .i64 0] 26)) := (Below.refl w2.heap.size w2).alloc (Nat.le_refl _) _
  have S2 := Lib.hid (show St w w2.heap.size pa ta r (.slice none 0 0) [] (w2.alloc (.cells #[.int .i64 6, .bool false, .int .u64 0, .int .u64 0, .bool false, .int .u64 0, .int .u64 0, .int .i64 0, .int .i64 0] 26)) from
    ⟨hp.far hba, Blk.new w2 _ _, ((HB1.out.trans (hb.mono HB1.out.size)).trans (hba.mono (Nat.le_trans HB1.out.size hb.size))), Nat.le_trans HB1.out.size k1, Nat.le_trans HB1.out.size k2, Nat.le_trans HB1.out.size k3, (fun g e => by cases e), by have := tab_lt hp.tab ta (.inl rfl); omega, by have := tab_lt hp.tab r (.inr (.inl rfl)); omega⟩)
  obtain ⟨e0, e1, e2, e3, e4, e5, e6, e7, e8⟩ := S2.out.cells
  clear hp k1 k2 k3 hb hba
  go_wp2_with fail
  refine (HPN.out _ _ _ _ _ _ _ _ S2.out).mono ?_
  rintro o w3 ⟨y, why, ok, v3, l3, rfl, hp, hf, hv, hd⟩
  have hl3 : l3 = [] := by
    rcases hd with ⟨_, _, _, _, h⟩ | ⟨h, _⟩
    · exact h
    · exact absurd begin_no h
  subst hl3
  have S3 := Lib.hid (S2.out.frm hp hf hv)
  obtain ⟨d0, d1, d2, d3, d4, d5, d6, d7, d8⟩ := S3.out.cells
  clear hp hf hv hd e0 e1 e2 e3 e4 e5 e6 e7 e8
  go_wp2_with fail
  refine (HHO.out _ _ _ _ _ _ _ S3.out).mono ?_
  rintro o w4 ⟨hb, ⟨rfl, _⟩ | ⟨y2, hy, _⟩⟩
  case inr => cases hy
  have S4 := Lib.hid (S3.out.below hb)
  obtain ⟨e0, e1, e2, e3, e4, e5, e6, e7, e8⟩ := S4.out.cells
  clear hb d0 d1 d2 d3 d4 d5 d6 d7 d8
  go_wp2_with fail
  refine (HPN.out _ _ _ _ _ _ _ _ S4.out).mono ?_
  rintro o w5 ⟨y5, why5, ok5, v5, l5, rfl, hp, hf, hv, hd⟩
  have hl5 : ∃ s t, l5 = [⟨exT, 5, s, t⟩] := by
    rcases hd with ⟨h, _⟩ | ⟨_, _, _, z, _, ⟨A, e0, B, h, _⟩ | ⟨_, _, _, _, h⟩ | ⟨_, h, _⟩⟩
    · have := begin_yes
      have h2 : beginZ 6 2 = 4 := h
      omega
    · simp at h
    · exact ⟨_, _, h⟩
    · simp at h
  obtain ⟨s5, t5, rfl⟩ := hl5
  have S5 := Lib.hid (S4.out.frm hp hf hv)
  obtain ⟨d0, d1, d2, d3, d4, d5, d6, d7, d8⟩ := S5.out.cells
  clear hp hf hv hd e0 e1 e2 e3 e4 e5 e6 e7 e8
  go_wp2_with fail
  refine (HHO.out _ _ _ _ _ _ _ S5.out).mono ?_
  rintro o w6 ⟨hb, ⟨rfl, hno⟩ | ⟨y2, hy, _, rfl⟩⟩
  case inl => exact absurd rfl (hno ⟨exT, 5, s5, t5⟩ (by simp))
  have hy2 : y2 = ⟨exT, 5, s5, t5⟩ := by simpa using hy
  subst hy2
  have HZ := Lib.hid ((S5.out.below hb).bel)
  clear hb hy
  go_wp2_with fail
  go_ret
  exact ⟨rfl, HZ.out⟩
end Go.Proofs.Ytboknpkcpeoebaa.pinE
