/- Layer 3: a table of draws, filled once. -/
import Derived.Test.YtanijccpbleekaaOnceA
import Derived.Test.YtanijccpbleekaaLogC
import Derived.Test.YtanijccpbleekaaMem
import Derived.Deep.RegionHeld3
import Derived.IntWalk
namespace Go.Proofs.Ytanijccpbleekaa.onceB
open Go.ChangeShapes Go.WideShapes Go.ChangeAt Go.RowKit
open Go.Proofs.Ytanijccpbleekaa.base Go.Proofs.Ytanijccpbleekaa.onceA Go.Proofs.Ytanijccpbleekaa.logC
set_option linter.unusedVariables false

/-- Nothing has changed but block g, and what is new. -/
structure Aside (g : Nat) (w w' : World) : Prop where
  os : w'.os = w.os
  tape : w'.tape = w.tape
  output : w'.output = w.output
  size : w.heap.size ≤ w'.heap.size
  block : ∀ k, k < w.heap.size → k ≠ g → w'.heap[k]? = w.heap[k]?
theorem Aside.refl (g : Nat) (w : World) : Aside g w w := ⟨rfl, rfl, rfl, Nat.le_refl _, fun _ _ _ => rfl⟩
theorem Aside.trans {g : Nat} {a b c : World} (h : Aside g a b) (k : Aside g b c) : Aside g a c :=
  ⟨k.os.trans h.os, k.tape.trans h.tape, k.output.trans h.output, Nat.le_trans h.size k.size, fun i h1 h2 => (k.block i (Nat.lt_of_lt_of_le h1 h.size) h2).trans (h.block i h1 h2)⟩
theorem Aside.set {g : Nat} {a b : World} (h : Aside g a b) (o : Nat) (u : Value) : Aside g a (b.setCell ⟨g, o, none⟩ u) :=
  ⟨h.os, h.tape, h.output, by simpa using h.size, fun k h1 h2 => (Below.heap_setCell b ⟨g, o, none⟩ u k h2).trans (h.block k h1 h2)⟩
theorem Aside.new {g : Nat} {a b : World} (h : Aside g a b) (p : Addr) (hp : a.heap.size ≤ p.block) (u : Value) : Aside g a (b.setCell p u) :=
  ⟨h.os, h.tape, h.output, by simpa using h.size, fun k h1 h2 => (Below.heap_setCell b p u k (by omega)).trans (h.block k h1 h2)⟩
theorem Aside.drew {g : Nat} {a b : World} (h : Aside g a b) : Aside g a b.drew := ⟨h.os, h.tape, h.output, h.size, h.block⟩
theorem Aside.below {g : Nat} {a b c : World} (h : Aside g a b) (k : Below b.heap.size b c) : Aside g a c :=
  ⟨k.os.trans h.os, k.tape.trans h.tape, k.output.trans h.output, Nat.le_trans h.size k.size, fun i h1 h2 => (k.block i (Nat.lt_of_lt_of_le h1 h.size)).trans (h.block i h1 h2)⟩
theorem Aside.low {g B : Nat} {a b : World} (h : Aside g a b) (hg : B ≤ g) (hB : B ≤ a.heap.size) : Below B a b :=
  ⟨h.os, h.tape, h.output, h.size, fun k hk => h.block k (by omega) (by omega)⟩
theorem Aside.from {g B : Nat} {z a b : World} (h : Aside g a b) (hz : Below B z a) (hg : B ≤ g) (hB : B ≤ z.heap.size) : Below B z b := hz.trans (h.low hg (Nat.le_trans hB hz.size))
theorem Aside.blk {g : Nat} {a b : World} (h : Aside g a b) {k : Nat} {t : TypeId} {cs : Array Value} (hb : Blk a k t cs) (hk : k ≠ g) : Blk b k t cs := (h.block k hb.lt hk).trans hb

theorem info64 : (Try.prog.info? 38).map (fun i => (i.zero, i.size, i.bytes)) = some (some (.int .u64 0), 1, 8) := by kernel_rfl
/-- The first k of the table's numbers. -/
def FillTo (w : World) (h k : Nat) : Prop := ∃ cs : Array Value, Blk w h 38 cs ∧ cs.size = 65536 ∧ ∀ i, i < k → cs[i]? = some (.int .u64 (ofZ ((i : Int) + 1)))
theorem FillTo.blk {w w' : World} {h k : Nat} (f : FillTo w h k) (hb : w'.heap[h]? = w.heap[h]?) : FillTo w' h k := by
  obtain ⟨cs, h1, h2, h3⟩ := f
  exact ⟨cs, hb.trans h1, h2, h3⟩
theorem FillTo.lt {w : World} {h k : Nat} (f : FillTo w h k) : h < w.heap.size := by
  obtain ⟨cs, h1, _, _⟩ := f
  exact h1.lt
theorem FillTo.cell {w : World} {h k : Nat} (f : FillTo w h k) (i : Nat) (hi : i < k) : w.cell? ⟨h, i, none⟩ = some (.int .u64 (ofZ ((i : Int) + 1))) := by
  obtain ⟨cs, h1, _, h3⟩ := f
  rw [h1.cell i]
  exact h3 i hi
theorem FillTo.old {w : World} {h k : Nat} (f : FillTo w h k) (i : Nat) (hi : i < 65536) : ∃ u, w.cell? ⟨h, i, none⟩ = some u := by
  obtain ⟨cs, h1, h2, _⟩ := f
  exact ⟨cs[i]'(by omega), by rw [h1.cell i]; simp [h2, hi]⟩
theorem FillTo.frozen {w : World} {h k : Nat} (f : FillTo w h k) (i : Nat) : w.frozen? ⟨h, i, none⟩ = false := by
  obtain ⟨cs, h1, _, _⟩ := f
  exact h1.frozen i
theorem FillTo.next {w : World} {h k : Nat} (f : FillTo w h k) (hk : k < 65536) : FillTo (w.setCell ⟨h, k, none⟩ (.int .u64 (ofZ ((k : Int) + 1)))) h (k + 1) := by
  obtain ⟨cs, h1, h2, h3⟩ := f
  refine ⟨_, h1.set_ k _, by simpa using h2, fun i hi => ?_⟩
  rcases Nat.lt_or_ge i k with hlt | hge
  · rw [Array.getElem?_setIfInBounds_ne (by omega)]
    exact h3 i hlt
  · have : i = k := by omega
    subst this
    rw [Array.getElem?_setIfInBounds_self_of_lt (by omega)]
def TabC (d s : Int) (all : Value) : Array Value := #[.int .u32 d, .int .i32 s, .int .u32 0, all]
def FillPost (g : Nat) (T : TypeId) (w : World) (e : Ending) (w' : World) : Prop :=
  e = .returned (.tuple #[]) ∧ ∃ h, w.heap.size ≤ h ∧ Blk w' g T (TabC 0 1 (.slice (some ⟨h, 0, none⟩) 65536 65536)) ∧ FillTo w' h 65536 ∧ Aside g w w'
set_option maxRecDepth 100000 in
set_option maxHeartbeats 4000000 in
theorem fill_any (g : Nat) (T : TypeId) (w : World) (hb : Blk w g T (TabC 0 1 (.slice none 0 0))) :
    Calls Try.prog 22 #[.pointer (some ⟨g, 0, none⟩)] w (FillPost g T w) := by
  obtain ⟨i0, hi, hz0, hz1, hz2⟩ := info_parts info64
  have hmk := run_make_one (P := Try.prog) 35 38 i0 (.int .u64 0) Try.underlying35 hi hz0 hz1 rfl .i64 .i64 65536 (by omega) (by rw [hz2]; decide) (by omega) w
  have HB := Lib.hid hb
  have HMK := Lib.hid hmk
  clear hi hz0 hz1 hz2
  have c3 : (w.alloc (.cells (zeros 65536 (.int .u64 0)) 38)).cell? ⟨g, 3, none⟩ = some (.slice none 0 0) := (hb.alloc _).cell 3
  have f3 : (w.alloc (.cells (zeros 65536 (.int .u64 0)) 38)).frozen? ⟨g, 3, none⟩ = false := (hb.alloc _).frozen 3
  have HG := Lib.hid hb.lt
  have HN := Lib.hid (show FillTo (w.alloc (.cells (zeros 65536 (.int .u64 0)) 38)) w.heap.size 0 from ⟨_, Blk.new _ _ _, by rw [zeros_size], fun i hi => by omega⟩)
  have HB2 := Lib.hid (show Blk ((w.alloc (.cells (zeros 65536 (.int .u64 0)) 38)).setCell ⟨g, 3, none⟩ (.slice (some ⟨w.heap.size, 0, none⟩) 65536 65536)) g T (TabC 0 1 (.slice (some ⟨w.heap.size, 0, none⟩) 65536 65536)) from (hb.alloc _).set_ 3 _)
  have HA := Lib.hid (show Aside g w ((w.alloc (.cells (zeros 65536 (.int .u64 0)) 38)).setCell ⟨g, 3, none⟩ (.slice (some ⟨w.heap.size, 0, none⟩) 65536 65536)) from ((Aside.refl g w).below ((Below.refl w.heap.size w).alloc (Nat.le_refl _) _)).set 3 _)
  clear hb
  rw [show ((65536 : Int)).toNat = 65536 by rfl] at hmk
  go_enter Try.func22, Try.ntmps22
  go_wp2_with fail
  obtain ⟨h, hh⟩ : ∃ h, h = w.heap.size := ⟨_, rfl⟩
  rw [← hh] at HN HB2 HA HMK ⊢
  have HH := Lib.hid hh
  have HGH := Lib.hid (show g < h by rw [hh]; exact HG.out)
  obtain ⟨w1, hw1⟩ : ∃ w1, w1 = (w.alloc (.cells (zeros 65536 (.int .u64 0)) 38)).setCell ⟨g, 3, none⟩ (.slice (some ⟨h, 0, none⟩) 65536 65536) := ⟨_, rfl⟩
  have HF1 := Lib.hid (show FillTo w1 h 0 from HN.out.blk (by rw [hw1]; exact Below.heap_setCell _ _ _ _ (by have := HGH.out; simp; omega)))
  rw [← hw1] at HB2 HA ⊢
  clear hw1 hh hmk c3 f3 HN HMK HB
  go_loopw [7] (fun i wr => ∃ k : Nat, i = .int .i64 k ∧ k ≤ 65536 ∧ FillTo wr h k ∧ Blk wr g T (TabC 0 1 (.slice (some ⟨h, 0, none⟩) 65536 65536)) ∧ Aside g w wr) (fun i _ => 65536 - (intOf i).toNat)
  case atStart => exact ⟨0, rfl, by omega, HF1.out, HB2.out, HA.out⟩
  case round =>
    obtain ⟨k, rfl, hk, hf, hb, ha⟩ := hrel
    have KF := Lib.hid hf
    have KB := Lib.hid hb
    have KA := Lib.hid ha
    clear hf hb ha
    by_cases hlt : k < 65536
    · have t1 : decide ((k : Int) < 65536) = true := decide_eq_true (by omega)
      have c3 : wr.drew.cell? ⟨g, 3, none⟩ = some (.slice (some ⟨h, 0, none⟩) 65536 65536) := KB.out.cell 3
      obtain ⟨u, hu⟩ := KF.out.old k hlt
      have cu : wr.drew.cell? ⟨h, k, none⟩ = some u := hu
      have fu : wr.drew.frozen? ⟨h, k, none⟩ = false := KF.out.frozen k
      have k0 : (0 : Int) ≤ k := by omega
      have k1 : (k : Int) < 65536 := by omega
      have HX := Lib.hid (KF.out.next hlt)
      have HW := Lib.hid (show Blk (wr.setCell ⟨h, k, none⟩ (.int .u64 (ofZ ((k : Int) + 1)))) g T (TabC 0 1 (.slice (some ⟨h, 0, none⟩) 65536 65536)) from KB.out.far (by have := HGH.out; simp; omega) _)
      have HY := Lib.hid (KA.out.new ⟨h, k, none⟩ (by rw [HH.out]; exact Nat.le_refl _) (.int .u64 (ofZ ((k : Int) + 1))))
      have wk : IntKind.i64.wrap ((k : Int) + 1) = (k : Int) + 1 := IntWalk.i64_in _ (by omega)
      have H4 := Lib.hid (show (wr.setCell ⟨h, k, none⟩ (.int .u64 (ofZ ((k : Int) + 1)))).drew.cell? ⟨g, 3, none⟩ = some (.slice (some ⟨h, 0, none⟩) 65536 65536) from HW.out.drew.cell 3)
      clear hu
      go_wp2_with fail
      go_region_held3 (fun w' => w'.cell? ⟨g, 3, none⟩ = some (.slice (some ⟨h, 0, none⟩) 65536 65536)) (first | with_reducible assumption | with_reducible exact H4.out)
        (first
          | (go_at_call 7
             (with_reducible refine (of_any _ _).mono ?_)
             rintro e w' ⟨rfl, rfl⟩))
      clear c3 cu fu
      go_wp2_with fail
      go_roundw
      case rel => exact ⟨k + 1, by go_num, by omega, HX.out, HW.out, HY.out.drew⟩
      case measure => simp [intOf]; omega
    · have t1 : decide ((k : Int) < 65536) = false := decide_eq_false (by omega)
      have hk2 : k = 65536 := by omega
      have HP := Lib.hid (show FillPost g T w (.returned (.tuple #[])) wr from ⟨rfl, h, by rw [HH.out]; exact Nat.le_refl _, KB.out, hk2 ▸ KF.out, KA.out⟩)
      clear hk2
      go_wp2_with fail
      go_end0
      exact HP.out
end Go.Proofs.Ytanijccpbleekaa.onceB
