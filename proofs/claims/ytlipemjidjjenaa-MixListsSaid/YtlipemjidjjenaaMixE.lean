/- Layer 2: texts mixed under a key. -/
import Derived.Test.YtlipemjidjjenaaMixD
import Derived.Test.YtlipemjidjjenaaMem
namespace Go.Proofs.Ytlipemjidjjenaa.mixE
open Go.ChangeShapes Go.WideShapes Go.ChangeAt Go.RowKit
open Go.Proofs.Ytlipemjidjjenaa.mixA Go.Proofs.Ytlipemjidjjenaa.base Go.Proofs.Ytlipemjidjjenaa.mixD
set_option linter.unusedVariables false

theorem info_u64 : (Try.prog.info? 22).map (fun i => (i.zero, i.size, i.bytes)) = some (some (.int .u64 0), 1, 8) := by kernel_rfl

def byteAt (s : ByteArray) (i : Nat) : Int := IntKind.u64.wrap ((s.data.toList.getD i 0).toNat : Int)
theorem byteAt_eq (s : ByteArray) (k : Nat) (h : k < s.size) : IntKind.u64.wrap (s[k].toNat : Int) = byteAt s k := by
  have : s.data.toList.getD k 0 = s[k] := by
    have h' : k < s.data.toList.length := h
    rw [List.getD_eq_getElem?_getD, List.getElem?_eq_getElem h']; rfl
  unfold byteAt; rw [this]
def putb (l : List Int) (i : Nat) (c : Int) : List Int := l.set (i / 8) (bits .or .u64 (l.getD (i / 8) 0) (IntKind.u64.wrap (c * 2 ^ (8 * (i % 8)))))
def mw (s : ByteArray) : Nat → List Int
  | 0 => List.replicate ((s.size + 7) / 8) 0
  | k + 1 => putb (mw s k) k (byteAt s k)
theorem mw_len (s : ByteArray) (k : Nat) : (mw s k).length = (s.size + 7) / 8 := by
  induction k with
  | zero => simp [mw]
  | succ k ih => simp [mw, putb, ih]
def arr (l : List Int) : Array Value := (l.map (.int .u64)).toArray
theorem arr_get (l : List Int) (i : Nat) (h : i < l.length) : (arr l)[i]? = some (.int .u64 (l.getD i 0)) := by
  simp [arr, List.getD_eq_getElem?_getD, h]
theorem arr_set (l : List Int) (i : Nat) (v : Int) : (arr l).setIfInBounds i (.int .u64 v) = arr (l.set i v) := by
  simp [arr, List.map_set]
theorem text_any (key : Int) (s : ByteArray) (hs : s.size ≤ 200) (w : World) :
    Calls Try.prog 37 #[.int .u64 key, .string s] w fun e w' => e = .returned (.int .u64 (oneZ (bits .xor .u64 (ofZ key (mw s s.size)) s.size))) ∧ Below w.heap.size w w' := by
  obtain ⟨i0, hi0, hz0, hz1, hz2⟩ := info_parts info_u64
  have hmk := fun (C : Int) (h0 : 0 ≤ C) (h1 : C ≤ 1000) (W : World) => run_make_one (P := Try.prog) 33 22 i0 _ Try.underlying33 hi0 hz0 hz1 rfl .i64 .i64 C h0 (by rw [hz2]; omega) (by omega) W
  have hm := hmk (((s.size : Int) + 7) / 8) (by omega) (by omega)
  clear hmk hz0 hz1 hz2 hi0
  go_enter Try.func37, Try.ntmps37
  go_wp2_with fail
  clear hm
  go_loopw [14, 6] (fun i j wr => ∃ k : Nat, k ≤ s.size ∧ i = .int .i64 k ∧ Blk wr w.heap.size 22 (arr (mw s k)) ∧ Below w.heap.size w wr) (fun i _ _ => s.size - (intOf i).toNat)
  case atStart => exact ⟨0, by omega, rfl, by have := Blk.new w 22 (zeros ((s.size + 7) / 8) (.int .u64 0)); simpa [arr, mw, zeros] using this, (Below.refl _ _).alloc (Nat.le_refl _) _⟩
  case round =>
    obtain ⟨k, hk, rfl, hb, hbel⟩ := hrel
    by_cases hlt : k < s.size
    · have hl := mw_len s k
      have hc : wr.cell? ⟨w.heap.size, k / 8, none⟩ = some (.int .u64 ((mw s k).getD (k / 8) 0)) := (hb.cell (k / 8)).trans (arr_get _ _ (by omega))
      have hf : wr.frozen? ⟨w.heap.size, k / 8, none⟩ = false := hb.frozen _
      have HB := Lib.hid hb
      have HBel := Lib.hid hbel
      clear hb hbel hl
      generalize hg : (mw s k).getD (k / 8) 0 = x at *
      have HG := Lib.hid hg
      clear hg
      go_wp2_with fail
      go_region
      go_wp2_with fail
      go_roundw
      case rel =>
        refine ⟨k + 1, by omega, by go_num, ?_, (HBel.out.setCell (Nat.le_refl _) _).drew⟩
        have := (HB.out.set_ (k / 8) (.int .u64 (bits .or .u64 x (IntKind.u64.wrap (IntKind.u64.wrap (s[k].toNat : Int) * 2 ^ (8 * (k % 8))))))).drew
        rw [arr_set, byteAt_eq s k hlt] at this
        rw [byteAt_eq s k hlt]
        have e : mw s (k + 1) = (mw s k).set (k / 8) (bits .or .u64 x (IntKind.u64.wrap (byteAt s k * 2 ^ (8 * (k % 8))))) := by rw [← HG.out]; rfl
        rw [e]
        exact this
      case measure => simp [intOf]; omega
    · obtain rfl : k = s.size := by omega
      have hrow : Row wr wr.heap.size (some ⟨w.heap.size, 0, none⟩) ((mw s s.size).map (.int .u64)) :=
        .inr ⟨_, 0, rfl, hb.lt, fun i u hu => by rw [Nat.zero_add, hb.cell i]; simpa [arr] using hu⟩
      have hl := mw_len s s.size
      have HBel := Lib.hid hbel
      clear hb hbel
      go_wp2_with (first | (go_at_call 35; refine (of_any _ _ _ _ _ _ _ hl (by omega) hrow).mono ?_; rintro e w' ⟨rfl, rfl⟩) | (go_at_call 31; refine (one_any _ _).mono ?_; rintro e w' ⟨rfl, rfl⟩))
      go_ret
      exact ⟨rfl, HBel.out⟩
end Go.Proofs.Ytlipemjidjjenaa.mixE
