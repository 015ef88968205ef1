/- Layer 7: all numbers of a list; the number at a place. -/
import Derived.Test.YtndekicblbpkjaaOctA
import Derived.Test.YtndekicblbpkjaaIsRow
import Derived.Laws.BitsAllLaws
namespace Go.Proofs.Ytndekicblbpkjaa.octB
open Go.ChangeShapes Go.WideShapes Go.ChangeAt Go.RowKit
open Go.Proofs.Ytndekicblbpkjaa.base Go.Proofs.Ytndekicblbpkjaa.octA
set_option linter.unusedVariables false

def allb (k : Nat) (l : List Int) : List Int := l.flatMap fun n => pb n k k
theorem allb_snoc (k : Nat) (l : List Int) (n : Int) : allb k (l ++ [n]) = allb k l ++ pb n k k := by simp [allb]
theorem allb_len (k : Nat) (l : List Int) : (allb k l).length = k * l.length := by
  induction l with
  | nil => simp [allb]
  | cons n l ih =>
    have : allb k (n :: l) = pb n k k ++ allb k l := by simp [allb]
    rw [this, List.length_append, pb_len, ih, List.length_cons, Nat.mul_succ]; omega
theorem take_snoc (l : List Int) (k : Nat) (h : k < l.length) : l.take (k + 1) = l.take k ++ [l[k]] := List.take_succ_eq_append_getElem h

set_option maxHeartbeats 400000 in
theorem all_any (v : Value) (m : Nat) (xs : List Value) (s : Int) (A : Option Addr) (n c : Nat) (l : List Int) (base B : Nat) (a w : World) (hown : w.ownsRow base 5 1 v m xs) (hbase : base ≤ w.heap.size) (hm : m + 8 * n ≤ 1000000) (hbel : Below B a w) (hB : B ≤ base)
    (hl : l.length = n) (hr : Row a B A (l.map (.int .u64))) (hw : ∀ x ∈ l, 0 ≤ x ∧ x < 18446744073709551616) :
    Calls Try.prog 46 #[v, .int .i64 s, .slice A n c] w (PutPost base B a m (hs s * n) xs (allb (hs s) l)) := by
  have HR := Lib.hid hr
  have HN := Lib.hid hl
  have HW := Lib.hid hw
  have HOwn0 := Lib.hid hown
  have HBel0 := Lib.hid hbel
  have hk8 := hs_le s
  have hkn : hs s * n ≤ 8 * n := Nat.mul_le_mul_right n hk8
  clear hr hl hw hown hbel
  go_enter Try.func46, Try.ntmps46
  go_wp2_with fail
  go_loopw [0, 11] (fun out i wr => ∃ (j : Nat), j ≤ n ∧ i = .int .i64 j ∧ wr.ownsRow base 5 1 out (m + hs s * j) (xs ++ (allb (hs s) (l.take j)).map (.int .u8)) ∧ Below B a wr ∧ base ≤ wr.heap.size) (fun _ i _ => n - (intOf i).toNat)
  case atStart => exact ⟨0, by omega, rfl, by simpa [allb] using HOwn0.out, HBel0.out, hbase⟩
  case round =>
    obtain ⟨j, hj, rfl, hown, hbel, hbs⟩ := hrel
    have HOwn := Lib.hid hown
    have HBel := Lib.hid hbel
    by_cases hlt : j < n
    · have hkl : j < l.length := by rw [HN.out]; exact hlt
      obtain ⟨b, off, rfl, hbl, hc⟩ := (HR.out.below hbel).at_ (by intro h; simp at h; rw [h] at hkl; simp at hkl)
      have hcell : wr.cell? ⟨b, off + j, none⟩ = some (.int .u64 (l[j])) := hc j _ (by simp [hkl])
      have hx := HW.out l[j] (List.getElem_mem hkl)
      have hsn : allb (hs s) (l.take (j + 1)) = allb (hs s) (l.take j) ++ pb l[j] (hs s) (hs s) := by rw [take_snoc l j hkl, allb_snoc]
      have HSN := Lib.hid hsn
      have hmj : hs s * j ≤ 8 * j := Nat.mul_le_mul_right j hk8
      have hmj2 : m + hs s * j ≤ 1000000 := by omega
      clear hown hbel hc hsn hmj
      generalize l[j] = x at *
      obtain ⟨x0, x1⟩ := hx
      go_wp2_with fail
      refine (put_any _ _ _ x s base B a _ HOwn.out hbs hmj2 HBel.out hB x0 x1).mono ?_
      rintro e w1 ⟨v1, rfl, hown1, hbel1, hbs1⟩
      have HO1 := Lib.hid hown1
      have HB1 := Lib.hid hbel1
      clear hown1 hbel1
      go_wp2_with fail
      go_roundw
      case rel =>
        refine ⟨j + 1, by omega, by go_num, ?_, HB1.out, hbs1⟩
        · rw [HSN.out, List.map_append, ← List.append_assoc, Nat.mul_succ, ← Nat.add_assoc]
          exact HO1.out
      case measure => simp [intOf]; omega
    · obtain rfl : j = n := by omega
      have hz : l.take j = l := List.take_of_length_le (by rw [HN.out]; omega)
      rw [hz] at HOwn
      clear hown hbel hz
      go_wp2_with fail
      go_ret
      exact ⟨_, rfl, HOwn.out, HBel.out, hbs⟩

/-- the number of k bytes from a place on; bytes that there are not count as 0 -/
def atN (l : List Int) (f : Nat) : Nat → Int
  | 0 => 0
  | k + 1 => atN l f k * 256 + l.getD (f + k) 0
theorem getD_in (l : List Int) (h : ∀ x ∈ l, 0 ≤ x ∧ x ≤ 255) (i : Nat) : 0 ≤ l.getD i 0 ∧ l.getD i 0 ≤ 255 := by
  rw [List.getD_eq_getElem?_getD]
  cases hi : l[i]? with
  | none => simp
  | some x => exact h x (List.mem_of_getElem? hi)
theorem atN_in (l : List Int) (f : Nat) (h : ∀ x ∈ l, 0 ≤ x ∧ x ≤ 255) (k : Nat) : 0 ≤ atN l f k ∧ atN l f k < 256 ^ k := by
  induction k with
  | zero => simp [atN]
  | succ k ih =>
    have := getD_in l h (f + k)
    rw [atN, Int.pow_succ]
    omega
theorem pow256 (k : Nat) (h : k ≤ 7) : (256 : Int) ^ k * 256 ≤ 18446744073709551616 := by
  have h1 : 256 ^ k ≤ 72057594037927936 := Nat.le_trans (Nat.pow_le_pow_right (n := 256) (by omega) h) (by decide)
  have e2 : ((256 ^ k : Nat) : Int) = (256 : Int) ^ k := by rw [Int.natCast_pow]; rfl
  rw [← e2]
  omega
set_option maxRecDepth 100000 in
theorem or_add (a b : Nat) (hb : b < 256) (ha : a * 256 + b < 18446744073709551616) : bits .or .u64 ((a : Int) * 256) (b : Int) = (a : Int) * 256 + b := by
  have h := u64_or_nat (a * 256) b (by omega) (by omega)
  rw [show ((a * 256 : Nat) : Int) = (a : Int) * 256 by omega] at h
  rw [h]
  have e : a * 256 ||| b = a * 256 + b := by
    have := Nat.two_pow_add_eq_or_of_lt (i := 8) (b := b) (by omega) a
    rw [Nat.mul_comm a 256]
    exact this.symm
  rw [e]; omega
def atZ (l : List Int) (f s : Int) : Int := if f < 0 then 0 else atN l f.toNat (hs s)
theorem slice_from {A : Option Addr} {w : World} {B : Nat} {l : List Int} (h : Row w B A (l.map (.int .u8))) (f : Nat) (hf : f < l.length) : ∃ b off, A = some ⟨b, off, none⟩ ∧ b < B ∧ ∀ i, i < l.length → w.cell? ⟨b, off + i, none⟩ = some (.int .u8 (l.getD i 0)) := by
  obtain ⟨b, off, rfl, hb, hc⟩ := h.at_ (by intro e; have e2 := congrArg List.length e; simp at e2; rw [e2] at hf; simp at hf)
  refine ⟨b, off, rfl, hb, fun i hi => hc i _ ?_⟩
  rw [List.getElem?_map, List.getD_eq_getElem?_getD, List.getElem?_eq_getElem hi]
  rfl
end Go.Proofs.Ytndekicblbpkjaa.octB
