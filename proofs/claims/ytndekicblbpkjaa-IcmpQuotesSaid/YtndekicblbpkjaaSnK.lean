/- Layer 44: numbers put as bytes, every block of another type stays. -/
import Derived.Test.YtndekicblbpkjaaOctK
namespace Go.Proofs.Ytndekicblbpkjaa.snK
open Go.ChangeShapes Go.WideShapes Go.ChangeAt Go.RowKit
open Go.Proofs.Ytndekicblbpkjaa.base Go.Proofs.Ytndekicblbpkjaa.octA Go.Proofs.Ytndekicblbpkjaa.octB Go.Proofs.Ytndekicblbpkjaa.octK
set_option linter.unusedVariables false

/-- Every block of another type than bytes is as it was. -/
def KT (w w' : World) : Prop := ∀ k t cs, t ≠ 5 → Blk w k t cs → Blk w' k t cs
theorem KT.refl (w : World) : KT w w := fun _ _ _ _ h => h
theorem KT.trans {a b c : World} (h1 : KT a b) (h2 : KT b c) : KT a c := fun k t cs ht h => h2 k t cs ht (h1 k t cs ht h)
theorem own_neT {w : World} {base t : Nat} {v : Value} {n b : Nat} {xs : List Value} {cs : Array Value} (ht : t ≠ 5) (h : w.ownsRow base 5 1 v n xs) (hb : Blk w b t cs) : some b ≠ v.ownBlock := fun e => by
  rcases h.2 with ⟨rfl, _⟩ | ⟨g, cap, cur, rfl, hg, hgg, _⟩
  · cases e
  · injection e with e
    have e2 : b = g := e
    subst e2
    have h1 := Option.some.inj (hb.symm.trans hgg)
    injection h1 with h2 h3
    exact ht h3
theorem KT.grown {a w w' : World} {base : Nat} {v : Value} {n : Nat} {xs : List Value} (h : KT a w) (ho : w.ownsRow base 5 1 v n xs) (hg : w.grownBy w' v.ownBlock) : KT a w' := fun k t cs ht hb => by
  have h1 := h k t cs ht hb
  exact (hg.block k h1.lt (own_neT ht ho h1)).trans h1
theorem KT.below {a w w' : World} (h : KT a w) (hb : Below w.heap.size w w') : KT a w' := fun k t cs ht h1 => (hb.block k (h k t cs ht h1).lt).trans (h k t cs ht h1)
theorem kt_step {a w w' : World} {base : Nat} {o : Obj} {v : Value} {n : Nat} {xs : List Value} (h : KT a w) (ho : (w.alloc o).ownsRow base 5 1 v n xs) (hg : (w.alloc o).grownBy w' v.ownBlock) : KT a w' := (h.below ((Below.refl _ _).alloc (Nat.le_refl _) o)).grown ho hg
def PutPostT (w0 : World) (base B : Nat) (a : World) (m k : Nat) (xs : List Value) (ys : List Int) (e : Ending) (w' : World) : Prop :=
  ∃ v', e = .returned v' ∧ w'.ownsRow base 5 1 v' (m + k) (xs ++ ys.map (.int .u8)) ∧ Below B a w' ∧ base ≤ w'.heap.size ∧ KT w0 w'
set_option maxHeartbeats 400000 in
set_option maxRecDepth 100000 in
theorem put_t (v : Value) (m : Nat) (xs : List Value) (n s : Int) (base B : Nat) (a w : World) (hown : w.ownsRow base 5 1 v m xs) (hbase : base ≤ w.heap.size) (hm : m ≤ 1000000) (hbel : Below B a w) (hB : B ≤ base) (n0 : 0 ≤ n) (n1 : n < 18446744073709551616) :
    Calls Try.prog 45 #[v, .int .u64 n, .int .i64 s] w (PutPostT w base B a m (hs s) xs (pb n (hs s) (hs s))) := by
  obtain ⟨i0, hi0, hz0, hz1, hz2⟩ := info_parts info_u8
  have HI0 := Lib.hid hi0
  have HZ0 := Lib.hid hz0
  have HZ1 := Lib.hid hz1
  have HZ2 := Lib.hid hz2
  have HOwn0 := Lib.hid hown
  have HBel0 := Lib.hid hbel
  have hk8 := hs_le s
  have HH := Lib.hid (fun w => held_any s w)
  have HK0 := Lib.hid (KT.refl w)
  clear hi0 hz0 hz1 hz2 hown hbel
  generalize hs s = k at *
  go_enter Try.func45, Try.ntmps45
  go_wp2_with fail
  refine (HH.out _).mono ?_
  rintro e w' ⟨rfl, rfl⟩
  go_wp2_with fail
  go_loopw [0, 7] (fun out i wr => ∃ (j : Nat), j ≤ k ∧ i = .int .i64 ((k : Int) - 1 - j) ∧ wr.ownsRow base 5 1 out (m + j) (xs ++ (pb n k j).map (.int .u8)) ∧ Below B a wr ∧ base ≤ wr.heap.size ∧ KT w wr) (fun _ i _ => (intOf i + 1).toNat)
  case atStart => exact ⟨0, by omega, by simp, by simpa [pb] using HOwn0.out, HBel0.out, hbase, HK0.out⟩
  case round =>
    obtain ⟨j, hj, rfl, hown, hbel, hbs, hblk⟩ := hrel
    obtain ⟨A3, c3, rfl⟩ := own_slice hown
    have HOwn := Lib.hid hown
    have HBel := Lib.hid hbel
    have HBK := Lib.hid hblk
    by_cases hlt : j < k
    · obtain ⟨q, hq⟩ : ∃ q : Nat, k = j + q + 1 := ⟨k - j - 1, by omega⟩
      have e1 : (k : Int) - 1 - j = (q : Int) := by omega
      have hsn := pb_snoc n k j
      rw [show k - 1 - j = q by omega] at hsn
      have HSN := Lib.hid hsn
      have hq8 : (q : Int) ≤ 7 := by omega
      have hq9 : q ≤ 7 := by omega
      have HQ := Lib.hid hq
      have hdiv : 0 ≤ n / 2 ^ (8 * q) := Int.ediv_nonneg n0 (Int.le_of_lt (Int.pow_pos (by decide)))
      have hby : IntKind.u8.wrap (n / 2 ^ (8 * q)) = byteZ n q := by rw [IntKind.wrap_u8']; rfl
      have hb1 := byteZ_in n q
      rw [e1]
      have hnx : (q : Int) - 1 = (k : Int) - 1 - ((j + 1 : Nat) : Int) := by omega
      have HNX := Lib.hid hnx
      clear hown hbel hblk e1 hsn hq hnx
      go_wp2_with (at_builtin; refine wpList_append_own _ rfl (.tmp 15) (.tmp 21) _ rfl base 5 i0 _ 1 1 Try.underlying22 HI0.out HZ0.out HZ1.out HZ2.out rfl (by omega) _ (m + j) _ rfl (HOwn.out.alloc _) ⟨wr.heap.size, 0, none⟩ 1 1 [.int .u8 (byteZ n q)] rfl rfl (one_new _ _ _) (by simp [Value.oneCell']) (by unfold maxLen; omega) (by omega) (by simp; omega) ?_; intro v1 w1 hown1 hg1 _; have HO1 := Lib.hid hown1; have HG1 := Lib.hid hg1; clear hown1 hg1)
      go_roundw
      case rel =>
        refine ⟨j + 1, by omega, congrArg (Value.int .i64) HNX.out, ?_, below_grown (HBel.out.alloc (by omega) _) (HOwn.out.alloc _) hB (by simp; omega) HG1.out, by have := HG1.out.size; simp at this; omega, kt_step HBK.out (HOwn.out.alloc (.cells #[.int .u8 (byteZ n q)] 5)) HG1.out⟩
        rw [HSN.out, List.map_append, ← List.append_assoc]
        exact HO1.out
      case measure => first | (simp [intOf]; done) | (simp [intOf]; omega)
    · obtain rfl : j = k := by omega
      clear hown hbel hblk
      go_wp2_with fail
      go_ret
      exact ⟨_, rfl, HOwn.out, HBel.out, hbs, HBK.out⟩
set_option maxHeartbeats 400000 in
theorem all_t (b : Nat) (cs : Array Value) (v : Value) (m : Nat) (xs : List Value) (s : Int) (n c : Nat) (l : List Int) (base B : Nat) (a w : World) (hown : w.ownsRow base 5 1 v m xs) (hbase : base ≤ w.heap.size) (hm : m + 8 * n ≤ 1000000) (hbel : Below B a w) (hB : B ≤ base)
    (hl : l.length = n) (hK : Blk w b 24 cs) (hcs : cs.toList = l.map (.int .u64)) (hw : ∀ x ∈ l, 0 ≤ x ∧ x < 18446744073709551616) :
    Calls Try.prog 46 #[v, .int .i64 s, .slice (some ⟨b, 0, none⟩) n c] w (PutPostT w base B a m (hs s * n) xs (allb (hs s) l)) := by
  have HK0 := Lib.hid hK
  have HCS := Lib.hid hcs
  have HN := Lib.hid hl
  have HW := Lib.hid hw
  have HOwn0 := Lib.hid hown
  have HBel0 := Lib.hid hbel
  have hk8 := hs_le s
  have hkn : hs s * n ≤ 8 * n := Nat.mul_le_mul_right n hk8
  clear hK hcs hl hw hown hbel
  go_enter Try.func46, Try.ntmps46
  go_wp2_with fail
  go_loopw [0, 11] (fun out i wr => ∃ (j : Nat), j ≤ n ∧ i = .int .i64 j ∧ wr.ownsRow base 5 1 out (m + hs s * j) (xs ++ (allb (hs s) (l.take j)).map (.int .u8)) ∧ Below B a wr ∧ base ≤ wr.heap.size ∧ KT w wr) (fun _ i _ => n - (intOf i).toNat)
  case atStart => exact ⟨0, by omega, rfl, by simpa [allb] using HOwn0.out, HBel0.out, hbase, KT.refl w⟩
  case round =>
    obtain ⟨j, hj, rfl, hown, hbel, hbs, hkt⟩ := hrel
    have hblk := hkt _ _ _ (by decide) HK0.out
    have HKT := Lib.hid hkt
    clear hkt
    have HOwn := Lib.hid hown
    have HBel := Lib.hid hbel
    by_cases hlt : j < n
    · have hkl : j < l.length := by rw [HN.out]; exact hlt
      have hcell : wr.cell? ⟨b, j, none⟩ = some (.int .u64 (l[j])) := by
        rw [hblk.cell j, ← Array.getElem?_toList, HCS.out, List.getElem?_map, List.getElem?_eq_getElem hkl]
        rfl
      have HBK := Lib.hid hblk
      have hx := HW.out l[j] (List.getElem_mem hkl)
      have hsn : allb (hs s) (l.take (j + 1)) = allb (hs s) (l.take j) ++ pb l[j] (hs s) (hs s) := by rw [take_snoc l j hkl, allb_snoc]
      have HSN := Lib.hid hsn
      have hmj : hs s * j ≤ 8 * j := Nat.mul_le_mul_right j hk8
      have hmj2 : m + hs s * j ≤ 1000000 := by omega
      clear hown hbel hblk hsn hmj
      generalize l[j] = x at *
      obtain ⟨x0, x1⟩ := hx
      go_wp2_with fail
      refine (put_t _ _ _ x s base B a _ HOwn.out hbs hmj2 HBel.out hB x0 x1).mono ?_
      rintro e w1 ⟨v1, rfl, hown1, hbel1, hbs1, hbk1⟩
      have HO1 := Lib.hid hown1
      have HB1 := Lib.hid hbel1
      have HK1 := Lib.hid (HKT.out.trans hbk1)
      clear hown1 hbel1 hbk1
      go_wp2_with fail
      go_roundw
      case rel =>
        refine ⟨j + 1, by omega, by go_num, ?_, HB1.out, hbs1, HK1.out⟩
        · rw [HSN.out, List.map_append, ← List.append_assoc, Nat.mul_succ, ← Nat.add_assoc]
          exact HO1.out
      case measure => simp [intOf]; omega
    · obtain rfl : j = n := by omega
      have hz : l.take j = l := List.take_of_length_le (by rw [HN.out]; omega)
      rw [hz] at HOwn
      have HBK := Lib.hid hblk
      clear hown hbel hz hblk
      go_wp2_with fail
      go_ret
      exact ⟨_, rfl, HOwn.out, HBel.out, hbs, HKT.out⟩

end Go.Proofs.Ytndekicblbpkjaa.snK
