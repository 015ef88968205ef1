/- 7 texts in one. -/
import Derived.Deep.RegionHeld3
import Derived.Deep.DeepCutAuto
import Derived.Test.YtndekicblbpkjaaPa04
import Derived.Test.YtndekicblbpkjaaPa05
import Derived.Test.YtndekicblbpkjaaPa06
import Derived.Test.YtndekicblbpkjaaPa08
import Derived.Test.YtndekicblbpkjaaPa13
/- Layer 44: numbers put as bytes, every block of another type stays. -/
namespace Go.Proofs.Ytndekicblbpkjaa.snK
open Go.ChangeShapes Go.WideShapes Go.ChangeAt Go.RowKit
open Go.Proofs.Ytndekicblbpkjaa.base Go.Proofs.Ytndekicblbpkjaa.octA Go.Proofs.Ytndekicblbpkjaa.octB Go.Proofs.Ytndekicblbpkjaa.octK
set_option linter.unusedVariables false

/-- Every block of another type than bytes is as it was. -/
def KT (w w' : World) : Prop := ∀ k t cs, t ≠ 5 → Blk w k t cs → Blk w' k t cs
theorem KT.refl (w : World) : KT w w := fun _ _ _ _ h => h
theorem KT.trans {a b c : World} (h1 : KT a b) (h2 : KT b c) : KT a c := fun k t cs ht h => h2 k t cs ht (h1 k t cs ht h)
theorem own_neT {w : World} {base t : Nat} {v : Value} {n b : Nat} {xs : List Value} {cs : Array Value} (ht : t ≠ 5) (h : w.ownsRow base 5 1 v n xs) (hb : Blk w b t cs) : some b ≠ v.ownBlock := fun e => by
  rcases h.2 with ⟨rfl, _⟩ | ⟨g, cap, cur, rfl, hg, hgg, _⟩
  · cases e
  · injection e with e
    have e2 : b = g := e
    subst e2
    have h1 := Option.some.inj (hb.symm.trans hgg)
    injection h1 with h2 h3
    exact ht h3
theorem KT.grown {a w w' : World} {base : Nat} {v : Value} {n : Nat} {xs : List Value} (h : KT a w) (ho : w.ownsRow base 5 1 v n xs) (hg : w.grownBy w' v.ownBlock) : KT a w' := fun k t cs ht hb => by
  have h1 := h k t cs ht hb
  exact (hg.block k h1.lt (own_neT ht ho h1)).trans h1
theorem KT.below {a w w' : World} (h : KT a w) (hb : Below w.heap.size w w') : KT a w' := fun k t cs ht h1 => (hb.block k (h k t cs ht h1).lt).trans (h k t cs ht h1)
theorem kt_step {a w w' : World} {base : Nat} {o : Obj} {v : Value} {n : Nat} {xs : List Value} (h : KT a w) (ho : (w.alloc o).ownsRow base 5 1 v n xs) (hg : (w.alloc o).grownBy w' v.ownBlock) : KT a w' := (h.below ((Below.refl _ _).alloc (Nat.le_refl _) o)).grown ho hg
def PutPostT (w0 : World) (base B : Nat) (a : World) (m k : Nat) (xs : List Value) (ys : List Int) (e : Ending) (w' : World) : Prop :=
  ∃ v', e = .returned v' ∧ w'.ownsRow base 5 1 v' (m + k) (xs ++ ys.map (.int .u8)) ∧ Below B a w' ∧ base ≤ w'.heap.size ∧ KT w0 w'
set_option maxHeartbeats 400000 in
set_option maxRecDepth 100000 in
theorem put_t (v : Value) (m : Nat) (xs : List Value) (n s : Int) (base B : Nat) (a w : World) (hown : w.ownsRow base 5 1 v m xs) (hbase : base ≤ w.heap.size) (hm : m ≤ 1000000) (hbel : Below B a w) (hB : B ≤ base) (n0 : 0 ≤ n) (n1 : n < 18446744073709551616) :
    Calls Try.prog 45 #[v, .int .u64 n, .int .i64 s] w (PutPostT w base B a m (hs s) xs (pb n (hs s) (hs s))) := by
  obtain ⟨i0, hi0, hz0, hz1, hz2⟩ := info_parts info_u8
  have HI0 := Lib.hid hi0
  have HZ0 := Lib.hid hz0
  have HZ1 := Lib.hid hz1
  have HZ2 := Lib.hid hz2
  have HOwn0 := Lib.hid hown
  have HBel0 := Lib.hid hbel
  have hk8 := hs_le s
  have HH := Lib.hid (fun w => held_any s w)
  have HK0 := Lib.hid (KT.refl w)
  clear hi0 hz0 hz1 hz2 hown hbel
  generalize hs s = k at *
  go_enter Try.func45, Try.ntmps45
  go_wp2_with fail
  refine (HH.out _).mono ?_
  rintro e w' ⟨rfl, rfl⟩
  go_wp2_with fail
  go_loopw [0, 7] (fun out i wr => ∃ (j : Nat), j ≤ k ∧ i = .int .i64 ((k : Int) - 1 - j) ∧ wr.ownsRow base 5 1 out (m + j) (xs ++ (pb n k j).map (.int .u8)) ∧ Below B a wr ∧ base ≤ wr.heap.size ∧ KT w wr) (fun _ i _ => (intOf i + 1).toNat)
  case atStart => exact ⟨0, by omega, by simp, by simpa [pb] using HOwn0.out, HBel0.out, hbase, HK0.out⟩
  case round =>
    obtain ⟨j, hj, rfl, hown, hbel, hbs, hblk⟩ := hrel
    obtain ⟨A3, c3, rfl⟩ := own_slice hown
    have HOwn := Lib.hid hown
    have HBel := Lib.hid hbel
    have HBK := Lib.hid hblk
    by_cases hlt : j < k
    · obtain ⟨q, hq⟩ : ∃ q : Nat, k = j + q + 1 := ⟨k - j - 1, by omega⟩
      have e1 : (k : Int) - 1 - j = (q : Int) := by omega
      have hsn := pb_snoc n k j
      rw [show k - 1 - j = q by omega] at hsn
      have HSN := Lib.hid hsn
      have hq8 : (q : Int) ≤ 7 := by omega
      have hq9 : q ≤ 7 := by omega
      have HQ := Lib.hid hq
      have hdiv : 0 ≤ n / 2 ^ (8 * q) := Int.ediv_nonneg n0 (Int.le_of_lt (Int.pow_pos (by decide)))
      have hby : IntKind.u8.wrap (n / 2 ^ (8 * q)) = byteZ n q := by rw [IntKind.wrap_u8']; rfl
      have hb1 := byteZ_in n q
      rw [e1]
      have hnx : (q : Int) - 1 = (k : Int) - 1 - ((j + 1 : Nat) : Int) := by omega
      have HNX := Lib.hid hnx
      clear hown hbel hblk e1 hsn hq hnx
      go_wp2_with (at_builtin; refine wpList_append_own _ rfl (.tmp 15) (.tmp 21) _ rfl base 5 i0 _ 1 1 Try.underlying22 HI0.out HZ0.out HZ1.out HZ2.out rfl (by omega) _ (m + j) _ rfl (HOwn.out.alloc _) ⟨wr.heap.size, 0, none⟩ 1 1 [.int .u8 (byteZ n q)] rfl rfl (one_new _ _ _) (by simp [Value.oneCell']) (by unfold maxLen; omega) (by omega) (by simp; omega) ?_; intro v1 w1 hown1 hg1 _; have HO1 := Lib.hid hown1; have HG1 := Lib.hid hg1; clear hown1 hg1)
      go_roundw
      case rel =>
        refine ⟨j + 1, by omega, congrArg (Value.int .i64) HNX.out, ?_, below_grown (HBel.out.alloc (by omega) _) (HOwn.out.alloc _) hB (by simp; omega) HG1.out, by have := HG1.out.size; simp at this; omega, kt_step HBK.out (HOwn.out.alloc (.cells #[.int .u8 (byteZ n q)] 5)) HG1.out⟩
        rw [HSN.out, List.map_append, ← List.append_assoc]
        exact HO1.out
      case measure => first | (simp [intOf]; done) | (simp [intOf]; omega)
    · obtain rfl : j = k := by omega
      clear hown hbel hblk
      go_wp2_with fail
      go_ret
      exact ⟨_, rfl, HOwn.out, HBel.out, hbs, HBK.out⟩
set_option maxHeartbeats 400000 in
theorem all_t (b : Nat) (cs : Array Value) (v : Value) (m : Nat) (xs : List Value) (s : Int) (n c : Nat) (l : List Int) (base B : Nat) (a w : World) (hown : w.ownsRow base 5 1 v m xs) (hbase : base ≤ w.heap.size) (hm : m + 8 * n ≤ 1000000) (hbel : Below B a w) (hB : B ≤ base)
    (hl : l.length = n) (hK : Blk w b 24 cs) (hcs : cs.toList = l.map (.int .u64)) (hw : ∀ x ∈ l, 0 ≤ x ∧ x < 18446744073709551616) :
    Calls Try.prog 46 #[v, .int .i64 s, .slice (some ⟨b, 0, none⟩) n c] w (PutPostT w base B a m (hs s * n) xs (allb (hs s) l)) := by
  have HK0 := Lib.hid hK
  have HCS := Lib.hid hcs
  have HN := Lib.hid hl
  have HW := Lib.hid hw
  have HOwn0 := Lib.hid hown
  have HBel0 := Lib.hid hbel
  have hk8 := hs_le s
  have hkn : hs s * n ≤ 8 * n := Nat.mul_le_mul_right n hk8
  clear hK hcs hl hw hown hbel
  go_enter Try.func46, Try.ntmps46
  go_wp2_with fail
  go_loopw [0, 11] (fun out i wr => ∃ (j : Nat), j ≤ n ∧ i = .int .i64 j ∧ wr.ownsRow base 5 1 out (m + hs s * j) (xs ++ (allb (hs s) (l.take j)).map (.int .u8)) ∧ Below B a wr ∧ base ≤ wr.heap.size ∧ KT w wr) (fun _ i _ => n - (intOf i).toNat)
  case atStart => exact ⟨0, by omega, rfl, by simpa [allb] using HOwn0.out, HBel0.out, hbase, KT.refl w⟩
  case round =>
    obtain ⟨j, hj, rfl, hown, hbel, hbs, hkt⟩ := hrel
    have hblk := hkt _ _ _ (by decide) HK0.out
    have HKT := Lib.hid hkt
    clear hkt
    have HOwn := Lib.hid hown
    have HBel := Lib.hid hbel
    by_cases hlt : j < n
    · have hkl : j < l.length := by rw [HN.out]; exact hlt
      have hcell : wr.cell? ⟨b, j, none⟩ = some (.int .u64 (l[j])) := by
        rw [hblk.cell j, ← Array.getElem?_toList, HCS.out, List.getElem?_map, List.getElem?_eq_getElem hkl]
        rfl
      have HBK := Lib.hid hblk
      have hx := HW.out l[j] (List.getElem_mem hkl)
      have hsn : allb (hs s) (l.take (j + 1)) = allb (hs s) (l.take j) ++ pb l[j] (hs s) (hs s) := by rw [take_snoc l j hkl, allb_snoc]
      have HSN := Lib.hid hsn
      have hmj : hs s * j ≤ 8 * j := Nat.mul_le_mul_right j hk8
      have hmj2 : m + hs s * j ≤ 1000000 := by omega
      clear hown hbel hblk hsn hmj
      generalize l[j] = x at *
      obtain ⟨x0, x1⟩ := hx
      go_wp2_with fail
      refine (put_t _ _ _ x s base B a _ HOwn.out hbs hmj2 HBel.out hB x0 x1).mono ?_
      rintro e w1 ⟨v1, rfl, hown1, hbel1, hbs1, hbk1⟩
      have HO1 := Lib.hid hown1
      have HB1 := Lib.hid hbel1
      have HK1 := Lib.hid (HKT.out.trans hbk1)
      clear hown1 hbel1 hbk1
      go_wp2_with fail
      go_roundw
      case rel =>
        refine ⟨j + 1, by omega, by go_num, ?_, HB1.out, hbs1, HK1.out⟩
        · rw [HSN.out, List.map_append, ← List.append_assoc, Nat.mul_succ, ← Nat.add_assoc]
          exact HO1.out
      case measure => simp [intOf]; omega
    · obtain rfl : j = n := by omega
      have hz : l.take j = l := List.take_of_length_le (by rw [HN.out]; omega)
      rw [hz] at HOwn
      have HBK := Lib.hid hblk
      clear hown hbel hz hblk
      go_wp2_with fail
      go_ret
      exact ⟨_, rfl, HOwn.out, HBel.out, hbs, HKT.out⟩

end Go.Proofs.Ytndekicblbpkjaa.snK
/- Layer 9: Bytes of a header that may be. -/
namespace Go.Proofs.Ytndekicblbpkjaa.sixQ
open Go.ChangeShapes Go.WideShapes Go.ChangeAt Go.RowKit
open Go.Proofs.Ytndekicblbpkjaa.base Go.Proofs.Ytndekicblbpkjaa.octA Go.Proofs.Ytndekicblbpkjaa.octB Go.Proofs.Ytndekicblbpkjaa.octC Go.Proofs.Ytndekicblbpkjaa.octF Go.Proofs.Ytndekicblbpkjaa.octK Go.Proofs.Ytndekicblbpkjaa.net Go.Proofs.Ytndekicblbpkjaa.rdrA Go.Proofs.Ytndekicblbpkjaa.rdrG Go.Proofs.Ytndekicblbpkjaa.sumA Go.Proofs.Ytndekicblbpkjaa.sumB Go.Proofs.Ytndekicblbpkjaa.udpA Go.Proofs.Ytndekicblbpkjaa.tcpC Go.Proofs.Ytndekicblbpkjaa.sixW Go.Proofs.Ytndekicblbpkjaa.sixM Go.Proofs.Ytndekicblbpkjaa.snK Go.Proofs.Ytndekicblbpkjaa.sixA Go.Proofs.Ytndekicblbpkjaa.sixB Go.Proofs.Ytndekicblbpkjaa.sixC Go.Proofs.Ytndekicblbpkjaa.sixD Go.Proofs.Ytndekicblbpkjaa.sixE Go.Proofs.Ytndekicblbpkjaa.sixF Go.Proofs.Ytndekicblbpkjaa.sixG Go.Proofs.Ytndekicblbpkjaa.sixH Go.Proofs.Ytndekicblbpkjaa.sixK Go.Proofs.Ytndekicblbpkjaa.sixO
set_option linter.unusedVariables false

/-- Bytes under way: the header stands at block g. -/
structure BS (w : World) (g : Nat) (cs : Array Value) (V : World) (v : Value) (k : Nat) (xs : List Int) : Prop where
  own : V.ownsRow g 5 1 v k (xs.map (.int .u8))
  bel : Below g w V
  hd : Blk V g 29 cs
  sz : g ≤ V.heap.size
theorem BS.below {w : World} {g : Nat} {cs : Array Value} {V V' : World} {v : Value} {k : Nat} {xs : List Int} (h : BS w g cs V v k xs) (hb : Below V.heap.size V V') : BS w g cs V' v k xs := ⟨own_below2 h.own hb, h.bel.trans (hb.mono h.sz), h.hd.below hb h.hd.lt, Nat.le_trans h.sz hb.size⟩
theorem BS.put {w : World} {g : Nat} {cs : Array Value} {V : World} {v : Value} {k : Nat} {xs : List Int} (h : BS w g cs V v k xs) (n s : Int) (hk : k ≤ 1000000) (n0 : 0 ≤ n) (n1 : n < 18446744073709551616) :
    Calls Try.prog 45 #[v, .int .u64 n, .int .i64 s] V fun o w' => ∃ v', o = .returned v' ∧ BS w g cs w' v' (k + hs s) (xs ++ pb n (hs s) (hs s)) := by
  refine (put_t v k (xs.map (.int .u8)) n s g g w V h.own h.sz hk h.bel (Nat.le_refl _) n0 n1).mono ?_
  rintro o w' ⟨v', rfl, h1, h2, h3, h4⟩
  exact ⟨v', rfl, by rw [List.map_append]; exact h1, h2, h4 g _ _ (by decide) h.hd, h3⟩
theorem BS.all {w : World} {g : Nat} {cs : Array Value} {V : World} {v : Value} {k : Nat} {xs : List Int} (h : BS w g cs V v k xs) (s : Int) (b n c : Nat) (bs : Array Value) (l : List Int) (hk : k + 8 * n ≤ 1000000) (hl : l.length = n) (hK : Blk V b 24 bs) (hcs : bs.toList = l.map (.int .u64)) (hw : ∀ x ∈ l, 0 ≤ x ∧ x < 18446744073709551616) :
    Calls Try.prog 46 #[v, .int .i64 s, .slice (some ⟨b, 0, none⟩) n c] V fun o w' => ∃ v', o = .returned v' ∧ BS w g cs w' v' (k + hs s * n) (xs ++ allb (hs s) l) := by
  refine (all_t b bs v k (xs.map (.int .u8)) s n c l g g w V h.own h.sz hk h.bel (Nat.le_refl _) hl hK hcs hw).mono ?_
  rintro o w' ⟨v', rfl, h1, h2, h3, h4⟩
  exact ⟨v', rfl, by rw [List.map_append]; exact h1, h2, h4 g _ _ (by decide) h.hd, h3⟩

end Go.Proofs.Ytndekicblbpkjaa.sixQ
namespace Go.Proofs.Ytndekicblbpkjaa.sixR
end Go.Proofs.Ytndekicblbpkjaa.sixR
/- Layer 9: the law's chain. -/
namespace Go.Proofs.Ytndekicblbpkjaa.sixL
open Go.ChangeShapes Go.WideShapes Go.ChangeAt Go.RowKit
open Go.Proofs.Ytndekicblbpkjaa.base Go.Proofs.Ytndekicblbpkjaa.octA Go.Proofs.Ytndekicblbpkjaa.octB Go.Proofs.Ytndekicblbpkjaa.octC Go.Proofs.Ytndekicblbpkjaa.octF Go.Proofs.Ytndekicblbpkjaa.octK Go.Proofs.Ytndekicblbpkjaa.net Go.Proofs.Ytndekicblbpkjaa.rdrA Go.Proofs.Ytndekicblbpkjaa.rdrG Go.Proofs.Ytndekicblbpkjaa.sumA Go.Proofs.Ytndekicblbpkjaa.sumB Go.Proofs.Ytndekicblbpkjaa.udpA Go.Proofs.Ytndekicblbpkjaa.tcpC Go.Proofs.Ytndekicblbpkjaa.sixW Go.Proofs.Ytndekicblbpkjaa.sixM Go.Proofs.Ytndekicblbpkjaa.sixA Go.Proofs.Ytndekicblbpkjaa.sixB Go.Proofs.Ytndekicblbpkjaa.sixC Go.Proofs.Ytndekicblbpkjaa.sixD Go.Proofs.Ytndekicblbpkjaa.sixE Go.Proofs.Ytndekicblbpkjaa.sixF Go.Proofs.Ytndekicblbpkjaa.sixG
set_option linter.unusedVariables false

/-- Rows of extensions whose bytes lie elsewhere. -/
def OldX (w : World) (l : List Xt) : Prop := ∀ e ∈ l, Row w w.heap.size e.A (e.d.map (.int .u8)) ∧ e.d.length ≤ e.c ∧ e.c ≤ 9223372036854775807 ∧ U8 e.d ∧ (e.A = none → e.c = 0)
theorem OldX.below {w w' : World} {l : List Xt} (h : OldX w l) (hb : Below w.heap.size w w') : OldX w' l := fun e he => by
  obtain ⟨h1, h2⟩ := h e he
  exact ⟨(h1.below hb).more hb.size, h2⟩
end Go.Proofs.Ytndekicblbpkjaa.sixL
/- Layer 9: the law SixParses, where bytes begin with no header. -/
namespace Go.Proofs.Ytndekicblbpkjaa.sixS
open Go.ChangeShapes Go.WideShapes Go.ChangeAt Go.RowKit
open Go.Proofs.Ytndekicblbpkjaa.base Go.Proofs.Ytndekicblbpkjaa.octA Go.Proofs.Ytndekicblbpkjaa.octB Go.Proofs.Ytndekicblbpkjaa.octC Go.Proofs.Ytndekicblbpkjaa.octF Go.Proofs.Ytndekicblbpkjaa.octK Go.Proofs.Ytndekicblbpkjaa.net Go.Proofs.Ytndekicblbpkjaa.rdrA Go.Proofs.Ytndekicblbpkjaa.rdrG Go.Proofs.Ytndekicblbpkjaa.sumA Go.Proofs.Ytndekicblbpkjaa.sumB Go.Proofs.Ytndekicblbpkjaa.udpA Go.Proofs.Ytndekicblbpkjaa.tcpC Go.Proofs.Ytndekicblbpkjaa.sixW Go.Proofs.Ytndekicblbpkjaa.sixM Go.Proofs.Ytndekicblbpkjaa.snK Go.Proofs.Ytndekicblbpkjaa.sixA Go.Proofs.Ytndekicblbpkjaa.sixB Go.Proofs.Ytndekicblbpkjaa.sixC Go.Proofs.Ytndekicblbpkjaa.sixD Go.Proofs.Ytndekicblbpkjaa.sixE Go.Proofs.Ytndekicblbpkjaa.sixF Go.Proofs.Ytndekicblbpkjaa.sixG Go.Proofs.Ytndekicblbpkjaa.sixH Go.Proofs.Ytndekicblbpkjaa.sixI Go.Proofs.Ytndekicblbpkjaa.sixK Go.Proofs.Ytndekicblbpkjaa.sixL Go.Proofs.Ytndekicblbpkjaa.sixN Go.Proofs.Ytndekicblbpkjaa.sixO Go.Proofs.Ytndekicblbpkjaa.sixQ Go.Proofs.Ytndekicblbpkjaa.sixR
set_option linter.unusedVariables false

/-- What Parse and Quote tell where they refuse. -/
def FailP (w : World) (e : Int) (o : Ending) (w' : World) : Prop := o = .returned (.tuple #[.agg #[.int .i64 0, .int .i64 0, .int .i64 0, .bool false, .int .u64 0, .int .u64 0, .bool false, .int .u64 0, .int .u64 0, .slice none 0 0, .int .i64 0], .slice none 0 0, .int .i64 e]) ∧ Below w.heap.size w w'
theorem headP_fail {w : World} {l : List Int} {e : Int} {o : Ending} {w' : World} (h : HeadP w l (.inl e) o w') : FailP w e o w' := by
  obtain ⟨hb, h⟩ := h
  rcases h with ⟨e2, h1, h2⟩ | ⟨ys, q, r, h1, _⟩
  · injection h1 with h1
    subst h1
    exact ⟨h2, hb⟩
  · cases h1
/-- The same where they do not. -/
def GoodP (w : World) (l : List Int) (ys : List XP) (q : Int) (r : List Int) (o : Ending) (w' : World) : Prop :=
  Below w.heap.size w w' ∧ ∃ L A c B d, o = .returned (.tuple #[.agg ((hdOf l q).cells (.slice A ys.length c)), .slice B r.length d, .int .i64 0]) ∧ L.map Xt.re = ys ∧ GotX w' w.heap.size (.slice A ys.length c) L ∧ w'.ownsRow w.heap.size 5 1 (.slice B r.length d) r.length (r.map (.int .u8))
theorem headP_good {w : World} {l : List Int} {ys : List XP} {q : Int} {r : List Int} {o : Ending} {w' : World} (h : HeadP w l (.inr (ys, q, r)) o w') : GoodP w l ys q r o w' := by
  obtain ⟨hb, h⟩ := h
  rcases h with ⟨e2, h1, h2⟩ | ⟨ys2, q2, r2, h1, L, A, c, v, h2, h3, h4, h5⟩
  · cases h1
  · injection h1 with h1
    injection h1 with h1 h1b
    injection h1b with h1b h1c
    subst h1 h1b h1c
    obtain ⟨B, d, rfl⟩ := own_slice h5
    exact ⟨hb, L, A, c, B, d, h2, h3, h4, h5⟩
end Go.Proofs.Ytndekicblbpkjaa.sixS
/- Layer 9: what is parsed, put again. -/
namespace Go.Proofs.Ytndekicblbpkjaa.sixT
open Go.ChangeShapes Go.WideShapes Go.ChangeAt Go.RowKit
open Go.Proofs.Ytndekicblbpkjaa.base Go.Proofs.Ytndekicblbpkjaa.octA Go.Proofs.Ytndekicblbpkjaa.octB Go.Proofs.Ytndekicblbpkjaa.octC Go.Proofs.Ytndekicblbpkjaa.octF Go.Proofs.Ytndekicblbpkjaa.octK Go.Proofs.Ytndekicblbpkjaa.net Go.Proofs.Ytndekicblbpkjaa.rdrA Go.Proofs.Ytndekicblbpkjaa.rdrG Go.Proofs.Ytndekicblbpkjaa.sumA Go.Proofs.Ytndekicblbpkjaa.sumB Go.Proofs.Ytndekicblbpkjaa.udpA Go.Proofs.Ytndekicblbpkjaa.tcpC Go.Proofs.Ytndekicblbpkjaa.sixW Go.Proofs.Ytndekicblbpkjaa.sixM Go.Proofs.Ytndekicblbpkjaa.snK Go.Proofs.Ytndekicblbpkjaa.sixA Go.Proofs.Ytndekicblbpkjaa.sixB Go.Proofs.Ytndekicblbpkjaa.sixC Go.Proofs.Ytndekicblbpkjaa.sixD Go.Proofs.Ytndekicblbpkjaa.sixE Go.Proofs.Ytndekicblbpkjaa.sixF Go.Proofs.Ytndekicblbpkjaa.sixG Go.Proofs.Ytndekicblbpkjaa.sixH Go.Proofs.Ytndekicblbpkjaa.sixI Go.Proofs.Ytndekicblbpkjaa.sixK Go.Proofs.Ytndekicblbpkjaa.sixL Go.Proofs.Ytndekicblbpkjaa.sixN Go.Proofs.Ytndekicblbpkjaa.sixO Go.Proofs.Ytndekicblbpkjaa.sixQ Go.Proofs.Ytndekicblbpkjaa.sixR Go.Proofs.Ytndekicblbpkjaa.sixS
set_option linter.unusedVariables false

theorem byteZ_snoc (a x : Int) (i : Nat) (h0 : 0 ≤ x) (h1 : x ≤ 255) : byteZ (a * 256 + x) (i + 1) = byteZ a i := by
  unfold byteZ
  have e : (2 : Int) ^ (8 * (i + 1)) = 256 * 2 ^ (8 * i) := by
    rw [show 8 * (i + 1) = 8 + 8 * i by omega, Int.pow_add]
    rfl
  have k : (a * 256 + x) / 256 = a := by omega
  have d := @Int.ediv_ediv (a * 256 + x) 256 (2 ^ (8 * i))
  rw [if_neg (by omega), Int.sub_zero] at d
  rw [e, ← d, k]
theorem byteZ_last (a x : Int) (h0 : 0 ≤ x) (h1 : x ≤ 255) : byteZ (a * 256 + x) 0 = x := by
  unfold byteZ
  show (a * 256 + x) / 1 % 256 = x
  omega
theorem atN_byte (l : List Int) (hu : U8 l) : ∀ (k : Nat) (t : Nat), t < k → byteZ (atN l 0 k) (k - 1 - t) = l.getD t 0
  | 0, t, h => by omega
  | k + 1, t, h => by
    have hx := hu.get k
    show byteZ (atN l 0 k * 256 + l.getD (0 + k) 0) (k + 1 - 1 - t) = _
    rw [Nat.zero_add]
    rcases Nat.lt_or_ge t k with h1 | h1
    · rw [show k + 1 - 1 - t = (k - 1 - t) + 1 by omega, byteZ_snoc _ _ _ hx.1 hx.2]
      exact atN_byte l hu k t h1
    · obtain rfl : t = k := by omega
      rw [show t + 1 - 1 - t = 0 by omega]
      exact byteZ_last _ _ hx.1 hx.2
theorem atN_pb (l : List Int) (hu : U8 l) (k : Nat) (hk : k ≤ l.length) : pb (atN l 0 k) k k = l.take k := by
  refine List.ext_getElem (by rw [pb_len, List.length_take]; omega) fun i h1 h2 => ?_
  rw [pb_len] at h1
  have := atN_byte l hu k i h1
  rw [List.getD_eq_getElem?_getD, List.getElem?_eq_getElem (by omega)] at this
  simp only [pb, List.getElem_map, List.getElem_range, List.getElem_take]
  exact this
theorem atN_drop (l : List Int) (f : Nat) : ∀ k, atN l f k = atN (l.drop f) 0 k
  | 0 => rfl
  | k + 1 => by
    show atN l f k * 256 + l.getD (f + k) 0 = atN (l.drop f) 0 k * 256 + (l.drop f).getD (0 + k) 0
    rw [atN_drop l f k, Nat.zero_add, List.getD_eq_getElem?_getD, List.getD_eq_getElem?_getD, List.getElem?_drop]
theorem atN_in (l : List Int) (hu : U8 l) (f : Nat) : ∀ k, 0 ≤ atN l f k ∧ atN l f k < 256 ^ k
  | 0 => ⟨Int.le_refl _, by show (0 : Int) < 1; omega⟩
  | k + 1 => by
    obtain ⟨h1, h2⟩ := atN_in l hu f k
    have hx := hu.get (f + k)
    show 0 ≤ atN l f k * 256 + l.getD (f + k) 0 ∧ atN l f k * 256 + l.getD (f + k) 0 < 256 ^ (k + 1)
    rw [Int.pow_succ]
    omega
theorem atN_in8 (l : List Int) (hu : U8 l) (f : Nat) : 0 ≤ atN l f 8 ∧ atN l f 8 < 18446744073709551616 := atN_in l hu f 8
theorem first_eq (x0 x1 x2 x3 : Int) (h0 : 0 ≤ x0 ∧ x0 ≤ 255) (h1 : 0 ≤ x1 ∧ x1 ≤ 255) (h2 : 0 ≤ x2 ∧ x2 ≤ 255) (h3 : 0 ≤ x3 ∧ x3 ≤ 255) (hv : x0 / 16 = 6) (W : Int) (hW : W = (x0 * 256 + x1) * 65536 + (x2 * 256 + x3)) :
    96 + W / 1048576 % 256 / 16 = x0 ∧ W / 1048576 % 256 % 16 * 16 + W % 1048576 / 65536 = x1 ∧ W % 1048576 / 256 % 256 = x2 ∧ W % 1048576 % 256 = x3 := by
  have e1 : W / 1048576 % 256 = x0 % 16 * 16 + x1 / 16 := by omega
  have e2 : W % 1048576 = x1 % 16 * 65536 + x2 * 256 + x3 := by omega
  rw [e1, e2]
  clear e1 e2 hW
  refine ⟨by omega, by omega, by omega, by omega⟩
theorem eight (l : List Int) (h : 8 ≤ l.length) : l.take 8 = [l.getD 0 0, l.getD 1 0, l.getD 2 0, l.getD 3 0, l.getD 4 0, l.getD 5 0, l.getD 6 0, l.getD 7 0] := by
  match l, h with
  | a :: b :: c :: d :: e :: f :: g :: i :: t, _ => rfl
theorem forty (l : List Int) (h : 40 ≤ l.length) : l.take 40 = l.take 8 ++ (((l.drop 8).drop 0).take 8 ++ ((l.drop 8).drop 8).take 8) ++ (((l.drop 24).drop 0).take 8 ++ ((l.drop 24).drop 8).take 8) := by
  have t1 : l.take (8 + 32) = l.take 8 ++ (l.drop 8).take 32 := List.take_add
  have t2 : (l.drop 8).take (8 + 24) = (l.drop 8).take 8 ++ ((l.drop 8).drop 8).take 24 := List.take_add
  have t3 : ((l.drop 8).drop 8).take (8 + 16) = ((l.drop 8).drop 8).take 8 ++ (((l.drop 8).drop 8).drop 8).take 16 := List.take_add
  have t4 : (l.drop 24).take (8 + 8) = (l.drop 24).take 8 ++ ((l.drop 24).drop 8).take 8 := List.take_add
  have d : ((l.drop 8).drop 8).drop 8 = l.drop 24 := by simp only [List.drop_drop]
  rw [d] at t3
  rw [List.drop_zero, List.drop_zero]
  refine t1.trans ?_
  rw [show 32 = 8 + 24 from rfl, t2, show 24 = 8 + 16 from rfl, t3]
  rw [show 16 = 8 + 8 from rfl]
  show l.take 8 ++ ((l.drop 8).take 8 ++ (((l.drop 8).drop 8).take 8 ++ (l.drop 24).take (8 + 8))) = _
  rw [t4]
  simp only [List.append_assoc]
/-- What is parsed, put again. -/
theorem put_back (l : List Int) (hu : U8 l) (hn : 40 ≤ l.length) (hv : l.getD 0 0 / 16 = 6) (hs : sizeP l ≤ l.length - 40) {ys : List XP} {q : Int} {r : List Int} (hc : chn 9 [] (l.getD 6 0) ((l.take (40 + sizeP l)).drop 40) = some (ys, q, r)) :
    sixB (hdOf l q) ys r = l.take (40 + sizeP l) ∧ RightH (hdOf l q) ys ∧ (∀ x ∈ ys, U8 x.2) ∧ U8 r ∧ r.length ≤ l.length := by
  have hut : U8 ((l.take (40 + sizeP l)).drop 40) := (hu.take _).drop _
  obtain ⟨zs, h1, h2, h3, h4, h5, h6, h7, h8, h9, h10⟩ := chn_sound 9 [] _ _ hut (hu.get 6) RightE.nil (fun x hx => by cases hx) hc
  rw [List.nil_append] at h1
  subst h1
  have x0 := hu.get 0; have x1 := hu.get 1; have x2 := hu.get 2; have x3 := hu.get 3; have x4 := hu.get 4; have x5 := hu.get 5; have x7 := hu.get 7
  have hw : w32 l 0 = (l.getD 0 0 * 256 + l.getD 1 0) * 65536 + (l.getD 2 0 * 256 + l.getD 3 0) := rfl
  obtain ⟨f0, f1, f2, f3⟩ := first_eq _ _ _ _ x0 x1 x2 x3 hv _ hw
  have hsz : ((sizeP l : Nat) : Int) = 256 * l.getD 4 0 + l.getD 5 0 := by unfold sizeP; omega
  have hlen : extL ys + r.length = sizeP l := by
    have := congrArg List.length h3
    rw [List.length_append, extB_len, List.length_drop, List.length_take] at this
    omega
  have hp := h10
  rw [List.length_drop, List.length_take] at hp
  refine ⟨?_, ⟨?_, ?_, x7.1, x7.2, ?_, ?_, rfl, rfl, h6, h7, h5, h4⟩, h8, h9, by omega⟩
  · show hdB (hdOf l q) (nextK ys q) (extL ys + r.length) ++ (extB ys q ++ r) = _
    have e40 : hdB (hdOf l q) (nextK ys q) (extL ys + r.length) = l.take 40 := by
      rw [hlen, h2, forty l hn, eight l (by omega)]
      show [96 + w32 l 0 / 1048576 % 256 / 16, w32 l 0 / 1048576 % 256 % 16 * 16 + w32 l 0 % 1048576 / 65536, w32 l 0 % 1048576 / 256 % 256, w32 l 0 % 1048576 % 256, ((sizeP l : Nat) : Int) / 256 % 256, ((sizeP l : Nat) : Int) % 256, l.getD 6 0, l.getD 7 0] ++ (pb (atN (l.drop 8) 0 8) 8 8 ++ pb (atN (l.drop 8) 8 8) 8 8) ++ (pb (atN (l.drop 24) 0 8) 8 8 ++ pb (atN (l.drop 24) 8 8) 8 8) = _
      have g4 : ((sizeP l : Nat) : Int) / 256 % 256 = l.getD 4 0 := by omega
      have g5 : ((sizeP l : Nat) : Int) % 256 = l.getD 5 0 := by omega
      rw [f0, f1, f2, f3, g4, g5, atN_drop (l.drop 8) 0, atN_drop (l.drop 8) 8, atN_drop (l.drop 24) 0, atN_drop (l.drop 24) 8]
      rw [atN_pb _ ((hu.drop 8).drop 0) 8 (by simp only [List.length_drop]; omega), atN_pb _ ((hu.drop 8).drop 8) 8 (by simp only [List.length_drop]; omega), atN_pb _ ((hu.drop 24).drop 0) 8 (by simp only [List.length_drop]; omega), atN_pb _ ((hu.drop 24).drop 8) 8 (by simp only [List.length_drop]; omega)]
    rw [e40, ← h3]
    have := List.take_append_drop 40 (l.take (40 + sizeP l))
    rw [List.take_take, Nat.min_eq_left (by omega)] at this
    exact this
  · show 0 ≤ w32 l 0 / 1048576 % 256; omega
  · show w32 l 0 / 1048576 % 256 ≤ 255; omega
  · show 0 ≤ w32 l 0 % 1048576; omega
  · show w32 l 0 % 1048576 ≤ 1048575; omega
end Go.Proofs.Ytndekicblbpkjaa.sixT
/- Layer 13: what the parsers tell, each by one contract. -/
namespace Go.Proofs.Ytndekicblbpkjaa.pktA
open Go.ChangeShapes Go.WideShapes Go.ChangeAt Go.RowKit
open Go.Proofs.Ytndekicblbpkjaa.base Go.Proofs.Ytndekicblbpkjaa.octA Go.Proofs.Ytndekicblbpkjaa.octB Go.Proofs.Ytndekicblbpkjaa.octC Go.Proofs.Ytndekicblbpkjaa.octF Go.Proofs.Ytndekicblbpkjaa.net Go.Proofs.Ytndekicblbpkjaa.rdrA Go.Proofs.Ytndekicblbpkjaa.sumA Go.Proofs.Ytndekicblbpkjaa.sumB Go.Proofs.Ytndekicblbpkjaa.sixW Go.Proofs.Ytndekicblbpkjaa.sixM Go.Proofs.Ytndekicblbpkjaa.sixE Go.Proofs.Ytndekicblbpkjaa.sixF
set_option linter.unusedVariables false

open Go.Proofs.Ytndekicblbpkjaa.udpA (w16) in
/-- Why bytes are no segment. -/
def tcpE (l ps : List Int) : Int := if l.length < 20 then 2 else if l.getD 12 0 / 16 * 4 < 20 ∨ (l.length : Int) < l.getD 12 0 / 16 * 4 ∨ l.getD 12 0 % 16 ≠ 0 then 11 else if fo (wsum (ps ++ l)) ≠ 65535 then 13 else 0
def udpE_ (l ps : List Int) (bare : Bool) : Int := if l.length < 8 then 2 else if udpA.w16 l 4 ≠ l.length then 12 else if (udpA.w16 l 6 = 0 ∧ bare = false) ∨ (udpA.w16 l 6 ≠ 0 ∧ fo (wsum (ps ++ l)) ≠ 65535) then 13 else 0
def icmpE (l ps : List Int) : Int := if l.length < 8 then 2 else if fo (wsum (ps ++ l)) ≠ 65535 then 13 else 0
def fourE (l : List Int) : Int := if l.length < 20 then 2 else if l.getD 0 0 / 16 ≠ 4 then 10 else if fourA.hl l < 20 ∨ (l.length : Int) < fourA.hl l then 11 else if 32768 ≤ udpA.w16 l 6 then 11 else if udpA.w16 l 2 < fourA.hl l ∨ (l.length : Int) < udpA.w16 l 2 then 12 else if fo (wsum (l.take (fourA.hl l).toNat)) ≠ 65535 then 13 else 0
/-- A slice that reads as bytes. -/
structure Sl (w : World) (A : Option Addr) (n c : Nat) (l : List Int) : Prop where
  len : l.length = n
  row : Row w w.heap.size A (l.map (.int .u8))
  nc : n ≤ c
  mx : c ≤ 9223372036854775807
  nil : A = none → c = 0
  u8 : U8 l
theorem Sl.below {w w' : World} {A : Option Addr} {n c : Nat} {l : List Int} (h : Sl w A n c l) (hb : Below w.heap.size w w') : Sl w' A n c l := ⟨h.len, (h.row.below hb).more hb.size, h.nc, h.mx, h.nil, h.u8⟩
theorem Sl.own {w : World} {B : Nat} {A : Option Addr} {n c : Nat} {l : List Int} (h : w.ownsRow B 5 1 (.slice A n c) n (l.map (.int .u8))) (hl : l.length = n) (hu : U8 l) : Sl w A n c l := by
  have hc := own_cap h
  exact ⟨hl, own_row h, hc.1, hc.2.1, hc.2.2, hu⟩
theorem Sl.none_ (w : World) : Sl w none 0 0 [] := ⟨rfl, .inl rfl, Nat.le_refl _, by omega, fun _ => rfl, fun x hx => by cases hx⟩
def TcpP (l ps : List Int) (w : World) (o : Ending) (w' : World) : Prop := Below w.heap.size w w' ∧ ((tcpE l ps ≠ 0 ∧ o = .returned (tcpDn.errt (tcpE l ps))) ∨ (tcpE l ps = 0 ∧ ∃ (sq ak wn ur : Int) (A : Option Addr) (m c : Nat) (v : Value), o = .returned (.tuple #[.agg #[.int .i64 (udpA.w16 l 0), .int .i64 (udpA.w16 l 2), .int .u32 sq, .int .u32 ak, .int .i64 (l.getD 13 0), .int .i64 wn, .int .i64 ur, .slice A m c], v, .int .i64 0])))
theorem tcp_any (A A2 : Option Addr) (n c n2 c2 : Nat) (l ps : List Int) (w : World) (h : Sl w A n c l) (h2 : Sl w A2 n2 c2 ps) (hn : n ≤ 1000) (hn2 : n2 ≤ 1000) :
    Calls Try.prog 59 #[.slice A n c, .slice A2 n2 c2] w (TcpP l ps w) := by
  have hl := h.len
  by_cases h20 : n < 20
  · have e : tcpE l ps = 2 := by unfold tcpE; rw [if_pos (by omega)]
    refine (tcpDn.parse_short A A2 n c n2 c2 w h20).mono ?_
    rintro o w' ⟨rfl, hb⟩
    exact ⟨hb, .inl ⟨by omega, by rw [e]⟩⟩
  obtain ⟨b, off, rfl, hb, hs⟩ := lies_of h.row (by omega)
  have k12 := h.u8.get 12
  by_cases hw : l.getD 12 0 / 16 * 4 < 20 ∨ (l.length : Int) < l.getD 12 0 / 16 * 4 ∨ l.getD 12 0 % 16 ≠ 0
  · have e : tcpE l ps = 11 := by unfold tcpE; rw [if_neg (by omega), if_pos hw]
    refine (tcpDn.parse_head b off n c n2 c2 A2 l ps w hl (by omega) hn h.nc h.mx hb hs h.u8 h2.len hn2 h2.row h2.u8 (by omega)).mono ?_
    rintro o w' ⟨rfl, hb⟩
    exact ⟨hb, .inl ⟨by omega, by rw [e]⟩⟩
  · by_cases hS : fo (wsum (ps ++ l)) = 65535
    · have e : tcpE l ps = 0 := by unfold tcpE; rw [if_neg (by omega), if_neg hw, if_neg (by omega)]
      obtain ⟨s, hsz⟩ := Int.eq_ofNat_of_zero_le (show 0 ≤ l.getD 12 0 / 16 * 4 by omega)
      have key : Calls Try.prog 59 #[.slice (some ⟨b, off, none⟩) n c, .slice A2 n2 c2] w (tcpDn.OkPost w l s) := by
        by_cases hcs : c = s
        · obtain rfl : n = s := by have := h.nc; omega
          subst hcs
          exact tcpDn.parse_ok_edge b off c n2 c2 A2 l ps w hl (by omega) hn (by have := h.mx; omega) hb hs h.u8 h2.len hn2 h2.row h2.u8 (by omega) (by omega) (by omega) hS hsz
        · exact tcpDn.parse_ok_far b off n c n2 c2 A2 l ps w hl (by omega) hn h.nc h.mx hb hs h.u8 h2.len hn2 h2.row h2.u8 (by omega) (by omega) (by omega) hS s hsz hcs
      refine key.mono ?_
      rintro o w' ⟨AO, co, v, rfl, _, _, _, hb⟩
      exact ⟨hb, .inr ⟨e, _, _, _, _, AO, _, co, v, rfl⟩⟩
    · have e : tcpE l ps = 13 := by unfold tcpE; rw [if_neg (by omega), if_neg hw, if_pos hS]
      refine (tcpDn.parse_sum b off n c n2 c2 A2 l ps w hl (by omega) hn h.nc h.mx hb hs h.u8 h2.len hn2 h2.row h2.u8 (by omega) (by omega) (by omega) hS).mono ?_
      rintro o w' ⟨rfl, hb⟩
      exact ⟨hb, .inl ⟨by omega, by rw [e]⟩⟩
def UdpP (l ps : List Int) (bare : Bool) (w : World) (o : Ending) (w' : World) : Prop := Below w.heap.size w w' ∧ ((udpE_ l ps bare ≠ 0 ∧ o = .returned (udpA.errv (udpE_ l ps bare))) ∨ (udpE_ l ps bare = 0 ∧ ∃ (b : Bool) (v : Value), o = .returned (.tuple #[.agg #[.int .i64 (udpA.w16 l 0), .int .i64 (udpA.w16 l 2), .bool b], v, .int .i64 0])))
theorem udp_any (A A2 : Option Addr) (n c n2 c2 : Nat) (l ps : List Int) (bare : Bool) (w : World) (h : Sl w A n c l) (h2 : Sl w A2 n2 c2 ps) (hn : n ≤ 1000) (hn2 : n2 ≤ 1000) :
    Calls Try.prog 60 #[.slice A n c, .slice A2 n2 c2, .bool bare] w (UdpP l ps bare w) := by
  have hl := h.len
  by_cases h8 : n < 8
  · have e : udpE_ l ps bare = 2 := by unfold udpE_; rw [if_pos (by omega)]
    refine (udpA.parse_short A A2 n c n2 c2 bare w h8).mono ?_
    rintro o w' ⟨rfl, hb⟩
    exact ⟨hb, .inl ⟨by omega, by rw [e]; rfl⟩⟩
  obtain ⟨b, off, rfl, hb, hs⟩ := lies_of h.row (by omega)
  refine (udpA.parse_any b off n c n2 c2 A2 l ps bare w hl (by omega) hn h.nc h.mx hb hs h.u8 h2.len hn2 h2.row h2.u8).mono ?_
  rintro o w' ⟨p1, p2, p3⟩
  by_cases hn4 : udpA.w16 l 4 = l.length
  · by_cases hbd : (udpA.w16 l 6 = 0 ∧ bare = false) ∨ (udpA.w16 l 6 ≠ 0 ∧ fo (wsum (ps ++ l)) ≠ 65535)
    · have e : udpE_ l ps bare = 13 := by unfold udpE_; rw [if_neg (by omega), if_neg (by omega), if_pos hbd]
      obtain ⟨h1, h2⟩ := p2 hn4 hbd
      exact ⟨h2, .inl ⟨by omega, by rw [e]; exact h1⟩⟩
    · have e : udpE_ l ps bare = 0 := by unfold udpE_; rw [if_neg (by omega), if_neg (by omega), if_neg hbd]
      obtain ⟨v, h1, _, h2⟩ := p3 hn4 hbd
      exact ⟨h2, .inr ⟨e, _, v, h1⟩⟩
  · have e : udpE_ l ps bare = 12 := by unfold udpE_; rw [if_neg (by omega), if_pos hn4]
    obtain ⟨h1, h2⟩ := p1 hn4
    exact ⟨h2, .inl ⟨by omega, by rw [e]; exact h1⟩⟩
def IcmpP (l ps : List Int) (w : World) (o : Ending) (w' : World) : Prop := Below w.heap.size w w' ∧ ((icmpE l ps ≠ 0 ∧ o = .returned (.tuple #[.agg #[.int .i64 0, .int .i64 0, .int .u32 0, .slice none 0 0], .int .i64 (icmpE l ps)])) ∨ (icmpE l ps = 0 ∧ ∃ (wd : Int) (A : Option Addr) (m c : Nat), o = .returned (.tuple #[.agg #[.int .i64 (l.getD 0 0), .int .i64 (l.getD 1 0), .int .u32 wd, .slice A m c], .int .i64 0]) ∧ Sl w' A m c (l.drop 8)))
theorem icmp_any (A A2 : Option Addr) (n c n2 c2 : Nat) (l ps : List Int) (w : World) (h : Sl w A n c l) (h2 : Sl w A2 n2 c2 ps) (hn : n ≤ 1000) (hn2 : n2 ≤ 1000) :
    Calls Try.prog 61 #[.slice A n c, .slice A2 n2 c2] w (IcmpP l ps w) := by
  have hl := h.len
  by_cases h8 : n < 8
  · have e : icmpE l ps = 2 := by unfold icmpE; rw [if_pos (by omega)]
    refine (icmpC.parse_short A A2 n c n2 c2 w h8).mono ?_
    rintro o w' ⟨rfl, hb⟩
    exact ⟨hb, .inl ⟨by omega, by rw [e]⟩⟩
  obtain ⟨b, off, rfl, hb, hs⟩ := lies_of h.row (by omega)
  by_cases hS : fo (wsum (ps ++ l)) = 65535
  · have e : icmpE l ps = 0 := by unfold icmpE; rw [if_neg (by omega), if_neg (by omega)]
    refine (icmpC.parse_ok b off n c n2 c2 A2 l ps w hl (by omega) hn h.nc h.mx hb hs h.u8 h2.len hn2 h2.row h2.u8 hS).mono ?_
    rintro o w' ⟨AO, m, co, hm, rfl, _, ho, hb⟩
    exact ⟨hb, .inr ⟨e, _, AO, m, co, rfl, Sl.own ho (by rw [List.length_drop]; omega) (h.u8.drop 8)⟩⟩
  · have e : icmpE l ps = 13 := by unfold icmpE; rw [if_neg (by omega), if_pos hS]
    refine (icmpC.parse_sum b off n c n2 c2 A2 l ps w hl (by omega) hn hb hs h.u8 h2.len hn2 h2.row h2.u8 hS).mono ?_
    rintro o w' ⟨rfl, hb⟩
    exact ⟨hb, .inl ⟨by omega, by rw [e]⟩⟩
def fourS (l : List Int) : Nat := (fourA.hl l).toNat
def fourR (l : List Int) : List Int := (l.drop (fourS l)).take ((udpA.w16 l 2).toNat - fourS l)
def FourP (l : List Int) (w : World) (o : Ending) (w' : World) : Prop := Below w.heap.size w w' ∧ ((fourE l ≠ 0 ∧ o = .returned (fourB.err (fourE l))) ∨ (fourE l = 0 ∧ 20 ≤ fourS l ∧ fourS l ≤ 60 ∧ (fourR l).length ≤ l.length ∧ ∃ (tos id : Int) (df : Bool) (AO : Option Addr) (co : Nat) (AR : Option Addr) (cr : Nat), o = .returned (.tuple #[.agg #[.int .i64 tos, .int .i64 id, .bool df, .bool (decide (udpA.w16 l 6 / 8192 % 2 = 1)), .int .i64 (udpA.w16 l 6 % 8192), .int .i64 (l.getD 8 0), .int .i64 (l.getD 9 0), .bool false, .int .u64 0, .int .u64 (tcpC.w32 l 12), .bool false, .int .u64 0, .int .u64 (tcpC.w32 l 16), .slice AO (fourS l - 20) co], .slice AR (fourR l).length cr, .int .i64 0]) ∧ Sl w' AR (fourR l).length cr (fourR l)))
theorem four_begin (A : Option Addr) (n c : Nat) (k : Int) (hk : k ≠ 0) (w : World) (h : ∀ W, Below w.heap.size w W → Calls Try.prog 53 #[.slice A n c] W fun e w' => e = .returned (.tuple #[.int .i64 0, .int .i64 k]) ∧ W = w') :
    Calls Try.prog 79 #[.slice A n c] w fun e w' => e = .returned (fourB.err k) ∧ Below w.heap.size w w' := by
  have tk : (k != 0) = true := bneT hk
  have H := Lib.hid (h (w.alloc (.cells #[.int .i64 0, .int .i64 0, .bool false, .bool false, .int .i64 0, .int .i64 0, .int .i64 0, .bool false, .int .u64 0, .int .u64 0, .bool false, .int .u64 0, .int .u64 0, .slice none 0 0] 53)) ((Below.refl _ _).alloc (Nat.le_refl _) _))
  clear h hk
  go_enter Try.func79, Try.ntmps79
  go_wp2_with fail
  refine H.out.mono ?_
  rintro e w1 ⟨rfl, hw⟩
  subst hw
  go_wp2_with fail
  exact bodyPost_ret (v := fourB.err k) (by simp [results, Try.results79, go_sem, fourB.err]) rfl ⟨rfl, (Below.refl _ _).alloc (Nat.le_refl _) _⟩
theorem four_any (A : Option Addr) (n c : Nat) (l : List Int) (w : World) (h : Sl w A n c l) (hn : n ≤ 1000) : Calls Try.prog 79 #[.slice A n c] w (FourP l w) := by
  have hl := h.len
  have bad : ∀ k : Int, k ≠ 0 → fourE l = k → (Calls Try.prog 79 #[.slice A n c] w fun e w' => e = .returned (fourB.err k) ∧ Below w.heap.size w w') → Calls Try.prog 79 #[.slice A n c] w (FourP l w) := fun k hk he hc => hc.mono fun o w' h => ⟨h.2, .inl ⟨by omega, by rw [he]; exact h.1⟩⟩
  by_cases h20 : n < 20
  · exact bad 2 (by omega) (by unfold fourE; rw [if_pos (by omega)]) (fourB.parse_begin A n c 2 (by omega) w (fun W => fourA.begin_short A n c W h20))
  obtain ⟨b, off, rfl, hb, hs⟩ := lies_of h.row (by omega)
  have BG : ∀ k : Int, k ≠ 0 → fourE l = k → (∀ W : World, b < W.heap.size → Lies W b off l → Calls Try.prog 53 #[.slice (some ⟨b, off, none⟩) n c] W fun e w' => e = .returned (.tuple #[.int .i64 0, .int .i64 k]) ∧ W = w') → Calls Try.prog 79 #[.slice (some ⟨b, off, none⟩) n c] w (FourP l w) :=
    fun k hk he h => bad k hk he (four_begin _ n c k hk w fun W hW => h W (Nat.lt_of_lt_of_le hb hW.size) (hs.below hW hb))
  have k0 := h.u8.get 0
  by_cases hv : l.getD 0 0 / 16 = 4
  · have hsN : 0 ≤ fourA.hl l := by unfold fourA.hl; omega
    have hs60 : fourA.hl l ≤ 60 := by unfold fourA.hl; omega
    obtain ⟨s, hsz⟩ := Int.eq_ofNat_of_zero_le hsN
    by_cases h1 : s < 20
    · exact BG 11 (by omega) (by unfold fourE; rw [if_neg (by omega), if_neg (by omega), if_pos (by omega)]) fun W a b' => fourA.begin_no b off n c l W hl (by omega) a b' h.u8 11 (.inr (.inl ⟨hv, by omega, rfl⟩))
    by_cases h2 : n < s
    · exact BG 11 (by omega) (by unfold fourE; rw [if_neg (by omega), if_neg (by omega), if_pos (by omega)]) fun W a b' => fourA.begin_no b off n c l W hl (by omega) a b' h.u8 11 (.inr (.inr ⟨hv, by omega, by omega, rfl⟩))
    have h6 := udpA.w16_in l h.u8 6
    have h22 := udpA.w16_in l h.u8 2
    by_cases hq : 32768 ≤ udpA.w16 l 6
    · exact bad 11 (by omega) (by unfold fourE; rw [if_neg (by omega), if_neg (by omega), if_neg (by omega), if_pos hq]) (fourB.parse_bit b off n c s l w hl (by omega) hn h.nc h.mx hb hs h.u8 hv (by omega) (by omega) hsz hq)
    by_cases ha : udpA.w16 l 2 < s
    · exact bad 12 (by omega) (by unfold fourE; rw [if_neg (by omega), if_neg (by omega), if_neg (by omega), if_neg hq, if_pos (by omega)]) (fourB.parse_less b off n c s l w hl (by omega) hn h.nc h.mx hb hs h.u8 hv (by omega) (by omega) hsz (by omega) ha)
    by_cases ha2 : (n : Int) < udpA.w16 l 2
    · exact bad 12 (by omega) (by unfold fourE; rw [if_neg (by omega), if_neg (by omega), if_neg (by omega), if_neg hq, if_pos (by omega)]) (fourB.parse_more b off n c s l w hl (by omega) hn h.nc h.mx hb hs h.u8 hv (by omega) (by omega) hsz (by omega) (by omega) ha2)
    obtain ⟨a, haz⟩ := Int.eq_ofNat_of_zero_le h22.1
    have es : fourS l = s := by unfold fourS; omega
    have et : (fourA.hl l).toNat = s := es
    by_cases hS : fo (wsum (l.take s)) = 65535
    · have e : fourE l = 0 := by unfold fourE; rw [if_neg (by omega), if_neg (by omega), if_neg (by omega), if_neg hq, if_neg (by omega), et, if_neg (by omega)]
      have er : fourR l = (l.drop s).take (a - s) := by unfold fourR; rw [es, haz]; rfl
      have key : Calls Try.prog 79 #[.slice (some ⟨b, off, none⟩) n c] w (fourB.OkPost w l ((l.drop s).take (a - s)) s (a - s)) := by
        by_cases hcs : c = s
        · exact fourB.parse_near b off n c s l w hl (by omega) hn h.nc h.mx hb hs h.u8 hv (by omega) (by omega) hsz (by omega) a haz (by omega) (by omega) hS hcs
        · exact fourB.parse_far b off n c s l w hl (by omega) hn h.nc h.mx hb hs h.u8 hv (by omega) (by omega) hsz (by omega) a haz (by omega) (by omega) hS hcs
      refine key.mono ?_
      rintro o w' ⟨AO, co, v, h1, h2, h3, h4, h5⟩
      obtain ⟨B, d, rfl⟩ := own_slice h4
      have hln : ((l.drop s).take (a - s)).length = a - s := by rw [List.length_take, List.length_drop]; omega
      refine ⟨h5, .inr ⟨e, by omega, by omega, by rw [er, hln]; omega, l.getD 1 0, udpA.w16 l 4, decide (udpA.w16 l 6 / 16384 % 2 = 1), AO, co, B, d, ?_, ?_⟩⟩
      · rw [er, hln, es]
        exact h1
      · rw [er, hln]
        exact Sl.own h4 hln ((h.u8.drop s).take (a - s))
    · exact bad 13 (by omega) (by unfold fourE; rw [if_neg (by omega), if_neg (by omega), if_neg (by omega), if_neg hq, if_neg (by omega), et, if_pos hS]) (fourB.parse_sum b off n c s l w hl (by omega) hn h.nc h.mx hb hs h.u8 hv (by omega) (by omega) hsz (by omega) a haz (by omega) (by omega) hS)
  · exact BG 10 (by omega) (by unfold fourE; rw [if_neg (by omega), if_pos hv]) fun W a b' => fourA.begin_no b off n c l W hl (by omega) a b' h.u8 10 (.inl ⟨hv, rfl⟩)
end Go.Proofs.Ytndekicblbpkjaa.pktA
