/- Layer 25: the example, and the law of StrawPicks. -/
import Derived.Test.YtanijccpbleekaaStrD
namespace Go.Proofs.Ytanijccpbleekaa.strE
open Go.ChangeShapes Go.WideShapes Go.ChangeAt Go.RowKit
open Go.Proofs.Ytanijccpbleekaa.base Go.Proofs.Ytanijccpbleekaa.onceB Go.Proofs.Ytanijccpbleekaa.onceC Go.Proofs.Ytanijccpbleekaa.wideC Go.Proofs.Ytanijccpbleekaa.wideF Go.Proofs.Ytanijccpbleekaa.wideG Go.Proofs.Ytanijccpbleekaa.wideH Go.Proofs.Ytanijccpbleekaa.wideI Go.Proofs.Ytanijccpbleekaa.strA Go.Proofs.Ytanijccpbleekaa.strB Go.Proofs.Ytanijccpbleekaa.strC Go.Proofs.Ytanijccpbleekaa.strD
set_option linter.unusedVariables false

theorem rows_keep {g : Nat} {z w w' : World} {A : Option Addr} {l : List (Int × Int)} (hr : Row2 z z.heap.size A l) (hz : Below z.heap.size z w) (hg : z.heap.size ≤ g) (ha : Aside g w w') : Row2 w' w'.heap.size A l := by
  have h := ha.from hz hg (Nat.le_refl _)
  exact Row2.more (hr.below h) h.size
theorem ex_good : ∀ i, good (([(1, 0), (2, 5)] : List (Int × Int)).getD i (0, 0)) := fun i => by
  match i with
  | 0 => exact ⟨⟨by decide, by decide⟩, by decide, by decide⟩
  | 1 => exact ⟨⟨by decide, by decide⟩, by decide, by decide⟩
  | i + 2 => exact ⟨⟨by simp, by simp⟩, by simp, by simp⟩
set_option maxHeartbeats 1000000 in
theorem awake_any (w : World) : Calls Try.prog 16 #[] w fun e w' => e = .returned (.bool true) ∧ Below w.heap.size w w' := by
  obtain ⟨w1, hw1⟩ : ∃ w1, w1 = (w.alloc (.cells (TabC 0 0 (.slice none 0 0)) 48)).alloc (.cells #[.int .u64 1, .int .u64 0, .int .u64 2, .int .u64 5] 44) := ⟨_, rfl⟩
  have hB : Below w.heap.size w w1 := hw1 ▸ ((Below.refl w.heap.size w).alloc (Nat.le_refl _) _).alloc (by simp) _
  have hT : Tab w.heap.size 48 w1 := .inl (hw1 ▸ (Blk.new w _ _).alloc _)
  have hK : Blk w1 (w.heap.size + 1) 44 #[.int .u64 1, .int .u64 0, .int .u64 2, .int .u64 5] := by
    have := Blk.new (w.alloc (.cells (TabC 0 0 (.slice none 0 0)) 48)) 44 #[.int .u64 1, .int .u64 0, .int .u64 2, .int .u64 5]
    rw [hw1]
    simpa using this
  have hr : ∀ w', Aside w.heap.size w1 w' → Row2 w' w'.heap.size (some ⟨w.heap.size + 1, 0, none⟩) [(1, 0), (2, 5)] := fun w' ha => by
    have hk := ha.blk hK (by omega)
    refine .inr ⟨w.heap.size + 1, 0, rfl, hk.lt, fun i hi => ?_⟩
    have : i = 0 ∨ i = 1 := by simp at hi; omega
    rcases this with rfl | rfl
    · exact ⟨hk.cell 0, hk.cell 1⟩
    · exact ⟨hk.cell 2, hk.cell 3⟩
  have HP := Lib.hid (pick_any w.heap.size 48 7 (some ⟨w.heap.size + 1, 0, none⟩) 2 2 [(1, 0), (2, 5)] w1 hT rfl (by omega) ex_good hr)
  rw [show plc (pk 7 [(1, 0), (2, 5)] 2) = 1 from rfl] at HP
  have HB := Lib.hid hB
  have HW := Lib.hid hw1
  clear hB hT hK hr hw1
  go_enter Try.func16, Try.ntmps16
  go_wp2_with fail
  rw [show ((w.alloc (.cells #[.int .u32 0, .int .i32 0, .int .u32 0, .slice none 0 0] 48)).alloc (.cells #[.int .u64 1, .int .u64 0, .int .u64 2, .int .u64 5] 44)) = w1 from HW.out.symm]
  refine HP.out.mono ?_
  rintro e w3 ⟨rfl, _, ha⟩
  have HZ := Lib.hid (ha.from HB.out (Nat.le_refl _) (Nat.le_refl _))
  clear ha
  go_wp2_with fail
  go_ret
  exact ⟨rfl, HZ.out⟩
theorem frac_eq (x y : Int) (W : World) : (binOp .eql 52 (.agg #[.int .u64 x, .int .u64 y]) (.agg #[.int .u64 x, .int .u64 y])).run Try.prog W = .ok (.bool true) W := by
  go_simp
/-- How things stand while the law asks: the table, the item, nothing else of old has changed. -/
structure St (w : World) (xu xd : Int) (W : World) : Prop where
  tab : Tab (w.heap.size + 1) 48 W
  box : Blk W w.heap.size 44 #[.int .u64 xu, .int .u64 xd]
  bel : Below w.heap.size w W
def Cl (w : World) (xu xd : Int) (W : World) : Prop := W.cell? ⟨w.heap.size, 0, none⟩ = some (.int .u64 xu) ∧ W.cell? ⟨w.heap.size, 1, none⟩ = some (.int .u64 xd)
theorem St.aside {w : World} {xu xd : Int} {W W' : World} (h : St w xu xd W) (ht : Tab (w.heap.size + 1) 48 W') (ha : Aside (w.heap.size + 1) W W') : St w xu xd W' :=
  ⟨ht, ha.blk h.box (by omega), ha.from h.bel (by omega) (Nat.le_refl _)⟩
theorem St.below {w : World} {xu xd : Int} {W W' : World} (h : St w xu xd W) (hb : Below W.heap.size W W') : St w xu xd W' :=
  ⟨tab_below h.tab hb, h.box.below hb h.box.lt, h.bel.trans (hb.mono h.bel.size)⟩
theorem St.c0 {w : World} {xu xd : Int} {W : World} (h : St w xu xd W) : W.cell? ⟨w.heap.size, 0, none⟩ = some (.int .u64 xu) ∧ W.cell? ⟨w.heap.size, 1, none⟩ = some (.int .u64 xd) := ⟨h.box.cell 0, h.box.cell 1⟩
def To (w : World) (xu xd : Int) (v : Value) (e : Ending) (w' : World) : Prop := e = .returned v ∧ St w xu xd w'
set_option maxHeartbeats 4000000 in
theorem picks_in (key : Int) (v : Value) (A : Option Addr) (m c : Nat) (xu xd p y : Int) (w : World) (hf : ∀ W, Calls Try.prog 11 #[v] W fun o w' => o = .returned (.slice A m c) ∧ W = w')
    (hs : St w xu xd ((w.alloc (.cells #[.int .u64 xu, .int .u64 xd] 44)).alloc (.cells (TabC 0 0 (.slice none 0 0)) 48)))
    (h1 : ∀ W, St w xu xd W → Calls Try.prog 12 #[.pointer (some ⟨w.heap.size + 1, 0, none⟩), .int .u64 key, .slice A m c] W (To w xu xd (.int .i64 p)))
    (h2 : ∀ W, St w xu xd W → Calls Try.prog 13 #[.int .u64 key, .slice A m c] W (To w xu xd (.int .i64 p)))
    (h3 : ∀ W, St w xu xd W → Calls Try.prog 14 #[.pointer (some ⟨w.heap.size + 1, 0, none⟩), .int .u64 key, .agg #[.int .u64 xu, .int .u64 xd]] W (To w xu xd (.agg #[.int .u64 y, .int .u64 xd])))
    (h4 : ∀ W, St w xu xd W → Calls Try.prog 15 #[.int .u64 key, .int .u64 xu] W (To w xu xd (.int .u64 y)))
    (h5 : ∀ W, St w xu xd W → Calls Try.prog 12 #[.pointer none, .int .u64 key, .slice A m c] W (To w xu xd (.int .i64 (-1))))
    (h6 : ∀ W, St w xu xd W → Calls Try.prog 16 #[] W (To w xu xd (.bool true))) :
    Calls Try.prog 4 #[.int .u64 key, v, .agg #[.int .u64 xu, .int .u64 xd]] w fun e w' => e = .returned (.bool true) ∧ Below w.heap.size w w' := by
  have HF := Lib.hid hf
  have H1 := Lib.hid h1
  have H2 := Lib.hid h2
  have H3 := Lib.hid h3
  have H4 := Lib.hid h4
  have H5 := Lib.hid h5
  have H6 := Lib.hid h6
  obtain ⟨w1, hw1⟩ : ∃ w1, w1 = (w.alloc (.cells #[.int .u64 xu, .int .u64 xd] 44)).alloc (.cells (TabC 0 0 (.slice none 0 0)) 48) := ⟨_, rfl⟩
  rw [← hw1] at hs
  have HW := Lib.hid (show ((w.alloc (.cells #[.int .u64 xu, .int .u64 xd] 44)).alloc (.cells #[.int .u32 0, .int .i32 0, .int .u32 0, .slice none 0 0] 48)) = w1 from hw1.symm)
  have tp : (p == p) = true := by simp
  have hfe : ∀ W : World, (binOp .eql 52 (.agg #[.int .u64 y, .int .u64 xd]) (.agg #[.int .u64 y, .int .u64 xd])).run Try.prog W = .ok (.bool true) W := fun W => frac_eq y xd W
  have st0 : St w xu xd w1.drew := hs.below (Below.refl _ _).drew
  have s0 := st0.c0
  clear hf h1 h2 h3 h4 h5 h6 hw1 hs
  go_enter Try.func4, Try.ntmps4
  go_wp2_with fail
  refine (HF.out _).mono ?_
  rintro e w' ⟨rfl, rfl⟩
  go_wp2_with fail
  rw [HW.out]
  go_region_held3 (fun w' => w'.cell? ⟨w.heap.size, 0, none⟩ = some (.int .u64 xu) ∧ w'.cell? ⟨w.heap.size, 1, none⟩ = some (.int .u64 xd))
    (first | with_reducible assumption)
    (first
      | (go_at_call 12
         (with_reducible refine (H1.out _ (by assumption)).mono ?_)
         rintro e w2 ⟨rfl, st2⟩
         have s2 := st2.c0)
      | (go_at_call 12
         (with_reducible refine (H5.out _ (by assumption)).mono ?_)
         rintro e w2 ⟨rfl, st2⟩
         have s2 := st2.c0)
      | (go_at_call 13
         (with_reducible refine (H2.out _ (by assumption)).mono ?_)
         rintro e w2 ⟨rfl, st2⟩
         have s2 := st2.c0)
      | (go_at_call 14
         (with_reducible refine (H3.out _ (by assumption)).mono ?_)
         rintro e w2 ⟨rfl, st2⟩
         have s2 := st2.c0)
      | (go_at_call 15
         (with_reducible refine (H4.out _ (by assumption)).mono ?_)
         rintro e w2 ⟨rfl, st2⟩
         have s2 := st2.c0)
      | (go_at_call 16
         (with_reducible refine (H6.out _ (by assumption)).mono ?_)
         rintro e w2 ⟨rfl, st2⟩
         have s2 := st2.c0))
  go_wp2_with fail
  go_ret
  refine ⟨rfl, St.bel (xu := xu) (xd := xd) ?_⟩
  assumption
end Go.Proofs.Ytanijccpbleekaa.strE
