/- Layer 36: a file's head. -/
import Derived.Test.YtmchedjeohhpcaaPcapC
namespace Go.Proofs.Ytmchedjeohhpcaa.pcapD
open Go.ChangeShapes Go.WideShapes Go.ChangeAt Go.RowKit
open Go.Proofs.Ytmchedjeohhpcaa.base Go.Proofs.Ytmchedjeohhpcaa.pcapA Go.Proofs.Ytmchedjeohhpcaa.pcapB Go.Proofs.Ytmchedjeohhpcaa.pcapC
set_option linter.unusedVariables false

/-- The bytes of a file's head. -/
def headB (big : Bool) (snap link : Nat) : List Int := wb big [2712847316] ++ hb big [2, 4] ++ wb big [0, 0, snap, link]
theorem own_up {w : World} {base base' : Nat} {v : Value} {n : Nat} {xs : List Value} (h : w.ownsRow base 5 1 v n xs) (hb : base' ≤ base) : w.ownsRow base' 5 1 v n xs := by
  refine ⟨h.1, ?_⟩
  rcases h.2 with h0 | ⟨g, cap, cur, h1, h2, h3⟩
  · exact .inl h0
  · exact .inr ⟨g, cap, cur, h1, Nat.le_trans hb h2, h3⟩
def HeadPost (W : World) (n : Nat) (ys : List Int) (e : Ending) (w' : World) : Prop :=
  ∃ v, e = .returned v ∧ w'.ownsRow W.heap.size 5 1 v n (ys.map (.int .u8)) ∧ Below W.heap.size W w' ∧ W.heap.size ≤ w'.heap.size
set_option maxHeartbeats 400000 in
set_option maxRecDepth 100000 in
theorem head_any (big : Bool) (snap link : Nat) (rec : Value) (w : World) (h1 : snap < 4294967296) (h2 : link < 4294967296) :
    Calls Try.prog 15 #[.agg #[.bool big, .int .u32 (snap : Int), .int .u32 (link : Int), rec]] w (HeadPost w 24 (headB big snap link)) := by
  have hz0 : (w.alloc (.cells #[.bool big, .int .u32 (snap : Int), .int .u32 (link : Int), rec] 25)).heap.size = w.heap.size + 1 := by simp
  have hk0 : Blk (w.alloc (.cells #[.bool big, .int .u32 (snap : Int), .int .u32 (link : Int), rec] 25)) w.heap.size 25 #[.bool big, .int .u32 (snap : Int), .int .u32 (link : Int), rec] := Blk.new w _ _
  have hl1 := Blk.new (w.alloc (.cells #[.bool big, .int .u32 (snap : Int), .int .u32 (link : Int), rec] 25)) 22 #[.int .u32 2712847316]
  rw [hz0] at hl1
  have hw0 : Below w.heap.size w (w.alloc (.cells #[.bool big, .int .u32 (snap : Int), .int .u32 (link : Int), rec] 25)) := (Below.refl _ _).alloc (Nat.le_refl _) _
  have hb0 := Below.refl (w.heap.size + 1) (w.alloc (.cells #[.bool big, .int .u32 (snap : Int), .int .u32 (link : Int), rec] 25))
  have HC1 := Lib.hid (words_any big (w.heap.size + 1) #[.int .u32 2712847316] (.slice none 0 0) 0 [] 1 1 [2712847316] (w.heap.size + 1) (w.heap.size + 1) _ _ ⟨rfl, .inl ⟨rfl, rfl⟩⟩ (by simp) (by omega) (hb0.alloc (by rw [hz0]; exact Nat.le_refl _) _) (Nat.le_refl _) rfl hl1 rfl (by simp))
  have HK0 := Lib.hid hk0
  have HW0 := Lib.hid hw0
  clear hl1 hb0 hk0 hw0
  go_enter Try.func15, Try.ntmps15
  go_wp2_with fail
  refine HC1.out.mono ?_
  rintro e w1 ⟨v1, rfl, hown1, hbel1, hbs1, _⟩
  have hk1 := HK0.out.below hbel1 (by omega)
  have f1 : w1.cell? ⟨w.heap.size, 0, none⟩ = some (.bool big) := hk1.cell 0
  have HC2 := Lib.hid (halves_any big w1.heap.size #[.int .u16 2, .int .u16 4] v1 (0 + 4 * 1) _ 2 2 [2, 4] (w.heap.size + 1) (w.heap.size + 1) _ _ (hown1.alloc (.cells #[.int .u16 2, .int .u16 4] 53)) (by simp; omega) (by omega) (hbel1.alloc (by omega) _) (Nat.le_refl _) rfl (Blk.new w1 53 _) rfl (by simp))
  clear hown1 hbel1 hk1
  go_wp2_with fail
  refine HC2.out.mono ?_
  rintro e w2 ⟨v2, rfl, hown2, hbel2, hbs2, _⟩
  have hk2 := HK0.out.below hbel2 (by omega)
  have g1 : w2.cell? ⟨w.heap.size, 0, none⟩ = some (.bool big) := hk2.cell 0
  have g2 : w2.cell? ⟨w.heap.size, 1, none⟩ = some (.int .u32 (snap : Int)) := hk2.cell 1
  have g3 : w2.cell? ⟨w.heap.size, 2, none⟩ = some (.int .u32 (link : Int)) := hk2.cell 2
  have HC3 := Lib.hid (words_any big w2.heap.size #[.int .u32 0, .int .u32 0, .int .u32 (snap : Int), .int .u32 (link : Int)] v2 (0 + 4 * 1 + 2 * 2) _ 4 4 [0, 0, snap, link] (w.heap.size + 1) (w.heap.size + 1) _ _ (hown2.alloc (.cells #[.int .u32 0, .int .u32 0, .int .u32 (snap : Int), .int .u32 (link : Int)] 22)) (by simp; omega) (by omega) (hbel2.alloc (by omega) _) (Nat.le_refl _) rfl (Blk.new w2 22 _) rfl (by simp; omega))
  clear hown2 hbel2 hk2
  go_wp2_with fail
  refine HC3.out.mono ?_
  rintro e w3 ⟨v3, rfl, hown3, hbel3, hbs3, _⟩
  have HO := Lib.hid (own_up hown3 (Nat.le_succ w.heap.size))
  have HB := Lib.hid (HW0.out.trans (hbel3.mono (Nat.le_succ w.heap.size)))
  clear hown3 hbel3
  go_wp2_with fail
  go_ret
  refine ⟨v3, rfl, ?_, HB.out, by omega⟩
  have e : (headB big snap link).map (Value.int .u8) = [] ++ (wb big [2712847316]).map (Value.int .u8) ++ (hb big [2, 4]).map (Value.int .u8) ++ (wb big [0, 0, snap, link]).map (Value.int .u8) := by
    unfold headB
    rw [List.map_append, List.map_append, List.nil_append]
  rw [e]
  exact HO.out
end Go.Proofs.Ytmchedjeohhpcaa.pcapD
