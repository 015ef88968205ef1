/- Layer 24: the law on lists turned. -/
import Derived.Test.YticapkhpjdfhgaaLoadI
import Derived.Test.YticapkhpjdfhgaaLoadE
namespace Go.Proofs.Yticapkhpjdfhgaa.loadJ
open Go.ChangeShapes Go.WideShapes Go.ChangeAt Go.RowKit
open Go.Proofs.Yticapkhpjdfhgaa.base Go.Proofs.Yticapkhpjdfhgaa.loadC Go.Proofs.Yticapkhpjdfhgaa.loadH Go.Proofs.Yticapkhpjdfhgaa.loadI
set_option linter.unusedVariables false

theorem row_drop {w : World} {B b off : Nat} {xs : List Value} (h : Row w B (some ⟨b, off, none⟩) xs) (q : Nat) (hb : b < B) : Row w B (some ⟨b, off + q, none⟩) (xs.drop q) := by
  rcases h with h | ⟨b', off', he, hlt, hc⟩
  · exact .inl (by simp [h])
  · injection he with he
    injection he with e1 e2
    subst e1 e2
    refine .inr ⟨b, off + q, rfl, hlt, fun i u hu => ?_⟩
    rw [List.getElem?_drop] at hu
    rw [Nat.add_assoc]
    exact hc _ u hu
theorem own_mono {w : World} {base base' : Nat} {e : TypeId} {v : Value} {n : Nat} {xs : List Value} (h : w.ownsRow base e 1 v n xs) (hb : base' ≤ base) : w.ownsRow base' e 1 v n xs := by
  refine ⟨h.1, h.2.imp id ?_⟩
  rintro ⟨g, cap, cur, h1, h2, h3⟩
  exact ⟨g, cap, cur, h1, by omega, h3⟩
set_option maxRecDepth 100000 in
set_option maxHeartbeats 1000000 in
theorem turn_far (b off n c : Nat) (l : List Int) (q : Nat) (w : World) (hl : l.length = n) (hn : n ≤ 1000) (hnc : n ≤ c) (hcm : c ≤ 9223372036854775807) (hr : Row w w.heap.size (some ⟨b, off, none⟩) (l.map (.int .i64))) (hbl : b < w.heap.size) (hq : q < n) :
    Calls Try.prog 22 #[.slice (some ⟨b, off, none⟩) n c, .int .i64 q] w (ClonePost w n (l.drop q ++ l.take q)) := by
  have hqc : ¬ c = q := by omega
  have hqn : q ≤ n := by omega
  have hqc2 : q ≤ c := by omega
  have hd : Row w w.heap.size (some ⟨b, off + q, none⟩) ((l.drop q).map (.int .i64)) := by
    have := row_drop hr q hbl
    rwa [← List.map_drop] at this
  have ht : Row w w.heap.size (some ⟨b, off, none⟩) ((l.take q).map (.int .i64)) := by
    have := hr.take q
    rwa [← List.map_take] at this
  have hN : (w.drew.alloc (.cells #[.slice (some ⟨b, off + q, none⟩) (n - q) (c - q), .slice (some ⟨b, off, none⟩) q c] 25)).heap.size = w.heap.size + 1 := by simp
  have bN := Blk.new w.drew 25 #[.slice (some ⟨b, off + q, none⟩) (n - q) (c - q), .slice (some ⟨b, off, none⟩) q c]
  have hB : Below w.heap.size w (w.drew.alloc (.cells #[.slice (some ⟨b, off + q, none⟩) (n - q) (c - q), .slice (some ⟨b, off, none⟩) q c] 25)) := (Below.refl _ w).drew.alloc (Nat.le_refl _) _
  have HC := Lib.hid (concat_any w.heap.size 2 (some ⟨b, off + q, none⟩) (n - q) (c - q) (l.drop q) (some ⟨b, off, none⟩) q c (l.take q) _ (bN.cell 0) (bN.cell 1) (by rw [hN]; omega) (by rw [List.length_drop]; omega) (by rw [List.length_take]; omega) (by intro h; cases h) (by intro h; cases h) ((hd.below hB).more (by rw [hN]; omega)) ((ht.below hB).more (by rw [hN]; omega)) (by omega) (by omega))
  rw [show n - q + q = n by omega] at HC
  have HB := Lib.hid hB
  have HN := Lib.hid hN
  clear hl hr hd ht hN bN hB
  go_enter Try.func22, Try.ntmps22
  go_wp2_with fail
  go_region_with (go_at_call 56; refine HC.out.mono ?_; rintro e w1 ⟨v1, rfl, hown, hbel, hsz⟩; have HO := Lib.hid hown; have HB1 := Lib.hid hbel; have HS := Lib.hid hsz; clear hown hbel hsz)
  all_goals
    go_wp2_with fail
    go_ret
    have hs := HS.out
    rw [HN.out] at hs
    exact ⟨_, rfl, own_mono HO.out (by rw [HN.out]; omega), HB.out.trans (HB1.out.mono (by rw [HN.out]; omega)), by omega⟩
end Go.Proofs.Yticapkhpjdfhgaa.loadJ
