/- Layer 25: how long an item's straw is. -/
import Derived.Test.YtanijccpbleekaaStrB
namespace Go.Proofs.Ytanijccpbleekaa.strC
open Go.ChangeShapes Go.WideShapes Go.ChangeAt Go.RowKit
open Go.Proofs.Ytanijccpbleekaa.base Go.Proofs.Ytanijccpbleekaa.onceB Go.Proofs.Ytanijccpbleekaa.onceC Go.Proofs.Ytanijccpbleekaa.wideF Go.Proofs.Ytanijccpbleekaa.wideG Go.Proofs.Ytanijccpbleekaa.wideH Go.Proofs.Ytanijccpbleekaa.wideI Go.Proofs.Ytanijccpbleekaa.strA
set_option linter.unusedVariables false

theorem tab_blk {g : Nat} {T : TypeId} {w w' : World} (h : Tab g T w) (hb : ∀ k, k < w.heap.size → w'.heap[k]? = w.heap[k]?) : Tab g T w' := by
  rcases h with h | ⟨q, h1, h2, h3⟩
  · exact .inl ((hb g h.lt).trans h)
  · exact .inr ⟨q, h1, (hb g h2.lt).trans h2, h3.blk (hb q h3.lt)⟩
theorem tab_below {g : Nat} {T : TypeId} {w w' : World} (h : Tab g T w) (hb : Below w.heap.size w w') : Tab g T w' := tab_blk h fun k hk => hb.block k hk
theorem tab_lt {g : Nat} {T : TypeId} {w : World} (h : Tab g T w) : g < w.heap.size := by
  rcases h with h | ⟨q, h1, h2, h3⟩
  · exact h.lt
  · exact h2.lt
theorem tab_far {g : Nat} {T : TypeId} {w : World} (h : Tab g T w) {k : Nat} {t : TypeId} {cs : Array Value} (hk : Blk w k t cs) (hs : cs.size ≠ 65536) (hg : k ≠ g) (o : Nat) (v : Value) : Tab g T (w.setCell ⟨k, o, none⟩ v) := by
  rcases h with h | ⟨q, h1, h2, h3⟩
  · exact .inl (h.far (fun e => hg e.symm) v)
  · refine .inr ⟨q, h1, h2.far (fun e => hg e.symm) v, h3.blk (Below.heap_setCell w ⟨k, o, none⟩ v q fun e => ?_)⟩
    obtain ⟨ds, h4, h5, _⟩ := h3
    have e2 : q = k := e
    subst e2
    have := Option.some.inj (h4.symm.trans hk)
    injection this with h6
    rw [h6] at h5
    exact hs h5
def LongPost (g : Nat) (T : TypeId) (x wt : Int) (w : World) (e : Ending) (w' : World) : Prop := e = .returned (.agg #[.int .u64 x, .int .u64 wt]) ∧ Tab g T w' ∧ Aside g w w'
theorem long_nil (key id wt : Int) (w : World) : Calls Try.prog 14 #[.pointer none, .int .u64 key, .agg #[.int .u64 id, .int .u64 wt]] w fun e w' => e = .returned (.agg #[.int .u64 0, .int .u64 0]) ∧ Below w.heap.size w w' := by
  go_enter Try.func14, Try.ntmps14
  go_wp2
  go_returns
  exact ⟨rfl, by go_grown⟩
set_option maxHeartbeats 4000000 in
theorem long_any (g : Nat) (T : TypeId) (key id wt : Int) (w : World) (ht : Tab g T w) :
    Calls Try.prog 14 #[.pointer (some ⟨g, 0, none⟩), .int .u64 key, .agg #[.int .u64 id, .int .u64 wt]] w (LongPost g T (lenZ key id) wt w) := by
  obtain ⟨W, hW⟩ : ∃ W, W = (w.alloc (.cells #[.int .u64 id, .int .u64 wt] 44)).alloc (.cells #[.int .u64 0, .int .u64 0] 52) := ⟨_, rfl⟩
  have hBel : Below w.heap.size w W := hW ▸ ((Below.refl w.heap.size w).alloc (Nat.le_refl _) _).alloc (by simp) _
  have hsz : W.heap.size = w.heap.size + 2 := by rw [hW]; simp
  have hB1 : Blk W w.heap.size 44 #[.int .u64 id, .int .u64 wt] := hW ▸ (Blk.new w _ _).alloc _
  have hB2 : Blk W (w.heap.size + 1) 52 #[.int .u64 0, .int .u64 0] := by
    have := Blk.new (w.alloc (.cells #[.int .u64 id, .int .u64 wt] 44)) 52 #[.int .u64 0, .int .u64 0]
    rw [hW]
    simpa using this
  obtain ⟨W1, hW1⟩ : ∃ W1, W1 = (W.alloc (.cells #[.int .u64 id] 38)).drew := ⟨_, rfl⟩
  have hb1 : Below W.heap.size W W1 := hW1 ▸ ((Below.refl W.heap.size W).alloc (Nat.le_refl _) _).drew
  have hr : Row W1 W1.heap.size (some ⟨W.heap.size, 0, none⟩) ([id].map (.int .u64)) := .inr ⟨W.heap.size, 0, rfl, by rw [hW1]; simp, fun i u hu => by
    rw [Nat.zero_add, hW1, World.cell?_drew, (Blk.new W 38 #[.int .u64 id]).cell i]
    simpa using hu⟩
  have HM := Lib.hid (mixD.of_any key _ 1 1 [id] _ _ rfl (by omega) hr)
  have hm := mix_in key id
  have he : lenZ key id = logC.ofZ (mixD.ofZ key [id] / 281474976710656 + 1) := rfl
  obtain ⟨x, hx⟩ : ∃ x, x = mixD.ofZ key [id] := ⟨_, rfl⟩
  rw [← hx] at HM hm he
  have HD := Lib.hid (fun W => mixB.draw_in x hm.1 hm.2 W)
  have HT := Lib.hid (at_any g T (x / 281474976710656 + 1) W1 (tab_below (tab_below ht hBel) hb1))
  rw [← he] at HT
  have hg := tab_lt ht
  generalize lenZ key id = y at *
  have HG := Lib.hid hg
  have HA1 := Lib.hid (((Aside.refl g w).below hBel).below hb1)
  have s0 : W.drew.cell? ⟨w.heap.size, 0, none⟩ = some (.int .u64 id) ∧ W.drew.cell? ⟨w.heap.size, 1, none⟩ = some (.int .u64 wt) := ⟨hB1.cell 0, hB1.cell 1⟩
  have s1 : W1.cell? ⟨w.heap.size, 0, none⟩ = some (.int .u64 id) ∧ W1.cell? ⟨w.heap.size, 1, none⟩ = some (.int .u64 wt) := ⟨(hB1.below hb1 hB1.lt).cell 0, (hB1.below hb1 hB1.lt).cell 1⟩
  have KB1 := Lib.hid (hB1.below hb1 hB1.lt)
  have KB2 := Lib.hid (hB2.below hb1 hB2.lt)
  have HW := Lib.hid hW
  have HW1 := Lib.hid hW1
  have HSZ := Lib.hid hsz
  clear hr hx he hW hW1 hB1 hB2 hsz hm hg hb1 hBel ht
  go_enter Try.func14, Try.ntmps14
  go_wp2_with fail
  rw [← HW.out]
  go_region_held3 (fun w' => w'.cell? ⟨w.heap.size, 0, none⟩ = some (.int .u64 id) ∧ w'.cell? ⟨w.heap.size, 1, none⟩ = some (.int .u64 wt))
    (first | with_reducible assumption | (rw [← HW1.out]; with_reducible assumption))
    (first
      | (go_at_call 26; rw [← HW1.out]; (with_reducible refine HM.out.mono ?_); rintro e w' ⟨rfl, rfl⟩)
      | (go_at_call 25; (with_reducible refine (HD.out _).mono ?_); rintro e w' ⟨rfl, rfl⟩)
      | (go_at_call 9; (with_reducible refine HT.out.mono ?_)
         rintro e w3 ⟨rfl, hf, ha⟩
         have k1 := ha.blk KB1.out (show w.heap.size ≠ g by have := HG.out; omega)
         have k2 := ha.blk KB2.out (show w.heap.size + 1 ≠ g by have := HG.out; omega)
         have k3 : Blk ((w3.setCell ⟨w.heap.size + 1, 0, none⟩ (.int .u64 y)).setCell ⟨w.heap.size + 1, 1, none⟩ (.int .u64 wt)) (w.heap.size + 1) 52 #[.int .u64 y, .int .u64 wt] := (k2.set_ 0 _).set_ 1 _
         have k4 : Blk ((w3.setCell ⟨w.heap.size + 1, 0, none⟩ (.int .u64 y)).setCell ⟨w.heap.size + 1, 1, none⟩ (.int .u64 wt)) w.heap.size 44 #[.int .u64 id, .int .u64 wt] := (k1.far (by simp) _).far (by simp) _
         have s3 : w3.cell? ⟨w.heap.size, 0, none⟩ = some (.int .u64 id) ∧ w3.cell? ⟨w.heap.size, 1, none⟩ = some (.int .u64 wt) := ⟨k1.cell 0, k1.cell 1⟩
         have s4 : ((w3.setCell ⟨w.heap.size + 1, 0, none⟩ (.int .u64 y)).setCell ⟨w.heap.size + 1, 1, none⟩ (.int .u64 wt)).cell? ⟨w.heap.size, 0, none⟩ = some (.int .u64 id) ∧ ((w3.setCell ⟨w.heap.size + 1, 0, none⟩ (.int .u64 y)).setCell ⟨w.heap.size + 1, 1, none⟩ (.int .u64 wt)).cell? ⟨w.heap.size, 1, none⟩ = some (.int .u64 wt) := ⟨k4.cell 0, k4.cell 1⟩
         have d0 : w3.cell? ⟨w.heap.size + 1, 0, none⟩ = some (.int .u64 0) := k2.cell 0
         have d1 : w3.cell? ⟨w.heap.size + 1, 1, none⟩ = some (.int .u64 0) := k2.cell 1
         have f0 : w3.frozen? ⟨w.heap.size + 1, 0, none⟩ = false := k2.frozen 0
         have f1 : w3.frozen? ⟨w.heap.size + 1, 1, none⟩ = false := k2.frozen 1
         have HK3 := Lib.hid k3
         have HA3 := Lib.hid (((HA1.out.trans ha).new ⟨w.heap.size + 1, 0, none⟩ (by simp) (.int .u64 y)).new ⟨w.heap.size + 1, 1, none⟩ (by simp) (.int .u64 wt))
         have HTF := Lib.hid (tab_far (tab_far (.inr hf) k2 (by show (2 : Nat) ≠ 65536; omega) (by have := HG.out; omega) 0 (.int .u64 y)) (k2.set_ 0 _) (by simp) (by have := HG.out; omega) 1 (.int .u64 wt))
         clear k1 k2 k3 k4 hf ha))
  clear s0 s1
  have HP := Lib.hid (show LongPost g T y wt w (.returned (.agg #[.int .u64 y, .int .u64 wt])) ((w3.setCell ⟨w.heap.size + 1, 0, none⟩ (.int .u64 y)).setCell ⟨w.heap.size + 1, 1, none⟩ (.int .u64 wt)) from ⟨rfl, HTF.out, HA3.out⟩)
  have e0 : ((w3.setCell ⟨w.heap.size + 1, 0, none⟩ (.int .u64 y)).setCell ⟨w.heap.size + 1, 1, none⟩ (.int .u64 wt)).cell? ⟨w.heap.size + 1, 0, none⟩ = some (.int .u64 y) := HK3.out.cell 0
  have e1 : ((w3.setCell ⟨w.heap.size + 1, 0, none⟩ (.int .u64 y)).setCell ⟨w.heap.size + 1, 1, none⟩ (.int .u64 wt)).cell? ⟨w.heap.size + 1, 1, none⟩ = some (.int .u64 wt) := HK3.out.cell 1
  clear d0 d1 f0 f1 s3 s4
  generalize (w3.setCell ⟨w.heap.size + 1, 0, none⟩ (.int .u64 y)).setCell ⟨w.heap.size + 1, 1, none⟩ (.int .u64 wt) = w4 at *
  go_wp2_with fail
  exact bodyPost_ret (v := .agg #[.int .u64 y, .int .u64 wt]) (by simp [results, Try.results14, go_sem, e0, e1]) rfl HP.out
end Go.Proofs.Ytanijccpbleekaa.strC
