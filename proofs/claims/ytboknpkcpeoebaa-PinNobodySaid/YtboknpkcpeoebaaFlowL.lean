/- Layer 27: the row in which a flow is. -/
import Derived.Test.YtboknpkcpeoebaaFlowK
import Derived.Deep.RegionWith
import Derived.Deep.RegionHeld3
namespace Go.Proofs.Ytboknpkcpeoebaa.flowL
open Go.ChangeShapes Go.WideShapes Go.ChangeAt Go.RowKit
open Go.Proofs.Ytboknpkcpeoebaa.base Go.Proofs.Ytboknpkcpeoebaa.flowA Go.Proofs.Ytboknpkcpeoebaa.flowB Go.Proofs.Ytboknpkcpeoebaa.flowC Go.Proofs.Ytboknpkcpeoebaa.flowD Go.Proofs.Ytboknpkcpeoebaa.flowE Go.Proofs.Ytboknpkcpeoebaa.flowF Go.Proofs.Ytboknpkcpeoebaa.flowG Go.Proofs.Ytboknpkcpeoebaa.flowH
set_option linter.unusedVariables false

theorem one_in (x : Int) : 0 ≤ mixA.oneZ x ∧ mixA.oneZ x < 18446744073709551616 := by
  unfold mixA.oneZ
  have hw : 0 ≤ IntKind.u64.wrap (mixA.xsZ (IntKind.u64.wrap (mixA.xsZ x * 18397679294719823053)) * 14181476777654086739) ∧ IntKind.u64.wrap (mixA.xsZ (IntKind.u64.wrap (mixA.xsZ x * 18397679294719823053)) * 14181476777654086739) < 18446744073709551616 := by
    rw [IntKind.wrap_u64]; omega
  generalize IntKind.u64.wrap (mixA.xsZ (IntKind.u64.wrap (mixA.xsZ x * 18397679294719823053)) * 14181476777654086739) = y at hw
  obtain ⟨m, rfl⟩ := Int.eq_ofNat_of_zero_le hw.1
  have hm : m < 18446744073709551616 := by omega
  unfold mixA.xsZ
  rw [mixA.xsI hm]
  have := mixA.xs_lt hm
  omega
theorem hash_in (seed : Int) (x : Tup) : 0 ≤ hashZ seed x ∧ hashZ seed x < 18446744073709551616 := by
  unfold hashZ nums mixD.ofZ
  simp only [List.foldl_cons, List.foldl_nil]
  unfold mixD.stepZ
  exact one_in _
/-- The row in which a flow is. -/
def rowN (n : Nat) (seed : Int) (x : Tup) : Nat := (mixB.below (hashZ seed x) n).toNat
theorem row_in (n : Nat) (seed : Int) (x : Tup) (hn : 1 ≤ n) : mixB.below (hashZ seed x) n = (rowN n seed x : Int) ∧ rowN n seed x < n := by
  obtain ⟨a, b⟩ := hash_in seed x
  obtain ⟨c, d⟩ := mixB.mul_lt a b (show (1 : Int) ≤ n by omega)
  unfold rowN mixB.below
  rw [if_neg (by omega)]
  omega
set_option maxHeartbeats 1000000 in
theorem row_any {w : World} {ta r : Nat} {v : Value} {n : Nat} {seed : Int} {t : Tb Ent} (x : Tup) (h : MemF w ta r v n seed t) (hn : 1 ≤ n) (hn2 : n ≤ 4096) :
    Calls Try.prog 48 #[.pointer (some ⟨ta, 0, none⟩), .agg x.cells] w fun e w' => e = .returned (.int .i64 (rowN n seed x)) ∧ Below w.heap.size w w' := by
  obtain ⟨a, b⟩ := hash_in seed x
  obtain ⟨c, d⟩ := row_in n seed x hn
  rw [← c]
  have HH := Lib.hid (fun w => hash_any seed x w)
  obtain ⟨hz, ehz⟩ : ∃ hz, hz = hashZ seed x := ⟨_, rfl⟩
  rw [← ehz] at a b ⊢
  rw [← ehz] at HH
  clear c d ehz
  obtain ⟨pr, s6, sh, sl, d6, dh, dl, sp, dp⟩ := x
  unfold Tup.cells at HH ⊢
  dsimp only at HH ⊢
  have HB := Lib.hid (show ∀ w, Calls Try.prog 62 #[.int .u64 hz, .int .i64 n] w fun e w' => e = .returned (.int .i64 (mixB.below hz n)) ∧ w = w' from fun w => mixB.below_any hz n a b (by omega) (by omega) w)
  have HM := Lib.hid (h.alloc (.cells #[.int .i64 pr, .bool s6, .int .u64 sh, .int .u64 sl, .bool d6, .int .u64 dh, .int .u64 dl, .int .i64 sp, .int .i64 dp] 26))
  have HK := Lib.hid (Blk.new w 26 #[.int .i64 pr, .bool s6, .int .u64 sh, .int .u64 sl, .bool d6, .int .u64 dh, .int .u64 dl, .int .i64 sp, .int .i64 dp])
  have HW := Lib.hid ((Below.refl w.heap.size w).alloc (Nat.le_refl _) (.cells #[.int .i64 pr, .bool s6, .int .u64 sh, .int .u64 sl, .bool d6, .int .u64 dh, .int .u64 dl, .int .i64 sp, .int .i64 dp] 26))
  clear h
  go_enter Try.func48, Try.ntmps48
  go_wp2_with fail
  have k0 := HK.out.cell 0
  have k1 := HK.out.cell 1
  have k2 := HK.out.cell 2
  have k3 := HK.out.cell 3
  have k4 := HK.out.cell 4
  have k5 := HK.out.cell 5
  have k6 := HK.out.cell 6
  have k7 := HK.out.cell 7
  have k8 := HK.out.cell 8
  obtain ⟨_, c1, _, _, c4, _⟩ := HM.out.cells
  have hlt := HK.out.lt
  generalize (w.alloc (.cells #[.int .i64 pr, .bool s6, .int .u64 sh, .int .u64 sl, .bool d6, .int .u64 dh, .int .u64 dl, .int .i64 sp, .int .i64 dp] 26)) = w1 at *
  simp only [List.getElem?_toArray, List.getElem?_cons_zero, List.getElem?_cons_succ] at k0 k1 k2 k3 k4 k5 k6 k7 k8
  clear HK
  have HS := Lib.hid (show ∀ w' : World, Below w1.heap.size w1 w' → (w'.cell? ⟨w.heap.size, 0, none⟩ = some (.int .i64 pr) ∧ w'.cell? ⟨w.heap.size, 1, none⟩ = some (.bool s6) ∧ w'.cell? ⟨w.heap.size, 2, none⟩ = some (.int .u64 sh) ∧ w'.cell? ⟨w.heap.size, 3, none⟩ = some (.int .u64 sl) ∧ w'.cell? ⟨w.heap.size, 4, none⟩ = some (.bool d6) ∧ w'.cell? ⟨w.heap.size, 5, none⟩ = some (.int .u64 dh) ∧ w'.cell? ⟨w.heap.size, 6, none⟩ = some (.int .u64 dl) ∧ w'.cell? ⟨w.heap.size, 7, none⟩ = some (.int .i64 sp) ∧ w'.cell? ⟨w.heap.size, 8, none⟩ = some (.int .i64 dp) ∧ w'.cell? ⟨ta, 1, none⟩ = some (.int .u64 seed) ∧ w'.cell? ⟨ta, 4, none⟩ = some (.slice (some ⟨r, 0, none⟩) n n)) from fun w' hb => by
    have e : ∀ g i, g < w1.heap.size → w'.cell? ⟨g, i, none⟩ = w1.cell? ⟨g, i, none⟩ := fun g i hg => by
      unfold World.cell?
      rw [hb.block g hg]
    have hta := HM.out.tab.lt
    refine ⟨?_, ?_, ?_, ?_, ?_, ?_, ?_, ?_, ?_, ?_, ?_⟩ <;> rw [e _ _ (by assumption)] <;> assumption)
  have s0 := HS.out _ (Below.refl _ w1).drew
  go_region_held3 (fun w' => w'.cell? ⟨w.heap.size, 0, none⟩ = some (.int .i64 pr) ∧ w'.cell? ⟨w.heap.size, 1, none⟩ = some (.bool s6) ∧ w'.cell? ⟨w.heap.size, 2, none⟩ = some (.int .u64 sh) ∧ w'.cell? ⟨w.heap.size, 3, none⟩ = some (.int .u64 sl) ∧ w'.cell? ⟨w.heap.size, 4, none⟩ = some (.bool d6) ∧ w'.cell? ⟨w.heap.size, 5, none⟩ = some (.int .u64 dh) ∧ w'.cell? ⟨w.heap.size, 6, none⟩ = some (.int .u64 dl) ∧ w'.cell? ⟨w.heap.size, 7, none⟩ = some (.int .i64 sp) ∧ w'.cell? ⟨w.heap.size, 8, none⟩ = some (.int .i64 dp) ∧ w'.cell? ⟨ta, 1, none⟩ = some (.int .u64 seed) ∧ w'.cell? ⟨ta, 4, none⟩ = some (.slice (some ⟨r, 0, none⟩) n n)) (assumption)
    (first
      | (go_at_call 63
         (with_reducible refine (HH.out _).mono ?_)
         rintro e w9 ⟨rfl, hb⟩
         have s9 := HS.out _ ((Below.refl _ w1).drew.trans hb)
         have B9 := Lib.hid (HW.out.drew.trans (hb.mono HW.out.drew.size))
         clear hb)
      | (go_at_call 62
         (with_reducible refine (HB.out _).mono ?_)
         rintro e w8 ⟨rfl, rfl⟩))
  go_wp2_with fail
  go_ret
  exact ⟨rfl, B9.out⟩
end Go.Proofs.Ytboknpkcpeoebaa.flowL
