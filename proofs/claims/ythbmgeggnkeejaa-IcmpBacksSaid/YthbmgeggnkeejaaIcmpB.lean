/- Layer 12: the law on flows the other way round. -/
import Derived.Test.YthbmgeggnkeejaaIcmpA
namespace Go.Proofs.Ythbmgeggnkeejaa.icmpB
open Go.ChangeShapes Go.WideShapes Go.ChangeAt Go.RowKit
open Go.Proofs.Ythbmgeggnkeejaa.base Go.Proofs.Ythbmgeggnkeejaa.icmpA
set_option linter.unusedVariables false

theorem bcell {W w1 : World} (hb : Below W.heap.size W w1) : (∀ b o, b < W.heap.size → w1.cell? ⟨b, o, none⟩ = W.cell? ⟨b, o, none⟩) ∧ (∀ b o, b < W.heap.size → w1.frozen? ⟨b, o, none⟩ = W.frozen? ⟨b, o, none⟩) :=
  ⟨fun b o h => hb.cell (p := ⟨b, o, none⟩) h, fun b o h => hb.frozen (p := ⟨b, o, none⟩) h⟩
theorem keep1 {w w' : World} {p : Addr} {v : Value} (h : w.cell? p = some v) (hb : Below w.heap.size w w') : w'.cell? p = some v :=
  (hb.cell (World.block_lt_of_cell? w p h)).trans h
theorem keep18 {W w w' : World} {p0 p1 p2 p3 p4 p5 p6 p7 p8 p9 p10 p11 p12 p13 p14 p15 p16 p17 : Addr} {v0 v1 v2 v3 v4 v5 v6 v7 v8 v9 v10 v11 v12 v13 v14 v15 v16 v17 : Value}
    (h : Below W.heap.size W w ∧ w.cell? p0 = some v0 ∧ w.cell? p1 = some v1 ∧ w.cell? p2 = some v2 ∧ w.cell? p3 = some v3 ∧ w.cell? p4 = some v4 ∧ w.cell? p5 = some v5 ∧ w.cell? p6 = some v6 ∧ w.cell? p7 = some v7 ∧ w.cell? p8 = some v8 ∧ w.cell? p9 = some v9 ∧ w.cell? p10 = some v10 ∧ w.cell? p11 = some v11 ∧ w.cell? p12 = some v12 ∧ w.cell? p13 = some v13 ∧ w.cell? p14 = some v14 ∧ w.cell? p15 = some v15 ∧ w.cell? p16 = some v16 ∧ w.cell? p17 = some v17) (hb : Below w.heap.size w w') :
    Below W.heap.size W w' ∧ w'.cell? p0 = some v0 ∧ w'.cell? p1 = some v1 ∧ w'.cell? p2 = some v2 ∧ w'.cell? p3 = some v3 ∧ w'.cell? p4 = some v4 ∧ w'.cell? p5 = some v5 ∧ w'.cell? p6 = some v6 ∧ w'.cell? p7 = some v7 ∧ w'.cell? p8 = some v8 ∧ w'.cell? p9 = some v9 ∧ w'.cell? p10 = some v10 ∧ w'.cell? p11 = some v11 ∧ w'.cell? p12 = some v12 ∧ w'.cell? p13 = some v13 ∧ w'.cell? p14 = some v14 ∧ w'.cell? p15 = some v15 ∧ w'.cell? p16 = some v16 ∧ w'.cell? p17 = some v17 := by
  obtain ⟨hh, h0, h1, h2, h3, h4, h5, h6, h7, h8, h9, h10, h11, h12, h13, h14, h15, h16, h17⟩ := h
  exact ⟨hh.trans (hb.mono hh.size), keep1 h0 hb, keep1 h1 hb, keep1 h2 hb, keep1 h3 hb, keep1 h4 hb, keep1 h5 hb, keep1 h6 hb, keep1 h7 hb, keep1 h8 hb, keep1 h9 hb, keep1 h10 hb, keep1 h11 hb, keep1 h12 hb, keep1 h13 hb, keep1 h14 hb, keep1 h15 hb, keep1 h16 hb, keep1 h17 hb⟩

theorem backs_any (p : Int) (s6 : Bool) (sh sl : Int) (d6 : Bool) (dh dl sp dp : Int) (w : World) :
    Calls Try.prog 6 #[.agg #[.int .i64 p, .bool s6, .int .u64 sh, .int .u64 sl, .bool d6, .int .u64 dh, .int .u64 dl, .int .i64 sp, .int .i64 dp]] w fun e w' => e = .returned (.bool true) ∧ Below w.heap.size w w' := by
  go_enter Try.func6, Try.ntmps6
  go_wp2_with fail
  refine (back_any _ _ _ _ _ _ _ _ _ _).mono ?_
  rintro e w1 ⟨rfl, hb⟩
  obtain ⟨hc, hf⟩ := bcell hb
  have HB := Lib.hid hb
  have hs : w.heap.size < w1.heap.size := by have := hb.size; first | omega | (simp at this; omega)
  clear hb
  go_wp2_with fail
  have hbel : Below w.heap.size w (w1.alloc (.cells #[.int .i64 p, .bool d6, .int .u64 dh, .int .u64 dl, .bool s6, .int .u64 sh, .int .u64 sl, .int .i64 dp, .int .i64 sp] 41)) :=
    (((Below.refl _ _).alloc (Nat.le_refl _) _).trans (HB.out.mono (by simp))).alloc (by omega) _
  have k : ∀ W, W = w1.alloc (.cells #[.int .i64 p, .bool d6, .int .u64 dh, .int .u64 dl, .bool s6, .int .u64 sh, .int .u64 sl, .int .i64 dp, .int .i64 sp] 41) → Below W.heap.size W W.drew ∧ W.drew.cell? ⟨w.heap.size, 0, none⟩ = some (.int .i64 p) ∧ W.drew.cell? ⟨w.heap.size, 1, none⟩ = some (.bool s6) ∧ W.drew.cell? ⟨w.heap.size, 2, none⟩ = some (.int .u64 sh) ∧ W.drew.cell? ⟨w.heap.size, 3, none⟩ = some (.int .u64 sl) ∧ W.drew.cell? ⟨w.heap.size, 4, none⟩ = some (.bool d6) ∧ W.drew.cell? ⟨w.heap.size, 5, none⟩ = some (.int .u64 dh) ∧ W.drew.cell? ⟨w.heap.size, 6, none⟩ = some (.int .u64 dl) ∧ W.drew.cell? ⟨w.heap.size, 7, none⟩ = some (.int .i64 sp) ∧ W.drew.cell? ⟨w.heap.size, 8, none⟩ = some (.int .i64 dp) ∧ W.drew.cell? ⟨w1.heap.size, 0, none⟩ = some (.int .i64 p) ∧ W.drew.cell? ⟨w1.heap.size, 1, none⟩ = some (.bool d6) ∧ W.drew.cell? ⟨w1.heap.size, 2, none⟩ = some (.int .u64 dh) ∧ W.drew.cell? ⟨w1.heap.size, 3, none⟩ = some (.int .u64 dl) ∧ W.drew.cell? ⟨w1.heap.size, 4, none⟩ = some (.bool s6) ∧ W.drew.cell? ⟨w1.heap.size, 5, none⟩ = some (.int .u64 sh) ∧ W.drew.cell? ⟨w1.heap.size, 6, none⟩ = some (.int .u64 sl) ∧ W.drew.cell? ⟨w1.heap.size, 7, none⟩ = some (.int .i64 dp) ∧ W.drew.cell? ⟨w1.heap.size, 8, none⟩ = some (.int .i64 sp) := by
    intro W hW
    subst hW
    refine ⟨(Below.refl _ _).drew, ?_, ?_, ?_, ?_, ?_, ?_, ?_, ?_, ?_, ?_, ?_, ?_, ?_, ?_, ?_, ?_, ?_, ?_⟩ <;> simp [go_sem, *]
  clear hc hf
  generalize w1.alloc (.cells #[.int .i64 p, .bool d6, .int .u64 dh, .int .u64 dl, .bool s6, .int .u64 sh, .int .u64 sl, .int .i64 dp, .int .i64 sp] 41) = W at *
  have h0 := k W rfl
  clear k
  have HBel := Lib.hid hbel
  clear hbel hs
  go_region_held3 (fun w' => Below W.heap.size W w' ∧ w'.cell? ⟨w.heap.size, 0, none⟩ = some (.int .i64 p) ∧ w'.cell? ⟨w.heap.size, 1, none⟩ = some (.bool s6) ∧ w'.cell? ⟨w.heap.size, 2, none⟩ = some (.int .u64 sh) ∧ w'.cell? ⟨w.heap.size, 3, none⟩ = some (.int .u64 sl) ∧ w'.cell? ⟨w.heap.size, 4, none⟩ = some (.bool d6) ∧ w'.cell? ⟨w.heap.size, 5, none⟩ = some (.int .u64 dh) ∧ w'.cell? ⟨w.heap.size, 6, none⟩ = some (.int .u64 dl) ∧ w'.cell? ⟨w.heap.size, 7, none⟩ = some (.int .i64 sp) ∧ w'.cell? ⟨w.heap.size, 8, none⟩ = some (.int .i64 dp) ∧ w'.cell? ⟨w1.heap.size, 0, none⟩ = some (.int .i64 p) ∧ w'.cell? ⟨w1.heap.size, 1, none⟩ = some (.bool d6) ∧ w'.cell? ⟨w1.heap.size, 2, none⟩ = some (.int .u64 dh) ∧ w'.cell? ⟨w1.heap.size, 3, none⟩ = some (.int .u64 dl) ∧ w'.cell? ⟨w1.heap.size, 4, none⟩ = some (.bool s6) ∧ w'.cell? ⟨w1.heap.size, 5, none⟩ = some (.int .u64 sh) ∧ w'.cell? ⟨w1.heap.size, 6, none⟩ = some (.int .u64 sl) ∧ w'.cell? ⟨w1.heap.size, 7, none⟩ = some (.int .i64 dp) ∧ w'.cell? ⟨w1.heap.size, 8, none⟩ = some (.int .i64 sp))
    (first | exact h0 | (refine keep18 ?_ hb; assumption))
    (first
      | (go_at_call 25; refine (back_any _ _ _ _ _ _ _ _ _ _).mono ?_; rintro e w' ⟨rfl, hb⟩)
      | (go_at_call 26; refine (awake_any _).mono ?_; rintro e w' ⟨rfl, rfl⟩))
  go_wp2
  go_ret
  refine ⟨rfl, HBel.out.trans (Below.mono (B := W.heap.size) ?_ HBel.out.size)⟩
  rename_i hH
  exact hH.1
end Go.Proofs.Ythbmgeggnkeejaa.icmpB
