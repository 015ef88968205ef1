/- Layer 37: time goes by. -/
import Derived.Test.YticapkhpjdfhgaaRateA
import Derived.Deep.RegionHeld3
namespace Go.Proofs.Yticapkhpjdfhgaa.rateB
open Go.ChangeShapes Go.WideShapes Go.ChangeAt Go.RowKit
open Go.Proofs.Yticapkhpjdfhgaa.base Go.Proofs.Yticapkhpjdfhgaa.rateA Go.Proofs.Yticapkhpjdfhgaa.wideB Go.Proofs.Yticapkhpjdfhgaa.wideC
set_option linter.unusedVariables false

theorem keep3 {W w w' : World} {p1 p2 : Addr} {v1 v2 : Value} (h : Below W.heap.size W w ∧ w.cell? p1 = some v1 ∧ w.cell? p2 = some v2) (hb : Below w.heap.size w w') :
    Below W.heap.size W w' ∧ w'.cell? p1 = some v1 ∧ w'.cell? p2 = some v2 := by
  obtain ⟨h0, h1, h2⟩ := h
  exact ⟨h0.trans (hb.mono h0.size), kept h1 hb, kept h2 hb⟩
theorem cmp_big {p R : Int} (p0 : 0 ≤ p) (R0 : 0 ≤ R) (R1 : R < 18446744073709551616) : decide (0 < cmp128 (p / 18446744073709551616) (p % 18446744073709551616) 0 R) = decide (R < p) := by
  have key : 0 < cmp128 (p / 18446744073709551616) (p % 18446744073709551616) 0 R ↔ R < p := by
    unfold cmp128 cmpI
    split
    · split
      · omega
      · split <;> omega
    · split
      · omega
      · split <;> omega
  exact decide_eq_decide.2 key
theorem grown_end {w a : World} {g : Nat} (h : Below w.heap.size w a) (i j : Nat) (v u : Value) : w.grownBy ((a.setCell ⟨g, i, none⟩ v).setCell ⟨g, j, none⟩ u) (some g) := by
  have hb : ∀ k, some k ≠ some g → ((a.setCell ⟨g, i, none⟩ v).setCell ⟨g, j, none⟩ u).heap[k]? = a.heap[k]? := fun k hk => by
    have hk' : k ≠ g := fun e => hk (by rw [e])
    exact (Below.heap_setCell _ ⟨g, j, none⟩ u k hk').trans (Below.heap_setCell _ ⟨g, i, none⟩ v k hk')
  refine ⟨h.os, h.tape, h.output, by simpa using h.size, fun k hk hne => ?_⟩
  rw [hb k hne]
  exact h.block k hk
theorem go_bad (g : Nat) (E M H N t : Int) (w : World) (hb : Bk w g E M H N) (ht : t < N ∨ 1099511627776 < t) :
    Calls Try.prog 32 #[.pointer (some ⟨g, 0, none⟩), .int .i64 t] w fun e w' => e = .returned (.int .i64 5) ∧ w = w' := by
  have h3 := hb.c3
  have h4 := Lib.hid hb.c4
  clear hb
  have ht2 : t < N ∨ (N ≤ t ∧ 1099511627776 < t) := by omega
  clear ht
  rcases ht2 with ht | ⟨ht0, ht⟩
  all_goals
    go_enter Try.func32, Try.ntmps32
    go_wp2_with (go_at_call 58; refine (ok_any _ _ h4.out).mono ?_; rintro e w' ⟨rfl, rfl⟩)
    go_ret
    exact ⟨rfl, rfl⟩
/-- what a bucket has when so many units went by -/
def fillZ (E M H d : Int) : Int := if M - H < E * d then M else H + E * d
def GoPost (w : World) (g : Nat) (E M H N t : Int) (e : Ending) (w' : World) : Prop := e = .returned (.int .i64 0) ∧ Bk w' g E M (fillZ E M H (t - N)) t ∧ w.grownBy w' (some g)
set_option maxHeartbeats 2000000 in
theorem go_ok (g : Nat) (E M H N t : Int) (w : World) (hb : Bk w g E M H N) (E0 : 0 ≤ E) (E1 : E ≤ 1099511627776) (M1 : M ≤ 1099511627776) (H0 : 0 ≤ H) (HM : H ≤ M) (N0 : 0 ≤ N) (t0 : N ≤ t) (t1 : t ≤ 1099511627776) :
    Calls Try.prog 32 #[.pointer (some ⟨g, 0, none⟩), .int .i64 t] w (GoPost w g E M H N t) := by
  have h0 := hb.c0
  have h1 := hb.c1
  have h2 := hb.c2
  have h3 := hb.c3
  have h4 := Lib.hid hb.c4
  have HBk := Lib.hid hb
  clear hb
  obtain ⟨R, hR⟩ : ∃ R, R = M - H := ⟨_, rfl⟩
  obtain ⟨D, hD⟩ : ∃ D, D = t - N := ⟨_, rfl⟩
  have R0 : 0 ≤ R := by omega
  have R1 : R ≤ 1099511627776 := by omega
  have D0 : 0 ≤ D := by omega
  have D1 : D ≤ 1099511627776 := by omega
  have HR := Lib.hid hR
  have HD := Lib.hid hD
  have hmul := Lib.hid (fun w => mul_any E D E0 (by omega) D0 (by omega) w)
  have e1 : IntKind.i64.wrap (M - H) = R := by rw [← hR]; exact IntWalk.i64_in _ (by omega)
  have e2 : IntKind.u64.wrap R = R := by rw [IntKind.wrap_u64]; omega
  have e3 : IntKind.i64.wrap (t - N) = D := by rw [← hD]; exact IntWalk.i64_in _ (by omega)
  have e4 : IntKind.u64.wrap D = D := by rw [IntKind.wrap_u64]; omega
  have e5 : IntKind.u64.wrap E = E := by rw [IntKind.wrap_u64]; omega
  clear hR hD
  go_enter Try.func32, Try.ntmps32
  go_wp2_with (go_at_call 58; refine (ok_any _ _ h4.out).mono ?_; rintro e w' ⟨rfl, rfl⟩)
  go_region_held3 (fun w' => w'.cell? ⟨g, 0, none⟩ = some (.int .i64 E) ∧ w'.cell? ⟨g, 1, none⟩ = some (.int .i64 M) ∧ w'.cell? ⟨g, 2, none⟩ = some (.int .i64 H) ∧ w'.cell? ⟨g, 3, none⟩ = some (.int .i64 N)) (go_keep) (fail)
  have hbx : Blk (w.alloc (.cells #[.int .u64 0, .int .u64 R] 63)).drew w.heap.size 63 #[.int .u64 0, .int .u64 R] := (Blk.new w 63 _).drew
  have hbk : Bk (w.alloc (.cells #[.int .u64 0, .int .u64 R] 63)).drew g E M H N := (Blk.alloc HBk.out _).drew
  have hbel : Below w.heap.size w (w.alloc (.cells #[.int .u64 0, .int .u64 R] 63)).drew := ((Below.refl _ _).alloc (Nat.le_refl _) _).drew
  have HBX := Lib.hid hbx
  have HBK := Lib.hid hbk
  have HBL := Lib.hid hbel
  clear hbx hbk hbel h0 h1 h2 h3
  generalize (w.alloc (.cells #[.int .u64 0, .int .u64 R] 63)).drew = w1 at *
  have h0 := HBK.out.c0
  have h3 := HBK.out.c3
  have hsz := HBL.out.size
  go_wp2_with fail
  have kk : ∀ X, Below w1.heap.size w1 X → Below w1.heap.size w1 X ∧ X.cell? ⟨g, 0, none⟩ = some (.int .i64 E) ∧ X.cell? ⟨g, 3, none⟩ = some (.int .i64 N) := fun X h => ⟨h, kept h0 h, kept h3 h⟩
  have KK := Lib.hid kk
  clear kk
  go_region_held3 (fun w' => Below w1.heap.size w1 w' ∧ w'.cell? ⟨g, 0, none⟩ = some (.int .i64 E) ∧ w'.cell? ⟨g, 3, none⟩ = some (.int .i64 N))
    ((refine KK.out _ ?_; repeat' (first | (with_reducible exact Below.refl _ _) | (with_reducible refine bel_alloc ?_ _) | (with_reducible refine bel_drew ?_) | (with_reducible refine bel_set ?_ ?_ _) | (with_reducible refine bel_call ?_ hb) | (with_reducible exact Nat.le_refl _) | (with_reducible exact And.left (by assumption)) | (simp; done) | (simp; omega))))
    (first
      | (go_at_call 59; (with_reducible refine (hmul.out ((w1.alloc (.cells #[.int .u64 0, .int .u64 0] 63)).drew)).mono ?_); rintro e w' ⟨rfl, hb⟩; have hn := (((Blk.new w1 63 #[.int .u64 0, .int .u64 0]).drew).below hb (by simp)); have f0 := hn.cell 0; have f1 := hn.cell 1; have f2 := hn.frozen 0; have f3 := hn.frozen 1; clear hn)
      | (go_at_call 59; refine (hmul.out _).mono ?_; rintro e w' ⟨rfl, hb⟩))
  all_goals
    first
      | (
        rename_i hH
        have hB := hH.1
        have bm := ((((Blk.new w1 63 #[.int .u64 0, .int .u64 0]).drew).below hb (by simp)).set_ 0 (.int .u64 (E * D / 18446744073709551616))).set_ 1 (.int .u64 (E * D % 18446744073709551616))
        have bm2 : Blk ((w'.setCell ⟨w1.heap.size, 0, none⟩ (.int .u64 (E * D / 18446744073709551616))).setCell ⟨w1.heap.size, 1, none⟩ (.int .u64 (E * D % 18446744073709551616))) w1.heap.size 63 #[.int .u64 (E * D / 18446744073709551616), .int .u64 (E * D % 18446744073709551616)] := by simpa using bm
        have HB := Lib.hid hB
        have BM := Lib.hid bm2
        clear hB hH hb bm bm2 f0 f1 f2 f3
        generalize (w'.setCell ⟨w1.heap.size, 0, none⟩ (.int .u64 (E * D / 18446744073709551616))).setCell ⟨w1.heap.size, 1, none⟩ (.int .u64 (E * D % 18446744073709551616)) = w2 at *
        obtain ⟨g6, hg6⟩ : ∃ g6, g6 = w1.heap.size := ⟨_, rfl⟩
        rw [← hg6]
        rw [← hg6] at BM
        have hg : w1.heap.size ≤ g6 := by omega
        clear hg6)
      | (
        rename_i hH
        have hB := hH.1
        have bm := Blk.new w' 63 #[.int .u64 (E * D / 18446744073709551616), .int .u64 (E * D % 18446744073709551616)]
        have hg : w1.heap.size ≤ w'.heap.size := by have := hb.size; simpa using this
        have HB := Lib.hid hB
        have BM := Lib.hid bm
        clear hB hH hb bm
        generalize w'.alloc (.cells #[.int .u64 (E * D / 18446744073709551616), .int .u64 (E * D % 18446744073709551616)] 63) = w2 at *
        generalize w'.heap.size = g6 at *)
  all_goals
    have hl1 : w.heap.size < w1.heap.size := HBX.out.lt
    have hl2 : g < w1.heap.size := HBK.out.lt
    have hl0 : g < w.heap.size := HBk.out.lt
    have bx2 := HBX.out.below HB.out hl1
    have bk2 : Bk w2 g E M H N := Blk.below HBK.out HB.out hl2
    have hl3 := bx2.lt
    have hl4 := bk2.lt
    have hl5 := BM.out.lt
    have k0 := bx2.cell 0
    have k1 := bx2.cell 1
    have k2 := BM.out.cell 0
    have k3 := BM.out.cell 1
    simp only [List.getElem?_toArray, List.getElem?_cons_zero, List.getElem?_cons_succ] at k0 k1 k2 k3
    have HX2 := Lib.hid bx2
    have HK2 := Lib.hid bk2
    have hcb := cmp_big (p := E * D) (R := R) (Int.mul_nonneg E0 D0) R0 (by omega)
    have HC := Lib.hid (fun w => numCmp_any (E * D / 18446744073709551616) (E * D % 18446744073709551616) 0 R w)
    have hp0 : 0 ≤ E * D := Int.mul_nonneg E0 D0
    have hfill : fillZ E M H (t - N) = if R < E * D then M else H + E * D := by rw [fillZ, ← HD.out, ← HR.out]
    have hne : g ≠ g6 := by omega
    have hge : w.heap.size ≤ g6 := by omega
    have hHR : H + R = M := by have := HR.out; omega
    have HHR := Lib.hid hHR
    clear hmul bx2 bk2 h0 h3 e1 e2 e3 e4 e5 hHR
    generalize E * D = p at *
    rcases Int.lt_or_le R p with hc | hc
    · rw [if_pos hc] at hfill
      have q := hcb.trans (by simpa using hc : decide (R < p) = true)
      have HF := Lib.hid hfill
      have hne2 : IntKind.i64.wrap (H + R) = M := by rw [HHR.out]; exact IntWalk.i64_in _ (by omega)
      have hne3 : IntKind.i64.wrap R = R := IntWalk.i64_in _ (by omega)
      clear hcb hfill hc
      generalize cmp128 (p / 18446744073709551616) (p % 18446744073709551616) 0 R = cc at *
      generalize p / 18446744073709551616 = hi at *
      generalize p % 18446744073709551616 = lo at *
      go_wp2_with fail
      refine (HC.out _).mono ?_
      rintro e w3 ⟨rfl, hb3⟩
      have bx3 := HX2.out.below hb3 hl3
      have bk3 : Bk w3 g E M H N := Blk.below HK2.out hb3 hl4
      have bm3 := BM.out.below hb3 hl5
      have bel3 : Below w.heap.size w w3 := bel_call (bel_call HBL.out HB.out) hb3
      have r0 := bx3.cell 0
      have r1 := bx3.cell 1
      have r2 := bm3.cell 0
      have r3 := bm3.cell 1
      have r4 := bm3.frozen 0
      have r5 := bm3.frozen 1
      have r6 := bk3.c2
      have r7 := bk3.fr 2
      have r8 := bk3.c3
      have r9 := bk3.fr 3
      simp only [List.getElem?_toArray, List.getElem?_cons_zero, List.getElem?_cons_succ] at r0 r1 r2 r3
      have BK3 := Lib.hid bk3
      have BE3 := Lib.hid bel3
      clear hb3 bx3 bk3 bm3 bel3
      go_wp2_with fail
      go_region
      all_goals
        go_wp2_with fail
        go_ret
        refine ⟨rfl, ?_, ?_⟩
        · rw [HF.out]
          exact Blk.set_ (Blk.set_ (Blk.drew (Blk.far (Blk.far BK3.out hne (.int .u64 0)) hne (.int .u64 R))) 2 (.int .i64 M)) 3 (.int .i64 t)
        · exact grown_end (bel_drew (bel_set (bel_set BE3.out hge _) hge _)) 2 3 _ _
    · rw [if_neg (by omega)] at hfill
      have q := hcb.trans (by simp; omega : decide (R < p) = false)
      have z1 : p / 18446744073709551616 = 0 := by omega
      have z2 : p % 18446744073709551616 = p := by omega
      rw [z1, z2] at BM HC q
      rw [z1] at k2
      rw [z2] at k3
      rw [z1, z2]
      have HF := Lib.hid hfill
      have hne2 : IntKind.i64.wrap (H + p) = H + p := IntWalk.i64_in _ (by omega)
      have hne3 : IntKind.i64.wrap p = p := IntWalk.i64_in _ (by omega)
      clear hcb hfill z1 z2
      generalize cmp128 0 p 0 R = cc at *
      go_wp2_with fail
      refine (HC.out _).mono ?_
      rintro e w3 ⟨rfl, hb3⟩
      have bx3 := HX2.out.below hb3 hl3
      have bk3 : Bk w3 g E M H N := Blk.below HK2.out hb3 hl4
      have bm3 := BM.out.below hb3 hl5
      have bel3 : Below w.heap.size w w3 := bel_call (bel_call HBL.out HB.out) hb3
      have r0 := bx3.cell 0
      have r1 := bx3.cell 1
      have r2 := bm3.cell 0
      have r3 := bm3.cell 1
      have r4 := bm3.frozen 0
      have r5 := bm3.frozen 1
      have r6 := bk3.c2
      have r7 := bk3.fr 2
      have r8 := bk3.c3
      have r9 := bk3.fr 3
      simp only [List.getElem?_toArray, List.getElem?_cons_zero, List.getElem?_cons_succ] at r0 r1 r2 r3
      have BK3 := Lib.hid bk3
      have BE3 := Lib.hid bel3
      clear hb3 bx3 bk3 bm3 bel3
      go_wp2_with fail
      go_region
      all_goals
        go_wp2_with fail
        go_ret
        refine ⟨rfl, ?_, ?_⟩
        · rw [HF.out]
          exact Blk.set_ (Blk.set_ (Blk.drew BK3.out) 2 (.int .i64 (H + p))) 3 (.int .i64 t)
        · exact grown_end (bel_drew BE3.out) 2 3 _ _
end Go.Proofs.Yticapkhpjdfhgaa.rateB
