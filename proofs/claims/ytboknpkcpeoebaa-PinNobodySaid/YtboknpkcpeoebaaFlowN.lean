/- Layer 27: the place of a flow. -/
import Derived.Test.YtboknpkcpeoebaaFlowM
import Derived.Deep.LoopGhost
namespace Go.Proofs.Ytboknpkcpeoebaa.flowN
open Go.ChangeShapes Go.WideShapes Go.ChangeAt Go.RowKit
open Go.Proofs.Ytboknpkcpeoebaa.base Go.Proofs.Ytboknpkcpeoebaa.flowA Go.Proofs.Ytboknpkcpeoebaa.flowB Go.Proofs.Ytboknpkcpeoebaa.flowC Go.Proofs.Ytboknpkcpeoebaa.flowD Go.Proofs.Ytboknpkcpeoebaa.flowE Go.Proofs.Ytboknpkcpeoebaa.flowF Go.Proofs.Ytboknpkcpeoebaa.flowG Go.Proofs.Ytboknpkcpeoebaa.flowH Go.Proofs.Ytboknpkcpeoebaa.flowL Go.Proofs.Ytboknpkcpeoebaa.flowM
set_option linter.unusedVariables false

/-- A table of flows that is whole: the places in use, the last one used first; the free ones; those in each row. -/
abbrev GoodF (n : Nat) (seed : Int) (t : Tb Ent) (L F : List Nat) (C : Nat → List Nat) : Prop := GoodT n n Ent.x (rowN n seed) t L F C
theorem find_nil (x : Tup) (w : World) : Calls Try.prog 50 #[.pointer none, .agg x.cells] w fun e w' => e = .returned (.int .i64 (-1)) ∧ Below w.heap.size w w' := by
  have HE := Lib.hid (fun w => flowI.empty_nil w)
  have HW := Lib.hid ((Below.refl w.heap.size w).alloc (Nat.le_refl _) (.cells #[.int .i64 x.pr, .bool x.s6, .int .u64 x.sh, .int .u64 x.sl, .bool x.d6, .int .u64 x.dh, .int .u64 x.dl, .int .i64 x.sp, .int .i64 x.dp] 26))
  unfold Tup.cells
  go_enter Try.func50, Try.ntmps50
  go_wp2_with fail
  refine (HE.out _).mono ?_
  rintro e w9 ⟨rfl, hb⟩
  have HB := Lib.hid (HW.out.trans (hb.mono HW.out.size))
  clear hb
  go_wp2_with fail
  go_ret
  first | exact ⟨rfl, HB.out⟩ | exact ⟨rfl, HB.out.drew⟩ | exact ⟨rfl, HB.out.drew.drew⟩
/-- What find says. -/
def Found (t : Tb Ent) (L : List Nat) (x : Tup) (at' : Int) : Prop := (at' = -1 ∧ ∀ p, p ∈ L → (t.ent p).x ≠ x) ∨ ∃ p : Nat, at' = (p : Int) ∧ p ∈ L ∧ (t.ent p).x = x
set_option maxHeartbeats 4000000 in
theorem find_any {w : World} {ta r : Nat} {v : Value} {n : Nat} {seed : Int} {t : Tb Ent} {L F : List Nat} {C : Nat → List Nat} (x : Tup) (h : MemF w ta r v n seed t) (g0 : GoodF n seed t L F C) (hn : 1 ≤ n) (hn2 : n ≤ 4096) :
    Calls Try.prog 50 #[.pointer (some ⟨ta, 0, none⟩), .agg x.cells] w fun e w' => ∃ at' : Int, e = .returned (.int .i64 at') ∧ Found t L x at' ∧ Below w.heap.size w w' := by
  obtain ⟨er, hr⟩ := row_in n seed x hn
  have HG := Lib.hid g0
  have HX := Lib.hid (fun p : Nat => tup_ne (t.ent p).x x)
  have HM := Lib.hid (h.alloc (.cells #[.int .i64 x.pr, .bool x.s6, .int .u64 x.sh, .int .u64 x.sl, .bool x.d6, .int .u64 x.dh, .int .u64 x.dl, .int .i64 x.sp, .int .i64 x.dp] 26))
  have HK := Lib.hid (Blk.new w 26 #[.int .i64 x.pr, .bool x.s6, .int .u64 x.sh, .int .u64 x.sl, .bool x.d6, .int .u64 x.dh, .int .u64 x.dl, .int .i64 x.sp, .int .i64 x.dp])
  have HW := Lib.hid ((Below.refl w.heap.size w).alloc (Nat.le_refl _) (.cells #[.int .i64 x.pr, .bool x.s6, .int .u64 x.sh, .int .u64 x.sl, .bool x.d6, .int .u64 x.dh, .int .u64 x.dl, .int .i64 x.sp, .int .i64 x.dp] 26))
  have hlt := HK.out.lt
  unfold Tup.cells at HX ⊢
  obtain ⟨w1, hw1⟩ : ∃ w1, w1 = w.alloc (.cells #[.int .i64 x.pr, .bool x.s6, .int .u64 x.sh, .int .u64 x.sl, .bool x.d6, .int .u64 x.dh, .int .u64 x.dl, .int .i64 x.sp, .int .i64 x.dp] 26) := ⟨_, rfl⟩
  have HE := Lib.hid (show ∀ w', Below w1.heap.size w1 w' → Calls Try.prog 56 #[.pointer (some ⟨ta, 0, none⟩)] w' fun e w' => e = .returned (.bool (decide ((t.size : Int) = 0))) ∧ Below w1.heap.size w1 w' from fun w' hb => (flowI.empty_any ((hw1 ▸ HM.out).below hb)).mono fun e w2 ⟨a, b⟩ => ⟨a, hb.trans (b.mono hb.size)⟩)
  have HR := Lib.hid (show ∀ w', Below w1.heap.size w1 w' → Calls Try.prog 48 #[.pointer (some ⟨ta, 0, none⟩), .agg #[.int .i64 x.pr, .bool x.s6, .int .u64 x.sh, .int .u64 x.sl, .bool x.d6, .int .u64 x.dh, .int .u64 x.dl, .int .i64 x.sp, .int .i64 x.dp]] w' fun e w' => e = .returned (.int .i64 (rowN n seed x)) ∧ Below w1.heap.size w1 w' from fun w' hb => (row_any x ((hw1 ▸ HM.out).below hb) hn hn2).mono fun e w2 ⟨a, b⟩ => ⟨a, hb.trans (b.mono hb.size)⟩)
  have HS := Lib.hid (show ∀ w' : World, Below w1.heap.size w1 w' → (w'.cell? ⟨w.heap.size, 0, none⟩ = some (.int .i64 x.pr) ∧ w'.cell? ⟨w.heap.size, 1, none⟩ = some (.bool x.s6) ∧ w'.cell? ⟨w.heap.size, 2, none⟩ = some (.int .u64 x.sh) ∧ w'.cell? ⟨w.heap.size, 3, none⟩ = some (.int .u64 x.sl) ∧ w'.cell? ⟨w.heap.size, 4, none⟩ = some (.bool x.d6) ∧ w'.cell? ⟨w.heap.size, 5, none⟩ = some (.int .u64 x.dh) ∧ w'.cell? ⟨w.heap.size, 6, none⟩ = some (.int .u64 x.dl) ∧ w'.cell? ⟨w.heap.size, 7, none⟩ = some (.int .i64 x.sp) ∧ w'.cell? ⟨w.heap.size, 8, none⟩ = some (.int .i64 x.dp) ∧ w'.cell? ⟨ta, 4, none⟩ = some (.slice (some ⟨r, 0, none⟩) n n) ∧ w'.cell? ⟨r, rowN n seed x, none⟩ = some (.int .i64 (headZ (C (rowN n seed x)) (-1)))) from fun w' hb => by
    subst hw1
    have e : ∀ i, w'.cell? ⟨w.heap.size, i, none⟩ = (#[.int .i64 x.pr, .bool x.s6, .int .u64 x.sh, .int .u64 x.sl, .bool x.d6, .int .u64 x.dh, .int .u64 x.dl, .int .i64 x.sp, .int .i64 x.dp] : Array Value)[i]? := fun i => by
      rw [← HK.out.cell i]
      unfold World.cell?
      rw [hb.block _ hlt]
    have h2 := HM.out.below hb
    refine ⟨e 0, e 1, e 2, e 3, e 4, e 5, e 6, e 7, e 8, h2.cells.2.2.2.2.1, ?_⟩
    rw [(h2.row _ hr).1, g0.rows _ hr])
  have HT := Lib.hid (show ∀ w' : World, Below w1.heap.size w1 w' → (w'.cell? ⟨w.heap.size, 0, none⟩ = some (.int .i64 x.pr) ∧ w'.cell? ⟨w.heap.size, 1, none⟩ = some (.bool x.s6) ∧ w'.cell? ⟨w.heap.size, 2, none⟩ = some (.int .u64 x.sh) ∧ w'.cell? ⟨w.heap.size, 3, none⟩ = some (.int .u64 x.sl) ∧ w'.cell? ⟨w.heap.size, 4, none⟩ = some (.bool x.d6) ∧ w'.cell? ⟨w.heap.size, 5, none⟩ = some (.int .u64 x.dh) ∧ w'.cell? ⟨w.heap.size, 6, none⟩ = some (.int .u64 x.dl) ∧ w'.cell? ⟨w.heap.size, 7, none⟩ = some (.int .i64 x.sp) ∧ w'.cell? ⟨w.heap.size, 8, none⟩ = some (.int .i64 x.dp)) from fun w' hb => by
    obtain ⟨a0, a1, a2, a3, a4, a5, a6, a7, a8, _⟩ := HS.out w' hb
    exact ⟨a0, a1, a2, a3, a4, a5, a6, a7, a8⟩)
  have HMM := Lib.hid (show ∀ w' : World, Below w1.heap.size w1 w' → MemF w' ta r v n seed t from fun w' hb => (hw1 ▸ HM.out).below hb)
  have HWW := Lib.hid (show ∀ w' : World, Below w1.heap.size w1 w' → Below w.heap.size w w' from fun w' hb => by subst hw1; exact HW.out.trans (hb.mono HW.out.size))
  clear h g0 HM HK HW er
  go_enter Try.func50, Try.ntmps50
  go_wp2_with fail
  rw [← hw1]
  refine (HE.out _ (Below.refl _ _)).mono ?_
  rintro e w9 ⟨rfl, hb⟩
  have HB := Lib.hid hb
  clear hb
  by_cases h0 : (t.size : Int) = 0
  · rw [decide_eq_true h0]
    have hL : L = [] := by
      have := HG.out.size
      cases L with
      | nil => rfl
      | cons a L => simp at this; omega
    have HF := Lib.hid (show Found t L x (-1) from .inl ⟨rfl, fun p hp => by rw [hL] at hp; cases hp⟩)
    clear hL hw1
    go_wp2_with fail
    go_ret
    exact ⟨-1, rfl, HF.out, HWW.out _ HB.out⟩
  · rw [decide_eq_false h0]
    clear hw1
    have s0 := HS.out _ HB.out.drew
    have r0 : (0 : Int) ≤ rowN n seed x := by omega
    have r1 : ((rowN n seed x : Nat) : Int) < n := by omega
    go_wp2_with fail
    go_region_held3 (fun w' => w'.cell? ⟨w.heap.size, 0, none⟩ = some (.int .i64 x.pr) ∧ w'.cell? ⟨w.heap.size, 1, none⟩ = some (.bool x.s6) ∧ w'.cell? ⟨w.heap.size, 2, none⟩ = some (.int .u64 x.sh) ∧ w'.cell? ⟨w.heap.size, 3, none⟩ = some (.int .u64 x.sl) ∧ w'.cell? ⟨w.heap.size, 4, none⟩ = some (.bool x.d6) ∧ w'.cell? ⟨w.heap.size, 5, none⟩ = some (.int .u64 x.dh) ∧ w'.cell? ⟨w.heap.size, 6, none⟩ = some (.int .u64 x.dl) ∧ w'.cell? ⟨w.heap.size, 7, none⟩ = some (.int .i64 x.sp) ∧ w'.cell? ⟨w.heap.size, 8, none⟩ = some (.int .i64 x.dp) ∧ w'.cell? ⟨ta, 4, none⟩ = some (.slice (some ⟨r, 0, none⟩) n n) ∧ w'.cell? ⟨r, rowN n seed x, none⟩ = some (.int .i64 (headZ (C (rowN n seed x)) (-1)))) (assumption)
      (first
        | (go_at_call 48
           (with_reducible refine (HR.out _ HB.out.drew).mono ?_)
           rintro e w8 ⟨rfl, hb⟩
           have s9 := HS.out _ hb
           have B9 := Lib.hid hb
           clear hb))
    clear s0 s9
    have HC := Lib.hid (HG.out.rch _ hr)
    have HWK := Lib.hid (walk_start Ent.x t (C (rowN n seed x)) x)
    go_wp2_with fail
    go_loopg [5] (C (rowN n seed x)).length (fun f a wr => ∃ A R : List Nat, a = .int .i64 (headZ R (-1)) ∧ R.length = f ∧ Walk Ent.x t (C (rowN n seed x)) x A R ∧ Below w1.heap.size w1 wr)
    case atStart => exact ⟨[], _, rfl, rfl, HWK.out, B9.out⟩
    case round =>
      obtain ⟨A, R, rfl, hlen, hwk, hbel⟩ := hrel
      have KW := Lib.hid hwk
      have KB := Lib.hid hbel
      have KL := Lib.hid hlen
      clear hwk hbel hlen
      cases R with
      | nil =>
        have HF := Lib.hid (show Found t L x (-1) from .inl ⟨rfl, walk_none HG.out KW.out⟩)
        rw [show headZ ([] : List Nat) (-1) = -1 from rfl]
        go_wp2_with fail
        go_region
        go_wp2_with fail
        go_ret
        first | exact ⟨-1, rfl, HF.out, HWW.out _ KB.out⟩ | exact ⟨-1, rfl, HF.out, HWW.out _ KB.out.drew⟩ | exact ⟨-1, rfl, HF.out, HWW.out _ KB.out.drew.drew⟩
      | cons p R =>
        rw [show headZ (p :: R) (-1) = (p : Int) from rfl]
        have hpL : p ∈ L := walk_found HG.out KW.out
        have hp : p < t.np := HG.out.lt p (.inl hpL)
        obtain ⟨g, cap, hv, g1, g2, hcp, hm, hc, _⟩ := (HMM.out _ KB.out).place p hp
        unfold maxLen at hm
        have HNX := Lib.hid (HX.out p)
        have c3 : wr.cell? ⟨ta, 3, none⟩ = some (.slice (some ⟨g, 0, none⟩) t.np cap) := hv ▸ (HMM.out _ KB.out).cells.2.2.2.1
        have q0 : wr.cell? ⟨g, p * 15, none⟩ = some (.int .i64 (t.ent p).x.pr) := hc 0 (by omega)
        have q1 : wr.cell? ⟨g, p * 15 + 1, none⟩ = some (.bool (t.ent p).x.s6) := hc 1 (by omega)
        have q2 : wr.cell? ⟨g, p * 15 + 2, none⟩ = some (.int .u64 (t.ent p).x.sh) := hc 2 (by omega)
        have q3 : wr.cell? ⟨g, p * 15 + 3, none⟩ = some (.int .u64 (t.ent p).x.sl) := hc 3 (by omega)
        have q4 : wr.cell? ⟨g, p * 15 + 4, none⟩ = some (.bool (t.ent p).x.d6) := hc 4 (by omega)
        have q5 : wr.cell? ⟨g, p * 15 + 5, none⟩ = some (.int .u64 (t.ent p).x.dh) := hc 5 (by omega)
        have q6 : wr.cell? ⟨g, p * 15 + 6, none⟩ = some (.int .u64 (t.ent p).x.dl) := hc 6 (by omega)
        have q7 : wr.cell? ⟨g, p * 15 + 7, none⟩ = some (.int .i64 (t.ent p).x.sp) := hc 7 (by omega)
        have q8 : wr.cell? ⟨g, p * 15 + 8, none⟩ = some (.int .i64 (t.ent p).x.dp) := hc 8 (by omega)
        have q14 : wr.cell? ⟨g, p * 15 + 14, none⟩ = some (.int .i64 (t.bh p)) := hc 14 (by omega)
        have t0 := HT.out _ KB.out
        have p0 : (0 : Int) ≤ p := by omega
        have p1 : (p : Int) < t.np := by omega
        have p2 : ((p : Int) != -1) = true := by simp
        have HPL := Lib.hid hpL
        clear hc hpL hv
        by_cases hx : (t.ent p).x = x
        · have HF := Lib.hid (show Found t L x (p : Int) from .inr ⟨p, rfl, HPL.out, hx⟩)
          rw [hx, sameT_yes] at HNX
          have hne := HNX.out
          clear HNX
          go_wp2_with fail
          go_region
          all_goals
            go_wp2_with fail
            go_ret
            first | exact ⟨p, rfl, HF.out, HWW.out _ KB.out⟩ | exact ⟨p, rfl, HF.out, HWW.out _ KB.out.drew⟩ | exact ⟨p, rfl, HF.out, HWW.out _ KB.out.drew.drew⟩
        · have HNW := Lib.hid (walk_next KW.out HC.out hx)
          rw [sameT_no hx] at HNX
          have hne := HNX.out
          clear HNX
          rw [HNW.out.1] at q14
          go_wp2_with fail
          go_region
          all_goals
            go_wp2_with fail
            go_roundg R.length
            case measure => have := KL.out; simp at this; omega
            case rel => exact ⟨_, R, rfl, rfl, HNW.out.2, KB.out.drew⟩
end Go.Proofs.Ytboknpkcpeoebaa.flowN
