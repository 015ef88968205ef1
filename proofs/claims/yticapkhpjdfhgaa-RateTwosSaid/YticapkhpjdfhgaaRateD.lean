/- Layer 37: a step of both buckets. -/
import Derived.Test.YticapkhpjdfhgaaRateC
namespace Go.Proofs.Yticapkhpjdfhgaa.rateD
open Go.ChangeShapes Go.WideShapes Go.ChangeAt Go.RowKit
open Go.Proofs.Yticapkhpjdfhgaa.base Go.Proofs.Yticapkhpjdfhgaa.rateA Go.Proofs.Yticapkhpjdfhgaa.rateB Go.Proofs.Yticapkhpjdfhgaa.rateC
set_option linter.unusedVariables false

def inv (M : Int) (s : Int × Int) : Prop := 0 ≤ s.1 ∧ s.1 ≤ M ∧ 0 ≤ s.2 ∧ s.2 ≤ 1099511627776
def stp (E M : Int) (s : Int × Int) (o : Int × Int) : Int × Int :=
  if o.1 = 2 then (if o.2 < s.2 ∨ 1099511627776 < o.2 then s else (fillZ E M s.1 (o.2 - s.2), o.2)) else (if 0 ≤ o.2 ∧ o.2 ≤ s.1 then (s.1 - o.2, s.2) else s)
theorem fill_in {E M H d : Int} (E0 : 0 ≤ E) (H0 : 0 ≤ H) (HM : H ≤ M) (d0 : 0 ≤ d) : H ≤ fillZ E M H d ∧ fillZ E M H d ≤ M := by
  have := Int.mul_nonneg E0 d0
  unfold fillZ
  split <;> omega
theorem stp_inv {E M : Int} {s o : Int × Int} (E0 : 0 ≤ E) (h : inv M s) : inv M (stp E M s o) := by
  obtain ⟨h1, h2, h3, h4⟩ := h
  unfold stp
  split
  · split
    · exact ⟨h1, h2, h3, h4⟩
    · have := fill_in (M := M) (H := s.1) (d := o.2 - s.2) E0 h1 h2 (by omega)
      refine ⟨?_, ?_, ?_, ?_⟩ <;> dsimp only <;> omega
  · split
    · refine ⟨?_, ?_, ?_, ?_⟩ <;> dsimp only <;> omega
    · exact ⟨h1, h2, h3, h4⟩
def StepPost (B g p : Nat) (E M : Int) (s : Int × Int) (w : World) (e : Ending) (w' : World) : Prop := e = .returned (.bool true) ∧ Bk w' g E M s.1 s.2 ∧ Pl w' p E M s.1 s.2 ∧ Below B w w'
theorem below_pt {B : Nat} {a w w' : World} {g : Nat} (h : Below B a w) (hg : w.grownBy w' (some g)) (hB : B ≤ w.heap.size) (hr : B ≤ g) : Below B a w' :=
  h.grown hg hB fun k hk => by injection hk with hk; omega

set_option maxHeartbeats 2000000 in
theorem step_any (B g p : Nat) (E M H N K n : Int) (w : World) (hB : B ≤ w.heap.size) (hg : B ≤ g) (hp : B ≤ p) (hgp : g ≠ p) (hb : Bk w g E M H N) (hl : Pl w p E M H N) (E0 : 0 ≤ E) (E1 : E ≤ 1099511627776) (M1 : M ≤ 1099511627776) (hi : inv M (H, N)) (n0 : -9223372036854775808 ≤ n) (n1 : n < 9223372036854775808) :
    Calls Try.prog 28 #[.pointer (some ⟨g, 0, none⟩), .pointer (some ⟨p, 0, none⟩), .agg #[.int .i64 K, .int .i64 n]] w (StepPost B g p E M (stp E M (H, N) (K, n)) w) := by
  obtain ⟨H0, HM, N0, N1⟩ := hi
  simp only at H0 HM N0 N1
  have hgl := hb.lt
  have hpl := hl.lt
  have hbx := Blk.new w 47 #[.int .i64 K, .int .i64 n]
  have hb1 : Bk (w.alloc (.cells #[.int .i64 K, .int .i64 n] 47)) g E M H N := Blk.alloc hb _
  have hl1 : Pl (w.alloc (.cells #[.int .i64 K, .int .i64 n] 47)) p E M H N := Blk.alloc hl _
  have hbel : Below B w (w.alloc (.cells #[.int .i64 K, .int .i64 n] 47)) := (Below.refl _ _).alloc hB _
  have hne1 : p ≠ w.heap.size := by omega
  have hne2 : g ≠ w.heap.size := by omega
  have hne3 : p ≠ g := fun e => hgp e.symm
  have HX := Lib.hid hbx
  have HBk := Lib.hid hb1
  have HPl := Lib.hid hl1
  have HBe := Lib.hid hbel
  clear hb hl hbx hb1 hl1 hbel
  by_cases hK : K = 2
  · have t2 : (K != 2) = false := by simp [hK]
    by_cases hbad : n < N ∨ 1099511627776 < n
    · have hv : stp E M (H, N) (K, n) = (H, N) := by simp only [stp]; rw [if_pos hK, if_pos hbad]
      rw [hv]
      have hbad2 : n < N ∨ (N ≤ n ∧ 1099511627776 < n) := by omega
      have HBAD := Lib.hid hbad
      clear hv hK hbad
      have hw0 := HPl.out.c3
      have hx0 := HX.out.cell 1
      have hgo := Lib.hid (fun (w : World) (hb : Bk w g E M H N) => go_bad g E M H N n w hb HBAD.out)
      rcases hbad2 with h1 | ⟨h1, h2⟩
      all_goals
        go_enter Try.func28, Try.ntmps28
        go_wp2_with fail
        generalize w.alloc (.cells #[.int .i64 K, .int .i64 n] 47) = w1 at *
        simp only [List.getElem?_toArray, List.getElem?_cons_zero, List.getElem?_cons_succ] at hx0
        go_quiet (fail)
        go_wp2_with fail
        refine (hgo.out _ (Blk.drewN HBk.out _)).mono ?_
        rintro e w' ⟨rfl, rfl⟩
        go_wp2_with fail
        go_ret
        exact ⟨rfl, Blk.drewN HBk.out _, Blk.drewN HPl.out _, below_drewN HBe.out _⟩
    · have hv : stp E M (H, N) (K, n) = (fillZ E M H (n - N), n) := by simp only [stp]; rw [if_pos hK, if_neg hbad]
      rw [hv]
      have g0 : N ≤ n := by omega
      have g1 : n ≤ 1099511627776 := by omega
      have hw0 := HPl.out.c3
      have hx0 := HX.out.cell 1
      obtain ⟨D, hD⟩ : ∃ D, D = n - N := ⟨_, rfl⟩
      have e1 : IntKind.i64.wrap (n - N) = D := by rw [hD]; exact IntWalk.i64_in _ (by omega)
      have D0 : 0 ≤ D := by omega
      have D1 : D ≤ 1099511627776 := by omega
      have hfl := Lib.hid (fun (w : World) (hp : Pl w p E M H N) => fill_any p E M H N D w hp E0 E1 M1 H0 HM D0 D1)
      have hgo := Lib.hid (fun (w : World) (hb : Bk w g E M H N) => go_ok g E M H N n w hb E0 E1 M1 H0 HM N0 g0 g1)
      have HDD := Lib.hid hD
      clear hv hK hbad hD
      go_enter Try.func28, Try.ntmps28
      go_wp2_with fail
      generalize w.alloc (.cells #[.int .i64 K, .int .i64 n] 47) = w1 at *
      simp only [List.getElem?_toArray, List.getElem?_cons_zero, List.getElem?_cons_succ] at hx0
      go_quiet (fail)
      go_wp2_with fail
      go_region_with (first | (go_at_call 57; refine (hfl.out _ (Blk.drew (Blk.drewN HPl.out _))).mono ?_; rintro e w2 ⟨rfl, hp2, hgr⟩; have HP2 := Lib.hid hp2; have HGR := Lib.hid hgr; clear hp2 hgr))
      all_goals
        have bk2 : Bk w2 g E M H N := Blk.grown (Blk.drew (Blk.drewN HBk.out _)) HGR.out (by simp [hgp])
        have bx2 := Blk.grown (Blk.drew (Blk.drewN HX.out _)) HGR.out (by simp; omega)
        have bel2 := below_pt (below_drewN (below_drewN HBe.out _) 1) HGR.out (by have := HBe.out.size; simpa [World.drewN] using (by omega : B ≤ w1.heap.size)) hp
        have y0 := bx2.cell 1
        have y1 := HP2.out.c3
        have y2 := HP2.out.fr 3
        simp only [List.getElem?_toArray, List.getElem?_cons_zero, List.getElem?_cons_succ] at y0
        have BK2 := Lib.hid bk2
        have BE2 := Lib.hid bel2
        have hs2 : B ≤ w2.heap.size := by have := HGR.out.size; have := HBe.out.size; simp at *; omega
        clear bk2 bx2 bel2 hw0 hx0 e1
        go_wp2_with fail
        refine (hgo.out _ (Blk.far (p := ⟨p, 3, none⟩) BK2.out hgp (.int .i64 n))).mono ?_
        rintro e w3 ⟨rfl, hb3, hgr3⟩
        have HB3 := Lib.hid hb3
        have HG3 := Lib.hid hgr3
        clear hb3 hgr3
        go_wp2_with fail
        go_ret
        refine ⟨rfl, HB3.out, ?_, ?_⟩
        · have hq : Pl (w2.setCell ⟨p, 3, none⟩ (.int .i64 n)) p E M (fillZ E M H D) n := Blk.set_ HP2.out 3 (.int .i64 n)
          rw [HDD.out] at hq
          exact Blk.grown hq HG3.out (by simp; exact hne3)
        · exact below_pt (BE2.out.setCell (p := ⟨p, 3, none⟩) hp (.int .i64 n)) HG3.out (by simpa using hs2) hg
  · have t2 : (K != 2) = true := by simp [hK]
    have hw0 := HPl.out.c2
    have hw1 := HPl.out.fr 2
    have hx0 := HX.out.cell 1
    by_cases hok : 0 ≤ n ∧ n ≤ H
    · have hv : stp E M (H, N) (K, n) = (H - n, N) := by simp only [stp]; rw [if_neg hK, if_pos hok]
      rw [hv]
      obtain ⟨k0, k1⟩ := hok
      have htk := Lib.hid (fun (w : World) (hb : Bk w g E M H N) => take_yes g E M H N n w hb k0 k1 (by omega))
      have e1 : IntKind.i64.wrap (H - n) = H - n := IntWalk.i64_in _ (by omega)
      clear hv hK
      go_enter Try.func28, Try.ntmps28
      go_wp2_with fail
      generalize w.alloc (.cells #[.int .i64 K, .int .i64 n] 47) = w1 at *
      simp only [List.getElem?_toArray, List.getElem?_cons_zero, List.getElem?_cons_succ] at hx0
      have q1 : decide (0 ≤ n) = true := by simpa using k0
      have q2 : decide (n ≤ H) = true := by simpa using k1
      go_quiet (fail)
      go_wp2_with fail
      go_region
      all_goals
        have bk2 : Bk ((w1.drewN (nq + 1)).setCell ⟨p, 2, none⟩ (.int .i64 (H - n))) g E M H N := Blk.far (p := ⟨p, 2, none⟩) (Blk.drewN HBk.out (nq + 1)) hgp (.int .i64 (H - n))
        have bx2 := Blk.far (p := ⟨p, 2, none⟩) (Blk.drewN HX.out (nq + 1)) (by simp; omega) (.int .i64 (H - n))
        have pl2 : Pl ((w1.drewN (nq + 1)).setCell ⟨p, 2, none⟩ (.int .i64 (H - n))) p E M (H - n) N := Blk.set_ (Blk.drewN HPl.out (nq + 1)) 2 (.int .i64 (H - n))
        have be2 : Below B w ((w1.drewN (nq + 1)).setCell ⟨p, 2, none⟩ (.int .i64 (H - n))) := (below_drewN HBe.out (nq + 1)).setCell (p := ⟨p, 2, none⟩) hp (.int .i64 (H - n))
        have y0 := bx2.cell 1
        simp only [List.getElem?_toArray, List.getElem?_cons_zero, List.getElem?_cons_succ] at y0
        have BK2 := Lib.hid bk2
        have PL2 := Lib.hid pl2
        have BE2 := Lib.hid be2
        clear bk2 bx2 pl2 be2 hw0 hw1 hx0 e1
        generalize (w1.drewN (nq + 1)).setCell ⟨p, 2, none⟩ (.int .i64 (H - n)) = w2 at *
        go_wp2_with fail
        refine (htk.out _ BK2.out).mono ?_
        rintro e w' ⟨rfl, rfl⟩
        go_wp2_with fail
        go_ret
        exact ⟨rfl, Bk.take BK2.out _, Blk.far (p := ⟨g, 2, none⟩) PL2.out hne3 _, BE2.out.setCell (p := ⟨g, 2, none⟩) hg _⟩
    · have hv : stp E M (H, N) (K, n) = (H, N) := by simp only [stp]; rw [if_neg hK, if_neg hok]
      rw [hv]
      have hno : n < 0 ∨ (0 ≤ n ∧ H < n) := by omega
      have htk := Lib.hid (fun (w : World) (hb : Bk w g E M H N) => take_no g E M H N n w hb (by omega))
      clear hv hK hok
      rcases hno with k0 | ⟨k0, k1⟩
      all_goals
        go_enter Try.func28, Try.ntmps28
        go_wp2_with fail
        generalize w.alloc (.cells #[.int .i64 K, .int .i64 n] 47) = w1 at *
        simp only [List.getElem?_toArray, List.getElem?_cons_zero, List.getElem?_cons_succ] at hx0
        (try have q1 : decide (0 ≤ n) = false := by simp; omega)
        (try have q1 : decide (0 ≤ n) = true := by simp; omega)
        (try have q2 : decide (n ≤ H) = false := by simp; omega)
        go_quiet (fail)
        go_wp2_with fail
        refine (htk.out _ (Blk.drewN HBk.out _)).mono ?_
        rintro e w' ⟨rfl, rfl⟩
        go_wp2_with fail
        go_ret
        exact ⟨rfl, Blk.drewN HBk.out _, Blk.drewN HPl.out _, below_drewN HBe.out _⟩
end Go.Proofs.Yticapkhpjdfhgaa.rateD
