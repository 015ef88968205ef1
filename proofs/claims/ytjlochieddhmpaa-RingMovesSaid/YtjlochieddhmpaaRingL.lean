/- Layer 39: how many places each has, counted. -/
import Derived.Test.YtjlochieddhmpaaRingK
namespace Go.Proofs.Ytjlochieddhmpaa.ringL
open Go.ChangeShapes Go.WideShapes Go.ChangeAt Go.RowKit
open Go.Proofs.Ytjlochieddhmpaa.base Go.Proofs.Ytjlochieddhmpaa.ringA Go.Proofs.Ytjlochieddhmpaa.ringB Go.Proofs.Ytjlochieddhmpaa.ringC Go.Proofs.Ytjlochieddhmpaa.ringD Go.Proofs.Ytjlochieddhmpaa.ringE Go.Proofs.Ytjlochieddhmpaa.ringF Go.Proofs.Ytjlochieddhmpaa.ringG Go.Proofs.Ytjlochieddhmpaa.ringH Go.Proofs.Ytjlochieddhmpaa.ringJ Go.Proofs.Ytjlochieddhmpaa.ringK
set_option linter.unusedVariables false

theorem cntI_same (P : Nat → Int) (j : Nat) (h : P j < 0) : (fun i => (cntI P i (j + 1) : Int)) = fun i => (cntI P i j : Int) := by
  funext i
  show ((cntI P i j + if P j = (i : Int) then 1 else 0 : Nat) : Int) = _
  rw [if_neg (by omega)]
  rfl
theorem cntI_more (P : Nat → Int) (j k : Nat) (h : P j = (k : Int)) : upd (fun i => (cntI P i j : Int)) k ((cntI P k j : Int) + 1) = fun i => (cntI P i (j + 1) : Int) := by
  funext i
  show upd (fun i => (cntI P i j : Int)) k ((cntI P k j : Int) + 1) i = ((cntI P i j + if P j = (i : Int) then 1 else 0 : Nat) : Int)
  unfold upd
  by_cases e : i = k
  · subst e
    rw [if_pos rfl, if_pos h]
    omega
  · rw [if_neg e, if_neg (by omega)]
    rfl
def ShPost (n m : Nat) (P : Nat → Int) (w : World) (e : Ending) (w' : World) : Prop := ∃ g cs, e = .returned (.slice (some ⟨g, 0, none⟩) m m) ∧ Blk w' g 3 cs ∧ AtA m cs (fun i => (cntI P i n : Int)) ∧ Below w.heap.size w w'
set_option maxHeartbeats 1000000 in
theorem shares_at (ra n m : Nat) (P : Nat → Int) (w : World) (h : RingAt w ra n P) (hn : 1 ≤ n) (hn2 : n ≤ 65537) (hm : m ≤ 500) (hP : ∀ q, q < n → P q < 0 ∨ (0 ≤ P q ∧ P q < m)) :
    Calls Try.prog 15 #[.pointer (some ⟨ra, 0, none⟩), .int .i64 m] w (ShPost n m P w) := by
  obtain ⟨i0, hi0, hz0, hz1, hz2⟩ := info_parts info_int
  have hm1 := fun (W : World) => run_make_one (P := Try.prog) 33 3 i0 _ Try.underlying33 hi0 hz0 hz1 rfl .i64 .i64 (m : Int) (by omega) (by rw [hz2]; omega) (by omega) W
  obtain ⟨g, cs, h1, h2, h3⟩ := h
  have HC := Lib.hid (show ∀ W, Below w.heap.size w W → W.cell? ⟨ra, 0, none⟩ = some (.slice (some ⟨g, 0, none⟩) n n) ∧ ∀ q, q < n → W.cell? ⟨g, q, none⟩ = some (.int .i64 (P q)) from fun W hb => ⟨(h1.below hb h1.lt).cell 0, fun q hq => ((h2.below hb h2.lt).cell q).trans (h3.2 q hq)⟩)
  have HP := Lib.hid hP
  have HS := Lib.hid (fun W h => size_at ra g n W h)
  have c0 := (HC.out (w.alloc (.cells (zeros m (.int .i64 0)) 3)) ((Below.refl _ _).alloc (Nat.le_refl _) _)).1
  have q0 : decide ((m : Int) < 0) = false := decide_eq_false (by omega)
  have q1 : decide (512 < (m : Int)) = false := decide_eq_false (by omega)
  have q2 : ¬ (m : Int) < 0 := by omega
  have q3 : ¬ 512 < (m : Int) := by omega
  clear hi0 hz0 hz1 hz2 h1 h2 h3 hP
  go_enter Try.func15, Try.ntmps15
  go_wp2_with (go_at_call 13; (with_reducible refine (HS.out _ c0).mono ?_); rintro e w' ⟨rfl, rfl⟩)
  clear hm1 c0
  go_loopw [14, 6, 7] (fun i _ _ wr => ∃ (j : Nat) (cs : Array Value), j ≤ n ∧ i = .int .i64 j ∧ Blk wr w.heap.size 3 cs ∧ AtA m cs (fun i => (cntI P i j : Int)) ∧ Below w.heap.size w wr) (fun i _ _ _ => n - (intOf i).toNat)
  case atStart => exact ⟨0, _, by omega, rfl, Blk.new w _ _, atA_zeros m, (Below.refl _ _).alloc (Nat.le_refl _) _⟩
  case round =>
    obtain ⟨j, cs, hj, rfl, hB, hA, hbel⟩ := hrel
    have KB := Lib.hid hB
    have KA := Lib.hid hA
    have KBel := Lib.hid hbel
    obtain ⟨c0, cP⟩ := HC.out _ hbel
    clear hB hA hbel
    by_cases hlt : j < n
    · have p1 : decide ((j : Int) < (n : Int)) = true := decide_eq_true (by omega)
      have cj := cP j hlt
      clear cP
      rcases HP.out j hlt with hneg | ⟨h0, h1⟩
      · have r0 : decide (0 ≤ P j) = false := decide_eq_false (by omega)
        have HE := Lib.hid (show AtA m cs (fun i => (cntI P i (j + 1) : Int)) by rw [cntI_same P j hneg]; exact KA.out)
        clear hneg
        generalize P j = v at *
        go_wp2_with fail
        go_roundw
        case rel => exact ⟨j + 1, cs, by omega, by go_num, KB.out, HE.out, KBel.out⟩
        case measure => simp [intOf]; omega
      · obtain ⟨k, hk⟩ : ∃ k : Nat, P j = k := ⟨(P j).toNat, by omega⟩
        have km : k < m := by omega
        have r0 : decide (0 ≤ (k : Int)) = true := decide_eq_true (by omega)
        have r1 : decide ((k : Int) < (m : Int)) = true := decide_eq_true (by omega)
        have r2 : decide (k < m) = true := decide_eq_true km
        have ck := (KB.out.cell k).trans (KA.out.2 k km)
        have fk := KB.out.frozen k
        have cl := cntI_le P k j
        have e1 : IntKind.i64.wrap ((cntI P k j : Int) + 1) = (cntI P k j : Int) + 1 := IntWalk.i64_in _ (by omega)
        have HE := Lib.hid (show AtA m (cs.setIfInBounds k (.int .i64 ((cntI P k j : Int) + 1))) (fun i => (cntI P i (j + 1) : Int)) by
          have := KA.out.set k km ((cntI P k j : Int) + 1)
          rw [cntI_more P j k hk] at this
          exact this)
        rw [hk] at cj
        clear h0 h1 hk
        dsimp only at ck
        generalize cntI P k j = v at *
        go_wp2_with fail
        go_roundw
        case rel => exact ⟨j + 1, _, by omega, by go_num, KB.out.set_ _ _, HE.out, KBel.out.setCell (p := ⟨w.heap.size, k, none⟩) (Nat.le_refl _) _⟩
        case measure => simp [intOf]; omega
    · obtain rfl : n = j := by omega
      have p1 : decide ((n : Int) < (n : Int)) = false := decide_eq_false (by omega)
      clear c0 cP
      go_wp2_with fail
      go_ret
      exact ⟨_, cs, rfl, KB.out, KA.out, KBel.out⟩
theorem few_any (A : Option Addr) (n c B : Nat) (ids ws : Nat → Int) (w : World) (hc : n ≤ c) (hm : c ≤ 9223372036854775807) (hit : ItemsIn w B A n ids ws) :
    Calls Try.prog 9 #[.slice A n c] w fun e w' => ∃ m : Nat, e = .returned (.slice A m c) ∧ w = w' ∧ m ≤ 20 ∧ m ≤ n ∧ ItemsIn w B A m ids ws := by
  by_cases hn : n ≤ 20
  · have q0 : decide ((20 : Int) < (n : Int)) = false := decide_eq_false (by omega)
    have HI := Lib.hid hit
    clear hit
    go_enter Try.func9, Try.ntmps9
    go_wp2
    go_ret
    exact ⟨n, rfl, rfl, hn, Nat.le_refl _, HI.out⟩
  · have q0 : decide ((20 : Int) < (n : Int)) = true := decide_eq_true (by omega)
    rcases hit with h0 | ⟨b, off, rfl, h1, h2⟩
    · omega
    · have HI := Lib.hid (show ItemsIn w B (some ⟨b, off, none⟩) 20 ids ws from .inr ⟨b, off, rfl, h1, fun j hj => h2 j (by omega)⟩)
      clear h1 h2
      go_enter Try.func9, Try.ntmps9
      go_wp2
      go_ret
      exact ⟨20, rfl, rfl, by omega, by omega, HI.out⟩
end Go.Proofs.Ytjlochieddhmpaa.ringL
