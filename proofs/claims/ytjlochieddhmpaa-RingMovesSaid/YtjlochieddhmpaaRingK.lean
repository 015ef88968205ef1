/- Layer 39: the law's own table. -/
import Derived.Test.YtjlochieddhmpaaRingJ
import Derived.Deep.DeepCutAuto
import Derived.Deep.LoopGhost
namespace Go.Proofs.Ytjlochieddhmpaa.ringK
open Go.ChangeShapes Go.WideShapes Go.ChangeAt Go.RowKit
open Go.Proofs.Ytjlochieddhmpaa.base Go.Proofs.Ytjlochieddhmpaa.ringA Go.Proofs.Ytjlochieddhmpaa.ringB Go.Proofs.Ytjlochieddhmpaa.ringC Go.Proofs.Ytjlochieddhmpaa.ringD Go.Proofs.Ytjlochieddhmpaa.ringE Go.Proofs.Ytjlochieddhmpaa.ringF Go.Proofs.Ytjlochieddhmpaa.ringG Go.Proofs.Ytjlochieddhmpaa.ringH
set_option linter.unusedVariables false

/-- A table that is being filled, in three lists. -/
structure MemL (w : World) (go ga gd n m : Nat) (s : Rs) : Prop where
  p : ∃ cs, Blk w go 3 cs ∧ AtA n cs s.P
  a : ∃ cs, Blk w ga 3 cs ∧ AtA m cs (fun i => (s.nx i : Int))
  d : ∃ cs, Blk w gd 3 cs ∧ AtA m cs s.due
  ne : go ≠ ga ∧ go ≠ gd ∧ ga ≠ gd
section
variable {w : World} {go ga gd n m : Nat} {s : Rs}
theorem MemL.drew (h : MemL w go ga gd n m s) : MemL w.drew go ga gd n m s := ⟨h.p, h.a, h.d, h.ne⟩
theorem MemL.drewN (h : MemL w go ga gd n m s) (k : Nat) : MemL (w.drewN k) go ga gd n m s := ⟨h.p, h.a, h.d, h.ne⟩
theorem MemL.alloc (h : MemL w go ga gd n m s) (o : Obj) : MemL (w.alloc o) go ga gd n m s := by
  obtain ⟨c1, h1, h2⟩ := h.p
  obtain ⟨c2, h3, h4⟩ := h.a
  obtain ⟨c3, h5, h6⟩ := h.d
  exact ⟨⟨c1, h1.alloc o, h2⟩, ⟨c2, h3.alloc o, h4⟩, ⟨c3, h5.alloc o, h6⟩, h.ne⟩
theorem MemL.setA (h : MemL w go ga gd n m s) (i : Nat) (hi : i < m) (x : Nat) : MemL (w.setCell ⟨ga, i, none⟩ (.int .i64 x)) go ga gd n m ⟨s.P, upd s.nx i x, s.due, s.free⟩ := by
  obtain ⟨c1, h1, h2⟩ := h.p
  obtain ⟨c2, h3, h4⟩ := h.a
  obtain ⟨c3, h5, h6⟩ := h.d
  obtain ⟨n1, n2, n3⟩ := h.ne
  have e : upd (fun i => (s.nx i : Int)) i (x : Int) = fun q => ((upd s.nx i x q : Nat) : Int) := by
    funext q
    unfold upd
    split <;> rfl
  exact ⟨⟨c1, h1.far (p := ⟨ga, i, none⟩) n1 _, h2⟩, ⟨_, h3.set_ _ _, by have := h4.set i hi (x : Int); rw [e] at this; exact this⟩, ⟨c3, h5.far (p := ⟨ga, i, none⟩) (Ne.symm n3) _, h6⟩, h.ne⟩
theorem MemL.setD (h : MemL w go ga gd n m s) (i : Nat) (hi : i < m) (x : Int) : MemL (w.setCell ⟨gd, i, none⟩ (.int .i64 x)) go ga gd n m ⟨s.P, s.nx, upd s.due i x, s.free⟩ := by
  obtain ⟨c1, h1, h2⟩ := h.p
  obtain ⟨c2, h3, h4⟩ := h.a
  obtain ⟨c3, h5, h6⟩ := h.d
  obtain ⟨n1, n2, n3⟩ := h.ne
  exact ⟨⟨c1, h1.far (p := ⟨gd, i, none⟩) n2 _, h2⟩, ⟨c2, h3.far (p := ⟨gd, i, none⟩) n3 _, h4⟩, ⟨_, h5.set_ _ _, h6.set i hi x⟩, h.ne⟩
theorem MemL.setP (h : MemL w go ga gd n m s) (q : Nat) (hq : q < n) (x : Int) : MemL (w.setCell ⟨go, q, none⟩ (.int .i64 x)) go ga gd n m ⟨upd s.P q x, s.nx, s.due, s.free⟩ := by
  obtain ⟨c1, h1, h2⟩ := h.p
  obtain ⟨c2, h3, h4⟩ := h.a
  obtain ⟨c3, h5, h6⟩ := h.d
  obtain ⟨n1, n2, n3⟩ := h.ne
  exact ⟨⟨_, h1.set_ _ _, h2.set q hq x⟩, ⟨c2, h3.far (p := ⟨go, q, none⟩) (Ne.symm n1) _, h4⟩, ⟨c3, h5.far (p := ⟨go, q, none⟩) (Ne.symm n2) _, h6⟩, h.ne⟩
theorem MemL.cells (h : MemL w go ga gd n m s) (i : Nat) (hi : i < m) : w.cell? ⟨ga, i, none⟩ = some (.int .i64 (s.nx i)) ∧ w.cell? ⟨gd, i, none⟩ = some (.int .i64 (s.due i)) ∧ (∀ j, w.frozen? ⟨go, j, none⟩ = false) ∧ (∀ j, w.frozen? ⟨ga, j, none⟩ = false) ∧ (∀ j, w.frozen? ⟨gd, j, none⟩ = false) ∧ ∀ q, q < n → w.cell? ⟨go, q, none⟩ = some (.int .i64 (s.P q)) := by
  obtain ⟨c1, h1, h2⟩ := h.p
  obtain ⟨c2, h3, h4⟩ := h.a
  obtain ⟨c3, h5, h6⟩ := h.d
  exact ⟨(h3.cell i).trans (h4.2 i hi), (h5.cell i).trans (h6.2 i hi), fun j => h1.frozen j, fun j => h3.frozen j, fun j => h5.frozen j, fun q hq => (h1.cell q).trans (h2.2 q hq)⟩
end
theorem atA_zeros (n : Nat) : AtA n (zeros n (.int .i64 0)) (fun _ => 0) := by
  refine ⟨zeros_size _ _, fun i hi => ?_⟩
  unfold zeros
  simp [hi]
def PlPost (seed : Int) (n m : Nat) (ids ws : Nat → Int) (w : World) (e : Ending) (w' : World) : Prop := ∃ g cs, e = .returned (.slice (some ⟨g, 0, none⟩) n n) ∧ Blk w' g 3 cs ∧ AtA n cs (endS seed n m ids ws).P ∧ Below w.heap.size w w'
set_option maxRecDepth 100000 in
set_option maxHeartbeats 4000000 in
theorem places_any (seed : Int) (n : Nat) (A : Option Addr) (m c : Nat) (ids ws : Nat → Int) (w : World) (hm : m ≤ 500) (hit : ItemsIn w w.heap.size A m ids ws) (h : RightP n m ids ws) :
    Calls Try.prog 14 #[.int .u64 seed, .int .i64 n, .slice A m c] w (PlPost seed n m ids ws w) := by
  have n2 : 2 ≤ n := by have := h.lo; omega
  have n3 : n ≤ 65537 := by have := h.hi; omega
  have hpr : Pr n := by have := h.pr; rw [Int.toNat_natCast] at this; exact this
  obtain ⟨i0, hi0, hz0, hz1, hz2⟩ := info_parts info_int
  have hmk := fun (C : Int) (h0 : 0 ≤ C) (h1 : C ≤ 100000) (W : World) => run_make_one (P := Try.prog) 33 3 i0 _ Try.underlying33 hi0 hz0 hz1 rfl .i64 .i64 C h0 (by rw [hz2]; omega) (by omega) W
  have hm1 := hmk (n : Int) (by omega) (by omega)
  have HM2 := Lib.hid (hmk (m : Int) (by omega) (by omega))
  have HSO := Lib.hid (fun h0 => start_ok seed n m ids ws n2 h0)
  have HIO := Lib.hid (fun h0 => items_ok seed n m ids ws hpr h.ws h0)
  have HNX := Lib.hid (fun x => nxZ_in seed n x n2)
  have HSK := Lib.hid (fun x => skZ_in seed n x n2)
  have HMJ := Lib.hid (show ∀ j, j ≤ m → 0 ≤ maxW ws j ∧ maxW ws j ≤ 65535 from fun j hj => by
    have := maxW_in ws j (fun i hi => h.ws i (by omega))
    exact ⟨this.1, this.2.1⟩)
  have HW := Lib.hid h.ws
  have HIT := Lib.hid (show ∀ W, Below w.heap.size w W → m ≠ 0 → ∃ b off, A = some ⟨b, off, none⟩ ∧ ItemsAt W b off m ids ws from fun W hb hne => by
    rcases hit with h | ⟨b, off, h1, h2, h3⟩
    · exact absurd h hne
    · exact ⟨b, off, h1, h3.below hb h2⟩)
  clear hit h hpr hi0 hz0 hz1 hz2 hmk
  go_enter Try.func14, Try.ntmps14
  go_wp2_with fail
  clear hm1
  go_loopw [8] (fun i wr => ∃ (j : Nat) (cs : Array Value), j ≤ n ∧ i = .int .i64 j ∧ Blk wr w.heap.size 3 cs ∧ AtA n cs (fun q => if q < j then -1 else 0) ∧ Below w.heap.size w wr ∧ wr.heap.size = w.heap.size + 1) (fun i _ => n - (intOf i).toNat)
  case atStart => exact ⟨0, _, by omega, rfl, Blk.new w _ _, by simpa using atA_zeros n, (Below.refl _ _).alloc (Nat.le_refl _) _, by simp⟩
  case round =>
    obtain ⟨j, cs, hj, rfl, hB, hA, hbel, hsz⟩ := hrel
    by_cases hlt : j < n
    · have p1 : decide ((j : Int) < (n : Int)) = true := decide_eq_true (by omega)
      have cj := (hB.cell j).trans (hA.2 j hlt)
      have fj := hB.frozen j
      have HX := Lib.hid (show Blk (wr.setCell ⟨w.heap.size, j, none⟩ (.int .i64 (-1))) w.heap.size 3 (cs.setIfInBounds j (.int .i64 (-1))) from hB.set_ j _)
      have HAX := Lib.hid (show AtA n (cs.setIfInBounds j (.int .i64 (-1))) (fun q => if q < j + 1 then -1 else 0) by
        have := hA.set j hlt (-1)
        have e : upd (fun q => if q < j then (-1 : Int) else 0) j (-1) = fun q => if q < j + 1 then -1 else 0 := by
          funext q
          unfold upd
          by_cases e1 : q = j
          · rw [if_pos e1, if_pos (by omega)]
          · by_cases e2 : q < j
            · rw [if_neg e1]; show (if q < j then (-1 : Int) else 0) = _; rw [if_pos e2, if_pos (by omega)]
            · rw [if_neg e1]; show (if q < j then (-1 : Int) else 0) = _; rw [if_neg e2, if_neg (by omega)]
        rw [e] at this
        exact this)
      have HBX := Lib.hid (show Below w.heap.size w (wr.setCell ⟨w.heap.size, j, none⟩ (.int .i64 (-1))) from hbel.setCell (p := ⟨w.heap.size, j, none⟩) (Nat.le_refl _) _)
      have HSX := Lib.hid (show (wr.setCell ⟨w.heap.size, j, none⟩ (.int .i64 (-1))).heap.size = w.heap.size + 1 by rw [← hsz]; simp)
      clear hB hA hbel hsz
      generalize (if j < j then (-1 : Int) else 0) = z at *
      go_wp2_with fail
      go_roundw
      case rel => exact ⟨j + 1, _, by omega, by go_num, HX.out, HAX.out, HBX.out, HSX.out⟩
      case measure => simp [intOf]; omega
    · obtain rfl : n = j := by omega
      have p1 : decide ((n : Int) < (n : Int)) = false := decide_eq_false (by omega)
      have KO := Lib.hid hB
      have KA := Lib.hid hA
      have KB := Lib.hid hbel
      have KS := Lib.hid hsz
      clear hB hA hbel hsz
      go_wp2_with fail
      go_loop [10, 9] (fun i hv => ∃ j : Nat, j ≤ m ∧ i = .int .i64 j ∧ hv = .int .i64 (maxW ws j)) (fun i _ => m - (intOf i).toNat)
      case atStart => exact ⟨0, by omega, rfl, rfl⟩
      case round =>
        obtain ⟨k, hk, rfl, rfl⟩ := hrel
        by_cases hlk : k < m
        · have p2 : decide ((k : Int) < (m : Int)) = true := decide_eq_true (by omega)
          obtain ⟨b, off, rfl, hcs⟩ := HIT.out _ KB.out (by omega)
          have c2 := (hcs k hlk).2
          have KX := Lib.hid (show maxW ws (k + 1) = max (maxW ws k) (ws k) from rfl)
          clear hcs
          by_cases hc : maxW ws k < ws k
          · have q1 : decide (maxW ws k < ws k) = true := decide_eq_true hc
            have KY := Lib.hid (show maxW ws (k + 1) = ws k by rw [KX.out]; omega)
            clear hc
            generalize maxW ws k = mo at *
            generalize ws k = v at *
            go_wp2_with fail
            go_round
            case rel => exact ⟨k + 1, by omega, by go_num, by rw [KY.out]⟩
            case measure => simp [intOf]; omega
          · have q1 : decide (maxW ws k < ws k) = false := decide_eq_false hc
            have KY := Lib.hid (show maxW ws (k + 1) = maxW ws k by rw [KX.out]; omega)
            clear hc
            generalize maxW ws k = mo at *
            generalize ws k = v at *
            go_wp2_with fail
            go_round
            case rel => exact ⟨k + 1, by omega, by go_num, by rw [KY.out]⟩
            case measure => simp [intOf]; omega
        · obtain rfl : m = k := by omega
          have p2 : decide ((m : Int) < (m : Int)) = false := decide_eq_false (by omega)
          have hmw := HMJ.out m (Nat.le_refl _)
          have hm2 := HM2.out
          have HM0 := Lib.hid (show MemL ((wr.alloc (.cells (zeros m (.int .i64 0)) 3)).alloc (.cells (zeros m (.int .i64 0)) 3)) w.heap.size wr.heap.size (wr.heap.size + 1) n m ⟨fun _ => -1, fun _ => 0, fun _ => 0, n⟩ by
            have h2 := Blk.new (wr.alloc (.cells (zeros m (.int .i64 0)) 3)) 3 (zeros m (.int .i64 0))
            rw [show (wr.alloc (.cells (zeros m (.int .i64 0)) 3)).heap.size = wr.heap.size + 1 by simp] at h2
            have hA : AtA n cs (fun _ => -1) := ⟨KA.out.1, fun q hq => by have := KA.out.2 q hq; dsimp only at this; rw [if_pos hq] at this; exact this⟩
            have := KS.out
            exact ⟨⟨cs, (KO.out.alloc _).alloc _, hA⟩, ⟨_, (Blk.new wr _ _).alloc _, by simpa using atA_zeros m⟩, ⟨_, h2, atA_zeros m⟩, by omega, by omega, by omega⟩)
          have HB0 := Lib.hid (show Below w.heap.size w ((wr.alloc (.cells (zeros m (.int .i64 0)) 3)).alloc (.cells (zeros m (.int .i64 0)) 3)) from (KB.out.alloc KB.out.size _).alloc (by have := KB.out.size; simp; omega) _)
          have hgs := KB.out.size
          obtain ⟨nx, hnx⟩ : ∃ nx : Nat → Nat, nx = fun i => nxZ seed n (ids i) := ⟨_, rfl⟩
          obtain ⟨sk, hsk⟩ : ∃ sk : Nat → Nat, sk = fun i => skZ seed n (ids i) := ⟨_, rfl⟩
          have HNXE := Lib.hid hnx
          have HSKE := Lib.hid hsk
          obtain ⟨mo, hmo⟩ : ∃ mo, mo = maxW ws m := ⟨_, rfl⟩
          have HMO := Lib.hid hmo
          rw [← hmo] at hmw ⊢
          clear hnx hsk hmo
          go_wp2_with fail
          clear hm2
          obtain ⟨ga, hga⟩ : ∃ ga, ga = wr.heap.size := ⟨_, rfl⟩
          rw [← hga] at HM0 hgs ⊢
          clear hga
          go_loopw [14] (fun i wr => ∃ j : Nat, j ≤ m ∧ i = .int .i64 j ∧ MemL wr w.heap.size ga (ga + 1) n m ⟨fun _ => -1, firstN nx j, fun _ => 0, n⟩ ∧ Below w.heap.size w wr) (fun i _ => m - (intOf i).toNat)
          case atStart =>
            have e : ∀ f : Nat → Nat, firstN f 0 = fun _ => 0 := fun f => by funext i; unfold firstN; rw [if_neg (by omega)]
            exact ⟨0, by omega, rfl, by rw [e]; exact HM0.out, HB0.out⟩
          case round =>
            obtain ⟨j, hj, rfl, hML, hbel⟩ := hrel
            have LM := Lib.hid hML
            have LB := Lib.hid hbel
            clear hML hbel
            by_cases hlt : j < m
            · have p3 : decide ((j : Int) < (m : Int)) = true := decide_eq_true (by omega)
              obtain ⟨b, off, rfl, hcs⟩ := HIT.out _ LB.out (by omega)
              have c1 := (hcs j hlt).1
              clear hcs
              have KN := Lib.hid (show upd (firstN nx j) j (nxZ seed n (ids j)) = firstN nx (j + 1) by have := firstN_next nx j; rw [HNXE.out] at this ⊢; exact this)
              generalize ids j = x at *
              obtain ⟨W1, hW1⟩ : ∃ W1, W1 = wr.alloc (.cells #[.int .u64 x, .int .u64 1] 24) := ⟨_, rfl⟩
              have hrow1 := row_two wr (.int .u64 x) (.int .u64 1) 24
              rw [← hW1] at hrow1
              have M1 := Lib.hid (show MemL W1 w.heap.size ga (ga + 1) n m ⟨fun _ => -1, firstN nx j, fun _ => 0, n⟩ by rw [hW1]; exact LM.out.alloc _)
              have B1 := Lib.hid (show Below w.heap.size w W1 by rw [hW1]; exact LB.out.alloc LB.out.size _)
              have H1 := Lib.hid (mixD.refof_any seed (some ⟨wr.heap.size, 0, none⟩) 2 2 [x, 1] W1 _ rfl (by omega) hrow1)
              rw [hW1] at H1
              have HB1' := Lib.hid (show ∀ W, Calls Try.prog 22 #[.int .u64 (mixD.ofZ seed [x, 1]), .int .i64 n] W fun e w' => e = .returned (.int .i64 (nxZ seed n x)) ∧ W = w' from fun W => by
                have := mixB.refbelow_any (mixD.ofZ seed [x, 1]) n (ofZ_in _ _).1 (ofZ_in _ _).2 (by omega) (by omega) W
                rw [(HNX.out x).2] at this
                exact this)
              have nb := (HNX.out x).1
              generalize mixD.ofZ seed [x, 1] = o1 at *
              generalize nxZ seed n x = xn at *
              go_wp2_with fail
              refine H1.out.mono ?_
              rintro e w' ⟨rfl, rfl⟩
              rw [← hW1]
              clear hW1 hrow1 c1 H1
              obtain ⟨k0, _, _, kf, _, _⟩ := M1.out.cells j hlt
              have kf0 := kf j
              clear kf
              have HFM := Lib.hid (show MemL (W1.setCell ⟨ga, j, none⟩ (.int .i64 xn)) w.heap.size ga (ga + 1) n m ⟨fun _ => -1, firstN nx (j + 1), fun _ => 0, n⟩ by
                rw [← KN.out]
                exact M1.out.setA j hlt xn)
              have HFB := Lib.hid (show Below w.heap.size w (W1.setCell ⟨ga, j, none⟩ (.int .i64 xn)) from B1.out.setCell (p := ⟨ga, j, none⟩) hgs _)
              go_wp2_with (go_at_call 22; (with_reducible refine (HB1'.out _).mono ?_); rintro e w' ⟨rfl, rfl⟩)
              go_roundw
              case rel => exact ⟨j + 1, by omega, by go_num, HFM.out, HFB.out⟩
              case measure => simp [intOf]; omega
            · obtain rfl : m = j := by omega
              have p3 : decide ((m : Int) < (m : Int)) = false := decide_eq_false (by omega)
              have KE := Lib.hid (show MemL wr w.heap.size ga (ga + 1) n m (startS seed n ids) by
                obtain ⟨c2, h3, h4⟩ := LM.out.a
                refine ⟨LM.out.p, ⟨c2, h3, h4.1, fun i hi => ?_⟩, LM.out.d, LM.out.ne⟩
                have := h4.2 i hi
                dsimp only at this
                unfold firstN at this
                rw [if_pos hi, HNXE.out] at this
                exact this)
              by_cases h0 : 0 < mo
              · have q0 : decide (0 < mo) = true := decide_eq_true h0
                have hI0 : ItemsR n m sk ws mo := by rw [HSKE.out, HMO.out]; exact HIO.out (by rw [← HMO.out]; exact h0)
                have hO0 : OkR n m mo (startS seed n ids) := by rw [HMO.out]; exact HSO.out (by rw [← HMO.out]; exact h0)
                have HI := Lib.hid hI0
                have HOK := Lib.hid (fun k => rnd_ok hI0 hO0 k)
                have HFIN := Lib.hid (show ∀ k, (rnd n m sk ws mo (startS seed n ids) k).free = 0 → rnd n m sk ws mo (startS seed n ids) k = endS seed n m ids ws from fun k hk => by
                  rw [fin_of hI0 hO0 (Nat.le_refl n) k hk]
                  unfold endS
                  rw [if_pos (by rw [← HMO.out]; exact h0), ← HMO.out, HSKE.out])
                clear hI0 hO0
                go_wp2_with fail
                go_loopw [13, 15, 16] (fun le _ _ wr => ∃ (k f : Nat), le = .int .i64 f ∧ Hid (f = (rnd n m sk ws mo (startS seed n ids) k).free) ∧ f ≤ n ∧ MemL wr w.heap.size ga (ga + 1) n m (rnd n m sk ws mo (startS seed n ids) k) ∧ Below w.heap.size w wr) (fun le _ _ _ => (intOf le).toNat)
                case atStart => exact ⟨0, n, rfl, rfl, Nat.le_refl _, KE.out, LB.out⟩
                case round =>
                  obtain ⟨k, f, rfl, hf, fn, hML, hbel⟩ := hrel
                  have NB := Lib.hid hbel
                  by_cases hf0 : 0 < f
                  · have r0 : decide (0 < (f : Int)) = true := decide_eq_true (by omega)
                    have r1 : decide (0 < f) = true := decide_eq_true hf0
                    have KM := Lib.hid hML
                    have KO2 := Lib.hid (HOK.out k)
                    have KN2 := Lib.hid (show rnd n m sk ws mo (startS seed n ids) (k + 1) = runs n sk ws mo (rnd n m sk ws mo (startS seed n ids) k) m from rfl)
                    obtain ⟨S, hS⟩ : ∃ S, S = rnd n m sk ws mo (startS seed n ids) k := ⟨_, rfl⟩
                    rw [← hS] at KM KO2 KN2 hf
                    have KF := Lib.hid hf.out
                    clear hML hbel hS hf
                    go_wp2_with fail
                    go_loopw [15, 13, 16] (fun i le _ wx => ∃ (j q : Nat), j ≤ m ∧ i = .int .i64 j ∧ le = .int .i64 q ∧ Hid (q = (runs n sk ws mo S j).free) ∧ q ≤ f ∧ MemL wx w.heap.size ga (ga + 1) n m (runs n sk ws mo S j) ∧ Below w.heap.size w wx) (fun i _ _ _ => m - (intOf i).toNat)
                    case atStart => exact ⟨0, f, by omega, rfl, rfl, KF.out, Nat.le_refl _, KM.out, NB.out⟩
                    case round =>
                      obtain ⟨j, q, hj, rfl, rfl, hq, qf, hML, hbel⟩ := hrel
                      have PM := Lib.hid hML
                      have PB := Lib.hid hbel
                      have PQ := Lib.hid hq.out
                      clear hML hbel hq
                      by_cases hgo : j < m ∧ 0 < q
                      · obtain ⟨hlt, hq0⟩ := hgo
                        have p4 : decide ((j : Int) < (m : Int)) = true := decide_eq_true (by omega)
                        have p5 : decide (0 < (q : Int)) = true := decide_eq_true (by omega)
                        have p6 : decide (0 < q) = true := decide_eq_true hq0
                        obtain ⟨b, off, rfl, hcs⟩ := HIT.out _ PB.out (by omega)
                        have LO := Lib.hid (runs_ok HI.out KO2.out j hj)
                        have LN := Lib.hid (runs_next (size := n) (sk := sk) (ws := ws) (most := mo) (s := S) j (by have := PQ.out; omega))
                        obtain ⟨s1, hs1⟩ : ∃ s1, s1 = runs n sk ws mo S j := ⟨_, rfl⟩
                        rw [← hs1] at PM LO LN PQ
                        clear hs1
                        have HCS := Lib.hid (show ∀ W, Below w.heap.size w W → ItemsAt W b off m ids ws from fun W hb => by
                          obtain ⟨b2, off2, e2, h2⟩ := HIT.out W hb (by omega)
                          injection e2 with e2
                          injection e2 with e3 e4
                          subst e3 e4
                          exact h2)
                        obtain ⟨_, c3, _, _, f3, _⟩ := PM.out.cells j hlt
                        have f32 := f3 j
                        have cw := (hcs j hlt).2
                        have hd := LO.out.dv j hlt
                        have w0 := HI.out.w0 j hlt
                        have w1 := HI.out.w1 j hlt
                        clear f3 hcs
                        generalize hdu : s1.due j = d at *
                        generalize hwv : ws j = v at *
                        have HDU := Lib.hid hdu
                        have HWV := Lib.hid hwv
                        clear hdu hwv
                        have e1 : IntKind.i64.wrap (d + v) = d + v := IntWalk.i64_in _ (by omega)
                        by_cases hdv : d + v < mo
                        · have q2 : decide (d + v < mo) = true := decide_eq_true hdv
                          have HX := Lib.hid (show MemL (wr.setCell ⟨ga + 1, j, none⟩ (.int .i64 (d + v))).drew w.heap.size ga (ga + 1) n m (runs n sk ws mo S (j + 1)) ∧ Hid (q = (runs n sk ws mo S (j + 1)).free) by
                            rw [LN.out, step_few (by rw [HDU.out, HWV.out]; exact hdv), HDU.out, HWV.out]
                            exact ⟨(PM.out.setD j hlt (d + v)).drew, PQ.out⟩)
                          have HBX := Lib.hid (show Below w.heap.size w (wr.setCell ⟨ga + 1, j, none⟩ (.int .i64 (d + v))).drew from (PB.out.setCell (p := ⟨ga + 1, j, none⟩) (by show w.heap.size ≤ ga + 1; omega) _).drew)
                          go_wp2_with fail
                          go_region
                          go_wp2_with fail
                          refine ⟨⟨j + 1, q, by omega, by go_num, rfl, HX.out.2, qf, HX.out.1, HBX.out⟩, ?_⟩
                          simp [intOf]
                          omega
                        · have q2 : decide (d + v < mo) = false := decide_eq_false hdv
                          have e2 : IntKind.i64.wrap (d + v - mo) = d + v - mo := IntWalk.i64_in _ (by omega)
                          obtain ⟨W2, hW2⟩ : ∃ W2, W2 = ((wr.setCell ⟨ga + 1, j, none⟩ (.int .i64 (d + v))).setCell ⟨ga + 1, j, none⟩ (.int .i64 (d + v - mo))).drew := ⟨_, rfl⟩
                          have M2 := Lib.hid (show MemL W2 w.heap.size ga (ga + 1) n m ⟨s1.P, s1.nx, upd s1.due j (d + v - mo), s1.free⟩ by
                            rw [hW2]
                            have := ((PM.out.setD j hlt (d + v)).setD j hlt (d + v - mo)).drew
                            dsimp only at this
                            rw [upd_upd] at this
                            exact this)
                          have B2 := Lib.hid (show Below w.heap.size w W2 by
                            rw [hW2]
                            exact ((PB.out.setCell (p := ⟨ga + 1, j, none⟩) (by show w.heap.size ≤ ga + 1; omega) _).setCell (p := ⟨ga + 1, j, none⟩) (by show w.heap.size ≤ ga + 1; omega) _).drew)
                          have LS := Lib.hid (show runs n sk ws mo S (j + 1) = takeS n (sk j) ⟨s1.P, s1.nx, upd s1.due j (d + v - mo), s1.free⟩ j by
                            rw [LN.out, step_many (by rw [HDU.out, HWV.out]; exact hdv), HDU.out, HWV.out])
                          have HFR := Lib.hid (free_of HI.out.pr (HI.out.s0 j hlt) (HI.out.s1 j hlt) _ (LO.out.nv j hlt) (by have h1 := LO.out.fv; have h2 := PQ.out; show 0 < cfree s1.P n; omega))
                          have HV := Lib.hid (show ∀ q, q < n → s1.P q < 0 ∨ 0 ≤ s1.P q from fun q hq => by omega)
                          go_wp2_with fail
                          go_region
                          go_upto_region 26 with fail
                          rw [← hW2]
                          clear hW2 PM PB c3 f32 cw hd w0 w1 e1 q2 hdv e2
                          have cid := (HCS.out _ B2.out j hlt).1
                          have hskj := Lib.hid (show sk j = skZ seed n (ids j) by rw [HSKE.out])
                          generalize hD : upd s1.due j (d + v - mo) = D at *
                          generalize ids j = x at *
                          obtain ⟨W3, hW3⟩ : ∃ W3, W3 = W2.alloc (.cells #[.int .u64 x, .int .u64 2] 24) := ⟨_, rfl⟩
                          have hrow3 := row_two W2 (.int .u64 x) (.int .u64 2) 24
                          rw [← hW3] at hrow3
                          have M3 := Lib.hid (show MemL W3 w.heap.size ga (ga + 1) n m ⟨s1.P, s1.nx, D, s1.free⟩ by rw [hW3]; exact M2.out.alloc _)
                          have B3 := Lib.hid (show Below w.heap.size w W3 by rw [hW3]; exact B2.out.alloc B2.out.size _)
                          have H3 := Lib.hid (mixD.refof_any seed (some ⟨W2.heap.size, 0, none⟩) 2 2 [x, 2] W3 _ rfl (by omega) hrow3)
                          rw [hW3] at H3
                          have HB3' := Lib.hid (show ∀ W, Calls Try.prog 22 #[.int .u64 (mixD.ofZ seed [x, 2]), .int .i64 ((n : Int) - 1)] W fun e w' => e = .returned (.int .i64 ((sk j : Nat) - 1)) ∧ W = w' from fun W => by
                            have := mixB.refbelow_any (mixD.ofZ seed [x, 2]) ((n : Int) - 1) (ofZ_in _ _).1 (ofZ_in _ _).2 (by omega) (by omega) W
                            have e := (HSK.out x).2.2
                            rw [← hskj.out] at e
                            rw [show mixB.below (mixD.ofZ seed [x, 2]) ((n : Int) - 1) = (sk j : Nat) - 1 by omega] at this
                            exact this)
                          have sb1 := HI.out.s0 j hlt
                          have sb2 := HI.out.s1 j hlt
                          generalize mixD.ofZ seed [x, 2] = o2 at *
                          obtain ⟨xk, hxk⟩ : ∃ xk, xk = sk j := ⟨_, rfl⟩
                          rw [← hxk] at HB3' sb1 sb2 HFR LS
                          clear hskj hxk
                          have e5 : IntKind.i64.wrap ((n : Int) - 1) = (n : Int) - 1 := IntWalk.i64_in _ (by omega)
                          have e6 : IntKind.i64.wrap (1 + ((xk : Int) - 1)) = (xk : Int) := by rw [show 1 + ((xk : Int) - 1) = (xk : Int) by omega]; exact IntWalk.i64_in _ (by omega)
                          go_wp2_with fail
                          refine H3.out.mono ?_
                          rintro e w' ⟨rfl, rfl⟩
                          rw [← hW3]
                          clear hW3 hrow3 H3 cid M2 B2
                          go_wp2_with (go_at_call 22; (with_reducible refine (HB3'.out _).mono ?_); rintro e w' ⟨rfl, rfl⟩)
                          obtain ⟨P0, hP0⟩ : ∃ p, p = srch s1.P xk n n (s1.nx j) := ⟨_, rfl⟩
                          have HP0 := Lib.hid hP0
                          have HT := Lib.hid (show runs n sk ws mo S (j + 1) = ⟨upd s1.P P0 (j : Int), upd s1.nx j P0, D, s1.free - 1⟩ by rw [LS.out, hP0]; rfl)
                          clear hP0
                          go_loopg [] n (fun f wz => ∃ p : Nat, FreeP s1.P xk n f p ∧ srch s1.P xk n f p = P0 ∧ MemL wz w.heap.size ga (ga + 1) n m ⟨s1.P, upd s1.nx j p, D, s1.free⟩ ∧ Below w.heap.size w wz)
                          case atStart => exact ⟨s1.nx j, HFR.out, HP0.out.symm, by rw [upd_same]; exact M3.out, B3.out⟩
                          case round =>
                            obtain ⟨p, hFr, hsr, hML, hbel⟩ := hrel
                            have ps := hFr.1
                            have hcs := hML.cells j hlt
                            dsimp only at hcs
                            rw [upd_here] at hcs
                            obtain ⟨d1, _, f1, f2, _, dP⟩ := hcs
                            have f1p := f1 p
                            have f2j := f2 j
                            have dp := dP p ps
                            have QF := Lib.hid hFr
                            have QS := Lib.hid hsr
                            have QM := Lib.hid hML
                            have QB := Lib.hid hbel
                            clear hFr hsr hML hbel f1 f2 dP
                            by_cases hp : s1.P p < 0
                            · have r3 : decide (0 ≤ s1.P p) = false := decide_eq_false (by omega)
                              have e0 : p = P0 := by rw [← QS.out, srch_stop QF.out hp]
                              have HX := Lib.hid (show MemL (wr.setCell ⟨w.heap.size, p, none⟩ (.int .i64 j)) w.heap.size ga (ga + 1) n m (runs n sk ws mo S (j + 1)) by
                                rw [HT.out]
                                have := QM.out.setP p ps (j : Int)
                                rw [e0] at this ⊢
                                exact ⟨this.p, this.a, this.d, this.ne⟩)
                              have HBX := Lib.hid (show Below w.heap.size w (wr.setCell ⟨w.heap.size, p, none⟩ (.int .i64 j)) from QB.out.setCell (p := ⟨w.heap.size, p, none⟩) (Nat.le_refl _) _)
                              have HFQ := Lib.hid (show q - 1 = (runs n sk ws mo S (j + 1)).free by rw [HT.out, PQ.out])
                              have e7 : IntKind.i64.wrap ((q : Int) - 1) = ((q - 1 : Nat) : Int) := by rw [show (q : Int) - 1 = ((q - 1 : Nat) : Int) by omega]; exact IntWalk.i64_in _ (by omega)
                              clear e0 hp
                              generalize s1.P p = pv at *
                              go_wp2_with fail
                              first
                                | (refine ⟨⟨j + 1, q - 1, by omega, by go_num, rfl, HFQ.out, by omega, HX.out, HBX.out⟩, ?_⟩; simp [intOf]; omega)
                                | (go_roundw
                                   case rel => exact ⟨j + 1, q - 1, by omega, by go_num, rfl, HFQ.out, by omega, HX.out, HBX.out⟩
                                   case measure => simp [intOf]; omega)
                            · have r3 : decide (0 ≤ s1.P p) = true := decide_eq_true (by omega)
                              obtain ⟨f', rfl⟩ : ∃ f', gk = f' + 1 := ⟨gk - 1, by obtain ⟨_, k, hk, _⟩ := QF.out; omega⟩
                              have e8 : IntKind.i64.wrap ((p : Int) + (xk : Nat)) = (p : Int) + (xk : Nat) := IntWalk.i64_in _ (by omega)
                              have HN := Lib.hid (free_step QF.out hp)
                              have HS := Lib.hid ((srch_go hp).symm.trans QS.out)
                              have em : ((p : Int) + (xk : Nat)) % (n : Int) = (((p + xk) % n : Nat) : Int) := by rw [Int.natCast_emod, Int.natCast_add]
                              generalize (p + xk) % n = r at *
                              have HX := Lib.hid (show MemL (wr.setCell ⟨ga, j, none⟩ (.int .i64 r)) w.heap.size ga (ga + 1) n m ⟨s1.P, upd s1.nx j r, D, s1.free⟩ by
                                have := QM.out.setA j hlt r
                                dsimp only at this
                                rw [upd_upd] at this
                                exact this)
                              have HBX := Lib.hid (show Below w.heap.size w (wr.setCell ⟨ga, j, none⟩ (.int .i64 r)) from QB.out.setCell (p := ⟨ga, j, none⟩) hgs _)
                              have s0 : 0 < n := by omega
                              clear hp
                              generalize s1.P p = pv at *
                              go_wp2_with fail
                              go_roundg f'
                              case measure => omega
                              case rel => exact ⟨r, HN.out, HS.out, HX.out, HBX.out⟩
                      · have HX := Lib.hid (show ∃ (k f : Nat), Value.int .i64 (q : Int) = .int .i64 f ∧ Hid (f = (rnd n m sk ws mo (startS seed n ids) k).free) ∧ f ≤ n ∧ MemL wr w.heap.size ga (ga + 1) n m (rnd n m sk ws mo (startS seed n ids) k) ∧ Below w.heap.size w wr by
                          have e : runs n sk ws mo S m = runs n sk ws mo S j := by
                            by_cases e1 : j < m
                            · obtain ⟨d, hd⟩ := Nat.exists_eq_add_of_le hj
                              have e2 := runs_stop (size := n) (sk := sk) (ws := ws) (most := mo) (s := S) j d (by have := PQ.out; omega)
                              rw [← hd] at e2
                              exact e2
                            · rw [show j = m by omega]
                          rw [← KN2.out] at e
                          exact ⟨k + 1, q, rfl, by rw [e]; exact PQ.out, by omega, by rw [e]; exact PM.out, PB.out⟩)
                        have hdec := Lib.hid (show q < f by
                          obtain ⟨i, hi, hw⟩ := HI.out.top
                          have h1 := (runs_free HI.out KO2.out (by have := KF.out; omega) m (Nat.le_refl _)).2 i hi hw
                          have h2 := PQ.out
                          have h3 := KF.out
                          by_cases e1 : j < m
                          · omega
                          · rw [show j = m by omega] at h2
                            omega)
                        by_cases e1 : j < m
                        · have p4 : decide ((j : Int) < (m : Int)) = true := decide_eq_true (by omega)
                          have p5 : decide (0 < (q : Int)) = false := decide_eq_false (by omega)
                          have p6 : decide (0 < q) = false := decide_eq_false (by omega)
                          clear hgo
                          go_wp2_with fail
                          go_roundw
                          case rel => exact HX.out
                          case measure => have := hdec.out; simp [intOf]; omega
                        · have p4 : decide ((j : Int) < (m : Int)) = false := decide_eq_false (by omega)
                          have p6 : decide (j < m) = false := decide_eq_false (by omega)
                          clear hgo
                          go_wp2_with fail
                          go_roundw
                          case rel => exact HX.out
                          case measure => have := hdec.out; simp [intOf]; omega
                  · have r0 : decide (0 < (f : Int)) = false := decide_eq_false (by omega)
                    have r1 : decide (0 < f) = false := decide_eq_false (by omega)
                    have e := HFIN.out k (by have := hf.out; omega)
                    rw [e] at hML
                    have PM := Lib.hid hML
                    clear hML hbel hf e hf0
                    go_wp2_with fail
                    go_ret
                    obtain ⟨cs, h1, h2⟩ := PM.out.p
                    exact ⟨_, cs, rfl, h1, h2, NB.out⟩
              · have q0 : decide (0 < mo) = false := decide_eq_false h0
                have HE := Lib.hid (show endS seed n m ids ws = startS seed n ids by unfold endS; rw [if_neg (by rw [← HMO.out]; exact h0)])
                have r0 : decide (0 < (n : Int)) = true := decide_eq_true (by omega)
                have hstart : ∃ cs, Blk wr w.heap.size 3 cs ∧ AtA n cs (endS seed n m ids ws).P := by rw [HE.out]; exact KE.out.p
                have HST := Lib.hid hstart
                clear hstart
                go_wp2_with fail
                go_loop [13, 15, 16] (fun le _ _ => le = .int .i64 n) (fun _ _ _ => 0)
                case atStart => rfl
                case round =>
                  subst hrel
                  go_wp2_with fail
                  go_ret
                  obtain ⟨cs, h1, h2⟩ := HST.out
                  exact ⟨_, cs, rfl, h1, h2, LB.out⟩
end Go.Proofs.Ytjlochieddhmpaa.ringK
