/- 12 texts in one. -/
import Derived.Lib.SliceRun
import Derived.Lib.AppendZerosOnto
import Derived.Test.YtoaboklckkcjcaaGreatPk01
import Derived.Test.YtoaboklckkcjcaaGreatPk10
import Derived.Test.YtoaboklckkcjcaaGreatPk13
/- Layer 24: the function Of. -/
namespace Go.Proofs.YtoaboklckkcjcaaGreat.loadD
open Go.ChangeShapes Go.WideShapes Go.ChangeAt Go.RowKit
open Go.Proofs.YtoaboklckkcjcaaGreat.base Go.Proofs.YtoaboklckkcjcaaGreat.loadA Go.Proofs.YtoaboklckkcjcaaGreat.loadB Go.Proofs.YtoaboklckkcjcaaGreat.loadC
set_option linter.unusedVariables false

theorem bcell {W w1 : World} (hb : Below W.heap.size W w1) : (∀ b o, b < W.heap.size → w1.cell? ⟨b, o, none⟩ = W.cell? ⟨b, o, none⟩) ∧ (∀ b o, b < W.heap.size → w1.frozen? ⟨b, o, none⟩ = W.frozen? ⟨b, o, none⟩) :=
  ⟨fun b o h => hb.cell (p := ⟨b, o, none⟩) h, fun b o h => hb.frozen (p := ⟨b, o, none⟩) h⟩
def ofZ (xs : List Int) (n : Nat) (S : Int) (h : Nat → Int) (i : Nat) : Int := partZ S (h i) (leftZ S h i) + if firstP xs n = some i then leftZ S h n else 0
def OfPost (w : World) (n : Nat) (v : Nat → Int) (e : Ending) (w' : World) : Prop :=
  ∃ g, e = .returned (.slice (some ⟨g, 0, none⟩) n n) ∧ w.heap.size ≤ g ∧ Blk w' g 3 (tab n v) ∧ Below w.heap.size w w'

set_option maxHeartbeats 1000000 in
theorem of_yes (A B : Option Addr) (n c m d : Nat) (xs ys : List Int) (f : Int) (w : World) (hl : xs.length = n) (al : ys.length = m) (hr : Row w w.heap.size A (xs.map (.int .i64))) (ar : Row w w.heap.size B (ys.map (.int .i64)))
    (hp : rightP xs ys f) :
    Calls Tryz.prog 53 #[.slice A n c, .slice B m d, .int .i64 f] w (OfPost w n (ofZ xs n (capZ (sumF (heaZ xs ys f) n)) (heaZ xs ys f))) := by
  obtain ⟨i0, hi0, hz0, hz1, hz2⟩ := info_parts info_int
  obtain ⟨p1, p2, p3, p4, p5⟩ := id hp
  have hmk := fun (W : World) => run_make_one (P := Tryz.prog) 23 3 i0 _ Tryz.underlying23 hi0 hz0 hz1 rfl .i64 .i64 (n : Int) (by omega) (by rw [hz2]; omega) (by omega) W
  have hh : ∀ i, heaZ xs ys f i = healthZ (xs.getD i 0) (ys.getD i 0) f := fun _ => rfl
  have hin : ∀ i, 0 ≤ heaZ xs ys f i ∧ heaZ xs ys f i ≤ 10000 := fun i => healthZ_in _ _ _
  have HH := Lib.hid hl
  have HA := Lib.hid al
  have HR := Lib.hid hr
  have AR := Lib.hid ar
  have HP := Lib.hid hp
  have P5 := Lib.hid p5
  have HE := Lib.hid hh
  have HI := Lib.hid hin
  have n4 : n ≤ 4 := by omega
  obtain rfl : m = n := by omega
  have HRG := Lib.hid (fun w => right_yes A B m c m d xs ys f w hl al)
  clear hl al hr ar p1 p2 hp p5 hz0 hz1 hz2 hi0 hh hin
  generalize heaZ xs ys f = h at *
  go_enter Tryz.func53, Tryz.ntmps53
  go_wp2_with fail
  refine (HRG.out _ HR.out AR.out HP.out).mono ?_
  rintro e w1 ⟨rfl, hb⟩
  have HB := Lib.hid hb
  have hs1 := hb.size
  clear hb
  go_wp2_with fail
  have hmH := Lib.hid hmk
  clear hmk
  go_loopw [8, 25] (fun s i wr => ∃ k : Nat, k ≤ m ∧ i = .int .i64 k ∧ s = .int .i64 (sumF h k) ∧ Blk wr w1.heap.size 3 (tab m fun i => if i < k then h i else 0) ∧ Below w.heap.size w wr) (fun _ i _ => m - (intOf i).toNat)
  case atStart => exact ⟨0, by omega, rfl, rfl, by have := Blk.new w1 3 (zeros m (.int .i64 0)); simpa [tab_zero] using this, HB.out.alloc hs1 _⟩
  case round =>
    obtain ⟨k, hk, rfl, rfl, hblk, hbel⟩ := hrel
    have hsum := sumF_in h 10000 HI.out k
    have hsum2 : sumF h k ≤ 40000 := by have : (k : Int) * 10000 ≤ 4 * 10000 := by omega
                                        omega
    have hsum1 := hsum.1
    clear hsum
    by_cases hlt : k < m
    · have km : k < m := by omega
      have ok := P5.out k (by rw [HH.out]; exact hlt)
      have ok' : 0 ≤ xs.getD k 0 ∧ xs.getD k 0 ≤ ys.getD k 0 ∧ ys.getD k 0 ≤ 1048576 := by simpa [okp] using ok
      obtain ⟨b, off, rfl, _, hc⟩ := row_get (HR.out.below hbel) (by rw [HH.out]; omega)
      obtain ⟨b2, off2, rfl, _, hc2⟩ := row_get (AR.out.below hbel) (by rw [HA.out]; omega)
      have c1 := hc k (by rw [HH.out]; exact hlt)
      have c2 := hc2 k (by rw [HA.out]; omega)
      have c3 : wr.cell? ⟨w1.heap.size, k, none⟩ = some (.int .i64 0) := by rw [hblk.cell k, tab_get _ _ _ hlt]; simp
      have c4 : wr.frozen? ⟨w1.heap.size, k, none⟩ = false := hblk.frozen k
      have he := HE.out k
      have hin := HI.out k
      have hst : sumF h (k + 1) = sumF h k + h k := rfl
      have HST := Lib.hid hst
      have HBel := Lib.hid hbel
      have HBlk := Lib.hid hblk
      clear hc hc2 hbel ok hst hblk
      obtain ⟨o1, o2, o3⟩ := ok'
      have HC := Lib.hid (fun w => health_any (xs.getD k 0) (ys.getD k 0) f (by omega) (by omega) (by omega) w)
      rw [← he] at HC
      clear he
      generalize xs.getD k 0 = x at *
      generalize ys.getD k 0 = y at *
      generalize hv : h k = v at *
      have HV := Lib.hid hv
      clear hv
      generalize sumF h k = s at *
      go_wp2_with fail
      have l1 : b < wr.heap.size := World.block_lt_of_cell? wr _ c1
      have l2 : b2 < wr.heap.size := World.block_lt_of_cell? wr _ c2
      have l3 : w1.heap.size < wr.heap.size := World.block_lt_of_cell? wr _ c3
      have x1 : (0 : Int) ≤ (k : Int) := by omega
      have x2 : (k : Int) < (m : Int) := by omega
      go_region_with (first | (go_at_call 82; refine (HC.out _).mono ?_; rintro e w' ⟨rfl, hb⟩; have d3 : w'.cell? ⟨w1.heap.size, k, none⟩ = some (.int .i64 0) := (hb.cell (p := ⟨w1.heap.size, k, none⟩) l3).trans c3; have d4 : w'.frozen? ⟨w1.heap.size, k, none⟩ = false := (hb.frozen (p := ⟨w1.heap.size, k, none⟩) l3).trans c4; have HX := Lib.hid hb; clear hb))
      all_goals
        go_wp2_with fail
        go_roundw
        case rel =>
          refine ⟨k + 1, by omega, by go_num, by rw [HST.out], ?_, bel_set (bel_call (bel_drew HBel.out) HX.out) hs1 _⟩
          have hnew := ((HBlk.out.drew).below HX.out l3).set_ k (.int .i64 v)
          rw [tab_set] at hnew
          rw [tab_congr (g' := fun i => if i = k then v else if i < k then h i else 0) (fun i hi => by
            by_cases hik : i = k
            · subst hik; rw [if_pos (by omega), if_pos rfl]; exact HV.out
            · rw [if_neg hik]; by_cases h3 : i < k
              · rw [if_pos h3, if_pos (by omega)]
              · rw [if_neg h3, if_neg (by omega)])]
          exact hnew
        case measure => simp [intOf]; omega
    · obtain rfl : k = m := by omega
      have hS0 : 0 ≤ capZ (sumF h k) ∧ capZ (sumF h k) ≤ 10000 := by unfold capZ; omega
      have hcap : min (max (sumF h k) 0) 10000 = capZ (sumF h k) := rfl
      generalize capZ (sumF h k) = S at *
      generalize sumF h k = s at *
      have HCAP := Lib.hid hcap
      rw [tab_congr (g' := h) (fun i hi => by rw [if_pos hi])] at hblk
      have HBlk := Lib.hid hblk
      have HBel := Lib.hid hbel
      have hs2 := hbel.size
      have l3 : w1.heap.size < wr.heap.size := hblk.lt
      clear hcap hblk hbel
      obtain ⟨S0, S1⟩ := hS0
      go_wp2_with fail
      refine (heldI_any _ _ _ _).mono ?_
      rintro e w' ⟨rfl, rfl⟩
      rw [HCAP.out]
      have hm := hmH.out
      go_wp2_with fail
      clear hm
      obtain ⟨wa, rfl⟩ : ∃ wa, wa = wr := ⟨_, rfl⟩
      go_loopw [11, 55] (fun t i wq => ∃ j : Nat, j ≤ k ∧ i = .int .i64 j ∧ t = .int .i64 (leftZ S h j) ∧ Blk wq w1.heap.size 3 (tab k h) ∧ Blk wq wa.heap.size 3 (tab k fun i => if i < j then partZ S (h i) (leftZ S h i) else 0) ∧ Below w.heap.size w wq) (fun _ i _ => k - (intOf i).toNat)
      case atStart => exact ⟨0, by omega, rfl, rfl, HBlk.out.alloc _, by have := Blk.new wa 3 (zeros k (.int .i64 0)); simpa [tab_zero] using this, HBel.out.alloc hs2 _⟩
      case round =>
        obtain ⟨j, hj, rfl, rfl, hb1, hb2, hbel⟩ := hrel
        have hleft := left_in S h j
        by_cases hlt : j < k
        · have hin := HI.out j
          have hp0 := part_in S (h j) (leftZ S h j) hleft.1
          have c1 : wr.cell? ⟨w1.heap.size, j, none⟩ = some (.int .i64 (h j)) := by rw [hb1.cell j, tab_get _ _ _ hlt]
          have c2 : wr.cell? ⟨wa.heap.size, j, none⟩ = some (.int .i64 0) := by rw [hb2.cell j, tab_get _ _ _ hlt]; simp
          have c3 : wr.frozen? ⟨wa.heap.size, j, none⟩ = false := hb2.frozen j
          have HB1 := Lib.hid hb1
          have HB2 := Lib.hid hb2
          have HBel2 := Lib.hid hbel
          have hst : leftZ S h (j + 1) = leftZ S h j - partZ S (h j) (leftZ S h j) := rfl
          have HST := Lib.hid hst
          clear hb1 hb2 hbel hst
          rcases Int.lt_or_le 0 S with hS | hS
          · have hpart : min (max (h j * 10000 / S) 0) (leftZ S h j) = partZ S (h j) (leftZ S h j) := by simp [partZ, hS]
            have HPART := Lib.hid hpart
            clear hpart
            generalize hp : partZ S (h j) (leftZ S h j) = p at *
            have HPV := Lib.hid hp
            clear hp
            generalize hv : h j = v at *
            have HV := Lib.hid hv
            clear hv
            generalize hlf : leftZ S h j = left at *
            have HLF := Lib.hid hlf
            clear hlf
            go_wp2_with fail
            refine (heldI_any _ _ _ _).mono ?_
            rintro e w' ⟨rfl, rfl⟩
            rw [HPART.out]
            go_wp2_with fail
            go_roundw
            case rel =>
              refine ⟨j + 1, by omega, by go_num, by rw [HST.out], HB1.out.far (by simp; omega) _, ?_, bel_set HBel2.out (by simp; omega) _⟩
              have hnew := HB2.out.set_ j (.int .i64 p)
              rw [tab_set] at hnew
              rw [tab_congr (g' := fun i => if i = j then p else if i < j then partZ S (h i) (leftZ S h i) else 0) (fun i hi => by
                by_cases hij : i = j
                · subst hij; rw [if_pos (by omega), if_pos rfl, HV.out, HLF.out]; exact HPV.out
                · rw [if_neg hij]; by_cases h3 : i < j
                  · rw [if_pos h3, if_pos (by omega)]
                  · rw [if_neg h3, if_neg (by omega)])]
              exact hnew
            case measure => simp [intOf]; omega
          · have hpart : partZ S (h j) (leftZ S h j) = 0 := by simp only [partZ]; rw [if_neg (by omega)]
            rw [hpart] at HST
            have HPART := Lib.hid hpart
            clear hpart hp0
            generalize hv : h j = v at *
            have HV := Lib.hid hv
            clear hv
            generalize hlf : leftZ S h j = left at *
            have HLF := Lib.hid hlf
            clear hlf
            go_wp2_with fail
            go_roundw
            case rel =>
              refine ⟨j + 1, by omega, by go_num, by rw [HST.out]; first | rfl | go_num, HB1.out, ?_, HBel2.out⟩
              have hnew := HB2.out
              rw [tab_congr (g' := fun i => if i < j then partZ S (h i) (leftZ S h i) else 0) (fun i hi => by
                by_cases hij : i = j
                · subst hij; rw [if_pos (by omega), if_neg (by omega), HV.out, HLF.out]; exact HPART.out
                · by_cases h3 : i < j
                  · rw [if_pos h3, if_pos (by omega)]
                  · rw [if_neg h3, if_neg (by omega)])]
              exact hnew
            case measure => simp [intOf]; omega
        · obtain rfl : j = k := by omega
          rw [tab_congr (g' := fun i => partZ S (h i) (leftZ S h i)) (fun i hi => by rw [if_pos hi])] at hb2
          have hrow := (HR.out.below hbel).more hbel.size
          have HB2 := Lib.hid hb2
          have HBel2 := Lib.hid hbel
          have HROW := Lib.hid hrow
          have lg : wa.heap.size < wr.heap.size := hb2.lt
          cases hf : firstP xs j with
          | none =>
            have HF := Lib.hid hf
            clear hb1 hb2 hbel hrow hf
            generalize leftZ S h j = left at *
            go_wp2_with fail
            refine (index_any _ _ _ xs _ HH.out (by omega) HROW.out).mono ?_
            rintro e w' ⟨rfl, rfl⟩
            rw [HF.out, show placeZ none = -1 from rfl]
            go_wp2_with fail
            go_ret
            refine ⟨_, rfl, by omega, ?_, HBel2.out⟩
            rw [tab_congr (g' := fun i => partZ S (h i) (leftZ S h i)) (fun i hi => by rw [ofZ, HF.out]; simp)]
            exact HB2.out
          | some q =>
            have hq := (firstP_lt _ _ _ hf).1
            have hin := part_in S (h q) (leftZ S h q) (left_in S h q).1
            have hin2 := (left_in S h q).2
            have c1 : wr.cell? ⟨wa.heap.size, q, none⟩ = some (.int .i64 (partZ S (h q) (leftZ S h q))) := by rw [hb2.cell q, tab_get _ _ _ hq]
            have c3 : wr.frozen? ⟨wa.heap.size, q, none⟩ = false := hb2.frozen q
            have HF := Lib.hid hf
            have hin3 : partZ S (h q) (leftZ S h q) ≤ 10000 := by omega
            have hin4 := hin.1
            clear hb1 hb2 hbel hrow hf hin hin2
            generalize hp : partZ S (h q) (leftZ S h q) = p at *
            have HPV := Lib.hid hp
            clear hp
            generalize hlf : leftZ S h j = left at *
            have HLF := Lib.hid hlf
            clear hlf
            go_wp2_with fail
            refine (index_any _ _ _ xs _ HH.out (by omega) HROW.out).mono ?_
            rintro e w' ⟨rfl, rfl⟩
            rw [HF.out, show placeZ (some q) = (q : Int) from rfl]
            go_wp2_with fail
            go_ret
            refine ⟨_, rfl, by omega, ?_, bel_set HBel2.out (by simp; omega) _⟩
            have hnew := HB2.out.set_ q (.int .i64 (p + left))
            rw [tab_set] at hnew
            rw [tab_congr (g' := fun i => if i = q then p + left else partZ S (h i) (leftZ S h i)) (fun i hi => by
              rw [ofZ, HF.out]
              by_cases hiq : i = q
              · subst hiq; rw [if_pos rfl, if_pos rfl, HPV.out, HLF.out]
              · rw [if_neg (fun e => hiq (Option.some.inj e).symm), if_neg hiq]; simp)]
            exact hnew
end Go.Proofs.YtoaboklckkcjcaaGreat.loadD
/- Layer 24: the example; the law on health. -/
namespace Go.Proofs.YtoaboklckkcjcaaGreat.loadE
open Go.ChangeShapes Go.WideShapes Go.ChangeAt Go.RowKit
open Go.Proofs.YtoaboklckkcjcaaGreat.base Go.Proofs.YtoaboklckkcjcaaGreat.loadA Go.Proofs.YtoaboklckkcjcaaGreat.loadB Go.Proofs.YtoaboklckkcjcaaGreat.loadC Go.Proofs.YtoaboklckkcjcaaGreat.loadD
set_option linter.unusedVariables false

end Go.Proofs.YtoaboklckkcjcaaGreat.loadE
/- Layer 24: levels drawn. -/
namespace Go.Proofs.YtoaboklckkcjcaaGreat.loadF
open Go.ChangeShapes Go.WideShapes Go.ChangeAt Go.RowKit
open Go.Proofs.YtoaboklckkcjcaaGreat.base Go.Proofs.YtoaboklckkcjcaaGreat.loadB Go.Proofs.YtoaboklckkcjcaaGreat.loadC
set_option linter.unusedVariables false

def pre (l : List Int) : Nat → Int
  | 0 => 0
  | k + 1 => pre l k + max (l.getD k 0) 0
theorem pre_step (l : List Int) (k : Nat) : pre l k ≤ pre l (k + 1) := by rw [pre]; omega
theorem pre_le (l : List Int) (k m : Nat) : pre l k ≤ pre l (k + m) := by
  induction m with
  | zero => exact Int.le_refl _
  | succ m ih => have := pre_step l (k + m); rw [← Nat.add_assoc]; omega
theorem pre_mono (l : List Int) {k m : Nat} (h : k ≤ m) : pre l k ≤ pre l m := by
  have := pre_le l k (m - k)
  rwa [Nat.add_sub_cancel' h] at this
theorem pre_in (l : List Int) (k : Nat) (h : ∀ i, i < k → l.getD i 0 ≤ 1048576) : 0 ≤ pre l k ∧ pre l k ≤ k * 1048576 := by
  induction k with
  | zero => simp [pre]
  | succ k ih =>
    have h1 := ih (fun i hi => h i (by omega))
    have h2 := h k (by omega)
    rw [pre]
    omega
def lev (l : List Int) (d : Int) : Nat → Int
  | 0 => -1
  | k + 1 => if pre l k ≤ d ∧ d < pre l (k + 1) then (k : Int) else lev l d k
theorem lev_far (l : List Int) (d : Int) (k m : Nat) (h : d < pre l k) : lev l d (k + m) = lev l d k := by
  induction m with
  | zero => rfl
  | succ m ih =>
    have := pre_le l k m
    rw [← Nat.add_assoc, lev, if_neg (by omega), ih]
theorem lev_none (l : List Int) (d : Int) (k : Nat) (h : pre l k ≤ d) : lev l d k = -1 := by
  induction k with
  | zero => rfl
  | succ k ih =>
    have := pre_step l k
    rw [lev, if_neg (by omega), ih (by omega)]
theorem lev_low (l : List Int) (d : Int) (k : Nat) (h : d < 0) : lev l d k = -1 := by
  have := lev_far l d 0 k h
  rw [Nat.zero_add] at this
  exact this
theorem lev_at (l : List Int) (d : Int) (k n : Nat) (hk : k < n) (h1 : pre l k ≤ d) (h2 : d < pre l (k + 1)) : lev l d n = k := by
  have := lev_far l d (k + 1) (n - (k + 1)) h2
  rw [Nat.add_sub_cancel' (by omega : k + 1 ≤ n)] at this
  rw [this, lev, if_pos ⟨h1, h2⟩]
theorem lev_some (l : List Int) (d : Int) (n : Nat) (h0 : 0 ≤ d) (h : d < pre l n) : ∃ k, k < n ∧ pre l k ≤ d ∧ d < pre l (k + 1) := by
  induction n with
  | zero => simp [pre] at h; omega
  | succ n ih =>
    rcases Int.lt_or_le d (pre l n) with hd | hd
    · obtain ⟨k, hk, h1, h2⟩ := ih hd
      exact ⟨k, by omega, h1, h2⟩
    · exact ⟨n, by omega, hd, h⟩
def cnt (l : List Int) (j : Int) (i : Nat) : Int := max 0 (min j (pre l (i + 1)) - pre l i)
theorem cnt_zero (l : List Int) (i : Nat) : cnt l 0 i = 0 := by
  have := pre_mono l (Nat.zero_le i)
  rw [show pre l 0 = 0 from rfl] at this
  unfold cnt; omega
theorem cnt_step (l : List Int) (j : Int) (k : Nat) (h1 : pre l k ≤ j) (h2 : j < pre l (k + 1)) (i : Nat) : cnt l (j + 1) i = if i = k then cnt l j k + 1 else cnt l j i := by
  unfold cnt
  split
  · rename_i h; subst h; omega
  · rename_i h
    rcases Nat.lt_or_ge i k with hik | hik
    · have := pre_mono l (show i + 1 ≤ k by omega)
      omega
    · have := pre_mono l (show k + 1 ≤ i by omega)
      omega
theorem cnt_full (l : List Int) (n i : Nat) (h : i < n) : cnt l (pre l n) i = max (l.getD i 0) 0 := by
  have := pre_mono l (show i + 1 ≤ n by omega)
  have e : pre l (i + 1) = pre l i + max (l.getD i 0) 0 := rfl
  unfold cnt; omega

theorem level_any (A : Option Addr) (n c : Nat) (l : List Int) (d : Int) (w : World) (hl : l.length = n) (hn : n ≤ 4) (hb : ∀ i, i < n → -9223372036854775808 ≤ l.getD i 0 ∧ l.getD i 0 ≤ 1048576) (hr : Row w w.heap.size A (l.map (.int .i64))) (d0 : -9223372036854775808 ≤ d) (d1 : d < 9223372036854775808) :
    Calls Tryz.prog 57 #[.slice A n c, .int .i64 d] w fun e w' => e = .returned (.int .i64 (lev l d n)) ∧ w = w' := by
  by_cases hd : d < 0
  · have hv := lev_low l d n hd
    rw [hv]
    clear hv hb hr
    go_enter Tryz.func57, Tryz.ntmps57
    go_wp2
    go_ret
    exact ⟨rfl, rfl⟩
  have HH := Lib.hid hl
  have HR := Lib.hid hr
  have HBD := Lib.hid hb
  clear hl hr hb
  go_enter Tryz.func57, Tryz.ntmps57
  go_wp2_with fail
  go_loop [1, 11] (fun x i => ∃ k : Nat, k ≤ n ∧ i = .int .i64 k ∧ x = .int .i64 (d - pre l k) ∧ pre l k ≤ d) (fun _ i => n - (intOf i).toNat)
  case atStart => exact ⟨0, by omega, rfl, by rw [pre, Int.sub_zero], by rw [pre]; omega⟩
  case round =>
    obtain ⟨k, hk, rfl, rfl, hle⟩ := hrel
    by_cases hlt : k < n
    · obtain ⟨b, off, rfl, _, hc⟩ := row_get HR.out (by rw [HH.out]; omega)
      have c1 := hc k (by rw [HH.out]; exact hlt)
      have hbk := HBD.out k hlt
      have hpin := pre_in l k (fun i hi => (HBD.out i (by omega)).2)
      have hst : pre l (k + 1) = pre l k + max (l.getD k 0) 0 := rfl
      have HST := Lib.hid hst
      have HLE := Lib.hid hle
      have hpin0 := hpin.1
      clear hc hst hpin
      generalize hx : l.getD k 0 = x at *
      have HX := Lib.hid hx
      clear hx
      obtain ⟨b0, b1⟩ := hbk
      by_cases hgt : d - pre l k < max x 0
      · have hv := lev_at l d k n hlt hle (by rw [HST.out]; omega)
        have HV := Lib.hid hv
        have q : decide (d - pre l k < max x 0) = true := by simpa using hgt
        clear hv
        generalize pre l k = p at *
        go_wp2_with fail
        go_ret
        exact ⟨by rw [HV.out]; rfl, rfl⟩
      · have q : decide (d - pre l k < max x 0) = false := by simpa using hgt
        have hm0 : 0 ≤ max x 0 := by omega
        have hm1 : max x 0 ≤ d - pre l k := by omega
        have hnext : d - pre l k - max x 0 = d - pre l (k + 1) := by rw [HST.out]; omega
        have hle2 : pre l (k + 1) ≤ d := by rw [HST.out]; omega
        have HN := Lib.hid hnext
        have HL2 := Lib.hid hle2
        clear hnext hle2 hgt
        generalize pre l k = p at *
        go_wp2_with fail
        go_round
        case rel => exact ⟨k + 1, by omega, by go_num, by rw [← HN.out], HL2.out⟩
        case measure => simp [intOf]; omega
    · obtain rfl : k = n := by omega
      have hv := lev_none l d k hle
      have HV := Lib.hid hv
      clear hv hle
      generalize pre l k = p at *
      go_wp2_with fail
      go_ret
      exact ⟨by rw [HV.out]; rfl, rfl⟩
end Go.Proofs.YtoaboklckkcjcaaGreat.loadF
/- Layer 24: the law on draws. -/
namespace Go.Proofs.YtoaboklckkcjcaaGreat.loadG
open Go.ChangeShapes Go.WideShapes Go.ChangeAt Go.RowKit
open Go.Proofs.YtoaboklckkcjcaaGreat.base Go.Proofs.YtoaboklckkcjcaaGreat.loadB Go.Proofs.YtoaboklckkcjcaaGreat.loadC Go.Proofs.YtoaboklckkcjcaaGreat.loadE Go.Proofs.YtoaboklckkcjcaaGreat.loadF
set_option linter.unusedVariables false

end Go.Proofs.YtoaboklckkcjcaaGreat.loadG
/- Appending a slice that reads as values to a row that a call made. -/
namespace Go.Proofs.YtoaboklckkcjcaaGreat.base
open Go.RowKit Go.WideShapes Go.ChangeShapes
set_option linter.unusedVariables false
theorem grown_refl (w : World) (row : Option Nat) : w.grownBy w row := ⟨rfl, rfl, rfl, Nat.le_refl _, fun _ _ _ => rfl⟩
theorem row_cells {w : World} {B : Nat} {x : Addr} {xs : List Value} (h : Row w B (some x) xs) : ∀ j u, xs[j]? = some u → w.cell? (x.add j) = some u := by
  intro j u hu
  rcases h with rfl | ⟨b, off, hx, _, hc⟩
  · simp at hu
  · injection hx with hx
    subst hx
    rw [Addr.add_lit]
    exact hc j u hu
theorem row_none {w : World} {B : Nat} {xs : List Value} (h : Row w B none xs) : xs = [] := by
  rcases h with rfl | ⟨b, off, hx, _⟩
  · rfl
  · cases hx
theorem wpList_append_row {P : Program} {w : World} {ops : Array Oper} {rest : List Oper} {o : Oper} {a : Act} {Q : Exit → Act → World → Prop} (hgd : o.guard = none) (s x : Operand) (t : TypeId)
    (ho : o.op = .call { callee := .builtin .append, args := #[s, x], argTypes := #[t, t] })
    (base : Nat) (e : TypeId) (i : TypeInfo) (z : Value) (bytes : Nat) (ht : P.underlying t = some (.slice e)) (hi : P.info? e = some i) (hz : i.zero = some z)
    (hsize : i.size = 1) (hby : i.bytes = bytes) (hzs : z.cells.size = 1)
    (v : Value) (n : Nat) (xs : List Value) (hs : a.eval s = v) (hown : w.ownsRow base e 1 v n xs)
    (A : Option Addr) (m c B : Nat) (news : List Value) (hx : a.eval x = .slice A m c) (hA : A = none → c = 0) (hl : news.length = m) (hr : Row w B A news) (h1 : ∀ u ∈ news, u.oneCell' = true)
    (h63 : n + m ≤ maxLen) (hbytes : (n + m) * bytes ≤ 140737488355328) (hbase : base ≤ w.heap.size)
    (h : ∀ v' w', w'.ownsRow base e 1 v' (n + m) (xs ++ news) → w.grownBy w' v.ownBlock → wpList P ops Q rest (a.put o.dst v') w') : wpList P ops Q (o :: rest) a w := by
  cases A with
  | some ad => exact wpList_append_own w hgd s x t ho base e i z 1 bytes ht hi hz hsize hby hzs (by omega) v n xs hs hown ad m c news hx (by omega) (row_cells hr) h1 h63 hbytes hbase fun v' w' h2 h3 _ => h v' w' h2 h3
  | none =>
    have hn := row_none hr
    subst hn
    have hm : m = 0 := by simpa using hl.symm
    subst hm
    have hc := hA rfl
    subst hc
    refine wpList_plain hgd fun K hK => ?_
    have hrun := run_append_owned_none (P := P) (w := w) base t o.type e i 1 ht hi v n xs hown
    unfold Oper.wp execOp
    simp only [ho, resolve, invoke, builtin, Sem.run_bind, Sem.run_pure, Result.andThen_ok, List.map_toArray, List.map_cons, List.map_nil, hs, hx, hrun]
    exact hK _ _ (h v w (by simpa using hown) (grown_refl w _))
end Go.Proofs.YtoaboklckkcjcaaGreat.base
/- Layer 24: lists turned. -/
namespace Go.Proofs.YtoaboklckkcjcaaGreat.loadH
open Go.ChangeShapes Go.WideShapes Go.ChangeAt Go.RowKit
open Go.Proofs.YtoaboklckkcjcaaGreat.base Go.Proofs.YtoaboklckkcjcaaGreat.loadC
set_option linter.unusedVariables false

def ClonePost (w : World) (n : Nat) (l : List Int) (e : Ending) (w' : World) : Prop :=
  ∃ v', e = .returned v' ∧ w'.ownsRow w.heap.size 3 1 v' n (l.map (.int .i64)) ∧ Below w.heap.size w w' ∧ w.heap.size ≤ w'.heap.size
set_option maxRecDepth 100000 in
theorem clone_any (A : Option Addr) (n c : Nat) (l : List Int) (w : World) (hl : l.length = n) (hn : n ≤ 1000) (hz : A = none → c = 0) (hr : Row w w.heap.size A (l.map (.int .i64))) :
    Calls Tryz.prog 71 #[.slice A n c] w (ClonePost w n l) := by
  cases A with
  | none =>
    have h0 := row_none hr
    have hl0 : l = [] := by simpa using h0
    subst hl0
    have hn0 : n = 0 := by simpa using hl.symm
    subst hn0
    have hc := hz rfl
    subst hc
    clear hr hz h0 hl
    have q22 : ∀ (w : World) (a : Option Addr) (n c n' c' : Nat), (binOp .eql 23 (.slice a n c) (.slice none n' c')).run Tryz.prog w = .ok (.bool a.isNone) w := fun w a n c n' c' => Lib.run_eql_slice_nil w _ _ a n c n' c' Tryz.underlying23
    go_enter Tryz.func71, Tryz.ntmps71
    go_wp2_with fail
    go_ret
    exact ⟨_, rfl, World.ownsRow_nil _ _ _ _, Below.refl _ _, Nat.le_refl _⟩
  | some ad =>
    obtain ⟨i0, hi0, hz0, hz1, hz2⟩ := info_parts info_int
    have HI0 := Lib.hid hi0
    have HZ0 := Lib.hid hz0
    have HZ1 := Lib.hid hz1
    have HZ2 := Lib.hid hz2
    have R1 := Lib.hid hr
    have L1 := Lib.hid hl
    have oneC : ∀ u ∈ l.map (Value.int .i64), u.oneCell' = true := by
      intro u hu
      rw [List.mem_map] at hu
      obtain ⟨x, _, rfl⟩ := hu
      rfl
    have ONE := Lib.hid oneC
    clear hi0 hz0 hz1 hz2 hr hl oneC hz
    have q22 : ∀ (w : World) (a : Option Addr) (n c n' c' : Nat), (binOp .eql 23 (.slice a n c) (.slice none n' c')).run Tryz.prog w = .ok (.bool a.isNone) w := fun w a n c n' c' => Lib.run_eql_slice_nil w _ _ a n c n' c' Tryz.underlying23
    go_enter Tryz.func71, Tryz.ntmps71
    go_wp2_with (at_builtin; refine wpList_append_row rfl (.tmp 5) (.tmp 6) _ rfl w.heap.size 3 i0 _ 8 Tryz.underlying23 HI0.out HZ0.out HZ1.out HZ2.out rfl (.slice (some ⟨w.heap.size, 0, none⟩) 0 0) 0 [] rfl (World.ownsRow_lit w #[] 0 (Nat.le_refl _) (by unfold maxLen; omega) rfl) (some ad) n c w.heap.size (l.map (.int .i64)) rfl (by intro h; cases h) (by simp; exact L1.out) (R1.out.below ((Below.refl _ _).alloc (Nat.le_refl _) _)) ONE.out (by unfold maxLen; omega) (by omega) (by simp) ?_; intro va wa owna ga; have HOa := Lib.hid owna; have HBa := Lib.hid (base.below_grown ((Below.refl _ _).alloc (Nat.le_refl _) _) (World.ownsRow_lit w #[] 0 (Nat.le_refl _) (by unfold maxLen; omega) rfl) (Nat.le_refl _) (by simp) ga); clear owna ga)
    go_ret
    refine ⟨_, rfl, ?_, HBa.out, HBa.out.size⟩
    have := HOa.out
    rwa [Nat.zero_add, List.nil_append] at this
def backZ (k f n : Int) : Int := if k < 0 ∨ n ≤ k ∨ f < 0 ∨ n ≤ f then k else if n - f ≤ k then k - (n - f) else k + f
theorem back_any (k f : Int) (n : Nat) (hn : n ≤ 1000000) (k0 : -9223372036854775808 ≤ k) (k1 : k < 9223372036854775808) (w : World) :
    Calls Tryz.prog 59 #[.int .i64 k, .int .i64 f, .int .i64 n] w fun e w' => e = .returned (.int .i64 (backZ k f n)) ∧ w = w' := by
  by_cases h1 : k < 0
  · rw [show backZ k f n = k by simp [backZ, h1]]
    go_enter Tryz.func59, Tryz.ntmps59
    go_wp2
    go_ret
    exact ⟨rfl, rfl⟩
  by_cases h2 : (n : Int) ≤ k
  · rw [show backZ k f n = k by simp [backZ, h2]]
    go_enter Tryz.func59, Tryz.ntmps59
    go_wp2
    go_ret
    exact ⟨rfl, rfl⟩
  by_cases h3 : f < 0
  · rw [show backZ k f n = k by simp [backZ, h3]]
    go_enter Tryz.func59, Tryz.ntmps59
    go_wp2
    go_ret
    exact ⟨rfl, rfl⟩
  by_cases h4 : (n : Int) ≤ f
  · rw [show backZ k f n = k by simp [backZ, h4]]
    go_enter Tryz.func59, Tryz.ntmps59
    go_wp2
    go_ret
    exact ⟨rfl, rfl⟩
  have e1 : IntKind.i64.wrap ((n : Int) - f) = (n : Int) - f := IntWalk.i64_in _ (by omega)
  by_cases h5 : (n : Int) - f ≤ k
  · rw [show backZ k f n = k - (n - f) by unfold backZ; rw [if_neg (by omega), if_pos h5]]
    have e2 : IntKind.i64.wrap (k - ((n : Int) - f)) = k - ((n : Int) - f) := IntWalk.i64_in _ (by omega)
    go_enter Tryz.func59, Tryz.ntmps59
    go_wp2
    go_ret
    exact ⟨rfl, rfl⟩
  · rw [show backZ k f n = k + f by unfold backZ; rw [if_neg (by omega), if_neg h5]]
    have e2 : IntKind.i64.wrap (k + f) = k + f := IntWalk.i64_in _ (by omega)
    go_enter Tryz.func59, Tryz.ntmps59
    go_wp2
    go_ret
    exact ⟨rfl, rfl⟩
theorem turn_same (A : Option Addr) (n c : Nat) (l : List Int) (f : Int) (w : World) (hl : l.length = n) (hn : n ≤ 1000) (hz : A = none → c = 0) (hr : Row w w.heap.size A (l.map (.int .i64))) (hf : f < 0 ∨ (n : Int) ≤ f) :
    Calls Tryz.prog 54 #[.slice A n c, .int .i64 f] w (ClonePost w n l) := by
  have HC := Lib.hid (clone_any A n c l w hl hn hz hr)
  clear hl hz hr
  rcases hf with hf | hf
  all_goals
    go_enter Tryz.func54, Tryz.ntmps54
    go_wp2_with fail
    refine HC.out.mono ?_
    rintro e w1 ⟨v1, rfl, hown, hbel, hsz⟩
    have HO := Lib.hid hown
    have HB := Lib.hid hbel
    clear hown hbel
    go_wp2_with fail
    go_ret
    exact ⟨_, rfl, HO.out, HB.out, hsz⟩
end Go.Proofs.YtoaboklckkcjcaaGreat.loadH
/- Layer 24: lists put together. -/
namespace Go.Proofs.YtoaboklckkcjcaaGreat.loadI
open Go.ChangeShapes Go.WideShapes Go.ChangeAt Go.RowKit
open Go.Proofs.YtoaboklckkcjcaaGreat.base Go.Proofs.YtoaboklckkcjcaaGreat.loadC Go.Proofs.YtoaboklckkcjcaaGreat.loadH
set_option linter.unusedVariables false

def GrowPost (w : World) (e : Ending) (w' : World) : Prop :=
  ∃ v', e = .returned v' ∧ w'.ownsRow w.heap.size 3 1 v' 0 [] ∧ Below w.heap.size w w' ∧ w.heap.size ≤ w'.heap.size
set_option maxRecDepth 100000 in
set_option maxHeartbeats 1000000 in
theorem grow_nil (n : Nat) (w : World) (h0 : 0 < n) (hn : n ≤ 1000) :
    Calls Tryz.prog 102 #[.slice none 0 0, .int .i64 n] w (GrowPost w) := by
  obtain ⟨i0, hi0, hz0, hz1, hz2⟩ := info_parts info_int
  have hold : (Builtin.firstCells i0.size 0 (.slice none 0 0)).run Tryz.prog w.drew = .ok (List.toArray []) w.drew := run_firstCells_none w.drew i0.size 0 0 0
  have hfit := Lib.run_append_grow_zeros (P := Tryz.prog) w 23 3 23 3 i0 (.int .i64 0) .i64 .i64 Tryz.underlying23 Tryz.underlying3 hi0 hz0 none 0 0 [] hold n h0 (by omega) (by omega) (by omega) (by rw [hz2]; omega) (growslice_fits (by omega) (by rw [hz2]; omega))
  have hle := grownCap_le_maxLen w (0 + n) 0 3 (by unfold maxLen; omega)
  rw [Nat.zero_add] at hfit hle
  have hge := grownCap_ge w n 0 3
  generalize grownCap w n 0 3 = G at *
  have HLE := Lib.hid hle
  have hG : G ≤ 9223372036854775807 := by unfold maxLen at hle; exact hle
  clear hold hle
  go_enter Tryz.func102, Tryz.ntmps102
  go_wp2_with (at_builtin; refine Lib.wpList_append_run _ rfl _ _ _ _ rfl _ _ rfl rfl _ _ hfit ?_)
  go_ret
  refine ⟨_, rfl, ?_, ((Below.refl _ w).drew.alloc (Nat.le_refl _) _), by simp⟩
  refine World.ownsRow_made (base := w.heap.size) w.drew _ G (Nat.le_refl _) HLE.out ?_
  simp [Builtin.zeroCells]
  omega
def szn (a b : Nat) (j : Nat) : Nat := if j = 0 then 0 else if j = 1 then a else a + b
def prn (l1 l2 : List Int) (j : Nat) : List Int := if j = 0 then [] else if j = 1 then l1 else l1 ++ l2
theorem one_i64 (l : List Int) : ∀ u ∈ l.map (Value.int .i64), u.oneCell' = true := by
  intro u hu
  rw [List.mem_map] at hu
  obtain ⟨x, _, rfl⟩ := hu
  rfl
set_option maxRecDepth 100000 in
set_option maxHeartbeats 1000000 in
theorem concat_any (g c0 : Nat) (A1 : Option Addr) (n1 c1 : Nat) (l1 : List Int) (A2 : Option Addr) (n2 c2 : Nat) (l2 : List Int) (w : World)
    (h0 : w.cell? ⟨g, 0, none⟩ = some (.slice A1 n1 c1)) (h1 : w.cell? ⟨g, 1, none⟩ = some (.slice A2 n2 c2)) (hg : g < w.heap.size)
    (hl1 : l1.length = n1) (hl2 : l2.length = n2) (hz1 : A1 = none → c1 = 0) (hz2 : A2 = none → c2 = 0) (r1 : Row w w.heap.size A1 (l1.map (.int .i64))) (r2 : Row w w.heap.size A2 (l2.map (.int .i64))) (hp : 0 < n1 + n2) (hn : n1 + n2 ≤ 1000) :
    Calls Tryz.prog 86 #[.slice (some ⟨g, 0, none⟩) 2 c0] w (ClonePost w (n1 + n2) (l1 ++ l2)) := by
  obtain ⟨i0, hi0, hq0, hq1, hq2⟩ := info_parts info_int
  have HI0 := Lib.hid hi0
  have HZ0 := Lib.hid hq0
  have HZ1 := Lib.hid hq1
  have HZ2 := Lib.hid hq2
  have R1 := Lib.hid r1
  have R2 := Lib.hid r2
  have L1 := Lib.hid hl1
  have L2 := Lib.hid hl2
  have Y1 := Lib.hid hz1
  have Y2 := Lib.hid hz2
  have HG := Lib.hid (grow_nil (n1 + n2) w hp hn)
  clear hi0 hq0 hq1 hq2 r1 r2 hl1 hl2 hz1 hz2
  go_enter Tryz.func86, Tryz.ntmps86
  go_wp2_with fail
  go_loop [3, 11] (fun s i => ∃ j : Nat, j ≤ 2 ∧ i = .int .i64 j ∧ s = .int .i64 (szn n1 n2 j : Nat)) (fun _ i => 2 - (intOf i).toNat)
  case atStart => exact ⟨0, by omega, rfl, rfl⟩
  case round =>
    obtain ⟨j, hj, rfl, rfl⟩ := hrel
    obtain rfl | rfl | rfl : j = 0 ∨ j = 1 ∨ j = 2 := by omega
    · rw [show szn n1 n2 0 = 0 from rfl]
      go_wp2_with fail
      go_round
      case rel => exact ⟨1, by omega, by go_num, by simp [szn]⟩
      case measure => simp [intOf]
    · rw [show szn n1 n2 1 = n1 from rfl]
      have e1 : IntKind.i64.wrap ((n1 : Int) + (n2 : Int)) = ((n1 + n2 : Nat) : Int) := by rw [show (n1 : Int) + (n2 : Int) = ((n1 + n2 : Nat) : Int) by omega]; exact IntWalk.i64_in _ (by omega)
      go_wp2_with fail
      go_round
      case rel => exact ⟨2, by omega, by go_num, by simp [szn]⟩
      case measure => simp [intOf]
    · rw [show szn n1 n2 2 = n1 + n2 from rfl]
      go_wp2_with fail
      refine HG.out.mono ?_
      rintro e w1 ⟨v1, rfl, hown, hbel, hsz⟩
      have HO := Lib.hid hown
      have HB := Lib.hid hbel
      clear hown hbel
      go_wp2_with fail
      go_loopw [6, 27] (fun v i wr => ∃ j : Nat, j ≤ 2 ∧ i = .int .i64 j ∧ wr.ownsRow w.heap.size 3 1 v (szn n1 n2 j) ((prn l1 l2 j).map (.int .i64)) ∧ Below w.heap.size w wr ∧ w.heap.size ≤ wr.heap.size) (fun _ i _ => 2 - (intOf i).toNat)
      case atStart => exact ⟨0, by omega, rfl, HO.out, HB.out, hsz⟩
      case round =>
        obtain ⟨j, hj, rfl, hown, hbel, hbs⟩ := hrel
        have HO2 := Lib.hid hown
        have HB2 := Lib.hid hbel
        have k0 := kept h0 hbel
        have k1 := kept h1 hbel
        clear hown hbel
        obtain rfl | rfl | rfl : j = 0 ∨ j = 1 ∨ j = 2 := by omega
        · go_wp2_with (at_builtin; refine wpList_append_row rfl (.tmp 31) (.tmp 32) _ rfl w.heap.size 3 i0 _ 8 Tryz.underlying23 HI0.out HZ0.out HZ1.out HZ2.out rfl _ (szn n1 n2 0) _ rfl HO2.out A1 n1 c1 w.heap.size (l1.map (.int .i64)) rfl Y1.out (by simp; exact L1.out) (R1.out.below HB2.out) (one_i64 l1) (by unfold maxLen szn; simp; omega) (by unfold szn; simp; omega) hbs ?_; intro va wa owna ga; have HOa := Lib.hid owna; have HBa := Lib.hid (base.below_grown HB2.out HO2.out (Nat.le_refl _) hbs ga); clear owna ga)
          go_roundw
          case rel => exact ⟨1, by omega, by go_num, by simpa [szn, prn] using HOa.out, HBa.out, HBa.out.size⟩
          case measure => simp [intOf]
        · go_wp2_with (at_builtin; refine wpList_append_row rfl (.tmp 31) (.tmp 32) _ rfl w.heap.size 3 i0 _ 8 Tryz.underlying23 HI0.out HZ0.out HZ1.out HZ2.out rfl _ (szn n1 n2 1) _ rfl HO2.out A2 n2 c2 w.heap.size (l2.map (.int .i64)) rfl Y2.out (by simp; exact L2.out) (R2.out.below HB2.out) (one_i64 l2) (by unfold maxLen szn; simp; omega) (by unfold szn; simp; omega) hbs ?_; intro va wa owna ga; have HOa := Lib.hid owna; have HBa := Lib.hid (base.below_grown HB2.out HO2.out (Nat.le_refl _) hbs ga); clear owna ga)
          go_roundw
          case rel => exact ⟨2, by omega, by go_num, by simpa [szn, prn] using HOa.out, HBa.out, HBa.out.size⟩
          case measure => simp [intOf]
        · go_wp2_with fail
          go_ret
          exact ⟨_, rfl, HO2.out, HB2.out, hbs⟩
end Go.Proofs.YtoaboklckkcjcaaGreat.loadI
/- Layer 24: the law on lists turned. -/
namespace Go.Proofs.YtoaboklckkcjcaaGreat.loadJ
open Go.ChangeShapes Go.WideShapes Go.ChangeAt Go.RowKit
open Go.Proofs.YtoaboklckkcjcaaGreat.base Go.Proofs.YtoaboklckkcjcaaGreat.loadC Go.Proofs.YtoaboklckkcjcaaGreat.loadH Go.Proofs.YtoaboklckkcjcaaGreat.loadI
set_option linter.unusedVariables false

theorem row_drop {w : World} {B b off : Nat} {xs : List Value} (h : Row w B (some ⟨b, off, none⟩) xs) (q : Nat) (hb : b < B) : Row w B (some ⟨b, off + q, none⟩) (xs.drop q) := by
  rcases h with h | ⟨b', off', he, hlt, hc⟩
  · exact .inl (by simp [h])
  · injection he with he
    injection he with e1 e2
    subst e1 e2
    refine .inr ⟨b, off + q, rfl, hlt, fun i u hu => ?_⟩
    rw [List.getElem?_drop] at hu
    rw [Nat.add_assoc]
    exact hc _ u hu
theorem own_mono {w : World} {base base' : Nat} {e : TypeId} {v : Value} {n : Nat} {xs : List Value} (h : w.ownsRow base e 1 v n xs) (hb : base' ≤ base) : w.ownsRow base' e 1 v n xs := by
  refine ⟨h.1, h.2.imp id ?_⟩
  rintro ⟨g, cap, cur, h1, h2, h3⟩
  exact ⟨g, cap, cur, h1, by omega, h3⟩
set_option maxRecDepth 100000 in
set_option maxHeartbeats 1000000 in
theorem turn_far (b off n c : Nat) (l : List Int) (q : Nat) (w : World) (hl : l.length = n) (hn : n ≤ 1000) (hnc : n ≤ c) (hcm : c ≤ 9223372036854775807) (hr : Row w w.heap.size (some ⟨b, off, none⟩) (l.map (.int .i64))) (hbl : b < w.heap.size) (hq : q < n) :
    Calls Tryz.prog 54 #[.slice (some ⟨b, off, none⟩) n c, .int .i64 q] w (ClonePost w n (l.drop q ++ l.take q)) := by
  have hqc : ¬ c = q := by omega
  have hqn : q ≤ n := by omega
  have hqc2 : q ≤ c := by omega
  have hd : Row w w.heap.size (some ⟨b, off + q, none⟩) ((l.drop q).map (.int .i64)) := by
    have := row_drop hr q hbl
    rwa [← List.map_drop] at this
  have ht : Row w w.heap.size (some ⟨b, off, none⟩) ((l.take q).map (.int .i64)) := by
    have := hr.take q
    rwa [← List.map_take] at this
  have hN : (w.drew.alloc (.cells #[.slice (some ⟨b, off + q, none⟩) (n - q) (c - q), .slice (some ⟨b, off, none⟩) q c] 23)).heap.size = w.heap.size + 1 := by simp
  have bN := Blk.new w.drew 23 #[.slice (some ⟨b, off + q, none⟩) (n - q) (c - q), .slice (some ⟨b, off, none⟩) q c]
  have hB : Below w.heap.size w (w.drew.alloc (.cells #[.slice (some ⟨b, off + q, none⟩) (n - q) (c - q), .slice (some ⟨b, off, none⟩) q c] 23)) := (Below.refl _ w).drew.alloc (Nat.le_refl _) _
  have HC := Lib.hid (concat_any w.heap.size 2 (some ⟨b, off + q, none⟩) (n - q) (c - q) (l.drop q) (some ⟨b, off, none⟩) q c (l.take q) _ (bN.cell 0) (bN.cell 1) (by rw [hN]; omega) (by rw [List.length_drop]; omega) (by rw [List.length_take]; omega) (by intro h; cases h) (by intro h; cases h) ((hd.below hB).more (by rw [hN]; omega)) ((ht.below hB).more (by rw [hN]; omega)) (by omega) (by omega))
  rw [show n - q + q = n by omega] at HC
  have HB := Lib.hid hB
  have HN := Lib.hid hN
  clear hl hr hd ht hN bN hB
  go_enter Tryz.func54, Tryz.ntmps54
  go_wp2_with fail
  go_region_with (go_at_call 86; refine HC.out.mono ?_; rintro e w1 ⟨v1, rfl, hown, hbel, hsz⟩; have HO := Lib.hid hown; have HB1 := Lib.hid hbel; have HS := Lib.hid hsz; clear hown hbel hsz)
  all_goals
    go_wp2_with fail
    go_ret
    have hs := HS.out
    rw [HN.out] at hs
    exact ⟨_, rfl, own_mono HO.out (by rw [HN.out]; omega), HB.out.trans (HB1.out.mono (by rw [HN.out]; omega)), by omega⟩
end Go.Proofs.YtoaboklckkcjcaaGreat.loadJ
/- Layer 24: the law on lists turned, walked. -/
namespace Go.Proofs.YtoaboklckkcjcaaGreat.loadK
open Go.ChangeShapes Go.WideShapes Go.ChangeAt Go.RowKit
open Go.Proofs.YtoaboklckkcjcaaGreat.base Go.Proofs.YtoaboklckkcjcaaGreat.loadC Go.Proofs.YtoaboklckkcjcaaGreat.loadH Go.Proofs.YtoaboklckkcjcaaGreat.loadI Go.Proofs.YtoaboklckkcjcaaGreat.loadJ
set_option linter.unusedVariables false

end Go.Proofs.YtoaboklckkcjcaaGreat.loadK
/- Layer 24: the sums of what each level gets. -/
namespace Go.Proofs.YtoaboklckkcjcaaGreat.loadL
open Go.ChangeShapes Go.WideShapes Go.ChangeAt Go.RowKit
open Go.Proofs.YtoaboklckkcjcaaGreat.base Go.Proofs.YtoaboklckkcjcaaGreat.loadA Go.Proofs.YtoaboklckkcjcaaGreat.loadB Go.Proofs.YtoaboklckkcjcaaGreat.loadC Go.Proofs.YtoaboklckkcjcaaGreat.loadD
set_option linter.unusedVariables false

theorem sumF_mono (h : Nat → Int) (h0 : ∀ i, 0 ≤ h i) (a m : Nat) : sumF h a ≤ sumF h (a + m) := by
  induction m with
  | zero => exact Int.le_refl _
  | succ m ih =>
    have := h0 (a + m)
    rw [← Nat.add_assoc, sumF]
    omega
theorem left_full (h : Nat → Int) (h0 : ∀ i, 0 ≤ h i) (k : Nat) : leftZ 10000 h k = max 0 (10000 - sumF h k) := by
  induction k with
  | zero => simp only [leftZ, sumF]; omega
  | succ k ih =>
    have a := h0 k
    have e : h k * 10000 / 10000 = h k := Int.mul_ediv_cancel _ (by decide)
    rw [leftZ, partZ, if_pos (by decide), e, ih, sumF]
    omega
theorem cap_full (h : Nat → Int) (h0 : ∀ i, 0 ≤ h i) (i n : Nat) (hi : i ≤ n) (hs : 10000 ≤ sumF h i) : capZ (sumF h n) = 10000 := by
  have := sumF_mono h h0 i (n - i)
  rw [Nat.add_sub_cancel' hi] at this
  unfold capZ
  omega
/-- nothing behind levels that are well enough -/
theorem ofZ_behind (xs : List Int) (n : Nat) (h : Nat → Int) (h0 : ∀ i, 0 ≤ h i) (i : Nat) (hi : i < n) (hs : 10000 ≤ sumF h i) : ofZ xs n (capZ (sumF h n)) h i = 0 := by
  rw [cap_full h h0 i n (by omega) hs, ofZ, left_full h h0 n, left_full h h0 i]
  have m := sumF_mono h h0 i (n - i)
  rw [Nat.add_sub_cancel' (by omega : i ≤ n)] at m
  have e1 : max 0 (10000 - sumF h i) = 0 := by omega
  have e2 : max 0 (10000 - sumF h n) = 0 := by omega
  rw [e1, e2]
  have := part_in 10000 (h i) 0 (by omega)
  simp
  omega
/-- nothing without a host -/
theorem ofZ_bare (xs : List Int) (n : Nat) (S : Int) (h : Nat → Int) (i : Nat) (hh : h i = 0) (hx : xs.getD i 0 = 0) : ofZ xs n S h i = 0 := by
  rw [ofZ, hh, partZ]
  have l0 := (left_in S h i).1
  have hf : ¬ firstP xs n = some i := fun e => by have := (firstP_lt xs n i e).2; omega
  rw [if_neg hf, Int.zero_mul, Int.zero_ediv]
  split <;> omega
theorem firstP_none (xs : List Int) (n : Nat) (h : firstP xs n = none) (i : Nat) (hi : i < n) : ¬ 0 < xs.getD i 0 := by
  induction n with
  | zero => omega
  | succ n ih =>
    rw [firstP] at h
    cases hk : firstP xs n with
    | some j => rw [hk] at h; cases h
    | none =>
      rw [hk] at h
      simp only at h
      split at h
      · cases h
      · rcases Nat.lt_or_ge i n with g | g
        · exact ih hk g
        · obtain rfl : i = n := by omega
          assumption
theorem sumF_zero (v : Nat → Int) (n : Nat) (h : ∀ i, i < n → v i = 0) : sumF v n = 0 := by
  induction n with
  | zero => rfl
  | succ n ih => rw [sumF, ih fun i hi => h i (by omega), h n (by omega)]; rfl
theorem sum_of (xs : List Int) (n : Nat) (S : Int) (h : Nat → Int) (q : Nat) (hq : firstP xs n = some q) (k : Nat) :
    sumF (ofZ xs n S h) k = 10000 - leftZ S h k + if q < k then leftZ S h n else 0 := by
  induction k with
  | zero => simp [sumF, leftZ]
  | succ k ih =>
    rw [sumF, ih, leftZ, ofZ, hq]
    by_cases e : q = k
    · subst e
      simp
      omega
    · have e' : ¬ some q = some k := by simpa using e
      rw [if_neg e']
      by_cases g : q < k
      · rw [if_pos g, if_pos (by omega)]; omega
      · rw [if_neg g, if_neg (by omega)]; omega
/-- all of it together -/
theorem sum_all (xs : List Int) (n : Nat) (S : Int) (h : Nat → Int) (q : Nat) (hq : firstP xs n = some q) : sumF (ofZ xs n S h) n = 10000 := by
  rw [sum_of xs n S h q hq n, if_pos (firstP_lt xs n q hq).1]
  omega
theorem ofZ_first (xs : List Int) (n : Nat) (h : Nat → Int) (h0 : ∀ i, 0 ≤ h i) (hn : 0 < n) (hh : h 0 = 10000) (hx : 0 < xs.getD 0 0) : ofZ xs n (capZ (sumF h n)) h 0 = 10000 := by
  have h1 : sumF h 1 = 10000 := by simp [sumF, hh]
  have m := sumF_mono h h0 1 (n - 1)
  rw [Nat.add_sub_cancel' (by omega : 1 ≤ n)] at m
  rw [cap_full h h0 1 n (by omega) (by omega), ofZ, left_full h h0 n, hh]
  have e2 : max 0 (10000 - sumF h n) = 0 := by omega
  rw [e2]
  simp [partZ, leftZ]
  omega
theorem health_full (x a f : Int) (hx : 0 < x) (ha : x ≤ a) (hf : 100 ≤ f) (hp : 100 * a ≤ f * x) : healthZ x a f = 10000 := by
  unfold healthZ
  rw [if_neg (by omega)]
  have : (10000 : Int) ≤ f * 100 * x / a := by
    apply Int.le_ediv_of_mul_le (by omega)
    have e : f * 100 * x = 100 * (f * x) := by rw [Int.mul_comm f 100, Int.mul_assoc]
    omega
  omega
theorem health_none (a f : Int) : healthZ 0 a f = 0 := by simp [healthZ]
/-- what a level gets, less what is left at the end -/
theorem ofZ_in (xs : List Int) (n : Nat) (S : Int) (h : Nat → Int) (i : Nat) : 0 ≤ ofZ xs n S h i ∧ ofZ xs n S h i ≤ 20000 := by
  have a := left_in S h i
  have b := part_in S (h i) (leftZ S h i) a.1
  have c := left_in S h n
  unfold ofZ
  split <;> omega
end Go.Proofs.YtoaboklckkcjcaaGreat.loadL
/- Layer 24: which counts may be: the code's word, and the law's. -/
namespace Go.Proofs.YtoaboklckkcjcaaGreat.loadM
open Go.ChangeShapes Go.WideShapes Go.ChangeAt Go.RowKit
open Go.Proofs.YtoaboklckkcjcaaGreat.base Go.Proofs.YtoaboklckkcjcaaGreat.loadA Go.Proofs.YtoaboklckkcjcaaGreat.loadB
set_option linter.unusedVariables false

theorem right_no (A B : Option Addr) (n c m d : Nat) (xs ys : List Int) (f : Int) (w : World) (hl : xs.length = n) (al : ys.length = m) (hr : Row w w.heap.size A (xs.map (.int .i64))) (ar : Row w w.heap.size B (ys.map (.int .i64)))
    (hn : n ≤ 9223372036854775807) (hm : m ≤ 9223372036854775807) (hp : ¬ rightP xs ys f) :
    Calls Tryz.prog 81 #[.slice A n c, .slice B m d, .int .i64 f] w fun e w' => e = .returned (.bool false) ∧ Below w.heap.size w w' := by
  by_cases hnm : n ≠ m
  · have t1 : ((n : Int) != (m : Int)) = true := by simp; omega
    clear hp hr ar hl al hnm
    go_enter Tryz.func81, Tryz.ntmps81
    go_wp2_with fail
    go_ret
    exact ⟨rfl, Below.refl _ _⟩
  have t1 : ((n : Int) != (m : Int)) = false := by simp; omega
  by_cases h4 : 4 < n
  · have t2 : decide ((4 : Int) < (n : Int)) = true := by simp; omega
    clear hp hr ar hl al hnm
    go_enter Tryz.func81, Tryz.ntmps81
    go_wp2_with fail
    go_ret
    exact ⟨rfl, Below.refl _ _⟩
  have t2 : decide ((4 : Int) < (n : Int)) = false := by simp; omega
  by_cases h5 : f < 100
  · clear hp hr ar hl al hnm
    go_enter Tryz.func81, Tryz.ntmps81
    go_wp2_with fail
    go_ret
    exact ⟨rfl, Below.refl _ _⟩
  by_cases h6 : 1000 < f
  · clear hp hr ar hl al hnm
    go_enter Tryz.func81, Tryz.ntmps81
    go_wp2_with fail
    go_ret
    exact ⟨rfl, Below.refl _ _⟩
  have p5 : ¬ okAll xs ys n := fun h => hp ⟨by omega, by omega, by omega, by omega, by rw [hl]; exact h⟩
  have HH := Lib.hid hl
  have HA := Lib.hid al
  have HR := Lib.hid hr
  have AR := Lib.hid ar
  have HP := Lib.hid p5
  have n4 : n ≤ 4 := by omega
  have nm : n = m := by omega
  have f1 : 100 ≤ f := by omega
  have f2 : f ≤ 1000 := by omega
  clear hl al hr ar p5 hp hnm h4 h5 h6
  go_enter Tryz.func81, Tryz.ntmps81
  go_wp2_with fail
  go_loopw [28] (fun i wr => ∃ k : Nat, k ≤ n ∧ i = .int .i64 k ∧ okAll xs ys k ∧ Below w.heap.size w wr) (fun i _ => n - (intOf i).toNat)
  case atStart => exact ⟨0, by omega, rfl, fun i hi => absurd hi (by omega), Below.refl _ _⟩
  case round =>
    obtain ⟨k, hk, rfl, hall, hbel⟩ := hrel
    by_cases hlt : k < n
    · obtain ⟨b, off, rfl, _, hc⟩ := row_get (HR.out.below hbel) (by rw [HH.out]; omega)
      obtain ⟨b2, off2, rfl, _, hc2⟩ := row_get (AR.out.below hbel) (by rw [HA.out]; omega)
      have c1 := hc k (by rw [HH.out]; exact hlt)
      have c2 := hc2 k (by rw [HA.out]; omega)
      have HBel := Lib.hid hbel
      have HALL := Lib.hid hall
      have km : k < m := by omega
      clear hc hc2 hbel nm hall
      have hkd : okp (xs.getD k 0) (ys.getD k 0) = true ∨ okp (xs.getD k 0) (ys.getD k 0) = false := by cases okp (xs.getD k 0) (ys.getD k 0) <;> simp
      have HX := Lib.hid (show okp (xs.getD k 0) (ys.getD k 0) = okp (xs.getD k 0) (ys.getD k 0) from rfl)
      have hnext : okp (xs.getD k 0) (ys.getD k 0) = true → okAll xs ys (k + 1) := fun h i hi => by
        rcases Nat.lt_or_ge i k with g | g
        · exact HALL.out i g
        · obtain rfl : i = k := by omega
          exact h
      have HNEXT := Lib.hid hnext
      clear hnext HX
      rcases hkd with ok | ok
      · have HS := Lib.hid (HNEXT.out ok)
        clear HNEXT HALL
        have ok' : 0 ≤ xs.getD k 0 ∧ xs.getD k 0 ≤ ys.getD k 0 ∧ ys.getD k 0 ≤ 1048576 := by simpa [okp] using ok
        clear ok
        generalize xs.getD k 0 = x at *
        generalize ys.getD k 0 = y at *
        obtain ⟨o1, o2, o3⟩ := ok'
        have q1 : decide (x < 0) = false := by simp; omega
        have q2 : decide (y < x) = false := by simp; omega
        have q3 : decide (1048576 < y) = false := by simp; omega
        go_wp2_with fail
        go_quiet (fail)
        go_wp2_with fail
        go_roundw
        case rel => exact ⟨k + 1, by omega, by go_num, HS.out, below_drewN HBel.out _⟩
        case measure => simp [intOf]; omega
      · clear HNEXT HALL
        have ok' : ¬ (0 ≤ xs.getD k 0 ∧ xs.getD k 0 ≤ ys.getD k 0 ∧ ys.getD k 0 ≤ 1048576) := by simpa [okp] using ok
        clear ok
        generalize xs.getD k 0 = x at *
        generalize ys.getD k 0 = y at *
        have ok2 : x < 0 ∨ (0 ≤ x ∧ y < x) ∨ (0 ≤ x ∧ x ≤ y ∧ 1048576 < y) := by omega
        clear ok'
        rcases ok2 with o1 | ⟨o1, o2⟩ | ⟨o1, o2, o3⟩
        · have q1 : decide (x < 0) = true := by simp; omega
          go_wp2_with fail
          go_quiet (fail)
          go_wp2_with fail
          go_ret
          exact ⟨rfl, below_drewN HBel.out _⟩
        · have q1 : decide (x < 0) = false := by simp; omega
          have q2 : decide (y < x) = true := by simp; omega
          go_wp2_with fail
          go_quiet (fail)
          go_wp2_with fail
          go_ret
          exact ⟨rfl, below_drewN HBel.out _⟩
        · have q1 : decide (x < 0) = false := by simp; omega
          have q2 : decide (y < x) = false := by simp; omega
          have q3 : decide (1048576 < y) = true := by simp; omega
          go_wp2_with fail
          go_quiet (fail)
          go_wp2_with fail
          go_ret
          exact ⟨rfl, below_drewN HBel.out _⟩
    · obtain rfl : n = k := by omega
      exact absurd hall HP.out
end Go.Proofs.YtoaboklckkcjcaaGreat.loadM
/- Layer 23: how many hosts each level has, in plain words. -/
namespace Go.Proofs.YtoaboklckkcjcaaGreat.eliG
open Go.ChangeShapes Go.WideShapes Go.ChangeAt Go.RowKit
open Go.Proofs.YtoaboklckkcjcaaGreat.base Go.Proofs.YtoaboklckkcjcaaGreat.dfA Go.Proofs.YtoaboklckkcjcaaGreat.treB Go.Proofs.YtoaboklckkcjcaaGreat.treD Go.Proofs.YtoaboklckkcjcaaGreat.treH Go.Proofs.YtoaboklckkcjcaaGreat.treW Go.Proofs.YtoaboklckkcjcaaGreat.eliW Go.Proofs.YtoaboklckkcjcaaGreat.eliC
set_option linter.unusedVariables false

/-- How many of the first k are hosts below a, that answer as p tells. -/
def cntB (m : List Nd) (p : Nat → Bool) (a : Nat) : Nat → Nat
  | 0 => 0
  | k + 1 => if ((ndAt m k).kind == 4 && belU m k a && p k) = true then cntB m p a k + 1 else cntB m p a k
theorem cntB_le (m : List Nd) (p : Nat → Bool) (a k : Nat) : cntB m p a k ≤ k := by
  induction k with
  | zero => exact Nat.le_refl _
  | succ k ih => unfold cntB; split <;> omega
/-- How many of these hosts are below a. -/
def cntL (m : List Nd) (p : Nat → Bool) (a : Nat) : List Int → Nat
  | [] => 0
  | x :: l => (if (belU m x.toNat a && p x.toNat) = true then 1 else 0) + cntL m p a l
theorem cntL_snoc (m : List Nd) (p : Nat → Bool) (a : Nat) (x : Int) : ∀ l, cntL m p a (l ++ [x]) = cntL m p a l + (if (belU m x.toNat a && p x.toNat) = true then 1 else 0) := by
  intro l
  induction l with
  | nil => show (if (belU m x.toNat a && p x.toNat) = true then 1 else 0) + 0 = 0 + _; omega
  | cons y l ih => show (if (belU m y.toNat a && p y.toNat) = true then 1 else 0) + cntL m p a (l ++ [x]) = (if (belU m y.toNat a && p y.toNat) = true then 1 else 0) + cntL m p a l + _; rw [ih]; omega
theorem cntL_le (m : List Nd) (p : Nat → Bool) (a : Nat) : ∀ l, cntL m p a l ≤ l.length := by
  intro l
  induction l with
  | nil => exact Nat.le_refl _
  | cons y l ih => show (if (belU m y.toNat a && p y.toNat) = true then 1 else 0) + cntL m p a l ≤ l.length + 1; split <;> omega
theorem cnt_is (m : List Nd) (p : Nat → Bool) (a : Nat) : ∀ k, k ≤ m.length → cntL m p a (ofK m 4 k) = cntB m p a k := by
  intro k
  induction k with
  | zero => intro _; rfl
  | succ k ih =>
    intro hk
    rw [ofK_next (show k < m.length by omega)]
    unfold cntB
    rw [ndAt_nat (show k < m.length by omega)]
    cases h1 : ((m[k]'(by omega)).kind == 4) with
    | false => rw [if_neg (by decide), List.append_nil, Bool.false_and, Bool.false_and, if_neg (by decide)]; exact ih (by omega)
    | true =>
      rw [if_pos rfl, cntL_snoc, ih (by omega), Bool.true_and, Int.toNat_natCast]
      split <;> omega
/-- The level above a host, by its place among the levels. -/
theorem lev_at {m : List Nd} (hf : Fine m) {x : Nat} (hx : x < m.length) : ∃ q a : Nat, q < (ofK m 1 m.length).length ∧ a < m.length ∧ (ofK m 1 m.length)[q]? = some (a : Int) ∧ upF m 1 (x : Int) = (a : Int) ∧ (ndAt m a).kind = 1 ∧ Lib.idxOf (ofK m 1 m.length) (upF m 1 (x : Int)) = (q : Int) := by
  obtain ⟨a, ha, h1, h2⟩ := upF_level hf (x + 1) x hx (by omega)
  have hmem : (a : Int) ∈ ofK m 1 m.length := by
    unfold ofK
    rw [List.mem_map]
    refine ⟨a, List.mem_filter.mpr ⟨List.mem_range.mpr ha, ?_⟩, rfl⟩
    rw [List.getD_eq_getElem?_getD, List.getElem?_eq_getElem ha]
    simp [h2]
  rw [h1]
  have key : ∀ (l : List Int) (i : Nat), (a : Int) ∈ l → ∃ q : Nat, q < l.length ∧ l[q]? = some (a : Int) ∧ Lib.idxFrom l (a : Int) i = ((i + q : Nat) : Int) := by
    intro l
    induction l with
    | nil => intro i h; cases h
    | cons y l ih =>
      intro i h
      by_cases hy : y = (a : Int)
      · refine ⟨0, by simp, by simp [hy], ?_⟩
        show (if y = (a : Int) then (i : Int) else _) = _
        rw [if_pos hy]; rfl
      · have hm : (a : Int) ∈ l := by
          rcases List.mem_cons.mp h with h3 | h3
          · exact absurd h3.symm hy
          · exact h3
        obtain ⟨q, hq, he, hi⟩ := ih (i + 1) hm
        refine ⟨q + 1, by simpa using hq, by simpa using he, ?_⟩
        show (if y = (a : Int) then (i : Int) else Lib.idxFrom l (a : Int) (i + 1)) = _
        rw [if_neg hy, hi]
        congr 1
        omega
  obtain ⟨q, hq, he, hi⟩ := key _ 0 hmem
  refine ⟨q, a, hq, ha, he, rfl, by rw [ndAt_nat ha]; exact h2, ?_⟩
  unfold Lib.idxOf
  rw [hi, Nat.zero_add]
/-- No level stands twice. -/
theorem lev_inj {m : List Nd} {q r : Nat} {a : Int} (hq : (ofK m 1 m.length)[q]? = some a) (hr : (ofK m 1 m.length)[r]? = some a) : q = r := by
  have hnd : (ofK m 1 m.length).Nodup := by
    unfold ofK
    unfold List.Nodup
    rw [List.pairwise_map]
    exact (List.Pairwise.filter _ (show List.Pairwise (· ≠ ·) (List.range m.length) from List.nodup_range)).imp (fun h e => h (by omega))
  have h1 := (List.getElem?_eq_some_iff.mp hq)
  have h2 := (List.getElem?_eq_some_iff.mp hr)
  obtain ⟨l1, e1⟩ := h1
  obtain ⟨l2, e2⟩ := h2
  exact (List.getElem_inj hnd).mp (e1.trans e2.symm)
/-- Below a level. -/
theorem bel_lev {m : List Nd} {x a : Nat} (h : (ndAt m a).kind = 1) : belU m x a = (upF m 1 (x : Int) == (a : Int)) := by
  unfold belU
  rw [h]
end Go.Proofs.YtoaboklckkcjcaaGreat.eliG
