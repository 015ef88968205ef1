/- Layer 24: the function Of. -/
import Derived.Test.YtiagepmfajpbpaaLoadC
namespace Go.Proofs.Ytiagepmfajpbpaa.loadD
open Go.ChangeShapes Go.WideShapes Go.ChangeAt Go.RowKit
open Go.Proofs.Ytiagepmfajpbpaa.base Go.Proofs.Ytiagepmfajpbpaa.loadA Go.Proofs.Ytiagepmfajpbpaa.loadB Go.Proofs.Ytiagepmfajpbpaa.loadC
set_option linter.unusedVariables false

theorem bcell {W w1 : World} (hb : Below W.heap.size W w1) : (∀ b o, b < W.heap.size → w1.cell? ⟨b, o, none⟩ = W.cell? ⟨b, o, none⟩) ∧ (∀ b o, b < W.heap.size → w1.frozen? ⟨b, o, none⟩ = W.frozen? ⟨b, o, none⟩) :=
  ⟨fun b o h => hb.cell (p := ⟨b, o, none⟩) h, fun b o h => hb.frozen (p := ⟨b, o, none⟩) h⟩
def ofZ (xs : List Int) (n : Nat) (S : Int) (h : Nat → Int) (i : Nat) : Int := partZ S (h i) (leftZ S h i) + if firstP xs n = some i then leftZ S h n else 0
def OfPost (w : World) (n : Nat) (v : Nat → Int) (e : Ending) (w' : World) : Prop :=
  ∃ g, e = .returned (.slice (some ⟨g, 0, none⟩) n n) ∧ w.heap.size ≤ g ∧ Blk w' g 3 (tab n v) ∧ Below w.heap.size w w'

set_option maxHeartbeats 1000000 in
theorem of_yes (A B : Option Addr) (n c m d : Nat) (xs ys : List Int) (f : Int) (w : World) (hl : xs.length = n) (al : ys.length = m) (hr : Row w w.heap.size A (xs.map (.int .i64))) (ar : Row w w.heap.size B (ys.map (.int .i64)))
    (hp : rightP xs ys f) :
    Calls Try.prog 10 #[.slice A n c, .slice B m d, .int .i64 f] w (OfPost w n (ofZ xs n (capZ (sumF (heaZ xs ys f) n)) (heaZ xs ys f))) := by
  obtain ⟨i0, hi0, hz0, hz1, hz2⟩ := info_parts info_int
  obtain ⟨p1, p2, p3, p4, p5⟩ := id hp
  have hmk := fun (W : World) => run_make_one (P := Try.prog) 22 3 i0 _ Try.underlying22 hi0 hz0 hz1 rfl .i64 .i64 (n : Int) (by omega) (by rw [hz2]; omega) (by omega) W
  have hh : ∀ i, heaZ xs ys f i = healthZ (xs.getD i 0) (ys.getD i 0) f := fun _ => rfl
  have hin : ∀ i, 0 ≤ heaZ xs ys f i ∧ heaZ xs ys f i ≤ 10000 := fun i => healthZ_in _ _ _
  have HH := Lib.hid hl
  have HA := Lib.hid al
  have HR := Lib.hid hr
  have AR := Lib.hid ar
  have HP := Lib.hid hp
  have P5 := Lib.hid p5
  have HE := Lib.hid hh
  have HI := Lib.hid hin
  have n4 : n ≤ 4 := by omega
  obtain rfl : m = n := by omega
  have HRG := Lib.hid (fun w => right_yes A B m c m d xs ys f w hl al)
  clear hl al hr ar p1 p2 hp p5 hz0 hz1 hz2 hi0 hh hin
  generalize heaZ xs ys f = h at *
  go_enter Try.func10, Try.ntmps10
  go_wp2_with fail
  refine (HRG.out _ HR.out AR.out HP.out).mono ?_
  rintro e w1 ⟨rfl, hb⟩
  have HB := Lib.hid hb
  have hs1 := hb.size
  clear hb
  go_wp2_with fail
  have hmH := Lib.hid hmk
  clear hmk
  go_loopw [8, 25] (fun s i wr => ∃ k : Nat, k ≤ m ∧ i = .int .i64 k ∧ s = .int .i64 (sumF h k) ∧ Blk wr w1.heap.size 3 (tab m fun i => if i < k then h i else 0) ∧ Below w.heap.size w wr) (fun _ i _ => m - (intOf i).toNat)
  case atStart => exact ⟨0, by omega, rfl, rfl, by have := Blk.new w1 3 (zeros m (.int .i64 0)); simpa [tab_zero] using this, HB.out.alloc hs1 _⟩
  case round =>
    obtain ⟨k, hk, rfl, rfl, hblk, hbel⟩ := hrel
    have hsum := sumF_in h 10000 HI.out k
    have hsum2 : sumF h k ≤ 40000 := by have : (k : Int) * 10000 ≤ 4 * 10000 := by omega
                                        omega
    have hsum1 := hsum.1
    clear hsum
    by_cases hlt : k < m
    · have km : k < m := by omega
      have ok := P5.out k (by rw [HH.out]; exact hlt)
      have ok' : 0 ≤ xs.getD k 0 ∧ xs.getD k 0 ≤ ys.getD k 0 ∧ ys.getD k 0 ≤ 1048576 := by simpa [okp] using ok
      obtain ⟨b, off, rfl, _, hc⟩ := row_get (HR.out.below hbel) (by rw [HH.out]; omega)
      obtain ⟨b2, off2, rfl, _, hc2⟩ := row_get (AR.out.below hbel) (by rw [HA.out]; omega)
      have c1 := hc k (by rw [HH.out]; exact hlt)
      have c2 := hc2 k (by rw [HA.out]; omega)
      have c3 : wr.cell? ⟨w1.heap.size, k, none⟩ = some (.int .i64 0) := by rw [hblk.cell k, tab_get _ _ _ hlt]; simp
      have c4 : wr.frozen? ⟨w1.heap.size, k, none⟩ = false := hblk.frozen k
      have he := HE.out k
      have hin := HI.out k
      have hst : sumF h (k + 1) = sumF h k + h k := rfl
      have HST := Lib.hid hst
      have HBel := Lib.hid hbel
      have HBlk := Lib.hid hblk
      clear hc hc2 hbel ok hst hblk
      obtain ⟨o1, o2, o3⟩ := ok'
      have HC := Lib.hid (fun w => health_any (xs.getD k 0) (ys.getD k 0) f (by omega) (by omega) (by omega) w)
      rw [← he] at HC
      clear he
      generalize xs.getD k 0 = x at *
      generalize ys.getD k 0 = y at *
      generalize hv : h k = v at *
      have HV := Lib.hid hv
      clear hv
      generalize sumF h k = s at *
      go_wp2_with fail
      have l1 : b < wr.heap.size := World.block_lt_of_cell? wr _ c1
      have l2 : b2 < wr.heap.size := World.block_lt_of_cell? wr _ c2
      have l3 : w1.heap.size < wr.heap.size := World.block_lt_of_cell? wr _ c3
      have x1 : (0 : Int) ≤ (k : Int) := by omega
      have x2 : (k : Int) < (m : Int) := by omega
      go_region_with (first | (go_at_call 48; refine (HC.out _).mono ?_; rintro e w' ⟨rfl, hb⟩; have d3 : w'.cell? ⟨w1.heap.size, k, none⟩ = some (.int .i64 0) := (hb.cell (p := ⟨w1.heap.size, k, none⟩) l3).trans c3; have d4 : w'.frozen? ⟨w1.heap.size, k, none⟩ = false := (hb.frozen (p := ⟨w1.heap.size, k, none⟩) l3).trans c4; have HX := Lib.hid hb; clear hb))
      all_goals
        go_wp2_with fail
        go_roundw
        case rel =>
          refine ⟨k + 1, by omega, by go_num, by rw [HST.out], ?_, bel_set (bel_call (bel_drew HBel.out) HX.out) hs1 _⟩
          have hnew := ((HBlk.out.drew).below HX.out l3).set_ k (.int .i64 v)
          rw [tab_set] at hnew
          rw [tab_congr (g' := fun i => if i = k then v else if i < k then h i else 0) (fun i hi => by
            by_cases hik : i = k
            · subst hik; rw [if_pos (by omega), if_pos rfl]; exact HV.out
            · rw [if_neg hik]; by_cases h3 : i < k
              · rw [if_pos h3, if_pos (by omega)]
              · rw [if_neg h3, if_neg (by omega)])]
          exact hnew
        case measure => simp [intOf]; omega
    · obtain rfl : k = m := by omega
      have hS0 : 0 ≤ capZ (sumF h k) ∧ capZ (sumF h k) ≤ 10000 := by unfold capZ; omega
      have hcap : min (max (sumF h k) 0) 10000 = capZ (sumF h k) := rfl
      generalize capZ (sumF h k) = S at *
      generalize sumF h k = s at *
      have HCAP := Lib.hid hcap
      rw [tab_congr (g' := h) (fun i hi => by rw [if_pos hi])] at hblk
      have HBlk := Lib.hid hblk
      have HBel := Lib.hid hbel
      have hs2 := hbel.size
      have l3 : w1.heap.size < wr.heap.size := hblk.lt
      clear hcap hblk hbel
      obtain ⟨S0, S1⟩ := hS0
      go_wp2_with fail
      refine (heldI_any _ _ _ _).mono ?_
      rintro e w' ⟨rfl, rfl⟩
      rw [HCAP.out]
      have hm := hmH.out
      go_wp2_with fail
      clear hm
      obtain ⟨wa, rfl⟩ : ∃ wa, wa = wr := ⟨_, rfl⟩
      go_loopw [11, 55] (fun t i wq => ∃ j : Nat, j ≤ k ∧ i = .int .i64 j ∧ t = .int .i64 (leftZ S h j) ∧ Blk wq w1.heap.size 3 (tab k h) ∧ Blk wq wa.heap.size 3 (tab k fun i => if i < j then partZ S (h i) (leftZ S h i) else 0) ∧ Below w.heap.size w wq) (fun _ i _ => k - (intOf i).toNat)
      case atStart => exact ⟨0, by omega, rfl, rfl, HBlk.out.alloc _, by have := Blk.new wa 3 (zeros k (.int .i64 0)); simpa [tab_zero] using this, HBel.out.alloc hs2 _⟩
      case round =>
        obtain ⟨j, hj, rfl, rfl, hb1, hb2, hbel⟩ := hrel
        have hleft := left_in S h j
        by_cases hlt : j < k
        · have hin := HI.out j
          have hp0 := part_in S (h j) (leftZ S h j) hleft.1
          have c1 : wr.cell? ⟨w1.heap.size, j, none⟩ = some (.int .i64 (h j)) := by rw [hb1.cell j, tab_get _ _ _ hlt]
          have c2 : wr.cell? ⟨wa.heap.size, j, none⟩ = some (.int .i64 0) := by rw [hb2.cell j, tab_get _ _ _ hlt]; simp
          have c3 : wr.frozen? ⟨wa.heap.size, j, none⟩ = false := hb2.frozen j
          have HB1 := Lib.hid hb1
          have HB2 := Lib.hid hb2
          have HBel2 := Lib.hid hbel
          have hst : leftZ S h (j + 1) = leftZ S h j - partZ S (h j) (leftZ S h j) := rfl
          have HST := Lib.hid hst
          clear hb1 hb2 hbel hst
          rcases Int.lt_or_le 0 S with hS | hS
          · have hpart : min (max (h j * 10000 / S) 0) (leftZ S h j) = partZ S (h j) (leftZ S h j) := by simp [partZ, hS]
            have HPART := Lib.hid hpart
            clear hpart
            generalize hp : partZ S (h j) (leftZ S h j) = p at *
            have HPV := Lib.hid hp
            clear hp
            generalize hv : h j = v at *
            have HV := Lib.hid hv
            clear hv
            generalize hlf : leftZ S h j = left at *
            have HLF := Lib.hid hlf
            clear hlf
            go_wp2_with fail
            refine (heldI_any _ _ _ _).mono ?_
            rintro e w' ⟨rfl, rfl⟩
            rw [HPART.out]
            go_wp2_with fail
            go_roundw
            case rel =>
              refine ⟨j + 1, by omega, by go_num, by rw [HST.out], HB1.out.far (by simp; omega) _, ?_, bel_set HBel2.out (by simp; omega) _⟩
              have hnew := HB2.out.set_ j (.int .i64 p)
              rw [tab_set] at hnew
              rw [tab_congr (g' := fun i => if i = j then p else if i < j then partZ S (h i) (leftZ S h i) else 0) (fun i hi => by
                by_cases hij : i = j
                · subst hij; rw [if_pos (by omega), if_pos rfl, HV.out, HLF.out]; exact HPV.out
                · rw [if_neg hij]; by_cases h3 : i < j
                  · rw [if_pos h3, if_pos (by omega)]
                  · rw [if_neg h3, if_neg (by omega)])]
              exact hnew
            case measure => simp [intOf]; omega
          · have hpart : partZ S (h j) (leftZ S h j) = 0 := by simp only [partZ]; rw [if_neg (by omega)]
            rw [hpart] at HST
            have HPART := Lib.hid hpart
            clear hpart hp0
            generalize hv : h j = v at *
            have HV := Lib.hid hv
            clear hv
            generalize hlf : leftZ S h j = left at *
            have HLF := Lib.hid hlf
            clear hlf
            go_wp2_with fail
            go_roundw
            case rel =>
              refine ⟨j + 1, by omega, by go_num, by rw [HST.out]; first | rfl | go_num, HB1.out, ?_, HBel2.out⟩
              have hnew := HB2.out
              rw [tab_congr (g' := fun i => if i < j then partZ S (h i) (leftZ S h i) else 0) (fun i hi => by
                by_cases hij : i = j
                · subst hij; rw [if_pos (by omega), if_neg (by omega), HV.out, HLF.out]; exact HPART.out
                · by_cases h3 : i < j
                  · rw [if_pos h3, if_pos (by omega)]
                  · rw [if_neg h3, if_neg (by omega)])]
              exact hnew
            case measure => simp [intOf]; omega
        · obtain rfl : j = k := by omega
          rw [tab_congr (g' := fun i => partZ S (h i) (leftZ S h i)) (fun i hi => by rw [if_pos hi])] at hb2
          have hrow := (HR.out.below hbel).more hbel.size
          have HB2 := Lib.hid hb2
          have HBel2 := Lib.hid hbel
          have HROW := Lib.hid hrow
          have lg : wa.heap.size < wr.heap.size := hb2.lt
          cases hf : firstP xs j with
          | none =>
            have HF := Lib.hid hf
            clear hb1 hb2 hbel hrow hf
            generalize leftZ S h j = left at *
            go_wp2_with fail
            refine (index_any _ _ _ xs _ HH.out (by omega) HROW.out).mono ?_
            rintro e w' ⟨rfl, rfl⟩
            rw [HF.out, show placeZ none = -1 from rfl]
            go_wp2_with fail
            go_ret
            refine ⟨_, rfl, by omega, ?_, HBel2.out⟩
            rw [tab_congr (g' := fun i => partZ S (h i) (leftZ S h i)) (fun i hi => by rw [ofZ, HF.out]; simp)]
            exact HB2.out
          | some q =>
            have hq := (firstP_lt _ _ _ hf).1
            have hin := part_in S (h q) (leftZ S h q) (left_in S h q).1
            have hin2 := (left_in S h q).2
            have c1 : wr.cell? ⟨wa.heap.size, q, none⟩ = some (.int .i64 (partZ S (h q) (leftZ S h q))) := by rw [hb2.cell q, tab_get _ _ _ hq]
            have c3 : wr.frozen? ⟨wa.heap.size, q, none⟩ = false := hb2.frozen q
            have HF := Lib.hid hf
            have hin3 : partZ S (h q) (leftZ S h q) ≤ 10000 := by omega
            have hin4 := hin.1
            clear hb1 hb2 hbel hrow hf hin hin2
            generalize hp : partZ S (h q) (leftZ S h q) = p at *
            have HPV := Lib.hid hp
            clear hp
            generalize hlf : leftZ S h j = left at *
            have HLF := Lib.hid hlf
            clear hlf
            go_wp2_with fail
            refine (index_any _ _ _ xs _ HH.out (by omega) HROW.out).mono ?_
            rintro e w' ⟨rfl, rfl⟩
            rw [HF.out, show placeZ (some q) = (q : Int) from rfl]
            go_wp2_with fail
            go_ret
            refine ⟨_, rfl, by omega, ?_, bel_set HBel2.out (by simp; omega) _⟩
            have hnew := HB2.out.set_ q (.int .i64 (p + left))
            rw [tab_set] at hnew
            rw [tab_congr (g' := fun i => if i = q then p + left else partZ S (h i) (leftZ S h i)) (fun i hi => by
              rw [ofZ, HF.out]
              by_cases hiq : i = q
              · subst hiq; rw [if_pos rfl, if_pos rfl, HPV.out, HLF.out]
              · rw [if_neg (fun e => hiq (Option.some.inj e).symm), if_neg hiq]; simp)]
            exact hnew
end Go.Proofs.Ytiagepmfajpbpaa.loadD
