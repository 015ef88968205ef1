/- Layer 6: the longest prefix. -/
import Derived.Test.YtamndmlaikgogaaVpC
import Derived.Deep.RegionHeld3
namespace Go.Proofs.Ytamndmlaikgogaa.vpD
open Go.ChangeShapes Go.WideShapes Go.ChangeAt Go.RowKit
open Go.Proofs.Ytamndmlaikgogaa.base Go.Proofs.Ytamndmlaikgogaa.dfA Go.Proofs.Ytamndmlaikgogaa.treB Go.Proofs.Ytamndmlaikgogaa.vdB Go.Proofs.Ytamndmlaikgogaa.vdC Go.Proofs.Ytamndmlaikgogaa.vdD Go.Proofs.Ytamndmlaikgogaa.vpA Go.Proofs.Ytamndmlaikgogaa.vpB Go.Proofs.Ytamndmlaikgogaa.vpC
set_option linter.unusedVariables false

/-- The greatest number below k of which h is true. -/
def fnd (h : Nat → Bool) : Nat → Option Nat
  | 0 => none
  | k + 1 => if h k = true then some k else fnd h k
theorem fnd_stay {h : Nat → Bool} {k m : Nat} (hkm : k ≤ m) (hn : ∀ j, k ≤ j → j < m → h j = false) : fnd h m = fnd h k := by
  induction m with
  | zero =>
    obtain rfl : k = 0 := by omega
    rfl
  | succ m ih =>
    rcases Nat.lt_or_ge m k with h1 | h1
    · obtain rfl : k = m + 1 := by omega
      rfl
    · show (if h m = true then some m else fnd h m) = _
      rw [hn m h1 (by omega), if_neg (by decide)]
      exact ih h1 (fun j a b => hn j a (by omega))
def vOf (f : Nat → Int) : Option Nat → Int
  | none => 0
  | some j => f j
def lOf : Option Nat → Int
  | none => 0
  | some j => j
def oOf : Option Nat → Bool
  | none => false
  | some _ => true
theorem none_on {w : World} {tr : Nat} {At : Pos} {has : List Bool → Bool} {val : List Bool → Int} {sz : Int} (h : Tr w tr At has val sz) {v6 : Bool} {hi lo : Int} {k : Nat} (hk : At (pth v6 hi lo k) = none) (j : Nat) (hj : k ≤ j) : At (pth v6 hi lo j) = none := by
  induction j with
  | zero =>
    obtain rfl : k = 0 := by omega
    exact hk
  | succ j ih =>
    rcases Nat.lt_or_ge j k with h1 | h1
    · obtain rfl : k = j + 1 := by omega
      exact hk
    · exact h.up _ _ (pth_ne v6 hi lo j) (ih h1)
def FindPost (w : World) (n : Nat) (h : Nat → Bool) (f : Nat → Int) (e : Ending) (w' : World) : Prop :=
  e = .returned (.tuple #[.int .i64 (vOf f (fnd h (n + 1))), .int .i64 (lOf (fnd h (n + 1))), .bool (oOf (fnd h (n + 1)))]) ∧ Below w.heap.size w w'
set_option maxHeartbeats 4000000 in
theorem find_not (tr : Nat) (v6 : Bool) (hi lo : Int) (w : World) (hr : rightB v6 hi lo = false) :
    Calls Try.prog 44 #[.pointer (some ⟨tr, 0, none⟩), .agg #[.bool v6, .int .u64 hi, .int .u64 lo]] w fun e w' => e = .returned (.tuple #[.int .i64 0, .int .i64 0, .bool false]) ∧ Below w.heap.size w w' := by
  obtain ⟨w1, hw1⟩ : ∃ w1, w1 = w.alloc (.cells #[.bool v6, .int .u64 hi, .int .u64 lo] 27) := ⟨_, rfl⟩
  have E1 := Lib.hid hw1
  have K1 := Lib.hid (show Blk w1 w.heap.size 27 #[.bool v6, .int .u64 hi, .int .u64 lo] from hw1 ▸ Blk.new w _ _)
  have B1 := Lib.hid (show Below w.heap.size w w1 from hw1 ▸ (Below.refl _ _).alloc (Nat.le_refl _) _)
  have HPR := Lib.hid (show Calls Try.prog 32 #[.agg #[.bool v6, .int .u64 hi, .int .u64 lo]] w1 (fun e w' => e = .returned (.bool false) ∧ Below w1.heap.size w1 w') from hr ▸ right_any v6 hi lo w1)
  have d0 : w1.cell? ⟨w.heap.size, 0, none⟩ = some (.bool v6) := K1.out.cell 0
  have d1 : w1.cell? ⟨w.heap.size, 1, none⟩ = some (.int .u64 hi) := K1.out.cell 1
  have d2 : w1.cell? ⟨w.heap.size, 2, none⟩ = some (.int .u64 lo) := K1.out.cell 2
  clear hw1 hr
  go_enter Try.func44, Try.ntmps44
  go_upto_region 1 with fail
  rw [← E1.out]
  go_wp2_with fail
  refine HPR.out.mono ?_
  rintro o w2 ⟨rfl, hb2⟩
  have B2 := Lib.hid (B1.out.trans (hb2.mono B1.out.size))
  clear hb2 d0 d1 d2
  go_wp2_with fail
  go_ret3
  exact ⟨rfl, B2.out⟩
set_option maxHeartbeats 16000000 in
theorem find_any (tr : Nat) (v6 : Bool) (hi lo : Int) (w : World) (At : Pos) (has : List Bool → Bool) (val : List Bool → Int) (sz : Int) (h : Tr w tr At has val sz)
    (h0 : 0 ≤ hi) (h1 : hi < 18446744073709551616) (l0 : 0 ≤ lo) (l1 : lo < 18446744073709551616) (hr : rightB v6 hi lo = true) :
    Calls Try.prog 44 #[.pointer (some ⟨tr, 0, none⟩), .agg #[.bool v6, .int .u64 hi, .int .u64 lo]] w (FindPost w (if v6 = true then 128 else 32) (fun k => has (pth v6 hi lo k)) (fun k => val (pth v6 hi lo k))) := by
  obtain ⟨n, hn⟩ : ∃ n : Nat, n = (if v6 = true then 128 else 32) := ⟨_, rfl⟩
  have hn2 : n ≤ 128 := by rw [hn]; split <;> omega
  rw [← hn]
  obtain ⟨hF, hhF⟩ : ∃ hF : Nat → Bool, hF = (fun k => has (pth v6 hi lo k)) := ⟨_, rfl⟩
  obtain ⟨vF, hvF⟩ : ∃ vF : Nat → Int, vF = (fun k => val (pth v6 hi lo k)) := ⟨_, rfl⟩
  rw [← hhF, ← hvF]
  have HHF := Lib.hid (fun k => show has (pth v6 hi lo k) = hF k from by rw [hhF])
  have HVF := Lib.hid (fun k => show val (pth v6 hi lo k) = vF k from by rw [hvF])
  obtain ⟨w1, hw1⟩ : ∃ w1, w1 = w.alloc (.cells #[.bool v6, .int .u64 hi, .int .u64 lo] 27) := ⟨_, rfl⟩
  have E1 := Lib.hid hw1
  have K1 := Lib.hid (show Blk w1 w.heap.size 27 #[.bool v6, .int .u64 hi, .int .u64 lo] from hw1 ▸ Blk.new w _ _)
  have B1 := Lib.hid (show Below w.heap.size w w1 from hw1 ▸ (Below.refl _ _).alloc (Nat.le_refl _) _)
  have HT := Lib.hid h
  have HPR := Lib.hid (show Calls Try.prog 32 #[.agg #[.bool v6, .int .u64 hi, .int .u64 lo]] w1 (fun e w' => e = .returned (.bool true) ∧ Below w1.heap.size w1 w') from hr ▸ right_any v6 hi lo w1)
  obtain ⟨r, hrr⟩ : ∃ r : Nat, r = (if v6 then 4 else 0) := ⟨_, rfl⟩
  have HRR := Lib.hid (show At [v6] = some (tr, r) from by rw [hrr]; exact h.root v6)
  have HRT := Lib.hid (show ∀ W, Calls Try.prog 52 #[.pointer (some ⟨tr, 0, none⟩), .bool v6] W fun e w' => e = .returned (.pointer (some ⟨tr, r, none⟩)) ∧ W = w' from fun W => hrr ▸ root_any tr v6 W)
  have HBI := Lib.hid (fun (i : Nat) (hi' : i < n) W => bit_any v6 hi lo i W (by omega) h0 h1 l0 l1)
  have HBS := Lib.hid (show ∀ W, Calls Try.prog 54 #[.agg #[.bool v6, .int .u64 hi, .int .u64 lo]] W (fun e w' => e = .returned (.int .i64 (n : Int)) ∧ Below W.heap.size W w') from fun W => by
    have := bits_any v6 hi lo W
    rw [show ((n : Nat) : Int) = if v6 = true then 128 else 32 from by rw [hn]; split <;> rfl]
    exact this)
  have HBZ := Lib.hid (fun i => bitZ_in v6 hi lo i)
  have d0 : w1.cell? ⟨w.heap.size, 0, none⟩ = some (.bool v6) := K1.out.cell 0
  have d1 : w1.cell? ⟨w.heap.size, 1, none⟩ = some (.int .u64 hi) := K1.out.cell 1
  have d2 : w1.cell? ⟨w.heap.size, 2, none⟩ = some (.int .u64 lo) := K1.out.cell 2
  clear hrr hw1 h hr h0 h1 l0 l1 hn hhF hvF
  go_enter Try.func44, Try.ntmps44
  go_upto_region 1 with fail
  rw [← E1.out]
  go_wp2_with fail
  refine HPR.out.mono ?_
  rintro o w2 ⟨rfl, hb2⟩
  have B2 := Lib.hid (B1.out.trans (hb2.mono B1.out.size))
  have K2 := Lib.hid (show Blk w2 w.heap.size 27 #[.bool v6, .int .u64 hi, .int .u64 lo] from K1.out.below hb2 K1.out.lt)
  have c0 : w2.cell? ⟨w.heap.size, 0, none⟩ = some (.bool v6) := K2.out.cell 0
  clear hb2 d0 d1 d2
  go_wp2_with fail
  refine (HRT.out w2).mono ?_
  rintro o w3 ⟨rfl, rfl⟩
  go_wp2_with fail
  go_loopw [7, 8, 9, 10, 11] (fun va lo_ ok at_ i wr => ∃ k : Nat, i = .int .i64 k ∧ k ≤ n ∧ va = .int .i64 (vOf vF (fnd hF k)) ∧ lo_ = .int .i64 (lOf (fnd hF k)) ∧ ok = .bool (oOf (fnd hF k)) ∧ at_ = kid (At (pth v6 hi lo k)) ∧ Below w2.heap.size w2 wr) (fun _ _ _ _ i _ => n + 1 - (intOf i).toNat)
  case atStart =>
    refine ⟨0, rfl, by omega, rfl, rfl, rfl, ?_, Below.refl _ _⟩
    show _ = kid (At [v6])
    rw [HRR.out]
    rfl
  case round =>
    obtain ⟨k, rfl, hk, rfl, rfl, rfl, rfl, hb⟩ := hrel
    obtain ⟨wo, hwo⟩ : ∃ wo, wo = wr := ⟨_, rfl⟩
    subst hwo
    have KB := Lib.hid (B2.out.trans (hb.mono B2.out.size))
    have KT := Lib.hid (HT.out.keep (fun k hk => KB.out.block k hk))
    have K3 := Lib.hid (K2.out.below hb K2.out.lt)
    have K4 := Lib.hid hb
    obtain ⟨v0, hv0⟩ : ∃ v0, v0 = vOf vF (fnd hF k) := ⟨_, rfl⟩
    obtain ⟨l0, hl0⟩ : ∃ l0, l0 = lOf (fnd hF k) := ⟨_, rfl⟩
    obtain ⟨q0, hq0⟩ : ∃ q0, q0 = oOf (fnd hF k) := ⟨_, rfl⟩
    rw [← hv0, ← hl0, ← hq0]
    have V0 := Lib.hid hv0
    have L0 := Lib.hid hl0
    have Q0 := Lib.hid hq0
    clear hb hv0 hl0 hq0 c0
    cases hq : At (pth v6 hi lo k) with
    | none =>
      have HE := Lib.hid (show fnd hF (n + 1) = fnd hF k from fnd_stay (by omega) (fun j hj _ => by rw [← HHF.out j]; exact (HT.out.out _ (none_on HT.out hq j hj)).1))
      rw [show kid none = .pointer none from rfl]
      clear hq
      go_wp2_with fail
      go_ret3
      refine ⟨?_, KB.out⟩
      show Ending.returned (.tuple #[.int .i64 v0, .int .i64 l0, .bool q0]) = _
      rw [HE.out, ← V0.out, ← L0.out, ← Q0.out]
    | some y =>
      obtain ⟨g, o⟩ := y
      rw [show kid (some (g, o)) = .pointer (some ⟨g, o, none⟩) from rfl]
      have cc := KT.out.cells _ _ _ hq
      rw [HHF.out k, HVF.out k] at cc
      have HC0 := Lib.hid cc.1.1
      have HC1 := Lib.hid cc.2.1.1
      have s2 : wo.cell? ⟨g, o + 2, none⟩ = some (.bool (hF k)) := cc.2.2.1.1
      have s3 : wo.cell? ⟨g, o + 3, none⟩ = some (.int .i64 (vF k)) := cc.2.2.2.1
      have e0 : wo.cell? ⟨w.heap.size, 0, none⟩ = some (.bool v6) := K3.out.cell 0
      have e1 : wo.cell? ⟨w.heap.size, 1, none⟩ = some (.int .u64 hi) := K3.out.cell 1
      have e2 : wo.cell? ⟨w.heap.size, 2, none⟩ = some (.int .u64 lo) := K3.out.cell 2
      have HLT := Lib.hid (KT.out.lt hq)
      have hlt2 : w.heap.size < wo.heap.size := K3.out.lt
      clear cc hq
      cases hh : hF k with
      | true =>
        rw [hh] at s2
        have HV := Lib.hid (show vOf vF (fnd hF (k + 1)) = vF k ∧ lOf (fnd hF (k + 1)) = (k : Int) ∧ oOf (fnd hF (k + 1)) = true from by
          rw [show fnd hF (k + 1) = if hF k = true then some k else fnd hF k from rfl, hh]
          exact ⟨rfl, rfl, rfl⟩)
        have HS := HBS.out wo
        by_cases hkn : k = n
        case pos =>
          subst hkn
          clear hh
          go_wp2_with fail
          refine HS.mono ?_
          rintro o_ w4 ⟨rfl, hb4⟩
          have KB4 := Lib.hid (KB.out.trans (hb4.mono KB.out.size))
          clear hb4
          go_wp2_with fail
          go_ret3
          refine ⟨?_, KB4.out⟩
          show Ending.returned (.tuple #[.int .i64 (vF k), .int .i64 ((k : Int)), .bool (true)]) = _
          rw [HV.out.1, HV.out.2.1, HV.out.2.2]
        case neg =>
          have t2 : ((k : Int) == n) = false := beq_eq_false_iff_ne.mpr (by omega)
          clear hh
          go_wp2_with fail
          refine HS.mono ?_
          rintro o_ w4 ⟨rfl, hb4⟩
          have K5 := Lib.hid hb4
          have K44 := Lib.hid (K4.out.trans (hb4.mono K4.out.size))
          have KT4 := Lib.hid (KT.out.keep (fun k hk => hb4.block k hk))
          have K34 := Lib.hid (K3.out.below hb4 K3.out.lt)
          clear s2 s3 e0 e1 e2 hb4
          rcases HBZ.out k with hz | hz
          all_goals
            have HI := Lib.hid (HBI.out k (by omega) w4.drew)
            rw [hz] at HI
          · have hb : pth v6 hi lo (k + 1) = pth v6 hi lo k ++ [false] := by
              show pth v6 hi lo k ++ [bitZ v6 hi lo k == 1] = _
              rw [hz]; rfl
            obtain ⟨nx, hnx⟩ : ∃ nx, nx = kid (At (pth v6 hi lo k ++ [false])) := ⟨_, rfl⟩
            have HX := Lib.hid (show nx = kid (At (pth v6 hi lo (k + 1))) from by rw [hb]; exact hnx)
            have HCX := HC0.out
            rw [← hnx] at HCX
            have hS : ∀ W : World, (∀ j, j < w4.heap.size → W.heap[j]? = w4.heap[j]?) → W.cell? ⟨g, o, none⟩ = some nx ∧ W.cell? ⟨w.heap.size, 0, none⟩ = some (.bool v6) ∧ W.cell? ⟨w.heap.size, 1, none⟩ = some (.int .u64 hi) ∧ W.cell? ⟨w.heap.size, 2, none⟩ = some (.int .u64 lo) := fun W hW => by
              have q := fun (x : Addr) (hx : x.block < w4.heap.size) => World.cell?_of_block (w := w4) (w' := W) (a := x) (hW _ hx)
              have l4 := K34.out.lt
              have lg : g < w4.heap.size := Nat.lt_of_lt_of_le HLT.out K5.out.size
              exact ⟨(q ⟨g, o, none⟩ lg).trans ((K5.out.cell (p := ⟨g, o, none⟩) HLT.out).trans HCX), (q ⟨w.heap.size, 0, none⟩ l4).trans (K34.out.cell 0), (q ⟨w.heap.size, 1, none⟩ l4).trans (K34.out.cell 1), (q ⟨w.heap.size, 2, none⟩ l4).trans (K34.out.cell 2)⟩
            have sS := hS w4.drew (fun _ _ => rfl)
            have HSS := Lib.hid hS
            clear hS hb hnx HCX hz
            go_wp2_with fail
            go_region_held3 (fun w' => w'.cell? ⟨g, o, none⟩ = some nx ∧ w'.cell? ⟨w.heap.size, 0, none⟩ = some (.bool v6) ∧ w'.cell? ⟨w.heap.size, 1, none⟩ = some (.int .u64 hi) ∧ w'.cell? ⟨w.heap.size, 2, none⟩ = some (.int .u64 lo)) (assumption)
              (first
                | (go_at_call 53
                   (with_reducible refine HI.out.mono ?_)
                   rintro oA wA ⟨rfl, hbA⟩
                   have HBA := Lib.hid hbA
                   have sA := HSS.out wA (fun j hj => hbA.block j hj)
                   clear hbA))
            go_wp2_with fail
            go_roundw
            case rel => exact ⟨k + 1, by simp, by omega, by rw [HV.out.1], by rw [HV.out.2.1], by rw [HV.out.2.2], HX.out, K44.out.drew.trans (HBA.out.mono K44.out.size)⟩
            case measure => simp [intOf]; omega
          · have hb : pth v6 hi lo (k + 1) = pth v6 hi lo k ++ [true] := by
              show pth v6 hi lo k ++ [bitZ v6 hi lo k == 1] = _
              rw [hz]; rfl
            obtain ⟨nx, hnx⟩ : ∃ nx, nx = kid (At (pth v6 hi lo k ++ [true])) := ⟨_, rfl⟩
            have HX := Lib.hid (show nx = kid (At (pth v6 hi lo (k + 1))) from by rw [hb]; exact hnx)
            have HCX := HC1.out
            rw [← hnx] at HCX
            have hS : ∀ W : World, (∀ j, j < w4.heap.size → W.heap[j]? = w4.heap[j]?) → W.cell? ⟨g, o + 1, none⟩ = some nx ∧ W.cell? ⟨w.heap.size, 0, none⟩ = some (.bool v6) ∧ W.cell? ⟨w.heap.size, 1, none⟩ = some (.int .u64 hi) ∧ W.cell? ⟨w.heap.size, 2, none⟩ = some (.int .u64 lo) := fun W hW => by
              have q := fun (x : Addr) (hx : x.block < w4.heap.size) => World.cell?_of_block (w := w4) (w' := W) (a := x) (hW _ hx)
              have l4 := K34.out.lt
              have lg : g < w4.heap.size := Nat.lt_of_lt_of_le HLT.out K5.out.size
              exact ⟨(q ⟨g, o + 1, none⟩ lg).trans ((K5.out.cell (p := ⟨g, o + 1, none⟩) HLT.out).trans HCX), (q ⟨w.heap.size, 0, none⟩ l4).trans (K34.out.cell 0), (q ⟨w.heap.size, 1, none⟩ l4).trans (K34.out.cell 1), (q ⟨w.heap.size, 2, none⟩ l4).trans (K34.out.cell 2)⟩
            have sS := hS w4.drew (fun _ _ => rfl)
            have HSS := Lib.hid hS
            clear hS hb hnx HCX hz
            go_wp2_with fail
            go_region_held3 (fun w' => w'.cell? ⟨g, o + 1, none⟩ = some nx ∧ w'.cell? ⟨w.heap.size, 0, none⟩ = some (.bool v6) ∧ w'.cell? ⟨w.heap.size, 1, none⟩ = some (.int .u64 hi) ∧ w'.cell? ⟨w.heap.size, 2, none⟩ = some (.int .u64 lo)) (assumption)
              (first
                | (go_at_call 53
                   (with_reducible refine HI.out.mono ?_)
                   rintro oA wA ⟨rfl, hbA⟩
                   have HBA := Lib.hid hbA
                   have sA := HSS.out wA (fun j hj => hbA.block j hj)
                   clear hbA))
            go_wp2_with fail
            go_roundw
            case rel => exact ⟨k + 1, by simp, by omega, by rw [HV.out.1], by rw [HV.out.2.1], by rw [HV.out.2.2], HX.out, K44.out.drew.trans (HBA.out.mono K44.out.size)⟩
            case measure => simp [intOf]; omega
      | false =>
        rw [hh] at s2
        have HV := Lib.hid (show vOf vF (fnd hF (k + 1)) = v0 ∧ lOf (fnd hF (k + 1)) = l0 ∧ oOf (fnd hF (k + 1)) = q0 from by
          rw [show fnd hF (k + 1) = if hF k = true then some k else fnd hF k from rfl, hh]
          rw [if_neg (by decide), V0.out, L0.out, Q0.out]; exact ⟨rfl, rfl, rfl⟩)
        have HS := HBS.out wo
        by_cases hkn : k = n
        case pos =>
          subst hkn
          clear hh
          go_wp2_with fail
          refine HS.mono ?_
          rintro o_ w4 ⟨rfl, hb4⟩
          have KB4 := Lib.hid (KB.out.trans (hb4.mono KB.out.size))
          clear hb4
          go_wp2_with fail
          go_ret3
          refine ⟨?_, KB4.out⟩
          show Ending.returned (.tuple #[.int .i64 (v0), .int .i64 (l0), .bool (q0)]) = _
          rw [HV.out.1, HV.out.2.1, HV.out.2.2]
        case neg =>
          have t2 : ((k : Int) == n) = false := beq_eq_false_iff_ne.mpr (by omega)
          clear hh
          go_wp2_with fail
          refine HS.mono ?_
          rintro o_ w4 ⟨rfl, hb4⟩
          have K5 := Lib.hid hb4
          have K44 := Lib.hid (K4.out.trans (hb4.mono K4.out.size))
          have KT4 := Lib.hid (KT.out.keep (fun k hk => hb4.block k hk))
          have K34 := Lib.hid (K3.out.below hb4 K3.out.lt)
          clear s2 s3 e0 e1 e2 hb4
          rcases HBZ.out k with hz | hz
          all_goals
            have HI := Lib.hid (HBI.out k (by omega) w4.drew)
            rw [hz] at HI
          · have hb : pth v6 hi lo (k + 1) = pth v6 hi lo k ++ [false] := by
              show pth v6 hi lo k ++ [bitZ v6 hi lo k == 1] = _
              rw [hz]; rfl
            obtain ⟨nx, hnx⟩ : ∃ nx, nx = kid (At (pth v6 hi lo k ++ [false])) := ⟨_, rfl⟩
            have HX := Lib.hid (show nx = kid (At (pth v6 hi lo (k + 1))) from by rw [hb]; exact hnx)
            have HCX := HC0.out
            rw [← hnx] at HCX
            have hS : ∀ W : World, (∀ j, j < w4.heap.size → W.heap[j]? = w4.heap[j]?) → W.cell? ⟨g, o, none⟩ = some nx ∧ W.cell? ⟨w.heap.size, 0, none⟩ = some (.bool v6) ∧ W.cell? ⟨w.heap.size, 1, none⟩ = some (.int .u64 hi) ∧ W.cell? ⟨w.heap.size, 2, none⟩ = some (.int .u64 lo) := fun W hW => by
              have q := fun (x : Addr) (hx : x.block < w4.heap.size) => World.cell?_of_block (w := w4) (w' := W) (a := x) (hW _ hx)
              have l4 := K34.out.lt
              have lg : g < w4.heap.size := Nat.lt_of_lt_of_le HLT.out K5.out.size
              exact ⟨(q ⟨g, o, none⟩ lg).trans ((K5.out.cell (p := ⟨g, o, none⟩) HLT.out).trans HCX), (q ⟨w.heap.size, 0, none⟩ l4).trans (K34.out.cell 0), (q ⟨w.heap.size, 1, none⟩ l4).trans (K34.out.cell 1), (q ⟨w.heap.size, 2, none⟩ l4).trans (K34.out.cell 2)⟩
            have sS := hS w4.drew (fun _ _ => rfl)
            have HSS := Lib.hid hS
            clear hS hb hnx HCX hz
            go_wp2_with fail
            go_region_held3 (fun w' => w'.cell? ⟨g, o, none⟩ = some nx ∧ w'.cell? ⟨w.heap.size, 0, none⟩ = some (.bool v6) ∧ w'.cell? ⟨w.heap.size, 1, none⟩ = some (.int .u64 hi) ∧ w'.cell? ⟨w.heap.size, 2, none⟩ = some (.int .u64 lo)) (assumption)
              (first
                | (go_at_call 53
                   (with_reducible refine HI.out.mono ?_)
                   rintro oA wA ⟨rfl, hbA⟩
                   have HBA := Lib.hid hbA
                   have sA := HSS.out wA (fun j hj => hbA.block j hj)
                   clear hbA))
            go_wp2_with fail
            go_roundw
            case rel => exact ⟨k + 1, by simp, by omega, by rw [HV.out.1], by rw [HV.out.2.1], by rw [HV.out.2.2], HX.out, K44.out.drew.trans (HBA.out.mono K44.out.size)⟩
            case measure => simp [intOf]; omega
          · have hb : pth v6 hi lo (k + 1) = pth v6 hi lo k ++ [true] := by
              show pth v6 hi lo k ++ [bitZ v6 hi lo k == 1] = _
              rw [hz]; rfl
            obtain ⟨nx, hnx⟩ : ∃ nx, nx = kid (At (pth v6 hi lo k ++ [true])) := ⟨_, rfl⟩
            have HX := Lib.hid (show nx = kid (At (pth v6 hi lo (k + 1))) from by rw [hb]; exact hnx)
            have HCX := HC1.out
            rw [← hnx] at HCX
            have hS : ∀ W : World, (∀ j, j < w4.heap.size → W.heap[j]? = w4.heap[j]?) → W.cell? ⟨g, o + 1, none⟩ = some nx ∧ W.cell? ⟨w.heap.size, 0, none⟩ = some (.bool v6) ∧ W.cell? ⟨w.heap.size, 1, none⟩ = some (.int .u64 hi) ∧ W.cell? ⟨w.heap.size, 2, none⟩ = some (.int .u64 lo) := fun W hW => by
              have q := fun (x : Addr) (hx : x.block < w4.heap.size) => World.cell?_of_block (w := w4) (w' := W) (a := x) (hW _ hx)
              have l4 := K34.out.lt
              have lg : g < w4.heap.size := Nat.lt_of_lt_of_le HLT.out K5.out.size
              exact ⟨(q ⟨g, o + 1, none⟩ lg).trans ((K5.out.cell (p := ⟨g, o + 1, none⟩) HLT.out).trans HCX), (q ⟨w.heap.size, 0, none⟩ l4).trans (K34.out.cell 0), (q ⟨w.heap.size, 1, none⟩ l4).trans (K34.out.cell 1), (q ⟨w.heap.size, 2, none⟩ l4).trans (K34.out.cell 2)⟩
            have sS := hS w4.drew (fun _ _ => rfl)
            have HSS := Lib.hid hS
            clear hS hb hnx HCX hz
            go_wp2_with fail
            go_region_held3 (fun w' => w'.cell? ⟨g, o + 1, none⟩ = some nx ∧ w'.cell? ⟨w.heap.size, 0, none⟩ = some (.bool v6) ∧ w'.cell? ⟨w.heap.size, 1, none⟩ = some (.int .u64 hi) ∧ w'.cell? ⟨w.heap.size, 2, none⟩ = some (.int .u64 lo)) (assumption)
              (first
                | (go_at_call 53
                   (with_reducible refine HI.out.mono ?_)
                   rintro oA wA ⟨rfl, hbA⟩
                   have HBA := Lib.hid hbA
                   have sA := HSS.out wA (fun j hj => hbA.block j hj)
                   clear hbA))
            go_wp2_with fail
            go_roundw
            case rel => exact ⟨k + 1, by simp, by omega, by rw [HV.out.1], by rw [HV.out.2.1], by rw [HV.out.2.2], HX.out, K44.out.drew.trans (HBA.out.mono K44.out.size)⟩
            case measure => simp [intOf]; omega
end Go.Proofs.Ytamndmlaikgogaa.vpD
