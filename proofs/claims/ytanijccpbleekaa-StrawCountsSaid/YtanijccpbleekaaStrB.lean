/- Layer 25: the law's own pick. -/
import Derived.Test.YtanijccpbleekaaStrA
import Derived.Test.YtanijccpbleekaaWideI
import Derived.Deep.QuietTactic
import Derived.BigQuiet
namespace Go.Proofs.Ytanijccpbleekaa.strB
open Go.ChangeShapes Go.WideShapes Go.ChangeAt Go.RowKit
open Go.Proofs.Ytanijccpbleekaa.base Go.Proofs.Ytanijccpbleekaa.wideF Go.Proofs.Ytanijccpbleekaa.wideG Go.Proofs.Ytanijccpbleekaa.wideH Go.Proofs.Ytanijccpbleekaa.wideI Go.Proofs.Ytanijccpbleekaa.strA
set_option linter.unusedVariables false

theorem few_small (A : Option Addr) (n c : Nat) (w : World) (h : n ≤ 30) : Calls Try.prog 11 #[.slice A n c] w fun o w' => o = .returned (.slice A n c) ∧ w = w' := by
  have t1 : decide ((30 : Int) < n) = false := decide_eq_false (by omega)
  go_enter Try.func11, Try.ntmps11
  go_wp2_with fail
  go_ret
  exact ⟨rfl, rfl⟩
theorem few_big (b off n c : Nat) (w : World) (h : 30 < n) (hc : n ≤ c) (hc2 : c ≤ 9223372036854775807) : Calls Try.prog 11 #[.slice (some ⟨b, off, none⟩) n c] w fun o w' => o = .returned (.slice (some ⟨b, off, none⟩) 30 c) ∧ w = w' := by
  have t1 : decide ((30 : Int) < n) = true := decide_eq_true (by omega)
  go_enter Try.func11, Try.ntmps11
  go_wp2_with fail
  go_ret
  exact ⟨rfl, rfl⟩
set_option maxHeartbeats 2000000 in
theorem pick_any (key : Int) (A : Option Addr) (n c : Nat) (l : List (Int × Int)) (w : World) (hl : l.length = n) (hn : n ≤ 1000) (hg : ∀ i, good (l.getD i (0, 0))) (hr : Row2 w w.heap.size A l) :
    Calls Try.prog 13 #[.int .u64 key, .slice A n c] w fun e w' => e = .returned (.int .i64 (plc (pk key l n))) ∧ Below w.heap.size w w' := by
  have HR := Lib.hid hr
  have HL := Lib.hid hl
  have HG := Lib.hid hg
  clear hr hl hg
  go_enter Try.func13, Try.ntmps13
  go_wp2_with fail
  go_loopw [5, 6] (fun b i wr => ∃ k : Nat, k ≤ n ∧ i = .int .i64 k ∧ b = .int .i64 (plc (pk key l k)) ∧ Below w.heap.size w wr) (fun _ i _ => n - (intOf i).toNat)
  case atStart => exact ⟨0, by omega, rfl, rfl, Below.refl _ _⟩
  case round =>
    obtain ⟨k, hk, rfl, rfl, hbel⟩ := hrel
    have HB := Lib.hid hbel
    clear hbel
    by_cases hlt : k < n
    · obtain ⟨b, off, hA, hbl, hc⟩ := (HR.out.below HB.out).at_ (by rw [HL.out]; omega)
      subst hA
      have hk0 := (hc k (by rw [HL.out]; exact hlt)).1
      have hk1 := (hc k (by rw [HL.out]; exact hlt)).2
      have hcell := Lib.hid hc
      have hp : pk key l (k + 1) = if 0 < (l.getD k (0, 0)).2 then (match pk key l k with
        | none => some k
        | some j => if shB key (l.getD k (0, 0)) (l.getD j (0, 0)) = true then some k else some j) else pk key l k := rfl
      have hgk := HG.out k
      have j0 : (0 : Int) ≤ (k : Int) := by omega
      have jk : (k : Int) < (n : Int) := by omega
      have HPL := Lib.hid (pk_lt key l k)
      clear hc
      by_cases hw : 0 < (l.getD k (0, 0)).2
      · rw [if_pos hw] at hp
        have t2 : decide (0 < (l.getD k (0, 0)).2) = true := decide_eq_true hw
        cases hm : pk key l k with
        | none =>
          rw [hm] at hp
          have HP := Lib.hid hp
          clear hp hm hw hgk
          generalize l.getD k (0, 0) = x at *
          obtain ⟨xu, xd⟩ := x
          simp only at hk0 hk1 t2
          rw [show plc none = -1 from rfl]
          go_wp2_with fail
          go_quiet (fail)
          clear hk0 hk1
          go_wp2_with fail
          go_roundw
          case rel => exact ⟨k + 1, by omega, by go_num, by rw [HP.out]; rfl, below_drewN HB.out _⟩
          case measure => simp [intOf]; omega
        | some j =>
          rw [hm] at hp
          simp only at hp
          have hj := (HPL.out j hm).1
          have hgj := HG.out j
          have hj0 := (hcell.out j (by rw [HL.out]; omega)).1
          have hj1 := (hcell.out j (by rw [HL.out]; omega)).2
          have HS := Lib.hid (fun W => shorter_any key (l.getD k (0, 0)) (l.getD j (0, 0)) hgk hgj W)
          have HP := Lib.hid hp
          clear hp hm hw hgk hgj hcell
          generalize shB key (l.getD k (0, 0)) (l.getD j (0, 0)) = q at *
          generalize l.getD k (0, 0) = x at *
          generalize l.getD j (0, 0) = y at *
          obtain ⟨xu, xd⟩ := x
          obtain ⟨yu, yd⟩ := y
          simp only at hk0 hk1 hj0 hj1 t2
          have t3 : decide ((j : Int) < 0) = false := decide_eq_false (by omega)
          have jj0 : (0 : Int) ≤ (j : Int) := by omega
          have jj : (j : Int) < (n : Int) := by omega
          rw [show plc (some j) = (j : Int) from rfl]
          have h0 := elems hk0 hk1 hj0 hj1
          go_wp2_with fail
          go_region_held3 (fun w' => Below wr.heap.size wr w' ∧ w'.cell? ⟨b, off + k * 2, none⟩ = some (.int .u64 xu) ∧ w'.cell? ⟨b, off + k * 2 + 1, none⟩ = some (.int .u64 xd) ∧ w'.cell? ⟨b, off + j * 2, none⟩ = some (.int .u64 yu) ∧ w'.cell? ⟨b, off + j * 2 + 1, none⟩ = some (.int .u64 yd))
            (first | exact h0 | (refine keep4 ?_ hb; assumption))
            (first | (go_at_call 24; (with_reducible refine (HS.out _).mono ?_); rintro e w' ⟨rfl, hb⟩))
          rename_i hH
          have HB2 := Lib.hid (HB.out.trans (hH.1.mono HB.out.size))
          clear hH h0 hk0 hk1 hj0 hj1
          cases q
          · go_wp2_with fail
            go_roundw
            case rel => exact ⟨k + 1, by omega, by go_num, by rw [HP.out]; rfl, HB2.out⟩
            case measure => simp [intOf]; omega
          · go_wp2_with fail
            go_roundw
            case rel => exact ⟨k + 1, by omega, by go_num, by rw [HP.out]; rfl, HB2.out⟩
            case measure => simp [intOf]; omega
      · rw [if_neg hw] at hp
        have t2 : decide (0 < (l.getD k (0, 0)).2) = false := decide_eq_false hw
        have HP := Lib.hid hp
        clear hp hw hgk
        generalize pk key l k = o at *
        generalize l.getD k (0, 0) = x at *
        obtain ⟨xu, xd⟩ := x
        simp only at hk0 hk1 t2
        go_wp2_with fail
        go_quiet (fail)
        clear hk0 hk1
        go_wp2_with fail
        go_roundw
        case rel => exact ⟨k + 1, by omega, by go_num, by rw [HP.out], below_drewN HB.out _⟩
        case measure => simp [intOf]; omega
    · have hkn : n = k := by omega
      subst hkn
      go_wp2_with fail
      go_ret
      exact ⟨rfl, HB.out⟩
end Go.Proofs.Ytanijccpbleekaa.strB
