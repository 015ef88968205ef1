/- Layer 1: the least of fractions. -/
import Derived.Test.YtlipemjidjjenaaWideG
namespace Go.Proofs.Ytlipemjidjjenaa.wideH
open Go.ChangeShapes Go.WideShapes Go.ChangeAt Go.RowKit
open Go.Proofs.Ytlipemjidjjenaa.base Go.Proofs.Ytlipemjidjjenaa.wideC Go.Proofs.Ytlipemjidjjenaa.wideD Go.Proofs.Ytlipemjidjjenaa.wideF Go.Proofs.Ytlipemjidjjenaa.wideG
set_option linter.unusedVariables false

/-- The slice at A reads as these fractions, in blocks below B. -/
def Row2 (w : World) (B : Nat) (A : Option Addr) (xs : List (Int × Int)) : Prop :=
  xs = [] ∨ ∃ b off, A = some ⟨b, off, none⟩ ∧ b < B ∧ ∀ i, i < xs.length → w.cell? ⟨b, off + i * 2, none⟩ = some (.int .u64 (xs.getD i (0, 0)).1) ∧ w.cell? ⟨b, off + i * 2 + 1, none⟩ = some (.int .u64 (xs.getD i (0, 0)).2)
theorem Row2.below {w w' : World} {B : Nat} {A : Option Addr} {xs : List (Int × Int)} (h : Row2 w B A xs) (hb : Below B w w') : Row2 w' B A xs := by
  rcases h with h | ⟨b, off, rfl, hlt, hc⟩
  · exact .inl h
  · exact .inr ⟨b, off, rfl, hlt, fun i hi => ⟨(hb.cell (p := ⟨b, off + i * 2, none⟩) hlt).trans (hc i hi).1, (hb.cell (p := ⟨b, off + i * 2 + 1, none⟩) hlt).trans (hc i hi).2⟩⟩
theorem Row2.at_ {w : World} {B : Nat} {A : Option Addr} {xs : List (Int × Int)} (h : Row2 w B A xs) (hne : 0 < xs.length) : ∃ b off, A = some ⟨b, off, none⟩ ∧ b < B ∧ ∀ i, i < xs.length → w.cell? ⟨b, off + i * 2, none⟩ = some (.int .u64 (xs.getD i (0, 0)).1) ∧ w.cell? ⟨b, off + i * 2 + 1, none⟩ = some (.int .u64 (xs.getD i (0, 0)).2) := by
  rcases h with h | h
  · rw [h] at hne; simp at hne
  · exact h

theorem box_el {w : World} {p : Addr} {q : Addr} {u v x y : Value} {t : TypeId} (h1 : w.cell? p = some x) (h2 : w.cell? q = some y) (W : World) (hW : W = w.alloc (.cells #[u, v] t)) :
    Below W.heap.size W W.drew ∧ W.drew.cell? ⟨w.heap.size, 0, none⟩ = some u ∧ W.drew.cell? ⟨w.heap.size, 1, none⟩ = some v ∧ W.drew.cell? p = some x ∧ W.drew.cell? q = some y := by
  subst hW
  have hb : Below w.heap.size w (w.alloc (.cells #[u, v] t)).drew := ((Below.refl _ _).alloc (Nat.le_refl _) _).drew
  exact ⟨(Below.refl _ _).drew, (Blk.new w t #[u, v]).drew.cell 0, (Blk.new w t #[u, v]).drew.cell 1, kept h1 hb, kept h2 hb⟩
theorem least_any (A : Option Addr) (n c : Nat) (l : List (Int × Int)) (w : World) (hl : l.length = n) (hn : n ≤ 1000) (hg : ∀ i, good (l.getD i (0, 0))) (hr : Row2 w w.heap.size A l) :
    Calls Try.prog 30 #[.slice A n c] w fun e w' => e = .returned (.int .i64 (place (least l n))) ∧ Below w.heap.size w w' := by
  have HR := Lib.hid hr
  have HL := Lib.hid hl
  have HG := Lib.hid hg
  clear hr hl hg
  go_enter Try.func30, Try.ntmps30
  go_wp2_with fail
  go_loopw [3, 4, 5, 8] (fun s a b i wr => ∃ k : Nat, k ≤ n ∧ i = .int .i64 k ∧ s = .int .i64 (place (least l k)) ∧ Below w.heap.size w wr) (fun _ _ _ i _ => n - (intOf i).toNat)
  case atStart => exact ⟨0, by omega, rfl, rfl, Below.refl _ _⟩
  case round =>
    obtain ⟨k, hk, rfl, rfl, hbel⟩ := hrel
    have HBel := Lib.hid hbel
    have hsz := hbel.size
    by_cases hlt : k < n
    · have hkl : k < l.length := by rw [HL.out]; exact hlt
      obtain ⟨b, off, rfl, hbl, hc⟩ := (HR.out.below hbel).at_ (by omega)
      have HC := Lib.hid hc
      have hk0 := (hc k hkl).1
      have hk1 := (hc k hkl).2
      have hgk := HG.out k
      have hst : least l (k + 1) = match least l k with
        | none => some k
        | some j => if cf (l.getD k (0, 0)) (l.getD j (0, 0)) < 0 then some k else some j := rfl
      clear hc hbel
      cases hm : least l k with
      | none =>
        rw [hm] at hst
        have HST := Lib.hid hst
        clear hst hm
        generalize l.getD k (0, 0) = x at *
        obtain ⟨xu, xd⟩ := x
        simp only at hk0 hk1
        rw [show place none = -1 from rfl]
        go_wp2_with fail
        go_region
        go_wp2_with fail
        go_roundw
        case rel => exact ⟨k + 1, by omega, by go_num, by rw [HST.out]; rfl, bel_drew (HBel.out.alloc hsz _)⟩
        case measure => simp [intOf]; omega
      | some j =>
        rw [hm] at hst
        simp only at hst
        have hjk : j < k := (least_is l HG.out k j hm).1
        have hj0 := (HC.out j (by omega)).1
        have hj1 := (HC.out j (by omega)).2
        have hgj := HG.out j
        have hnj : ((j : Int) == -1) = false := by simp <;> omega
        have hj2 : (j : Int) < (n : Int) := by omega
        have hj3 : (0 : Int) ≤ (j : Int) := by omega
        clear hm
        generalize l.getD k (0, 0) = x at *
        generalize l.getD j (0, 0) = y at *
        obtain ⟨xu, xd⟩ := x
        obtain ⟨yu, yd⟩ := y
        simp only at hk0 hk1 hj0 hj1
        obtain ⟨⟨a1, a2⟩, b1, b2⟩ := hgk
        obtain ⟨⟨c1, c2⟩, d1, d2⟩ := hgj
        simp only at a1 a2 b1 b2 c1 c2 d1 d2
        have hcf : cf (xu, xd) (yu, yd) = cmpF xu xd yu yd := rfl
        rw [hcf] at hst
        rw [show place (some j) = (j : Int) from rfl]
        by_cases hd : cmpF xu xd yu yd < 0
        · rw [if_pos hd] at hst
          have HST := Lib.hid hst
          have hdd : decide (cmpF xu xd yu yd < 0) = true := by simpa using hd
          clear hst hd hcf
          go_wp2_with fail
          have hbel : Below w.heap.size w (wr.alloc (.cells #[.int .u64 xu, .int .u64 xd] 43)) := HBel.out.alloc hsz _
          have h0 := box_el (t := 43) (u := .int .u64 xu) (v := .int .u64 xd) hj0 hj1 _ rfl
          generalize wr.alloc (.cells #[.int .u64 xu, .int .u64 xd] 43) = W at *
          have HBW := Lib.hid hbel
          clear hbel hk0 hk1 hj0 hj1
          go_region_held3 (fun w' => Below W.heap.size W w' ∧ w'.cell? ⟨wr.heap.size, 0, none⟩ = some (.int .u64 xu) ∧ w'.cell? ⟨wr.heap.size, 1, none⟩ = some (.int .u64 xd) ∧ w'.cell? ⟨b, off + j * 2, none⟩ = some (.int .u64 yu) ∧ w'.cell? ⟨b, off + j * 2 + 1, none⟩ = some (.int .u64 yd))
            (first | exact h0 | (refine keep4 ?_ hb; assumption))
            (first | (go_at_call 29; refine (fracCmp_any _ _ _ _ a1 a2 b1 b2 c1 c2 d1 d2 _).mono ?_; rintro e w' ⟨rfl, hb⟩))
          go_wp2_with fail
          go_roundw
          case rel => exact ⟨k + 1, by omega, by go_num, by rw [HST.out]; rfl, (by rename_i hH; exact HBW.out.trans (hH.1.mono HBW.out.size))⟩
          case measure => simp [intOf]; omega
        · rw [if_neg hd] at hst
          have HST := Lib.hid hst
          have hdd : decide (cmpF xu xd yu yd < 0) = false := by simpa using hd
          clear hst hd hcf
          go_wp2_with fail
          have hbel : Below w.heap.size w (wr.alloc (.cells #[.int .u64 xu, .int .u64 xd] 43)) := HBel.out.alloc hsz _
          have h0 := box_el (t := 43) (u := .int .u64 xu) (v := .int .u64 xd) hj0 hj1 _ rfl
          generalize wr.alloc (.cells #[.int .u64 xu, .int .u64 xd] 43) = W at *
          have HBW := Lib.hid hbel
          clear hbel hk0 hk1 hj0 hj1
          go_region_held3 (fun w' => Below W.heap.size W w' ∧ w'.cell? ⟨wr.heap.size, 0, none⟩ = some (.int .u64 xu) ∧ w'.cell? ⟨wr.heap.size, 1, none⟩ = some (.int .u64 xd) ∧ w'.cell? ⟨b, off + j * 2, none⟩ = some (.int .u64 yu) ∧ w'.cell? ⟨b, off + j * 2 + 1, none⟩ = some (.int .u64 yd))
            (first | exact h0 | (refine keep4 ?_ hb; assumption))
            (first | (go_at_call 29; refine (fracCmp_any _ _ _ _ a1 a2 b1 b2 c1 c2 d1 d2 _).mono ?_; rintro e w' ⟨rfl, hb⟩))
          go_wp2_with fail
          go_roundw
          case rel => exact ⟨k + 1, by omega, by go_num, by rw [HST.out]; rfl, (by rename_i hH; exact HBW.out.trans (hH.1.mono HBW.out.size))⟩
          case measure => simp [intOf]; omega
    · have hkn : k = n := by omega
      subst hkn
      clear hbel
      go_wp2
      go_ret
      exact ⟨rfl, HBel.out⟩
end Go.Proofs.Ytlipemjidjjenaa.wideH
