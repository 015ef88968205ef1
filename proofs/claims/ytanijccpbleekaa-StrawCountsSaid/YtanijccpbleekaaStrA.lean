/- Layer 25: how long a straw is, and which one is shorter. -/
import Derived.Test.YtanijccpbleekaaOnceD
import Derived.Test.YtanijccpbleekaaMixD
import Derived.Test.YtanijccpbleekaaWideG
import Derived.Test.YtanijccpbleekaaKeep
import Derived.Deep.RegionHeld3
namespace Go.Proofs.Ytanijccpbleekaa.strA
open Go.ChangeShapes Go.WideShapes Go.ChangeAt Go.RowKit
open Go.Proofs.Ytanijccpbleekaa.base Go.Proofs.Ytanijccpbleekaa.mixA Go.Proofs.Ytanijccpbleekaa.wideC Go.Proofs.Ytanijccpbleekaa.wideD Go.Proofs.Ytanijccpbleekaa.wideF Go.Proofs.Ytanijccpbleekaa.wideG
set_option linter.unusedVariables false

theorem xsZ_in {y : Nat} (h : y < 18446744073709551616) : 0 ≤ xsZ (y : Int) ∧ xsZ (y : Int) < 18446744073709551616 := by
  have e : xsZ (y : Int) = ((xs y : Nat) : Int) := xsI h
  rw [e]
  have := xs_lt h
  omega
theorem wrapN (y : Int) : ∃ n : Nat, IntKind.u64.wrap y = (n : Int) ∧ n < 18446744073709551616 := by
  rw [IntKind.wrap_u64]
  exact ⟨(y % 18446744073709551616).toNat, by omega, by omega⟩
theorem oneZ_in (x : Int) : 0 ≤ oneZ x ∧ oneZ x < 18446744073709551616 := by
  unfold oneZ
  obtain ⟨n, h1, h2⟩ := wrapN (xsZ (IntKind.u64.wrap (xsZ x * 18397679294719823053)) * 14181476777654086739)
  rw [h1]
  exact xsZ_in h2
theorem mix_in (key id : Int) : 0 ≤ mixD.ofZ key [id] ∧ mixD.ofZ key [id] < 18446744073709551616 := oneZ_in _
/-- How long a straw is, without the weight. -/
def lenZ (key id : Int) : Int := logC.ofZ (mixD.ofZ key [id] / 281474976710656 + 1)
theorem lenZ_in (key id : Int) : 0 ≤ lenZ key id ∧ lenZ key id < 18446744073709551616 := by
  have := logC.ofZ_bd (mixD.ofZ key [id] / 281474976710656 + 1)
  unfold lenZ
  omega
/-- Is an item's straw shorter than another one's, or as long, and its number lower? -/
def shB (key : Int) (a b : Int × Int) : Bool := decide (cmpI (lenZ key a.1 * b.2) (lenZ key b.1 * a.2) < 0) || (cmpI (lenZ key a.1 * b.2) (lenZ key b.1 * a.2) == 0 && decide (a.1 < b.1))
set_option maxHeartbeats 1000000 in
theorem long_any (key id : Int) (w : World) : Calls Try.prog 15 #[.int .u64 key, .int .u64 id] w fun e w' => e = .returned (.int .u64 (lenZ key id)) ∧ Below w.heap.size w w' := by
  have hr : Row (w.alloc (.cells #[.int .u64 id] 38)) (w.heap.size + 1) (some ⟨w.heap.size, 0, none⟩) ([id].map (.int .u64)) := .inr ⟨w.heap.size, 0, rfl, by omega, fun i u hu => by
    rw [Nat.zero_add, (Blk.new w 38 #[.int .u64 id]).cell i]
    simpa using hu⟩
  have HM := Lib.hid (mixD.refof_any key _ 1 1 [id] _ _ rfl (by omega) hr)
  have hm := mix_in key id
  have he : lenZ key id = logC.ofZ (mixD.ofZ key [id] / 281474976710656 + 1) := rfl
  obtain ⟨x, hx⟩ : ∃ x, x = mixD.ofZ key [id] := ⟨_, rfl⟩
  rw [← hx] at HM hm he
  obtain ⟨hm0, hm1⟩ := hm
  have HB := Lib.hid ((Below.refl w.heap.size w).alloc (Nat.le_refl _) (.cells #[.int .u64 id] 38))
  have HE := Lib.hid he
  have HF := Lib.hid (fun d W => onceD.refof_any d W)
  clear hr hx he
  go_enter Try.func15, Try.ntmps15
  go_wp2_with fail
  refine HM.out.mono ?_
  rintro e w' ⟨rfl, rfl⟩
  go_wp2_with fail
  refine (HF.out _ _).mono ?_
  rintro e w' ⟨rfl, rfl⟩
  go_wp2_with fail
  go_ret
  exact ⟨by rw [HE.out]; rfl, HB.out⟩
set_option maxHeartbeats 2000000 in
theorem shorter_any (key : Int) (a b : Int × Int) (ga : good a) (gb : good b) (w : World) : Calls Try.prog 24 #[.int .u64 key, .agg #[.int .u64 a.1, .int .u64 a.2], .agg #[.int .u64 b.1, .int .u64 b.2]] w fun e w' => e = .returned (.bool (shB key a b)) ∧ Below w.heap.size w w' := by
  obtain ⟨au, ad⟩ := a
  obtain ⟨bu, bd⟩ := b
  obtain ⟨⟨a1, a2⟩, a3, a4⟩ := ga
  obtain ⟨⟨b1, b2⟩, b3, b4⟩ := gb
  simp only at a1 a2 a3 a4 b1 b2 b3 b4 ⊢
  have hx := lenZ_in key au
  have hy := lenZ_in key bu
  have hs : shB key (au, ad) (bu, bd) = (decide (cmpI (lenZ key au * bd) (lenZ key bu * ad) < 0) || (cmpI (lenZ key au * bd) (lenZ key bu * ad) == 0 && decide (au < bu))) := rfl
  have HL1 := Lib.hid (fun W => long_any key au W)
  have HL2 := Lib.hid (fun W => long_any key bu W)
  generalize lenZ key au = x at *
  generalize lenZ key bu = y at *
  have HC := Lib.hid (show cmp128 (x * bd / 18446744073709551616) (x * bd % 18446744073709551616) (y * ad / 18446744073709551616) (y * ad % 18446744073709551616) = cmpI (x * bd) (y * ad) from cmp128_div _ _)
  have HM1 := Lib.hid (fun W => wideB.mul_any x bd hx.1 hx.2 b3 b4 W)
  have HM2 := Lib.hid (fun W => wideB.mul_any y ad hy.1 hy.2 a3 a4 W)
  generalize cmpI (x * bd) (y * ad) = z at *
  generalize x * bd = p at *
  generalize y * ad = q at *
  have HN := Lib.hid (fun W => numCmp_any (p / 18446744073709551616) (p % 18446744073709551616) (q / 18446744073709551616) (q % 18446744073709551616) W)
  rw [HC.out] at HN
  have HS := Lib.hid hs
  have HBel := Lib.hid (((Below.refl w.heap.size w).alloc (Nat.le_refl _) (.cells #[.int .u64 au, .int .u64 ad] 44)).alloc (by simp) (.cells #[.int .u64 bu, .int .u64 bd] 44))
  have k := boxes (w := w) (a := .int .u64 au) (b := .int .u64 ad) (c := .int .u64 bu) (d := .int .u64 bd) 44 _ rfl
  obtain ⟨W, hW⟩ : ∃ W, W = (w.alloc (.cells #[.int .u64 au, .int .u64 ad] 44)).alloc (.cells #[.int .u64 bu, .int .u64 bd] 44) := ⟨_, rfl⟩
  rw [← hW] at HBel k
  have HW := Lib.hid hW
  clear hs HC hW hx hy
  go_enter Try.func24, Try.ntmps24
  go_wp2_with fail
  rw [← HW.out]
  go_region_held3 (fun w' => Below W.heap.size W w' ∧ w'.cell? ⟨w.heap.size, 0, none⟩ = some (.int .u64 au) ∧ w'.cell? ⟨w.heap.size, 1, none⟩ = some (.int .u64 ad) ∧ w'.cell? ⟨w.heap.size + 1, 0, none⟩ = some (.int .u64 bu) ∧ w'.cell? ⟨w.heap.size + 1, 1, none⟩ = some (.int .u64 bd))
    (first | exact k | (refine keep4 ?_ hb; assumption))
    (first
      | (go_at_call 15; (first | (with_reducible refine (HL1.out _).mono ?_) | (with_reducible refine (HL2.out _).mono ?_)); rintro e w' ⟨rfl, hb⟩)
      | (go_at_call 31; (first | (with_reducible refine (HM1.out _).mono ?_) | (with_reducible refine (HM2.out _).mono ?_)); rintro e w' ⟨rfl, hb⟩)
      | (go_at_call 32; (with_reducible refine (HN.out _).mono ?_); rintro e w' ⟨rfl, hb⟩))
  rename_i hH
  obtain ⟨hH0, e0, e1, e2, e3⟩ := hH
  have HZ := Lib.hid (HBel.out.trans (hH0.mono HBel.out.size))
  clear hH0 k
  rcases Int.lt_trichotomy z 0 with hz | hz | hz
  · have f1 : decide (z < 0) = true := decide_eq_true hz
    have HR := Lib.hid (show shB key (au, ad) (bu, bd) = true by rw [HS.out, f1]; rfl)
    clear hz
    go_wp2_with fail
    go_ret
    exact ⟨by rw [HR.out]; rfl, HZ.out⟩
  · subst hz
    by_cases hl : au < bu
    · have f2 : decide (au < bu) = true := decide_eq_true hl
      have HR := Lib.hid (show shB key (au, ad) (bu, bd) = true by rw [HS.out, f2]; rfl)
      clear hl
      go_wp2_with fail
      go_ret
      exact ⟨by rw [HR.out]; rfl, HZ.out⟩
    · have f2 : decide (au < bu) = false := decide_eq_false hl
      have HR := Lib.hid (show shB key (au, ad) (bu, bd) = false by rw [HS.out, f2]; rfl)
      clear hl
      go_wp2_with fail
      go_ret
      exact ⟨by rw [HR.out]; rfl, HZ.out⟩
  · have f1 : decide (z < 0) = false := by simp; omega
    have f3 : (z == 0) = false := by simp; omega
    have HR := Lib.hid (show shB key (au, ad) (bu, bd) = false by rw [HS.out, f1, f3]; rfl)
    clear hz
    go_wp2_with fail
    go_ret
    exact ⟨by rw [HR.out]; rfl, HZ.out⟩
/-- The place of the item that is picked, of the first k. -/
def pk (key : Int) (l : List (Int × Int)) : Nat → Option Nat
  | 0 => none
  | k + 1 => if 0 < (l.getD k (0, 0)).2 then (match pk key l k with
    | none => some k
    | some j => if shB key (l.getD k (0, 0)) (l.getD j (0, 0)) = true then some k else some j) else pk key l k
theorem pk_lt (key : Int) (l : List (Int × Int)) : ∀ k j, pk key l k = some j → j < k ∧ 0 < (l.getD j (0, 0)).2
  | 0, j, h => by cases h
  | k + 1, j, h => by
    have ih := pk_lt key l k
    unfold pk at h
    by_cases hw : 0 < (l.getD k (0, 0)).2
    · rw [if_pos hw] at h
      cases hm : pk key l k with
      | none =>
        rw [hm] at h
        injection h with h
        subst h
        exact ⟨by omega, hw⟩
      | some q =>
        rw [hm] at h
        simp only at h
        split at h
        · injection h with h
          subst h
          exact ⟨by omega, hw⟩
        · injection h with h
          subst h
          exact ⟨by have := (ih q hm).1; omega, (ih q hm).2⟩
    · rw [if_neg hw] at h
      exact ⟨by have := (ih j h).1; omega, (ih j h).2⟩
def plc (o : Option Nat) : Int := match o with
  | none => -1
  | some j => j
end Go.Proofs.Ytanijccpbleekaa.strA
