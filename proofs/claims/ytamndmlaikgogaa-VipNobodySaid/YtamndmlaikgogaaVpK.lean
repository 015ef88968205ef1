/- Layer 30: chapter 30's example. -/
import Derived.Test.YtamndmlaikgogaaVpJ
import Derived.Test.YtamndmlaikgogaaVdN
namespace Go.Proofs.Ytamndmlaikgogaa.vpK
open Go.ChangeShapes Go.WideShapes Go.ChangeAt Go.RowKit
open Go.Proofs.Ytamndmlaikgogaa.base Go.Proofs.Ytamndmlaikgogaa.dfA Go.Proofs.Ytamndmlaikgogaa.treB Go.Proofs.Ytamndmlaikgogaa.treM Go.Proofs.Ytamndmlaikgogaa.vdA Go.Proofs.Ytamndmlaikgogaa.vdH Go.Proofs.Ytamndmlaikgogaa.vdJ Go.Proofs.Ytamndmlaikgogaa.vdN Go.Proofs.Ytamndmlaikgogaa.vpA Go.Proofs.Ytamndmlaikgogaa.vpB Go.Proofs.Ytamndmlaikgogaa.vpC Go.Proofs.Ytamndmlaikgogaa.vpD Go.Proofs.Ytamndmlaikgogaa.vpE Go.Proofs.Ytamndmlaikgogaa.vpF Go.Proofs.Ytamndmlaikgogaa.vpG Go.Proofs.Ytamndmlaikgogaa.vpH Go.Proofs.Ytamndmlaikgogaa.vpI Go.Proofs.Ytamndmlaikgogaa.vpJ
set_option linter.unusedVariables false

def exV : Vp := ⟨false, 0, 0, 6, 0, 1, false⟩
def exF (g v : Nat) : Cf := ⟨some ⟨g, 0, none⟩, 1, [ex0], some ⟨v, 0, none⟩, 1, [exV], none, 0, [], 140, 2, false, 0, 0, false, 0, 0⟩
def exX : Tq := ⟨6, false, 0, 0, false, 0, 0, 0, 80⟩
theorem exf_good (g v : Nat) : confE (exF g v) = 0 := by kernel_rfl
theorem exf_in {W : World} {g v : Nat} (h : Blk W g 44 #[.string ⟨#[108]⟩, .int .i64 1, .int .i64 (-1), .int .i64 0, .bool false, .int .u64 0, .int .u64 0]) (hv : Blk W v 48 #[.bool false, .int .u64 0, .int .u64 0, .int .i64 6, .int .i64 0, .int .i64 1, .bool false]) : CfIn W (exF g v) where
  rn := .inr ⟨g, 0, rfl, h.lt, fun j hj i hi => by
    have hj3 : j < 1 := hj
    rw [h.cell]
    have hc : (j = 0) ∧ (i = 0 ∨ i = 1 ∨ i = 2 ∨ i = 3 ∨ i = 4 ∨ i = 5 ∨ i = 6) := by omega
    rcases hc with ⟨rfl, rfl | rfl | rfl | rfl | rfl | rfl | rfl⟩ <;> rfl⟩
  cn := (show 1 ≤ 1 by omega)
  cn2 := (show 1 ≤ 9223372036854775807 by omega)
  n1 := (show 1 ≤ 60 by omega)
  nm := fun j hj => by
    have hj3 : j < 1 := hj
    obtain rfl : j = 0 := by omega
    exact (show (1 : Nat) ≤ 9223372036854775807 by omega)
  rv := .inr ⟨v, 0, rfl, hv.lt, fun j hj i hi => by
    have hj3 : j < 1 := hj
    rw [hv.cell]
    have hc : (j = 0) ∧ (i = 0 ∨ i = 1 ∨ i = 2 ∨ i = 3 ∨ i = 4 ∨ i = 5 ∨ i = 6) := by omega
    rcases hc with ⟨rfl, rfl | rfl | rfl | rfl | rfl | rfl | rfl⟩ <;> rfl⟩
  cv := (show 1 ≤ 1 by omega)
  cv2 := (show 1 ≤ 9223372036854775807 by omega)
  v1 := (show 1 ≤ 1000 by omega)
  rw_ := .inl rfl
  cw := Nat.le_refl _
  cw2 := (show 0 ≤ 9223372036854775807 by omega)
  w1 := (show 0 ≤ 1000 by omega)
  vu := fun j hj => absurd hj (by show ¬ j < 0; omega)
theorem exx_in : exX.In := ⟨by decide, by decide, by decide, by decide, by decide, by decide, by decide⟩
theorem exv_in (j : Nat) (hj : j < [exV].length) : VpIn ([exV].getD j zVp) := by
  have hj3 : j < 1 := hj
  obtain rfl : j = 0 := by omega
  exact ⟨by decide, by decide, by decide, by decide⟩
theorem exm : mVp [exV] exX = exV ∧ (mIx [exV] exX).isSome = true := ⟨by kernel_rfl, by kernel_rfl⟩
set_option maxHeartbeats 8000000 in
set_option maxRecDepth 100000 in
theorem awake_any (w : World) : Calls Try.prog 17 #[] w fun o w' => o = .returned (.bool true) ∧ Below w.heap.size w w' := by
  obtain ⟨w0, hw0⟩ : ∃ w0, w0 = w.alloc (.cells #[.string ⟨#[108]⟩, .int .i64 1, .int .i64 (-1), .int .i64 0, .bool false, .int .u64 0, .int .u64 0] 44) := ⟨_, rfl⟩
  obtain ⟨w1, hw1⟩ : ∃ w1, w1 = w0.alloc (.cells #[.bool false, .int .u64 0, .int .u64 0, .int .i64 6, .int .i64 0, .int .i64 1, .bool false] 48) := ⟨_, rfl⟩
  have E0 := Lib.hid hw0
  have E1 := Lib.hid hw1
  obtain ⟨g, hg⟩ : ∃ g, g = w.heap.size + 1 := ⟨_, rfl⟩
  have hsz : w0.heap.size = w.heap.size + 1 := by rw [hw0]; simp
  have EG := Lib.hid hg
  have K0 := Lib.hid (show Blk w0 w.heap.size 44 #[.string ⟨#[108]⟩, .int .i64 1, .int .i64 (-1), .int .i64 0, .bool false, .int .u64 0, .int .u64 0] from hw0 ▸ Blk.new w _ _)
  have K1 := Lib.hid (show Blk w1 g 48 #[.bool false, .int .u64 0, .int .u64 0, .int .i64 6, .int .i64 0, .int .i64 1, .bool false] from by rw [hw1, hg, ← hsz]; exact Blk.new w0 _ _)
  have B0 := Lib.hid (show Below w.heap.size w w0 from hw0 ▸ (Below.refl _ _).alloc (Nat.le_refl _) _)
  have B1 := Lib.hid (show Below w0.heap.size w0 w1 from hw1 ▸ (Below.refl _ _).alloc (Nat.le_refl _) _)
  have K01 := Lib.hid (show Blk w1 w.heap.size 44 #[.string ⟨#[108]⟩, .int .i64 1, .int .i64 (-1), .int .i64 0, .bool false, .int .u64 0, .int .u64 0] from K0.out.below B1.out K0.out.lt)
  have BB := Lib.hid (show Below w.heap.size w w1 from B0.out.trans (B1.out.mono B0.out.size))
  have HC := Lib.hid (show Calls Try.prog 10 #[.agg #[.slice (some ⟨w.heap.size, 0, none⟩) 1 1, .slice (some ⟨g, 0, none⟩) 1 1, .slice none 0 0, .int .i64 140, .int .i64 2, .bool false, .int .u64 0, .int .u64 0, .bool false, .int .u64 0, .int .u64 0]] w1 (fun o w' => NewC (exF w.heap.size g) w1 o w' ∧ Below w1.heap.size w1 w') from new_c (exF w.heap.size g) w1 (exf_in K01.out K1.out))
  clear hw0 hw1 hg hsz
  go_enter Try.func17, Try.ntmps17
  go_wp2_with (go_at_call 10; rw [← E0.out, ← E1.out, ← EG.out]; (with_reducible refine HC.out.mono ?_); rintro o w3 ⟨hn, hb3⟩; rcases hn with ⟨h0, _⟩ | ⟨_, g2, T, d, rfl, hok, hsm, _, _⟩; (exact absurd (exf_good w.heap.size g) h0))
  have B3 := Lib.hid (BB.out.trans (hb3.mono BB.out.size))
  have hdv : d.vps = [exV] := hsm.vps
  have hdw : d.vws = [] := hsm.vws
  have HN := Lib.hid (new_t hok (by rw [hdv]; exact exv_in) (by rw [hdv]; decide) (by rw [hdw]; decide) (by rw [hdw]; intro j hj; exact absurd hj (by show ¬ j < 0; omega)))
  have HDV := Lib.hid hdv
  clear hb3 hsm hdv hdw hok
  refine HN.out.mono ?_
  rintro o w4 ⟨tb, tr, mb, ob, A, k, At, rfl, htab, hb4, _⟩
  have B4 := Lib.hid (B3.out.trans (hb4.mono B3.out.size))
  rw [HDV.out] at htab
  have HM := Lib.hid (match_any htab exv_in exX exx_in)
  rw [exm.1, exm.2] at HM
  have HM := Lib.hid (show Calls Try.prog 20 #[.pointer (some ⟨tb, 0, none⟩), .agg #[.int .i64 6, .bool false, .int .u64 0, .int .u64 0, .bool false, .int .u64 0, .int .u64 0, .int .i64 0, .int .i64 80]] w4 (fun e w' => e = .returned (.tuple #[.agg #[.bool false, .int .u64 0, .int .u64 0, .int .i64 6, .int .i64 0, .int .i64 1, .bool false], .bool true]) ∧ Below w4.heap.size w4 w') from HM.out)
  clear htab hb4
  go_wp2_with fail
  refine HM.out.mono ?_
  rintro o w5 ⟨rfl, hb5⟩
  have B5 := Lib.hid (B4.out.trans (hb5.mono B4.out.size))
  clear hb5
  obtain ⟨w6, hw6⟩ : ∃ w6, w6 = w5.alloc (.cells #[.bool false, .int .u64 0, .int .u64 0, .int .i64 6, .int .i64 0, .int .i64 1, .bool false] 48) := ⟨_, rfl⟩
  have E6 := Lib.hid hw6
  have K6 := Lib.hid (show Blk w6 w5.heap.size 48 #[.bool false, .int .u64 0, .int .u64 0, .int .i64 6, .int .i64 0, .int .i64 1, .bool false] from hw6 ▸ Blk.new w5 _ _)
  have B6 := Lib.hid (B5.out.trans ((show Below w5.heap.size w5 w6 from hw6 ▸ (Below.refl _ _).alloc (Nat.le_refl _) _).mono B5.out.size))
  have k3 : w6.cell? ⟨w5.heap.size, 5, none⟩ = some (.int .i64 1) := K6.out.cell 5
  have HNN := Lib.hid (new_nil w6)
  clear hw6
  go_upto_region 3 with fail
  rw [← E6.out]
  go_wp2_with fail
  refine HNN.out.mono ?_
  rintro o w7 ⟨rfl, rfl⟩
  go_wp2_with fail
  go_ret
  exact ⟨rfl, B6.out⟩
end Go.Proofs.Ytamndmlaikgogaa.vpK
