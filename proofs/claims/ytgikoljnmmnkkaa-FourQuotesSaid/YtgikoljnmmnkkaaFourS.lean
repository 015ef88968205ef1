/- Layer 8: what goes into a check beside what is behind a header. -/
import Derived.Test.YtgikoljnmmnkkaaFourG
import Derived.Test.YtgikoljnmmnkkaaFourL
namespace Go.Proofs.Ytgikoljnmmnkkaa.fourS
open Go.ChangeShapes Go.WideShapes Go.ChangeAt Go.RowKit
open Go.Proofs.Ytgikoljnmmnkkaa.base Go.Proofs.Ytgikoljnmmnkkaa.sumA Go.Proofs.Ytgikoljnmmnkkaa.sumB Go.Proofs.Ytgikoljnmmnkkaa.octA Go.Proofs.Ytgikoljnmmnkkaa.octB Go.Proofs.Ytgikoljnmmnkkaa.octC Go.Proofs.Ytgikoljnmmnkkaa.octD Go.Proofs.Ytgikoljnmmnkkaa.octE Go.Proofs.Ytgikoljnmmnkkaa.octF Go.Proofs.Ytgikoljnmmnkkaa.octK Go.Proofs.Ytgikoljnmmnkkaa.rdrA Go.Proofs.Ytgikoljnmmnkkaa.udpA Go.Proofs.Ytgikoljnmmnkkaa.tcpC Go.Proofs.Ytgikoljnmmnkkaa.net Go.Proofs.Ytgikoljnmmnkkaa.fourA Go.Proofs.Ytgikoljnmmnkkaa.fourB Go.Proofs.Ytgikoljnmmnkkaa.fourC Go.Proofs.Ytgikoljnmmnkkaa.fourD Go.Proofs.Ytgikoljnmmnkkaa.fourE Go.Proofs.Ytgikoljnmmnkkaa.fourF Go.Proofs.Ytgikoljnmmnkkaa.fourG Go.Proofs.Ytgikoljnmmnkkaa.fourL
set_option linter.unusedVariables false

theorem wrap_in (x : Int) : 0 ≤ IntKind.u64.wrap x ∧ IntKind.u64.wrap x < 18446744073709551616 := by rw [IntKind.wrap_u64]; omega
set_option maxRecDepth 100000 in
set_option maxHeartbeats 4000000 in
theorem pseudo_any (s6 : Bool) (sh sl : Int) (d6 : Bool) (dh dl proto size : Int) (w : World) (l0 : 0 ≤ sl ∧ sl < 18446744073709551616) (l1 : 0 ≤ dl ∧ dl < 18446744073709551616) (pz sz : Int) (hpz : IntKind.u64.wrap proto = pz) (hsz : IntKind.u64.wrap size = sz) :
    Calls Try.prog 35 #[.agg #[.bool s6, .int .u64 sh, .int .u64 sl], .agg #[.bool d6, .int .u64 dh, .int .u64 dl], .int .i64 proto, .int .i64 size] w fun e w' => ∃ v, e = .returned v ∧ w'.ownsRow w.heap.size 5 1 v 12 (((allb 4 [sl, dl] ++ allb 1 [0, pz]) ++ pb sz 2 2).map (.int .u8)) ∧ Below w.heap.size w w' := by
  have HS1 := Lib.hid (show hs 1 = 1 by decide)
  have HS2 := Lib.hid (show hs 2 = 2 by decide)
  have HS4 := Lib.hid (show hs 4 = 4 by decide)
  have pw := hpz ▸ wrap_in proto
  have sw := hsz ▸ wrap_in size
  have HPW := Lib.hid pw
  have HSW := Lib.hid sw
  have U1 := Lib.hid (show ∀ x ∈ ([sl, dl] : List Int), 0 ≤ x ∧ x < 18446744073709551616 by intro x hx; simp only [List.mem_cons, List.not_mem_nil, or_false] at hx; rcases hx with rfl | rfl <;> omega)
  have U2 := Lib.hid (show ∀ x ∈ ([0, pz] : List Int), 0 ≤ x ∧ x < 18446744073709551616 by intro x hx; simp only [List.mem_cons, List.not_mem_nil, or_false] at hx; rcases hx with rfl | rfl <;> omega)
  have HZ := Lib.hid (show ((w.alloc (.cells #[.bool s6, .int .u64 sh, .int .u64 sl] 41)).alloc (.cells #[.bool d6, .int .u64 dh, .int .u64 dl] 41)).heap.size = w.heap.size + 1 + 1 by simp)
  have HB0 := Lib.hid (show Below w.heap.size w ((w.alloc (.cells #[.bool s6, .int .u64 sh, .int .u64 sl] 41)).alloc (.cells #[.bool d6, .int .u64 dh, .int .u64 dl] 41)) from ((Below.refl _ _).alloc (Nat.le_refl _) _).alloc (by simp) _)
  have HB1 := Lib.hid (HB0.out.alloc (by rw [HZ.out]; omega) (.cells #[.int .u64 sl, .int .u64 dl] 39))
  have hk := Blk.new ((w.alloc (.cells #[.bool s6, .int .u64 sh, .int .u64 sl] 41)).alloc (.cells #[.bool d6, .int .u64 dh, .int .u64 dl] 41)) 39 #[.int .u64 sl, .int .u64 dl]
  rw [HZ.out] at hk
  have hal := all_keep (w.heap.size + 1 + 1) #[.int .u64 sl, .int .u64 dl] (.slice none 0 0) 0 [] 4 2 2 [sl, dl] w.heap.size w.heap.size w (((w.alloc (.cells #[.bool s6, .int .u64 sh, .int .u64 sl] 41)).alloc (.cells #[.bool d6, .int .u64 dh, .int .u64 dl] 41)).alloc (.cells #[.int .u64 sl, .int .u64 dl] 39)) (World.ownsRow_nil _ _ _ _) HB1.out.size (by omega) HB1.out (Nat.le_refl _) rfl hk rfl U1.out
  rw [HS4.out] at hal
  have HAL := Lib.hid hal
  clear hal hk l0 l1 pw sw
  go_enter Try.func35, Try.ntmps35
  go_wp2_with fail
  refine HAL.out.mono ?_
  rintro e w1 ⟨v1, rfl, hown, hbel, hsz_, _⟩
  have HO1 := Lib.hid (show w1.ownsRow w.heap.size 5 1 v1 8 ((allb 4 [sl, dl]).map (.int .u8)) from hown)
  have HBa := Lib.hid (hbel.alloc hsz_ (.cells #[.int .u64 0, .int .u64 pz] 39))
  have hal := all_keep w1.heap.size #[.int .u64 0, .int .u64 pz] v1 8 ((allb 4 [sl, dl]).map (.int .u8)) 1 2 2 [0, pz] w.heap.size w.heap.size w (w1.alloc (.cells #[.int .u64 0, .int .u64 pz] 39)) (HO1.out.alloc _) HBa.out.size (by omega) HBa.out (Nat.le_refl _) rfl (Blk.new w1 39 #[.int .u64 0, .int .u64 pz]) rfl U2.out
  rw [HS1.out] at hal
  have HAL2 := Lib.hid hal
  clear hal hown hbel hsz_ HAL HBa
  go_wp2_with fail
  refine HAL2.out.mono ?_
  rintro e w2 ⟨v2, rfl, hown, hbel, hsz_, _⟩
  have HO2 := Lib.hid (show w2.ownsRow w.heap.size 5 1 v2 10 ((allb 4 [sl, dl] ++ allb 1 [0, pz]).map (.int .u8)) by rw [List.map_append]; exact hown)
  have hp := put_any v2 10 _ sz 2 w.heap.size w.heap.size w w2 HO2.out hsz_ (by omega) hbel (Nat.le_refl _) HSW.out.1 HSW.out.2
  rw [HS2.out] at hp
  have HP := Lib.hid hp
  clear hp hown hbel hsz_ HAL2 HO1
  go_wp2_with fail
  refine HP.out.mono ?_
  rintro e w3 ⟨v3, rfl, hown, hbel, hsz_⟩
  go_wp2_with fail
  go_ret
  exact ⟨_, rfl, by rw [List.map_append]; exact hown, hbel⟩
end Go.Proofs.Ytgikoljnmmnkkaa.fourS
