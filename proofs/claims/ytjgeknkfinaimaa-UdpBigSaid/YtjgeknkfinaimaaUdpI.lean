/- Layer 11: the law on datagrams that are too long. -/
import Derived.Test.YtjgeknkfinaimaaUdpD
namespace Go.Proofs.Ytjgeknkfinaimaa.udpI
open Go.ChangeShapes Go.WideShapes Go.ChangeAt Go.RowKit
open Go.Proofs.Ytjgeknkfinaimaa.base Go.Proofs.Ytjgeknkfinaimaa.sumA Go.Proofs.Ytjgeknkfinaimaa.sumB Go.Proofs.Ytjgeknkfinaimaa.octA Go.Proofs.Ytjgeknkfinaimaa.octB Go.Proofs.Ytjgeknkfinaimaa.octC Go.Proofs.Ytjgeknkfinaimaa.octE Go.Proofs.Ytjgeknkfinaimaa.octF Go.Proofs.Ytjgeknkfinaimaa.rdrA Go.Proofs.Ytjgeknkfinaimaa.udpA Go.Proofs.Ytjgeknkfinaimaa.udpB Go.Proofs.Ytjgeknkfinaimaa.udpD
set_option linter.unusedVariables false

set_option maxRecDepth 100000 in
theorem big_any (n : Int) (n0 : -9223372036854775808 ≤ n) (n1 : n < 9223372036854775808) (w : World) :
    Calls Try.prog 3 #[.int .i64 n] w fun e w' => e = .returned (.bool true) ∧ Below w.heap.size w w' := by
  have HAW := Lib.hid awake_any
  by_cases h1 : n < 65520
  · go_enter Try.func3, Try.ntmps3
    go_wp2_with (go_at_call 8; refine (HAW.out _).mono ?_; rintro e w' ⟨rfl, hb⟩)
    go_ret
    exact ⟨rfl, hb⟩
  by_cases h2 : 65535 < n
  · go_enter Try.func3, Try.ntmps3
    go_wp2_with (go_at_call 8; refine (HAW.out _).mono ?_; rintro e w' ⟨rfl, hb⟩)
    go_ret
    exact ⟨rfl, hb⟩
  clear n0 n1
  obtain ⟨m, rfl⟩ := Int.eq_ofNat_of_zero_le (by omega : 0 ≤ n)
  obtain ⟨i0, hi0, hz0, hz1, hz2⟩ := info_parts info_u8
  have hmk := fun (W : World) => run_make_one (P := Try.prog) 23 5 i0 _ Try.underlying23 hi0 hz0 hz1 rfl .i64 .i64 (m : Int) (by omega) (by rw [hz2]; omega) (by omega) W
  have hrow : Row (w.alloc (.cells (zeros m (.int .u8 0)) 5)) (w.alloc (.cells (zeros m (.int .u8 0)) 5)).heap.size (some ⟨w.heap.size, 0, none⟩) ((List.replicate m (0 : Int)).map (.int .u8)) := by
    have := Go.Proofs.Ytjgeknkfinaimaa.sumC.row_blk (Blk.new w 5 (zeros m (.int .u8 0)))
    simpa [zeros] using this
  have HB0 := Lib.hid (show Below w.heap.size w (w.alloc (.cells (zeros m (.int .u8 0)) 5)) from (Below.refl _ _).alloc (Nat.le_refl _) _)
  have HROW := Lib.hid hrow
  clear hi0 hz0 hz1 hz2 hrow
  have k1 : (65520 : Int) ≤ (m : Int) := by omega
  have k2 : (m : Int) ≤ 65535 := by omega
  clear h1 h2
  by_cases h3 : m ≤ 65527
  · have HBY := Lib.hid (Go.Proofs.Ytjgeknkfinaimaa.udpC.bytes_any 0 0 true (some ⟨w.heap.size, 0, none⟩) none m m 0 0 (List.replicate m 0) [] (w.alloc (.cells (zeros m (.int .u8 0)) 5)) ⟨by omega, by omega, by omega, by omega⟩ (by simp) h3 HROW.out (by intro x hx; rw [List.eq_of_mem_replicate hx]; omega) rfl (by omega) (.inl rfl) (by simp))
    generalize ub 0 0 (List.replicate m 0) _ = U at *
    have k3 : decide ((65527 : Int) < (m : Int)) = false := decide_eq_false (by omega)
    obtain ⟨N, hN⟩ : ∃ N : Nat, N = 8 + m := ⟨_, rfl⟩
    have e8 : (m : Int) + 8 = (N : Int) := by omega
    have HN := Lib.hid hN
    clear hN h3
    go_enter Try.func3, Try.ntmps3
    go_wp2_with fail
    refine HBY.out.mono ?_
    rintro e w1 ⟨v, rfl, hown, hbel⟩
    rw [← HN.out] at hown
    obtain ⟨A, c, rfl⟩ := own_slice hown
    have HB1 := Lib.hid (bel_call HB0.out hbel)
    clear hown hbel hmk
    go_wp2_with (go_at_call 8; refine (HAW.out _).mono ?_; rintro e w' ⟨rfl, hb⟩)
    go_ret
    exact ⟨rfl, bel_call HB1.out hb⟩
  · have HBY := Lib.hid (bytes_big 0 0 true (some ⟨w.heap.size, 0, none⟩) none m m 0 0 (w.alloc (.cells (zeros m (.int .u8 0)) 5)) ⟨by omega, by omega, by omega, by omega⟩ (by omega) (by omega))
    have k3 : decide ((65527 : Int) < (m : Int)) = true := decide_eq_true (by omega)
    clear h3
    go_enter Try.func3, Try.ntmps3
    go_wp2_with fail
    refine HBY.out.mono ?_
    rintro e w1 ⟨rfl, hbel⟩
    have HB1 := Lib.hid (bel_call HB0.out hbel)
    clear hbel hmk
    go_wp2_with (go_at_call 8; refine (HAW.out _).mono ?_; rintro e w' ⟨rfl, hb⟩)
    go_ret
    exact ⟨rfl, bel_call HB1.out hb⟩
end Go.Proofs.Ytjgeknkfinaimaa.udpI
