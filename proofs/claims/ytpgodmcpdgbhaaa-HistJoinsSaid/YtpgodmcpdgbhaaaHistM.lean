/- Layer 38: the law on what a histogram says. -/
import Derived.Test.YtpgodmcpdgbhaaaHistL
import Derived.Test.YtpgodmcpdgbhaaaHistB
namespace Go.Proofs.Ytpgodmcpdgbhaaa.histM
open Go.ChangeShapes Go.WideShapes Go.ChangeAt Go.RowKit
open Go.Proofs.Ytpgodmcpdgbhaaa.base Go.Proofs.Ytpgodmcpdgbhaaa.countA Go.Proofs.Ytpgodmcpdgbhaaa.countC Go.Proofs.Ytpgodmcpdgbhaaa.countE Go.Proofs.Ytpgodmcpdgbhaaa.countG Go.Proofs.Ytpgodmcpdgbhaaa.histD Go.Proofs.Ytpgodmcpdgbhaaa.histF Go.Proofs.Ytpgodmcpdgbhaaa.histI Go.Proofs.Ytpgodmcpdgbhaaa.histK Go.Proofs.Ytpgodmcpdgbhaaa.histL
set_option linter.unusedVariables false

set_option maxRecDepth 100000 in
set_option maxHeartbeats 4000000 in
theorem says_any (A : Option Addr) (n c : Nat) (l : List Int) (part : Int) (w : World) (hl : l.length = n) (hc : n ≤ c) (hm : c ≤ 9223372036854775807) (hr : Row w w.heap.size A (l.map (.int .u64))) (hu : U64 l) (p0 : -9223372036854775808 ≤ part) (p1 : part < 9223372036854775808) :
    Calls Try.prog 5 #[.slice A n c, .int .i64 part] w fun e w' => e = .returned (.bool true) ∧ Below w.heap.size w w' := by
  have HFEW := Lib.hid (few_any A n c w.heap.size l w hl hc hm hr hu)
  obtain ⟨Z, hZ0⟩ : ∃ Z : Array Value, Z = Z70 := ⟨_, rfl⟩
  have hz : ∀ w : World, (zeroValue 56).run Try.prog w = .ok (.agg Z) w := by rw [hZ0]; exact (zero_of_info zero70).1
  have ZA : At70 Z (fun _ => 0) := by rw [hZ0]; exact z70_at
  have sz : Z.size = 70 := ZA.1
  have sz2 : ¬ Z = #[] := by intro h; rw [h] at sz; cases sz
  have HNEW := Lib.hid (hs_new w Z hZ0)
  clear hl hc hm hr hu hZ0 ZA
  go_enter Try.func5, Try.ntmps5
  go_wp2_with fail
  refine HFEW.out.mono ?_
  rintro e w' ⟨m, S, rfl, rfl, hl, hm, hmc, hr, hu⟩
  have HL := Lib.hid hl
  have HR := Lib.hid hr
  have HU := Lib.hid hu
  have HADD := Lib.hid (add_hs w.heap.size w.heap.size A m c S (w.alloc (.cells Z 56)) hl (by omega) hu (hr.below ((Below.refl _ _).alloc (Nat.le_refl _) _)) (Nat.le_refl _) HNEW.out)
  clear hl hr hu
  go_wp2_with fail
  refine HADD.out.mono ?_
  rintro e w2 ⟨rfl, h2, hb2⟩
  have b2 : Below w.heap.size w w2 := hb2.low ((Below.refl _ _).alloc (Nat.le_refl _) _) (Nat.le_refl _) (by simp)
  have HS := Lib.hid h2
  have HB2 := Lib.hid b2
  have HSO := Lib.hid (sorted_any A m c S w2 HL.out (by omega) ((HR.out.below b2).more b2.size))
  clear h2 hb2 b2
  go_wp2_with (first
    | (go_at_call 20; (with_reducible refine HSO.out.mono ?_); rintro e w3 ⟨g3, T, rfl, l3, p3, s3, r3, b3⟩; have HB3 := Lib.hid (HB2.out.trans (b3.mono HB2.out.size)); have HAL := Lib.hid (show ∀ part : Int, -9223372036854775808 ≤ part → part < 9223372036854775808 → Calls Try.prog 19 #[.pointer (some ⟨w.heap.size, 0, none⟩), .slice (some ⟨g3, 0, none⟩) m m, .int .i64 part] w3 fun e w' => e = .returned (.bool true) ∧ Below w3.heap.size w3 w' from fun part q0 q1 => alike_any w.heap.size m m _ T part w3 (by obtain ⟨cs, f, h1, h2, h3⟩ := HS.out; exact ⟨cs, f, h1.below b3 h1.lt, h2, h3.perm p3.symm⟩) (HU.out.perm p3.symm) s3 l3 (by omega) r3 q0 q1); clear l3 p3 s3 r3 b3)
    | (go_at_call 19; (with_reducible refine (HAL.out part p0 p1).mono ?_); rintro e w4 ⟨rfl, b4⟩; have HB4 := Lib.hid (HB3.out.trans (b4.mono HB3.out.size)); clear b4)
    | (go_at_call 21; refine (histB.awake_any _).mono ?_; rintro e w' ⟨rfl, rfl⟩))
  go_ret
  exact ⟨rfl, HB4.out⟩
end Go.Proofs.Ytpgodmcpdgbhaaa.histM
