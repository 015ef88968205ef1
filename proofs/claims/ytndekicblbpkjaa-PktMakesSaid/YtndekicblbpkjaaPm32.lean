/- 3 texts in one. -/
import Derived.Lib.SmallJoins
import Derived.Deep.Slices
import Derived.Deep.Fields
import Derived.Test.YtndekicblbpkjaaPm01
import Derived.Test.YtndekicblbpkjaaPm26
import Derived.Test.YtndekicblbpkjaaPm31
/- Layer 13: any bytes are parsed as the packet that they are, or as none, and why. -/
namespace Go.Proofs.Ytndekicblbpkjaa.pktP
open Go.ChangeShapes Go.WideShapes Go.ChangeAt Go.RowKit
open Go.Proofs.Ytndekicblbpkjaa.rdrG Go.Proofs.Ytndekicblbpkjaa.sumB Go.Proofs.Ytndekicblbpkjaa.sixF Go.Proofs.Ytndekicblbpkjaa.sixO
set_option linter.unusedVariables false

theorem cut_any (A : Option Addr) (n c : Nat) (w : World) (hA : 0 < n → ∃ b off, A = some ⟨b, off, none⟩) (hnc : n ≤ c) (hc : c ≤ 9223372036854775807) :
    Calls Try.prog 27 #[.slice A n c] w fun o w' => o = .returned (.slice A (min n 500) c) ∧ w = w' := by
  by_cases h : 500 < n
  · obtain ⟨b, off, rfl⟩ := hA (by omega)
    obtain ⟨s1, s2⟩ := slice_to b off n c 500 (by omega) (by omega)
    have t1 : decide (500 < (n : Int)) = true := decide_eq_true (by omega)
    have t1n : decide (500 < n) = true := decide_eq_true h
    have e : min n 500 = 500 := by omega
    rw [e]
    have s1 : ∀ W : World, (Instr.slice 22 (.slice (some ⟨b, off, none⟩) n c) none (some (.int .i64 500)) none).run Try.prog W = .ok (.slice (some ⟨b, off, none⟩) 500 c) W := s1
    have s2 : ∀ W : World, (Instr.sliceAt 22 (.slice (some ⟨b, off, none⟩) n c) none (some (.int .i64 500)) none).run Try.prog W = .ok (.slice (some ⟨b, off, none⟩) 500 c) W := s2
    clear e hA
    go_enter Try.func27, Try.ntmps27
    go_wp2_with fail
    go_ret
    exact ⟨rfl, rfl⟩
  · have t1 : decide (500 < (n : Int)) = false := decide_eq_false (by omega)
    have t1n : decide (500 < n) = false := decide_eq_false h
    have e : min n 500 = n := by omega
    rw [e]
    clear e hA
    go_enter Try.func27, Try.ntmps27
    go_wp2_with fail
    go_ret
    exact ⟨rfl, rfl⟩
end Go.Proofs.Ytndekicblbpkjaa.pktP
/- Layer 13: any flow's datagram, or segment, is parsed as that flow. -/
namespace Go.Proofs.Ytndekicblbpkjaa.pktV
open Go.ChangeShapes Go.WideShapes Go.ChangeAt Go.RowKit
open Go.Proofs.Ytndekicblbpkjaa.base Go.Proofs.Ytndekicblbpkjaa.rdrA Go.Proofs.Ytndekicblbpkjaa.rdrG Go.Proofs.Ytndekicblbpkjaa.sixW Go.Proofs.Ytndekicblbpkjaa.sixM Go.Proofs.Ytndekicblbpkjaa.pktA Go.Proofs.Ytndekicblbpkjaa.pktB Go.Proofs.Ytndekicblbpkjaa.pktG Go.Proofs.Ytndekicblbpkjaa.pktS Go.Proofs.Ytndekicblbpkjaa.pktT Go.Proofs.Ytndekicblbpkjaa.pktU
set_option linter.unusedVariables false

theorem makes_any (pr : Int) (s6 : Bool) (sh sl : Int) (d6 : Bool) (dh dl sp dp ttl fl : Int) (b1 : 0 ≤ sh ∧ sh < 18446744073709551616) (b2 : 0 ≤ sl ∧ sl < 18446744073709551616) (b3 : 0 ≤ dh ∧ dh < 18446744073709551616) (b4 : 0 ≤ dl ∧ dl < 18446744073709551616) (A : Option Addr) (n0 c : Nat) (l0 : List Int) (w : World) (hl0 : l0.length = n0) (hr0 : Row w w.heap.size A (l0.map (.int .u8))) (hu0 : U8 l0) (hnc0 : n0 ≤ c) (hc : c ≤ 9223372036854775807) (hnil : A = none → c = 0) :
    Calls Try.prog 7 #[.agg #[.int .i64 pr, .bool s6, .int .u64 sh, .int .u64 sl, .bool d6, .int .u64 dh, .int .u64 dl, .int .i64 sp, .int .i64 dp], .int .i64 ttl, .int .i64 fl, .slice A n0 c] w fun o w' => o = .returned (.bool true) ∧ Below w.heap.size w w' := by
  have HC := Lib.hid fun W => pktP.cut_any A n0 c W (fun h => by
    obtain ⟨b, off, hA, _, _⟩ := lies_of hr0 (by omega)
    exact ⟨b, off, hA⟩) hnc0 hc
  obtain ⟨n, hn⟩ : ∃ n, n = min n0 500 := ⟨_, rfl⟩
  obtain ⟨pl, hll⟩ : ∃ l, l = l0.take n := ⟨_, rfl⟩
  have hl : pl.length = n := by rw [hll, List.length_take]; omega
  have hu : U8 pl := by rw [hll]; exact hu0.take n
  have hr : Row w w.heap.size A (pl.map (.int .u8)) := by
    have := hr0.take n
    rw [← List.map_take, ← hll] at this
    exact this
  have hsl : Sl w A n c pl := ⟨hl, hr, by omega, hc, hnil, hu⟩
  rw [← hn] at HC
  have hn5 : n ≤ 500 := by omega
  clear hll hl0 hr0 hu0 hr hnc0 hn
  have DB := fun (hx : ¬ Made pr s6 sh sl d6 dh dl sp dp ttl 0 17) => Lib.hid fun V (hV : Below w.heap.size w V) => dgram_bad pr s6 sh sl d6 dh dl sp dp ttl fl A n c pl V (hsl.below hV) hn5 b1 b2 b3 b4 hx
  have SB := fun (hx : ¬ Made pr s6 sh sl d6 dh dl sp dp ttl fl 6) => Lib.hid fun V (hV : Below w.heap.size w V) => segm_bad pr s6 sh sl d6 dh dl sp dp ttl fl A n c pl V (hsl.below hV) hn5 b1 b2 b3 b4 hx
  have YN1 := fun (hx : ¬ Made pr s6 sh sl d6 dh dl sp dp ttl 0 17) => Lib.hid fun V => made_no pr s6 sh sl d6 dh dl sp dp ttl 0 17 V hx
  have YN2 := fun (hx : ¬ Made pr s6 sh sl d6 dh dl sp dp ttl fl 6) => Lib.hid fun V => made_no pr s6 sh sl d6 dh dl sp dp ttl fl 6 V hx
  by_cases h17 : Made pr s6 sh sl d6 dh dl sp dp ttl 0 17
  · have n6 : ¬ Made pr s6 sh sl d6 dh dl sp dp ttl fl 6 := fun h6 => by
      have a := h17.1
      have b := h6.1
      omega
    obtain ⟨B, p1, p2, p3, p4⟩ := dgram_made pr s6 sh sl d6 dh dl sp dp ttl fl pl (by omega) hu b1 b2 b3 b4 h17
    refine makes_D pr s6 sh sl d6 dh dl sp dp ttl fl A n0 n c w B pl (if s6 = true then 40 else 20) rfl (by rw [p1, hl]) p2 (by omega) hsl HC (Lib.hid fun V hV => p4 A n c V (hsl.below hV)) (SB n6) (Lib.hid fun V => made_yes pr s6 sh sl d6 dh dl sp dp ttl 0 17 V h17) (YN2 n6) (Lib.hid fun V A2 n2 c2 hs2 => by
        have h9 := parse_any A2 n2 c2 B V hs2 (by have := hs2.len; have hz : (if s6 = true then 40 else 20) ≤ 40 := by split <;> omega
                                                  omega)
        rw [p3] at h9
        exact h9)
  by_cases h6 : Made pr s6 sh sl d6 dh dl sp dp ttl fl 6
  · skip
    obtain ⟨B, p1, p2, p3, p4⟩ := segm_made pr s6 sh sl d6 dh dl sp dp ttl fl pl (by omega) hu b1 b2 b3 b4 h6
    refine makes_S pr s6 sh sl d6 dh dl sp dp ttl fl A n0 n c w B pl (if s6 = true then 40 else 20) rfl (by rw [p1, hl]) p2 (by omega) hsl HC (DB h17) (Lib.hid fun V hV => p4 A n c V (hsl.below hV)) (YN1 h17) (Lib.hid fun V => made_yes pr s6 sh sl d6 dh dl sp dp ttl fl 6 V h6) (Lib.hid fun V A2 n2 c2 hs2 => by
        have h9 := parse_any A2 n2 c2 B V hs2 (by have := hs2.len; have hz : (if s6 = true then 40 else 20) ≤ 40 := by split <;> omega
                                                  omega)
        rw [p3] at h9
        exact h9)
  exact makes_N pr s6 sh sl d6 dh dl sp dp ttl fl A n0 n c w HC (DB h17) (SB h6) (YN1 h17) (YN2 h6)
end Go.Proofs.Ytndekicblbpkjaa.pktV
/- Arguments opened. -/
namespace Go.Proofs.Ytndekicblbpkjaa.base
open Go.RowKit Go.WideShapes Go.ChangeShapes Go.Joins Go.Deep
set_option linter.unusedVariables false
section
variable {H : Type} {enc : TypeId × Value → H} {P : Program} {w : World} {b0 base : Nat} {spare : Nat → Bool} {held : Bool}
theorem open_i64 {r : Reach} {t : TypeId} {v : Value} {d : DataW H} {p : List MemPlace} (he : P.underlying t = some (.int .i64)) (hv : Value.okWide P w r b0 t v) (h : DataW.Trod enc P w base spare held t v d p) :
    ∃ x : Int, v = .int .i64 x ∧ -9223372036854775808 ≤ x ∧ x < 9223372036854775808 := by
  obtain ⟨x, rfl, rfl, rfl, wx⟩ := open_int he hv h
  have hx := bounds_i64 wx
  exact ⟨x, rfl, hx.1, by omega⟩
end
end Go.Proofs.Ytndekicblbpkjaa.base
