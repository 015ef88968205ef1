/- 1 texts in one. -/
import Derived.Test.YtndekicblbpkjaaPa28
/- Layer 13: any bytes are parsed as the packet that they are, or as none, and why. -/
namespace Go.Proofs.Ytndekicblbpkjaa.pktP
open Go.ChangeShapes Go.WideShapes Go.ChangeAt Go.RowKit
open Go.Proofs.Ytndekicblbpkjaa.base Go.Proofs.Ytndekicblbpkjaa.octA Go.Proofs.Ytndekicblbpkjaa.octB Go.Proofs.Ytndekicblbpkjaa.octC Go.Proofs.Ytndekicblbpkjaa.octF Go.Proofs.Ytndekicblbpkjaa.octK Go.Proofs.Ytndekicblbpkjaa.net Go.Proofs.Ytndekicblbpkjaa.rdrA Go.Proofs.Ytndekicblbpkjaa.rdrG Go.Proofs.Ytndekicblbpkjaa.sumA Go.Proofs.Ytndekicblbpkjaa.sumB Go.Proofs.Ytndekicblbpkjaa.sixW Go.Proofs.Ytndekicblbpkjaa.sixM Go.Proofs.Ytndekicblbpkjaa.pktA Go.Proofs.Ytndekicblbpkjaa.pktB Go.Proofs.Ytndekicblbpkjaa.pktC Go.Proofs.Ytndekicblbpkjaa.pktD Go.Proofs.Ytndekicblbpkjaa.icmpH Go.Proofs.Ytndekicblbpkjaa.pktE Go.Proofs.Ytndekicblbpkjaa.sixA Go.Proofs.Ytndekicblbpkjaa.sixE Go.Proofs.Ytndekicblbpkjaa.sixF Go.Proofs.Ytndekicblbpkjaa.sixO Go.Proofs.Ytndekicblbpkjaa.pktF Go.Proofs.Ytndekicblbpkjaa.pktG Go.Proofs.Ytndekicblbpkjaa.pktJ Go.Proofs.Ytndekicblbpkjaa.pktK Go.Proofs.Ytndekicblbpkjaa.pktO
set_option linter.unusedVariables false

/-- What a packet's flags are. -/
def InP (P : Pk) : Prop := 0 ≤ P.fl ∧ P.fl ≤ 255
theorem inP_zero : InP zeroPk := ⟨by decide, by decide⟩
theorem withP_in (v6 : Bool) (t : Tp) (ttl sz : Int) (l : List Int) (hu : U8 l) : InP (withP v6 t ttl sz l).1 := by
  have h13 := hu.get 13
  unfold withP
  split
  · split
    · exact inP_zero
    · exact ⟨h13.1, h13.2⟩
  · split
    · split
      · exact inP_zero
      · exact ⟨by show (0 : Int) ≤ 0; decide, by show (0 : Int) ≤ 255; decide⟩
    · split
      · split
        · exact inP_zero
        · exact ⟨by show (0 : Int) ≤ 0; decide, by show (0 : Int) ≤ 255; decide⟩
      · exact inP_zero
theorem pk_in (l : List Int) (hu : U8 l) (hn : l.length ≤ 1000) : InP (pkP l).1 := by
  unfold pkP
  split
  · exact inP_zero
  · split
    · exact inP_zero
    · split
      · unfold p4
        split
        · exact inP_zero
        · split
          · exact inP_zero
          · exact withP_in _ _ _ _ _ ((hu.drop _).take _)
      · split
        · rename_i hv
          unfold p6
          by_cases h40 : l.length < 40
          · rw [show sixP l = .inl 2 from by unfold sixP; rw [if_pos h40]]
            exact inP_zero
          by_cases hz : l.length - 40 < sizeP l
          · rw [show sixP l = .inl 12 from by unfold sixP; rw [if_neg (by omega), if_neg (by omega), if_pos hz]]
            exact inP_zero
          have e : sixP l = ofC (chn 9 [] (l.getD 6 0) ((l.take (40 + sizeP l)).drop 40)) := by unfold sixP; rw [if_neg (by omega), if_neg (by omega), if_neg hz]
          rcases hC : chn 9 [] (l.getD 6 0) ((l.take (40 + sizeP l)).drop 40) with _ | ⟨ys, q, r⟩
          · rw [e, hC]
            exact inP_zero
          · obtain ⟨g1, g2, g3, g4, g5⟩ := sixT.put_back l hu (by omega) hv (by omega) hC
            rw [e, hC]
            show InP (if lies ys / 8 ≠ 0 ∨ decide (lies ys % 2 = 1) = true then (zeroPk, 21) else withP true ⟨q, true, (hdOf l q).sh, (hdOf l q).sl, true, (hdOf l q).dh, (hdOf l q).dl, 0, 0⟩ (l.getD 7 0) (((40 + extL ys : Nat) : Int) + (r.length : Int)) r).1
            split
            · exact inP_zero
            · exact withP_in _ _ _ _ _ g4
        · exact inP_zero
theorem opens_eq : ∀ n : Fin 256, tcpB.opensB ((n.val : Nat) : Int) = (decide (((n.val : Nat) : Int) / 2 % 2 = 1) && decide (((n.val : Nat) : Int) % 2 = 0) && decide (((n.val : Nat) : Int) / 4 % 2 = 0) && decide (((n.val : Nat) : Int) / 16 % 2 = 0)) := by decide +kernel
theorem opens_in (f : Int) (h0 : 0 ≤ f) (h1 : f ≤ 255) : tcpB.opensB f = (decide (f / 2 % 2 = 1) && decide (f % 2 = 0) && decide (f / 4 % 2 = 0) && decide (f / 16 % 2 = 0)) := by
  obtain ⟨n, rfl⟩ := Int.eq_ofNat_of_zero_le h0
  exact opens_eq ⟨n, by omega⟩
theorem cut_any (A : Option Addr) (n c : Nat) (w : World) (hA : 0 < n → ∃ b off, A = some ⟨b, off, none⟩) (hnc : n ≤ c) (hc : c ≤ 9223372036854775807) :
    Calls Try.prog 27 #[.slice A n c] w fun o w' => o = .returned (.slice A (min n 500) c) ∧ w = w' := by
  by_cases h : 500 < n
  · obtain ⟨b, off, rfl⟩ := hA (by omega)
    obtain ⟨s1, s2⟩ := slice_to b off n c 500 (by omega) (by omega)
    have t1 : decide (500 < (n : Int)) = true := decide_eq_true (by omega)
    have t1n : decide (500 < n) = true := decide_eq_true h
    have e : min n 500 = 500 := by omega
    rw [e]
    have s1 : ∀ W : World, (Instr.slice 22 (.slice (some ⟨b, off, none⟩) n c) none (some (.int .i64 500)) none).run Try.prog W = .ok (.slice (some ⟨b, off, none⟩) 500 c) W := s1
    have s2 : ∀ W : World, (Instr.sliceAt 22 (.slice (some ⟨b, off, none⟩) n c) none (some (.int .i64 500)) none).run Try.prog W = .ok (.slice (some ⟨b, off, none⟩) 500 c) W := s2
    clear e hA
    go_enter Try.func27, Try.ntmps27
    go_wp2_with fail
    go_ret
    exact ⟨rfl, rfl⟩
  · have t1 : decide (500 < (n : Int)) = false := decide_eq_false (by omega)
    have t1n : decide (500 < n) = false := decide_eq_false h
    have e : min n 500 = n := by omega
    rw [e]
    clear e hA
    go_enter Try.func27, Try.ntmps27
    go_wp2_with fail
    go_ret
    exact ⟨rfl, rfl⟩
theorem parses_any (A : Option Addr) (n0 c : Nat) (l0 : List Int) (w : World) (hl0 : l0.length = n0) (hr0 : Row w w.heap.size A (l0.map (.int .u8))) (hu0 : U8 l0) (hnc0 : n0 ≤ c) (hc : c ≤ 9223372036854775807) (hnil : A = none → c = 0) :
    Calls Try.prog 6 #[.slice A n0 c] w fun o w' => o = .returned (.bool true) ∧ Below w.heap.size w w' := by
  have HC := Lib.hid fun W => cut_any A n0 c W (fun h => by
    obtain ⟨b, off, hA, _, _⟩ := lies_of hr0 (by omega)
    exact ⟨b, off, hA⟩) hnc0 hc
  obtain ⟨n, hn⟩ : ∃ n, n = min n0 500 := ⟨_, rfl⟩
  obtain ⟨l, hll⟩ : ∃ l, l = l0.take n := ⟨_, rfl⟩
  have hl : l.length = n := by rw [hll, List.length_take]; omega
  have hu : U8 l := by rw [hll]; exact hu0.take n
  have hr : Row w w.heap.size A (l.map (.int .u8)) := by
    have := hr0.take n
    rw [← List.map_take, ← hll] at this
    exact this
  have hsl : Sl w A n c l := ⟨hl, hr, by omega, hc, hnil, hu⟩
  rw [← hn] at HC
  have hI := pk_in l hu (by omega)
  have HP := fun V (hV : Below w.heap.size w V) => parse_any A n c l V (hsl.below hV) (by omega)
  have HL := fun V (hV : Below w.heap.size w V) => lparse_any A n c l V (hsl.below hV) (by omega)
  clear hll hl0 hr0 hu0 hr hsl hu hl
  generalize pkP l = z at HP HL hI
  obtain ⟨P, e⟩ := z
  have HO := fun V => opens_pk P V
  obtain ⟨f0, f1⟩ := hI
  obtain ⟨v6, ⟨pr, s6, sh, sl, d6, dh, dl, sp, dp⟩, ttl, fl, er, ⟨apr, as6, ash, asl, ad6, adh, adl, asp, adp⟩, sz⟩ := P
  simp only at f0 f1
  have e1 : opensP ⟨v6, ⟨pr, s6, sh, sl, d6, dh, dl, sp, dp⟩, ttl, fl, er, ⟨apr, as6, ash, asl, ad6, adh, adl, asp, adp⟩, sz⟩ = opB pr fl := by unfold opensP opB; rw [opens_in fl f0 f1]
  rw [e1] at HO
  exact law_any pr v6 s6 sh sl d6 dh dl sp dp ttl fl er apr as6 ash asl ad6 adh adl asp adp sz f0 f1 e A n0 n c w HC (Lib.hid HP) (Lib.hid HL) (Lib.hid HO)
end Go.Proofs.Ytndekicblbpkjaa.pktP
