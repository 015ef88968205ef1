/- 1 texts in one. -/
import Derived.Test.YtodckfgfbcnkoaaTa31
/- Layer 14: any packet with a time to live that is one less. -/
namespace Go.Proofs.Ytodckfgfbcnkoaa.tunL
open Go.ChangeShapes Go.WideShapes Go.ChangeAt Go.RowKit
open Go.Proofs.Ytodckfgfbcnkoaa.base Go.Proofs.Ytodckfgfbcnkoaa.rdrA Go.Proofs.Ytodckfgfbcnkoaa.rdrG Go.Proofs.Ytodckfgfbcnkoaa.sixW Go.Proofs.Ytodckfgfbcnkoaa.sixM Go.Proofs.Ytodckfgfbcnkoaa.pktA Go.Proofs.Ytodckfgfbcnkoaa.pktB Go.Proofs.Ytodckfgfbcnkoaa.pktC Go.Proofs.Ytodckfgfbcnkoaa.pktE Go.Proofs.Ytodckfgfbcnkoaa.sixE Go.Proofs.Ytodckfgfbcnkoaa.sixF Go.Proofs.Ytodckfgfbcnkoaa.pktG Go.Proofs.Ytodckfgfbcnkoaa.tunW Go.Proofs.Ytodckfgfbcnkoaa.tunC Go.Proofs.Ytodckfgfbcnkoaa.tunV Go.Proofs.Ytodckfgfbcnkoaa.tunI Go.Proofs.Ytodckfgfbcnkoaa.tunJ Go.Proofs.Ytodckfgfbcnkoaa.tunK Go.Proofs.Ytodckfgfbcnkoaa.pktCut
set_option linter.unusedVariables false

theorem with_err (v6 : Bool) (t : Tp) (ttl sz : Int) (l : List Int) (h : (withP v6 t ttl sz l).2 ≠ 0) : (withP v6 t ttl sz l).1 = zeroPk := by
  unfold withP at h ⊢
  split
  · rename_i h1
    rw [if_pos h1] at h
    split
    · rfl
    · rename_i h2
      rw [if_neg h2] at h
      exact absurd rfl h
  · rename_i h1
    rw [if_neg h1] at h
    split
    · rename_i h3
      rw [if_pos h3] at h
      split
      · rfl
      · rename_i h2
        rw [if_neg h2] at h
        exact absurd rfl h
    · rename_i h3
      rw [if_neg h3] at h
      split
      · rename_i h4
        rw [if_pos h4] at h
        split
        · rfl
        · rename_i h2
          rw [if_neg h2] at h
          exact absurd rfl h
      · rfl
theorem pk_err (l : List Int) (h : (pkP l).2 ≠ 0) : (pkP l).1 = zeroPk := by
  unfold pkP at h ⊢
  split
  · rfl
  · rename_i h1
    rw [if_neg h1] at h
    split
    · rfl
    · rename_i h2
      rw [if_neg h2] at h
      split
      · rename_i h3
        rw [if_pos h3] at h
        unfold p4 at h ⊢
        split
        · rfl
        · rename_i h4
          rw [if_neg h4] at h
          split
          · rfl
          · rename_i h5
            rw [if_neg h5] at h
            exact with_err _ _ _ _ _ h
      · rename_i h3
        rw [if_neg h3] at h
        split
        · rename_i h4
          rw [if_pos h4] at h
          unfold p6 at h ⊢
          cases hc : sixP l with
          | inl e => rfl
          | inr k =>
            obtain ⟨ys, q, r⟩ := k
            rw [hc] at h
            simp only at h ⊢
            split
            · rfl
            · rename_i h5
              rw [if_neg h5] at h
              exact with_err _ _ _ _ _ h
        · rfl
theorem pk_ttl (l : List Int) (h : (pkP l).2 ≠ 0) : (pkP l).1.ttl = 0 := by rw [pk_err l h]; rfl
theorem tt_ok (l : List Int) (hu : U8 l) (hn : l.length ≤ 500) (he : ttE l = 0) (ht : 2 ≤ ttT l) :
    (ttO l).length = ttS l ∧ U8 (ttO l) ∧ ttE (ttO l) = 0 ∧ ttT (ttO l) = ttT l - 1 ∧ ttS (ttO l) = ttS l ∧ ttS l ≤ l.length ∧ 0 < ttS l ∧ ttT l ≤ 255 ∧ (∀ i, i < ttS l → tnP (l.getD 0 0 / 16 == 4) i = false → (ttO l).getD i 0 = l.getD i 0) ∧ LessP (ttO l) l (ttT l) := by
  have hnum : (numP l).2 = 0 := by
    unfold ttE at he
    by_cases h : (numP l).2 ≠ 0
    · rw [if_pos h] at he
      exact absurd he h
    · omega
  have hl0 : 0 < l.length := by
    rcases Nat.eq_zero_or_pos l.length with h | h
    · unfold numP at hnum
      rw [if_pos h] at hnum
      cases hnum
    · exact h
  unfold ttE at he
  rw [if_neg (by omega)] at he
  by_cases h6 : l.getD 0 0 / 16 = 6
  · rw [if_pos h6] at he
    have eT : ttT l = l.getD 7 0 := by unfold ttT; rw [if_pos h6]
    have eS : ttS l = 40 + sizeP l := by unfold ttS; rw [if_pos h6]
    have eO : ttO l = out6 l := by unfold ttO; rw [if_pos h6]
    rw [eT] at ht ⊢
    rw [eS, eO]
    have k7 := hu.get 7
    cases hc : sixP l with
    | inl e =>
      rw [hc] at he
      exact absurd he (sixP_ne hc)
    | inr k =>
      obtain ⟨ys, q, r⟩ := k
      obtain ⟨_, hlen, _, _, _, _⟩ := six_sizes l hu hc
      obtain ⟨a1, a2, a3, a4, a5, _⟩ := out6_says l hu hc ht
      have g0 := a3 0 (by omega) (by omega)
      have x6 : (out6 l).getD 0 0 / 16 = 6 := by rw [g0]; exact h6
      refine ⟨a1, a2, ?_, ?_, ?_, hlen, by omega, by omega, fun i hi hti => a3 i hi ?_, less6_pk l hu (by omega) hc ht⟩
      · have e2 : numP (out6 l) = (41, 0) := by unfold numP; rw [if_neg (by omega), if_neg (by omega), if_pos x6]
        unfold ttE
        rw [e2, if_neg (by simp), if_pos x6, a5]
      · unfold ttT
        rw [if_pos x6, a4]
      · have s1 : sizeP (out6 l) = sizeP l := by unfold sizeP; rw [a3 4 (by omega) (by omega), a3 5 (by omega) (by omega)]
        unfold ttS
        rw [if_pos x6, s1]
      · have e4 : (l.getD 0 0 / 16 == 4) = false := beq_eq_false_iff_ne.mpr (by omega)
        rw [e4] at hti
        simpa [tnP] using hti
  · rw [if_neg h6] at he
    have eT : ttT l = l.getD 8 0 := by unfold ttT; rw [if_neg h6]
    have eS : ttS l = (udpA.w16 l 2).toNat := by unfold ttS; rw [if_neg h6]
    have eO : ttO l = out4 l := by unfold ttO; rw [if_neg h6]
    rw [eT] at ht ⊢
    rw [eS, eO]
    have k8 := hu.get 8
    obtain ⟨h4, s20, s60, es, ew, sw, wl, sr, _, _⟩ := four_sizes l hu he
    obtain ⟨a1, a2, a3, a4, _, a6, a7, a8⟩ := out4_says l hu he ht
    have g0 := a3 0 (by omega) (by omega) (by omega) (by omega)
    have x4 : (out4 l).getD 0 0 / 16 = 4 := by rw [g0]; exact h4
    refine ⟨a1, a2, ?_, ?_, ?_, wl, by omega, by omega, fun i hi hti => ?_, less4_pk l hu (by omega) he ht⟩
    · have e2 : numP (out4 l) = (4, 0) := by unfold numP; rw [if_neg (by omega), if_pos x4]
      unfold ttE
      rw [e2, if_neg (by simp), if_neg (by omega), a6]
    · unfold ttT
      rw [if_neg (by omega), a4]
    · have s1 : udpA.w16 (out4 l) 2 = udpA.w16 l 2 := by unfold udpA.w16; rw [a3 2 (by omega) (by omega) (by omega) (by omega), a3 (2 + 1) (by omega) (by omega) (by omega) (by omega)]
      unfold ttS
      rw [if_neg (by omega), s1]
    · have e4 : (l.getD 0 0 / 16 == 4) = true := beq_iff_eq.mpr h4
      rw [e4] at hti
      have hq : i ≠ 8 ∧ i ≠ 10 ∧ i ≠ 11 := by
        simp [tnP] at hti
        omega
      exact a3 i hi hq.1 hq.2.1 hq.2.2
theorem less_law (A : Option Addr) (n0 c : Nat) (l0 : List Int) (w : World) (hl0 : l0.length = n0) (hr0 : Row w w.heap.size A (l0.map (.int .u8))) (hu0 : U8 l0) (hnc0 : n0 ≤ c) (hc : c ≤ 9223372036854775807) (hnil : A = none → c = 0) :
    Calls Try.prog 3 #[.slice A n0 c] w fun o w' => o = .returned (.bool true) ∧ Below w.heap.size w w' := by
  have HC := Lib.hid fun W => cut_any A n0 c W (fun h => by
    obtain ⟨b, off, hA, _, _⟩ := lies_of hr0 (by omega)
    exact ⟨b, off, hA⟩) hnc0 hc
  obtain ⟨n, hn⟩ : ∃ n, n = min n0 500 := ⟨_, rfl⟩
  obtain ⟨l, hll⟩ : ∃ l, l = l0.take n := ⟨_, rfl⟩
  have hl : l.length = n := by rw [hll, List.length_take]; omega
  have hu : U8 l := by rw [hll]; exact hu0.take n
  have hr : Row w w.heap.size A (l.map (.int .u8)) := by
    have := hr0.take n
    rw [← List.map_take, ← hll] at this
    exact this
  have hsl : Sl w A n c l := ⟨hl, hr, by omega, hc, hnil, hu⟩
  rw [← hn] at HC
  have HL := fun V (hV : Below w.heap.size w V) => less_any A n c l V (hsl.below hV) (by omega)
  have HT := fun V (hV : Below w.heap.size w V) => ttl_any A n c l V (hsl.below hV) (by omega)
  unfold lsP at HL
  by_cases he : ttE l = 0
  · have hne : ¬ ttE l ≠ 0 := by omega
    rw [if_neg hne] at HL
    have HT' : ∀ V, Below w.heap.size w V → Calls Try.prog 12 #[.slice A n c] V fun o w' => o = .returned (.tuple #[.int .i64 (ttT l), .int .i64 (ttS l : Int), .int .i64 0]) ∧ Below V.heap.size V w' := fun V hV => (HT V hV).mono fun o w' k => by
      obtain ⟨hb, t, s, h1, h2⟩ := k
      obtain ⟨rfl, rfl⟩ := h2 he
      rw [he] at h1
      exact ⟨h1, hb⟩
    by_cases ht : ttT l < 2
    · rw [if_pos ht] at HL
      exact law_T A n0 n c _ _ ht w HC (Lib.hid HL) (Lib.hid HT')
    · rw [if_neg ht] at HL
      obtain ⟨g1, g2, g3, g4, g5, g6, g7, g8, g9, g10⟩ := tt_ok l hu (by omega) he (by omega)
      obtain ⟨b, off, rfl, hbw, hcw⟩ := lies_of hsl.row (by omega)
      have HT2 : ∀ V A2 n2 c2, Sl V A2 n2 c2 (ttO l) → Calls Try.prog 12 #[.slice A2 n2 c2] V fun o w' => o = .returned (.tuple #[.int .i64 (ttT l - 1), .int .i64 (ttS l : Int), .int .i64 0]) ∧ Below V.heap.size V w' := fun V A2 n2 c2 h2 => (ttl_any A2 n2 c2 (ttO l) V h2 (by have := h2.len; omega)).mono fun o w' k => by
        obtain ⟨hb, t, s, h1, h3⟩ := k
        obtain ⟨rfl, rfl⟩ := h3 g3
        rw [g3, g4, g5] at h1
        exact ⟨h1, hb⟩
      have HP := fun V (hV : Below w.heap.size w V) => parse_any (some ⟨b, off, none⟩) n c l V (hsl.below hV) (by omega)
      have HP2 := fun V A2 n2 c2 (h2 : Sl V A2 n2 c2 (ttO l)) => parse_any A2 n2 c2 (ttO l) V h2 (by have := h2.len; omega)
      obtain ⟨k1, k2⟩ := g10
      rw [k1] at HP2
      have k5 : (pkP l).1.ttl - 1 < 9223372036854775808 ∧ -9223372036854775808 ≤ (pkP l).1.ttl - 1 := by
        by_cases hp : (pkP l).2 = 0
        · have := (k2 hp).1
          omega
        · rw [pk_ttl l hp]
          omega
      have k6 : (pkP l).2 = 0 → (pkP (ttO l)).1.cells = ({ (pkP l).1 with ttl := (pkP l).1.ttl - 1 } : Pk).cells := fun hp => by
        obtain ⟨k3, k4⟩ := k2 hp
        rw [k4, k3]
      have k7 : (pkP (ttO l)).1.cells.size = 23 := rfl
      have k8 : (pkP (ttO l)).1.cells.all (·.oneCell') = true := by unfold Pk.cells; simp [Value.oneCell']
      generalize (pkP l).2 = e at HP HP2 k6
      generalize (pkP l).1 = P at HP k5 k6
      generalize (pkP (ttO l)).1.cells = Y2 at HP2 k6 k7 k8
      obtain ⟨v6, ⟨pr, s6, sh, sl, d6, dh, dl, sp, dp⟩, ttl, fl, er, ⟨apr, as6, ash, asl, ad6, adh, adl, asp, adp⟩, sz⟩ := P
      exact law_G b off n0 n c l (ttO l) (ttT l) (ttS l) (by omega) g8 g7 (by omega) (by omega) g1 _ rfl g9 v6 pr s6 sh sl d6 dh dl sp dp ttl fl er apr as6 ash asl ad6 adh adl asp adp sz e Y2 k7 k8 k6 k5 w hsl HC (Lib.hid HL) (Lib.hid HT') (Lib.hid HT2) (Lib.hid HP) (Lib.hid HP2)
  · rw [if_pos he] at HL
    exact law_E A n0 n c _ he w HC (Lib.hid HL) (Lib.hid fun V hV => (HT V hV).mono fun o w' k => by
      obtain ⟨hb, t, s, h1, _⟩ := k
      exact ⟨hb, t, s, h1⟩)
end Go.Proofs.Ytodckfgfbcnkoaa.tunL
