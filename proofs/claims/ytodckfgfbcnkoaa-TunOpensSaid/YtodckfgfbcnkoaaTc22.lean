/- 1 texts in one. -/
import Derived.Test.YtodckfgfbcnkoaaTc20
import Derived.Test.YtodckfgfbcnkoaaTc21
/- Layer 14: what lies in any bytes. -/
namespace Go.Proofs.Ytodckfgfbcnkoaa.tunO
open Go.ChangeShapes Go.WideShapes Go.ChangeAt Go.RowKit
open Go.Proofs.Ytodckfgfbcnkoaa.base Go.Proofs.Ytodckfgfbcnkoaa.octA Go.Proofs.Ytodckfgfbcnkoaa.rdrA Go.Proofs.Ytodckfgfbcnkoaa.rdrG Go.Proofs.Ytodckfgfbcnkoaa.sixW Go.Proofs.Ytodckfgfbcnkoaa.sixM Go.Proofs.Ytodckfgfbcnkoaa.pktA Go.Proofs.Ytodckfgfbcnkoaa.pktB Go.Proofs.Ytodckfgfbcnkoaa.sixE Go.Proofs.Ytodckfgfbcnkoaa.sixF Go.Proofs.Ytodckfgfbcnkoaa.tunW Go.Proofs.Ytodckfgfbcnkoaa.tunC Go.Proofs.Ytodckfgfbcnkoaa.tunD Go.Proofs.Ytodckfgfbcnkoaa.tunE Go.Proofs.Ytodckfgfbcnkoaa.tunV Go.Proofs.Ytodckfgfbcnkoaa.pktCut Go.Proofs.Ytodckfgfbcnkoaa.tunN6b Go.Proofs.Ytodckfgfbcnkoaa.tunN6g Go.Proofs.Ytodckfgfbcnkoaa.tunN4b Go.Proofs.Ytodckfgfbcnkoaa.tunN4g
set_option linter.unusedVariables false
set_option linter.unusedSimpArgs false

theorem six_u8 (l : List Int) (hu : U8 l) (hn : l.length ≤ 1000) (hv : l.getD 0 0 / 16 = 6) {ys : List XP} {q : Int} {r : List Int} (e1 : sixP l = .inr (ys, q, r)) : ∀ x ∈ ys, U8 x.2 := by
  obtain ⟨_, hlen, hsz, hru, q0, q9⟩ := six_sizes l hu e1
  have hC : chn 9 [] (l.getD 6 0) ((l.take (40 + sizeP l)).drop 40) = some (ys, q, r) := by
    have e := e1
    unfold sixP at e
    rw [if_neg (by omega), if_neg (by omega), if_neg (by omega)] at e
    unfold ofC at e
    split at e
    · cases e
    · rename_i k
      injection e with e
      rw [k, e]
  obtain ⟨g1, g2, g3, g4, g5⟩ := sixT.put_back l hu (by omega) hv (by omega) hC
  exact g3
theorem open_good {l r : List Int} {s6 : Bool} {sh sl : Int} {d6 : Bool} {dh dl p e0 : Int} (hR : rdP l = ⟨r, s6, sh, sl, d6, dh, dl, p, e0⟩) (h : opnE l = 0) : topR l = ⟨r, s6, sh, sl, d6, dh, dl, 0, 0⟩ ∧ e0 = 0 ∧ rightP r p = 0 := by
  refine ⟨by unfold topR; rw [if_pos h, hR], ?_⟩
  unfold opnE at h
  rw [hR] at h
  simp only at h
  by_cases he : e0 = 0
  · rw [if_pos he] at h
    exact ⟨he, h⟩
  · rw [if_neg he] at h
    exact absurd h he
theorem open_bad {l r : List Int} {s6 : Bool} {sh sl : Int} {d6 : Bool} {dh dl p e0 : Int} (hR : rdP l = ⟨r, s6, sh, sl, d6, dh, dl, p, e0⟩) (h : opnE l ≠ 0) : topR l = ⟨[], false, 0, 0, false, 0, 0, 0, opnE l⟩ ∧ opnE l = if e0 = 0 then rightP r p else e0 := by
  refine ⟨by unfold topR; rw [if_neg h], ?_⟩
  unfold opnE
  rw [hR]
theorem opens_law (A : Option Addr) (n0 c : Nat) (l0 : List Int) (w : World) (hl0 : l0.length = n0) (hr0 : Row w w.heap.size A (l0.map (.int .u8))) (hu0 : U8 l0) (hnc0 : n0 ≤ c) (hc : c ≤ 9223372036854775807) (hnil : A = none → c = 0) :
    Calls Try.prog 5 #[.slice A n0 c] w fun o w' => o = .returned (.bool true) ∧ Below w.heap.size w w' := by
  have HC := Lib.hid fun W => cut_any A n0 c W (fun h => by
    obtain ⟨b, off, hA, _, _⟩ := lies_of hr0 (by omega)
    exact ⟨b, off, hA⟩) hnc0 hc
  obtain ⟨n, hn⟩ : ∃ n, n = min n0 500 := ⟨_, rfl⟩
  obtain ⟨l, hll⟩ : ∃ l, l = l0.take n := ⟨_, rfl⟩
  have hl : l.length = n := by rw [hll, List.length_take]; omega
  have hu : U8 l := by rw [hll]; exact hu0.take n
  have hr : Row w w.heap.size A (l.map (.int .u8)) := by
    have := hr0.take n
    rw [← List.map_take, ← hll] at this
    exact this
  have hsl : Sl w A n c l := ⟨hl, hr, by omega, hc, hnil, hu⟩
  rw [← hn] at HC
  have HO := fun V (hV : Below w.heap.size w V) => open_any A n c l V (hsl.below hV) (by omega)
  unfold TopP at HO
  by_cases hv : 0 < n ∧ l.getD 0 0 / 16 = 6
  · obtain ⟨hn0, h6⟩ := hv
    have eR : rdP l = rd6 l := by unfold rdP; rw [if_pos ⟨by omega, h6⟩]
    obtain ⟨b, off, rfl, hbw, hcw⟩ := lies_of hsl.row (by omega)
    have y0 : w.cell? ⟨b, off, none⟩ = some (.int .u8 (l.getD 0 0)) := hcw 0 (by omega)
    have u0 := hu.get 0
    cases hcs : sixP l with
    | inl e =>
      have hR : rdP l = ⟨[], false, 0, 0, false, 0, 0, 0, e⟩ := by rw [eR]; unfold rd6; rw [hcs]
      have hne := sixP_ne hcs
      have ho : opnE l ≠ 0 := by unfold opnE; rw [hR]; simp only; rw [if_neg hne]; exact hne
      obtain ⟨o1, o2⟩ := open_bad hR ho
      rw [o1] at HO
      exact law_6b b off n0 n c 0 0 e e (by rw [if_pos hne]) false 0 0 false 0 0 [] _ o2 ho w _ h6 hn0 u0 hbw y0 HC (Lib.hid HO) (Lib.hid fun V hV => (six_bad (some ⟨b, off, none⟩) n c l V (hsl.below hV) (by omega) h6 hcs).mono fun o w' k => ⟨k.2, 0, 0, 0, none, 0, 0, none, 0, k.1, Sl.none_ w', fun he => absurd he hne⟩)
    | inr k =>
      obtain ⟨ys, q, r⟩ := k
      have hR : rdP l = ⟨r, true, (hdOf l q).sh, (hdOf l q).sl, true, (hdOf l q).dh, (hdOf l q).dl, q, if lies ys / 8 ≠ 0 then 21 else 0⟩ := by rw [eR]; unfold rd6; rw [hcs]
      have hli := lies_in (six_u8 l hu (by omega) h6 hcs)
      have he0 : (if lies ys / 8 ≠ 0 then (21 : Int) else 0) = if (0 : Int) ≠ 0 then 0 else if 0 < lies ys / 8 then 21 else 0 := by
        rw [if_neg (show ¬ (0 : Int) ≠ 0 by omega)]
        by_cases h : lies ys / 8 = 0
        · rw [if_neg (by omega), if_neg (by omega)]
        · rw [if_pos h, if_pos (by omega)]
      have HP : ∀ V, Below w.heap.size w V → Calls Try.prog 19 #[.slice (some ⟨b, off, none⟩) n c] V fun o w' => Below V.heap.size V w' ∧ ∃ (cls lab ttl : Int) (AO : Option Addr) (no co : Nat) (AR : Option Addr) (cr : Nat), o = .returned (.tuple #[.agg #[.int .i64 cls, .int .i64 lab, .int .i64 ttl, .bool true, .int .u64 (hdOf l q).sh, .int .u64 (hdOf l q).sl, .bool true, .int .u64 (hdOf l q).dh, .int .u64 (hdOf l q).dl, .slice AO no co, .int .i64 q], .slice AR r.length cr, .int .i64 0]) ∧ Sl w' AR r.length cr r ∧ ((0 : Int) = 0 → ∀ V2, Below w'.heap.size w' V2 → Calls Try.prog 20 #[.agg #[.int .i64 cls, .int .i64 lab, .int .i64 ttl, .bool true, .int .u64 (hdOf l q).sh, .int .u64 (hdOf l q).sl, .bool true, .int .u64 (hdOf l q).dh, .int .u64 (hdOf l q).dl, .slice AO no co, .int .i64 q]] V2 fun o w' => o = .returned (.int .i64 (lies ys / 8)) ∧ Below V2.heap.size V2 w') := fun V hV => (six_good (some ⟨b, off, none⟩) n c l V (hsl.below hV) (by omega) h6 hcs).mono fun o w' k => by
        obtain ⟨hb, AX, nx, cx, cls, lab, AR, cr, e, hs, hfr, _⟩ := k
        exact ⟨hb, cls, lab, _, AX, nx, cx, AR, cr, e, hs, fun _ => hfr⟩
      by_cases ho : opnE l = 0
      · obtain ⟨o1, o2, o3⟩ := open_good hR ho
        rw [o1] at HO
        exact law_6g b off n0 n c (lies ys / 8) q 0 _ he0 true _ _ true _ _ r o2 o3 w _ h6 hn0 u0 hbw y0 HC (Lib.hid HO) (Lib.hid HP)
      · obtain ⟨o1, o2⟩ := open_bad hR ho
        rw [o1] at HO
        exact law_6b b off n0 n c (lies ys / 8) q 0 _ he0 true _ _ true _ _ r _ o2 ho w _ h6 hn0 u0 hbw y0 HC (Lib.hid HO) (Lib.hid HP)
  · have eR : rdP l = rd4 l := by unfold rdP; rw [if_neg (by rw [hl]; exact hv)]
    have HB : n = 0 ∨ 0 < n ∧ ∃ b off x, A = some ⟨b, off, none⟩ ∧ b < w.heap.size ∧ w.cell? ⟨b, off, none⟩ = some (.int .u8 x) ∧ x / 16 ≠ 6 ∧ 0 ≤ x ∧ x ≤ 255 := by
      rcases Nat.eq_zero_or_pos n with h | h
      · exact .inl h
      · obtain ⟨b, off, hA, hbw, hcw⟩ := lies_of hsl.row (by omega)
        exact .inr ⟨h, b, off, l.getD 0 0, hA, hbw, hcw 0 (by omega), fun h6 => hv ⟨h, h6⟩, hu.get 0⟩
    have HF := fun V (hV : Below w.heap.size w V) => four_any A n c l V (hsl.below hV) (by omega)
    by_cases hfe : fourE l = 0
    · have hR : rdP l = ⟨fourR l, false, 0, tcpC.w32 l 12, false, 0, tcpC.w32 l 16, l.getD 9 0, if udpA.w16 l 6 % 8192 ≠ 0 ∨ decide (udpA.w16 l 6 / 8192 % 2 = 1) = true then 21 else 0⟩ := by rw [eR]; unfold rd4; rw [if_neg (by omega)]
      have hw6 := udpA.w16_in l hu 6
      have he0 : (if udpA.w16 l 6 % 8192 ≠ 0 ∨ decide (udpA.w16 l 6 / 8192 % 2 = 1) = true then (21 : Int) else 0) = if (0 : Int) ≠ 0 then 0 else if 0 < udpA.w16 l 6 % 8192 ∨ decide (udpA.w16 l 6 / 8192 % 2 = 1) = true then 21 else 0 := by
        rw [if_neg (show ¬ (0 : Int) ≠ 0 by omega)]
        by_cases h : udpA.w16 l 6 % 8192 ≠ 0 ∨ decide (udpA.w16 l 6 / 8192 % 2 = 1) = true
        · rw [if_pos h, if_pos (h.imp (fun k => by omega) id)]
        · rw [if_neg h, if_neg (fun k => h (k.imp (fun k => by omega) id))]
      have HP : ∀ V, Below w.heap.size w V → Calls Try.prog 21 #[.slice A n c] V fun o w' => Below V.heap.size V w' ∧ ∃ (tos id : Int) (df : Bool) (ttl : Int) (AO : Option Addr) (no co : Nat) (AR : Option Addr) (cr : Nat), o = .returned (.tuple #[.agg #[.int .i64 tos, .int .i64 id, .bool df, .bool (decide (udpA.w16 l 6 / 8192 % 2 = 1)), .int .i64 (udpA.w16 l 6 % 8192), .int .i64 ttl, .int .i64 (l.getD 9 0), .bool false, .int .u64 0, .int .u64 (tcpC.w32 l 12), .bool false, .int .u64 0, .int .u64 (tcpC.w32 l 16), .slice AO no co], .slice AR (fourR l).length cr, .int .i64 0]) ∧ Sl w' AR (fourR l).length cr (fourR l) := fun V hV => (HF V hV).mono fun o w' k => by
        obtain ⟨hb, k⟩ := k
        rcases k with ⟨k1, _⟩ | ⟨_, _, _, _, tos, id, df, AO, co, AR, cr, e, hs⟩
        · exact absurd hfe k1
        · exact ⟨hb, tos, id, df, _, AO, _, co, AR, cr, e, hs⟩
      by_cases ho : opnE l = 0
      · obtain ⟨o1, o2, o3⟩ := open_good hR ho
        rw [o1] at HO
        exact law_4g A n0 n c _ _ _ 0 _ he0 false _ _ false _ _ (fourR l) o2 o3 w (Lib.hid HB) HC (Lib.hid HO) (Lib.hid HP)
      · obtain ⟨o1, o2⟩ := open_bad hR ho
        rw [o1] at HO
        exact law_4b A n0 n c _ _ _ 0 _ he0 false _ _ false _ _ (fourR l) _ o2 ho w (Lib.hid HB) HC (Lib.hid HO) (Lib.hid HP)
    · have hR : rdP l = ⟨[], false, 0, 0, false, 0, 0, 0, fourE l⟩ := by rw [eR]; unfold rd4; rw [if_pos hfe]
      have ho : opnE l ≠ 0 := by unfold opnE; rw [hR]; simp only; rw [if_neg hfe]; exact hfe
      obtain ⟨o1, o2⟩ := open_bad hR ho
      rw [o1] at HO
      exact law_4b A n0 n c false 0 0 (fourE l) (fourE l) (by rw [if_pos hfe]) false 0 0 false 0 0 [] _ o2 ho w (Lib.hid HB) HC (Lib.hid HO) (Lib.hid fun V hV => (HF V hV).mono fun o w' k => by
        obtain ⟨hb, k⟩ := k
        rcases k with ⟨_, k2⟩ | ⟨k1, _⟩
        · exact ⟨hb, 0, 0, false, 0, none, 0, 0, none, 0, k2, Sl.none_ w'⟩
        · exact absurd k1 hfe)
end Go.Proofs.Ytodckfgfbcnkoaa.tunO
