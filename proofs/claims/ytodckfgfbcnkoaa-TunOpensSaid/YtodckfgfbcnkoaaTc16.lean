/- 2 texts in one. -/
import Derived.Test.YtodckfgfbcnkoaaTc12
import Derived.Test.YtodckfgfbcnkoaaTc14
import Derived.Test.YtodckfgfbcnkoaaTc15
/- Words put into bytes; a time to live that is one less: plain words. -/
namespace Go.Proofs.Ytodckfgfbcnkoaa.tunV
open Go.ChangeShapes Go.WideShapes Go.ChangeAt Go.RowKit
open Go.Proofs.Ytodckfgfbcnkoaa.base Go.Proofs.Ytodckfgfbcnkoaa.sixW Go.Proofs.Ytodckfgfbcnkoaa.sixM Go.Proofs.Ytodckfgfbcnkoaa.sixF
set_option linter.unusedVariables false

theorem six_sizes (l : List Int) (hu : U8 l) {ys : List XP} {q : Int} {r : List Int} (he : sixP l = .inr (ys, q, r)) : l.getD 0 0 / 16 = 6 ∧ 40 + sizeP l ≤ l.length ∧ extL ys + r.length = sizeP l ∧ U8 r ∧ 0 ≤ q ∧ q ≤ 255 := by
  unfold sixP at he
  split at he
  · cases he
  · split at he
    · cases he
    · split at he
      · cases he
      · have hL : ((l.take (40 + sizeP l)).drop 40).length = sizeP l := by rw [List.length_drop, List.length_take]; omega
        cases hc : chn 9 [] (l.getD 6 0) ((l.take (40 + sizeP l)).drop 40) with
        | none => rw [hc] at he; cases he
        | some k =>
          obtain ⟨ys', q', r'⟩ := k
          rw [hc] at he
          obtain ⟨rfl, rfl, rfl⟩ : ys' = ys ∧ q' = q ∧ r' = r := by
            have e : (Sum.inr (ys', q', r') : Res) = .inr (ys, q, r) := he
            injection e with e
            injection e with e1 e2
            injection e2 with e2 e3
            exact ⟨e1, e2, e3⟩
          obtain ⟨zs, e1, e2, e3, e4, e5, e6, e7, e8, e9, e10⟩ := chn_sound 9 [] _ _ ((hu.take _).drop _) (hu.get 6) RightE.nil (fun x hx => by cases hx) hc
          refine ⟨by omega, by omega, ?_, e9, e6, e7⟩
          have e : extL zs + r'.length = sizeP l := by rw [← hL, e3, List.length_append, extB_len]
          rw [List.nil_append] at e1
          rw [e1]
          exact e
end Go.Proofs.Ytodckfgfbcnkoaa.tunV
/- Layer 14: open4, open6 of any bytes. -/
namespace Go.Proofs.Ytodckfgfbcnkoaa.tunC
open Go.ChangeShapes Go.WideShapes Go.ChangeAt Go.RowKit
open Go.Proofs.Ytodckfgfbcnkoaa.base Go.Proofs.Ytodckfgfbcnkoaa.octA Go.Proofs.Ytodckfgfbcnkoaa.rdrA Go.Proofs.Ytodckfgfbcnkoaa.rdrG Go.Proofs.Ytodckfgfbcnkoaa.sixW Go.Proofs.Ytodckfgfbcnkoaa.sixM Go.Proofs.Ytodckfgfbcnkoaa.pktA Go.Proofs.Ytodckfgfbcnkoaa.pktB Go.Proofs.Ytodckfgfbcnkoaa.sixA Go.Proofs.Ytodckfgfbcnkoaa.sixE Go.Proofs.Ytodckfgfbcnkoaa.sixF Go.Proofs.Ytodckfgfbcnkoaa.sixO Go.Proofs.Ytodckfgfbcnkoaa.tunW Go.Proofs.Ytodckfgfbcnkoaa.tunB
set_option linter.unusedVariables false

def SixG (l : List Int) (ys : List XP) (q : Int) (r : List Int) (w : World) (o : Ending) (w' : World) : Prop := Below w.heap.size w w' ∧ ∃ (AX : Option Addr) (nx cx : Nat) (cls lab : Int) (AR : Option Addr) (cr : Nat), o = .returned (.tuple #[.agg #[.int .i64 cls, .int .i64 lab, .int .i64 (l.getD 7 0), .bool true, .int .u64 (hdOf l q).sh, .int .u64 (hdOf l q).sl, .bool true, .int .u64 (hdOf l q).dh, .int .u64 (hdOf l q).dl, .slice AX nx cx, .int .i64 q], .slice AR r.length cr, .int .i64 0]) ∧ Sl w' AR r.length cr r
      ∧ (∀ V2, Below w'.heap.size w' V2 → Calls Try.prog 20 #[.agg #[.int .i64 cls, .int .i64 lab, .int .i64 (l.getD 7 0), .bool true, .int .u64 (hdOf l q).sh, .int .u64 (hdOf l q).sl, .bool true, .int .u64 (hdOf l q).dh, .int .u64 (hdOf l q).dl, .slice AX nx cx, .int .i64 q]] V2 fun o w' => o = .returned (.int .i64 (lies ys / 8)) ∧ Below V2.heap.size V2 w')
      ∧ (∀ V2, Below w'.heap.size w' V2 → Calls Try.prog 33 #[.agg #[.int .i64 cls, .int .i64 lab, .int .i64 (l.getD 7 0), .bool true, .int .u64 (hdOf l q).sh, .int .u64 (hdOf l q).sl, .bool true, .int .u64 (hdOf l q).dh, .int .u64 (hdOf l q).dl, .slice AX nx cx, .int .i64 q]] V2 fun o w' => o = .returned (.int .i64 (40 + extL ys : Nat)) ∧ Below V2.heap.size V2 w')
theorem six_any (A : Option Addr) (n c : Nat) (l : List Int) (w : World) (h : Sl w A n c l) (hn : n ≤ 1000) (hv : l.getD 0 0 / 16 = 6) : Calls Try.prog 19 #[.slice A n c] w (HeadP w l (sixP l)) := by
  have hl := h.len
  by_cases h40 : n < 40
  · exact sixF.parse_short A n c l w hl h40
  obtain ⟨b, off, rfl, hb, hs⟩ := lies_of h.row (by omega)
  exact sixF.parse_ok b off n c l w hl (by omega) (by omega) h.nc h.mx hb hs h.u8 hv
theorem sixP_ne {l : List Int} {e : Int} (h : sixP l = .inl e) : e ≠ 0 := by
  unfold sixP at h
  split at h
  · injection h with h; omega
  · split at h
    · injection h with h; omega
    · split at h
      · injection h with h; omega
      · unfold ofC at h
        split at h
        · injection h with h; omega
        · cases h
theorem six_bad (A : Option Addr) (n c : Nat) (l : List Int) (w : World) (h : Sl w A n c l) (hn : n ≤ 1000) (hv : l.getD 0 0 / 16 = 6) {e : Int} (he : sixP l = .inl e) : Calls Try.prog 19 #[.slice A n c] w fun o w' => o = .returned (.tuple #[.agg #[.int .i64 0, .int .i64 0, .int .i64 0, .bool false, .int .u64 0, .int .u64 0, .bool false, .int .u64 0, .int .u64 0, .slice none 0 0, .int .i64 0], .slice none 0 0, .int .i64 e]) ∧ Below w.heap.size w w' := by
  have h9 := six_any A n c l w h hn hv
  rw [he] at h9
  exact h9.mono fun o w' k => sixS.headP_fail k
theorem six_good (A : Option Addr) (n c : Nat) (l : List Int) (w : World) (h : Sl w A n c l) (hn : n ≤ 1000) (hv : l.getD 0 0 / 16 = 6) {ys : List XP} {q : Int} {r : List Int} (e1 : sixP l = .inr (ys, q, r)) : Calls Try.prog 19 #[.slice A n c] w (SixG l ys q r w) := by
  have hl := h.len
  have h9 := six_any A n c l w h hn hv
  obtain ⟨_, hlen, hsz, hru, q0, q9⟩ := tunV.six_sizes l h.u8 e1
  have hC : chn 9 [] (l.getD 6 0) ((l.take (40 + sizeP l)).drop 40) = some (ys, q, r) := by
    have e := e1
    unfold sixP at e
    rw [if_neg (by omega), if_neg (by omega), if_neg (by omega)] at e
    unfold ofC at e
    split at e
    · cases e
    · rename_i k
      injection e with e
      rw [k, e]
  obtain ⟨g1, g2, g3, g4, g5⟩ := sixT.put_back l h.u8 (by omega) hv (by omega) hC
  rw [e1] at h9
  refine h9.mono fun o w' k => ?_
  obtain ⟨hb9, L, A9, c9, B9, d9, k1, k2, k3, k4⟩ := sixS.headP_good k
  have hU : ∀ x ∈ L, U8 x.d := fun x hx => g3 x.re (by rw [← k2]; exact List.mem_map_of_mem hx)
  have hLn : L.length = ys.length := by rw [← k2, List.length_map]
  have h8 := g2.e.most
  have hd7 : ∀ x ∈ L, x.d.length ≤ 2047 := fun x hx => sixU.le2047 g2.e x.re (by rw [← k2]; exact List.mem_map_of_mem hx)
  refine ⟨hb9, A9, ys.length, c9, _, _, B9, d9, k1, Sl.own k4 rfl g4, fun V2 hV2 => ?_, fun V2 hV2 => ?_⟩
  · have h7 := sixA.frag_any (hdOf l q) A9 ys.length c9 L V2 hLn ((k3.below hV2).rd hU) (by omega)
    rw [k2] at h7
    exact h7
  · have h7 := sixO.len_any (hdOf l q) A9 ys.length c9 L V2 hLn ((k3.below hV2).rd hU) (by omega) hd7
    rw [k2] at h7
    exact h7
theorem open4_any (A : Option Addr) (n c : Nat) (l : List Int) (w : World) (h : Sl w A n c l) (hn : n ≤ 1000) : Calls Try.prog 39 #[.slice A n c] w (OpnP (rd4 l) w) := by
  have HF := fun V (hV : Below w.heap.size w V) => four_any A n c l V (h.below hV) hn
  unfold rd4
  by_cases he : fourE l = 0
  · rw [if_neg (by omega)]
    have HG : ∀ V, Below w.heap.size w V → Calls Try.prog 21 #[.slice A n c] V fun o w' => Below V.heap.size V w' ∧ (20 ≤ fourS l ∧ fourS l ≤ 60 ∧ (fourR l).length ≤ l.length ∧ ∃ (tos id : Int) (df : Bool) (AO : Option Addr) (co : Nat) (AR : Option Addr) (cr : Nat), o = .returned (.tuple #[.agg #[.int .i64 tos, .int .i64 id, .bool df, .bool (decide (udpA.w16 l 6 / 8192 % 2 = 1)), .int .i64 (udpA.w16 l 6 % 8192), .int .i64 (l.getD 8 0), .int .i64 (l.getD 9 0), .bool false, .int .u64 0, .int .u64 (tcpC.w32 l 12), .bool false, .int .u64 0, .int .u64 (tcpC.w32 l 16), .slice AO (fourS l - 20) co], .slice AR (fourR l).length cr, .int .i64 0]) ∧ Sl w' AR (fourR l).length cr (fourR l)) := fun V hV => (HF V hV).mono fun o w' k => by
      obtain ⟨hb, k⟩ := k
      rcases k with ⟨k1, _⟩ | ⟨_, k2⟩
      · exact absurd he k1
      · exact ⟨hb, k2⟩
    have key : ∀ (mf : Bool) (fr : Int), decide (udpA.w16 l 6 / 8192 % 2 = 1) = mf → udpA.w16 l 6 % 8192 = fr → Calls Try.prog 39 #[.slice A n c] w (OpnP ⟨fourR l, false, 0, tcpC.w32 l 12, false, 0, tcpC.w32 l 16, l.getD 9 0, if fr ≠ 0 ∨ mf = true then 21 else 0⟩ w) := by
      intro mf fr hm hf
      rw [hm, hf] at HG
      by_cases h0 : fr = 0
      · subst h0
        cases mf with
        | true =>
          rw [if_pos (.inr rfl)]
          exact open4_m A n c _ _ _ _ _ _ _ _ w (Lib.hid fun V hV => (HG V hV).mono fun o w' k => by
            obtain ⟨hb, _, _, _, tos, id, df, AO, co, AR, cr, e, hs⟩ := k
            exact ⟨hb, tos, id, df, _, AO, _, co, AR, cr, e, hs⟩)
        | false =>
          rw [if_neg (by simp)]
          exact open4_g A n c _ _ _ _ _ _ _ _ w (Lib.hid fun V hV => (HG V hV).mono fun o w' k => by
            obtain ⟨hb, _, _, _, tos, id, df, AO, co, AR, cr, e, hs⟩ := k
            exact ⟨hb, tos, id, df, _, AO, _, co, AR, cr, e, hs⟩)
      · rw [if_pos (.inl h0)]
        exact open4_f A n c mf fr _ _ _ _ _ _ _ _ h0 w (Lib.hid fun V hV => (HG V hV).mono fun o w' k => by
          obtain ⟨hb, _, _, _, tos, id, df, AO, co, AR, cr, e, hs⟩ := k
          exact ⟨hb, tos, id, df, _, AO, _, co, AR, cr, e, hs⟩)
    exact key _ _ rfl rfl
  · rw [if_pos he]
    exact open4_e A n c false 0 0 (fourE l) false 0 0 false 0 0 [] he w (Lib.hid fun V hV => (HF V hV).mono fun o w' k => by
      obtain ⟨hb, k⟩ := k
      rcases k with ⟨_, k2⟩ | ⟨k1, _⟩
      · exact ⟨hb, 0, 0, false, 0, none, 0, 0, none, 0, k2, Sl.none_ w'⟩
      · exact absurd k1 he)
theorem open6_any (A : Option Addr) (n c : Nat) (l : List Int) (w : World) (h : Sl w A n c l) (hn : n ≤ 1000) (hv : l.getD 0 0 / 16 = 6) : Calls Try.prog 40 #[.slice A n c] w (OpnP (rd6 l) w) := by
  unfold rd6
  cases hc : sixP l with
  | inl e =>
    simp only
    exact open6_e A n c 0 e false 0 0 false 0 0 [] (sixP_ne hc) w (Lib.hid fun V hV => (six_bad A n c l V (h.below hV) hn hv hc).mono fun o w' k => ⟨k.2, 0, 0, 0, none, 0, 0, none, 0, k.1, Sl.none_ w'⟩)
  | inr k =>
    obtain ⟨ys, q, r⟩ := k
    simp only
    have HG := fun V (hV : Below w.heap.size w V) => six_good A n c l V (h.below hV) hn hv hc
    have key : ∀ fr : Int, lies ys / 8 = fr → Calls Try.prog 40 #[.slice A n c] w (OpnP ⟨r, true, (hdOf l q).sh, (hdOf l q).sl, true, (hdOf l q).dh, (hdOf l q).dl, q, if fr ≠ 0 then 21 else 0⟩ w) := by
      intro fr hf
      by_cases h0 : fr = 0
      · subst h0
        rw [if_neg (by omega)]
        exact open6_g A n c q true _ _ true _ _ r w (Lib.hid fun V hV => (HG V hV).mono fun o w' k => by
          obtain ⟨hb, AX, nx, cx, cls, lab, AR, cr, e, hs, hfr, _⟩ := k
          rw [hf] at hfr
          exact ⟨hb, cls, lab, _, AX, nx, cx, AR, cr, e, hs, hfr⟩)
      · rw [if_pos h0]
        exact open6_f A n c fr q true _ _ true _ _ r h0 w (Lib.hid fun V hV => (HG V hV).mono fun o w' k => by
          obtain ⟨hb, AX, nx, cx, cls, lab, AR, cr, e, hs, hfr, _⟩ := k
          rw [hf] at hfr
          exact ⟨hb, cls, lab, _, AX, nx, cx, AR, cr, e, hs, hfr⟩)
    exact key _ rfl
end Go.Proofs.Ytodckfgfbcnkoaa.tunC
