/- 6 texts in one. -/
import Derived.Laws.CopyRow
import Derived.Deep.RegionHeld3
import Derived.Test.YtodckfgfbcnkoaaTb03
import Derived.Test.YtodckfgfbcnkoaaTb13
import Derived.Test.YtodckfgfbcnkoaaTb15
import Derived.Test.YtodckfgfbcnkoaaTb16
/- Words put into bytes; a time to live that is one less: plain words. -/
namespace Go.Proofs.Ytodckfgfbcnkoaa.tunV
open Go.ChangeShapes Go.WideShapes Go.ChangeAt Go.RowKit
open Go.Proofs.Ytodckfgfbcnkoaa.base Go.Proofs.Ytodckfgfbcnkoaa.sumA Go.Proofs.Ytodckfgfbcnkoaa.sumB Go.Proofs.Ytodckfgfbcnkoaa.sixW Go.Proofs.Ytodckfgfbcnkoaa.sixM Go.Proofs.Ytodckfgfbcnkoaa.pktA Go.Proofs.Ytodckfgfbcnkoaa.sixF
set_option linter.unusedVariables false

theorem four_sizes (l : List Int) (hu : U8 l) (he : fourE l = 0) : l.getD 0 0 / 16 = 4 ∧ 20 ≤ fourS l ∧ fourS l ≤ 60 ∧ (fourS l : Int) = fourA.hl l ∧ ((udpA.w16 l 2).toNat : Int) = udpA.w16 l 2 ∧ fourS l ≤ (udpA.w16 l 2).toNat ∧ (udpA.w16 l 2).toNat ≤ l.length ∧ fourS l + (fourR l).length = (udpA.w16 l 2).toNat ∧ udpA.w16 l 6 < 32768 ∧ fo (wsum (l.take (fourS l))) = 65535 := by
  have k0 := hu.get 0
  have hs : 0 ≤ fourA.hl l ∧ fourA.hl l ≤ 60 := by unfold fourA.hl; omega
  have k2 := udpA.w16_in l hu 2
  unfold fourE at he
  split at he
  · omega
  · split at he
    · omega
    · split at he
      · omega
      · split at he
        · omega
        · split at he
          · omega
          · split at he
            · omega
            · have e1 : (fourS l : Int) = fourA.hl l := by unfold fourS; omega
              have e2 : fo (wsum (l.take (fourS l))) = 65535 := by
                unfold fourS
                omega
              refine ⟨by omega, by omega, by omega, e1, by omega, by omega, by omega, ?_, by omega, e2⟩
              unfold fourR
              rw [List.length_take, List.length_drop]
              omega
theorem six_sizes (l : List Int) (hu : U8 l) {ys : List XP} {q : Int} {r : List Int} (he : sixP l = .inr (ys, q, r)) : l.getD 0 0 / 16 = 6 ∧ 40 + sizeP l ≤ l.length ∧ extL ys + r.length = sizeP l ∧ U8 r ∧ 0 ≤ q ∧ q ≤ 255 := by
  unfold sixP at he
  split at he
  · cases he
  · split at he
    · cases he
    · split at he
      · cases he
      · have hL : ((l.take (40 + sizeP l)).drop 40).length = sizeP l := by rw [List.length_drop, List.length_take]; omega
        cases hc : chn 9 [] (l.getD 6 0) ((l.take (40 + sizeP l)).drop 40) with
        | none => rw [hc] at he; cases he
        | some k =>
          obtain ⟨ys', q', r'⟩ := k
          rw [hc] at he
          obtain ⟨rfl, rfl, rfl⟩ : ys' = ys ∧ q' = q ∧ r' = r := by
            have e : (Sum.inr (ys', q', r') : Res) = .inr (ys, q, r) := he
            injection e with e
            injection e with e1 e2
            injection e2 with e2 e3
            exact ⟨e1, e2, e3⟩
          obtain ⟨zs, e1, e2, e3, e4, e5, e6, e7, e8, e9, e10⟩ := chn_sound 9 [] _ _ ((hu.take _).drop _) (hu.get 6) RightE.nil (fun x hx => by cases hx) hc
          refine ⟨by omega, by omega, ?_, e9, e6, e7⟩
          have e : extL zs + r'.length = sizeP l := by rw [← hL, e3, List.length_append, extB_len]
          rw [List.nil_append] at e1
          rw [e1]
          exact e
end Go.Proofs.Ytodckfgfbcnkoaa.tunV
/- Layer 14: open4, open6 of any bytes. -/
namespace Go.Proofs.Ytodckfgfbcnkoaa.tunC
open Go.ChangeShapes Go.WideShapes Go.ChangeAt Go.RowKit
open Go.Proofs.Ytodckfgfbcnkoaa.base Go.Proofs.Ytodckfgfbcnkoaa.octA Go.Proofs.Ytodckfgfbcnkoaa.rdrA Go.Proofs.Ytodckfgfbcnkoaa.rdrG Go.Proofs.Ytodckfgfbcnkoaa.sixW Go.Proofs.Ytodckfgfbcnkoaa.sixM Go.Proofs.Ytodckfgfbcnkoaa.pktA Go.Proofs.Ytodckfgfbcnkoaa.pktB Go.Proofs.Ytodckfgfbcnkoaa.sixA Go.Proofs.Ytodckfgfbcnkoaa.sixE Go.Proofs.Ytodckfgfbcnkoaa.sixF Go.Proofs.Ytodckfgfbcnkoaa.sixO Go.Proofs.Ytodckfgfbcnkoaa.tunW Go.Proofs.Ytodckfgfbcnkoaa.tunB
set_option linter.unusedVariables false

def SixG (l : List Int) (ys : List XP) (q : Int) (r : List Int) (w : World) (o : Ending) (w' : World) : Prop := Below w.heap.size w w' ∧ ∃ (AX : Option Addr) (nx cx : Nat) (cls lab : Int) (AR : Option Addr) (cr : Nat), o = .returned (.tuple #[.agg #[.int .i64 cls, .int .i64 lab, .int .i64 (l.getD 7 0), .bool true, .int .u64 (hdOf l q).sh, .int .u64 (hdOf l q).sl, .bool true, .int .u64 (hdOf l q).dh, .int .u64 (hdOf l q).dl, .slice AX nx cx, .int .i64 q], .slice AR r.length cr, .int .i64 0]) ∧ Sl w' AR r.length cr r
      ∧ (∀ V2, Below w'.heap.size w' V2 → Calls Try.prog 20 #[.agg #[.int .i64 cls, .int .i64 lab, .int .i64 (l.getD 7 0), .bool true, .int .u64 (hdOf l q).sh, .int .u64 (hdOf l q).sl, .bool true, .int .u64 (hdOf l q).dh, .int .u64 (hdOf l q).dl, .slice AX nx cx, .int .i64 q]] V2 fun o w' => o = .returned (.int .i64 (lies ys / 8)) ∧ Below V2.heap.size V2 w')
      ∧ (∀ V2, Below w'.heap.size w' V2 → Calls Try.prog 33 #[.agg #[.int .i64 cls, .int .i64 lab, .int .i64 (l.getD 7 0), .bool true, .int .u64 (hdOf l q).sh, .int .u64 (hdOf l q).sl, .bool true, .int .u64 (hdOf l q).dh, .int .u64 (hdOf l q).dl, .slice AX nx cx, .int .i64 q]] V2 fun o w' => o = .returned (.int .i64 (40 + extL ys : Nat)) ∧ Below V2.heap.size V2 w')
theorem six_any (A : Option Addr) (n c : Nat) (l : List Int) (w : World) (h : Sl w A n c l) (hn : n ≤ 1000) (hv : l.getD 0 0 / 16 = 6) : Calls Try.prog 19 #[.slice A n c] w (HeadP w l (sixP l)) := by
  have hl := h.len
  by_cases h40 : n < 40
  · exact sixF.parse_short A n c l w hl h40
  obtain ⟨b, off, rfl, hb, hs⟩ := lies_of h.row (by omega)
  exact sixF.parse_ok b off n c l w hl (by omega) (by omega) h.nc h.mx hb hs h.u8 hv
theorem sixP_ne {l : List Int} {e : Int} (h : sixP l = .inl e) : e ≠ 0 := by
  unfold sixP at h
  split at h
  · injection h with h; omega
  · split at h
    · injection h with h; omega
    · split at h
      · injection h with h; omega
      · unfold ofC at h
        split at h
        · injection h with h; omega
        · cases h
theorem six_bad (A : Option Addr) (n c : Nat) (l : List Int) (w : World) (h : Sl w A n c l) (hn : n ≤ 1000) (hv : l.getD 0 0 / 16 = 6) {e : Int} (he : sixP l = .inl e) : Calls Try.prog 19 #[.slice A n c] w fun o w' => o = .returned (.tuple #[.agg #[.int .i64 0, .int .i64 0, .int .i64 0, .bool false, .int .u64 0, .int .u64 0, .bool false, .int .u64 0, .int .u64 0, .slice none 0 0, .int .i64 0], .slice none 0 0, .int .i64 e]) ∧ Below w.heap.size w w' := by
  have h9 := six_any A n c l w h hn hv
  rw [he] at h9
  exact h9.mono fun o w' k => sixS.headP_fail k
theorem six_good (A : Option Addr) (n c : Nat) (l : List Int) (w : World) (h : Sl w A n c l) (hn : n ≤ 1000) (hv : l.getD 0 0 / 16 = 6) {ys : List XP} {q : Int} {r : List Int} (e1 : sixP l = .inr (ys, q, r)) : Calls Try.prog 19 #[.slice A n c] w (SixG l ys q r w) := by
  have hl := h.len
  have h9 := six_any A n c l w h hn hv
  obtain ⟨_, hlen, hsz, hru, q0, q9⟩ := tunV.six_sizes l h.u8 e1
  have hC : chn 9 [] (l.getD 6 0) ((l.take (40 + sizeP l)).drop 40) = some (ys, q, r) := by
    have e := e1
    unfold sixP at e
    rw [if_neg (by omega), if_neg (by omega), if_neg (by omega)] at e
    unfold ofC at e
    split at e
    · cases e
    · rename_i k
      injection e with e
      rw [k, e]
  obtain ⟨g1, g2, g3, g4, g5⟩ := sixT.put_back l h.u8 (by omega) hv (by omega) hC
  rw [e1] at h9
  refine h9.mono fun o w' k => ?_
  obtain ⟨hb9, L, A9, c9, B9, d9, k1, k2, k3, k4⟩ := sixS.headP_good k
  have hU : ∀ x ∈ L, U8 x.d := fun x hx => g3 x.re (by rw [← k2]; exact List.mem_map_of_mem hx)
  have hLn : L.length = ys.length := by rw [← k2, List.length_map]
  have h8 := g2.e.most
  have hd7 : ∀ x ∈ L, x.d.length ≤ 2047 := fun x hx => sixU.le2047 g2.e x.re (by rw [← k2]; exact List.mem_map_of_mem hx)
  refine ⟨hb9, A9, ys.length, c9, _, _, B9, d9, k1, Sl.own k4 rfl g4, fun V2 hV2 => ?_, fun V2 hV2 => ?_⟩
  · have h7 := sixA.frag_any (hdOf l q) A9 ys.length c9 L V2 hLn ((k3.below hV2).rd hU) (by omega)
    rw [k2] at h7
    exact h7
  · have h7 := sixO.len_any (hdOf l q) A9 ys.length c9 L V2 hLn ((k3.below hV2).rd hU) (by omega) hd7
    rw [k2] at h7
    exact h7
theorem open4_any (A : Option Addr) (n c : Nat) (l : List Int) (w : World) (h : Sl w A n c l) (hn : n ≤ 1000) : Calls Try.prog 39 #[.slice A n c] w (OpnP (rd4 l) w) := by
  have HF := fun V (hV : Below w.heap.size w V) => four_any A n c l V (h.below hV) hn
  unfold rd4
  by_cases he : fourE l = 0
  · rw [if_neg (by omega)]
    have HG : ∀ V, Below w.heap.size w V → Calls Try.prog 21 #[.slice A n c] V fun o w' => Below V.heap.size V w' ∧ (20 ≤ fourS l ∧ fourS l ≤ 60 ∧ (fourR l).length ≤ l.length ∧ ∃ (tos id : Int) (df : Bool) (AO : Option Addr) (co : Nat) (AR : Option Addr) (cr : Nat), o = .returned (.tuple #[.agg #[.int .i64 tos, .int .i64 id, .bool df, .bool (decide (udpA.w16 l 6 / 8192 % 2 = 1)), .int .i64 (udpA.w16 l 6 % 8192), .int .i64 (l.getD 8 0), .int .i64 (l.getD 9 0), .bool false, .int .u64 0, .int .u64 (tcpC.w32 l 12), .bool false, .int .u64 0, .int .u64 (tcpC.w32 l 16), .slice AO (fourS l - 20) co], .slice AR (fourR l).length cr, .int .i64 0]) ∧ Sl w' AR (fourR l).length cr (fourR l)) := fun V hV => (HF V hV).mono fun o w' k => by
      obtain ⟨hb, k⟩ := k
      rcases k with ⟨k1, _⟩ | ⟨_, k2⟩
      · exact absurd he k1
      · exact ⟨hb, k2⟩
    have key : ∀ (mf : Bool) (fr : Int), decide (udpA.w16 l 6 / 8192 % 2 = 1) = mf → udpA.w16 l 6 % 8192 = fr → Calls Try.prog 39 #[.slice A n c] w (OpnP ⟨fourR l, false, 0, tcpC.w32 l 12, false, 0, tcpC.w32 l 16, l.getD 9 0, if fr ≠ 0 ∨ mf = true then 21 else 0⟩ w) := by
      intro mf fr hm hf
      rw [hm, hf] at HG
      by_cases h0 : fr = 0
      · subst h0
        cases mf with
        | true =>
          rw [if_pos (.inr rfl)]
          exact open4_m A n c _ _ _ _ _ _ _ _ w (Lib.hid fun V hV => (HG V hV).mono fun o w' k => by
            obtain ⟨hb, _, _, _, tos, id, df, AO, co, AR, cr, e, hs⟩ := k
            exact ⟨hb, tos, id, df, _, AO, _, co, AR, cr, e, hs⟩)
        | false =>
          rw [if_neg (by simp)]
          exact open4_g A n c _ _ _ _ _ _ _ _ w (Lib.hid fun V hV => (HG V hV).mono fun o w' k => by
            obtain ⟨hb, _, _, _, tos, id, df, AO, co, AR, cr, e, hs⟩ := k
            exact ⟨hb, tos, id, df, _, AO, _, co, AR, cr, e, hs⟩)
      · rw [if_pos (.inl h0)]
        exact open4_f A n c mf fr _ _ _ _ _ _ _ _ h0 w (Lib.hid fun V hV => (HG V hV).mono fun o w' k => by
          obtain ⟨hb, _, _, _, tos, id, df, AO, co, AR, cr, e, hs⟩ := k
          exact ⟨hb, tos, id, df, _, AO, _, co, AR, cr, e, hs⟩)
    exact key _ _ rfl rfl
  · rw [if_pos he]
    exact open4_e A n c false 0 0 (fourE l) false 0 0 false 0 0 [] he w (Lib.hid fun V hV => (HF V hV).mono fun o w' k => by
      obtain ⟨hb, k⟩ := k
      rcases k with ⟨_, k2⟩ | ⟨k1, _⟩
      · exact ⟨hb, 0, 0, false, 0, none, 0, 0, none, 0, k2, Sl.none_ w'⟩
      · exact absurd k1 he)
theorem open6_any (A : Option Addr) (n c : Nat) (l : List Int) (w : World) (h : Sl w A n c l) (hn : n ≤ 1000) (hv : l.getD 0 0 / 16 = 6) : Calls Try.prog 40 #[.slice A n c] w (OpnP (rd6 l) w) := by
  unfold rd6
  cases hc : sixP l with
  | inl e =>
    simp only
    exact open6_e A n c 0 e false 0 0 false 0 0 [] (sixP_ne hc) w (Lib.hid fun V hV => (six_bad A n c l V (h.below hV) hn hv hc).mono fun o w' k => ⟨k.2, 0, 0, 0, none, 0, 0, none, 0, k.1, Sl.none_ w'⟩)
  | inr k =>
    obtain ⟨ys, q, r⟩ := k
    simp only
    have HG := fun V (hV : Below w.heap.size w V) => six_good A n c l V (h.below hV) hn hv hc
    have key : ∀ fr : Int, lies ys / 8 = fr → Calls Try.prog 40 #[.slice A n c] w (OpnP ⟨r, true, (hdOf l q).sh, (hdOf l q).sl, true, (hdOf l q).dh, (hdOf l q).dl, q, if fr ≠ 0 then 21 else 0⟩ w) := by
      intro fr hf
      by_cases h0 : fr = 0
      · subst h0
        rw [if_neg (by omega)]
        exact open6_g A n c q true _ _ true _ _ r w (Lib.hid fun V hV => (HG V hV).mono fun o w' k => by
          obtain ⟨hb, AX, nx, cx, cls, lab, AR, cr, e, hs, hfr, _⟩ := k
          rw [hf] at hfr
          exact ⟨hb, cls, lab, _, AX, nx, cx, AR, cr, e, hs, hfr⟩)
      · rw [if_pos h0]
        exact open6_f A n c fr q true _ _ true _ _ r h0 w (Lib.hid fun V hV => (HG V hV).mono fun o w' k => by
          obtain ⟨hb, AX, nx, cx, cls, lab, AR, cr, e, hs, hfr, _⟩ := k
          rw [hf] at hfr
          exact ⟨hb, cls, lab, _, AX, nx, cx, AR, cr, e, hs, hfr⟩)
    exact key _ rfl
end Go.Proofs.Ytodckfgfbcnkoaa.tunC
namespace Go.Proofs.Ytodckfgfbcnkoaa.tunH
end Go.Proofs.Ytodckfgfbcnkoaa.tunH
namespace Go.Proofs.Ytodckfgfbcnkoaa.natW
end Go.Proofs.Ytodckfgfbcnkoaa.natW
/- Layer 14: Less as one contract; a time to live. -/
namespace Go.Proofs.Ytodckfgfbcnkoaa.tunI
open Go.ChangeShapes Go.WideShapes Go.ChangeAt Go.RowKit
open Go.Proofs.Ytodckfgfbcnkoaa.rdrA Go.Proofs.Ytodckfgfbcnkoaa.pktA Go.Proofs.Ytodckfgfbcnkoaa.sixF Go.Proofs.Ytodckfgfbcnkoaa.tunW
set_option linter.unusedVariables false

def ttE (l : List Int) : Int := if (numP l).2 ≠ 0 then (numP l).2 else if l.getD 0 0 / 16 = 6 then (match sixP l with | .inl e => e | .inr _ => 0) else fourE l
def ttT (l : List Int) : Int := if l.getD 0 0 / 16 = 6 then l.getD 7 0 else l.getD 8 0
def ttS (l : List Int) : Nat := if l.getD 0 0 / 16 = 6 then 40 + sizeP l else (udpA.w16 l 2).toNat
end Go.Proofs.Ytodckfgfbcnkoaa.tunI
/- Layer 14: a time to live, and a size, as the law tells them. -/
namespace Go.Proofs.Ytodckfgfbcnkoaa.tunJ
open Go.ChangeShapes Go.WideShapes Go.ChangeAt Go.RowKit
open Go.Proofs.Ytodckfgfbcnkoaa.base Go.Proofs.Ytodckfgfbcnkoaa.octA Go.Proofs.Ytodckfgfbcnkoaa.rdrA Go.Proofs.Ytodckfgfbcnkoaa.rdrG Go.Proofs.Ytodckfgfbcnkoaa.sixW Go.Proofs.Ytodckfgfbcnkoaa.sixM Go.Proofs.Ytodckfgfbcnkoaa.pktA Go.Proofs.Ytodckfgfbcnkoaa.pktB Go.Proofs.Ytodckfgfbcnkoaa.pktC Go.Proofs.Ytodckfgfbcnkoaa.pktE Go.Proofs.Ytodckfgfbcnkoaa.sixE Go.Proofs.Ytodckfgfbcnkoaa.sixF Go.Proofs.Ytodckfgfbcnkoaa.sixO Go.Proofs.Ytodckfgfbcnkoaa.tunW Go.Proofs.Ytodckfgfbcnkoaa.tunC Go.Proofs.Ytodckfgfbcnkoaa.tunV Go.Proofs.Ytodckfgfbcnkoaa.tunI
set_option linter.unusedVariables false

set_option maxHeartbeats 4000000 in
set_option maxRecDepth 100000 in
theorem ttl_4 (b off n c : Nat) (x : Int) (mf : Bool) (fr ttl pr sl dl : Int) (no : Nat) (hno : no ≤ 1000) (r : List Int) (hr : r.length ≤ 1000) (e S : Int) (hS : S = 20 + (no : Int) + (r.length : Int)) (h4 : x / 16 = 4) (w : World) (j0 : 0 < n) (hb : b < w.heap.size) (hy : w.cell? ⟨b, off, none⟩ = some (.int .u8 x)) (x0 : 0 ≤ x ∧ x ≤ 255)
    (HC : Hid (∀ V, Below w.heap.size w V → Calls Try.prog 21 #[.slice (some ⟨b, off, none⟩) n c] V fun o w' => Below V.heap.size V w' ∧ ∃ (tos id : Int) (df : Bool) (AO : Option Addr) (co : Nat) (AR : Option Addr) (cr : Nat), o = .returned (.tuple #[.agg #[.int .i64 tos, .int .i64 id, .bool df, .bool mf, .int .i64 fr, .int .i64 ttl, .int .i64 pr, .bool false, .int .u64 0, .int .u64 sl, .bool false, .int .u64 0, .int .u64 dl, .slice AO no co], .slice AR r.length cr, .int .i64 e]) ∧ Sl w' AR r.length cr r)) :
    Calls Try.prog 12 #[.slice (some ⟨b, off, none⟩) n c] w fun o w' => o = .returned (.tuple #[.int .i64 ttl, .int .i64 S, .int .i64 e]) ∧ Below w.heap.size w w' := by
  obtain ⟨m, hm0⟩ : ∃ m, m = r.length := ⟨_, rfl⟩
  rw [← hm0] at HC hS hr
  clear hm0
  have t4 : (x / 16 == 4) = true := by simpa using h4
  have j1 : (0 : Int) < n := by omega
  have c0 : ((n : Int) == 0) = false := by simp; omega
  have c0n : (n == 0) = false := by simp; omega
  have wS : IntKind.i64.wrap (20 + (no : Int) + (m : Int)) = S := by rw [IntWalk.i64_in _ (by omega), hS]
  have HLN := Lib.hid (fun (tos id : Int) (df : Bool) (AO : Option Addr) (co : Nat) (V : World) => len4_any tos id df mf fr ttl pr sl dl AO no co V hno)
  clear hno
  clear h4 hS hr
  go_enter Try.func12, Try.ntmps12
  go_wp2_with fail
  refine (HC.out _ (Below.refl _ _)).mono ?_
  rintro o w2 ⟨hb2, tos, id, df, AO, co, AR, cr, rfl, hsl⟩
  obtain ⟨w3, hw3⟩ : ∃ w3, w3 = w2.alloc (.cells #[.int .i64 tos, .int .i64 id, .bool df, .bool mf, .int .i64 fr, .int .i64 ttl, .int .i64 pr, .bool false, .int .u64 0, .int .u64 sl, .bool false, .int .u64 0, .int .u64 dl, .slice AO no co] 53) := ⟨_, rfl⟩
  obtain ⟨h, hh⟩ : ∃ h, h = w2.heap.size := ⟨_, rfl⟩
  have EH := Lib.hid hh
  have E3 := Lib.hid hw3
  have B23 := Lib.hid (show Below w2.heap.size w2 w3 from by rw [hw3]; exact (Below.refl _ _).alloc (Nat.le_refl _) _)
  have KH3 := Lib.hid (show Blk w3 h 53 #[.int .i64 tos, .int .i64 id, .bool df, .bool mf, .int .i64 fr, .int .i64 ttl, .int .i64 pr, .bool false, .int .u64 0, .int .u64 sl, .bool false, .int .u64 0, .int .u64 dl, .slice AO no co] from by rw [hw3, hh]; exact Blk.new w2 _ _)
  have B3 := Lib.hid (hb2.trans (B23.out.mono hb2.size))
  clear hw3 hb2 hh hsl hy hb
  have HSF := Lib.hid (show ∀ V, Below w3.heap.size w3 V → (V.cell? ⟨h, 0, none⟩ = some (.int .i64 tos) ∧ V.cell? ⟨h, 1, none⟩ = some (.int .i64 id) ∧ V.cell? ⟨h, 2, none⟩ = some (.bool df) ∧ V.cell? ⟨h, 3, none⟩ = some (.bool mf) ∧ V.cell? ⟨h, 4, none⟩ = some (.int .i64 fr) ∧ V.cell? ⟨h, 5, none⟩ = some (.int .i64 ttl) ∧ V.cell? ⟨h, 6, none⟩ = some (.int .i64 pr) ∧ V.cell? ⟨h, 7, none⟩ = some (.bool false) ∧ V.cell? ⟨h, 8, none⟩ = some (.int .u64 0) ∧ V.cell? ⟨h, 9, none⟩ = some (.int .u64 sl) ∧ V.cell? ⟨h, 10, none⟩ = some (.bool false) ∧ V.cell? ⟨h, 11, none⟩ = some (.int .u64 0) ∧ V.cell? ⟨h, 12, none⟩ = some (.int .u64 dl) ∧ V.cell? ⟨h, 13, none⟩ = some (.slice AO no co)) from fun V hV => ⟨(KH3.out.below hV KH3.out.lt).cell 0, (KH3.out.below hV KH3.out.lt).cell 1, (KH3.out.below hV KH3.out.lt).cell 2, (KH3.out.below hV KH3.out.lt).cell 3, (KH3.out.below hV KH3.out.lt).cell 4, (KH3.out.below hV KH3.out.lt).cell 5, (KH3.out.below hV KH3.out.lt).cell 6, (KH3.out.below hV KH3.out.lt).cell 7, (KH3.out.below hV KH3.out.lt).cell 8, (KH3.out.below hV KH3.out.lt).cell 9, (KH3.out.below hV KH3.out.lt).cell 10, (KH3.out.below hV KH3.out.lt).cell 11, (KH3.out.below hV KH3.out.lt).cell 12, (KH3.out.below hV KH3.out.lt).cell 13⟩)
  have HS0 := Lib.hid (HSF.out w3.drew (Below.refl _ _).drew)
  go_upto_region 5 with fail
  rw [← E3.out, ← EH.out]
  go_region_held3 (fun V => V.cell? ⟨h, 0, none⟩ = some (.int .i64 tos) ∧ V.cell? ⟨h, 1, none⟩ = some (.int .i64 id) ∧ V.cell? ⟨h, 2, none⟩ = some (.bool df) ∧ V.cell? ⟨h, 3, none⟩ = some (.bool mf) ∧ V.cell? ⟨h, 4, none⟩ = some (.int .i64 fr) ∧ V.cell? ⟨h, 5, none⟩ = some (.int .i64 ttl) ∧ V.cell? ⟨h, 6, none⟩ = some (.int .i64 pr) ∧ V.cell? ⟨h, 7, none⟩ = some (.bool false) ∧ V.cell? ⟨h, 8, none⟩ = some (.int .u64 0) ∧ V.cell? ⟨h, 9, none⟩ = some (.int .u64 sl) ∧ V.cell? ⟨h, 10, none⟩ = some (.bool false) ∧ V.cell? ⟨h, 11, none⟩ = some (.int .u64 0) ∧ V.cell? ⟨h, 12, none⟩ = some (.int .u64 dl) ∧ V.cell? ⟨h, 13, none⟩ = some (.slice AO no co)) (first | with_reducible assumption | with_reducible exact HS0.out | with_reducible exact HS5.out) (first | (go_at_call 32; (with_reducible refine (HLN.out _ _ _ _ _ _).mono ?_); rintro o w5 ⟨rfl, hb5⟩; have O5 := Lib.hid ((Below.refl w3.heap.size w3).drew.trans (hb5.mono (Nat.le_refl _))); have HS5 := Lib.hid (HSF.out w5 O5.out); clear hb5))
  go_wp2_with fail
  refine bodyPost_ret (v := .tuple #[.int .i64 ttl, .int .i64 S, .int .i64 e]) (by simp [results, Try.results12, go_sem]) rfl ?_
  exact ⟨rfl, B3.out.trans (O5.out.mono B3.out.size)⟩
set_option maxHeartbeats 4000000 in
set_option maxRecDepth 100000 in
theorem ttl_6 (b off n c : Nat) (x : Int) (ttl pr : Int) (s6 : Bool) (sh sl : Int) (d6 : Bool) (dh dl : Int) (L : Int) (L0 : 0 ≤ L) (L9 : L ≤ 100000) (r : List Int) (hr : r.length ≤ 1000) (e S : Int) (hS : S = L + (r.length : Int)) (h4 : x / 16 ≠ 4) (h6 : x / 16 = 6) (w : World) (j0 : 0 < n) (hb : b < w.heap.size) (hy : w.cell? ⟨b, off, none⟩ = some (.int .u8 x)) (x0 : 0 ≤ x ∧ x ≤ 255)
    (HC : Hid (∀ V, Below w.heap.size w V → Calls Try.prog 19 #[.slice (some ⟨b, off, none⟩) n c] V fun o w' => Below V.heap.size V w' ∧ ∃ (cls lab : Int) (AO : Option Addr) (no co : Nat) (AR : Option Addr) (cr : Nat), o = .returned (.tuple #[.agg #[.int .i64 cls, .int .i64 lab, .int .i64 ttl, .bool s6, .int .u64 sh, .int .u64 sl, .bool d6, .int .u64 dh, .int .u64 dl, .slice AO no co, .int .i64 pr], .slice AR r.length cr, .int .i64 e]) ∧ Sl w' AR r.length cr r ∧ (∀ V2, Below w'.heap.size w' V2 → Calls Try.prog 33 #[.agg #[.int .i64 cls, .int .i64 lab, .int .i64 ttl, .bool s6, .int .u64 sh, .int .u64 sl, .bool d6, .int .u64 dh, .int .u64 dl, .slice AO no co, .int .i64 pr]] V2 fun o w' => o = .returned (.int .i64 L) ∧ Below V2.heap.size V2 w'))) :
    Calls Try.prog 12 #[.slice (some ⟨b, off, none⟩) n c] w fun o w' => o = .returned (.tuple #[.int .i64 ttl, .int .i64 S, .int .i64 e]) ∧ Below w.heap.size w w' := by
  obtain ⟨m, hm0⟩ : ∃ m, m = r.length := ⟨_, rfl⟩
  rw [← hm0] at HC hS hr
  clear hm0
  have t4 : (x / 16 == 4) = false := by simpa using h4
  have t6 : (x / 16 == 6) = true := by simpa using h6
  have j1 : (0 : Int) < n := by omega
  have c0 : ((n : Int) == 0) = false := by simp; omega
  have c0n : (n == 0) = false := by simp; omega
  have wS : IntKind.i64.wrap (L + (m : Int)) = S := by rw [IntWalk.i64_in _ (by omega), hS]
  clear h4 h6 L0 L9 hS hr
  go_enter Try.func12, Try.ntmps12
  go_wp2_with fail
  refine (HC.out _ (Below.refl _ _)).mono ?_
  rintro o w2 ⟨hb2, cls, lab, AO, no, co, AR, cr, rfl, hsl, hln⟩
  obtain ⟨w3, hw3⟩ : ∃ w3, w3 = w2.alloc (.cells #[.int .i64 cls, .int .i64 lab, .int .i64 ttl, .bool s6, .int .u64 sh, .int .u64 sl, .bool d6, .int .u64 dh, .int .u64 dl, .slice AO no co, .int .i64 pr] 48) := ⟨_, rfl⟩
  obtain ⟨h, hh⟩ : ∃ h, h = w2.heap.size := ⟨_, rfl⟩
  have EH := Lib.hid hh
  have E3 := Lib.hid hw3
  have B23 := Lib.hid (show Below w2.heap.size w2 w3 from by rw [hw3]; exact (Below.refl _ _).alloc (Nat.le_refl _) _)
  have KH3 := Lib.hid (show Blk w3 h 48 #[.int .i64 cls, .int .i64 lab, .int .i64 ttl, .bool s6, .int .u64 sh, .int .u64 sl, .bool d6, .int .u64 dh, .int .u64 dl, .slice AO no co, .int .i64 pr] from by rw [hw3, hh]; exact Blk.new w2 _ _)
  have B3 := Lib.hid (hb2.trans (B23.out.mono hb2.size))
  have HLN := Lib.hid (hln w3.drew B23.out.drew)
  clear hw3 hb2 hh hsl hln hy hb
  have HSF := Lib.hid (show ∀ V, Below w3.heap.size w3 V → (V.cell? ⟨h, 0, none⟩ = some (.int .i64 cls) ∧ V.cell? ⟨h, 1, none⟩ = some (.int .i64 lab) ∧ V.cell? ⟨h, 2, none⟩ = some (.int .i64 ttl) ∧ V.cell? ⟨h, 3, none⟩ = some (.bool s6) ∧ V.cell? ⟨h, 4, none⟩ = some (.int .u64 sh) ∧ V.cell? ⟨h, 5, none⟩ = some (.int .u64 sl) ∧ V.cell? ⟨h, 6, none⟩ = some (.bool d6) ∧ V.cell? ⟨h, 7, none⟩ = some (.int .u64 dh) ∧ V.cell? ⟨h, 8, none⟩ = some (.int .u64 dl) ∧ V.cell? ⟨h, 9, none⟩ = some (.slice AO no co) ∧ V.cell? ⟨h, 10, none⟩ = some (.int .i64 pr)) from fun V hV => ⟨(KH3.out.below hV KH3.out.lt).cell 0, (KH3.out.below hV KH3.out.lt).cell 1, (KH3.out.below hV KH3.out.lt).cell 2, (KH3.out.below hV KH3.out.lt).cell 3, (KH3.out.below hV KH3.out.lt).cell 4, (KH3.out.below hV KH3.out.lt).cell 5, (KH3.out.below hV KH3.out.lt).cell 6, (KH3.out.below hV KH3.out.lt).cell 7, (KH3.out.below hV KH3.out.lt).cell 8, (KH3.out.below hV KH3.out.lt).cell 9, (KH3.out.below hV KH3.out.lt).cell 10⟩)
  have HS0 := Lib.hid (HSF.out w3.drew (Below.refl _ _).drew)
  go_upto_region 8 with fail
  rw [← E3.out, ← EH.out]
  go_region_held3 (fun V => V.cell? ⟨h, 0, none⟩ = some (.int .i64 cls) ∧ V.cell? ⟨h, 1, none⟩ = some (.int .i64 lab) ∧ V.cell? ⟨h, 2, none⟩ = some (.int .i64 ttl) ∧ V.cell? ⟨h, 3, none⟩ = some (.bool s6) ∧ V.cell? ⟨h, 4, none⟩ = some (.int .u64 sh) ∧ V.cell? ⟨h, 5, none⟩ = some (.int .u64 sl) ∧ V.cell? ⟨h, 6, none⟩ = some (.bool d6) ∧ V.cell? ⟨h, 7, none⟩ = some (.int .u64 dh) ∧ V.cell? ⟨h, 8, none⟩ = some (.int .u64 dl) ∧ V.cell? ⟨h, 9, none⟩ = some (.slice AO no co) ∧ V.cell? ⟨h, 10, none⟩ = some (.int .i64 pr)) (first | with_reducible assumption | with_reducible exact HS0.out | with_reducible exact HS5.out) (first | (go_at_call 33; (with_reducible refine HLN.out.mono ?_); rintro o w5 ⟨rfl, hb5⟩; have O5 := Lib.hid ((Below.refl w3.heap.size w3).drew.trans (hb5.mono (Nat.le_refl _))); have HS5 := Lib.hid (HSF.out w5 O5.out); clear hb5))
  go_wp2_with fail
  refine bodyPost_ret (v := .tuple #[.int .i64 ttl, .int .i64 S, .int .i64 e]) (by simp [results, Try.results12, go_sem]) rfl ?_
  exact ⟨rfl, B3.out.trans (O5.out.mono B3.out.size)⟩
theorem ttl_z (A : Option Addr) (c : Nat) (w : World) : Calls Try.prog 12 #[.slice A 0 c] w fun o w' => o = .returned (.tuple #[.int .i64 0, .int .i64 0, .int .i64 2]) ∧ Below w.heap.size w w' := by
  go_enter Try.func12, Try.ntmps12
  go_wp2_with fail
  refine bodyPost_ret (v := .tuple #[.int .i64 0, .int .i64 0, .int .i64 2]) (by simp [results, Try.results12, go_sem]) rfl ?_
  exact ⟨rfl, Below.refl _ _⟩
theorem ttl_x (b off n c : Nat) (x : Int) (h4 : x / 16 ≠ 4) (h6 : x / 16 ≠ 6) (w : World) (j0 : 0 < n) (hy : w.cell? ⟨b, off, none⟩ = some (.int .u8 x)) (x0 : 0 ≤ x ∧ x ≤ 255) : Calls Try.prog 12 #[.slice (some ⟨b, off, none⟩) n c] w fun o w' => o = .returned (.tuple #[.int .i64 0, .int .i64 0, .int .i64 10]) ∧ Below w.heap.size w w' := by
  have t4 : (x / 16 == 4) = false := by simpa using h4
  have t6 : (x / 16 == 6) = false := by simpa using h6
  have j1 : (0 : Int) < n := by omega
  have c0 : ((n : Int) == 0) = false := by simp; omega
  have c0n : (n == 0) = false := by simp; omega
  clear h4 h6
  go_enter Try.func12, Try.ntmps12
  go_wp2_with fail
  refine bodyPost_ret (v := .tuple #[.int .i64 0, .int .i64 0, .int .i64 10]) (by simp [results, Try.results12, go_sem]) rfl ?_
  exact ⟨rfl, Below.refl _ _⟩
def TtP (l : List Int) (w : World) (o : Ending) (w' : World) : Prop := Below w.heap.size w w' ∧ ∃ (t s : Int), o = .returned (.tuple #[.int .i64 t, .int .i64 s, .int .i64 (ttE l)]) ∧ (ttE l = 0 → t = ttT l ∧ s = (ttS l : Int))
theorem ttl_any (A : Option Addr) (n c : Nat) (l : List Int) (w : World) (h : Sl w A n c l) (hn : n ≤ 1000) : Calls Try.prog 12 #[.slice A n c] w (TtP l w) := by
  have hl := h.len
  by_cases h0 : n = 0
  · subst h0
    have e : ttE l = 2 := by
      have e2 : numP l = (0, 2) := by unfold numP; rw [if_pos (by omega)]
      unfold ttE
      rw [e2]
      rfl
    refine (ttl_z A c w).mono fun o w' k => ⟨k.2, 0, 0, by rw [e]; exact k.1, fun k2 => by rw [e] at k2; cases k2⟩
  obtain ⟨b, off, rfl, hb, hs⟩ := lies_of h.row (by omega)
  have y0 : w.cell? ⟨b, off, none⟩ = some (.int .u8 (l.getD 0 0)) := hs 0 (by omega)
  have u0 := h.u8.get 0
  by_cases h4 : l.getD 0 0 / 16 = 4
  · have e2 : numP l = (4, 0) := by unfold numP; rw [if_neg (by omega), if_pos h4]
    have eE : ttE l = fourE l := by unfold ttE; rw [e2, if_neg (by simp), if_neg (by omega)]
    have HF := fun V (hV : Below w.heap.size w V) => four_any (some ⟨b, off, none⟩) n c l V (h.below hV) hn
    by_cases he : fourE l = 0
    · have HG : ∀ V, Below w.heap.size w V → Calls Try.prog 21 #[.slice (some ⟨b, off, none⟩) n c] V fun o w' => Below V.heap.size V w' ∧ ∃ (tos id : Int) (df : Bool) (AO : Option Addr) (co : Nat) (AR : Option Addr) (cr : Nat), o = .returned (.tuple #[.agg #[.int .i64 tos, .int .i64 id, .bool df, .bool (decide (udpA.w16 l 6 / 8192 % 2 = 1)), .int .i64 (udpA.w16 l 6 % 8192), .int .i64 (l.getD 8 0), .int .i64 (l.getD 9 0), .bool false, .int .u64 0, .int .u64 (tcpC.w32 l 12), .bool false, .int .u64 0, .int .u64 (tcpC.w32 l 16), .slice AO (fourS l - 20) co], .slice AR (fourR l).length cr, .int .i64 0]) ∧ Sl w' AR (fourR l).length cr (fourR l) := fun V hV => (HF V hV).mono fun o w' k => by
        obtain ⟨hb, k⟩ := k
        rcases k with ⟨k1, _⟩ | ⟨_, _, _, _, k2⟩
        · exact absurd he k1
        · exact ⟨hb, k2⟩
      obtain ⟨a0, s20, s60, es, ew, sw, wl, sr, _, _⟩ := four_sizes l h.u8 he
      refine (ttl_4 b off n c _ _ _ _ _ _ _ (fourS l - 20) (by omega) (fourR l) (by omega) 0 (((udpA.w16 l 2).toNat : Nat) : Int) (by omega) h4 w (by omega) hb y0 u0 (Lib.hid HG)).mono fun o w' k => ⟨k.2, _, _, by rw [eE, he]; exact k.1, fun _ => ⟨?_, ?_⟩⟩
      · unfold ttT
        rw [if_neg (by omega)]
      · unfold ttS
        rw [if_neg (by omega)]
    · refine (ttl_4 b off n c _ false 0 0 0 0 0 0 (by omega) [] (by simp) (fourE l) 20 (by simp) h4 w (by omega) hb y0 u0 (Lib.hid fun V hV => (HF V hV).mono fun o w' k => by
        obtain ⟨hb, k⟩ := k
        rcases k with ⟨_, k2⟩ | ⟨k1, _⟩
        · exact ⟨hb, 0, 0, false, none, 0, none, 0, k2, Sl.none_ w'⟩
        · exact absurd k1 he)).mono fun o w' k => ⟨k.2, _, _, by rw [eE]; exact k.1, fun k2 => absurd (eE.symm.trans k2) he⟩
  by_cases h6 : l.getD 0 0 / 16 = 6
  · have e2 : numP l = (41, 0) := by unfold numP; rw [if_neg (by omega), if_neg h4, if_pos h6]
    cases hc : sixP l with
    | inl e =>
      have eE : ttE l = e := by unfold ttE; rw [e2, if_neg (by simp), if_pos h6, hc]
      refine (ttl_6 b off n c _ 0 0 false 0 0 false 0 0 40 (by omega) (by omega) [] (by simp) e 40 (by simp) h4 h6 w (by omega) hb y0 u0 (Lib.hid fun V hV => (six_bad (some ⟨b, off, none⟩) n c l V (h.below hV) hn h6 hc).mono fun o w' k => ⟨k.2, 0, 0, none, 0, 0, none, 0, k.1, Sl.none_ w', fun V2 hV2 => ?_⟩)).mono fun o w' k => ⟨k.2, _, _, by rw [eE]; exact k.1, fun k2 => absurd (eE.symm.trans k2) (sixP_ne hc)⟩
      exact sixO.len_any ⟨0, 0, 0, false, 0, 0, false, 0, 0, 0⟩ none 0 0 [] V2 rfl ⟨.inl rfl, fun x hx => by cases hx⟩ (by omega) (fun x hx => by cases hx)
    | inr k =>
      obtain ⟨ys, q, r⟩ := k
      have eE : ttE l = 0 := by unfold ttE; rw [e2, if_neg (by simp), if_pos h6, hc]
      obtain ⟨_, hlen, hsum, _, _, _⟩ := six_sizes l h.u8 hc
      refine (ttl_6 b off n c _ _ q true _ _ true _ _ ((40 + extL ys : Nat) : Int) (by omega) (by omega) r (by omega) 0 ((40 + sizeP l : Nat) : Int) (by omega) h4 h6 w (by omega) hb y0 u0 (Lib.hid fun V hV => (six_good (some ⟨b, off, none⟩) n c l V (h.below hV) hn h6 hc).mono fun o w' k => by
        obtain ⟨hb, AX, nx, cx, cls, lab, AR, cr, e, hs, _, hln⟩ := k
        exact ⟨hb, cls, lab, AX, nx, cx, AR, cr, e, hs, hln⟩)).mono fun o w' k => ⟨k.2, _, _, by rw [eE]; exact k.1, fun _ => ⟨?_, ?_⟩⟩
      · unfold ttT
        rw [if_pos h6]
      · unfold ttS
        rw [if_pos h6]
  · have eE : ttE l = 10 := by
      have e2 : numP l = (0, 10) := by unfold numP; rw [if_neg (by omega), if_neg h4, if_neg h6]
      unfold ttE
      rw [e2]
      rfl
    refine (ttl_x b off n c _ h4 h6 w (by omega) y0 u0).mono fun o w' k => ⟨k.2, 0, 0, by rw [eE]; exact k.1, fun k2 => by rw [eE] at k2; cases k2⟩
end Go.Proofs.Ytodckfgfbcnkoaa.tunJ
