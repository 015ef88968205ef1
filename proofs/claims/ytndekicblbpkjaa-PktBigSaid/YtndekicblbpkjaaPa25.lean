/- 6 texts in one. -/
import Derived.Deep.RegionHeld3
import Derived.BigQuiet
import Derived.Test.YtndekicblbpkjaaPa01
import Derived.Test.YtndekicblbpkjaaPa15
import Derived.Test.YtndekicblbpkjaaPa22
import Derived.Test.YtndekicblbpkjaaPa23
import Derived.Test.YtndekicblbpkjaaPa24
/- Layer 13: the law's parse of any bytes. -/
namespace Go.Proofs.Ytndekicblbpkjaa.pktJ
open Go.ChangeShapes Go.WideShapes Go.ChangeAt Go.RowKit
open Go.Proofs.Ytndekicblbpkjaa.base Go.Proofs.Ytndekicblbpkjaa.octA Go.Proofs.Ytndekicblbpkjaa.octB Go.Proofs.Ytndekicblbpkjaa.octC Go.Proofs.Ytndekicblbpkjaa.octF Go.Proofs.Ytndekicblbpkjaa.octK Go.Proofs.Ytndekicblbpkjaa.net Go.Proofs.Ytndekicblbpkjaa.rdrA Go.Proofs.Ytndekicblbpkjaa.rdrG Go.Proofs.Ytndekicblbpkjaa.sumA Go.Proofs.Ytndekicblbpkjaa.sumB Go.Proofs.Ytndekicblbpkjaa.sixW Go.Proofs.Ytndekicblbpkjaa.sixM Go.Proofs.Ytndekicblbpkjaa.pktA Go.Proofs.Ytndekicblbpkjaa.pktB Go.Proofs.Ytndekicblbpkjaa.pktC Go.Proofs.Ytndekicblbpkjaa.pktD Go.Proofs.Ytndekicblbpkjaa.icmpH Go.Proofs.Ytndekicblbpkjaa.pktE Go.Proofs.Ytndekicblbpkjaa.sixA Go.Proofs.Ytndekicblbpkjaa.sixE Go.Proofs.Ytndekicblbpkjaa.sixF Go.Proofs.Ytndekicblbpkjaa.sixO Go.Proofs.Ytndekicblbpkjaa.pktF Go.Proofs.Ytndekicblbpkjaa.pktG Go.Proofs.Ytndekicblbpkjaa.pktH Go.Proofs.Ytndekicblbpkjaa.pktI
set_option linter.unusedVariables false

/-- Where the law's outer has a header that is right, parse is what lies behind it. -/
theorem lparse_ok (v6 : Bool) (pr : Int) (s6 : Bool) (sh sl : Int) (d6 : Bool) (dh dl ttl sz : Int) (A : Option Addr) (n c : Nat) (r ps : List Int) (w : World) (hr : r.length ≤ 1000) (hv : s6 = v6) (hp : ps.length ≤ 1000) (hps : (pr = 1 ∧ v6 = false) ∨ ps = psd s6 sh sl dh dl pr r.length)
    (HO : Hid (∀ V, Below w.heap.size w V → Calls Try.prog 58 #[.slice A n c] V fun o w' => Below V.heap.size V w' ∧ ∃ (AR : Option Addr) (cr : Nat) (AP : Option Addr) (np cp : Nat), o = .returned (.tuple #[.agg #[.bool v6, .int .i64 pr, .bool s6, .int .u64 sh, .int .u64 sl, .bool d6, .int .u64 dh, .int .u64 dl, .int .i64 0, .int .i64 0, .int .i64 ttl, .int .i64 0, .bool false, .int .i64 0, .bool false, .int .u64 0, .int .u64 0, .bool false, .int .u64 0, .int .u64 0, .int .i64 0, .int .i64 0, .int .i64 sz], .slice AR r.length cr, .slice AP np cp, .int .i64 0]) ∧ Sl w' AR r.length cr r ∧ Sl w' AP np cp ps)) :
    Calls Try.prog 29 #[.slice A n c] w fun o w' => o = .returned (.tuple #[.agg (withP v6 ⟨pr, s6, sh, sl, d6, dh, dl, 0, 0⟩ ttl sz r).1.cells, .int .i64 (withP v6 ⟨pr, s6, sh, sl, d6, dh, dl, 0, 0⟩ ttl sz r).2]) ∧ Below w.heap.size w w' := by
  have hz : pr = 1 ∧ v6 = false → psd s6 sh sl dh dl pr r.length = [] := fun ⟨h1, h2⟩ => by
    unfold psd
    rw [hv, h2, if_neg (by decide), if_pos h1]
  obtain ⟨qs, hqs⟩ : ∃ qs, qs = psd s6 sh sl dh dl pr r.length := ⟨_, rfl⟩
  rw [← hqs] at hps hz
  have hq : qs.length ≤ 1000 := by rw [hqs]; have := psd_len s6 sh sl dh dl pr r.length; omega
  unfold withP
  simp only
  rw [← hqs]
  by_cases h6 : pr = 6
  · rw [if_pos h6]
    obtain rfl : ps = qs := by rcases hps with ⟨h, _⟩ | h <;> first | omega | exact h
    subst h6
    by_cases he : tcpE r ps = 0
    · rw [if_neg (by omega)]
      refine lp_tcp_ok v6 _ _ _ s6 sh sl d6 dh dl ttl sz A n c _ r ps w HO (Lib.hid fun V AR cr AP np cp hV hs hs2 => (tcp_any AR AP _ cr np cp r ps V hs hs2 hr (by have := hs2.len; omega)).mono fun o w' k => ?_)
      obtain ⟨hb, k⟩ := k
      rcases k with ⟨k1, _⟩ | ⟨_, sq, ak, wn, ur, AO, m, co, v, k2⟩
      · exact absurd he k1
      · exact ⟨hb, sq, ak, wn, ur, AO, m, co, v, k2⟩
    · rw [if_pos he]
      refine lp_tcp_no v6 0 0 0 _ he s6 sh sl d6 dh dl ttl sz A n c _ r ps w HO (Lib.hid fun V AR cr AP np cp hV hs hs2 => (tcp_any AR AP _ cr np cp r ps V hs hs2 hr (by have := hs2.len; omega)).mono fun o w' k => ?_)
      obtain ⟨hb, k⟩ := k
      rcases k with ⟨k1, k2⟩ | ⟨k1, _⟩
      · exact ⟨hb, 0, 0, 0, 0, none, 0, 0, _, k2⟩
      · exact absurd k1 he
  · rw [if_neg h6]
    by_cases h17 : pr = 17
    · rw [if_pos h17]
      obtain rfl : ps = qs := by rcases hps with ⟨h, _⟩ | h <;> first | omega | exact h
      subst h17
      by_cases he : udpE_ r ps (!v6) = 0
      · rw [if_neg (by omega)]
        refine lp_udp_ok v6 _ _ s6 sh sl d6 dh dl ttl sz A n c _ r ps w HO (Lib.hid fun V AR cr AP np cp hV hs hs2 => (udp_any AR AP _ cr np cp r ps (!v6) V hs hs2 hr (by have := hs2.len; omega)).mono fun o w' k => ?_)
        obtain ⟨hb, k⟩ := k
        rcases k with ⟨k1, _⟩ | ⟨_, bb, v, k2⟩
        · exact absurd he k1
        · exact ⟨hb, bb, v, k2⟩
      · rw [if_pos he]
        refine lp_udp_no v6 0 0 _ he s6 sh sl d6 dh dl ttl sz A n c _ r ps w HO (Lib.hid fun V AR cr AP np cp hV hs hs2 => (udp_any AR AP _ cr np cp r ps (!v6) V hs hs2 hr (by have := hs2.len; omega)).mono fun o w' k => ?_)
        obtain ⟨hb, k⟩ := k
        rcases k with ⟨k1, k2⟩ | ⟨k1, _⟩
        · exact ⟨hb, false, _, k2⟩
        · exact absurd k1 he
    · rw [if_neg h17]
      by_cases hI : (pr = 1 ∧ v6 = false) ∨ (pr = 58 ∧ v6 = true)
      · rw [if_pos hI]
        have HT := fun V AR cr AP np cp (hs : Sl V AR r.length cr r) (hs2 : Sl V AP np cp qs) => icmp_any AR AP r.length cr np cp r qs V hs hs2 hr (by have := hs2.len; omega)
        have HQ := fun v V (A2 : Option Addr) (n2 c2 : Nat) (co wd : Int) (hs : Sl V A2 n2 c2 (r.drop 8)) => quoted_any v (r.getD 0 0) co wd A2 n2 c2 (r.drop 8) V hs (by have := hs.len; rw [List.length_drop] at this; omega)
        by_cases he : icmpE r qs = 0
        · rw [show abt v6 r qs = ((quo v6 (r.getD 0 0) (r.drop 8)).1.back, (quo v6 (r.getD 0 0) (r.drop 8)).2) from by unfold abt; rw [if_neg (by omega)]]
          have HG : ∀ v V AR cr AP np cp, Sl V AR r.length cr r → Sl V AP np cp qs → Calls Try.prog 61 #[.slice AR r.length cr, .slice AP np cp] V fun o w' => Below V.heap.size V w' ∧ ∃ (wd : Int) (Am : Option Addr) (nm cm : Nat), o = .returned (.tuple #[.agg #[.int .i64 (r.getD 0 0), .int .i64 (r.getD 1 0), .int .u32 wd, .slice Am nm cm], .int .i64 0]) ∧ ∀ V2, Below w'.heap.size w' V2 → Calls Try.prog 22 #[.bool v, .agg #[.int .i64 (r.getD 0 0), .int .i64 (r.getD 1 0), .int .u32 wd, .slice Am nm cm]] V2 fun o w' => o = .returned (.tuple #[.agg (quo v (r.getD 0 0) (r.drop 8)).1.cells, .int .i64 (quo v (r.getD 0 0) (r.drop 8)).2]) ∧ Below V2.heap.size V2 w' :=
            fun v V AR cr AP np cp hs hs2 => (HT V AR cr AP np cp hs hs2).mono fun o w' k => by
              obtain ⟨hb, k⟩ := k
              rcases k with ⟨k1, _⟩ | ⟨_, wd, Am, nm, cm, k2, k3⟩
              · exact absurd he k1
              · exact ⟨hb, wd, Am, nm, cm, k2, fun V2 hV2 => HQ v V2 Am nm cm _ wd (k3.below hV2)⟩
          have HG4 := HG v6
          generalize quo v6 (r.getD 0 0) (r.drop 8) = z at HG4 ⊢
          obtain ⟨⟨apr, as6, ash, asl, ad6, adh, adl, asp, adp⟩, e⟩ := z
          simp only at HG4 ⊢
          by_cases he2 : e = 0
          · rw [if_neg (by omega)]
            subst he2
            rcases hI with ⟨rfl, rfl⟩ | ⟨rfl, rfl⟩
            · exact lp_icmp4_ok _ _ apr as6 ash asl ad6 adh adl asp adp s6 sh sl d6 dh dl ttl sz A n c _ r ps w HO (Lib.hid fun V AR cr AP np cp hV hs hs2 => HG4 V AR cr AP np cp hs (by rw [hz ⟨rfl, rfl⟩]; exact hs2))
            · obtain rfl : ps = qs := by rcases hps with ⟨h, _⟩ | h <;> first | omega | exact h
              exact lp_icmp6_ok _ _ apr as6 ash asl ad6 adh adl asp adp s6 sh sl d6 dh dl ttl sz A n c _ r ps w HO (Lib.hid fun V AR cr AP np cp hV hs hs2 => HG4 V AR cr AP np cp hs hs2)
          · rw [if_pos he2]
            rcases hI with ⟨rfl, rfl⟩ | ⟨rfl, rfl⟩
            · exact lp_icmp4_no _ _ apr as6 ash asl ad6 adh adl asp adp e he2 s6 sh sl d6 dh dl ttl sz A n c _ r ps w HO (Lib.hid fun V AR cr AP np cp hV hs hs2 => HG4 V AR cr AP np cp hs (by rw [hz ⟨rfl, rfl⟩]; exact hs2))
            · obtain rfl : ps = qs := by rcases hps with ⟨h, _⟩ | h <;> first | omega | exact h
              exact lp_icmp6_no _ _ apr as6 ash asl ad6 adh adl asp adp e he2 s6 sh sl d6 dh dl ttl sz A n c _ r ps w HO (Lib.hid fun V AR cr AP np cp hV hs hs2 => HG4 V AR cr AP np cp hs hs2)
        · rw [show abt v6 r qs = (zeroT, icmpE r qs) from by unfold abt; rw [if_pos he], if_pos (show (zeroT, icmpE r qs).2 ≠ 0 from he)]
          have HG : ∀ V AR cr AP np cp, Sl V AR r.length cr r → Sl V AP np cp qs → Calls Try.prog 61 #[.slice AR r.length cr, .slice AP np cp] V fun o w' => o = .returned (.tuple #[.agg #[.int .i64 0, .int .i64 0, .int .u32 0, .slice none 0 0], .int .i64 (icmpE r qs)]) ∧ Below V.heap.size V w' := fun V AR cr AP np cp hs hs2 => (HT V AR cr AP np cp hs hs2).mono fun o w' k => by
              obtain ⟨hb, k⟩ := k
              rcases k with ⟨_, k2⟩ | ⟨k1, _⟩
              · exact ⟨k2, hb⟩
              · exact absurd k1 he
          rcases hI with ⟨rfl, rfl⟩ | ⟨rfl, rfl⟩
          · exact lp_icmp4_pno _ he s6 sh sl d6 dh dl ttl sz A n c _ r ps w HO (Lib.hid fun V AR cr AP np cp hV hs hs2 => HG V AR cr AP np cp hs (by rw [hz ⟨rfl, rfl⟩]; exact hs2))
          · obtain rfl : ps = qs := by rcases hps with ⟨h, _⟩ | h <;> first | omega | exact h
            exact lp_icmp6_pno _ he s6 sh sl d6 dh dl ttl sz A n c _ r ps w HO (Lib.hid fun V AR cr AP np cp hV hs hs2 => HG V AR cr AP np cp hs hs2)
      · rw [if_neg hI]
        exact lp_none_no pr v6 h6 h17 (fun e => hI (.inl e)) (fun e => hI (.inr e)) s6 sh sl d6 dh dl ttl sz A n c _ r ps w HO
theorem lparse4 (A : Option Addr) (n c : Nat) (l : List Int) (w : World) (h : Sl w A n c l) (hn0 : 0 < n) (hn : n ≤ 1000) (hv : l.getD 0 0 / 16 = 4) :
    Calls Try.prog 29 #[.slice A n c] w fun o w' => o = .returned (.tuple #[.agg (p4 l).1.cells, .int .i64 (p4 l).2]) ∧ Below w.heap.size w w' := by
  have HF := fun V (hV : Below w.heap.size w V) => four_any A n c l V (h.below hV) hn
  have hl := h.len
  obtain ⟨b, off, rfl, hb, hs⟩ := lies_of h.row (by omega)
  have k6 := udpA.w16_in l h.u8 6
  have w12 := w32_in8 l h.u8 12
  have w16' := w32_in8 l h.u8 16
  have k9 := h.u8.get 9
  unfold p4
  by_cases he : fourE l = 0
  · rw [if_neg (by omega)]
    have hs4 := fourS_in l h.u8 (by omega) he
    have hr : (fourR l).length ≤ 1000 := by omega
    have HG : ∀ W, Below w.heap.size w W → ∀ V, Below W.heap.size W V → Calls Try.prog 79 #[.slice (some ⟨b, off, none⟩) n c] V fun o w' => Below V.heap.size V w' ∧ ∃ (tos id : Int) (df : Bool) (AO : Option Addr) (co : Nat) (AR : Option Addr) (cr : Nat), o = .returned (.tuple #[.agg #[.int .i64 tos, .int .i64 id, .bool df, .bool (decide (udpA.w16 l 6 / 8192 % 2 = 1)), .int .i64 (udpA.w16 l 6 % 8192), .int .i64 (l.getD 8 0), .int .i64 (l.getD 9 0), .bool false, .int .u64 0, .int .u64 (tcpC.w32 l 12), .bool false, .int .u64 0, .int .u64 (tcpC.w32 l 16), .slice AO (fourS l - 20) co], .slice AR (fourR l).length cr, .int .i64 0]) ∧ Sl w' AR (fourR l).length cr (fourR l) := fun W hW V hV => (HF V (hW.trans (hV.mono hW.size))).mono fun o w' k => by
      obtain ⟨hb, k⟩ := k
      rcases k with ⟨k1, _⟩ | ⟨_, k2⟩
      · exact absurd he k1
      · exact ⟨hb, k2.2.2.2⟩
    by_cases hf : udpA.w16 l 6 % 8192 ≠ 0 ∨ decide (udpA.w16 l 6 / 8192 % 2 = 1) = true
    · rw [if_pos hf]
      have hg : (decide (0 < udpA.w16 l 6 % 8192) || decide (udpA.w16 l 6 / 8192 % 2 = 1)) = true := by
        rcases hf with hf | hf
        · rw [decide_eq_true (show 0 < udpA.w16 l 6 % 8192 by omega)]; rfl
        · rw [hf, Bool.or_true]
      exact lp_fail_no (l.getD 9 0) false 21 (by decide) false 0 (tcpC.w32 l 12) false 0 (tcpC.w32 l 16) (l.getD 8 0) _ _ n c _ (fourR l) _ w (Lib.hid fun V hV => lo4_any b off n c l V hl hn0 hn (Nat.lt_of_lt_of_le hb hV.size) (hs.below hV hb) hv h.u8 _ _ _ _ _ _ (fourS l - 20) (fourR l) hr (by omega) 0 21 (by rw [hg]; rfl) _ rfl w12 w16' k9 (Lib.hid (HG V hV)))
    · rw [if_neg hf]
      have h1 : udpA.w16 l 6 % 8192 = 0 := Classical.byContradiction fun e => hf (.inl e)
      have h2 : decide (udpA.w16 l 6 / 8192 % 2 = 1) = false := by
        cases hd : decide (udpA.w16 l 6 / 8192 % 2 = 1) with
        | false => rfl
        | true => exact absurd (.inr hd) hf
      exact lparse_ok false (l.getD 9 0) false 0 (tcpC.w32 l 12) false 0 (tcpC.w32 l 16) (l.getD 8 0) _ _ n c (fourR l) (psd4 (tcpC.w32 l 12) (tcpC.w32 l 16) (l.getD 9 0) (fourR l).length) w hr rfl (by rw [psd4_len]; omega) (by
          by_cases h1 : l.getD 9 0 = 1
          · exact .inl ⟨h1, rfl⟩
          · exact .inr (by unfold psd; rw [if_neg (by decide), if_neg h1])) (Lib.hid fun V hV => lo4_any b off n c l V hl hn0 hn (Nat.lt_of_lt_of_le hb hV.size) (hs.below hV hb) hv h.u8 _ _ _ _ _ _ (fourS l - 20) (fourR l) hr (by omega) 0 0 (by rw [h1, h2]; rfl) _ rfl w12 w16' k9 (Lib.hid (HG V hV)))
  · rw [if_pos he]
    refine lp_fail_no 0 false _ he false 0 0 false 0 0 0 _ _ n c _ [] _ w (Lib.hid fun V hV => lo4_any b off n c l V hl hn0 hn (Nat.lt_of_lt_of_le hb hV.size) (hs.below hV hb) hv h.u8 false 0 0 0 0 0 0 [] (by decide) (by decide) (fourE l) _ (by rw [show (fourE l == 0) = false from by simp [he]]; rfl) _ rfl (by decide) (by decide) (by decide) (Lib.hid fun W hW => (HF W (hV.trans (hW.mono hV.size))).mono fun o w' k => ?_))
    obtain ⟨hb, k⟩ := k
    rcases k with ⟨_, k2⟩ | ⟨k1, _⟩
    · exact ⟨hb, 0, 0, false, none, 0, none, 0, k2, Sl.none_ w'⟩
    · exact absurd k1 he
theorem lparse6 (A : Option Addr) (n c : Nat) (l : List Int) (w : World) (h : Sl w A n c l) (hn0 : 0 < n) (hn : n ≤ 1000) (hv : l.getD 0 0 / 16 = 6) :
    Calls Try.prog 29 #[.slice A n c] w fun o w' => o = .returned (.tuple #[.agg (p6 l).1.cells, .int .i64 (p6 l).2]) ∧ Below w.heap.size w w' := by
  have hl := h.len
  obtain ⟨b, off, rfl, hb, hs⟩ := lies_of h.row (by omega)
  have F : ∀ e, e ≠ 0 → sixP l = .inl e → (∀ V, Below w.heap.size w V → Calls Try.prog 11 #[.slice (some ⟨b, off, none⟩) n c] V (HeadP V l (sixP l))) → Calls Try.prog 29 #[.slice (some ⟨b, off, none⟩) n c] w fun o w' => o = .returned (.tuple #[.agg (p6 l).1.cells, .int .i64 (p6 l).2]) ∧ Below w.heap.size w w' := fun e he hs6 hc => by
    have e2 : p6 l = (zeroPk, e) := by unfold p6; rw [hs6]
    rw [e2]
    rw [hs6] at hc
    refine lp_fail_no 0 true e he false 0 0 false 0 0 0 _ _ n c _ [] _ w (Lib.hid fun V hV => lo6_any b off n c l V hl hn0 hn (Nat.lt_of_lt_of_le hb hV.size) (hs.below hV hb) hv h.u8 0 false 0 0 false 0 0 0 0 [] (by decide) (by decide) 0 false e _ (by rw [show (e == 0) = false from by simp [he]]; rfl) _ rfl (by decide) (by decide) (by decide) (by decide) (by decide) (Lib.hid fun W hW => (hc W (hV.trans (hW.mono hV.size))).mono fun o w' k => ?_))
    obtain ⟨k1, k2⟩ := sixS.headP_fail k
    exact ⟨k2, none, 0, 0, 0, 0, none, 0, k1, Sl.none_ w', fun h0 => absurd h0 he, fun V2 hV2 => sixO.len_any zeroH none 0 0 [] V2 rfl (⟨.inl rfl, fun o ho => by cases ho⟩ : RdX V2 none []) (by decide) (fun x hx => by cases hx)⟩
  by_cases h40 : n < 40
  · exact F 2 (by omega) (by unfold sixP; rw [if_pos (by omega)]) fun V hV => sixF.parse_short _ n c l V hl h40
  have HH : ∀ V, Below w.heap.size w V → Calls Try.prog 11 #[.slice (some ⟨b, off, none⟩) n c] V (HeadP V l (sixP l)) := fun V hV => sixF.parse_ok b off n c l V hl (by omega) (by omega) h.nc h.mx (Nat.lt_of_lt_of_le hb hV.size) (hs.below hV hb) h.u8 hv
  by_cases hz : l.length - 40 < sizeP l
  · exact F 12 (by omega) (by unfold sixP; rw [if_neg (by omega), if_neg (by omega), if_pos hz]) HH
  have e : sixP l = ofC (chn 9 [] (l.getD 6 0) ((l.take (40 + sizeP l)).drop 40)) := by unfold sixP; rw [if_neg (by omega), if_neg (by omega), if_neg hz]
  rcases hC : chn 9 [] (l.getD 6 0) ((l.take (40 + sizeP l)).drop 40) with _ | ⟨ys, q, r⟩
  · exact F 11 (by omega) (by rw [e, hC]; rfl) HH
  have e1 : sixP l = .inr (ys, q, r) := by rw [e, hC]; rfl
  obtain ⟨g1, g2, g3, g4, g5⟩ := sixT.put_back l h.u8 (by omega) hv (by omega) hC
  have hq : 0 ≤ q ∧ q ≤ 255 := ⟨g2.p0, g2.p1⟩
  have hxl := extL_le g2.e
  have hli := lies_in g3
  have ub1 := h.u8.drop 8
  have ub2 := h.u8.drop 24
  have i1 := sixT.atN_in8 _ ub1 0
  have i2 := sixT.atN_in8 _ ub1 8
  have i3 := sixT.atN_in8 _ ub2 0
  have i4 := sixT.atN_in8 _ ub2 8
  have HG : ∀ W, Below w.heap.size w W → ∀ V, Below W.heap.size W V → Calls Try.prog 11 #[.slice (some ⟨b, off, none⟩) n c] V fun o w' => Below V.heap.size V w' ∧ ∃ (AX : Option Addr) (nx cx : Nat) (cls lab : Int) (AR : Option Addr) (cr : Nat), o = .returned (.tuple #[.agg #[.int .i64 cls, .int .i64 lab, .int .i64 (l.getD 7 0), .bool true, .int .u64 (hdOf l q).sh, .int .u64 (hdOf l q).sl, .bool true, .int .u64 (hdOf l q).dh, .int .u64 (hdOf l q).dl, .slice AX nx cx, .int .i64 q], .slice AR r.length cr, .int .i64 0]) ∧ Sl w' AR r.length cr r
      ∧ (∀ V2, Below w'.heap.size w' V2 → Calls Try.prog 25 #[.agg #[.int .i64 cls, .int .i64 lab, .int .i64 (l.getD 7 0), .bool true, .int .u64 (hdOf l q).sh, .int .u64 (hdOf l q).sl, .bool true, .int .u64 (hdOf l q).dh, .int .u64 (hdOf l q).dl, .slice AX nx cx, .int .i64 q]] V2 fun o w' => o = .returned (.int .i64 (lies ys / 8)) ∧ Below V2.heap.size V2 w')
      ∧ (∀ V2, Below w'.heap.size w' V2 → Calls Try.prog 82 #[.agg #[.int .i64 cls, .int .i64 lab, .int .i64 (l.getD 7 0), .bool true, .int .u64 (hdOf l q).sh, .int .u64 (hdOf l q).sl, .bool true, .int .u64 (hdOf l q).dh, .int .u64 (hdOf l q).dl, .slice AX nx cx, .int .i64 q]] V2 fun o w' => o = .returned (.bool (decide (lies ys % 2 = 1))) ∧ Below V2.heap.size V2 w')
      ∧ (∀ V2, Below w'.heap.size w' V2 → Calls Try.prog 20 #[.agg #[.int .i64 cls, .int .i64 lab, .int .i64 (l.getD 7 0), .bool true, .int .u64 (hdOf l q).sh, .int .u64 (hdOf l q).sl, .bool true, .int .u64 (hdOf l q).dh, .int .u64 (hdOf l q).dl, .slice AX nx cx, .int .i64 q]] V2 fun o w' => o = .returned (.int .i64 (40 + extL ys : Nat)) ∧ Below V2.heap.size V2 w') := fun W hW V hV => by
    have h9 := HH V (hW.trans (hV.mono hW.size))
    rw [e1] at h9
    refine h9.mono fun o w' k => ?_
    obtain ⟨hb9, L, A9, c9, B9, d9, k1, k2, k3, k4⟩ := sixS.headP_good k
    have hU : ∀ x ∈ L, U8 x.d := fun x hx => g3 x.re (by rw [← k2]; exact List.mem_map_of_mem hx)
    have hLn : L.length = ys.length := by rw [← k2, List.length_map]
    have h8 := g2.e.most
    have hd7 : ∀ x ∈ L, x.d.length ≤ 2047 := fun x hx => sixU.le2047 g2.e x.re (by rw [← k2]; exact List.mem_map_of_mem hx)
    refine ⟨hb9, A9, ys.length, c9, _, _, B9, d9, k1, Sl.own k4 rfl g4, fun V2 hV2 => ?_, fun V2 hV2 => ?_, fun V2 hV2 => ?_⟩
    · have h7 := sixA.frag_any (hdOf l q) A9 ys.length c9 L V2 hLn ((k3.below hV2).rd hU) (by omega)
      rw [k2] at h7
      exact h7
    · have h7 := sixA.more_any (hdOf l q) A9 ys.length c9 L V2 hLn ((k3.below hV2).rd hU) (by omega)
      rw [k2] at h7
      exact h7
    · have h7 := sixO.len_any (hdOf l q) A9 ys.length c9 L V2 hLn ((k3.below hV2).rd hU) (by omega) hd7
      rw [k2] at h7
      exact h7
  have e2 : p6 l = if lies ys / 8 ≠ 0 ∨ decide (lies ys % 2 = 1) = true then (zeroPk, 21) else withP true ⟨q, true, (hdOf l q).sh, (hdOf l q).sl, true, (hdOf l q).dh, (hdOf l q).dl, 0, 0⟩ (l.getD 7 0) (((40 + extL ys : Nat) : Int) + (r.length : Int)) r := by unfold p6; rw [e1]
  rw [e2]
  by_cases hf : lies ys / 8 ≠ 0 ∨ decide (lies ys % 2 = 1) = true
  · rw [if_pos hf]
    have hg : (decide (0 < lies ys / 8) || decide (lies ys % 2 = 1)) = true := by
      rcases hf with hf | hf
      · rw [decide_eq_true (show 0 < lies ys / 8 by omega)]; rfl
      · rw [hf, Bool.or_true]
    exact lp_fail_no q true 21 (by decide) true _ _ true _ _ (l.getD 7 0) _ _ n c _ r _ w (Lib.hid fun V hV => lo6_any b off n c l V hl hn0 hn (Nat.lt_of_lt_of_le hb hV.size) (hs.below hV hb) hv h.u8 (l.getD 7 0) true _ _ true _ _ q (extL ys) r (by omega) (by omega) (lies ys / 8) (decide (lies ys % 2 = 1)) 0 21 (by rw [hg]; rfl) _ rfl i1 i2 i3 i4 hq (Lib.hid fun W hW => (HG V hV W hW).mono fun o w' k => by
      obtain ⟨k1, AX, nx, cx, cls, lab, AR, cr, k2, k3, k4, k5, k6⟩ := k
      exact ⟨k1, AX, nx, cx, cls, lab, AR, cr, k2, k3, fun _ => ⟨k4, k5⟩, k6⟩))
  · rw [if_neg hf]
    have h1 : lies ys / 8 = 0 := Classical.byContradiction fun e => hf (.inl e)
    have h2 : decide (lies ys % 2 = 1) = false := by
      cases hd : decide (lies ys % 2 = 1) with
      | false => rfl
      | true => exact absurd (.inr hd) hf
    exact lparse_ok true q true _ _ true _ _ (l.getD 7 0) _ _ n c r (psd6 (hdOf l q).sh (hdOf l q).sl (hdOf l q).dh (hdOf l q).dl q r.length) w (by omega) rfl (by rw [psd6_len]; omega) (.inr (by unfold psd; rw [if_pos rfl])) (Lib.hid fun V hV => lo6_any b off n c l V hl hn0 hn (Nat.lt_of_lt_of_le hb hV.size) (hs.below hV hb) hv h.u8 (l.getD 7 0) true _ _ true _ _ q (extL ys) r (by omega) (by omega) (lies ys / 8) (decide (lies ys % 2 = 1)) 0 0 (by rw [h1, h2]; rfl) _ rfl i1 i2 i3 i4 hq (Lib.hid fun W hW => (HG V hV W hW).mono fun o w' k => by
      obtain ⟨k1, AX, nx, cx, cls, lab, AR, cr, k2, k3, k4, k5, k6⟩ := k
      exact ⟨k1, AX, nx, cx, cls, lab, AR, cr, k2, k3, fun _ => ⟨k4, k5⟩, k6⟩))
/-- The law's parse is pkP of the bytes. -/
theorem lparse_any (A : Option Addr) (n c : Nat) (l : List Int) (w : World) (h : Sl w A n c l) (hn : n ≤ 1000) :
    Calls Try.prog 29 #[.slice A n c] w fun o w' => o = .returned (.tuple #[.agg (pkP l).1.cells, .int .i64 (pkP l).2]) ∧ Below w.heap.size w w' := by
  have hl := h.len
  by_cases h0 : n = 0
  · have e : pkP l = (zeroPk, 2) := by unfold pkP; rw [if_pos (by omega)]
    rw [e]
    subst h0
    refine lp_fail_no 0 false 2 (by decide) false 0 0 false 0 0 0 0 _ _ c 0 [] [] w (Lib.hid fun V hV => (lo_short A c V).mono fun o w' k => ?_)
    exact ⟨k.2, none, 0, none, 0, 0, k.1, Sl.none_ w', Sl.none_ w'⟩
  by_cases h4 : l.getD 0 0 / 16 = 4
  · have e : pkP l = p4 l := by unfold pkP; rw [if_neg (by omega), if_neg (by omega), if_pos h4]
    rw [e]
    exact lparse4 A n c l w h (by omega) hn h4
  by_cases h6 : l.getD 0 0 / 16 = 6
  · have e : pkP l = p6 l := by unfold pkP; rw [if_neg (by omega), if_neg (by omega), if_neg h4, if_pos h6]
    rw [e]
    exact lparse6 A n c l w h (by omega) hn h6
  have e : pkP l = (zeroPk, 10) := by unfold pkP; rw [if_neg (by omega), if_neg (by omega), if_neg h4, if_neg h6]
  rw [e]
  obtain ⟨b, off, rfl, hb, hs⟩ := lies_of h.row (by omega)
  refine lp_fail_no 0 false 10 (by decide) false 0 0 false 0 0 0 0 _ _ c 0 [] [] w (Lib.hid fun V hV => (lo_version b off n c l V hl (by omega) hn (Nat.lt_of_lt_of_le hb hV.size) (hs.below hV hb) h4 h6 h.u8).mono fun o w' k => ?_)
  exact ⟨k.2, none, 0, none, 0, 0, k.1, Sl.none_ w', Sl.none_ w'⟩
end Go.Proofs.Ytndekicblbpkjaa.pktJ
/- Layer 28: flags, states. -/
namespace Go.Proofs.Ytndekicblbpkjaa.connA
open Go.ChangeShapes Go.WideShapes Go.ChangeAt Go.RowKit
open Go.Proofs.Ytndekicblbpkjaa.base
set_option linter.unusedVariables false

/-- has a number all bits of another one? -/
def hasB (f m : Int) : Bool := bits .and .i64 f m == m
theorem has_any (a b c d f g h : Int) (A : Option Addr) (n cp : Nat) (m : Int) (w : World) :
    Calls Try.prog 87 #[.agg #[.int .i64 a, .int .i64 b, .int .u32 c, .int .u32 d, .int .i64 f, .int .i64 g, .int .i64 h, .slice A n cp], .int .i64 m] w fun e w' => e = .returned (.bool (hasB f m)) ∧ Below w.heap.size w w' := by
  go_enter Try.func87, Try.ntmps87
  go_wp2
  go_ret
  exact ⟨rfl, (Below.refl _ _).alloc (Nat.le_refl _) _⟩

theorem bcell {W w1 : World} (hb : Below W.heap.size W w1) : (∀ b o, b < W.heap.size → w1.cell? ⟨b, o, none⟩ = W.cell? ⟨b, o, none⟩) ∧ (∀ b o, b < W.heap.size → w1.frozen? ⟨b, o, none⟩ = W.frozen? ⟨b, o, none⟩) :=
  ⟨fun b o h => hb.cell (p := ⟨b, o, none⟩) h, fun b o h => hb.frozen (p := ⟨b, o, none⟩) h⟩
end Go.Proofs.Ytndekicblbpkjaa.connA
namespace Go.Proofs.Ytndekicblbpkjaa.tcpA
end Go.Proofs.Ytndekicblbpkjaa.tcpA
/- Layer 10: the law on flags. -/
namespace Go.Proofs.Ytndekicblbpkjaa.tcpB
open Go.ChangeShapes Go.WideShapes Go.ChangeAt Go.RowKit
open Go.Proofs.Ytndekicblbpkjaa.base Go.Proofs.Ytndekicblbpkjaa.connA Go.Proofs.Ytndekicblbpkjaa.tcpA
set_option linter.unusedVariables false

def opensB (f : Int) : Bool := hasB f 2 && (bits .and .i64 f 21 == 0)
theorem opens_any (a b c d f g h : Int) (A : Option Addr) (n cp : Nat) (w : World) :
    Calls Try.prog 62 #[.agg #[.int .i64 a, .int .i64 b, .int .u32 c, .int .u32 d, .int .i64 f, .int .i64 g, .int .i64 h, .slice A n cp]] w fun e w' => e = .returned (.bool (opensB f)) ∧ Below w.heap.size w w' := by
  cases b2 : hasB f 2
  · have hv : opensB f = false := by simp [opensB, b2]
    rw [hv]
    have H2 := Lib.hid b2
    clear b2 hv
    go_enter Try.func62, Try.ntmps62
    go_wp2_with fail
    refine (has_any _ _ _ _ _ _ _ _ _ _ _ _).mono ?_
    rintro e w1 ⟨rfl, hb⟩
    rw [H2.out]
    go_wp2_with fail
    go_ret
    exact ⟨rfl, ((Below.refl _ _).alloc (Nat.le_refl _) _).trans (hb.mono (by simp))⟩
  · have hv : opensB f = (bits .and .i64 f 21 == 0) := by simp [opensB, b2]
    rw [hv]
    have H2 := Lib.hid b2
    clear b2 hv
    go_enter Try.func62, Try.ntmps62
    go_wp2_with fail
    refine (has_any _ _ _ _ _ _ _ _ _ _ _ _).mono ?_
    rintro e w1 ⟨rfl, hb⟩
    rw [H2.out]
    obtain ⟨hc, hf⟩ := bcell hb
    have HB := Lib.hid hb
    clear hb
    go_wp2_with fail
    go_ret
    exact ⟨rfl, ((Below.refl _ _).alloc (Nat.le_refl _) _).trans (HB.out.mono (by simp))⟩
end Go.Proofs.Ytndekicblbpkjaa.tcpB
/- Layer 13: what a packet is steered by, whether it opens a connection. -/
namespace Go.Proofs.Ytndekicblbpkjaa.pktK
open Go.ChangeShapes Go.WideShapes Go.ChangeAt Go.RowKit
open Go.Proofs.Ytndekicblbpkjaa.base Go.Proofs.Ytndekicblbpkjaa.octA Go.Proofs.Ytndekicblbpkjaa.octB Go.Proofs.Ytndekicblbpkjaa.octC Go.Proofs.Ytndekicblbpkjaa.octF Go.Proofs.Ytndekicblbpkjaa.octK Go.Proofs.Ytndekicblbpkjaa.net Go.Proofs.Ytndekicblbpkjaa.rdrA Go.Proofs.Ytndekicblbpkjaa.rdrG Go.Proofs.Ytndekicblbpkjaa.sumA Go.Proofs.Ytndekicblbpkjaa.sumB Go.Proofs.Ytndekicblbpkjaa.sixW Go.Proofs.Ytndekicblbpkjaa.sixM Go.Proofs.Ytndekicblbpkjaa.pktA Go.Proofs.Ytndekicblbpkjaa.pktB Go.Proofs.Ytndekicblbpkjaa.pktC Go.Proofs.Ytndekicblbpkjaa.pktD Go.Proofs.Ytndekicblbpkjaa.icmpH Go.Proofs.Ytndekicblbpkjaa.pktE Go.Proofs.Ytndekicblbpkjaa.pktG
set_option linter.unusedVariables false

theorem tp_size : (Try.prog.info? 48).map (·.size) = some 9 := by kernel_rfl
theorem results_tp {fn : Func} {p : Tmp} (h : fn.results = #[.cell p 48]) (tmps : Array Value) (w : World) (g : Nat) (cs : Array Value) (hs : cs.size = 9) (hp : tmps.getD p undef = .pointer (some ⟨g, 0, none⟩)) (hg : Blk w g 48 cs) :
    (results fn tmps).run Try.prog w = .ok (.agg cs) w :=
  results_cell_row h tmps w g 48 cs (0, 0) _ hp hg Try.underlying48 rfl (by rw [hs]; kernel_rfl)
set_option maxHeartbeats 4000000 in
set_option maxRecDepth 100000 in
theorem key_err (v6 : Bool) (pr : Int) (s6 : Bool) (sh sl : Int) (d6 : Bool) (dh dl sp dp ttl fl : Int) (apr : Int) (as6 : Bool) (ash asl : Int) (ad6 : Bool) (adh adl asp adp sz : Int) (w : World) :
    Calls Try.prog 30 #[.agg #[.bool v6, .int .i64 pr, .bool s6, .int .u64 sh, .int .u64 sl, .bool d6, .int .u64 dh, .int .u64 dl, .int .i64 sp, .int .i64 dp, .int .i64 ttl, .int .i64 fl, .bool true, .int .i64 apr, .bool as6, .int .u64 ash, .int .u64 asl, .bool ad6, .int .u64 adh, .int .u64 adl, .int .i64 asp, .int .i64 adp, .int .i64 sz]] w fun o w' => o = .returned (.agg #[.int .i64 apr, .bool as6, .int .u64 ash, .int .u64 asl, .bool ad6, .int .u64 adh, .int .u64 adl, .int .i64 asp, .int .i64 adp]) ∧ Below w.heap.size w w' := by
  obtain ⟨w1, hw1⟩ : ∃ w1, w1 = (w.alloc (.cells #[.bool v6, .int .i64 pr, .bool s6, .int .u64 sh, .int .u64 sl, .bool d6, .int .u64 dh, .int .u64 dl, .int .i64 sp, .int .i64 dp, .int .i64 ttl, .int .i64 fl, .bool true, .int .i64 apr, .bool as6, .int .u64 ash, .int .u64 asl, .bool ad6, .int .u64 adh, .int .u64 adl, .int .i64 asp, .int .i64 adp, .int .i64 sz] 58)).alloc (.cells #[.int .i64 0, .bool false, .int .u64 0, .int .u64 0, .bool false, .int .u64 0, .int .u64 0, .int .i64 0, .int .i64 0] 48) := ⟨_, rfl⟩
  have E1 := Lib.hid hw1
  have BA := Lib.hid (show Below w.heap.size w (w.alloc (.cells #[.bool v6, .int .i64 pr, .bool s6, .int .u64 sh, .int .u64 sl, .bool d6, .int .u64 dh, .int .u64 dl, .int .i64 sp, .int .i64 dp, .int .i64 ttl, .int .i64 fl, .bool true, .int .i64 apr, .bool as6, .int .u64 ash, .int .u64 asl, .bool ad6, .int .u64 adh, .int .u64 adl, .int .i64 asp, .int .i64 adp, .int .i64 sz] 58)) from (Below.refl _ _).alloc (Nat.le_refl _) _)
  have B1 := Lib.hid (show Below w.heap.size w w1 from by rw [hw1]; exact BA.out.alloc BA.out.size _)
  obtain ⟨g, hg⟩ : ∃ g, g = w.heap.size := ⟨_, rfl⟩
  obtain ⟨q, hq⟩ : ∃ q, q = w.heap.size + 1 := ⟨_, rfl⟩
  have EG := Lib.hid hg
  have EQ := Lib.hid hq
  have KP := Lib.hid (show Blk w1 g 58 #[.bool v6, .int .i64 pr, .bool s6, .int .u64 sh, .int .u64 sl, .bool d6, .int .u64 dh, .int .u64 dl, .int .i64 sp, .int .i64 dp, .int .i64 ttl, .int .i64 fl, .bool true, .int .i64 apr, .bool as6, .int .u64 ash, .int .u64 asl, .bool ad6, .int .u64 adh, .int .u64 adl, .int .i64 asp, .int .i64 adp, .int .i64 sz] from by rw [hw1, hg]; exact (Blk.new w _ _).below ((Below.refl _ _).alloc (Nat.le_refl _) _) (Blk.new w _ _).lt)
  have KQ := Lib.hid (show Blk w1 q 48 #[.int .i64 0, .bool false, .int .u64 0, .int .u64 0, .bool false, .int .u64 0, .int .u64 0, .int .i64 0, .int .i64 0] from by
    have h9 := Blk.new (w.alloc (.cells #[.bool v6, .int .i64 pr, .bool s6, .int .u64 sh, .int .u64 sl, .bool d6, .int .u64 dh, .int .u64 dl, .int .i64 sp, .int .i64 dp, .int .i64 ttl, .int .i64 fl, .bool true, .int .i64 apr, .bool as6, .int .u64 ash, .int .u64 asl, .bool ad6, .int .u64 adh, .int .u64 adl, .int .i64 asp, .int .i64 adp, .int .i64 sz] 58)) 48 #[.int .i64 0, .bool false, .int .u64 0, .int .u64 0, .bool false, .int .u64 0, .int .u64 0, .int .i64 0, .int .i64 0]
    rw [← hw1] at h9
    rw [hq]
    simpa using h9)
  have HI := Lib.hid tp_size
  clear hw1 hg hq
  have p12 := KP.out.cell 12
  have p13 := KP.out.cell 13
  have p14 := KP.out.cell 14
  have p15 := KP.out.cell 15
  have p16 := KP.out.cell 16
  have p17 := KP.out.cell 17
  have p18 := KP.out.cell 18
  have p19 := KP.out.cell 19
  have p20 := KP.out.cell 20
  have p21 := KP.out.cell 21
  go_enter Try.func30, Try.ntmps30
  go_upto_region 1 with fail
  rw [← E1.out, ← EQ.out, ← EG.out]
  go_wp2_with (refine wpList_store_row rfl 48 _ _ rfl q #[.int .i64 apr, .bool as6, .int .u64 ash, .int .u64 asl, .bool ad6, .int .u64 adh, .int .u64 adl, .int .i64 asp, .int .i64 adp] rfl rfl 48 #[.int .i64 0, .bool false, .int .u64 0, .int .u64 0, .bool false, .int .u64 0, .int .u64 0, .int .i64 0, .int .i64 0] KQ.out HI.out rfl (by kernel_rfl) ?_)
  refine bodyPost_ret (results_tp rfl _ _ q #[.int .i64 apr, .bool as6, .int .u64 ash, .int .u64 asl, .bool ad6, .int .u64 adh, .int .u64 adl, .int .i64 asp, .int .i64 adp] rfl rfl (blkRow KQ.out _)) rfl ?_
  exact ⟨rfl, (onlyRow _).from B1.out (by have := EQ.out; omega)⟩
set_option maxHeartbeats 4000000 in
set_option maxRecDepth 100000 in
theorem key_own (v6 : Bool) (pr : Int) (s6 : Bool) (sh sl : Int) (d6 : Bool) (dh dl sp dp ttl fl : Int) (apr : Int) (as6 : Bool) (ash asl : Int) (ad6 : Bool) (adh adl asp adp sz : Int) (w : World) :
    Calls Try.prog 30 #[.agg #[.bool v6, .int .i64 pr, .bool s6, .int .u64 sh, .int .u64 sl, .bool d6, .int .u64 dh, .int .u64 dl, .int .i64 sp, .int .i64 dp, .int .i64 ttl, .int .i64 fl, .bool false, .int .i64 apr, .bool as6, .int .u64 ash, .int .u64 asl, .bool ad6, .int .u64 adh, .int .u64 adl, .int .i64 asp, .int .i64 adp, .int .i64 sz]] w fun o w' => o = .returned (.agg #[.int .i64 pr, .bool s6, .int .u64 sh, .int .u64 sl, .bool d6, .int .u64 dh, .int .u64 dl, .int .i64 sp, .int .i64 dp]) ∧ Below w.heap.size w w' := by
  obtain ⟨w1, hw1⟩ : ∃ w1, w1 = (w.alloc (.cells #[.bool v6, .int .i64 pr, .bool s6, .int .u64 sh, .int .u64 sl, .bool d6, .int .u64 dh, .int .u64 dl, .int .i64 sp, .int .i64 dp, .int .i64 ttl, .int .i64 fl, .bool false, .int .i64 apr, .bool as6, .int .u64 ash, .int .u64 asl, .bool ad6, .int .u64 adh, .int .u64 adl, .int .i64 asp, .int .i64 adp, .int .i64 sz] 58)).alloc (.cells #[.int .i64 0, .bool false, .int .u64 0, .int .u64 0, .bool false, .int .u64 0, .int .u64 0, .int .i64 0, .int .i64 0] 48) := ⟨_, rfl⟩
  have E1 := Lib.hid hw1
  have BA := Lib.hid (show Below w.heap.size w (w.alloc (.cells #[.bool v6, .int .i64 pr, .bool s6, .int .u64 sh, .int .u64 sl, .bool d6, .int .u64 dh, .int .u64 dl, .int .i64 sp, .int .i64 dp, .int .i64 ttl, .int .i64 fl, .bool false, .int .i64 apr, .bool as6, .int .u64 ash, .int .u64 asl, .bool ad6, .int .u64 adh, .int .u64 adl, .int .i64 asp, .int .i64 adp, .int .i64 sz] 58)) from (Below.refl _ _).alloc (Nat.le_refl _) _)
  have B1 := Lib.hid (show Below w.heap.size w w1 from by rw [hw1]; exact BA.out.alloc BA.out.size _)
  obtain ⟨g, hg⟩ : ∃ g, g = w.heap.size := ⟨_, rfl⟩
  obtain ⟨q, hq⟩ : ∃ q, q = w.heap.size + 1 := ⟨_, rfl⟩
  have EG := Lib.hid hg
  have EQ := Lib.hid hq
  have KP := Lib.hid (show Blk w1 g 58 #[.bool v6, .int .i64 pr, .bool s6, .int .u64 sh, .int .u64 sl, .bool d6, .int .u64 dh, .int .u64 dl, .int .i64 sp, .int .i64 dp, .int .i64 ttl, .int .i64 fl, .bool false, .int .i64 apr, .bool as6, .int .u64 ash, .int .u64 asl, .bool ad6, .int .u64 adh, .int .u64 adl, .int .i64 asp, .int .i64 adp, .int .i64 sz] from by rw [hw1, hg]; exact (Blk.new w _ _).below ((Below.refl _ _).alloc (Nat.le_refl _) _) (Blk.new w _ _).lt)
  have KQ := Lib.hid (show Blk w1 q 48 #[.int .i64 0, .bool false, .int .u64 0, .int .u64 0, .bool false, .int .u64 0, .int .u64 0, .int .i64 0, .int .i64 0] from by
    have h9 := Blk.new (w.alloc (.cells #[.bool v6, .int .i64 pr, .bool s6, .int .u64 sh, .int .u64 sl, .bool d6, .int .u64 dh, .int .u64 dl, .int .i64 sp, .int .i64 dp, .int .i64 ttl, .int .i64 fl, .bool false, .int .i64 apr, .bool as6, .int .u64 ash, .int .u64 asl, .bool ad6, .int .u64 adh, .int .u64 adl, .int .i64 asp, .int .i64 adp, .int .i64 sz] 58)) 48 #[.int .i64 0, .bool false, .int .u64 0, .int .u64 0, .bool false, .int .u64 0, .int .u64 0, .int .i64 0, .int .i64 0]
    rw [← hw1] at h9
    rw [hq]
    simpa using h9)
  have HI := Lib.hid tp_size
  clear hw1 hg hq
  have p12 := KP.out.cell 12
  have p1 := KP.out.cell 1
  have p2 := KP.out.cell 2
  have p3 := KP.out.cell 3
  have p4 := KP.out.cell 4
  have p5 := KP.out.cell 5
  have p6 := KP.out.cell 6
  have p7 := KP.out.cell 7
  have p8 := KP.out.cell 8
  have p9 := KP.out.cell 9
  go_enter Try.func30, Try.ntmps30
  go_upto_region 1 with fail
  rw [← E1.out, ← EQ.out, ← EG.out]
  go_wp2_with (refine wpList_store_row rfl 48 _ _ rfl q #[.int .i64 pr, .bool s6, .int .u64 sh, .int .u64 sl, .bool d6, .int .u64 dh, .int .u64 dl, .int .i64 sp, .int .i64 dp] rfl rfl 48 #[.int .i64 0, .bool false, .int .u64 0, .int .u64 0, .bool false, .int .u64 0, .int .u64 0, .int .i64 0, .int .i64 0] KQ.out HI.out rfl (by kernel_rfl) ?_)
  refine bodyPost_ret (results_tp rfl _ _ q #[.int .i64 pr, .bool s6, .int .u64 sh, .int .u64 sl, .bool d6, .int .u64 dh, .int .u64 dl, .int .i64 sp, .int .i64 dp] rfl rfl (blkRow KQ.out _)) rfl ?_
  exact ⟨rfl, (onlyRow _).from B1.out (by have := EQ.out; omega)⟩
def keyP (P : Pk) : Tp := if P.er = true then P.ab else P.t
theorem key_any (P : Pk) (w : World) : Calls Try.prog 30 #[.agg P.cells] w fun o w' => o = .returned (.agg (keyP P).cells) ∧ Below w.heap.size w w' := by
  obtain ⟨v6, ⟨pr, s6, sh, sl, d6, dh, dl, sp, dp⟩, ttl, fl, er, ⟨apr, as6, ash, asl, ad6, adh, adl, asp, adp⟩, sz⟩ := P
  cases er with
  | true => exact key_err v6 pr s6 sh sl d6 dh dl sp dp ttl fl apr as6 ash asl ad6 adh adl asp adp sz w
  | false => exact key_own v6 pr s6 sh sl d6 dh dl sp dp ttl fl apr as6 ash asl ad6 adh adl asp adp sz w
set_option maxHeartbeats 4000000 in
set_option maxRecDepth 100000 in
theorem opens_tcp (v6 : Bool) (s6 : Bool) (sh sl : Int) (d6 : Bool) (dh dl sp dp ttl fl : Int) (er : Bool) (apr : Int) (as6 : Bool) (ash asl : Int) (ad6 : Bool) (adh adl asp adp sz : Int) (w : World) :
    Calls Try.prog 31 #[.agg #[.bool v6, .int .i64 6, .bool s6, .int .u64 sh, .int .u64 sl, .bool d6, .int .u64 dh, .int .u64 dl, .int .i64 sp, .int .i64 dp, .int .i64 ttl, .int .i64 fl, .bool er, .int .i64 apr, .bool as6, .int .u64 ash, .int .u64 asl, .bool ad6, .int .u64 adh, .int .u64 adl, .int .i64 asp, .int .i64 adp, .int .i64 sz]] w fun o w' => o = .returned (.bool (tcpB.opensB fl)) ∧ Below w.heap.size w w' := by
  have B0 := Lib.hid (show Below w.heap.size w (w.alloc (.cells #[.bool v6, .int .i64 6, .bool s6, .int .u64 sh, .int .u64 sl, .bool d6, .int .u64 dh, .int .u64 dl, .int .i64 sp, .int .i64 dp, .int .i64 ttl, .int .i64 fl, .bool er, .int .i64 apr, .bool as6, .int .u64 ash, .int .u64 asl, .bool ad6, .int .u64 adh, .int .u64 adl, .int .i64 asp, .int .i64 adp, .int .i64 sz] 58)) from (Below.refl _ _).alloc (Nat.le_refl _) _)
  have HO := Lib.hid (fun V => tcpB.opens_any 0 0 0 0 fl 0 0 none 0 0 V)
  go_enter Try.func31, Try.ntmps31
  go_wp2_with fail
  refine (HO.out _).mono ?_
  rintro o w2 ⟨rfl, hb2⟩
  have B2 := Lib.hid (B0.out.trans (hb2.mono B0.out.size))
  clear hb2
  go_wp2_with fail
  go_ret
  exact ⟨rfl, B2.out⟩
set_option maxHeartbeats 4000000 in
set_option maxRecDepth 100000 in
theorem opens_not (pr : Int) (h6 : pr ≠ 6) (v6 : Bool) (s6 : Bool) (sh sl : Int) (d6 : Bool) (dh dl sp dp ttl fl : Int) (er : Bool) (apr : Int) (as6 : Bool) (ash asl : Int) (ad6 : Bool) (adh adl asp adp sz : Int) (w : World) :
    Calls Try.prog 31 #[.agg #[.bool v6, .int .i64 pr, .bool s6, .int .u64 sh, .int .u64 sl, .bool d6, .int .u64 dh, .int .u64 dl, .int .i64 sp, .int .i64 dp, .int .i64 ttl, .int .i64 fl, .bool er, .int .i64 apr, .bool as6, .int .u64 ash, .int .u64 asl, .bool ad6, .int .u64 adh, .int .u64 adl, .int .i64 asp, .int .i64 adp, .int .i64 sz]] w fun o w' => o = .returned (.bool false) ∧ Below w.heap.size w w' := by
  have t6 : (pr == 6) = false := by simpa using h6
  clear h6
  have B0 := Lib.hid (show Below w.heap.size w (w.alloc (.cells #[.bool v6, .int .i64 pr, .bool s6, .int .u64 sh, .int .u64 sl, .bool d6, .int .u64 dh, .int .u64 dl, .int .i64 sp, .int .i64 dp, .int .i64 ttl, .int .i64 fl, .bool er, .int .i64 apr, .bool as6, .int .u64 ash, .int .u64 asl, .bool ad6, .int .u64 adh, .int .u64 adl, .int .i64 asp, .int .i64 adp, .int .i64 sz] 58)) from (Below.refl _ _).alloc (Nat.le_refl _) _)
  have HO := Lib.hid (fun V => tcpB.opens_any 0 0 0 0 fl 0 0 none 0 0 V)
  go_enter Try.func31, Try.ntmps31
  go_wp2_with fail
  go_ret
  exact ⟨rfl, B0.out⟩
def opensP (P : Pk) : Bool := decide (P.t.pr = 6) && tcpB.opensB P.fl
theorem opens_pk (P : Pk) (w : World) : Calls Try.prog 31 #[.agg P.cells] w fun o w' => o = .returned (.bool (opensP P)) ∧ Below w.heap.size w w' := by
  obtain ⟨v6, ⟨pr, s6, sh, sl, d6, dh, dl, sp, dp⟩, ttl, fl, er, ⟨apr, as6, ash, asl, ad6, adh, adl, asp, adp⟩, sz⟩ := P
  by_cases h6 : pr = 6
  · subst h6
    exact opens_tcp v6 s6 sh sl d6 dh dl sp dp ttl fl er apr as6 ash asl ad6 adh adl asp adp sz w
  · have e : opensP ⟨v6, ⟨pr, s6, sh, sl, d6, dh, dl, sp, dp⟩, ttl, fl, er, ⟨apr, as6, ash, asl, ad6, adh, adl, asp, adp⟩, sz⟩ = false := by unfold opensP; rw [decide_eq_false h6]; rfl
    rw [e]
    exact opens_not pr h6 v6 s6 sh sl d6 dh dl sp dp ttl fl er apr as6 ash asl ad6 adh adl asp adp sz w
end Go.Proofs.Ytndekicblbpkjaa.pktK
/- Layer 13: a packet whose bytes behind its header a closure makes. -/
namespace Go.Proofs.Ytndekicblbpkjaa.pktL
open Go.ChangeShapes Go.WideShapes Go.ChangeAt Go.RowKit
open Go.Proofs.Ytndekicblbpkjaa.base Go.Proofs.Ytndekicblbpkjaa.octA Go.Proofs.Ytndekicblbpkjaa.octB Go.Proofs.Ytndekicblbpkjaa.octC Go.Proofs.Ytndekicblbpkjaa.octF Go.Proofs.Ytndekicblbpkjaa.octK Go.Proofs.Ytndekicblbpkjaa.net Go.Proofs.Ytndekicblbpkjaa.rdrA Go.Proofs.Ytndekicblbpkjaa.rdrG Go.Proofs.Ytndekicblbpkjaa.sumA Go.Proofs.Ytndekicblbpkjaa.sumB Go.Proofs.Ytndekicblbpkjaa.sixW Go.Proofs.Ytndekicblbpkjaa.sixM Go.Proofs.Ytndekicblbpkjaa.pktA Go.Proofs.Ytndekicblbpkjaa.pktB
set_option linter.unusedVariables false

/-- Bytes that are made, and an error; of an error none. -/
def MkP (e : Int) (out : List Int) (w : World) (o : Ending) (w' : World) : Prop := Below w.heap.size w w' ∧ ∃ (A : Option Addr) (n c : Nat), o = .returned (.tuple #[.slice A n c, .int .i64 e]) ∧ Sl w' A n c out
set_option maxHeartbeats 4000000 in
set_option maxRecDepth 100000 in
theorem whole_dg_four (pr : Int) (sh sl : Int) (d6 : Bool) (dh dl sp dp ttl sz : Int) (c1 c2 : Nat) (ps bs : List Int) (e : Int) (out : List Int) (w : World)
    (HPS : Hid (∀ V, Below w.heap.size w V → Calls Try.prog 88 #[.agg #[.bool false, .int .u64 sh, .int .u64 sl], .agg #[.bool d6, .int .u64 dh, .int .u64 dl], .int .i64 pr, .int .i64 sz] V (Gives ps V)))
    (HC : Hid (∀ V A2 n2 k2, Below w.heap.size w V → Sl V A2 n2 k2 ps → Calls Try.prog 64 #[.slice A2 n2 k2, .pointer (some ⟨c1, 0, none⟩), .pointer (some ⟨c2, 0, none⟩)] V (MkP 0 bs V)))
    (HB : Hid (∀ V A2 n2 k2, Below w.heap.size w V → Sl V A2 n2 k2 bs → Calls Try.prog 89 #[.agg #[.int .i64 0, .int .i64 0, .bool false, .bool false, .int .i64 0, .int .i64 ttl, .int .i64 pr, .bool false, .int .u64 sh, .int .u64 sl, .bool d6, .int .u64 dh, .int .u64 dl, .slice none 0 0], .slice A2 n2 k2] V (MkP e out V))) :
    Calls Try.prog 63 #[.agg #[.int .i64 pr, .bool false, .int .u64 sh, .int .u64 sl, .bool d6, .int .u64 dh, .int .u64 dl, .int .i64 sp, .int .i64 dp], .int .i64 ttl, .int .i64 sz, .func (.func 64) #[] #[.pointer (some ⟨c1, 0, none⟩), .pointer (some ⟨c2, 0, none⟩)]] w (MkP e out w) := by
  obtain ⟨w1, hw1⟩ : ∃ w1, w1 = w.alloc (.cells #[.int .i64 pr, .bool false, .int .u64 sh, .int .u64 sl, .bool d6, .int .u64 dh, .int .u64 dl, .int .i64 sp, .int .i64 dp] 48) := ⟨_, rfl⟩
  have E1 := Lib.hid hw1
  have B1 := Lib.hid (show Below w.heap.size w w1 from by rw [hw1]; exact (Below.refl _ _).alloc (Nat.le_refl _) _)
  obtain ⟨g, hg⟩ : ∃ g, g = w.heap.size := ⟨_, rfl⟩
  have EG := Lib.hid hg
  have KP := Lib.hid (show Blk w1 g 48 #[.int .i64 pr, .bool false, .int .u64 sh, .int .u64 sl, .bool d6, .int .u64 dh, .int .u64 dl, .int .i64 sp, .int .i64 dp] from by rw [hw1, hg]; exact Blk.new w _ _)
  clear hw1 hg
  go_enter Try.func63, Try.ntmps63
  go_upto_region 1 with fail
  rw [← E1.out, ← EG.out]
  have p0 := KP.out.cell 0
  have p1 := KP.out.cell 1
  have p2 := KP.out.cell 2
  have p3 := KP.out.cell 3
  have p4 := KP.out.cell 4
  have p5 := KP.out.cell 5
  have p6 := KP.out.cell 6
  go_wp2_with fail
  refine (HPS.out _ B1.out).mono ?_
  rintro o w2 ⟨hb2, A2, n2, k2, rfl, hsl, hge⟩
  have KP2 := Lib.hid (KP.out.below hb2 KP.out.lt)
  have B2 := Lib.hid (B1.out.trans (hb2.mono B1.out.size))
  have HC2 := Lib.hid (HC.out w2 A2 n2 k2 B2.out hsl)
  clear hb2 hsl hge p0 p1 p2 p3 p4 p5 p6
  go_wp2_with fail
  refine HC2.out.mono ?_
  rintro o w3 ⟨hb3, A3, n3, c3, rfl, hs3⟩
  have KP3 := Lib.hid (KP2.out.below hb3 KP2.out.lt)
  have B3 := Lib.hid (B2.out.trans (hb3.mono B2.out.size))
  have HB3 := Lib.hid (HB.out w3 A3 n3 c3 B3.out hs3)
  clear hb3 hs3
  have p0 := KP3.out.cell 0
  have p1 := KP3.out.cell 1
  have p2 := KP3.out.cell 2
  have p3 := KP3.out.cell 3
  have p4 := KP3.out.cell 4
  have p5 := KP3.out.cell 5
  have p6 := KP3.out.cell 6
  go_wp2_with fail
  refine HB3.out.mono ?_
  rintro o w4 ⟨hb4, A4, n4, c4, rfl, hs4⟩
  have B4 := Lib.hid (B3.out.trans (hb4.mono B3.out.size))
  clear hb4
  go_wp2_with fail
  go_ret2
  exact ⟨B4.out, A4, n4, c4, rfl, hs4⟩
end Go.Proofs.Ytndekicblbpkjaa.pktL
