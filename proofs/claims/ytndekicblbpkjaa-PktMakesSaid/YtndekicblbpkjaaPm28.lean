/- 4 texts in one. -/
import Derived.Test.YtndekicblbpkjaaPm01
import Derived.Test.YtndekicblbpkjaaPm12
import Derived.Test.YtndekicblbpkjaaPm14
import Derived.Test.YtndekicblbpkjaaPm15
import Derived.Test.YtndekicblbpkjaaPm16
import Derived.Test.YtndekicblbpkjaaPm23
import Derived.Test.YtndekicblbpkjaaPm26
import Derived.Test.YtndekicblbpkjaaPm27
/- Layer 9: what is put, parsed again (plain words). -/
namespace Go.Proofs.Ytndekicblbpkjaa.sixY
open Go.ChangeShapes Go.WideShapes Go.ChangeAt Go.RowKit
open Go.Proofs.Ytndekicblbpkjaa.base Go.Proofs.Ytndekicblbpkjaa.octA Go.Proofs.Ytndekicblbpkjaa.octB Go.Proofs.Ytndekicblbpkjaa.octE Go.Proofs.Ytndekicblbpkjaa.rdrA Go.Proofs.Ytndekicblbpkjaa.rdrG Go.Proofs.Ytndekicblbpkjaa.tcpC Go.Proofs.Ytndekicblbpkjaa.sixW Go.Proofs.Ytndekicblbpkjaa.sixM Go.Proofs.Ytndekicblbpkjaa.snK Go.Proofs.Ytndekicblbpkjaa.sixE Go.Proofs.Ytndekicblbpkjaa.sixF Go.Proofs.Ytndekicblbpkjaa.sixH Go.Proofs.Ytndekicblbpkjaa.sixK Go.Proofs.Ytndekicblbpkjaa.sixQ Go.Proofs.Ytndekicblbpkjaa.sixT
set_option linter.unusedVariables false

theorem atN_pb8 (n : Int) (z : List Int) (h0 : 0 ≤ n) (h1 : n < 18446744073709551616) : atN (pb n 8 8 ++ z) 0 8 = n := by
  obtain ⟨x, rfl⟩ := Int.eq_ofNat_of_zero_le h0
  have e := atN_put [] 8 [(x : Int)] 0 x (by simp) rfl 8 (Nat.le_refl _)
  have e2 : allb 8 [(x : Int)] = pb (x : Int) 8 8 := by
    show pb (x : Int) 8 8 ++ [] = _
    rw [List.append_nil]
  rw [List.nil_append, e2] at e
  have e3 : atN (pb (x : Int) 8 8 ++ z) 0 8 = atN (pb (x : Int) 8 8) 0 8 := by
    have key : ∀ k, k ≤ 8 → atN (pb (x : Int) 8 8 ++ z) 0 k = atN (pb (x : Int) 8 8) 0 k := fun k => by
      induction k with
      | zero => intro _; rfl
      | succ k ih =>
        intro hk
        show atN _ 0 k * 256 + (pb (x : Int) 8 8 ++ z).getD (0 + k) 0 = atN _ 0 k * 256 + (pb (x : Int) 8 8).getD (0 + k) 0
        rw [ih (by omega), getD_app _ _ _ (by rw [pb_len]; omega)]
    exact key 8 (Nat.le_refl _)
  rw [e3]
  refine e.trans ?_
  have h9 : x < 18446744073709551616 := by omega
  show ((x / 1 % 18446744073709551616 : Nat) : Int) = _
  rw [Nat.div_one, Nat.mod_eq_of_lt h9]
theorem atN_pb16 (m n : Int) (z : List Int) (h0 : 0 ≤ n) (h1 : n < 18446744073709551616) : atN (pb m 8 8 ++ (pb n 8 8 ++ z)) 8 8 = n := by
  rw [atN_drop, List.drop_append_of_le_length (by rw [pb_len]; omega), List.drop_of_length_le (by rw [pb_len]; omega), List.nil_append]
  exact atN_pb8 n z h0 h1
theorem word_eq (cls lab : Int) (c0 : 0 ≤ cls) (c1 : cls ≤ 255) (l0 : 0 ≤ lab) (l1 : lab ≤ 1048575) (W : Int) (hW : W = ((96 + cls / 16) * 256 + (cls % 16 * 16 + lab / 65536)) * 65536 + (lab / 256 % 256 * 256 + lab % 256)) : W / 1048576 % 256 = cls ∧ W % 1048576 = lab := by
  have e : W = (96 * 16 + cls) * 1048576 + lab := by omega
  clear hW
  omega
theorem hd_back (h : Hs) (X : List XP) (p0 : Int) (N : Nat) (hN : N ≤ 65535) (z : List Int) (hR : RightH h X) (hsh : 0 ≤ h.sh ∧ h.sh < 18446744073709551616) (hsl : 0 ≤ h.sl ∧ h.sl < 18446744073709551616) (hdh : 0 ≤ h.dh ∧ h.dh < 18446744073709551616) (hdl : 0 ≤ h.dl ∧ h.dl < 18446744073709551616) :
    hdOf (hdB h p0 N ++ z) h.p = h ∧ (hdB h p0 N ++ z).getD 0 0 / 16 = 6 ∧ (hdB h p0 N ++ z).getD 6 0 = p0 ∧ sizeP (hdB h p0 N ++ z) = N ∧ (hdB h p0 N).length = 40 := by
  obtain ⟨cls, lab, hop, s6, sh, sl, d6, dh, dl, p⟩ := h
  obtain rfl : s6 = true := hR.s6
  obtain rfl : d6 = true := hR.d6
  have c0 : 0 ≤ cls := hR.c0
  have c1 : cls ≤ 255 := hR.c1
  have l0 : 0 ≤ lab := hR.l0
  have l1 : lab ≤ 1048575 := hR.l1
  have e : hdB ⟨cls, lab, hop, true, sh, sl, true, dh, dl, p⟩ p0 N ++ z = (96 + cls / 16) :: (cls % 16 * 16 + lab / 65536) :: (lab / 256 % 256) :: (lab % 256) :: ((N : Int) / 256 % 256) :: ((N : Int) % 256) :: p0 :: hop :: (pb sh 8 8 ++ (pb sl 8 8 ++ (pb dh 8 8 ++ (pb dl 8 8 ++ z)))) := by
    show (hd8 cls lab hop p0 N ++ (pb sh 8 8 ++ pb sl 8 8) ++ (pb dh 8 8 ++ pb dl 8 8)) ++ z = _
    simp only [hd8, List.append_assoc, List.cons_append, List.nil_append]
  have d8 : (hdB ⟨cls, lab, hop, true, sh, sl, true, dh, dl, p⟩ p0 N ++ z).drop 8 = pb sh 8 8 ++ (pb sl 8 8 ++ (pb dh 8 8 ++ (pb dl 8 8 ++ z))) := by rw [e]; rfl
  have d24 : (hdB ⟨cls, lab, hop, true, sh, sl, true, dh, dl, p⟩ p0 N ++ z).drop 24 = pb dh 8 8 ++ (pb dl 8 8 ++ z) := by
    rw [show 24 = 8 + 16 from rfl, ← List.drop_drop, d8]
    have ln : (pb sh 8 8 ++ pb sl 8 8).length = 16 := by rw [List.length_append, pb_len, pb_len]
    rw [← List.append_assoc, List.drop_append_of_le_length (by omega), List.drop_of_length_le (by omega), List.nil_append]
  have hw := word_eq cls lab c0 c1 l0 l1 _ rfl
  refine ⟨?_, ?_, ?_, ?_, ?_⟩
  · show Hs.mk (w32 (hdB _ p0 N ++ z) 0 / 1048576 % 256) (w32 (hdB _ p0 N ++ z) 0 % 1048576) ((hdB _ p0 N ++ z).getD 7 0) true (atN ((hdB _ p0 N ++ z).drop 8) 0 8) (atN ((hdB _ p0 N ++ z).drop 8) 8 8) true (atN ((hdB _ p0 N ++ z).drop 24) 0 8) (atN ((hdB _ p0 N ++ z).drop 24) 8 8) p = _
    have ew : w32 (hdB ⟨cls, lab, hop, true, sh, sl, true, dh, dl, p⟩ p0 N ++ z) 0 = ((96 + cls / 16) * 256 + (cls % 16 * 16 + lab / 65536)) * 65536 + (lab / 256 % 256 * 256 + lab % 256) := by rw [e]; rfl
    have e7 : (hdB ⟨cls, lab, hop, true, sh, sl, true, dh, dl, p⟩ p0 N ++ z).getD 7 0 = hop := by rw [e]; rfl
    rw [ew, hw.1, hw.2, e7, d8, d24, atN_pb8 sh _ hsh.1 hsh.2, atN_pb16 sh sl _ hsl.1 hsl.2, atN_pb8 dh _ hdh.1 hdh.2, atN_pb16 dh dl _ hdl.1 hdl.2]
  · rw [e]
    show (96 + cls / 16) / 16 = 6
    omega
  · rw [e]; rfl
  · unfold sizeP
    rw [e]
    show (256 * ((N : Int) / 256 % 256) + (N : Int) % 256).toNat = N
    omega
  · show (hd8 cls lab hop p0 N ++ (pb sh 8 8 ++ pb sl 8 8) ++ (pb dh 8 8 ++ pb dl 8 8)).length = 40
    simp only [List.length_append, pb_len, hd8, List.length_cons, List.length_nil]
theorem put_parse (h : Hs) (X : List XP) (r t : List Int) (hR : RightH h X) (hU : ∀ x ∈ X, U8 x.2) (hr : r.length ≤ 1000) (hsh : 0 ≤ h.sh ∧ h.sh < 18446744073709551616) (hsl : 0 ≤ h.sl ∧ h.sl < 18446744073709551616) (hdh : 0 ≤ h.dh ∧ h.dh < 18446744073709551616) (hdl : 0 ≤ h.dl ∧ h.dl < 18446744073709551616) :
    sixP (sixB h X r ++ t) = .inr (X, h.p, r) ∧ hdOf (sixB h X r ++ t) h.p = h ∧ sixQ (sixB h X r) = .inr (X, h.p, r) ∧ hdOf (sixB h X r) h.p = h ∧ (sixB h X r).getD 0 0 / 16 = 6 ∧ (sixB h X r ++ t).getD 0 0 / 16 = 6 ∧ (sixB h X r).length = 40 + extL X + r.length := by
  have hx := extL_le hR.e
  obtain ⟨a1, a2, a3, a4, a5⟩ := hd_back h X (nextK X h.p) (extL X + r.length) (by omega) ((extB X h.p ++ r) ++ t) hR hsh hsl hdh hdl
  obtain ⟨b1, b2, b3, b4, b5⟩ := hd_back h X (nextK X h.p) (extL X + r.length) (by omega) (extB X h.p ++ r) hR hsh hsl hdh hdl
  have ea : sixB h X r ++ t = hdB h (nextK X h.p) (extL X + r.length) ++ ((extB X h.p ++ r) ++ t) := by unfold sixB; rw [List.append_assoc]
  have eb : sixB h X r = hdB h (nextK X h.p) (extL X + r.length) ++ (extB X h.p ++ r) := rfl
  have ln : (extB X h.p ++ r).length = extL X + r.length := by rw [List.length_append, extB_len]
  have lb : (sixB h X r).length = 40 + extL X + r.length := by rw [eb, List.length_append, a5, ln]; omega
  have hc := chn_put X [] h.p r 9 (by rw [List.nil_append]; exact hR.e) hU hR.pn (by have := hR.e.most; omega)
  rw [List.nil_append] at hc
  have dr : (sixB h X r).drop 40 = extB X h.p ++ r := by rw [eb, List.drop_append_of_le_length (by omega), List.drop_of_length_le (by omega), List.nil_append]
  refine ⟨?_, by rw [ea]; exact a1, ?_, by rw [eb]; exact b1, by rw [eb]; exact b2, by rw [ea]; exact a2, lb⟩
  · have e4 : sizeP (sixB h X r ++ t) = extL X + r.length := by rw [ea]; exact a4
    have tk : (sixB h X r ++ t).take (40 + (extL X + r.length)) = sixB h X r := by
      rw [List.take_append_of_le_length (by omega), List.take_of_length_le (by omega)]
    unfold sixP
    rw [if_neg (by rw [List.length_append]; omega), if_neg (by rw [ea, a2]; decide), e4, if_neg (by rw [List.length_append]; omega), tk, dr, ea, a3, hc]
    rfl
  · unfold sixQ
    rw [if_neg (by omega), if_neg (by rw [eb, b2]; decide), dr, eb, b3, hc]
    rfl
end Go.Proofs.Ytndekicblbpkjaa.sixY
/- Layer 13: what is made, parsed: plain words. -/
namespace Go.Proofs.Ytndekicblbpkjaa.pktR
open Go.ChangeShapes Go.WideShapes Go.ChangeAt Go.RowKit
open Go.Proofs.Ytndekicblbpkjaa.octA Go.Proofs.Ytndekicblbpkjaa.rdrA Go.Proofs.Ytndekicblbpkjaa.rdrG Go.Proofs.Ytndekicblbpkjaa.sumA Go.Proofs.Ytndekicblbpkjaa.sumB Go.Proofs.Ytndekicblbpkjaa.sixW Go.Proofs.Ytndekicblbpkjaa.sixM Go.Proofs.Ytndekicblbpkjaa.pktA Go.Proofs.Ytndekicblbpkjaa.pktB Go.Proofs.Ytndekicblbpkjaa.pktC Go.Proofs.Ytndekicblbpkjaa.pktE Go.Proofs.Ytndekicblbpkjaa.sixE Go.Proofs.Ytndekicblbpkjaa.sixF Go.Proofs.Ytndekicblbpkjaa.pktG
set_option linter.unusedVariables false

def mkB4 (ttl pr sl dl : Int) (bl : List Int) : List Int := fourD.hk 0 0 0 ttl pr sl dl (65535 - fo (wsum (fourD.hk 0 0 0 ttl pr sl dl 0 (20 + ((0 : Nat) : Int) + (bl.length : Int)) []))) (20 + ((0 : Nat) : Int) + (bl.length : Int)) [] ++ bl
theorem mk4_len (ttl pr sl dl : Int) (bl : List Int) : (mkB4 ttl pr sl dl bl).length = 20 + bl.length := by
  unfold mkB4
  rw [List.length_append, fourD.hk_len]
  rfl
theorem mk4_drop (ttl pr sl dl : Int) (bl : List Int) : (mkB4 ttl pr sl dl bl).drop 20 = bl := by
  unfold mkB4
  rw [List.drop_append_of_le_length (by rw [fourD.hk_len]; simp), List.drop_of_length_le (by rw [fourD.hk_len]; simp), List.nil_append]
theorem mk4_parse (ttl pr sl dl : Int) (bl : List Int) (h1 : 0 ≤ ttl ∧ ttl ≤ 255) (h2 : 0 ≤ pr ∧ pr ≤ 255) (h3 : 0 ≤ sl ∧ sl ≤ 4294967295) (h4 : 0 ≤ dl ∧ dl ≤ 4294967295) (hb : bl.length ≤ 900) :
    pkP (mkB4 ttl pr sl dl bl) = withP false ⟨pr, false, 0, sl, false, 0, dl, 0, 0⟩ ttl (20 + (bl.length : Int)) bl := by
  have hln := mk4_len ttl pr sl dl bl
  have hin := fourD.hk_in 0 0 0 ttl pr sl dl 0 (20 + ((0 : Nat) : Int) + (bl.length : Int)) [] (by omega) (by omega) (by omega) h1 h2 h3 h4 (by omega) (by omega) (by simp) (fun x hx => by cases hx)
  have hck := fourHn.hk_chk 0 0 0 ttl pr sl dl (20 + ((0 : Nat) : Int) + (bl.length : Int)) [] hin
  obtain ⟨s1, s2, s3, s4, s5, s6, _⟩ := fourHn.hk_says 0 0 0 ttl pr sl dl (65535 - fo (wsum (fourD.hk 0 0 0 ttl pr sl dl 0 (20 + ((0 : Nat) : Int) + (bl.length : Int)) []))) (20 + ((0 : Nat) : Int) + (bl.length : Int)) [] bl 20 rfl rfl (by omega) (by omega)
  have e12 : tcpC.w32 (mkB4 ttl pr sl dl bl) 12 = sl := by
    show (sl / 65536 / 256 * 256 + sl / 65536 % 256) * 65536 + (sl % 65536 / 256 * 256 + sl % 65536 % 256) = _
    omega
  have e16 : tcpC.w32 (mkB4 ttl pr sl dl bl) 16 = dl := by
    show (dl / 65536 / 256 * 256 + dl / 65536 % 256) * 65536 + (dl % 65536 / 256 * 256 + dl % 65536 % 256) = _
    omega
  have e8 : (mkB4 ttl pr sl dl bl).getD 8 0 = ttl := rfl
  have e9 : (mkB4 ttl pr sl dl bl).getD 9 0 = pr := rfl
  rw [show fourD.hk 0 0 0 ttl pr sl dl (65535 - fo (wsum (fourD.hk 0 0 0 ttl pr sl dl 0 (20 + ((0 : Nat) : Int) + (bl.length : Int)) []))) (20 + ((0 : Nat) : Int) + (bl.length : Int)) [] ++ bl = mkB4 ttl pr sl dl bl from rfl] at s1 s2 s3 s4 s5 s6
  generalize mkB4 ttl pr sl dl bl = B at *
  have hS : fourS B = 20 := by unfold fourS; rw [s2]; rfl
  have hR : fourR B = bl := by
    unfold fourR
    rw [hS, s6, s4, List.take_of_length_le (by omega)]
  have hE : fourE B = 0 := by
    unfold fourE
    rw [if_neg (by omega), if_neg (by omega), if_neg (by omega), if_neg (by omega), if_neg (by omega), s2, show ((20 : Nat) : Int).toNat = 20 from rfl, s5, if_neg (by omega)]
  unfold pkP
  rw [if_neg (by omega), if_neg (by omega), if_pos s1]
  unfold p4
  rw [if_neg (by omega), s3, if_neg (by decide), e8, e9, e12, e16, hS, hR]
  rfl
def mkB6 (ttl pr sh sl dh dl : Int) (bl : List Int) : List Int := sixK.sixB ⟨0, 0, ttl, true, sh, sl, true, dh, dl, pr⟩ [] bl
theorem right6 (ttl pr sh sl dh dl : Int) (h1 : 0 ≤ ttl ∧ ttl ≤ 255) (h2 : 0 ≤ pr ∧ pr ≤ 255) (h3 : isX pr = false) : sixH.RightH ⟨0, 0, ttl, true, sh, sl, true, dh, dl, pr⟩ [] :=
  ⟨by show (0 : Int) ≤ 0; decide, by show (0 : Int) ≤ 255; decide, h1.1, h1.2, by show (0 : Int) ≤ 0; decide, by show (0 : Int) ≤ 1048575; decide, rfl, rfl, h2.1, h2.2, h3, ⟨by decide, fun i h => absurd h (Nat.not_lt_zero i), fun i h => absurd h (Nat.not_lt_zero i)⟩⟩
theorem mk6_parse (ttl pr sh sl dh dl : Int) (bl : List Int) (h1 : 0 ≤ ttl ∧ ttl ≤ 255) (h2 : 0 ≤ pr ∧ pr ≤ 255) (h3 : isX pr = false) (b1 : 0 ≤ sh ∧ sh < 18446744073709551616) (b2 : 0 ≤ sl ∧ sl < 18446744073709551616) (b3 : 0 ≤ dh ∧ dh < 18446744073709551616) (b4 : 0 ≤ dl ∧ dl < 18446744073709551616) (hb : bl.length ≤ 900) :
    pkP (mkB6 ttl pr sh sl dh dl bl) = withP true ⟨pr, true, sh, sl, true, dh, dl, 0, 0⟩ ttl (40 + (bl.length : Int)) bl ∧ (mkB6 ttl pr sh sl dh dl bl).length = 40 + bl.length := by
  obtain ⟨_, _, a3, a4, a5, a6, a7⟩ := sixY.put_parse ⟨0, 0, ttl, true, sh, sl, true, dh, dl, pr⟩ [] bl [] (right6 ttl pr sh sl dh dl h1 h2 h3) (fun x hx => by cases hx) (by omega) b1 b2 b3 b4
  obtain ⟨a1, a2, _⟩ := sixY.put_parse ⟨0, 0, ttl, true, sh, sl, true, dh, dl, pr⟩ [] bl [] (right6 ttl pr sh sl dh dl h1 h2 h3) (fun x hx => by cases hx) (by omega) b1 b2 b3 b4
  rw [List.append_nil] at a1 a2
  have hl : (sixK.sixB ⟨0, 0, ttl, true, sh, sl, true, dh, dl, pr⟩ [] bl).length = 40 + bl.length := by rw [a7]; rfl
  refine ⟨?_, hl⟩
  show pkP (sixK.sixB ⟨0, 0, ttl, true, sh, sl, true, dh, dl, pr⟩ [] bl) = _
  generalize sixK.sixB ⟨0, 0, ttl, true, sh, sl, true, dh, dl, pr⟩ [] bl = B at *
  have e7 : B.getD 7 0 = ttl := congrArg Hs.hop a2
  have a1' : sixP B = .inr ([], pr, bl) := a1
  have a2' : hdOf B pr = ⟨0, 0, ttl, true, sh, sl, true, dh, dl, pr⟩ := a2
  unfold pkP
  rw [if_neg (by omega), if_neg (by omega), if_neg (by omega), if_pos a5]
  unfold p6
  rw [a1']
  show (if lies [] / 8 ≠ 0 ∨ decide (lies [] % 2 = 1) = true then (zeroPk, 21) else withP true ⟨pr, true, (hdOf B pr).sh, (hdOf B pr).sl, true, (hdOf B pr).dh, (hdOf B pr).dl, 0, 0⟩ (B.getD 7 0) (((40 + extL [] : Nat) : Int) + (bl.length : Int)) bl) = _
  rw [if_neg (by decide), a2', e7]
  rfl
theorem mk6_drop (ttl pr sh sl dh dl : Int) (bl : List Int) : (mkB6 ttl pr sh sl dh dl bl).drop 40 = bl := by
  show (sixK.hdB ⟨0, 0, ttl, true, sh, sl, true, dh, dl, pr⟩ _ _ ++ ([] ++ bl)).drop 40 = bl
  have hl : ∀ p n, (sixK.hdB ⟨0, 0, ttl, true, sh, sl, true, dh, dl, pr⟩ p n).length = 40 := fun p n => by
    unfold sixK.hdB
    simp only [List.length_append, pb_len, sixK.hd8, List.length_cons, List.length_nil]
  rw [List.drop_append_of_le_length (by rw [hl]; omega), List.drop_of_length_le (by rw [hl]; omega)]
  rfl
theorem psd_even (s6 : Bool) (sh sl dh dl pr sz : Int) (h : pr ≠ 1) : (psd s6 sh sl dh dl pr sz).length % 2 = 0 := by
  unfold psd
  rw [if_neg h]
  split
  · rw [psd6_len]
  · rw [psd4_len]
theorem udp_parse (v6 s6 : Bool) (sh sl : Int) (d6 : Bool) (dh dl sp dp ttl sz : Int) (pl : List Int) (hp : 0 ≤ sp ∧ sp ≤ 65535 ∧ 0 ≤ dp ∧ dp ≤ 65535) (hn : pl.length ≤ 800) (hu : U8 pl) (bs : List Int)
    (hb : bs = udpB.ub sp dp pl (udpB.chkZ (psd s6 sh sl dh dl 17 (8 + (pl.length : Int)) ++ udpB.ub sp dp pl 0))) :
    withP v6 ⟨17, s6, sh, sl, d6, dh, dl, 0, 0⟩ ttl sz bs = (⟨v6, ⟨17, s6, sh, sl, d6, dh, dl, sp, dp⟩, ttl, 0, false, zeroT, sz⟩, 0) := by
  have hps : U8 (psd s6 sh sl dh dl 17 (8 + (pl.length : Int))) := by
    unfold psd
    rw [if_neg (show ¬ (17 : Int) = 1 by decide)]
    split
    · exact psd6_u8 _ _ _ _ _ _
    · exact psd4_u8 _ _ _ _
  have he := psd_even s6 sh sl dh dl 17 (8 + (pl.length : Int)) (by decide)
  have hin : ∀ x ∈ psd s6 sh sl dh dl 17 (8 + (pl.length : Int)) ++ udpB.ub sp dp pl 0, 0 ≤ x ∧ x ≤ 255 := fun x hx => (List.mem_append.1 hx).elim (hps x) (udpB.ub_in sp dp pl 0 hu x)
  have c := udpB.chkZ_in _ hin
  have c0 := udpJn.chk_pos _ hin
  have hchk := udpJn.chk_right sp dp pl _ hp (by omega) hu hps he
  obtain ⟨u1, u2, u3, u4, u5⟩ := udpJn.ub_says sp dp pl _ hp (by omega) c.1 c.2
  have hl := udpB.ub_len sp dp pl (udpB.chkZ (psd s6 sh sl dh dl 17 (8 + (pl.length : Int)) ++ udpB.ub sp dp pl 0))
  rw [← hb] at hchk u1 u2 u3 u4 u5 hl
  have hsz : (bs.length : Int) = 8 + (pl.length : Int) := by omega
  have hE : udpE_ bs (psd s6 sh sl dh dl 17 (bs.length : Int)) (!v6) = 0 := by
    unfold udpE_
    rw [hsz, if_neg (by omega), if_neg (by omega), if_neg (by
      intro h
      rcases h with ⟨h, _⟩ | ⟨_, h⟩
      · exact c0 (u4 ▸ h)
      · exact h hchk)]
  unfold withP
  simp only
  rw [if_neg (by decide), if_pos trivial, hE, if_neg (by decide), u1, u2]
theorem tcp_parse (v6 s6 : Bool) (sh sl : Int) (d6 : Bool) (dh dl sp dp ttl fl sz : Int) (pl : List Int) (hp : 0 ≤ sp ∧ sp ≤ 65535 ∧ 0 ≤ dp ∧ dp ≤ 65535) (hf : 0 ≤ fl ∧ fl ≤ 255) (hn : pl.length ≤ 500) (hu : U8 pl) (bs : List Int)
    (hb : bs = tcpLn.tk sp dp 0 0 fl 1024 0 (65535 - fo (wsum (psd s6 sh sl dh dl 6 (20 + (pl.length : Int)) ++ tcpLn.tk sp dp 0 0 fl 1024 0 0 [] pl))) [] pl) :
    withP v6 ⟨6, s6, sh, sl, d6, dh, dl, 0, 0⟩ ttl sz bs = (⟨v6, ⟨6, s6, sh, sl, d6, dh, dl, sp, dp⟩, ttl, fl, false, zeroT, sz⟩, 0) := by
  have hps : U8 (psd s6 sh sl dh dl 6 (20 + (pl.length : Int))) := by
    unfold psd
    rw [if_neg (show ¬ (6 : Int) = 1 by decide)]
    split
    · exact psd6_u8 _ _ _ _ _ _
    · exact psd4_u8 _ _ _ _
  have he := psd_even s6 sh sl dh dl 6 (20 + (pl.length : Int)) (by decide)
  have hin : ∀ x ∈ psd s6 sh sl dh dl 6 (20 + (pl.length : Int)) ++ tcpLn.tk sp dp 0 0 fl 1024 0 0 [] pl, 0 ≤ x ∧ x ≤ 255 := fun x hx => (List.mem_append.1 hx).elim (hps x) (tcpNn.tk_in sp dp 0 0 fl 1024 0 0 [] pl hp.1 hp.2.1 hp.2.2.1 hp.2.2.2 (by omega) (by omega) (by omega) (by omega) hf.1 hf.2 (by omega) (by omega) (by omega) (by omega) (by omega) (by omega) (by simp) (fun x hx => by cases hx) hu x)
  have hchk := tcpLn.chk_right sp dp 0 0 fl 1024 0 [] pl _ rfl he hin
  obtain ⟨k1, k2, k3, _, _, k6, k7, k8, _, _, _, _⟩ := tcpLn.tk_says sp dp 0 0 fl 1024 0 (65535 - fo (wsum (psd s6 sh sl dh dl 6 (20 + (pl.length : Int)) ++ tcpLn.tk sp dp 0 0 fl 1024 0 0 [] pl))) [] pl rfl
  rw [← hb] at hchk k1 k2 k3 k6 k7 k8
  have k1' : bs.length = 20 + pl.length := by rw [k1]; rfl
  have hsz : (bs.length : Int) = 20 + (pl.length : Int) := by omega
  have k6' : bs.getD 12 0 / 16 * 4 = 20 := k6
  have hE : tcpE bs (psd s6 sh sl dh dl 6 (bs.length : Int)) = 0 := by
    unfold tcpE
    rw [hsz, if_neg (by omega), if_neg (by omega), if_neg (fun h => h hchk)]
  unfold withP
  simp only
  rw [if_pos trivial, hE, if_neg (by decide), k2, k3, k8]
end Go.Proofs.Ytndekicblbpkjaa.pktR
/- Layer 13: a packet whose bytes behind its header a closure makes. -/
namespace Go.Proofs.Ytndekicblbpkjaa.pktL2
open Go.ChangeShapes Go.WideShapes Go.ChangeAt Go.RowKit
open Go.Proofs.Ytndekicblbpkjaa.base Go.Proofs.Ytndekicblbpkjaa.rdrA Go.Proofs.Ytndekicblbpkjaa.rdrG Go.Proofs.Ytndekicblbpkjaa.sixM Go.Proofs.Ytndekicblbpkjaa.pktA Go.Proofs.Ytndekicblbpkjaa.pktB Go.Proofs.Ytndekicblbpkjaa.pktL
set_option linter.unusedVariables false

set_option maxHeartbeats 4000000 in
set_option maxRecDepth 100000 in
theorem whole_sg_bad (pr : Int) (s6 : Bool) (sh sl : Int) (d6 : Bool) (dh dl sp dp ttl sz : Int) (c1 c2 c3 : Nat) (ps bs : List Int) (e : Int) (he : e ≠ 0) (w : World)
    (HPS : Hid (∀ V, Below w.heap.size w V → Calls Try.prog 88 #[.agg #[.bool s6, .int .u64 sh, .int .u64 sl], .agg #[.bool d6, .int .u64 dh, .int .u64 dl], .int .i64 pr, .int .i64 sz] V (Gives ps V)))
    (HC : Hid (∀ V A2 n2 k2, Below w.heap.size w V → Sl V A2 n2 k2 ps → Calls Try.prog 66 #[.slice A2 n2 k2, .pointer (some ⟨c1, 0, none⟩), .pointer (some ⟨c2, 0, none⟩), .pointer (some ⟨c3, 0, none⟩)] V (MkP e bs V))) :
    Calls Try.prog 63 #[.agg #[.int .i64 pr, .bool s6, .int .u64 sh, .int .u64 sl, .bool d6, .int .u64 dh, .int .u64 dl, .int .i64 sp, .int .i64 dp], .int .i64 ttl, .int .i64 sz, .func (.func 66) #[] #[.pointer (some ⟨c1, 0, none⟩), .pointer (some ⟨c2, 0, none⟩), .pointer (some ⟨c3, 0, none⟩)]] w (MkP e [] w) := by
  have te : (e != 0) = true := by simpa using he
  clear he
  obtain ⟨w1, hw1⟩ : ∃ w1, w1 = w.alloc (.cells #[.int .i64 pr, .bool s6, .int .u64 sh, .int .u64 sl, .bool d6, .int .u64 dh, .int .u64 dl, .int .i64 sp, .int .i64 dp] 48) := ⟨_, rfl⟩
  have E1 := Lib.hid hw1
  have B1 := Lib.hid (show Below w.heap.size w w1 from by rw [hw1]; exact (Below.refl _ _).alloc (Nat.le_refl _) _)
  obtain ⟨g, hg⟩ : ∃ g, g = w.heap.size := ⟨_, rfl⟩
  have EG := Lib.hid hg
  have KP := Lib.hid (show Blk w1 g 48 #[.int .i64 pr, .bool s6, .int .u64 sh, .int .u64 sl, .bool d6, .int .u64 dh, .int .u64 dl, .int .i64 sp, .int .i64 dp] from by rw [hw1, hg]; exact Blk.new w _ _)
  clear hw1 hg
  go_enter Try.func63, Try.ntmps63
  go_upto_region 1 with fail
  rw [← E1.out, ← EG.out]
  have p0 := KP.out.cell 0
  have p1 := KP.out.cell 1
  have p2 := KP.out.cell 2
  have p3 := KP.out.cell 3
  have p4 := KP.out.cell 4
  have p5 := KP.out.cell 5
  have p6 := KP.out.cell 6
  go_wp2_with fail
  refine (HPS.out _ B1.out).mono ?_
  rintro o w2 ⟨hb2, A2, n2, k2, rfl, hsl, hge⟩
  have KP2 := Lib.hid (KP.out.below hb2 KP.out.lt)
  have B2 := Lib.hid (B1.out.trans (hb2.mono B1.out.size))
  have HC2 := Lib.hid (HC.out w2 A2 n2 k2 B2.out hsl)
  clear hb2 hsl hge p0 p1 p2 p3 p4 p5 p6
  go_wp2_with fail
  refine HC2.out.mono ?_
  rintro o w3 ⟨hb3, A3, n3, c3, rfl, hs3⟩
  have KP3 := Lib.hid (KP2.out.below hb3 KP2.out.lt)
  have B3 := Lib.hid (B2.out.trans (hb3.mono B2.out.size))
  clear hb3 hs3
  have p0 := KP3.out.cell 0
  have p1 := KP3.out.cell 1
  have p2 := KP3.out.cell 2
  have p3 := KP3.out.cell 3
  have p4 := KP3.out.cell 4
  have p5 := KP3.out.cell 5
  have p6 := KP3.out.cell 6
  go_wp2_with fail
  go_ret2
  exact MkP.nil_ B3.out
set_option maxHeartbeats 4000000 in
set_option maxRecDepth 100000 in
theorem whole_sg_four (pr : Int) (sh sl : Int) (d6 : Bool) (dh dl sp dp ttl sz : Int) (c1 c2 c3 : Nat) (ps bs : List Int) (e : Int) (out : List Int) (w : World)
    (HPS : Hid (∀ V, Below w.heap.size w V → Calls Try.prog 88 #[.agg #[.bool false, .int .u64 sh, .int .u64 sl], .agg #[.bool d6, .int .u64 dh, .int .u64 dl], .int .i64 pr, .int .i64 sz] V (Gives ps V)))
    (HC : Hid (∀ V A2 n2 k2, Below w.heap.size w V → Sl V A2 n2 k2 ps → Calls Try.prog 66 #[.slice A2 n2 k2, .pointer (some ⟨c1, 0, none⟩), .pointer (some ⟨c2, 0, none⟩), .pointer (some ⟨c3, 0, none⟩)] V (MkP 0 bs V)))
    (HB : Hid (∀ V A2 n2 k2, Below w.heap.size w V → Sl V A2 n2 k2 bs → Calls Try.prog 89 #[.agg #[.int .i64 0, .int .i64 0, .bool false, .bool false, .int .i64 0, .int .i64 ttl, .int .i64 pr, .bool false, .int .u64 sh, .int .u64 sl, .bool d6, .int .u64 dh, .int .u64 dl, .slice none 0 0], .slice A2 n2 k2] V (MkP e out V))) :
    Calls Try.prog 63 #[.agg #[.int .i64 pr, .bool false, .int .u64 sh, .int .u64 sl, .bool d6, .int .u64 dh, .int .u64 dl, .int .i64 sp, .int .i64 dp], .int .i64 ttl, .int .i64 sz, .func (.func 66) #[] #[.pointer (some ⟨c1, 0, none⟩), .pointer (some ⟨c2, 0, none⟩), .pointer (some ⟨c3, 0, none⟩)]] w (MkP e out w) := by
  obtain ⟨w1, hw1⟩ : ∃ w1, w1 = w.alloc (.cells #[.int .i64 pr, .bool false, .int .u64 sh, .int .u64 sl, .bool d6, .int .u64 dh, .int .u64 dl, .int .i64 sp, .int .i64 dp] 48) := ⟨_, rfl⟩
  have E1 := Lib.hid hw1
  have B1 := Lib.hid (show Below w.heap.size w w1 from by rw [hw1]; exact (Below.refl _ _).alloc (Nat.le_refl _) _)
  obtain ⟨g, hg⟩ : ∃ g, g = w.heap.size := ⟨_, rfl⟩
  have EG := Lib.hid hg
  have KP := Lib.hid (show Blk w1 g 48 #[.int .i64 pr, .bool false, .int .u64 sh, .int .u64 sl, .bool d6, .int .u64 dh, .int .u64 dl, .int .i64 sp, .int .i64 dp] from by rw [hw1, hg]; exact Blk.new w _ _)
  clear hw1 hg
  go_enter Try.func63, Try.ntmps63
  go_upto_region 1 with fail
  rw [← E1.out, ← EG.out]
  have p0 := KP.out.cell 0
  have p1 := KP.out.cell 1
  have p2 := KP.out.cell 2
  have p3 := KP.out.cell 3
  have p4 := KP.out.cell 4
  have p5 := KP.out.cell 5
  have p6 := KP.out.cell 6
  go_wp2_with fail
  refine (HPS.out _ B1.out).mono ?_
  rintro o w2 ⟨hb2, A2, n2, k2, rfl, hsl, hge⟩
  have KP2 := Lib.hid (KP.out.below hb2 KP.out.lt)
  have B2 := Lib.hid (B1.out.trans (hb2.mono B1.out.size))
  have HC2 := Lib.hid (HC.out w2 A2 n2 k2 B2.out hsl)
  clear hb2 hsl hge p0 p1 p2 p3 p4 p5 p6
  go_wp2_with fail
  refine HC2.out.mono ?_
  rintro o w3 ⟨hb3, A3, n3, c3, rfl, hs3⟩
  have KP3 := Lib.hid (KP2.out.below hb3 KP2.out.lt)
  have B3 := Lib.hid (B2.out.trans (hb3.mono B2.out.size))
  have HB3 := Lib.hid (HB.out w3 A3 n3 c3 B3.out hs3)
  clear hb3 hs3
  have p0 := KP3.out.cell 0
  have p1 := KP3.out.cell 1
  have p2 := KP3.out.cell 2
  have p3 := KP3.out.cell 3
  have p4 := KP3.out.cell 4
  have p5 := KP3.out.cell 5
  have p6 := KP3.out.cell 6
  go_wp2_with fail
  refine HB3.out.mono ?_
  rintro o w4 ⟨hb4, A4, n4, c4, rfl, hs4⟩
  have B4 := Lib.hid (B3.out.trans (hb4.mono B3.out.size))
  clear hb4
  go_wp2_with fail
  go_ret2
  exact ⟨B4.out, A4, n4, c4, rfl, hs4⟩
set_option maxHeartbeats 4000000 in
set_option maxRecDepth 100000 in
theorem whole_sg_six (pr : Int) (sh sl : Int) (d6 : Bool) (dh dl sp dp ttl sz : Int) (c1 c2 c3 : Nat) (ps bs : List Int) (e : Int) (out : List Int) (w : World)
    (HPS : Hid (∀ V, Below w.heap.size w V → Calls Try.prog 88 #[.agg #[.bool true, .int .u64 sh, .int .u64 sl], .agg #[.bool d6, .int .u64 dh, .int .u64 dl], .int .i64 pr, .int .i64 sz] V (Gives ps V)))
    (HC : Hid (∀ V A2 n2 k2, Below w.heap.size w V → Sl V A2 n2 k2 ps → Calls Try.prog 66 #[.slice A2 n2 k2, .pointer (some ⟨c1, 0, none⟩), .pointer (some ⟨c2, 0, none⟩), .pointer (some ⟨c3, 0, none⟩)] V (MkP 0 bs V)))
    (HB : Hid (∀ V A2 n2 k2, Below w.heap.size w V → Sl V A2 n2 k2 bs → Calls Try.prog 18 #[.agg #[.int .i64 0, .int .i64 0, .int .i64 ttl, .bool true, .int .u64 sh, .int .u64 sl, .bool d6, .int .u64 dh, .int .u64 dl, .slice none 0 0, .int .i64 pr], .slice A2 n2 k2] V (MkP e out V))) :
    Calls Try.prog 63 #[.agg #[.int .i64 pr, .bool true, .int .u64 sh, .int .u64 sl, .bool d6, .int .u64 dh, .int .u64 dl, .int .i64 sp, .int .i64 dp], .int .i64 ttl, .int .i64 sz, .func (.func 66) #[] #[.pointer (some ⟨c1, 0, none⟩), .pointer (some ⟨c2, 0, none⟩), .pointer (some ⟨c3, 0, none⟩)]] w (MkP e out w) := by
  obtain ⟨w1, hw1⟩ : ∃ w1, w1 = w.alloc (.cells #[.int .i64 pr, .bool true, .int .u64 sh, .int .u64 sl, .bool d6, .int .u64 dh, .int .u64 dl, .int .i64 sp, .int .i64 dp] 48) := ⟨_, rfl⟩
  have E1 := Lib.hid hw1
  have B1 := Lib.hid (show Below w.heap.size w w1 from by rw [hw1]; exact (Below.refl _ _).alloc (Nat.le_refl _) _)
  obtain ⟨g, hg⟩ : ∃ g, g = w.heap.size := ⟨_, rfl⟩
  have EG := Lib.hid hg
  have KP := Lib.hid (show Blk w1 g 48 #[.int .i64 pr, .bool true, .int .u64 sh, .int .u64 sl, .bool d6, .int .u64 dh, .int .u64 dl, .int .i64 sp, .int .i64 dp] from by rw [hw1, hg]; exact Blk.new w _ _)
  clear hw1 hg
  go_enter Try.func63, Try.ntmps63
  go_upto_region 1 with fail
  rw [← E1.out, ← EG.out]
  have p0 := KP.out.cell 0
  have p1 := KP.out.cell 1
  have p2 := KP.out.cell 2
  have p3 := KP.out.cell 3
  have p4 := KP.out.cell 4
  have p5 := KP.out.cell 5
  have p6 := KP.out.cell 6
  go_wp2_with fail
  refine (HPS.out _ B1.out).mono ?_
  rintro o w2 ⟨hb2, A2, n2, k2, rfl, hsl, hge⟩
  have KP2 := Lib.hid (KP.out.below hb2 KP.out.lt)
  have B2 := Lib.hid (B1.out.trans (hb2.mono B1.out.size))
  have HC2 := Lib.hid (HC.out w2 A2 n2 k2 B2.out hsl)
  clear hb2 hsl hge p0 p1 p2 p3 p4 p5 p6
  go_wp2_with fail
  refine HC2.out.mono ?_
  rintro o w3 ⟨hb3, A3, n3, c3, rfl, hs3⟩
  have KP3 := Lib.hid (KP2.out.below hb3 KP2.out.lt)
  have B3 := Lib.hid (B2.out.trans (hb3.mono B2.out.size))
  have HB3 := Lib.hid (HB.out w3 A3 n3 c3 B3.out hs3)
  clear hb3 hs3
  have p0 := KP3.out.cell 0
  have p1 := KP3.out.cell 1
  have p2 := KP3.out.cell 2
  have p3 := KP3.out.cell 3
  have p4 := KP3.out.cell 4
  have p5 := KP3.out.cell 5
  have p6 := KP3.out.cell 6
  go_wp2_with fail
  refine HB3.out.mono ?_
  rintro o w4 ⟨hb4, A4, n4, c4, rfl, hs4⟩
  have B4 := Lib.hid (B3.out.trans (hb4.mono B3.out.size))
  clear hb4
  go_wp2_with fail
  go_ret2
  exact ⟨B4.out, A4, n4, c4, rfl, hs4⟩
end Go.Proofs.Ytndekicblbpkjaa.pktL2
/- Layer 9: the law SixPuts. -/
namespace Go.Proofs.Ytndekicblbpkjaa.sixZn
open Go.ChangeShapes Go.WideShapes Go.ChangeAt Go.RowKit
open Go.Proofs.Ytndekicblbpkjaa.base Go.Proofs.Ytndekicblbpkjaa.rdrA Go.Proofs.Ytndekicblbpkjaa.rdrG Go.Proofs.Ytndekicblbpkjaa.sixM
set_option linter.unusedVariables false

set_option maxHeartbeats 2000000 in
set_option maxRecDepth 100000 in
theorem bytes_no (cls lab hop : Int) (s6 : Bool) (sh sl : Int) (d6 : Bool) (dh dl p : Int) (A : Option Addr) (n c : Nat) (rv : Value) (w : World)
    (HR : Hid (∀ V, Below w.heap.size w V → Calls Try.prog 19 #[.agg #[.int .i64 cls, .int .i64 lab, .int .i64 hop, .bool s6, .int .u64 sh, .int .u64 sl, .bool d6, .int .u64 dh, .int .u64 dl, .slice A n c, .int .i64 p]] V fun o w' => o = .returned (.bool false) ∧ Below V.heap.size V w')) :
    Calls Try.prog 18 #[.agg #[.int .i64 cls, .int .i64 lab, .int .i64 hop, .bool s6, .int .u64 sh, .int .u64 sl, .bool d6, .int .u64 dh, .int .u64 dl, .slice A n c, .int .i64 p], rv] w fun o w' => o = .returned (.tuple #[.slice none 0 0, .int .i64 1]) ∧ Below w.heap.size w w' := by
  obtain ⟨w1, hw1⟩ : ∃ w1, w1 = w.alloc (.cells #[.int .i64 cls, .int .i64 lab, .int .i64 hop, .bool s6, .int .u64 sh, .int .u64 sl, .bool d6, .int .u64 dh, .int .u64 dl, .slice A n c, .int .i64 p] 29) := ⟨_, rfl⟩
  have E1 := Lib.hid hw1
  have BA := Lib.hid (show Below w.heap.size w w1 from by rw [hw1]; exact (Below.refl _ _).alloc (Nat.le_refl _) _)
  have KB := Lib.hid (show Blk w1 w.heap.size 29 #[.int .i64 cls, .int .i64 lab, .int .i64 hop, .bool s6, .int .u64 sh, .int .u64 sl, .bool d6, .int .u64 dh, .int .u64 dl, .slice A n c, .int .i64 p] from by rw [hw1]; exact Blk.new w _ _)
  clear hw1
  go_enter Try.func18, Try.ntmps18
  go_upto_region 1 with fail
  rw [← E1.out]
  have x0 := KB.out.cell 0
  have x1 := KB.out.cell 1
  have x2 := KB.out.cell 2
  have x3 := KB.out.cell 3
  have x4 := KB.out.cell 4
  have x5 := KB.out.cell 5
  have x6 := KB.out.cell 6
  have x7 := KB.out.cell 7
  have x8 := KB.out.cell 8
  have x9 := KB.out.cell 9
  have x10 := KB.out.cell 10
  go_wp2_with fail
  refine (HR.out _ BA.out).mono ?_
  rintro o w2 ⟨rfl, hb2⟩
  have B2 := Lib.hid (BA.out.trans (hb2.mono BA.out.size))
  clear hb2 x0 x1 x2 x3 x4 x5 x6 x7 x8 x9 x10
  go_wp2_with fail
  go_ret2
  exact ⟨rfl, B2.out⟩
end Go.Proofs.Ytndekicblbpkjaa.sixZn
