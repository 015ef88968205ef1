/- 10 texts in one. -/
import Derived.Deep.RegionHeld3
import Derived.Test.YtndekicblbpkjaaPt01
import Derived.Test.YtndekicblbpkjaaPt04
import Derived.Test.YtndekicblbpkjaaPt05
import Derived.Test.YtndekicblbpkjaaPt06
import Derived.Test.YtndekicblbpkjaaPt15
import Derived.Test.YtndekicblbpkjaaPt23
import Derived.Test.YtndekicblbpkjaaPt24
import Derived.Test.YtndekicblbpkjaaPt26
import Derived.Test.YtndekicblbpkjaaPt27
/- Layer 8: what bytes that were put say. -/
namespace Go.Proofs.Ytndekicblbpkjaa.fourHn
open Go.ChangeShapes Go.WideShapes Go.ChangeAt Go.RowKit
open Go.Proofs.Ytndekicblbpkjaa.base Go.Proofs.Ytndekicblbpkjaa.sumA Go.Proofs.Ytndekicblbpkjaa.sumB Go.Proofs.Ytndekicblbpkjaa.octA Go.Proofs.Ytndekicblbpkjaa.rdrA Go.Proofs.Ytndekicblbpkjaa.udpA Go.Proofs.Ytndekicblbpkjaa.net Go.Proofs.Ytndekicblbpkjaa.fourA Go.Proofs.Ytndekicblbpkjaa.fourD
set_option linter.unusedVariables false

theorem wsum_hk (tos id fl ttl pr sl dl ck sz : Int) (os : List Int) (c0 : 0 ≤ ck) (c1 : ck ≤ 65535) : wsum (hk tos id fl ttl pr sl dl ck sz os) = wsum (hk tos id fl ttl pr sl dl 0 sz os) + ck := by
  unfold hk
  rw [wsum_app 10 _ os rfl, wsum_app 10 _ os rfl]
  simp only [wsum]
  omega
theorem hk_chk (tos id fl ttl pr sl dl sz : Int) (os : List Int) (hin : ∀ x ∈ hk tos id fl ttl pr sl dl 0 sz os, 0 ≤ x ∧ x ≤ 255) : fo (wsum (hk tos id fl ttl pr sl dl (65535 - fo (wsum (hk tos id fl ttl pr sl dl 0 sz os))) sz os)) = 65535 := by
  have s0 := (wsum_bd _ hin).1
  have b := fo_bd _ s0
  rw [wsum_hk _ _ _ _ _ _ _ _ _ _ (by omega) (by omega)]
  rcases fo_full _ s0 with h | h
  · exact h
  · rw [h]; simpa using h
theorem hk_says (tos id fl ttl pr sl dl ck sz : Int) (os t : List Int) (s : Nat) (hs : 20 + os.length = s) (h4 : s % 4 = 0) (h60 : s ≤ 60) (f0 : 0 ≤ fl) :
    (hk tos id fl ttl pr sl dl ck sz os ++ t).getD 0 0 / 16 = 4 ∧ hl (hk tos id fl ttl pr sl dl ck sz os ++ t) = (s : Int) ∧ w16 (hk tos id fl ttl pr sl dl ck sz os ++ t) 6 = fl ∧ w16 (hk tos id fl ttl pr sl dl ck sz os ++ t) 2 = sz ∧
      (hk tos id fl ttl pr sl dl ck sz os ++ t).take s = hk tos id fl ttl pr sl dl ck sz os ∧ (hk tos id fl ttl pr sl dl ck sz os ++ t).drop s = t ∧ (hk tos id fl ttl pr sl dl ck sz os).drop 20 = os := by
  have hlen : (hk tos id fl ttl pr sl dl ck sz os).length = s := by rw [hk_len, hs]
  refine ⟨?_, ?_, ?_, ?_, ?_, ?_, rfl⟩
  · show (64 + (20 + (os.length : Int)) / 4) / 16 = 4
    omega
  · show (64 + (20 + (os.length : Int)) / 4) % 16 * 4 = _
    omega
  · show fl / 256 * 256 + fl % 256 = fl
    omega
  · show sz / 256 * 256 + sz % 256 = sz
    omega
  · rw [List.take_append_of_le_length (by omega), List.take_of_length_le (by omega)]
  · rw [List.drop_append_of_le_length (by omega), List.drop_of_length_le (by omega), List.nil_append]
end Go.Proofs.Ytndekicblbpkjaa.fourHn
/- Layer 11: what bytes that were put say. -/
namespace Go.Proofs.Ytndekicblbpkjaa.udpJn
open Go.ChangeShapes Go.WideShapes Go.ChangeAt Go.RowKit
open Go.Proofs.Ytndekicblbpkjaa.sumA Go.Proofs.Ytndekicblbpkjaa.sumB Go.Proofs.Ytndekicblbpkjaa.octB Go.Proofs.Ytndekicblbpkjaa.rdrA Go.Proofs.Ytndekicblbpkjaa.udpA Go.Proofs.Ytndekicblbpkjaa.udpB Go.Proofs.Ytndekicblbpkjaa.net
set_option linter.unusedVariables false

theorem ub_all (sp dp : Int) (pl : List Int) (ck : Int) (h : ports sp dp) (hn : pl.length ≤ 65527) (c0 : 0 ≤ ck) (c1 : ck ≤ 65535) : ub sp dp pl ck = [sp / 256, sp % 256, dp / 256, dp % 256, ((8 + pl.length : Nat) : Int) / 256, ((8 + pl.length : Nat) : Int) % 256, ck / 256, ck % 256] ++ pl := by
  obtain ⟨h1, h2, h3, h4⟩ := h
  unfold ub
  simp only [allb, List.flatMap_cons, List.flatMap_nil]
  rw [pb_two sp h1 h2, pb_two dp h3 h4, pb_two _ (by omega) (by omega), pb_two ck c0 c1]
  rfl
theorem ub_says (sp dp : Int) (pl : List Int) (ck : Int) (h : ports sp dp) (hn : pl.length ≤ 65527) (c0 : 0 ≤ ck) (c1 : ck ≤ 65535) :
    w16 (ub sp dp pl ck) 0 = sp ∧ w16 (ub sp dp pl ck) 2 = dp ∧ w16 (ub sp dp pl ck) 4 = (ub sp dp pl ck).length ∧ w16 (ub sp dp pl ck) 6 = ck ∧ (ub sp dp pl ck).drop 8 = pl := by
  rw [ub_len]
  rw [ub_all sp dp pl ck h hn c0 c1]
  refine ⟨?_, ?_, ?_, ?_, rfl⟩
  · show sp / 256 * 256 + sp % 256 = sp; omega
  · show dp / 256 * 256 + dp % 256 = dp; omega
  · show ((8 + pl.length : Nat) : Int) / 256 * 256 + ((8 + pl.length : Nat) : Int) % 256 = _; omega
  · show ck / 256 * 256 + ck % 256 = ck; omega
theorem wsum_ub (sp dp : Int) (pl : List Int) (ck : Int) (h : ports sp dp) (hn : pl.length ≤ 65527) (c0 : 0 ≤ ck) (c1 : ck ≤ 65535) : wsum (ub sp dp pl ck) = wsum (ub sp dp pl 0) + ck := by
  rw [ub_all sp dp pl ck h hn c0 c1, ub_all sp dp pl 0 h hn (by omega) (by omega)]
  rw [wsum_app 4 _ pl rfl, wsum_app 4 _ pl rfl]
  simp only [wsum]
  omega
theorem fo_full (s : Int) (h : 0 ≤ s) : fo (s + (if 65535 - fo s = 0 then 65535 else 65535 - fo s)) = 65535 := by
  have a := fo_bd s h
  have b := fo_add (x := s) (t := if 65535 - fo s = 0 then 65535 else 65535 - fo s) h (by split <;> omega)
  rw [← b]
  split
  · rename_i h0
    rw [show fo s = 65535 by omega]
    rfl
  · rw [show fo s + (65535 - fo s) = 65535 by omega]
    rfl
theorem chk_right (sp dp : Int) (pl ps : List Int) (h : ports sp dp) (hn : pl.length ≤ 65527) (hp : ∀ x ∈ pl, 0 ≤ x ∧ x ≤ 255) (hq : ∀ x ∈ ps, 0 ≤ x ∧ x ≤ 255) (he : ps.length % 2 = 0) :
    fo (wsum (ps ++ ub sp dp pl (chkZ (ps ++ ub sp dp pl 0)))) = 65535 := by
  have hin : ∀ x ∈ ps ++ ub sp dp pl 0, 0 ≤ x ∧ x ≤ 255 := fun x hx => (List.mem_append.1 hx).elim (hq x) (ub_in sp dp pl 0 hp x)
  have c := chkZ_in _ hin
  have e : ps.length = 2 * (ps.length / 2) := by omega
  rw [wsum_app _ _ _ e, wsum_ub sp dp pl _ h hn c.1 c.2, ← Int.add_assoc, ← wsum_app _ _ _ e]
  exact fo_full _ (wsum_bd _ hin).1
theorem chk_pos (l : List Int) (hb : ∀ x ∈ l, 0 ≤ x ∧ x ≤ 255) : chkZ l ≠ 0 := by
  unfold chkZ
  split <;> omega
end Go.Proofs.Ytndekicblbpkjaa.udpJn
namespace Go.Proofs.Ytndekicblbpkjaa.tcpIn
end Go.Proofs.Ytndekicblbpkjaa.tcpIn
namespace Go.Proofs.Ytndekicblbpkjaa.sumI
end Go.Proofs.Ytndekicblbpkjaa.sumI
namespace Go.Proofs.Ytndekicblbpkjaa.tcpJn
end Go.Proofs.Ytndekicblbpkjaa.tcpJn
namespace Go.Proofs.Ytndekicblbpkjaa.tcpLn
end Go.Proofs.Ytndekicblbpkjaa.tcpLn
namespace Go.Proofs.Ytndekicblbpkjaa.tcpNn
end Go.Proofs.Ytndekicblbpkjaa.tcpNn
/- Layer 9: what is put, parsed again (plain words). -/
namespace Go.Proofs.Ytndekicblbpkjaa.sixY
open Go.ChangeShapes Go.WideShapes Go.ChangeAt Go.RowKit
open Go.Proofs.Ytndekicblbpkjaa.base Go.Proofs.Ytndekicblbpkjaa.octA Go.Proofs.Ytndekicblbpkjaa.octB Go.Proofs.Ytndekicblbpkjaa.octE Go.Proofs.Ytndekicblbpkjaa.rdrA Go.Proofs.Ytndekicblbpkjaa.rdrG Go.Proofs.Ytndekicblbpkjaa.tcpC Go.Proofs.Ytndekicblbpkjaa.sixW Go.Proofs.Ytndekicblbpkjaa.sixM Go.Proofs.Ytndekicblbpkjaa.snK Go.Proofs.Ytndekicblbpkjaa.sixE Go.Proofs.Ytndekicblbpkjaa.sixF Go.Proofs.Ytndekicblbpkjaa.sixH Go.Proofs.Ytndekicblbpkjaa.sixK Go.Proofs.Ytndekicblbpkjaa.sixQ Go.Proofs.Ytndekicblbpkjaa.sixT
set_option linter.unusedVariables false

theorem atN_pb8 (n : Int) (z : List Int) (h0 : 0 ≤ n) (h1 : n < 18446744073709551616) : atN (pb n 8 8 ++ z) 0 8 = n := by
  obtain ⟨x, rfl⟩ := Int.eq_ofNat_of_zero_le h0
  have e := atN_put [] 8 [(x : Int)] 0 x (by simp) rfl 8 (Nat.le_refl _)
  have e2 : allb 8 [(x : Int)] = pb (x : Int) 8 8 := by
    show pb (x : Int) 8 8 ++ [] = _
    rw [List.append_nil]
  rw [List.nil_append, e2] at e
  have e3 : atN (pb (x : Int) 8 8 ++ z) 0 8 = atN (pb (x : Int) 8 8) 0 8 := by
    have key : ∀ k, k ≤ 8 → atN (pb (x : Int) 8 8 ++ z) 0 k = atN (pb (x : Int) 8 8) 0 k := fun k => by
      induction k with
      | zero => intro _; rfl
      | succ k ih =>
        intro hk
        show atN _ 0 k * 256 + (pb (x : Int) 8 8 ++ z).getD (0 + k) 0 = atN _ 0 k * 256 + (pb (x : Int) 8 8).getD (0 + k) 0
        rw [ih (by omega), getD_app _ _ _ (by rw [pb_len]; omega)]
    exact key 8 (Nat.le_refl _)
  rw [e3]
  refine e.trans ?_
  have h9 : x < 18446744073709551616 := by omega
  show ((x / 1 % 18446744073709551616 : Nat) : Int) = _
  rw [Nat.div_one, Nat.mod_eq_of_lt h9]
theorem atN_pb16 (m n : Int) (z : List Int) (h0 : 0 ≤ n) (h1 : n < 18446744073709551616) : atN (pb m 8 8 ++ (pb n 8 8 ++ z)) 8 8 = n := by
  rw [atN_drop, List.drop_append_of_le_length (by rw [pb_len]; omega), List.drop_of_length_le (by rw [pb_len]; omega), List.nil_append]
  exact atN_pb8 n z h0 h1
theorem word_eq (cls lab : Int) (c0 : 0 ≤ cls) (c1 : cls ≤ 255) (l0 : 0 ≤ lab) (l1 : lab ≤ 1048575) (W : Int) (hW : W = ((96 + cls / 16) * 256 + (cls % 16 * 16 + lab / 65536)) * 65536 + (lab / 256 % 256 * 256 + lab % 256)) : W / 1048576 % 256 = cls ∧ W % 1048576 = lab := by
  have e : W = (96 * 16 + cls) * 1048576 + lab := by omega
  clear hW
  omega
theorem hd_back (h : Hs) (X : List XP) (p0 : Int) (N : Nat) (hN : N ≤ 65535) (z : List Int) (hR : RightH h X) (hsh : 0 ≤ h.sh ∧ h.sh < 18446744073709551616) (hsl : 0 ≤ h.sl ∧ h.sl < 18446744073709551616) (hdh : 0 ≤ h.dh ∧ h.dh < 18446744073709551616) (hdl : 0 ≤ h.dl ∧ h.dl < 18446744073709551616) :
    hdOf (hdB h p0 N ++ z) h.p = h ∧ (hdB h p0 N ++ z).getD 0 0 / 16 = 6 ∧ (hdB h p0 N ++ z).getD 6 0 = p0 ∧ sizeP (hdB h p0 N ++ z) = N ∧ (hdB h p0 N).length = 40 := by
  obtain ⟨cls, lab, hop, s6, sh, sl, d6, dh, dl, p⟩ := h
  obtain rfl : s6 = true := hR.s6
  obtain rfl : d6 = true := hR.d6
  have c0 : 0 ≤ cls := hR.c0
  have c1 : cls ≤ 255 := hR.c1
  have l0 : 0 ≤ lab := hR.l0
  have l1 : lab ≤ 1048575 := hR.l1
  have e : hdB ⟨cls, lab, hop, true, sh, sl, true, dh, dl, p⟩ p0 N ++ z = (96 + cls / 16) :: (cls % 16 * 16 + lab / 65536) :: (lab / 256 % 256) :: (lab % 256) :: ((N : Int) / 256 % 256) :: ((N : Int) % 256) :: p0 :: hop :: (pb sh 8 8 ++ (pb sl 8 8 ++ (pb dh 8 8 ++ (pb dl 8 8 ++ z)))) := by
    show (hd8 cls lab hop p0 N ++ (pb sh 8 8 ++ pb sl 8 8) ++ (pb dh 8 8 ++ pb dl 8 8)) ++ z = _
    simp only [hd8, List.append_assoc, List.cons_append, List.nil_append]
  have d8 : (hdB ⟨cls, lab, hop, true, sh, sl, true, dh, dl, p⟩ p0 N ++ z).drop 8 = pb sh 8 8 ++ (pb sl 8 8 ++ (pb dh 8 8 ++ (pb dl 8 8 ++ z))) := by rw [e]; rfl
  have d24 : (hdB ⟨cls, lab, hop, true, sh, sl, true, dh, dl, p⟩ p0 N ++ z).drop 24 = pb dh 8 8 ++ (pb dl 8 8 ++ z) := by
    rw [show 24 = 8 + 16 from rfl, ← List.drop_drop, d8]
    have ln : (pb sh 8 8 ++ pb sl 8 8).length = 16 := by rw [List.length_append, pb_len, pb_len]
    rw [← List.append_assoc, List.drop_append_of_le_length (by omega), List.drop_of_length_le (by omega), List.nil_append]
  have hw := word_eq cls lab c0 c1 l0 l1 _ rfl
  refine ⟨?_, ?_, ?_, ?_, ?_⟩
  · show Hs.mk (w32 (hdB _ p0 N ++ z) 0 / 1048576 % 256) (w32 (hdB _ p0 N ++ z) 0 % 1048576) ((hdB _ p0 N ++ z).getD 7 0) true (atN ((hdB _ p0 N ++ z).drop 8) 0 8) (atN ((hdB _ p0 N ++ z).drop 8) 8 8) true (atN ((hdB _ p0 N ++ z).drop 24) 0 8) (atN ((hdB _ p0 N ++ z).drop 24) 8 8) p = _
    have ew : w32 (hdB ⟨cls, lab, hop, true, sh, sl, true, dh, dl, p⟩ p0 N ++ z) 0 = ((96 + cls / 16) * 256 + (cls % 16 * 16 + lab / 65536)) * 65536 + (lab / 256 % 256 * 256 + lab % 256) := by rw [e]; rfl
    have e7 : (hdB ⟨cls, lab, hop, true, sh, sl, true, dh, dl, p⟩ p0 N ++ z).getD 7 0 = hop := by rw [e]; rfl
    rw [ew, hw.1, hw.2, e7, d8, d24, atN_pb8 sh _ hsh.1 hsh.2, atN_pb16 sh sl _ hsl.1 hsl.2, atN_pb8 dh _ hdh.1 hdh.2, atN_pb16 dh dl _ hdl.1 hdl.2]
  · rw [e]
    show (96 + cls / 16) / 16 = 6
    omega
  · rw [e]; rfl
  · unfold sizeP
    rw [e]
    show (256 * ((N : Int) / 256 % 256) + (N : Int) % 256).toNat = N
    omega
  · show (hd8 cls lab hop p0 N ++ (pb sh 8 8 ++ pb sl 8 8) ++ (pb dh 8 8 ++ pb dl 8 8)).length = 40
    simp only [List.length_append, pb_len, hd8, List.length_cons, List.length_nil]
theorem put_parse (h : Hs) (X : List XP) (r t : List Int) (hR : RightH h X) (hU : ∀ x ∈ X, U8 x.2) (hr : r.length ≤ 1000) (hsh : 0 ≤ h.sh ∧ h.sh < 18446744073709551616) (hsl : 0 ≤ h.sl ∧ h.sl < 18446744073709551616) (hdh : 0 ≤ h.dh ∧ h.dh < 18446744073709551616) (hdl : 0 ≤ h.dl ∧ h.dl < 18446744073709551616) :
    sixP (sixB h X r ++ t) = .inr (X, h.p, r) ∧ hdOf (sixB h X r ++ t) h.p = h ∧ sixQ (sixB h X r) = .inr (X, h.p, r) ∧ hdOf (sixB h X r) h.p = h ∧ (sixB h X r).getD 0 0 / 16 = 6 ∧ (sixB h X r ++ t).getD 0 0 / 16 = 6 ∧ (sixB h X r).length = 40 + extL X + r.length := by
  have hx := extL_le hR.e
  obtain ⟨a1, a2, a3, a4, a5⟩ := hd_back h X (nextK X h.p) (extL X + r.length) (by omega) ((extB X h.p ++ r) ++ t) hR hsh hsl hdh hdl
  obtain ⟨b1, b2, b3, b4, b5⟩ := hd_back h X (nextK X h.p) (extL X + r.length) (by omega) (extB X h.p ++ r) hR hsh hsl hdh hdl
  have ea : sixB h X r ++ t = hdB h (nextK X h.p) (extL X + r.length) ++ ((extB X h.p ++ r) ++ t) := by unfold sixB; rw [List.append_assoc]
  have eb : sixB h X r = hdB h (nextK X h.p) (extL X + r.length) ++ (extB X h.p ++ r) := rfl
  have ln : (extB X h.p ++ r).length = extL X + r.length := by rw [List.length_append, extB_len]
  have lb : (sixB h X r).length = 40 + extL X + r.length := by rw [eb, List.length_append, a5, ln]; omega
  have hc := chn_put X [] h.p r 9 (by rw [List.nil_append]; exact hR.e) hU hR.pn (by have := hR.e.most; omega)
  rw [List.nil_append] at hc
  have dr : (sixB h X r).drop 40 = extB X h.p ++ r := by rw [eb, List.drop_append_of_le_length (by omega), List.drop_of_length_le (by omega), List.nil_append]
  refine ⟨?_, by rw [ea]; exact a1, ?_, by rw [eb]; exact b1, by rw [eb]; exact b2, by rw [ea]; exact a2, lb⟩
  · have e4 : sizeP (sixB h X r ++ t) = extL X + r.length := by rw [ea]; exact a4
    have tk : (sixB h X r ++ t).take (40 + (extL X + r.length)) = sixB h X r := by
      rw [List.take_append_of_le_length (by omega), List.take_of_length_le (by omega)]
    unfold sixP
    rw [if_neg (by rw [List.length_append]; omega), if_neg (by rw [ea, a2]; decide), e4, if_neg (by rw [List.length_append]; omega), tk, dr, ea, a3, hc]
    rfl
  · unfold sixQ
    rw [if_neg (by omega), if_neg (by rw [eb, b2]; decide), dr, eb, b3, hc]
    rfl
end Go.Proofs.Ytndekicblbpkjaa.sixY
/- Layer 13: what is made, parsed: plain words. -/
namespace Go.Proofs.Ytndekicblbpkjaa.pktR
open Go.ChangeShapes Go.WideShapes Go.ChangeAt Go.RowKit
open Go.Proofs.Ytndekicblbpkjaa.octA Go.Proofs.Ytndekicblbpkjaa.rdrA Go.Proofs.Ytndekicblbpkjaa.rdrG Go.Proofs.Ytndekicblbpkjaa.sumA Go.Proofs.Ytndekicblbpkjaa.sumB Go.Proofs.Ytndekicblbpkjaa.sixW Go.Proofs.Ytndekicblbpkjaa.sixM Go.Proofs.Ytndekicblbpkjaa.pktA Go.Proofs.Ytndekicblbpkjaa.pktB Go.Proofs.Ytndekicblbpkjaa.pktC Go.Proofs.Ytndekicblbpkjaa.pktE Go.Proofs.Ytndekicblbpkjaa.sixE Go.Proofs.Ytndekicblbpkjaa.sixF Go.Proofs.Ytndekicblbpkjaa.pktG
set_option linter.unusedVariables false

def mkB4 (ttl pr sl dl : Int) (bl : List Int) : List Int := fourD.hk 0 0 0 ttl pr sl dl (65535 - fo (wsum (fourD.hk 0 0 0 ttl pr sl dl 0 (20 + ((0 : Nat) : Int) + (bl.length : Int)) []))) (20 + ((0 : Nat) : Int) + (bl.length : Int)) [] ++ bl
theorem mk4_len (ttl pr sl dl : Int) (bl : List Int) : (mkB4 ttl pr sl dl bl).length = 20 + bl.length := by
  unfold mkB4
  rw [List.length_append, fourD.hk_len]
  rfl
theorem mk4_drop (ttl pr sl dl : Int) (bl : List Int) : (mkB4 ttl pr sl dl bl).drop 20 = bl := by
  unfold mkB4
  rw [List.drop_append_of_le_length (by rw [fourD.hk_len]; simp), List.drop_of_length_le (by rw [fourD.hk_len]; simp), List.nil_append]
theorem mk4_parse (ttl pr sl dl : Int) (bl : List Int) (h1 : 0 ≤ ttl ∧ ttl ≤ 255) (h2 : 0 ≤ pr ∧ pr ≤ 255) (h3 : 0 ≤ sl ∧ sl ≤ 4294967295) (h4 : 0 ≤ dl ∧ dl ≤ 4294967295) (hb : bl.length ≤ 900) :
    pkP (mkB4 ttl pr sl dl bl) = withP false ⟨pr, false, 0, sl, false, 0, dl, 0, 0⟩ ttl (20 + (bl.length : Int)) bl := by
  have hln := mk4_len ttl pr sl dl bl
  have hin := fourD.hk_in 0 0 0 ttl pr sl dl 0 (20 + ((0 : Nat) : Int) + (bl.length : Int)) [] (by omega) (by omega) (by omega) h1 h2 h3 h4 (by omega) (by omega) (by simp) (fun x hx => by cases hx)
  have hck := fourHn.hk_chk 0 0 0 ttl pr sl dl (20 + ((0 : Nat) : Int) + (bl.length : Int)) [] hin
  obtain ⟨s1, s2, s3, s4, s5, s6, _⟩ := fourHn.hk_says 0 0 0 ttl pr sl dl (65535 - fo (wsum (fourD.hk 0 0 0 ttl pr sl dl 0 (20 + ((0 : Nat) : Int) + (bl.length : Int)) []))) (20 + ((0 : Nat) : Int) + (bl.length : Int)) [] bl 20 rfl rfl (by omega) (by omega)
  have e12 : tcpC.w32 (mkB4 ttl pr sl dl bl) 12 = sl := by
    show (sl / 65536 / 256 * 256 + sl / 65536 % 256) * 65536 + (sl % 65536 / 256 * 256 + sl % 65536 % 256) = _
    omega
  have e16 : tcpC.w32 (mkB4 ttl pr sl dl bl) 16 = dl := by
    show (dl / 65536 / 256 * 256 + dl / 65536 % 256) * 65536 + (dl % 65536 / 256 * 256 + dl % 65536 % 256) = _
    omega
  have e8 : (mkB4 ttl pr sl dl bl).getD 8 0 = ttl := rfl
  have e9 : (mkB4 ttl pr sl dl bl).getD 9 0 = pr := rfl
  rw [show fourD.hk 0 0 0 ttl pr sl dl (65535 - fo (wsum (fourD.hk 0 0 0 ttl pr sl dl 0 (20 + ((0 : Nat) : Int) + (bl.length : Int)) []))) (20 + ((0 : Nat) : Int) + (bl.length : Int)) [] ++ bl = mkB4 ttl pr sl dl bl from rfl] at s1 s2 s3 s4 s5 s6
  generalize mkB4 ttl pr sl dl bl = B at *
  have hS : fourS B = 20 := by unfold fourS; rw [s2]; rfl
  have hR : fourR B = bl := by
    unfold fourR
    rw [hS, s6, s4, List.take_of_length_le (by omega)]
  have hE : fourE B = 0 := by
    unfold fourE
    rw [if_neg (by omega), if_neg (by omega), if_neg (by omega), if_neg (by omega), if_neg (by omega), s2, show ((20 : Nat) : Int).toNat = 20 from rfl, s5, if_neg (by omega)]
  unfold pkP
  rw [if_neg (by omega), if_neg (by omega), if_pos s1]
  unfold p4
  rw [if_neg (by omega), s3, if_neg (by decide), e8, e9, e12, e16, hS, hR]
  rfl
def mkB6 (ttl pr sh sl dh dl : Int) (bl : List Int) : List Int := sixK.sixB ⟨0, 0, ttl, true, sh, sl, true, dh, dl, pr⟩ [] bl
theorem right6 (ttl pr sh sl dh dl : Int) (h1 : 0 ≤ ttl ∧ ttl ≤ 255) (h2 : 0 ≤ pr ∧ pr ≤ 255) (h3 : isX pr = false) : sixH.RightH ⟨0, 0, ttl, true, sh, sl, true, dh, dl, pr⟩ [] :=
  ⟨by show (0 : Int) ≤ 0; decide, by show (0 : Int) ≤ 255; decide, h1.1, h1.2, by show (0 : Int) ≤ 0; decide, by show (0 : Int) ≤ 1048575; decide, rfl, rfl, h2.1, h2.2, h3, ⟨by decide, fun i h => absurd h (Nat.not_lt_zero i), fun i h => absurd h (Nat.not_lt_zero i)⟩⟩
theorem mk6_parse (ttl pr sh sl dh dl : Int) (bl : List Int) (h1 : 0 ≤ ttl ∧ ttl ≤ 255) (h2 : 0 ≤ pr ∧ pr ≤ 255) (h3 : isX pr = false) (b1 : 0 ≤ sh ∧ sh < 18446744073709551616) (b2 : 0 ≤ sl ∧ sl < 18446744073709551616) (b3 : 0 ≤ dh ∧ dh < 18446744073709551616) (b4 : 0 ≤ dl ∧ dl < 18446744073709551616) (hb : bl.length ≤ 900) :
    pkP (mkB6 ttl pr sh sl dh dl bl) = withP true ⟨pr, true, sh, sl, true, dh, dl, 0, 0⟩ ttl (40 + (bl.length : Int)) bl ∧ (mkB6 ttl pr sh sl dh dl bl).length = 40 + bl.length := by
  obtain ⟨_, _, a3, a4, a5, a6, a7⟩ := sixY.put_parse ⟨0, 0, ttl, true, sh, sl, true, dh, dl, pr⟩ [] bl [] (right6 ttl pr sh sl dh dl h1 h2 h3) (fun x hx => by cases hx) (by omega) b1 b2 b3 b4
  obtain ⟨a1, a2, _⟩ := sixY.put_parse ⟨0, 0, ttl, true, sh, sl, true, dh, dl, pr⟩ [] bl [] (right6 ttl pr sh sl dh dl h1 h2 h3) (fun x hx => by cases hx) (by omega) b1 b2 b3 b4
  rw [List.append_nil] at a1 a2
  have hl : (sixK.sixB ⟨0, 0, ttl, true, sh, sl, true, dh, dl, pr⟩ [] bl).length = 40 + bl.length := by rw [a7]; rfl
  refine ⟨?_, hl⟩
  show pkP (sixK.sixB ⟨0, 0, ttl, true, sh, sl, true, dh, dl, pr⟩ [] bl) = _
  generalize sixK.sixB ⟨0, 0, ttl, true, sh, sl, true, dh, dl, pr⟩ [] bl = B at *
  have e7 : B.getD 7 0 = ttl := congrArg Hs.hop a2
  have a1' : sixP B = .inr ([], pr, bl) := a1
  have a2' : hdOf B pr = ⟨0, 0, ttl, true, sh, sl, true, dh, dl, pr⟩ := a2
  unfold pkP
  rw [if_neg (by omega), if_neg (by omega), if_neg (by omega), if_pos a5]
  unfold p6
  rw [a1']
  show (if lies [] / 8 ≠ 0 ∨ decide (lies [] % 2 = 1) = true then (zeroPk, 21) else withP true ⟨pr, true, (hdOf B pr).sh, (hdOf B pr).sl, true, (hdOf B pr).dh, (hdOf B pr).dl, 0, 0⟩ (B.getD 7 0) (((40 + extL [] : Nat) : Int) + (bl.length : Int)) bl) = _
  rw [if_neg (by decide), a2', e7]
  rfl
theorem mk6_drop (ttl pr sh sl dh dl : Int) (bl : List Int) : (mkB6 ttl pr sh sl dh dl bl).drop 40 = bl := by
  show (sixK.hdB ⟨0, 0, ttl, true, sh, sl, true, dh, dl, pr⟩ _ _ ++ ([] ++ bl)).drop 40 = bl
  have hl : ∀ p n, (sixK.hdB ⟨0, 0, ttl, true, sh, sl, true, dh, dl, pr⟩ p n).length = 40 := fun p n => by
    unfold sixK.hdB
    simp only [List.length_append, pb_len, sixK.hd8, List.length_cons, List.length_nil]
  rw [List.drop_append_of_le_length (by rw [hl]; omega), List.drop_of_length_le (by rw [hl]; omega)]
  rfl
theorem psd_even (s6 : Bool) (sh sl dh dl pr sz : Int) (h : pr ≠ 1) : (psd s6 sh sl dh dl pr sz).length % 2 = 0 := by
  unfold psd
  rw [if_neg h]
  split
  · rw [psd6_len]
  · rw [psd4_len]
theorem udp_parse (v6 s6 : Bool) (sh sl : Int) (d6 : Bool) (dh dl sp dp ttl sz : Int) (pl : List Int) (hp : 0 ≤ sp ∧ sp ≤ 65535 ∧ 0 ≤ dp ∧ dp ≤ 65535) (hn : pl.length ≤ 800) (hu : U8 pl) (bs : List Int)
    (hb : bs = udpB.ub sp dp pl (udpB.chkZ (psd s6 sh sl dh dl 17 (8 + (pl.length : Int)) ++ udpB.ub sp dp pl 0))) :
    withP v6 ⟨17, s6, sh, sl, d6, dh, dl, 0, 0⟩ ttl sz bs = (⟨v6, ⟨17, s6, sh, sl, d6, dh, dl, sp, dp⟩, ttl, 0, false, zeroT, sz⟩, 0) := by
  have hps : U8 (psd s6 sh sl dh dl 17 (8 + (pl.length : Int))) := by
    unfold psd
    rw [if_neg (show ¬ (17 : Int) = 1 by decide)]
    split
    · exact psd6_u8 _ _ _ _ _ _
    · exact psd4_u8 _ _ _ _
  have he := psd_even s6 sh sl dh dl 17 (8 + (pl.length : Int)) (by decide)
  have hin : ∀ x ∈ psd s6 sh sl dh dl 17 (8 + (pl.length : Int)) ++ udpB.ub sp dp pl 0, 0 ≤ x ∧ x ≤ 255 := fun x hx => (List.mem_append.1 hx).elim (hps x) (udpB.ub_in sp dp pl 0 hu x)
  have c := udpB.chkZ_in _ hin
  have c0 := udpJn.chk_pos _ hin
  have hchk := udpJn.chk_right sp dp pl _ hp (by omega) hu hps he
  obtain ⟨u1, u2, u3, u4, u5⟩ := udpJn.ub_says sp dp pl _ hp (by omega) c.1 c.2
  have hl := udpB.ub_len sp dp pl (udpB.chkZ (psd s6 sh sl dh dl 17 (8 + (pl.length : Int)) ++ udpB.ub sp dp pl 0))
  rw [← hb] at hchk u1 u2 u3 u4 u5 hl
  have hsz : (bs.length : Int) = 8 + (pl.length : Int) := by omega
  have hE : udpE_ bs (psd s6 sh sl dh dl 17 (bs.length : Int)) (!v6) = 0 := by
    unfold udpE_
    rw [hsz, if_neg (by omega), if_neg (by omega), if_neg (by
      intro h
      rcases h with ⟨h, _⟩ | ⟨_, h⟩
      · exact c0 (u4 ▸ h)
      · exact h hchk)]
  unfold withP
  simp only
  rw [if_neg (by decide), if_pos trivial, hE, if_neg (by decide), u1, u2]
end Go.Proofs.Ytndekicblbpkjaa.pktR
/- Layer 12: a message as bytes. -/
namespace Go.Proofs.Ytndekicblbpkjaa.icmpEn
open Go.ChangeShapes Go.WideShapes Go.ChangeAt Go.RowKit
open Go.Proofs.Ytndekicblbpkjaa.base Go.Proofs.Ytndekicblbpkjaa.sumA Go.Proofs.Ytndekicblbpkjaa.sumB Go.Proofs.Ytndekicblbpkjaa.octA Go.Proofs.Ytndekicblbpkjaa.octB Go.Proofs.Ytndekicblbpkjaa.octF Go.Proofs.Ytndekicblbpkjaa.octK Go.Proofs.Ytndekicblbpkjaa.rdrA Go.Proofs.Ytndekicblbpkjaa.udpA Go.Proofs.Ytndekicblbpkjaa.tcpC Go.Proofs.Ytndekicblbpkjaa.net
set_option linter.unusedVariables false

def okM (ty co : Int) : Prop := (0 ≤ ty ∧ ty ≤ 255) ∧ 0 ≤ co ∧ co ≤ 255
def mk (ty co wd ck : Int) (pl : List Int) : List Int := [ty, co, ck / 256, ck % 256, wd / 65536 / 256, wd / 65536 % 256, wd % 65536 / 256, wd % 65536 % 256] ++ pl
theorem mk_len (ty co wd ck : Int) (pl : List Int) : (mk ty co wd ck pl).length = 8 + pl.length := by simp [mk]; omega
theorem mk_in (ty co wd ck : Int) (pl : List Int) (h : okM ty co) (w0 : 0 ≤ wd) (w1 : wd ≤ 4294967295) (c0 : 0 ≤ ck) (c1 : ck ≤ 65535) (hp : ∀ x ∈ pl, 0 ≤ x ∧ x ≤ 255) : ∀ x ∈ mk ty co wd ck pl, 0 ≤ x ∧ x ≤ 255 := by
  obtain ⟨⟨a, b⟩, c, d⟩ := h
  intro x hx
  unfold mk at hx
  rw [List.mem_append] at hx
  rcases hx with hx | hx
  · simp only [List.mem_cons, List.not_mem_nil, or_false] at hx
    rcases hx with rfl | rfl | rfl | rfl | rfl | rfl | rfl | rfl <;> omega
  · exact hp x hx
theorem mk_put (ty co wd : Int) (pl : List Int) (h : okM ty co) (w0 : 0 ≤ wd) (w1 : wd ≤ 4294967295) : allb 1 [ty, co] ++ pb 0 2 2 ++ pb wd 4 4 ++ pl = mk ty co wd 0 pl := by
  obtain ⟨⟨a, b⟩, c, d⟩ := h
  simp only [allb, List.flatMap_cons, List.flatMap_nil]
  rw [Go.Proofs.Ytndekicblbpkjaa.net.pb_one ty a b, Go.Proofs.Ytndekicblbpkjaa.net.pb_one co c d, Go.Proofs.Ytndekicblbpkjaa.net.pb_two 0 (by omega) (by omega), Go.Proofs.Ytndekicblbpkjaa.net.pb_four wd w0 w1]
  rfl
theorem mk_splice (ty co wd ck : Int) (pl : List Int) (c0 : 0 ≤ ck) (c1 : ck ≤ 65535) : splice (mk ty co wd 0 pl) 2 (pb ck 2 2) = mk ty co wd ck pl := by
  rw [Go.Proofs.Ytndekicblbpkjaa.net.pb_two ck c0 c1]
  rfl
theorem wsum_mk (ty co wd ck : Int) (pl : List Int) (c0 : 0 ≤ ck) (c1 : ck ≤ 65535) : wsum (mk ty co wd ck pl) = wsum (mk ty co wd 0 pl) + ck := by
  unfold mk
  rw [Go.Proofs.Ytndekicblbpkjaa.net.wsum_app 4 _ pl rfl, Go.Proofs.Ytndekicblbpkjaa.net.wsum_app 4 _ pl rfl]
  simp only [wsum]
  omega
theorem chk_right (ty co wd : Int) (pl ps : List Int) (he : ps.length % 2 = 0) (hin : ∀ x ∈ ps ++ mk ty co wd 0 pl, 0 ≤ x ∧ x ≤ 255) :
    fo (wsum (ps ++ mk ty co wd (65535 - fo (wsum (ps ++ mk ty co wd 0 pl))) pl)) = 65535 := by
  have s0 := (wsum_bd _ hin).1
  have b := fo_bd _ s0
  have e : ps.length = 2 * (ps.length / 2) := by omega
  rw [Go.Proofs.Ytndekicblbpkjaa.net.wsum_app _ _ _ e, wsum_mk ty co wd _ pl (by omega) (by omega), ← Int.add_assoc, ← Go.Proofs.Ytndekicblbpkjaa.net.wsum_app _ _ _ e]
  rcases Go.Proofs.Ytndekicblbpkjaa.net.fo_full _ s0 with h | h
  · exact h
  · rw [h]; simpa using h
theorem right_yes (ty co wd : Int) (A : Option Addr) (n c : Nat) (w : World) (h : okM ty co) :
    Calls Try.prog 95 #[.agg #[.int .i64 ty, .int .i64 co, .int .u32 wd, .slice A n c]] w fun e w' => e = .returned (.bool true) ∧ Below w.heap.size w w' := by
  obtain ⟨⟨a, b⟩, c', d⟩ := h
  go_enter Try.func95, Try.ntmps95
  go_wp2
  go_ret
  exact ⟨rfl, (Below.refl _ _).alloc (Nat.le_refl _) _⟩
def BPost (w : World) (l : List Int) (e : Ending) (w' : World) : Prop :=
  ∃ v, e = .returned (.tuple #[v, .int .i64 0]) ∧ w'.ownsRow w.heap.size 5 1 v l.length (l.map (.int .u8)) ∧ Below w.heap.size w w'
set_option maxRecDepth 100000 in
set_option maxHeartbeats 4000000 in
theorem bytes_any (ty co wd : Int) (A A2 : Option Addr) (n c n2 c2 : Nat) (pl ps : List Int) (w : World) (h : okM ty co) (w0 : 0 ≤ wd) (w1 : wd ≤ 4294967295)
    (hl : pl.length = n) (hn : n ≤ 900) (hr : Row w w.heap.size A (pl.map (.int .u8))) (hz : A = none → c = 0) (hx : ∀ x ∈ pl, 0 ≤ x ∧ x ≤ 255)
    (pll : ps.length = n2) (pn : n2 ≤ 1000) (pr : Row w w.heap.size A2 (ps.map (.int .u8))) (px : ∀ x ∈ ps, 0 ≤ x ∧ x ≤ 255) :
    Calls Try.prog 69 #[.agg #[.int .i64 ty, .int .i64 co, .int .u32 wd, .slice A n c], .slice A2 n2 c2] w (BPost w (mk ty co wd (65535 - fo (wsum (ps ++ mk ty co wd 0 pl))) pl)) := by
  have HOK := Lib.hid h
  have HRT := Lib.hid (right_yes ty co wd A n c (w.alloc (.cells #[.int .i64 ty, .int .i64 co, .int .u32 wd, .slice A n c] 46)) h)
  have HSZ := Lib.hid (show (w.alloc (.cells #[.int .i64 ty, .int .i64 co, .int .u32 wd, .slice A n c] 46)).heap.size = w.heap.size + 1 by simp)
  have HB0 := Lib.hid (show Below w.heap.size w (w.alloc (.cells #[.int .i64 ty, .int .i64 co, .int .u32 wd, .slice A n c] 46)) from (Below.refl _ _).alloc (Nat.le_refl _) _)
  have BOX := Lib.hid (Blk.new w 46 #[.int .i64 ty, .int .i64 co, .int .u32 wd, .slice A n c])
  have HR := Lib.hid hr
  have HZ := Lib.hid hz
  have HX := Lib.hid hx
  have HL := Lib.hid hl
  have PR := Lib.hid pr
  have PX := Lib.hid px
  have PL := Lib.hid pll
  have ONE := Lib.hid (show ∀ l : List Int, ∀ u ∈ l.map (Value.int .u8), u.oneCell' = true from by
    intro l u hu
    rw [List.mem_map] at hu
    obtain ⟨x, _, rfl⟩ := hu
    rfl)
  obtain ⟨i0, hi0, hz0, hz1, hz2⟩ := info_parts info_u8
  have HI0 := Lib.hid hi0
  have HZ0 := Lib.hid hz0
  have HZ1 := Lib.hid hz1
  have HZ2 := Lib.hid hz2
  have HPUT := Lib.hid (mk_put ty co wd pl h w0 w1)
  have HU0 := Lib.hid (mk_in ty co wd 0 pl h w0 w1 (by omega) (by omega) hx)
  have HLEN := Lib.hid (show (mk ty co wd 0 pl).length = 8 + n by rw [mk_len, hl])
  have hfin : ∀ x ∈ ps ++ mk ty co wd 0 pl, 0 ≤ x ∧ x ≤ 255 := fun x hx => (List.mem_append.1 hx).elim (px x) (HU0.out x)
  have HFB := Lib.hid (fo_bd _ (wsum_bd _ hfin).1)
  have HSP := Lib.hid (mk_splice ty co wd (65535 - fo (wsum (ps ++ mk ty co wd 0 pl))) pl (by have := HFB.out; omega) (by have := HFB.out; omega))
  have HLN2 := Lib.hid (show (mk ty co wd (65535 - fo (wsum (ps ++ mk ty co wd 0 pl))) pl).length = 8 + n by rw [mk_len, hl])
  obtain ⟨⟨a, b⟩, c', d'⟩ := h
  have HU := Lib.hid (show IntKind.u64.wrap ty = ty ∧ IntKind.u64.wrap co = co ∧ IntKind.u64.wrap wd = wd by refine ⟨?_, ?_, ?_⟩ <;> (rw [IntKind.wrap_u64]; omega))
  have HQ := Lib.hid (show (0 ≤ ty ∧ ty < 18446744073709551616) ∧ (0 ≤ co ∧ co < 18446744073709551616) ∧ (0 ≤ wd ∧ wd < 18446744073709551616) by omega)
  have HS1 := Lib.hid (show hs 1 = 1 by decide)
  have HS2 := Lib.hid (show hs 2 = 2 by decide)
  have HS4 := Lib.hid (show hs 4 = 4 by decide)
  clear hr hz hx hl pr px pll hi0 hz0 hz1 hz2 hfin
  go_enter Try.func69, Try.ntmps69
  go_wp2_with fail
  refine HRT.out.mono ?_
  rintro e w1 ⟨rfl, hb⟩
  rw [HSZ.out] at hb
  have HB1 := Lib.hid hb
  clear hb
  have HV1 := Lib.hid (HB1.out.alloc (Nat.le_trans (Nat.le_of_eq HSZ.out.symm) HB1.out.size) (.cells #[.int .u64 ty, .int .u64 co] 24))
  have HW1 := Lib.hid (show (w1.alloc (.cells #[.int .u64 ty, .int .u64 co] 24)).ownsRow (w.heap.size + 1) 5 1 (.slice none 0 0) 0 [] from World.ownsRow_nil _ _ _ _)
  have hal1 := all_keep w1.heap.size #[.int .u64 ty, .int .u64 co] (.slice none 0 0) 0 [] 1 2 2 ([ty, co] : List Int) (w.heap.size + 1) (w.heap.size + 1) (w.alloc (.cells #[.int .i64 ty, .int .i64 co, .int .u32 wd, .slice A n c] 46)) (w1.alloc (.cells #[.int .u64 ty, .int .u64 co] 24)) HW1.out (Nat.le_trans (Nat.le_of_eq HSZ.out.symm) HV1.out.size) (by omega) HV1.out (Nat.le_refl _) rfl (Blk.new w1 24 #[.int .u64 ty, .int .u64 co]) rfl (by
    intro x hx
    simp only [List.mem_cons, List.not_mem_nil, or_false] at hx
    rcases hx with rfl | rfl <;> first | exact HQ.out.1 | exact HQ.out.2.1)
  rw [HS1.out] at hal1
  have HAL1 := Lib.hid hal1
  clear hal1 HV1 HW1
  have o0 : w1.cell? ⟨w.heap.size, 0, none⟩ = some (.int .i64 ty) := (HB1.out.cell (p := ⟨w.heap.size, 0, none⟩) (Nat.lt_succ_self _)).trans (BOX.out.cell 0)
  have o1 : w1.cell? ⟨w.heap.size, 1, none⟩ = some (.int .i64 co) := (HB1.out.cell (p := ⟨w.heap.size, 1, none⟩) (Nat.lt_succ_self _)).trans (BOX.out.cell 1)
  have u0 := HU.out.1
  have u1 := HU.out.2.1
  go_wp2_with fail
  clear u0 u1 o0 o1
  refine HAL1.out.mono ?_
  rintro e w2 ⟨v1, rfl, hown, hbel, hbs, _⟩
  have HP2 := Lib.hid (put_any v1 (0 + 1 * 2) _ 0 2 (w.heap.size + 1) (w.heap.size + 1) (w.alloc (.cells #[.int .i64 ty, .int .i64 co, .int .u32 wd, .slice A n c] 46)) w2 hown hbs (by omega) hbel (Nat.le_refl _) (by omega) (by omega))
  clear hown hbel hbs HAL1
  have hp2 := HP2.out
  rw [HS2.out] at hp2
  go_wp2_with fail
  refine hp2.mono ?_
  clear hp2 HP2
  rintro e w3 ⟨v2, rfl, hown, hbel, hbs⟩
  have hp3 := put_any v2 (0 + 1 * 2 + 2) _ wd 4 (w.heap.size + 1) (w.heap.size + 1) (w.alloc (.cells #[.int .i64 ty, .int .i64 co, .int .u32 wd, .slice A n c] 46)) w3 hown hbs (by omega) hbel (Nat.le_refl _) HQ.out.2.2.1 HQ.out.2.2.2
  rw [HS4.out] at hp3
  have HP3 := Lib.hid hp3
  have HBX := Lib.hid hbel
  clear hown hbel hbs hp3
  have o2 : w3.cell? ⟨w.heap.size, 2, none⟩ = some (.int .u32 wd) := (HBX.out.cell (p := ⟨w.heap.size, 2, none⟩) (Nat.lt_succ_self _)).trans (BOX.out.cell 2)
  have u2 := HU.out.2.2
  go_wp2_with fail
  clear u2 o2 HBX
  refine HP3.out.mono ?_
  clear HP3
  rintro e w4 ⟨v3, rfl, hown, hbel, hbs⟩
  have HO4 := Lib.hid hown
  have HB4 := Lib.hid hbel
  have SZ4 := Lib.hid hbs
  clear hown hbel hbs
  have o3 : w4.cell? ⟨w.heap.size, 3, none⟩ = some (.slice A n c) := (HB4.out.cell (p := ⟨w.heap.size, 3, none⟩) (Nat.lt_succ_self _)).trans (BOX.out.cell 3)
  have P1 := Lib.hid (show (0 + 1 * 2 + 2 + 4) + n ≤ maxLen by unfold maxLen; omega)
  have Q1 := Lib.hid (show ((0 + 1 * 2 + 2 + 4) + n) * 1 ≤ 140737488355328 by omega)
  have RO := Lib.hid (HR.out.below (HB0.out.trans (HB4.out.mono (Nat.le_succ _))))
  have EH := Lib.hid (show ((([] ++ (allb 1 [ty, co]).map (Value.int .u8)) ++ (pb 0 2 2).map (Value.int .u8)) ++ (pb wd 4 4).map (Value.int .u8)) ++ pl.map (Value.int .u8) = (mk ty co wd 0 pl).map (Value.int .u8) by rw [← HPUT.out]; simp only [List.map_append, List.nil_append])
  obtain ⟨N0, hN0⟩ : ∃ N0, N0 = 8 + n := ⟨_, rfl⟩
  have EM := Lib.hid (show (0 + 1 * 2 + 2 + 4) + n = N0 by omega)
  have HN0 := Lib.hid hN0
  have N8 : 8 ≤ N0 := by omega
  have N9 : N0 ≤ 908 := by omega
  clear hN0
  go_wp2_with (at_builtin; refine wpList_append_row rfl (.tmp 25) (.tmp 27) _ rfl (w.heap.size + 1) 5 i0 _ 1 Try.underlying22 HI0.out HZ0.out HZ1.out HZ2.out rfl v3 (0 + 1 * 2 + 2 + 4) ((([] ++ (allb 1 [ty, co]).map (Value.int .u8)) ++ (pb 0 2 2).map (Value.int .u8)) ++ (pb wd 4 4).map (Value.int .u8)) rfl HO4.out A n c w.heap.size (pl.map (.int .u8)) rfl HZ.out (by rw [List.length_map]; exact HL.out) RO.out (ONE.out _) P1.out Q1.out SZ4.out ?_; intro va wa owna ga; rw [EH.out, EM.out] at owna; obtain ⟨Aa, ca, rfl⟩ := own_slice owna; have HOa := Lib.hid owna; have HBa := Lib.hid (below_grown HB4.out HO4.out (Nat.le_refl _) SZ4.out ga); clear owna ga)
  have hoa := HOa.out
  have hza := own_none hoa
  have HBW := Lib.hid (HB0.out.trans (HBa.out.mono (Nat.le_succ _)))
  have hth := two (w := wa) (W := wa) (c1 := c2) (c2 := ca) PL.out (show (mk ty co wd 0 pl).length = N0 by rw [HLEN.out, HN0.out]) ((PR.out.below HBW.out).more HBW.out.size) (own_row hoa) PX.out HU0.out (Below.refl _ _) 22
  have efl : flat [⟨A2, c2, ps⟩, ⟨Aa, ca, mk ty co wd 0 pl⟩] = ps ++ mk ty co wd 0 pl := by simp [flat]
  have hck := Go.Proofs.Ytndekicblbpkjaa.sumC.check_any (some ⟨wa.heap.size, 0, none⟩) 2 2 _ (wa.alloc (.cells #[.slice A2 n2 c2, .slice Aa N0 ca] 22)) (wa.heap.size + 1) rfl (by omega) (by rw [efl, List.length_append, PL.out, HLEN.out]; omega) hth.1 hth.2
  rw [efl] at hck
  have HCK := Lib.hid hck
  have HBX := Lib.hid (HBW.out.alloc HBW.out.size (.cells #[.slice A2 n2 c2, .slice Aa N0 ca] 22))
  have HRX := Lib.hid (own_row (hoa.alloc (.cells #[.slice A2 n2 c2, .slice Aa N0 ca] 22)))
  have HZA := Lib.hid hza
  clear hth efl hck hza hoa o3 SZ4 P1 Q1 RO
  refine HCK.out.mono ?_
  rintro e wk ⟨rfl, rfl⟩
  have HSET := Lib.hid (set_yes Aa N0 ca (mk ty co wd 0 pl) 2 2 (65535 - fo (wsum (ps ++ mk ty co wd 0 pl))) (wa.alloc (.cells #[.slice A2 n2 c2, .slice Aa N0 ca] 22)) (by rw [HLEN.out, HN0.out]) (by omega) HZA.out HRX.out (by omega) (by omega) (by have := HFB.out; omega) (by have := HFB.out; omega))
  have HFC := Lib.hid (show IntKind.u64.wrap (65535 - fo (wsum (ps ++ mk ty co wd 0 pl))) = (65535 - fo (wsum (ps ++ mk ty co wd 0 pl))) by have := HFB.out; rw [IntKind.wrap_u64]; omega)
  generalize hckk : (65535 - fo (wsum (ps ++ mk ty co wd 0 pl))) = ck at *
  have HCKK := Lib.hid hckk
  clear hckk
  generalize mk ty co wd 0 pl = H at *
  have hfc := HFC.out
  generalize wa.alloc (.cells #[.slice A2 n2 c2, .slice Aa N0 ca] 22) = X at *
  go_wp2_with fail
  clear hfc
  refine HSET.out.mono ?_
  rintro e w9 ⟨vs, rfl, hown, hbel, hsz⟩
  rw [HSP.out] at hown
  rw [HN0.out, ← HLN2.out] at hown
  have HOF := Lib.hid (own_base hown HBX.out.size)
  have HBF := Lib.hid (HBX.out.trans (hbel.mono HBX.out.size))
  clear hown hbel hsz
  go_wp2_with fail
  go_ret2
  exact ⟨_, rfl, HOF.out, HBF.out⟩
end Go.Proofs.Ytndekicblbpkjaa.icmpEn
