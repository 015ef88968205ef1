/- Layer 9: what is put, parsed again (plain words). -/
import Derived.Test.YtndekicblbpkjaaSixT
import Derived.Test.YtndekicblbpkjaaOctE
namespace Go.Proofs.Ytndekicblbpkjaa.sixY
open Go.ChangeShapes Go.WideShapes Go.ChangeAt Go.RowKit
open Go.Proofs.Ytndekicblbpkjaa.base Go.Proofs.Ytndekicblbpkjaa.octA Go.Proofs.Ytndekicblbpkjaa.octB Go.Proofs.Ytndekicblbpkjaa.octC Go.Proofs.Ytndekicblbpkjaa.octE Go.Proofs.Ytndekicblbpkjaa.octF Go.Proofs.Ytndekicblbpkjaa.octK Go.Proofs.Ytndekicblbpkjaa.net Go.Proofs.Ytndekicblbpkjaa.rdrA Go.Proofs.Ytndekicblbpkjaa.rdrG Go.Proofs.Ytndekicblbpkjaa.sumA Go.Proofs.Ytndekicblbpkjaa.sumB Go.Proofs.Ytndekicblbpkjaa.udpA Go.Proofs.Ytndekicblbpkjaa.tcpC Go.Proofs.Ytndekicblbpkjaa.sixW Go.Proofs.Ytndekicblbpkjaa.sixM Go.Proofs.Ytndekicblbpkjaa.snK Go.Proofs.Ytndekicblbpkjaa.sixA Go.Proofs.Ytndekicblbpkjaa.sixB Go.Proofs.Ytndekicblbpkjaa.sixC Go.Proofs.Ytndekicblbpkjaa.sixD Go.Proofs.Ytndekicblbpkjaa.sixE Go.Proofs.Ytndekicblbpkjaa.sixF Go.Proofs.Ytndekicblbpkjaa.sixG Go.Proofs.Ytndekicblbpkjaa.sixH Go.Proofs.Ytndekicblbpkjaa.sixI Go.Proofs.Ytndekicblbpkjaa.sixK Go.Proofs.Ytndekicblbpkjaa.sixL Go.Proofs.Ytndekicblbpkjaa.sixN Go.Proofs.Ytndekicblbpkjaa.sixO Go.Proofs.Ytndekicblbpkjaa.sixQ Go.Proofs.Ytndekicblbpkjaa.sixR Go.Proofs.Ytndekicblbpkjaa.sixS Go.Proofs.Ytndekicblbpkjaa.sixT
set_option linter.unusedVariables false

theorem atN_pb8 (n : Int) (z : List Int) (h0 : 0 ≤ n) (h1 : n < 18446744073709551616) : atN (pb n 8 8 ++ z) 0 8 = n := by
  obtain ⟨x, rfl⟩ := Int.eq_ofNat_of_zero_le h0
  have e := atN_put [] 8 [(x : Int)] 0 x (by simp) rfl 8 (Nat.le_refl _)
  have e2 : allb 8 [(x : Int)] = pb (x : Int) 8 8 := by
    show pb (x : Int) 8 8 ++ [] = _
    rw [List.append_nil]
  rw [List.nil_append, e2] at e
  have e3 : atN (pb (x : Int) 8 8 ++ z) 0 8 = atN (pb (x : Int) 8 8) 0 8 := by
    have key : ∀ k, k ≤ 8 → atN (pb (x : Int) 8 8 ++ z) 0 k = atN (pb (x : Int) 8 8) 0 k := fun k => by
      induction k with
      | zero => intro _; rfl
      | succ k ih =>
        intro hk
        show atN _ 0 k * 256 + (pb (x : Int) 8 8 ++ z).getD (0 + k) 0 = atN _ 0 k * 256 + (pb (x : Int) 8 8).getD (0 + k) 0
        rw [ih (by omega), getD_app _ _ _ (by rw [pb_len]; omega)]
    exact key 8 (Nat.le_refl _)
  rw [e3]
  refine e.trans ?_
  have h9 : x < 18446744073709551616 := by omega
  show ((x / 1 % 18446744073709551616 : Nat) : Int) = _
  rw [Nat.div_one, Nat.mod_eq_of_lt h9]
theorem atN_pb16 (m n : Int) (z : List Int) (h0 : 0 ≤ n) (h1 : n < 18446744073709551616) : atN (pb m 8 8 ++ (pb n 8 8 ++ z)) 8 8 = n := by
  rw [atN_drop, List.drop_append_of_le_length (by rw [pb_len]; omega), List.drop_of_length_le (by rw [pb_len]; omega), List.nil_append]
  exact atN_pb8 n z h0 h1
theorem word_eq (cls lab : Int) (c0 : 0 ≤ cls) (c1 : cls ≤ 255) (l0 : 0 ≤ lab) (l1 : lab ≤ 1048575) (W : Int) (hW : W = ((96 + cls / 16) * 256 + (cls % 16 * 16 + lab / 65536)) * 65536 + (lab / 256 % 256 * 256 + lab % 256)) : W / 1048576 % 256 = cls ∧ W % 1048576 = lab := by
  have e : W = (96 * 16 + cls) * 1048576 + lab := by omega
  clear hW
  omega
/-- What is put, told again. -/
theorem hd_back (h : Hs) (X : List XP) (p0 : Int) (N : Nat) (hN : N ≤ 65535) (z : List Int) (hR : RightH h X) (hsh : 0 ≤ h.sh ∧ h.sh < 18446744073709551616) (hsl : 0 ≤ h.sl ∧ h.sl < 18446744073709551616) (hdh : 0 ≤ h.dh ∧ h.dh < 18446744073709551616) (hdl : 0 ≤ h.dl ∧ h.dl < 18446744073709551616) :
    hdOf (hdB h p0 N ++ z) h.p = h ∧ (hdB h p0 N ++ z).getD 0 0 / 16 = 6 ∧ (hdB h p0 N ++ z).getD 6 0 = p0 ∧ sizeP (hdB h p0 N ++ z) = N ∧ (hdB h p0 N).length = 40 := by
  obtain ⟨cls, lab, hop, s6, sh, sl, d6, dh, dl, p⟩ := h
  obtain rfl : s6 = true := hR.s6
  obtain rfl : d6 = true := hR.d6
  have c0 : 0 ≤ cls := hR.c0
  have c1 : cls ≤ 255 := hR.c1
  have l0 : 0 ≤ lab := hR.l0
  have l1 : lab ≤ 1048575 := hR.l1
  have e : hdB ⟨cls, lab, hop, true, sh, sl, true, dh, dl, p⟩ p0 N ++ z = (96 + cls / 16) :: (cls % 16 * 16 + lab / 65536) :: (lab / 256 % 256) :: (lab % 256) :: ((N : Int) / 256 % 256) :: ((N : Int) % 256) :: p0 :: hop :: (pb sh 8 8 ++ (pb sl 8 8 ++ (pb dh 8 8 ++ (pb dl 8 8 ++ z)))) := by
    show (hd8 cls lab hop p0 N ++ (pb sh 8 8 ++ pb sl 8 8) ++ (pb dh 8 8 ++ pb dl 8 8)) ++ z = _
    simp only [hd8, List.append_assoc, List.cons_append, List.nil_append]
  have d8 : (hdB ⟨cls, lab, hop, true, sh, sl, true, dh, dl, p⟩ p0 N ++ z).drop 8 = pb sh 8 8 ++ (pb sl 8 8 ++ (pb dh 8 8 ++ (pb dl 8 8 ++ z))) := by rw [e]; rfl
  have d24 : (hdB ⟨cls, lab, hop, true, sh, sl, true, dh, dl, p⟩ p0 N ++ z).drop 24 = pb dh 8 8 ++ (pb dl 8 8 ++ z) := by
    rw [show 24 = 8 + 16 from rfl, ← List.drop_drop, d8]
    have ln : (pb sh 8 8 ++ pb sl 8 8).length = 16 := by rw [List.length_append, pb_len, pb_len]
    rw [← List.append_assoc, List.drop_append_of_le_length (by omega), List.drop_of_length_le (by omega), List.nil_append]
  have hw := word_eq cls lab c0 c1 l0 l1 _ rfl
  refine ⟨?_, ?_, ?_, ?_, ?_⟩
  · show Hs.mk (w32 (hdB _ p0 N ++ z) 0 / 1048576 % 256) (w32 (hdB _ p0 N ++ z) 0 % 1048576) ((hdB _ p0 N ++ z).getD 7 0) true (atN ((hdB _ p0 N ++ z).drop 8) 0 8) (atN ((hdB _ p0 N ++ z).drop 8) 8 8) true (atN ((hdB _ p0 N ++ z).drop 24) 0 8) (atN ((hdB _ p0 N ++ z).drop 24) 8 8) p = _
    have ew : w32 (hdB ⟨cls, lab, hop, true, sh, sl, true, dh, dl, p⟩ p0 N ++ z) 0 = ((96 + cls / 16) * 256 + (cls % 16 * 16 + lab / 65536)) * 65536 + (lab / 256 % 256 * 256 + lab % 256) := by rw [e]; rfl
    have e7 : (hdB ⟨cls, lab, hop, true, sh, sl, true, dh, dl, p⟩ p0 N ++ z).getD 7 0 = hop := by rw [e]; rfl
    rw [ew, hw.1, hw.2, e7, d8, d24, atN_pb8 sh _ hsh.1 hsh.2, atN_pb16 sh sl _ hsl.1 hsl.2, atN_pb8 dh _ hdh.1 hdh.2, atN_pb16 dh dl _ hdl.1 hdl.2]
  · rw [e]
    show (96 + cls / 16) / 16 = 6
    omega
  · rw [e]; rfl
  · unfold sizeP
    rw [e]
    show (256 * ((N : Int) / 256 % 256) + (N : Int) % 256).toNat = N
    omega
  · show (hd8 cls lab hop p0 N ++ (pb sh 8 8 ++ pb sl 8 8) ++ (pb dh 8 8 ++ pb dl 8 8)).length = 40
    simp only [List.length_append, pb_len, hd8, List.length_cons, List.length_nil]
theorem put_parse (h : Hs) (X : List XP) (r t : List Int) (hR : RightH h X) (hU : ∀ x ∈ X, U8 x.2) (hr : r.length ≤ 1000) (hsh : 0 ≤ h.sh ∧ h.sh < 18446744073709551616) (hsl : 0 ≤ h.sl ∧ h.sl < 18446744073709551616) (hdh : 0 ≤ h.dh ∧ h.dh < 18446744073709551616) (hdl : 0 ≤ h.dl ∧ h.dl < 18446744073709551616) :
    sixP (sixB h X r ++ t) = .inr (X, h.p, r) ∧ hdOf (sixB h X r ++ t) h.p = h ∧ sixQ (sixB h X r) = .inr (X, h.p, r) ∧ hdOf (sixB h X r) h.p = h ∧ (sixB h X r).getD 0 0 / 16 = 6 ∧ (sixB h X r ++ t).getD 0 0 / 16 = 6 ∧ (sixB h X r).length = 40 + extL X + r.length := by
  have hx := extL_le hR.e
  obtain ⟨a1, a2, a3, a4, a5⟩ := hd_back h X (nextK X h.p) (extL X + r.length) (by omega) ((extB X h.p ++ r) ++ t) hR hsh hsl hdh hdl
  obtain ⟨b1, b2, b3, b4, b5⟩ := hd_back h X (nextK X h.p) (extL X + r.length) (by omega) (extB X h.p ++ r) hR hsh hsl hdh hdl
  have ea : sixB h X r ++ t = hdB h (nextK X h.p) (extL X + r.length) ++ ((extB X h.p ++ r) ++ t) := by unfold sixB; rw [List.append_assoc]
  have eb : sixB h X r = hdB h (nextK X h.p) (extL X + r.length) ++ (extB X h.p ++ r) := rfl
  have ln : (extB X h.p ++ r).length = extL X + r.length := by rw [List.length_append, extB_len]
  have lb : (sixB h X r).length = 40 + extL X + r.length := by rw [eb, List.length_append, a5, ln]; omega
  have hc := chn_put X [] h.p r 9 (by rw [List.nil_append]; exact hR.e) hU hR.pn (by have := hR.e.most; omega)
  rw [List.nil_append] at hc
  have dr : (sixB h X r).drop 40 = extB X h.p ++ r := by rw [eb, List.drop_append_of_le_length (by omega), List.drop_of_length_le (by omega), List.nil_append]
  refine ⟨?_, by rw [ea]; exact a1, ?_, by rw [eb]; exact b1, by rw [eb]; exact b2, by rw [ea]; exact a2, lb⟩
  · have e4 : sizeP (sixB h X r ++ t) = extL X + r.length := by rw [ea]; exact a4
    have tk : (sixB h X r ++ t).take (40 + (extL X + r.length)) = sixB h X r := by
      rw [List.take_append_of_le_length (by omega), List.take_of_length_le (by omega)]
    unfold sixP
    rw [if_neg (by rw [List.length_append]; omega), if_neg (by rw [ea, a2]; decide), e4, if_neg (by rw [List.length_append]; omega), tk, dr, ea, a3, hc]
    rfl
  · unfold sixQ
    rw [if_neg (by omega), if_neg (by rw [eb, b2]; decide), dr, eb, b3, hc]
    rfl
end Go.Proofs.Ytndekicblbpkjaa.sixY
