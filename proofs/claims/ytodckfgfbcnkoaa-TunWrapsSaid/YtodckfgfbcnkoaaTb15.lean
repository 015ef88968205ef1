/- 14 texts in one. -/
import Derived.Deep.RegionHeld3
import Derived.Test.YtodckfgfbcnkoaaTb01
import Derived.Test.YtodckfgfbcnkoaaTb03
import Derived.Test.YtodckfgfbcnkoaaTb04
import Derived.Test.YtodckfgfbcnkoaaTb12
import Derived.Test.YtodckfgfbcnkoaaTb13
import Derived.Test.YtodckfgfbcnkoaaTb14
/- Layer 8: what an address must be. -/
namespace Go.Proofs.Ytodckfgfbcnkoaa.fourOn
open Go.ChangeShapes Go.WideShapes Go.ChangeAt Go.RowKit
open Go.Proofs.Ytodckfgfbcnkoaa.base Go.Proofs.Ytodckfgfbcnkoaa.rdrA Go.Proofs.Ytodckfgfbcnkoaa.net Go.Proofs.Ytodckfgfbcnkoaa.fourC
set_option linter.unusedVariables false

def okA (v6 : Bool) (h l : Int) : Prop := v6 = false ∧ h = 0 ∧ l ≤ 4294967295
theorem addr_yes (x : Int) (w : World) (h0 : 0 ≤ x) (h1 : x ≤ 4294967295) : Calls Try.prog 16 #[.agg #[.bool false, .int .u64 0, .int .u64 x]] w fun e w' => e = .returned (.bool true) ∧ Below w.heap.size w w' := addrright_yes x w h0 h1
theorem addr_no (h x : Int) (w : World) (hn : ¬ okA false h x) : Calls Try.prog 16 #[.agg #[.bool false, .int .u64 h, .int .u64 x]] w fun e w' => e = .returned (.bool false) ∧ Below w.heap.size w w' := by
  by_cases h0 : h = 0
  · have q1 : (h == 0) = true := eqT h0
    have q2 : decide (x < 4294967296) = false := decide_eq_false (fun hx => hn ⟨rfl, h0, by omega⟩)
    clear hn h0
    go_enter Try.func16, Try.ntmps16
    go_wp2
    go_ret
    exact ⟨rfl, (Below.refl _ _).alloc (Nat.le_refl _) _⟩
  · have q1 : (h == 0) = false := eqF h0
    clear hn h0
    go_enter Try.func16, Try.ntmps16
    go_wp2
    go_ret
    exact ⟨rfl, (Below.refl _ _).alloc (Nat.le_refl _) _⟩
end Go.Proofs.Ytodckfgfbcnkoaa.fourOn
namespace Go.Proofs.Ytodckfgfbcnkoaa.fourJn
end Go.Proofs.Ytodckfgfbcnkoaa.fourJn
namespace Go.Proofs.Ytodckfgfbcnkoaa.pktM
end Go.Proofs.Ytodckfgfbcnkoaa.pktM
/- Layer 8: what bytes that were put say. -/
namespace Go.Proofs.Ytodckfgfbcnkoaa.fourHn
open Go.ChangeShapes Go.WideShapes Go.ChangeAt Go.RowKit
open Go.Proofs.Ytodckfgfbcnkoaa.base Go.Proofs.Ytodckfgfbcnkoaa.sumA Go.Proofs.Ytodckfgfbcnkoaa.sumB Go.Proofs.Ytodckfgfbcnkoaa.octA Go.Proofs.Ytodckfgfbcnkoaa.rdrA Go.Proofs.Ytodckfgfbcnkoaa.udpA Go.Proofs.Ytodckfgfbcnkoaa.net Go.Proofs.Ytodckfgfbcnkoaa.fourA Go.Proofs.Ytodckfgfbcnkoaa.fourD
set_option linter.unusedVariables false

theorem wsum_hk (tos id fl ttl pr sl dl ck sz : Int) (os : List Int) (c0 : 0 ≤ ck) (c1 : ck ≤ 65535) : wsum (hk tos id fl ttl pr sl dl ck sz os) = wsum (hk tos id fl ttl pr sl dl 0 sz os) + ck := by
  unfold hk
  rw [wsum_app 10 _ os rfl, wsum_app 10 _ os rfl]
  simp only [wsum]
  omega
theorem hk_chk (tos id fl ttl pr sl dl sz : Int) (os : List Int) (hin : ∀ x ∈ hk tos id fl ttl pr sl dl 0 sz os, 0 ≤ x ∧ x ≤ 255) : fo (wsum (hk tos id fl ttl pr sl dl (65535 - fo (wsum (hk tos id fl ttl pr sl dl 0 sz os))) sz os)) = 65535 := by
  have s0 := (wsum_bd _ hin).1
  have b := fo_bd _ s0
  rw [wsum_hk _ _ _ _ _ _ _ _ _ _ (by omega) (by omega)]
  rcases fo_full _ s0 with h | h
  · exact h
  · rw [h]; simpa using h
theorem hk_says (tos id fl ttl pr sl dl ck sz : Int) (os t : List Int) (s : Nat) (hs : 20 + os.length = s) (h4 : s % 4 = 0) (h60 : s ≤ 60) (f0 : 0 ≤ fl) :
    (hk tos id fl ttl pr sl dl ck sz os ++ t).getD 0 0 / 16 = 4 ∧ hl (hk tos id fl ttl pr sl dl ck sz os ++ t) = (s : Int) ∧ w16 (hk tos id fl ttl pr sl dl ck sz os ++ t) 6 = fl ∧ w16 (hk tos id fl ttl pr sl dl ck sz os ++ t) 2 = sz ∧
      (hk tos id fl ttl pr sl dl ck sz os ++ t).take s = hk tos id fl ttl pr sl dl ck sz os ∧ (hk tos id fl ttl pr sl dl ck sz os ++ t).drop s = t ∧ (hk tos id fl ttl pr sl dl ck sz os).drop 20 = os := by
  have hlen : (hk tos id fl ttl pr sl dl ck sz os).length = s := by rw [hk_len, hs]
  refine ⟨?_, ?_, ?_, ?_, ?_, ?_, rfl⟩
  · show (64 + (20 + (os.length : Int)) / 4) / 16 = 4
    omega
  · show (64 + (20 + (os.length : Int)) / 4) % 16 * 4 = _
    omega
  · show fl / 256 * 256 + fl % 256 = fl
    omega
  · show sz / 256 * 256 + sz % 256 = sz
    omega
  · rw [List.take_append_of_le_length (by omega), List.take_of_length_le (by omega)]
  · rw [List.drop_append_of_le_length (by omega), List.drop_of_length_le (by omega), List.nil_append]
end Go.Proofs.Ytodckfgfbcnkoaa.fourHn
namespace Go.Proofs.Ytodckfgfbcnkoaa.udpJn
end Go.Proofs.Ytodckfgfbcnkoaa.udpJn
namespace Go.Proofs.Ytodckfgfbcnkoaa.tcpIn
end Go.Proofs.Ytodckfgfbcnkoaa.tcpIn
namespace Go.Proofs.Ytodckfgfbcnkoaa.sumI
end Go.Proofs.Ytodckfgfbcnkoaa.sumI
namespace Go.Proofs.Ytodckfgfbcnkoaa.tcpJn
end Go.Proofs.Ytodckfgfbcnkoaa.tcpJn
namespace Go.Proofs.Ytodckfgfbcnkoaa.tcpLn
end Go.Proofs.Ytodckfgfbcnkoaa.tcpLn
namespace Go.Proofs.Ytodckfgfbcnkoaa.tcpNn
end Go.Proofs.Ytodckfgfbcnkoaa.tcpNn
/- Layer 9: what is put, parsed again (plain words). -/
namespace Go.Proofs.Ytodckfgfbcnkoaa.sixY
open Go.ChangeShapes Go.WideShapes Go.ChangeAt Go.RowKit
open Go.Proofs.Ytodckfgfbcnkoaa.base Go.Proofs.Ytodckfgfbcnkoaa.octA Go.Proofs.Ytodckfgfbcnkoaa.octB Go.Proofs.Ytodckfgfbcnkoaa.octE Go.Proofs.Ytodckfgfbcnkoaa.rdrA Go.Proofs.Ytodckfgfbcnkoaa.rdrG Go.Proofs.Ytodckfgfbcnkoaa.tcpC Go.Proofs.Ytodckfgfbcnkoaa.sixW Go.Proofs.Ytodckfgfbcnkoaa.sixM Go.Proofs.Ytodckfgfbcnkoaa.snK Go.Proofs.Ytodckfgfbcnkoaa.sixE Go.Proofs.Ytodckfgfbcnkoaa.sixF Go.Proofs.Ytodckfgfbcnkoaa.sixH Go.Proofs.Ytodckfgfbcnkoaa.sixK Go.Proofs.Ytodckfgfbcnkoaa.sixQ Go.Proofs.Ytodckfgfbcnkoaa.sixT
set_option linter.unusedVariables false

theorem atN_pb8 (n : Int) (z : List Int) (h0 : 0 ≤ n) (h1 : n < 18446744073709551616) : atN (pb n 8 8 ++ z) 0 8 = n := by
  obtain ⟨x, rfl⟩ := Int.eq_ofNat_of_zero_le h0
  have e := atN_put [] 8 [(x : Int)] 0 x (by simp) rfl 8 (Nat.le_refl _)
  have e2 : allb 8 [(x : Int)] = pb (x : Int) 8 8 := by
    show pb (x : Int) 8 8 ++ [] = _
    rw [List.append_nil]
  rw [List.nil_append, e2] at e
  have e3 : atN (pb (x : Int) 8 8 ++ z) 0 8 = atN (pb (x : Int) 8 8) 0 8 := by
    have key : ∀ k, k ≤ 8 → atN (pb (x : Int) 8 8 ++ z) 0 k = atN (pb (x : Int) 8 8) 0 k := fun k => by
      induction k with
      | zero => intro _; rfl
      | succ k ih =>
        intro hk
        show atN _ 0 k * 256 + (pb (x : Int) 8 8 ++ z).getD (0 + k) 0 = atN _ 0 k * 256 + (pb (x : Int) 8 8).getD (0 + k) 0
        rw [ih (by omega), getD_app _ _ _ (by rw [pb_len]; omega)]
    exact key 8 (Nat.le_refl _)
  rw [e3]
  refine e.trans ?_
  have h9 : x < 18446744073709551616 := by omega
  show ((x / 1 % 18446744073709551616 : Nat) : Int) = _
  rw [Nat.div_one, Nat.mod_eq_of_lt h9]
theorem atN_pb16 (m n : Int) (z : List Int) (h0 : 0 ≤ n) (h1 : n < 18446744073709551616) : atN (pb m 8 8 ++ (pb n 8 8 ++ z)) 8 8 = n := by
  rw [atN_drop, List.drop_append_of_le_length (by rw [pb_len]; omega), List.drop_of_length_le (by rw [pb_len]; omega), List.nil_append]
  exact atN_pb8 n z h0 h1
theorem word_eq (cls lab : Int) (c0 : 0 ≤ cls) (c1 : cls ≤ 255) (l0 : 0 ≤ lab) (l1 : lab ≤ 1048575) (W : Int) (hW : W = ((96 + cls / 16) * 256 + (cls % 16 * 16 + lab / 65536)) * 65536 + (lab / 256 % 256 * 256 + lab % 256)) : W / 1048576 % 256 = cls ∧ W % 1048576 = lab := by
  have e : W = (96 * 16 + cls) * 1048576 + lab := by omega
  clear hW
  omega
theorem hd_back (h : Hs) (X : List XP) (p0 : Int) (N : Nat) (hN : N ≤ 65535) (z : List Int) (hR : RightH h X) (hsh : 0 ≤ h.sh ∧ h.sh < 18446744073709551616) (hsl : 0 ≤ h.sl ∧ h.sl < 18446744073709551616) (hdh : 0 ≤ h.dh ∧ h.dh < 18446744073709551616) (hdl : 0 ≤ h.dl ∧ h.dl < 18446744073709551616) :
    hdOf (hdB h p0 N ++ z) h.p = h ∧ (hdB h p0 N ++ z).getD 0 0 / 16 = 6 ∧ (hdB h p0 N ++ z).getD 6 0 = p0 ∧ sizeP (hdB h p0 N ++ z) = N ∧ (hdB h p0 N).length = 40 := by
  obtain ⟨cls, lab, hop, s6, sh, sl, d6, dh, dl, p⟩ := h
  obtain rfl : s6 = true := hR.s6
  obtain rfl : d6 = true := hR.d6
  have c0 : 0 ≤ cls := hR.c0
  have c1 : cls ≤ 255 := hR.c1
  have l0 : 0 ≤ lab := hR.l0
  have l1 : lab ≤ 1048575 := hR.l1
  have e : hdB ⟨cls, lab, hop, true, sh, sl, true, dh, dl, p⟩ p0 N ++ z = (96 + cls / 16) :: (cls % 16 * 16 + lab / 65536) :: (lab / 256 % 256) :: (lab % 256) :: ((N : Int) / 256 % 256) :: ((N : Int) % 256) :: p0 :: hop :: (pb sh 8 8 ++ (pb sl 8 8 ++ (pb dh 8 8 ++ (pb dl 8 8 ++ z)))) := by
    show (hd8 cls lab hop p0 N ++ (pb sh 8 8 ++ pb sl 8 8) ++ (pb dh 8 8 ++ pb dl 8 8)) ++ z = _
    simp only [hd8, List.append_assoc, List.cons_append, List.nil_append]
  have d8 : (hdB ⟨cls, lab, hop, true, sh, sl, true, dh, dl, p⟩ p0 N ++ z).drop 8 = pb sh 8 8 ++ (pb sl 8 8 ++ (pb dh 8 8 ++ (pb dl 8 8 ++ z))) := by rw [e]; rfl
  have d24 : (hdB ⟨cls, lab, hop, true, sh, sl, true, dh, dl, p⟩ p0 N ++ z).drop 24 = pb dh 8 8 ++ (pb dl 8 8 ++ z) := by
    rw [show 24 = 8 + 16 from rfl, ← List.drop_drop, d8]
    have ln : (pb sh 8 8 ++ pb sl 8 8).length = 16 := by rw [List.length_append, pb_len, pb_len]
    rw [← List.append_assoc, List.drop_append_of_le_length (by omega), List.drop_of_length_le (by omega), List.nil_append]
  have hw := word_eq cls lab c0 c1 l0 l1 _ rfl
  refine ⟨?_, ?_, ?_, ?_, ?_⟩
  · show Hs.mk (w32 (hdB _ p0 N ++ z) 0 / 1048576 % 256) (w32 (hdB _ p0 N ++ z) 0 % 1048576) ((hdB _ p0 N ++ z).getD 7 0) true (atN ((hdB _ p0 N ++ z).drop 8) 0 8) (atN ((hdB _ p0 N ++ z).drop 8) 8 8) true (atN ((hdB _ p0 N ++ z).drop 24) 0 8) (atN ((hdB _ p0 N ++ z).drop 24) 8 8) p = _
    have ew : w32 (hdB ⟨cls, lab, hop, true, sh, sl, true, dh, dl, p⟩ p0 N ++ z) 0 = ((96 + cls / 16) * 256 + (cls % 16 * 16 + lab / 65536)) * 65536 + (lab / 256 % 256 * 256 + lab % 256) := by rw [e]; rfl
    have e7 : (hdB ⟨cls, lab, hop, true, sh, sl, true, dh, dl, p⟩ p0 N ++ z).getD 7 0 = hop := by rw [e]; rfl
    rw [ew, hw.1, hw.2, e7, d8, d24, atN_pb8 sh _ hsh.1 hsh.2, atN_pb16 sh sl _ hsl.1 hsl.2, atN_pb8 dh _ hdh.1 hdh.2, atN_pb16 dh dl _ hdl.1 hdl.2]
  · rw [e]
    show (96 + cls / 16) / 16 = 6
    omega
  · rw [e]; rfl
  · unfold sizeP
    rw [e]
    show (256 * ((N : Int) / 256 % 256) + (N : Int) % 256).toNat = N
    omega
  · show (hd8 cls lab hop p0 N ++ (pb sh 8 8 ++ pb sl 8 8) ++ (pb dh 8 8 ++ pb dl 8 8)).length = 40
    simp only [List.length_append, pb_len, hd8, List.length_cons, List.length_nil]
theorem put_parse (h : Hs) (X : List XP) (r t : List Int) (hR : RightH h X) (hU : ∀ x ∈ X, U8 x.2) (hr : r.length ≤ 1000) (hsh : 0 ≤ h.sh ∧ h.sh < 18446744073709551616) (hsl : 0 ≤ h.sl ∧ h.sl < 18446744073709551616) (hdh : 0 ≤ h.dh ∧ h.dh < 18446744073709551616) (hdl : 0 ≤ h.dl ∧ h.dl < 18446744073709551616) :
    sixP (sixB h X r ++ t) = .inr (X, h.p, r) ∧ hdOf (sixB h X r ++ t) h.p = h ∧ sixQ (sixB h X r) = .inr (X, h.p, r) ∧ hdOf (sixB h X r) h.p = h ∧ (sixB h X r).getD 0 0 / 16 = 6 ∧ (sixB h X r ++ t).getD 0 0 / 16 = 6 ∧ (sixB h X r).length = 40 + extL X + r.length := by
  have hx := extL_le hR.e
  obtain ⟨a1, a2, a3, a4, a5⟩ := hd_back h X (nextK X h.p) (extL X + r.length) (by omega) ((extB X h.p ++ r) ++ t) hR hsh hsl hdh hdl
  obtain ⟨b1, b2, b3, b4, b5⟩ := hd_back h X (nextK X h.p) (extL X + r.length) (by omega) (extB X h.p ++ r) hR hsh hsl hdh hdl
  have ea : sixB h X r ++ t = hdB h (nextK X h.p) (extL X + r.length) ++ ((extB X h.p ++ r) ++ t) := by unfold sixB; rw [List.append_assoc]
  have eb : sixB h X r = hdB h (nextK X h.p) (extL X + r.length) ++ (extB X h.p ++ r) := rfl
  have ln : (extB X h.p ++ r).length = extL X + r.length := by rw [List.length_append, extB_len]
  have lb : (sixB h X r).length = 40 + extL X + r.length := by rw [eb, List.length_append, a5, ln]; omega
  have hc := chn_put X [] h.p r 9 (by rw [List.nil_append]; exact hR.e) hU hR.pn (by have := hR.e.most; omega)
  rw [List.nil_append] at hc
  have dr : (sixB h X r).drop 40 = extB X h.p ++ r := by rw [eb, List.drop_append_of_le_length (by omega), List.drop_of_length_le (by omega), List.nil_append]
  refine ⟨?_, by rw [ea]; exact a1, ?_, by rw [eb]; exact b1, by rw [eb]; exact b2, by rw [ea]; exact a2, lb⟩
  · have e4 : sizeP (sixB h X r ++ t) = extL X + r.length := by rw [ea]; exact a4
    have tk : (sixB h X r ++ t).take (40 + (extL X + r.length)) = sixB h X r := by
      rw [List.take_append_of_le_length (by omega), List.take_of_length_le (by omega)]
    unfold sixP
    rw [if_neg (by rw [List.length_append]; omega), if_neg (by rw [ea, a2]; decide), e4, if_neg (by rw [List.length_append]; omega), tk, dr, ea, a3, hc]
    rfl
  · unfold sixQ
    rw [if_neg (by omega), if_neg (by rw [eb, b2]; decide), dr, eb, b3, hc]
    rfl
end Go.Proofs.Ytodckfgfbcnkoaa.sixY
/- Layer 13: what is made, parsed: plain words. -/
namespace Go.Proofs.Ytodckfgfbcnkoaa.pktR
open Go.ChangeShapes Go.WideShapes Go.ChangeAt Go.RowKit
open Go.Proofs.Ytodckfgfbcnkoaa.rdrG Go.Proofs.Ytodckfgfbcnkoaa.sixW Go.Proofs.Ytodckfgfbcnkoaa.pktB
set_option linter.unusedVariables false

def mkB6 (ttl pr sh sl dh dl : Int) (bl : List Int) : List Int := sixK.sixB ⟨0, 0, ttl, true, sh, sl, true, dh, dl, pr⟩ [] bl
theorem right6 (ttl pr sh sl dh dl : Int) (h1 : 0 ≤ ttl ∧ ttl ≤ 255) (h2 : 0 ≤ pr ∧ pr ≤ 255) (h3 : isX pr = false) : sixH.RightH ⟨0, 0, ttl, true, sh, sl, true, dh, dl, pr⟩ [] :=
  ⟨by show (0 : Int) ≤ 0; decide, by show (0 : Int) ≤ 255; decide, h1.1, h1.2, by show (0 : Int) ≤ 0; decide, by show (0 : Int) ≤ 1048575; decide, rfl, rfl, h2.1, h2.2, h3, ⟨by decide, fun i h => absurd h (Nat.not_lt_zero i), fun i h => absurd h (Nat.not_lt_zero i)⟩⟩
end Go.Proofs.Ytodckfgfbcnkoaa.pktR
/- Layer 14: a packet in another one: plain words. -/
namespace Go.Proofs.Ytodckfgfbcnkoaa.tunW
open Go.ChangeShapes Go.WideShapes Go.ChangeAt Go.RowKit
open Go.Proofs.Ytodckfgfbcnkoaa.base Go.Proofs.Ytodckfgfbcnkoaa.rdrA Go.Proofs.Ytodckfgfbcnkoaa.rdrG Go.Proofs.Ytodckfgfbcnkoaa.sumA Go.Proofs.Ytodckfgfbcnkoaa.sumB Go.Proofs.Ytodckfgfbcnkoaa.sixW Go.Proofs.Ytodckfgfbcnkoaa.sixM Go.Proofs.Ytodckfgfbcnkoaa.pktA Go.Proofs.Ytodckfgfbcnkoaa.pktB Go.Proofs.Ytodckfgfbcnkoaa.sixE Go.Proofs.Ytodckfgfbcnkoaa.sixF Go.Proofs.Ytodckfgfbcnkoaa.pktR
set_option linter.unusedVariables false

def numP (l : List Int) : Int × Int := if l.length = 0 then (0, 2) else if l.getD 0 0 / 16 = 4 then (4, 0) else if l.getD 0 0 / 16 = 6 then (41, 0) else (0, 10)
def rightP (b : List Int) (p : Int) : Int := if p ≠ 4 ∧ p ≠ 41 then 14 else if (numP b).2 = 0 ∧ (numP b).1 ≠ p then 14 else (numP b).2
structure Rd where
  b : List Int
  s6 : Bool
  sh : Int
  sl : Int
  d6 : Bool
  dh : Int
  dl : Int
  p : Int
  e : Int
def rd4 (l : List Int) : Rd := if fourE l ≠ 0 then ⟨[], false, 0, 0, false, 0, 0, 0, fourE l⟩
  else ⟨fourR l, false, 0, tcpC.w32 l 12, false, 0, tcpC.w32 l 16, l.getD 9 0, if udpA.w16 l 6 % 8192 ≠ 0 ∨ decide (udpA.w16 l 6 / 8192 % 2 = 1) = true then 21 else 0⟩
def rd6 (l : List Int) : Rd := match sixP l with
  | .inl e => ⟨[], false, 0, 0, false, 0, 0, 0, e⟩
  | .inr (ys, q, r) => ⟨r, true, (hdOf l q).sh, (hdOf l q).sl, true, (hdOf l q).dh, (hdOf l q).dl, q, if lies ys / 8 ≠ 0 then 21 else 0⟩
def rdP (l : List Int) : Rd := if 0 < l.length ∧ l.getD 0 0 / 16 = 6 then rd6 l else rd4 l
def opnE (l : List Int) : Int := if (rdP l).e = 0 then rightP (rdP l).b (rdP l).p else (rdP l).e
def tw4 (pr sl dl : Int) (bl : List Int) : List Int := fourD.hk 0 0 (fourC.flz true false 0) 64 pr sl dl (65535 - fo (wsum (fourD.hk 0 0 (fourC.flz true false 0) 64 pr sl dl 0 (20 + ((0 : Nat) : Int) + (bl.length : Int)) []))) (20 + ((0 : Nat) : Int) + (bl.length : Int)) [] ++ bl
theorem tw4_says (pr sl dl : Int) (bl : List Int) (h2 : 0 ≤ pr ∧ pr ≤ 255) (h3 : 0 ≤ sl ∧ sl ≤ 4294967295) (h4 : 0 ≤ dl ∧ dl ≤ 4294967295) (hb : bl.length ≤ 900) :
    fourE (tw4 pr sl dl bl) = 0 ∧ fourS (tw4 pr sl dl bl) = 20 ∧ fourR (tw4 pr sl dl bl) = bl ∧ udpA.w16 (tw4 pr sl dl bl) 6 = 16384 ∧ (tw4 pr sl dl bl).getD 8 0 = 64 ∧ (tw4 pr sl dl bl).getD 9 0 = pr ∧ tcpC.w32 (tw4 pr sl dl bl) 12 = sl ∧ tcpC.w32 (tw4 pr sl dl bl) 16 = dl ∧ (tw4 pr sl dl bl).getD 0 0 / 16 = 4 ∧ (tw4 pr sl dl bl).length = 20 + bl.length := by
  have hln : (tw4 pr sl dl bl).length = 20 + bl.length := by
    unfold tw4
    rw [List.length_append, fourD.hk_len]
    rfl
  have hfl : fourC.flz true false 0 = 16384 := rfl
  have hin := fourD.hk_in 0 0 (fourC.flz true false 0) 64 pr sl dl 0 (20 + ((0 : Nat) : Int) + (bl.length : Int)) [] (by omega) (by omega) (by rw [hfl]; omega) (by omega) h2 h3 h4 (by omega) (by omega) (by simp) (fun x hx => by cases hx)
  have hck := fourHn.hk_chk 0 0 (fourC.flz true false 0) 64 pr sl dl (20 + ((0 : Nat) : Int) + (bl.length : Int)) [] hin
  obtain ⟨s1, s2, s3, s4, s5, s6, _⟩ := fourHn.hk_says 0 0 (fourC.flz true false 0) 64 pr sl dl (65535 - fo (wsum (fourD.hk 0 0 (fourC.flz true false 0) 64 pr sl dl 0 (20 + ((0 : Nat) : Int) + (bl.length : Int)) []))) (20 + ((0 : Nat) : Int) + (bl.length : Int)) [] bl 20 rfl rfl (by omega) (by rw [hfl]; omega)
  have e12 : tcpC.w32 (tw4 pr sl dl bl) 12 = sl := by
    show (sl / 65536 / 256 * 256 + sl / 65536 % 256) * 65536 + (sl % 65536 / 256 * 256 + sl % 65536 % 256) = _
    omega
  have e16 : tcpC.w32 (tw4 pr sl dl bl) 16 = dl := by
    show (dl / 65536 / 256 * 256 + dl / 65536 % 256) * 65536 + (dl % 65536 / 256 * 256 + dl % 65536 % 256) = _
    omega
  have e8 : (tw4 pr sl dl bl).getD 8 0 = 64 := rfl
  have e9 : (tw4 pr sl dl bl).getD 9 0 = pr := rfl
  rw [show fourD.hk 0 0 (fourC.flz true false 0) 64 pr sl dl (65535 - fo (wsum (fourD.hk 0 0 (fourC.flz true false 0) 64 pr sl dl 0 (20 + ((0 : Nat) : Int) + (bl.length : Int)) []))) (20 + ((0 : Nat) : Int) + (bl.length : Int)) [] ++ bl = tw4 pr sl dl bl from rfl] at s1 s2 s3 s4 s5 s6
  rw [hfl] at s3
  generalize tw4 pr sl dl bl = B at *
  have hS : fourS B = 20 := by unfold fourS; rw [s2]; rfl
  have hR : fourR B = bl := by
    unfold fourR
    rw [hS, s6, s4, List.take_of_length_le (by omega)]
  have hE : fourE B = 0 := by
    unfold fourE
    rw [if_neg (by omega), if_neg (by omega), if_neg (by omega), if_neg (by omega), if_neg (by omega), s2, show ((20 : Nat) : Int).toNat = 20 from rfl, s5, if_neg (by omega)]
  exact ⟨hE, hS, hR, s3, e8, e9, e12, e16, s1, hln⟩
theorem opn4 (pr sl dl : Int) (bl : List Int) (hp : pr = 4 ∨ pr = 41) (h3 : 0 ≤ sl ∧ sl ≤ 4294967295) (h4 : 0 ≤ dl ∧ dl ≤ 4294967295) (hb : bl.length ≤ 900) (hn : numP bl = (pr, 0)) :
    rdP (tw4 pr sl dl bl) = ⟨bl, false, 0, sl, false, 0, dl, pr, 0⟩ ∧ opnE (tw4 pr sl dl bl) = 0 := by
  obtain ⟨k1, k2, k3, k4, k5, k6, k7, k8, k9, k10⟩ := tw4_says pr sl dl bl (by omega) h3 h4 hb
  have e : rdP (tw4 pr sl dl bl) = ⟨bl, false, 0, sl, false, 0, dl, pr, 0⟩ := by
    unfold rdP
    rw [if_neg (by omega)]
    unfold rd4
    rw [if_neg (by omega), k3, k7, k8, k6, k4, if_neg (by decide)]
  refine ⟨e, ?_⟩
  unfold opnE
  rw [e]
  show (if (0 : Int) = 0 then rightP bl pr else 0) = 0
  rw [if_pos rfl]
  unfold rightP
  rw [hn]
  show (if pr ≠ 4 ∧ pr ≠ 41 then (14 : Int) else if (0 : Int) = 0 ∧ pr ≠ pr then 14 else 0) = 0
  rw [if_neg (by omega), if_neg (by omega)]
def tw6 (pr sh sl dh dl : Int) (bl : List Int) : List Int := sixK.sixB ⟨0, 0, 64, true, sh, sl, true, dh, dl, pr⟩ [] bl
theorem opn6 (pr sh sl dh dl : Int) (bl : List Int) (hp : pr = 4 ∨ pr = 41) (b1 : 0 ≤ sh ∧ sh < 18446744073709551616) (b2 : 0 ≤ sl ∧ sl < 18446744073709551616) (b3 : 0 ≤ dh ∧ dh < 18446744073709551616) (b4 : 0 ≤ dl ∧ dl < 18446744073709551616) (hb : bl.length ≤ 900) (hn : numP bl = (pr, 0)) :
    sixP (tw6 pr sh sl dh dl bl) = .inr ([], pr, bl) ∧ hdOf (tw6 pr sh sl dh dl bl) pr = ⟨0, 0, 64, true, sh, sl, true, dh, dl, pr⟩ ∧ rdP (tw6 pr sh sl dh dl bl) = ⟨bl, true, sh, sl, true, dh, dl, pr, 0⟩ ∧ opnE (tw6 pr sh sl dh dl bl) = 0 ∧ (tw6 pr sh sl dh dl bl).length = 40 + bl.length := by
  have hx : isX pr = false := by rcases hp with rfl | rfl <;> decide
  obtain ⟨a1, a2, _, _, _, a6, a7⟩ := sixY.put_parse ⟨0, 0, 64, true, sh, sl, true, dh, dl, pr⟩ [] bl [] (right6 64 pr sh sl dh dl (by omega) (by omega) hx) (fun x hx => by cases hx) (by omega) b1 b2 b3 b4
  rw [List.append_nil] at a1 a2 a6
  have a1' : sixP (tw6 pr sh sl dh dl bl) = .inr ([], pr, bl) := a1
  have a2' : hdOf (tw6 pr sh sl dh dl bl) pr = ⟨0, 0, 64, true, sh, sl, true, dh, dl, pr⟩ := a2
  have a6' : (tw6 pr sh sl dh dl bl).getD 0 0 / 16 = 6 := a6
  have a7' : (tw6 pr sh sl dh dl bl).length = 40 + bl.length := by rw [show tw6 pr sh sl dh dl bl = sixK.sixB ⟨0, 0, 64, true, sh, sl, true, dh, dl, pr⟩ [] bl from rfl, a7]; rfl
  have e : rdP (tw6 pr sh sl dh dl bl) = ⟨bl, true, sh, sl, true, dh, dl, pr, 0⟩ := by
    unfold rdP
    rw [if_pos ⟨by omega, a6'⟩]
    unfold rd6
    rw [a1']
    show Rd.mk bl true (hdOf (tw6 pr sh sl dh dl bl) pr).sh (hdOf (tw6 pr sh sl dh dl bl) pr).sl true (hdOf (tw6 pr sh sl dh dl bl) pr).dh (hdOf (tw6 pr sh sl dh dl bl) pr).dl pr (if lies [] / 8 ≠ 0 then 21 else 0) = _
    rw [a2', if_neg (by decide)]
  refine ⟨a1', a2', e, ?_, a7'⟩
  unfold opnE
  rw [e]
  show (if (0 : Int) = 0 then rightP bl pr else 0) = 0
  rw [if_pos rfl]
  unfold rightP
  rw [hn]
  show (if pr ≠ 4 ∧ pr ≠ 41 then (14 : Int) else if (0 : Int) = 0 ∧ pr ≠ pr then 14 else 0) = 0
  rw [if_neg (by omega), if_neg (by omega)]
def okAd (v6 : Bool) (h l : Int) : Bool := v6 || (decide (h = 0) && decide (l < 4294967296))
theorem aright_any (v6 : Bool) (h l : Int) (w : World) (h0 : 0 ≤ l) : Calls Try.prog 16 #[.agg #[.bool v6, .int .u64 h, .int .u64 l]] w fun o w' => o = .returned (.bool (okAd v6 h l)) ∧ Below w.heap.size w w' := by
  cases v6 with
  | false =>
    by_cases hk : fourOn.okA false h l
    · obtain ⟨_, rfl, h2⟩ := hk
      rw [show okAd false 0 l = true from by unfold okAd; rw [decide_eq_true (show l < 4294967296 by omega)]; rfl]
      exact fourOn.addr_yes l w h0 h2
    · have e : okAd false h l = false := by
        unfold okAd
        by_cases a : h = 0
        · rw [decide_eq_false (show ¬ l < 4294967296 from fun b => hk ⟨rfl, a, by omega⟩)]
          simp
        · rw [decide_eq_false a]
          rfl
      rw [e]
      exact fourOn.addr_no h l w hk
  | true =>
    go_enter Try.func16, Try.ntmps16
    go_wp2
    go_ret
    exact ⟨rfl, (Below.refl _ _).alloc (Nat.le_refl _) _⟩
end Go.Proofs.Ytodckfgfbcnkoaa.tunW
/- Layer 14: the number of a packet in another one. -/
namespace Go.Proofs.Ytodckfgfbcnkoaa.tunA
open Go.ChangeShapes Go.WideShapes Go.ChangeAt Go.RowKit
open Go.Proofs.Ytodckfgfbcnkoaa.base Go.Proofs.Ytodckfgfbcnkoaa.octA Go.Proofs.Ytodckfgfbcnkoaa.rdrA Go.Proofs.Ytodckfgfbcnkoaa.rdrG Go.Proofs.Ytodckfgfbcnkoaa.sixW Go.Proofs.Ytodckfgfbcnkoaa.sixM Go.Proofs.Ytodckfgfbcnkoaa.pktA Go.Proofs.Ytodckfgfbcnkoaa.pktB Go.Proofs.Ytodckfgfbcnkoaa.sixE Go.Proofs.Ytodckfgfbcnkoaa.tunW
set_option linter.unusedVariables false

theorem number_any (A : Option Addr) (n c : Nat) (l : List Int) (w : World) (h : Sl w A n c l) :
    Calls Try.prog 29 #[.slice A n c] w fun o w' => o = .returned (.tuple #[.int .i64 (numP l).1, .int .i64 (numP l).2]) ∧ Below w.heap.size w w' := by
  have hl := h.len
  by_cases h0 : n = 0
  · have e : numP l = (0, 2) := by unfold numP; rw [if_pos (by omega)]
    rw [e]
    subst h0
    clear h hl e
    go_enter Try.func29, Try.ntmps29
    go_wp2_with fail
    go_ret2
    exact ⟨rfl, Below.refl _ _⟩
  obtain ⟨b, off, rfl, hb, hs⟩ := lies_of h.row (by omega)
  have y0 : w.cell? ⟨b, off, none⟩ = some (.int .u8 (l.getD 0 0)) := hs 0 (by omega)
  have u0 := h.u8.get 0
  have c0 : ((n : Int) == 0) = false := by simpa using h0
  have c0n : (n == 0) = false := by simpa using h0
  have j0 : 0 < n := by omega
  have j1 : (0 : Int) < n := by omega
  obtain ⟨x, hx⟩ : ∃ x, x = l.getD 0 0 := ⟨_, rfl⟩
  rw [← hx] at y0 u0
  by_cases h4 : x / 16 = 4
  · have e : numP l = (4, 0) := by unfold numP; rw [if_neg (by omega), if_pos (by rw [← hx]; exact h4)]
    rw [e]
    have t4 : (x / 16 == 4) = true := by simpa using h4
    clear h hl e hb hs hx h0 h4
    go_enter Try.func29, Try.ntmps29
    go_wp2_with fail
    go_ret2
    exact ⟨rfl, Below.refl _ _⟩
  · have t4 : (x / 16 == 4) = false := by simpa using h4
    by_cases h6 : x / 16 = 6
    · have e : numP l = (41, 0) := by unfold numP; rw [if_neg (by omega), if_neg (by rw [← hx]; exact h4), if_pos (by rw [← hx]; exact h6)]
      rw [e]
      have t6 : (x / 16 == 6) = true := by simpa using h6
      clear h hl e hb hs hx h0 h4 h6
      go_enter Try.func29, Try.ntmps29
      go_wp2_with fail
      go_ret2
      exact ⟨rfl, Below.refl _ _⟩
    · have e : numP l = (0, 10) := by unfold numP; rw [if_neg (by omega), if_neg (by rw [← hx]; exact h4), if_neg (by rw [← hx]; exact h6)]
      rw [e]
      have t6 : (x / 16 == 6) = false := by simpa using h6
      clear h hl e hb hs hx h0 h4 h6
      go_enter Try.func29, Try.ntmps29
      go_wp2_with fail
      go_ret2
      exact ⟨rfl, Below.refl _ _⟩
theorem right_any (A : Option Addr) (n c : Nat) (l : List Int) (p : Int) (w : World) (h : Sl w A n c l) :
    Calls Try.prog 41 #[.slice A n c, .int .i64 p] w fun o w' => o = .returned (.int .i64 (rightP l p)) ∧ Below w.heap.size w w' := by
  have HN := Lib.hid fun V (hV : Below w.heap.size w V) => number_any A n c l V (h.below hV)
  unfold rightP
  generalize numP l = z at HN ⊢
  obtain ⟨m, e⟩ := z
  clear h
  simp only
  by_cases hp : p ≠ 4 ∧ p ≠ 41
  · rw [if_pos hp]
    have t1 : (p != 4) = true := by simpa using hp.1
    have t2 : (p != 41) = true := by simpa using hp.2
    clear hp
    go_enter Try.func41, Try.ntmps41
    go_wp2_with (go_at_call 29; refine (HN.out _ (Below.refl _ _)).mono ?_; rintro o w2 ⟨rfl, hb2⟩; have HB2 := Lib.hid hb2; clear hb2)
    go_ret
    exact ⟨rfl, Below.refl _ _⟩
  rw [if_neg hp]
  have key : ∀ (a b : Bool), (p != 4) = a → (p != 41) = b → ¬ (a = true ∧ b = true) → Calls Try.prog 41 #[.slice A n c, .int .i64 p] w fun o w' => o = .returned (.int .i64 (if e = 0 ∧ m ≠ p then 14 else e)) ∧ Below w.heap.size w w' := by
    intro a b t1 t2 hab
    clear hp
    by_cases he : e = 0
    · by_cases hm : m = p
      · rw [if_neg (by omega)]
        have q1 : (e == 0) = true := by simpa using he
        have q2 : (m != p) = false := by simpa using hm
        clear he hm
        cases a with
        | false =>
          clear hab
          go_enter Try.func41, Try.ntmps41
          go_wp2_with (go_at_call 29; refine (HN.out _ (Below.refl _ _)).mono ?_; rintro o w2 ⟨rfl, hb2⟩; have HB2 := Lib.hid hb2; clear hb2)
          go_ret
          exact ⟨rfl, HB2.out⟩
        | true =>
          cases b with
          | true => exact absurd ⟨rfl, rfl⟩ hab
          | false =>
            clear hab
            go_enter Try.func41, Try.ntmps41
            go_wp2_with (go_at_call 29; refine (HN.out _ (Below.refl _ _)).mono ?_; rintro o w2 ⟨rfl, hb2⟩; have HB2 := Lib.hid hb2; clear hb2)
            go_ret
            exact ⟨rfl, HB2.out⟩
      · rw [if_pos ⟨he, hm⟩]
        have q1 : (e == 0) = true := by simpa using he
        have q2 : (m != p) = true := by simpa using hm
        clear he hm
        cases a with
        | false =>
          clear hab
          go_enter Try.func41, Try.ntmps41
          go_wp2_with (go_at_call 29; refine (HN.out _ (Below.refl _ _)).mono ?_; rintro o w2 ⟨rfl, hb2⟩; have HB2 := Lib.hid hb2; clear hb2)
          go_ret
          exact ⟨rfl, HB2.out⟩
        | true =>
          cases b with
          | true => exact absurd ⟨rfl, rfl⟩ hab
          | false =>
            clear hab
            go_enter Try.func41, Try.ntmps41
            go_wp2_with (go_at_call 29; refine (HN.out _ (Below.refl _ _)).mono ?_; rintro o w2 ⟨rfl, hb2⟩; have HB2 := Lib.hid hb2; clear hb2)
            go_ret
            exact ⟨rfl, HB2.out⟩
    · rw [if_neg (by omega)]
      have q1 : (e == 0) = false := by simpa using he
      clear he
      cases a with
      | false =>
        clear hab
        go_enter Try.func41, Try.ntmps41
        go_wp2_with (go_at_call 29; refine (HN.out _ (Below.refl _ _)).mono ?_; rintro o w2 ⟨rfl, hb2⟩; have HB2 := Lib.hid hb2; clear hb2)
        go_ret
        exact ⟨rfl, HB2.out⟩
      | true =>
        cases b with
        | true => exact absurd ⟨rfl, rfl⟩ hab
        | false =>
          clear hab
          go_enter Try.func41, Try.ntmps41
          go_wp2_with (go_at_call 29; refine (HN.out _ (Below.refl _ _)).mono ?_; rintro o w2 ⟨rfl, hb2⟩; have HB2 := Lib.hid hb2; clear hb2)
          go_ret
          exact ⟨rfl, HB2.out⟩
  refine key _ _ rfl rfl fun k => hp ⟨by simpa using k.1, by simpa using k.2⟩
end Go.Proofs.Ytodckfgfbcnkoaa.tunA
