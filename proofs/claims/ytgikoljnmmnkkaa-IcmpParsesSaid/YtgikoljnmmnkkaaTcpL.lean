/- Layer 10: what bytes that were put say. -/
import Derived.Test.YtgikoljnmmnkkaaTcpJ
import Derived.Test.YtgikoljnmmnkkaaUdpJ
namespace Go.Proofs.Ytgikoljnmmnkkaa.tcpL
open Go.ChangeShapes Go.WideShapes Go.ChangeAt Go.RowKit
open Go.Proofs.Ytgikoljnmmnkkaa.base Go.Proofs.Ytgikoljnmmnkkaa.sumA Go.Proofs.Ytgikoljnmmnkkaa.sumB Go.Proofs.Ytgikoljnmmnkkaa.octA Go.Proofs.Ytgikoljnmmnkkaa.octB Go.Proofs.Ytgikoljnmmnkkaa.octC Go.Proofs.Ytgikoljnmmnkkaa.octE Go.Proofs.Ytgikoljnmmnkkaa.octF Go.Proofs.Ytgikoljnmmnkkaa.octK Go.Proofs.Ytgikoljnmmnkkaa.rdrA Go.Proofs.Ytgikoljnmmnkkaa.udpA Go.Proofs.Ytgikoljnmmnkkaa.udpE Go.Proofs.Ytgikoljnmmnkkaa.tcpC Go.Proofs.Ytgikoljnmmnkkaa.tcpD Go.Proofs.Ytgikoljnmmnkkaa.tcpE Go.Proofs.Ytgikoljnmmnkkaa.tcpI Go.Proofs.Ytgikoljnmmnkkaa.tcpJ
set_option linter.unusedVariables false

theorem pb_four (x : Int) (h0 : 0 ≤ x) (h1 : x ≤ 4294967295) : pb x 4 4 = [x / 65536 / 256, x / 65536 % 256, x % 65536 / 256, x % 65536 % 256] := by
  show [byteZ x 3, byteZ x 2, byteZ x 1, byteZ x 0] = _
  unfold byteZ
  have a : x / 2 ^ (8 * 3) = x / 16777216 := rfl
  have b : x / 2 ^ (8 * 2) = x / 65536 := rfl
  have c : x / 2 ^ (8 * 1) = x / 256 := rfl
  have d : x / 2 ^ (8 * 0) = x := by show x / 1 = x; omega
  rw [a, b, c, d]
  congr 1
  · omega
  · congr 1
    congr 1
    · omega
    · congr 1
      omega
theorem pb_one (x : Int) (h0 : 0 ≤ x) (h1 : x ≤ 255) : pb x 1 1 = [x] := by
  show [byteZ x 0] = _
  unfold byteZ
  have d : x / 2 ^ (8 * 0) = x := by show x / 1 = x; omega
  rw [d]
  congr 1
  omega
/-- A segment with a check. -/
def tk (sp dp sq ak fl wn ur ck : Int) (os pl : List Int) : List Int :=
  [sp / 256, sp % 256, dp / 256, dp % 256, sq / 65536 / 256, sq / 65536 % 256, sq % 65536 / 256, sq % 65536 % 256, ak / 65536 / 256, ak / 65536 % 256, ak % 65536 / 256, ak % 65536 % 256,
    (20 + (os.length : Int)) / 4 * 16, fl, wn / 256, wn % 256, ck / 256, ck % 256, ur / 256, ur % 256] ++ (os ++ pl)
theorem hd0_eq (sp dp sq ak fl wn ur : Int) (os : List Int) (h1 : 0 ≤ sp) (h2 : sp ≤ 65535) (h3 : 0 ≤ dp) (h4 : dp ≤ 65535) (h5 : 0 ≤ sq) (h6 : sq ≤ 4294967295) (h7 : 0 ≤ ak) (h8 : ak ≤ 4294967295) (h9 : 0 ≤ fl) (h10 : fl ≤ 255) (h11 : 0 ≤ wn) (h12 : wn ≤ 65535) (h13 : 0 ≤ ur) (h14 : ur ≤ 65535) (ho : os.length ≤ 40) :
    hd0 sp dp sq ak fl wn ur os = tk sp dp sq ak fl wn ur 0 os [] := by
  unfold hd0 tk
  simp only [allb, List.flatMap_cons, List.flatMap_nil]
  rw [Go.Proofs.Ytgikoljnmmnkkaa.udpD.pb_two sp h1 h2, Go.Proofs.Ytgikoljnmmnkkaa.udpD.pb_two dp h3 h4, pb_four sq h5 h6, pb_four ak h7 h8, pb_one _ (by omega) (by omega), pb_one fl h9 h10, Go.Proofs.Ytgikoljnmmnkkaa.udpD.pb_two wn h11 h12, Go.Proofs.Ytgikoljnmmnkkaa.udpD.pb_two 0 (by omega) (by omega), Go.Proofs.Ytgikoljnmmnkkaa.udpD.pb_two ur h13 h14]
  simp
theorem splice_tk (sp dp sq ak fl wn ur ck : Int) (os pl : List Int) (c0 : 0 ≤ ck) (c1 : ck ≤ 65535) : splice (tk sp dp sq ak fl wn ur 0 os []) 16 (pb ck 2 2) ++ pl = tk sp dp sq ak fl wn ur ck os pl := by
  rw [Go.Proofs.Ytgikoljnmmnkkaa.udpD.pb_two ck c0 c1]
  simp [splice, tk]
theorem tk_says (sp dp sq ak fl wn ur ck : Int) (os pl : List Int) (hm : os.length % 4 = 0) :
    (tk sp dp sq ak fl wn ur ck os pl).length = 20 + os.length + pl.length ∧ w16 (tk sp dp sq ak fl wn ur ck os pl) 0 = sp ∧ w16 (tk sp dp sq ak fl wn ur ck os pl) 2 = dp ∧ w32 (tk sp dp sq ak fl wn ur ck os pl) 4 = sq ∧ w32 (tk sp dp sq ak fl wn ur ck os pl) 8 = ak ∧
      (tk sp dp sq ak fl wn ur ck os pl).getD 12 0 / 16 * 4 = ((20 + os.length : Nat) : Int) ∧ (tk sp dp sq ak fl wn ur ck os pl).getD 12 0 % 16 = 0 ∧ (tk sp dp sq ak fl wn ur ck os pl).getD 13 0 = fl ∧ w16 (tk sp dp sq ak fl wn ur ck os pl) 14 = wn ∧ w16 (tk sp dp sq ak fl wn ur ck os pl) 18 = ur ∧
      ((tk sp dp sq ak fl wn ur ck os pl).take (20 + os.length)).drop 20 = os ∧ (tk sp dp sq ak fl wn ur ck os pl).drop (20 + os.length) = pl := by
  refine ⟨?_, ?_, ?_, ?_, ?_, ?_, ?_, rfl, ?_, ?_, ?_, ?_⟩
  · simp [tk]; omega
  · show sp / 256 * 256 + sp % 256 = sp; omega
  · show dp / 256 * 256 + dp % 256 = dp; omega
  · show (sq / 65536 / 256 * 256 + sq / 65536 % 256) * 65536 + (sq % 65536 / 256 * 256 + sq % 65536 % 256) = sq; omega
  · show (ak / 65536 / 256 * 256 + ak / 65536 % 256) * 65536 + (ak % 65536 / 256 * 256 + ak % 65536 % 256) = ak; omega
  · show (20 + (os.length : Int)) / 4 * 16 / 16 * 4 = _; omega
  · show (20 + (os.length : Int)) / 4 * 16 % 16 = 0; omega
  · show wn / 256 * 256 + wn % 256 = wn; omega
  · show ur / 256 * 256 + ur % 256 = ur; omega
  · rw [List.drop_take]
    have e : (tk sp dp sq ak fl wn ur ck os pl).drop 20 = os ++ pl := rfl
    rw [e, Nat.add_sub_cancel_left, List.take_left]
  · have e : (tk sp dp sq ak fl wn ur ck os pl).drop 20 = os ++ pl := rfl
    rw [← List.drop_drop, e, List.drop_left]
theorem wsum_tk (sp dp sq ak fl wn ur ck : Int) (os pl : List Int) (hm : os.length % 4 = 0) (c0 : 0 ≤ ck) (c1 : ck ≤ 65535) : wsum (tk sp dp sq ak fl wn ur ck os pl) = wsum (tk sp dp sq ak fl wn ur 0 os pl) + ck := by
  have e : ∀ k : Int, wsum (tk sp dp sq ak fl wn ur k os pl) = wsum ((tk sp dp sq ak fl wn ur k [] []).take 20 |>.set 12 ((20 + (os.length : Int)) / 4 * 16)) + wsum (os ++ pl) := fun k => Go.Proofs.Ytgikoljnmmnkkaa.udpJ.wsum_app 10 _ _ rfl
  rw [e ck, e 0]
  simp only [tk, wsum, List.take, List.set, List.cons_append, List.nil_append]
  omega
theorem tb_tk (sp dp sq ak fl wn ur : Int) (os pl : List Int) (hm : os.length % 4 = 0) : tb sp dp sq ak fl wn ur os pl = tk sp dp sq ak fl wn ur 0 os pl := by
  unfold tb tk
  rw [show (5 + (os.length : Int) / 4) * 16 = (20 + (os.length : Int)) / 4 * 16 by omega, List.append_assoc]
  rfl
theorem tk_set (sp dp sq ak fl wn ur ck : Int) (os pl : List Int) : ((tk sp dp sq ak fl wn ur 0 os pl).set 16 (ck / 256)).set 17 (ck % 256) = tk sp dp sq ak fl wn ur ck os pl := rfl
theorem fo_full (s : Int) (h : 0 ≤ s) : fo (s + (65535 - fo s)) = 65535 ∨ fo s = 65535 := by
  have a := fo_bd s h
  have b := fo_add (x := s) (t := 65535 - fo s) h (by omega)
  refine .inl ?_
  rw [← b, show fo s + (65535 - fo s) = 65535 by omega]
  rfl
theorem chk_right (sp dp sq ak fl wn ur : Int) (os pl ps : List Int) (hm : os.length % 4 = 0) (he : ps.length % 2 = 0) (hin : ∀ x ∈ ps ++ tk sp dp sq ak fl wn ur 0 os pl, 0 ≤ x ∧ x ≤ 255) :
    fo (wsum (ps ++ tk sp dp sq ak fl wn ur (65535 - fo (wsum (ps ++ tk sp dp sq ak fl wn ur 0 os pl))) os pl)) = 65535 := by
  have s0 := (wsum_bd _ hin).1
  have b := fo_bd _ s0
  have e : ps.length = 2 * (ps.length / 2) := by omega
  rw [Go.Proofs.Ytgikoljnmmnkkaa.udpJ.wsum_app _ _ _ e, wsum_tk sp dp sq ak fl wn ur _ os pl hm (by omega) (by omega), ← Int.add_assoc, ← Go.Proofs.Ytgikoljnmmnkkaa.udpJ.wsum_app _ _ _ e]
  rcases fo_full _ s0 with h | h
  · exact h
  · rw [h]; simpa using h
end Go.Proofs.Ytgikoljnmmnkkaa.tcpL
