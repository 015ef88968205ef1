/- 7 texts in one. -/
import Derived.Deep.RegionHeld3
import Derived.Deep.DeepCutAuto
import Derived.Laws.CopyOwn
import Derived.Test.YtodckfgfbcnkoaaTa01
import Derived.Test.YtodckfgfbcnkoaaTa03
import Derived.Test.YtodckfgfbcnkoaaTa08
import Derived.Test.YtodckfgfbcnkoaaTa14
import Derived.Test.YtodckfgfbcnkoaaTa15
import Derived.Test.YtodckfgfbcnkoaaTa21
/- Layer 9: the law SixParses where a header begins. -/
namespace Go.Proofs.Ytodckfgfbcnkoaa.sixU
open Go.ChangeShapes Go.WideShapes Go.ChangeAt Go.RowKit
open Go.Proofs.Ytodckfgfbcnkoaa.sixW Go.Proofs.Ytodckfgfbcnkoaa.sixB
set_option linter.unusedVariables false

theorem le2047 {l : List XP} (h : RightE l) (x : XP) (hx : x ∈ l) : x.2.length ≤ 2047 := by
  obtain ⟨i, hi, rfl⟩ := List.getElem_of_mem hx
  have := h.each i hi
  unfold rightX at this
  simp only [Bool.and_eq_true, decide_eq_true_eq] at this
  exact this.1.2.1
end Go.Proofs.Ytodckfgfbcnkoaa.sixU
/- Layer 13: pkt.Parse. -/
namespace Go.Proofs.Ytodckfgfbcnkoaa.pktG
open Go.ChangeShapes Go.WideShapes Go.ChangeAt Go.RowKit
open Go.Proofs.Ytodckfgfbcnkoaa.base Go.Proofs.Ytodckfgfbcnkoaa.octA Go.Proofs.Ytodckfgfbcnkoaa.rdrA Go.Proofs.Ytodckfgfbcnkoaa.rdrG Go.Proofs.Ytodckfgfbcnkoaa.sixW Go.Proofs.Ytodckfgfbcnkoaa.sixM Go.Proofs.Ytodckfgfbcnkoaa.pktA Go.Proofs.Ytodckfgfbcnkoaa.pktB Go.Proofs.Ytodckfgfbcnkoaa.pktC Go.Proofs.Ytodckfgfbcnkoaa.pktD Go.Proofs.Ytodckfgfbcnkoaa.pktE Go.Proofs.Ytodckfgfbcnkoaa.sixA Go.Proofs.Ytodckfgfbcnkoaa.sixE Go.Proofs.Ytodckfgfbcnkoaa.sixF Go.Proofs.Ytodckfgfbcnkoaa.sixO Go.Proofs.Ytodckfgfbcnkoaa.pktF
set_option linter.unusedVariables false

def p4 (l : List Int) : Pk × Int := if fourE l ≠ 0 then (zeroPk, fourE l) else if udpA.w16 l 6 % 8192 ≠ 0 ∨ decide (udpA.w16 l 6 / 8192 % 2 = 1) = true then (zeroPk, 21)
  else withP false ⟨l.getD 9 0, false, 0, tcpC.w32 l 12, false, 0, tcpC.w32 l 16, 0, 0⟩ (l.getD 8 0) (20 + ((fourS l - 20 : Nat) : Int) + ((fourR l).length : Int)) (fourR l)
def p6 (l : List Int) : Pk × Int := match sixP l with
  | .inl e => (zeroPk, e)
  | .inr (ys, q, r) => if lies ys / 8 ≠ 0 ∨ decide (lies ys % 2 = 1) = true then (zeroPk, 21)
    else withP true ⟨q, true, (hdOf l q).sh, (hdOf l q).sl, true, (hdOf l q).dh, (hdOf l q).dl, 0, 0⟩ (l.getD 7 0) (((40 + extL ys : Nat) : Int) + (r.length : Int)) r
def pkP (l : List Int) : Pk × Int := if l.length = 0 then (zeroPk, 2) else if 9000 < l.length then (zeroPk, 25) else if l.getD 0 0 / 16 = 4 then p4 l else if l.getD 0 0 / 16 = 6 then p6 l else (zeroPk, 10)
theorem w32_in8 (l : List Int) (hu : U8 l) (i : Nat) : 0 ≤ tcpC.w32 l i ∧ tcpC.w32 l i < 18446744073709551616 := by
  have a := hu.get i; have b := hu.get (i + 1); have c := hu.get (i + 2); have d := hu.get (i + 2 + 1)
  show 0 ≤ (l.getD i 0 * 256 + l.getD (i + 1) 0) * 65536 + (l.getD (i + 2) 0 * 256 + l.getD (i + 2 + 1) 0) ∧ (l.getD i 0 * 256 + l.getD (i + 1) 0) * 65536 + (l.getD (i + 2) 0 * 256 + l.getD (i + 2 + 1) 0) < 18446744073709551616
  omega
theorem fourS_in (l : List Int) (hu : U8 l) (hn : l.length ≤ 1000) (he : fourE l = 0) : 20 ≤ fourS l ∧ fourS l ≤ 60 ∧ (fourR l).length ≤ l.length := by
  have k0 := hu.get 0
  have hs : 0 ≤ fourA.hl l ∧ fourA.hl l ≤ 60 := by unfold fourA.hl; omega
  unfold fourE at he
  split at he
  · omega
  · split at he
    · omega
    · split at he
      · omega
      · refine ⟨by unfold fourS; omega, by unfold fourS; omega, ?_⟩
        unfold fourR
        rw [List.length_take, List.length_drop]
        omega
theorem parse4_any (A : Option Addr) (n c : Nat) (l : List Int) (w : World) (h : Sl w A n c l) (hn : n ≤ 1000) :
    Calls Try.prog 35 #[.slice A n c] w fun o w' => o = .returned (.tuple #[.agg (p4 l).1.cells, .int .i64 (p4 l).2]) ∧ Below w.heap.size w w' := by
  have HF := fun V (hV : Below w.heap.size w V) => four_any A n c l V (h.below hV) hn
  have hl := h.len
  unfold p4
  by_cases he : fourE l = 0
  · rw [if_neg (by omega)]
    have HG : ∀ V, Below w.heap.size w V → Calls Try.prog 21 #[.slice A n c] V fun o w' => Below V.heap.size V w' ∧ (20 ≤ fourS l ∧ fourS l ≤ 60 ∧ (fourR l).length ≤ l.length ∧ ∃ (tos id : Int) (df : Bool) (AO : Option Addr) (co : Nat) (AR : Option Addr) (cr : Nat), o = .returned (.tuple #[.agg #[.int .i64 tos, .int .i64 id, .bool df, .bool (decide (udpA.w16 l 6 / 8192 % 2 = 1)), .int .i64 (udpA.w16 l 6 % 8192), .int .i64 (l.getD 8 0), .int .i64 (l.getD 9 0), .bool false, .int .u64 0, .int .u64 (tcpC.w32 l 12), .bool false, .int .u64 0, .int .u64 (tcpC.w32 l 16), .slice AO (fourS l - 20) co], .slice AR (fourR l).length cr, .int .i64 0]) ∧ Sl w' AR (fourR l).length cr (fourR l)) := fun V hV => (HF V hV).mono fun o w' k => by
      obtain ⟨hb, k⟩ := k
      rcases k with ⟨k1, _⟩ | ⟨_, k2⟩
      · exact absurd he k1
      · exact ⟨hb, k2⟩
    have hs := fourS_in l h.u8 (by omega) he
    have hr : (fourR l).length ≤ 1000 := by omega
    have k6 := udpA.w16_in l h.u8 6
    by_cases hf : udpA.w16 l 6 % 8192 ≠ 0 ∨ decide (udpA.w16 l 6 / 8192 % 2 = 1) = true
    · rw [if_pos hf]
      exact parse4_frag A n c _ _ (l.getD 8 0) (l.getD 9 0) (tcpC.w32 l 12) (tcpC.w32 l 16) (fourS l - 20) (fourR l) hr hf w (Lib.hid fun V hV => (HG V hV).mono fun o w' k => ⟨k.1, k.2.2.2.2⟩)
    · rw [if_neg hf]
      have h1 : udpA.w16 l 6 % 8192 = 0 := Classical.byContradiction fun e => hf (.inl e)
      have h2 : decide (udpA.w16 l 6 / 8192 % 2 = 1) = false := by
        cases hd : decide (udpA.w16 l 6 / 8192 % 2 = 1) with
        | false => rfl
        | true => exact absurd (.inr hd) hf
      exact parse4_ok A n c _ _ (l.getD 8 0) (l.getD 9 0) (tcpC.w32 l 12) (tcpC.w32 l 16) (fourS l - 20) (fourR l) hr h1 h2 (by omega) _ _ _ rfl w (Lib.hid fun V hV => (HG V hV).mono fun o w' k => ⟨k.1, k.2.2.2.2⟩)
        (Lib.hid fun V A2 c2 hV hsl => with_any false (l.getD 9 0) false 0 (tcpC.w32 l 12) false 0 (tcpC.w32 l 16) (l.getD 8 0) _ A2 (fourR l).length c2 (fourR l) V hsl hr ⟨by omega, by omega⟩ (w32_in8 l h.u8 12) ⟨by omega, by omega⟩ (w32_in8 l h.u8 16) (h.u8.get 9))
  · rw [if_pos he]
    exact parse4_fail A n c _ he w (Lib.hid fun V hV => (HF V hV).mono fun o w' k => by
      obtain ⟨hb, k⟩ := k
      rcases k with ⟨_, k2⟩ | ⟨k1, _⟩
      · exact ⟨k2, hb⟩
      · exact absurd k1 he)
theorem parse6_any (A : Option Addr) (n c : Nat) (l : List Int) (w : World) (h : Sl w A n c l) (hn : n ≤ 1000) (hv : l.getD 0 0 / 16 = 6) :
    Calls Try.prog 36 #[.slice A n c] w fun o w' => o = .returned (.tuple #[.agg (p6 l).1.cells, .int .i64 (p6 l).2]) ∧ Below w.heap.size w w' := by
  have hl := h.len
  have F : ∀ e, e ≠ 0 → sixP l = .inl e → (∀ V, Below w.heap.size w V → Calls Try.prog 19 #[.slice A n c] V (HeadP V l (sixP l))) → Calls Try.prog 36 #[.slice A n c] w fun o w' => o = .returned (.tuple #[.agg (p6 l).1.cells, .int .i64 (p6 l).2]) ∧ Below w.heap.size w w' := fun e he hs hc => by
    have e2 : p6 l = (zeroPk, e) := by unfold p6; rw [hs]
    rw [e2]
    rw [hs] at hc
    exact parse6_fail A n c e he w (Lib.hid fun V hV => (hc V hV).mono fun o w' k => sixS.headP_fail k)
  by_cases h40 : n < 40
  · exact F 2 (by omega) (by unfold sixP; rw [if_pos (by omega)]) fun V hV => sixF.parse_short A n c l V hl h40
  obtain ⟨b, off, rfl, hb, hs⟩ := lies_of h.row (by omega)
  have HH : ∀ V, Below w.heap.size w V → Calls Try.prog 19 #[.slice (some ⟨b, off, none⟩) n c] V (HeadP V l (sixP l)) := fun V hV => sixF.parse_ok b off n c l V hl (by omega) (by omega) h.nc h.mx (Nat.lt_of_lt_of_le hb hV.size) (hs.below hV hb) h.u8 hv
  by_cases hz : l.length - 40 < sizeP l
  · exact F 12 (by omega) (by unfold sixP; rw [if_neg (by omega), if_neg (by omega), if_pos hz]) HH
  have e : sixP l = ofC (chn 9 [] (l.getD 6 0) ((l.take (40 + sizeP l)).drop 40)) := by unfold sixP; rw [if_neg (by omega), if_neg (by omega), if_neg hz]
  rcases hC : chn 9 [] (l.getD 6 0) ((l.take (40 + sizeP l)).drop 40) with _ | ⟨ys, q, r⟩
  · exact F 11 (by omega) (by rw [e, hC]; rfl) HH
  have e1 : sixP l = .inr (ys, q, r) := by rw [e, hC]; rfl
  obtain ⟨g1, g2, g3, g4, g5⟩ := sixT.put_back l h.u8 (by omega) hv (by omega) hC
  have hq : 0 ≤ q ∧ q ≤ 255 := ⟨g2.p0, g2.p1⟩
  have hxl := extL_le g2.e
  have ub1 := h.u8.drop 8
  have ub2 := h.u8.drop 24
  have HG : ∀ V, Below w.heap.size w V → Calls Try.prog 19 #[.slice (some ⟨b, off, none⟩) n c] V fun o w' => Below V.heap.size V w' ∧ ∃ (AX : Option Addr) (nx cx : Nat) (cls lab : Int) (AR : Option Addr) (cr : Nat), o = .returned (.tuple #[.agg #[.int .i64 cls, .int .i64 lab, .int .i64 (l.getD 7 0), .bool true, .int .u64 (hdOf l q).sh, .int .u64 (hdOf l q).sl, .bool true, .int .u64 (hdOf l q).dh, .int .u64 (hdOf l q).dl, .slice AX nx cx, .int .i64 q], .slice AR r.length cr, .int .i64 0]) ∧ Sl w' AR r.length cr r
      ∧ (∀ V2, Below w'.heap.size w' V2 → Calls Try.prog 20 #[.agg #[.int .i64 cls, .int .i64 lab, .int .i64 (l.getD 7 0), .bool true, .int .u64 (hdOf l q).sh, .int .u64 (hdOf l q).sl, .bool true, .int .u64 (hdOf l q).dh, .int .u64 (hdOf l q).dl, .slice AX nx cx, .int .i64 q]] V2 fun o w' => o = .returned (.int .i64 (lies ys / 8)) ∧ Below V2.heap.size V2 w')
      ∧ (∀ V2, Below w'.heap.size w' V2 → Calls Try.prog 67 #[.agg #[.int .i64 cls, .int .i64 lab, .int .i64 (l.getD 7 0), .bool true, .int .u64 (hdOf l q).sh, .int .u64 (hdOf l q).sl, .bool true, .int .u64 (hdOf l q).dh, .int .u64 (hdOf l q).dl, .slice AX nx cx, .int .i64 q]] V2 fun o w' => o = .returned (.bool (decide (lies ys % 2 = 1))) ∧ Below V2.heap.size V2 w')
      ∧ (∀ V2, Below w'.heap.size w' V2 → Calls Try.prog 33 #[.agg #[.int .i64 cls, .int .i64 lab, .int .i64 (l.getD 7 0), .bool true, .int .u64 (hdOf l q).sh, .int .u64 (hdOf l q).sl, .bool true, .int .u64 (hdOf l q).dh, .int .u64 (hdOf l q).dl, .slice AX nx cx, .int .i64 q]] V2 fun o w' => o = .returned (.int .i64 (40 + extL ys : Nat)) ∧ Below V2.heap.size V2 w') := fun V hV => by
    have h9 := HH V hV
    rw [e1] at h9
    refine h9.mono fun o w' k => ?_
    obtain ⟨hb9, L, A9, c9, B9, d9, k1, k2, k3, k4⟩ := sixS.headP_good k
    have hU : ∀ x ∈ L, U8 x.d := fun x hx => g3 x.re (by rw [← k2]; exact List.mem_map_of_mem hx)
    have hLn : L.length = ys.length := by rw [← k2, List.length_map]
    have h8 := g2.e.most
    have hd7 : ∀ x ∈ L, x.d.length ≤ 2047 := fun x hx => sixU.le2047 g2.e x.re (by rw [← k2]; exact List.mem_map_of_mem hx)
    refine ⟨hb9, A9, ys.length, c9, _, _, B9, d9, k1, Sl.own k4 rfl g4, fun V2 hV2 => ?_, fun V2 hV2 => ?_, fun V2 hV2 => ?_⟩
    · have h7 := sixA.frag_any (hdOf l q) A9 ys.length c9 L V2 hLn ((k3.below hV2).rd hU) (by omega)
      rw [k2] at h7
      exact h7
    · have h7 := sixA.more_any (hdOf l q) A9 ys.length c9 L V2 hLn ((k3.below hV2).rd hU) (by omega)
      rw [k2] at h7
      exact h7
    · have h7 := sixO.len_any (hdOf l q) A9 ys.length c9 L V2 hLn ((k3.below hV2).rd hU) (by omega) hd7
      rw [k2] at h7
      exact h7
  have e2 : p6 l = if lies ys / 8 ≠ 0 ∨ decide (lies ys % 2 = 1) = true then (zeroPk, 21) else withP true ⟨q, true, (hdOf l q).sh, (hdOf l q).sl, true, (hdOf l q).dh, (hdOf l q).dl, 0, 0⟩ (l.getD 7 0) (((40 + extL ys : Nat) : Int) + (r.length : Int)) r := by unfold p6; rw [e1]
  rw [e2]
  by_cases hf : lies ys / 8 ≠ 0 ∨ decide (lies ys % 2 = 1) = true
  · rw [if_pos hf]
    exact parse6_frag _ n c (l.getD 7 0) true _ _ true _ _ q r (by omega) _ _ (extL ys) hf w (Lib.hid HG)
  · rw [if_neg hf]
    have h1 : lies ys / 8 = 0 := Classical.byContradiction fun e => hf (.inl e)
    have h2 : decide (lies ys % 2 = 1) = false := by
      cases hd : decide (lies ys % 2 = 1) with
      | false => rfl
      | true => exact absurd (.inr hd) hf
    exact parse6_ok _ n c (l.getD 7 0) true _ _ true _ _ q r (by omega) _ _ (extL ys) h1 h2 (by omega) _ _ _ rfl w (Lib.hid HG)
      (Lib.hid fun V A2 c2 hV hsl => with_any true q true _ _ true _ _ (l.getD 7 0) _ A2 r.length c2 r V hsl (by omega) (sixT.atN_in8 _ ub1 0) (sixT.atN_in8 _ ub1 8) (sixT.atN_in8 _ ub2 0) (sixT.atN_in8 _ ub2 8) hq)
set_option maxHeartbeats 4000000 in
set_option maxRecDepth 100000 in
theorem parse_any (A : Option Addr) (n c : Nat) (l : List Int) (w : World) (h : Sl w A n c l) (hn : n ≤ 1000) :
    Calls Try.prog 14 #[.slice A n c] w fun o w' => o = .returned (.tuple #[.agg (pkP l).1.cells, .int .i64 (pkP l).2]) ∧ Below w.heap.size w w' := by
  have hl := h.len
  obtain ⟨w1, hw1⟩ : ∃ w1, w1 = w.alloc (.cells #[.bool false, .int .i64 0, .bool false, .int .u64 0, .int .u64 0, .bool false, .int .u64 0, .int .u64 0, .int .i64 0, .int .i64 0, .int .i64 0, .int .i64 0, .bool false, .int .i64 0, .bool false, .int .u64 0, .int .u64 0, .bool false, .int .u64 0, .int .u64 0, .int .i64 0, .int .i64 0, .int .i64 0] 36) := ⟨_, rfl⟩
  have E1 := Lib.hid hw1
  have B1 := Lib.hid (show Below w.heap.size w w1 from by rw [hw1]; exact (Below.refl _ _).alloc (Nat.le_refl _) _)
  obtain ⟨q, hq⟩ : ∃ q, q = w.heap.size := ⟨_, rfl⟩
  have EQ := Lib.hid hq
  have KQ := Lib.hid (show Blk w1 q 36 #[.bool false, .int .i64 0, .bool false, .int .u64 0, .int .u64 0, .bool false, .int .u64 0, .int .u64 0, .int .i64 0, .int .i64 0, .int .i64 0, .int .i64 0, .bool false, .int .i64 0, .bool false, .int .u64 0, .int .u64 0, .bool false, .int .u64 0, .int .u64 0, .int .i64 0, .int .i64 0, .int .i64 0] from by rw [hw1, hq]; exact Blk.new w _ _)
  have HI := Lib.hid pk_size
  clear hw1 hq
  have t9 : decide (9000 < (n : Int)) = false := decide_eq_false (by omega)
  have t9n : decide (9000 < n) = false := decide_eq_false (by omega)
  by_cases h0 : n = 0
  · have e : pkP l = (zeroPk, 2) := by unfold pkP; rw [if_pos (by omega)]
    rw [e]
    show Calls _ _ _ _ fun o w' => o = .returned (.tuple #[.agg #[.bool false, .int .i64 0, .bool false, .int .u64 0, .int .u64 0, .bool false, .int .u64 0, .int .u64 0, .int .i64 0, .int .i64 0, .int .i64 0, .int .i64 0, .bool false, .int .i64 0, .bool false, .int .u64 0, .int .u64 0, .bool false, .int .u64 0, .int .u64 0, .int .i64 0, .int .i64 0, .int .i64 0], .int .i64 2]) ∧ _
    subst h0
    clear h hl e
    go_enter Try.func14, Try.ntmps14
    go_upto_region 1 with fail
    rw [← E1.out, ← EQ.out]
    go_wp2_with (refine wpList_store_row rfl 36 _ _ rfl q #[.bool false, .int .i64 0, .bool false, .int .u64 0, .int .u64 0, .bool false, .int .u64 0, .int .u64 0, .int .i64 0, .int .i64 0, .int .i64 0, .int .i64 0, .bool false, .int .i64 0, .bool false, .int .u64 0, .int .u64 0, .bool false, .int .u64 0, .int .u64 0, .int .i64 0, .int .i64 0, .int .i64 0] rfl rfl 36 #[.bool false, .int .i64 0, .bool false, .int .u64 0, .int .u64 0, .bool false, .int .u64 0, .int .u64 0, .int .i64 0, .int .i64 0, .int .i64 0, .int .i64 0, .bool false, .int .i64 0, .bool false, .int .u64 0, .int .u64 0, .bool false, .int .u64 0, .int .u64 0, .int .i64 0, .int .i64 0, .int .i64 0] KQ.out HI.out rfl (by kernel_rfl) ?_)
    refine bodyPost_ret (results_pk rfl _ _ q #[.bool false, .int .i64 0, .bool false, .int .u64 0, .int .u64 0, .bool false, .int .u64 0, .int .u64 0, .int .i64 0, .int .i64 0, .int .i64 0, .int .i64 0, .bool false, .int .i64 0, .bool false, .int .u64 0, .int .u64 0, .bool false, .int .u64 0, .int .u64 0, .int .i64 0, .int .i64 0, .int .i64 0] rfl (blkRow KQ.out _) rfl) rfl ?_
    exact ⟨rfl, (onlyRow _).from B1.out (by have := EQ.out; omega)⟩
  obtain ⟨b, off, rfl, hb, hs⟩ := lies_of h.row (by omega)
  have y0 : w1.cell? ⟨b, off, none⟩ = some (.int .u8 (l.getD 0 0)) := (hs.below B1.out hb) 0 (by omega)
  have u0 := h.u8.get 0
  have c0 : ((n : Int) == 0) = false := by simpa using h0
  have c0n : (n == 0) = false := by simpa using h0
  have j0 : 0 < n := by omega
  have j1 : (0 : Int) < n := by omega
  have HSL := Lib.hid (h.below B1.out)
  obtain ⟨x, hx⟩ : ∃ x, x = l.getD 0 0 := ⟨_, rfl⟩
  have HX := Lib.hid hx
  rw [← hx] at y0 u0
  by_cases h4 : x / 16 = 4
  · have e : pkP l = p4 l := by unfold pkP; rw [if_neg (by omega), if_neg (by omega), if_pos (by rw [← hx]; exact h4)]
    have HP := Lib.hid (parse4_any (some ⟨b, off, none⟩) n c l w1 HSL.out hn)
    rw [e]
    generalize p4 l = z at HP ⊢
    obtain ⟨P, ee⟩ := z
    have PS2 := Lib.hid (show P.cells.all (·.oneCell') = true from by simp [Pk.cells, Value.oneCell'])
    have t4 : (x / 16 == 4) = true := by simpa using h4
    clear h hl e hb hs hx h0 h4
    go_enter Try.func14, Try.ntmps14
    go_upto_region 1 with fail
    rw [← E1.out, ← EQ.out]
    go_wp2_with (first
      | (go_at_call 35; refine HP.out.mono ?_; rintro o w2 ⟨rfl, hb2⟩; have KQ2 := Lib.hid (KQ.out.below hb2 KQ.out.lt); have B2 := Lib.hid (B1.out.trans (hb2.mono B1.out.size)); clear hb2)
      | (refine wpList_store_row rfl 36 _ _ rfl q P.cells rfl rfl 36 #[.bool false, .int .i64 0, .bool false, .int .u64 0, .int .u64 0, .bool false, .int .u64 0, .int .u64 0, .int .i64 0, .int .i64 0, .int .i64 0, .int .i64 0, .bool false, .int .i64 0, .bool false, .int .u64 0, .int .u64 0, .bool false, .int .u64 0, .int .u64 0, .int .i64 0, .int .i64 0, .int .i64 0] KQ2.out HI.out rfl PS2.out ?_))
    refine bodyPost_ret (results_pk rfl _ _ q P.cells rfl (blkRow KQ2.out _) rfl) rfl ?_
    exact ⟨rfl, (onlyRow _).from B2.out (by have := EQ.out; omega)⟩
  · have t4 : (x / 16 == 4) = false := by simpa using h4
    by_cases h6 : x / 16 = 6
    · have e : pkP l = p6 l := by unfold pkP; rw [if_neg (by omega), if_neg (by omega), if_neg (by rw [← hx]; exact h4), if_pos (by rw [← hx]; exact h6)]
      have HP := Lib.hid (parse6_any (some ⟨b, off, none⟩) n c l w1 HSL.out hn (by rw [← hx]; exact h6))
      rw [e]
      generalize p6 l = z at HP ⊢
      obtain ⟨P, ee⟩ := z
      have PS2 := Lib.hid (show P.cells.all (·.oneCell') = true from by simp [Pk.cells, Value.oneCell'])
      have t6 : (x / 16 == 6) = true := by simpa using h6
      clear h hl e hb hs hx h0 h4 h6
      go_enter Try.func14, Try.ntmps14
      go_upto_region 1 with fail
      rw [← E1.out, ← EQ.out]
      go_wp2_with (first
        | (go_at_call 36; refine HP.out.mono ?_; rintro o w2 ⟨rfl, hb2⟩; have KQ2 := Lib.hid (KQ.out.below hb2 KQ.out.lt); have B2 := Lib.hid (B1.out.trans (hb2.mono B1.out.size)); clear hb2)
        | (refine wpList_store_row rfl 36 _ _ rfl q P.cells rfl rfl 36 #[.bool false, .int .i64 0, .bool false, .int .u64 0, .int .u64 0, .bool false, .int .u64 0, .int .u64 0, .int .i64 0, .int .i64 0, .int .i64 0, .int .i64 0, .bool false, .int .i64 0, .bool false, .int .u64 0, .int .u64 0, .bool false, .int .u64 0, .int .u64 0, .int .i64 0, .int .i64 0, .int .i64 0] KQ2.out HI.out rfl PS2.out ?_))
      refine bodyPost_ret (results_pk rfl _ _ q P.cells rfl (blkRow KQ2.out _) rfl) rfl ?_
      exact ⟨rfl, (onlyRow _).from B2.out (by have := EQ.out; omega)⟩
    · have e : pkP l = (zeroPk, 10) := by unfold pkP; rw [if_neg (by omega), if_neg (by omega), if_neg (by rw [← hx]; exact h4), if_neg (by rw [← hx]; exact h6)]
      rw [e]
      show Calls _ _ _ _ fun o w' => o = .returned (.tuple #[.agg #[.bool false, .int .i64 0, .bool false, .int .u64 0, .int .u64 0, .bool false, .int .u64 0, .int .u64 0, .int .i64 0, .int .i64 0, .int .i64 0, .int .i64 0, .bool false, .int .i64 0, .bool false, .int .u64 0, .int .u64 0, .bool false, .int .u64 0, .int .u64 0, .int .i64 0, .int .i64 0, .int .i64 0], .int .i64 10]) ∧ _
      have t6 : (x / 16 == 6) = false := by simpa using h6
      clear h hl e hb hs hx h0 h4 h6
      go_enter Try.func14, Try.ntmps14
      go_upto_region 1 with fail
      rw [← E1.out, ← EQ.out]
      go_wp2_with (refine wpList_store_row rfl 36 _ _ rfl q #[.bool false, .int .i64 0, .bool false, .int .u64 0, .int .u64 0, .bool false, .int .u64 0, .int .u64 0, .int .i64 0, .int .i64 0, .int .i64 0, .int .i64 0, .bool false, .int .i64 0, .bool false, .int .u64 0, .int .u64 0, .bool false, .int .u64 0, .int .u64 0, .int .i64 0, .int .i64 0, .int .i64 0] rfl rfl 36 #[.bool false, .int .i64 0, .bool false, .int .u64 0, .int .u64 0, .bool false, .int .u64 0, .int .u64 0, .int .i64 0, .int .i64 0, .int .i64 0, .int .i64 0, .bool false, .int .i64 0, .bool false, .int .u64 0, .int .u64 0, .bool false, .int .u64 0, .int .u64 0, .int .i64 0, .int .i64 0, .int .i64 0] KQ.out HI.out rfl (by kernel_rfl) ?_)
      refine bodyPost_ret (results_pk rfl _ _ q #[.bool false, .int .i64 0, .bool false, .int .u64 0, .int .u64 0, .bool false, .int .u64 0, .int .u64 0, .int .i64 0, .int .i64 0, .int .i64 0, .int .i64 0, .bool false, .int .i64 0, .bool false, .int .u64 0, .int .u64 0, .bool false, .int .u64 0, .int .u64 0, .int .i64 0, .int .i64 0, .int .i64 0] rfl (blkRow KQ.out _) rfl) rfl ?_
      exact ⟨rfl, (onlyRow _).from B1.out (by have := EQ.out; omega)⟩
end Go.Proofs.Ytodckfgfbcnkoaa.pktG
/- Layer 13: a packet whose bytes behind its header a closure makes. -/
namespace Go.Proofs.Ytodckfgfbcnkoaa.pktL
open Go.ChangeShapes Go.WideShapes Go.ChangeAt Go.RowKit
open Go.Proofs.Ytodckfgfbcnkoaa.rdrA Go.Proofs.Ytodckfgfbcnkoaa.rdrG Go.Proofs.Ytodckfgfbcnkoaa.pktA Go.Proofs.Ytodckfgfbcnkoaa.pktB
set_option linter.unusedVariables false

def MkP (e : Int) (out : List Int) (w : World) (o : Ending) (w' : World) : Prop := Below w.heap.size w w' ∧ ∃ (A : Option Addr) (n c : Nat), o = .returned (.tuple #[.slice A n c, .int .i64 e]) ∧ Sl w' A n c out
theorem MkP.nil_ {e : Int} {w w' : World} (h : Below w.heap.size w w') : MkP e [] w (.returned (.tuple #[.slice none 0 0, .int .i64 e])) w' := ⟨h, none, 0, 0, rfl, Sl.none_ w'⟩
end Go.Proofs.Ytodckfgfbcnkoaa.pktL
namespace Go.Proofs.Ytodckfgfbcnkoaa.udpB
end Go.Proofs.Ytodckfgfbcnkoaa.udpB
namespace Go.Proofs.Ytodckfgfbcnkoaa.udpC
end Go.Proofs.Ytodckfgfbcnkoaa.udpC
/- Layer 8: headers that may be, flags, alike ones, why bytes are none. -/
namespace Go.Proofs.Ytodckfgfbcnkoaa.fourC
open Go.ChangeShapes Go.WideShapes Go.ChangeAt Go.RowKit
open Go.Proofs.Ytodckfgfbcnkoaa.base Go.Proofs.Ytodckfgfbcnkoaa.sumB Go.Proofs.Ytodckfgfbcnkoaa.rdrA Go.Proofs.Ytodckfgfbcnkoaa.net
set_option linter.unusedVariables false

def okF (tos id fr ttl pr sl dl : Int) (no : Nat) : Prop := (0 ≤ tos ∧ tos ≤ 255) ∧ (0 ≤ id ∧ id ≤ 65535) ∧ (0 ≤ fr ∧ fr ≤ 8191) ∧ (0 ≤ ttl ∧ ttl ≤ 255) ∧ (0 ≤ pr ∧ pr ≤ 255) ∧ (0 ≤ sl ∧ sl ≤ 4294967295) ∧ (0 ≤ dl ∧ dl ≤ 4294967295) ∧ no ≤ 40 ∧ no % 4 = 0
def flz (df mf : Bool) (fr : Int) : Int := fr + (if df then 16384 else 0) + (if mf then 8192 else 0)
theorem flz_in (df mf : Bool) (fr : Int) (h0 : 0 ≤ fr) (h1 : fr ≤ 8191) : 0 ≤ flz df mf fr ∧ flz df mf fr ≤ 65535 := by
  unfold flz
  cases df <;> cases mf <;> simp <;> omega
theorem or_pow (n k : Nat) (h : n < 2 ^ k) : n ||| 2 ^ k = n + 2 ^ k := by
  have := Nat.shiftLeft_add_eq_or_of_lt h 1
  rw [Nat.shiftLeft_eq, Nat.one_mul] at this
  rw [Nat.or_comm, ← this, Nat.add_comm]
theorem u64_or_nat (a b : Nat) (ha : a < 9223372036854775808) (hb : b < 9223372036854775808) : bits .or .u64 (a : Int) (b : Int) = ((a ||| b : Nat) : Int) := by
  have hA : (BitVec.ofInt 64 (a : Int)).toNat = a := by rw [BitVec.ofInt_natCast, BitVec.toNat_ofNat]; exact Nat.mod_eq_of_lt (by omega)
  have hB : (BitVec.ofInt 64 (b : Int)).toNat = b := by rw [BitVec.ofInt_natCast, BitVec.toNat_ofNat]; exact Nat.mod_eq_of_lt (by omega)
  show IntKind.u64.wrap ((BitVec.ofInt 64 (a : Int) ||| BitVec.ofInt 64 (b : Int)).toNat : Nat) = _
  rw [BitVec.toNat_or, hA, hB]
  have : a ||| b < 2 ^ 63 := Nat.or_lt_two_pow (by omega) (by omega)
  rw [IntKind.wrap_u64]
  omega
theorem or14 (n : Int) (h0 : 0 ≤ n) (h1 : n ≤ 8191) : bits .or .u64 n 16384 = n + 16384 := by
  obtain ⟨m, rfl⟩ := Int.eq_ofNat_of_zero_le h0
  have e : bits .or .u64 (m : Int) 16384 = ((m ||| 16384 : Nat) : Int) := u64_or_nat m 16384 (by omega) (by omega)
  rw [e, show (16384 : Nat) = 2 ^ 14 from rfl, or_pow m 14 (by omega)]
  rfl
theorem or13 (n : Int) (h0 : 0 ≤ n) (h1 : n ≤ 8191) : bits .or .u64 n 8192 = n + 8192 := by
  obtain ⟨m, rfl⟩ := Int.eq_ofNat_of_zero_le h0
  have e : bits .or .u64 (m : Int) 8192 = ((m ||| 8192 : Nat) : Int) := u64_or_nat m 8192 (by omega) (by omega)
  rw [e, show (8192 : Nat) = 2 ^ 13 from rfl, or_pow m 13 (by omega)]
  rfl
theorem or1314 (n : Int) (h0 : 0 ≤ n) (h1 : n ≤ 8191) : bits .or .u64 (n + 16384) 8192 = n + 16384 + 8192 := by
  obtain ⟨m, rfl⟩ := Int.eq_ofNat_of_zero_le h0
  have e : bits .or .u64 ((m + 16384 : Nat) : Int) 8192 = ((m + 16384 ||| 8192 : Nat) : Int) := u64_or_nat (m + 16384) 8192 (by omega) (by omega)
  have e1 := or_pow m 14 (by omega)
  have e2 := or_pow m 13 (by omega)
  have e3 := or_pow (m + 8192) 14 (by omega)
  have e4 : m + 16384 ||| 8192 = m + 8192 + 16384 := by
    have : m + 16384 = m ||| 2 ^ 14 := e1.symm
    rw [this, Nat.or_assoc, Nat.or_comm (2 ^ 14), ← Nat.or_assoc, show (8192 : Nat) = 2 ^ 13 from rfl, e2]
    exact e3
  have e5 : ((m : Int) + 16384) = ((m + 16384 : Nat) : Int) := by omega
  rw [e5, e, e4]
  omega
theorem len_any (tos id : Int) (df mf : Bool) (fr ttl pr sl dl : Int) (AO : Option Addr) (no co : Nat) (w : World) (hn : no ≤ 1000) :
    Calls Try.prog 32 #[.agg #[.int .i64 tos, .int .i64 id, .bool df, .bool mf, .int .i64 fr, .int .i64 ttl, .int .i64 pr, .bool false, .int .u64 0, .int .u64 sl, .bool false, .int .u64 0, .int .u64 dl, .slice AO no co]] w fun e w' => e = .returned (.int .i64 (20 + (no : Int))) ∧ Below w.heap.size w w' := by
  go_enter Try.func32, Try.ntmps32
  go_wp2
  go_ret
  exact ⟨rfl, (Below.refl _ _).alloc (Nat.le_refl _) _⟩
theorem part_any (tos id : Int) (df mf : Bool) (fr ttl pr sl dl : Int) (AO : Option Addr) (no co : Nat) (w : World) (h0 : 0 ≤ fr) (h1 : fr ≤ 8191) :
    Calls Try.prog 71 #[.agg #[.int .i64 tos, .int .i64 id, .bool df, .bool mf, .int .i64 fr, .int .i64 ttl, .int .i64 pr, .bool false, .int .u64 0, .int .u64 sl, .bool false, .int .u64 0, .int .u64 dl, .slice AO no co]] w fun e w' => e = .returned (.int .u64 (flz df mf fr)) ∧ Below w.heap.size w w' := by
  have v : IntKind.u64.wrap fr = fr := by rw [IntKind.wrap_u64]; omega
  have e14 := or14 fr h0 h1
  have e13 := or13 fr h0 h1
  have e15 := or1314 fr h0 h1
  unfold flz
  cases df <;> cases mf <;> simp only [if_true, if_false, Int.add_zero, Bool.false_eq_true] <;>
    (go_enter Try.func71, Try.ntmps71
     go_wp2
     go_ret
     exact ⟨rfl, (Below.refl _ _).alloc (Nat.le_refl _) _⟩)
theorem addrright_yes (x : Int) (w : World) (h0 : 0 ≤ x) (h1 : x ≤ 4294967295) :
    Calls Try.prog 16 #[.agg #[.bool false, .int .u64 0, .int .u64 x]] w fun e w' => e = .returned (.bool true) ∧ Below w.heap.size w w' := by
  have q : decide (x < 4294967296) = true := decide_eq_true (by omega)
  go_enter Try.func16, Try.ntmps16
  go_wp2
  go_ret
  exact ⟨rfl, (Below.refl _ _).alloc (Nat.le_refl _) _⟩
set_option maxRecDepth 100000 in
set_option maxHeartbeats 4000000 in
theorem right_yes (tos id : Int) (df mf : Bool) (fr ttl pr sl dl : Int) (AO : Option Addr) (no co : Nat) (w : World) (h : okF tos id fr ttl pr sl dl no) :
    Calls Try.prog 70 #[.agg #[.int .i64 tos, .int .i64 id, .bool df, .bool mf, .int .i64 fr, .int .i64 ttl, .int .i64 pr, .bool false, .int .u64 0, .int .u64 sl, .bool false, .int .u64 0, .int .u64 dl, .slice AO no co]] w fun e w' => e = .returned (.bool true) ∧ Below w.heap.size w w' := by
  obtain ⟨⟨h1, h2⟩, ⟨h3, h4⟩, ⟨h5, h6⟩, ⟨h7, h8⟩, ⟨h9, h10⟩, ⟨h11, h12⟩, ⟨h13, h14⟩, ho, hm⟩ := h
  have i0 : ∀ w, (Instr.index 134 (.agg #[.int .i64 tos, .int .i64 255, .int .i64 ttl, .int .i64 255, .int .i64 pr, .int .i64 255, .int .i64 id, .int .i64 65535, .int .i64 fr, .int .i64 8191]) (.int .i64 0)).run Try.prog w = .ok (.agg #[.int .i64 tos, .int .i64 255]) w := fun _ => by kernel_rfl
  have i1 : ∀ w, (Instr.index 134 (.agg #[.int .i64 tos, .int .i64 255, .int .i64 ttl, .int .i64 255, .int .i64 pr, .int .i64 255, .int .i64 id, .int .i64 65535, .int .i64 fr, .int .i64 8191]) (.int .i64 1)).run Try.prog w = .ok (.agg #[.int .i64 ttl, .int .i64 255]) w := fun _ => by kernel_rfl
  have i2 : ∀ w, (Instr.index 134 (.agg #[.int .i64 tos, .int .i64 255, .int .i64 ttl, .int .i64 255, .int .i64 pr, .int .i64 255, .int .i64 id, .int .i64 65535, .int .i64 fr, .int .i64 8191]) (.int .i64 2)).run Try.prog w = .ok (.agg #[.int .i64 pr, .int .i64 255]) w := fun _ => by kernel_rfl
  have i3 : ∀ w, (Instr.index 134 (.agg #[.int .i64 tos, .int .i64 255, .int .i64 ttl, .int .i64 255, .int .i64 pr, .int .i64 255, .int .i64 id, .int .i64 65535, .int .i64 fr, .int .i64 8191]) (.int .i64 3)).run Try.prog w = .ok (.agg #[.int .i64 id, .int .i64 65535]) w := fun _ => by kernel_rfl
  have i4 : ∀ w, (Instr.index 134 (.agg #[.int .i64 tos, .int .i64 255, .int .i64 ttl, .int .i64 255, .int .i64 pr, .int .i64 255, .int .i64 id, .int .i64 65535, .int .i64 fr, .int .i64 8191]) (.int .i64 4)).run Try.prog w = .ok (.agg #[.int .i64 fr, .int .i64 8191]) w := fun _ => by kernel_rfl
  have k0 : ∀ w, (Instr.index 135 (.agg #[.bool false, .int .u64 0, .int .u64 sl, .bool false, .int .u64 0, .int .u64 dl]) (.int .i64 0)).run Try.prog w = .ok (.agg #[.bool false, .int .u64 0, .int .u64 sl]) w := fun _ => by kernel_rfl
  have k1 : ∀ w, (Instr.index 135 (.agg #[.bool false, .int .u64 0, .int .u64 sl, .bool false, .int .u64 0, .int .u64 dl]) (.int .i64 1)).run Try.prog w = .ok (.agg #[.bool false, .int .u64 0, .int .u64 dl]) w := fun _ => by kernel_rfl
  have t0 : (((no : Int) % 4) == 0) = true := eqT (by omega)
  have HBX := Lib.hid ((Below.refl w.heap.size w).alloc (Nat.le_refl _) (.cells #[.int .i64 tos, .int .i64 id, .bool df, .bool mf, .int .i64 fr, .int .i64 ttl, .int .i64 pr, .bool false, .int .u64 0, .int .u64 sl, .bool false, .int .u64 0, .int .u64 dl, .slice AO no co] 53))
  have BOX := Lib.hid (Blk.new w 53 #[.int .i64 tos, .int .i64 id, .bool df, .bool mf, .int .i64 fr, .int .i64 ttl, .int .i64 pr, .bool false, .int .u64 0, .int .u64 sl, .bool false, .int .u64 0, .int .u64 dl, .slice AO no co])
  have HZ := Lib.hid (show (w.alloc (.cells #[.int .i64 tos, .int .i64 id, .bool df, .bool mf, .int .i64 fr, .int .i64 ttl, .int .i64 pr, .bool false, .int .u64 0, .int .u64 sl, .bool false, .int .u64 0, .int .u64 dl, .slice AO no co] 53)).heap.size = w.heap.size + 1 by simp)
  have HA1 := Lib.hid (fun w => addrright_yes sl w h11 h12)
  have HA2 := Lib.hid (fun w => addrright_yes dl w h13 h14)
  go_enter Try.func70, Try.ntmps70
  go_wp2_with fail
  go_loopw [23, 4] (fun i _ wr => ∃ j : Nat, j ≤ 5 ∧ i = .int .i64 j ∧ Below (w.heap.size + 1) (w.alloc (.cells #[.int .i64 tos, .int .i64 id, .bool df, .bool mf, .int .i64 fr, .int .i64 ttl, .int .i64 pr, .bool false, .int .u64 0, .int .u64 sl, .bool false, .int .u64 0, .int .u64 dl, .slice AO no co] 53)) wr) (fun i _ _ => 5 - (intOf i).toNat)
  case atStart => exact ⟨0, by omega, rfl, Below.refl _ _⟩
  case round =>
    obtain ⟨j, hj, rfl, hbel⟩ := hrel
    have HB := Lib.hid hbel
    have HS := Lib.hid (show w.heap.size + 1 ≤ wr.heap.size from Nat.le_trans (Nat.le_of_eq HZ.out.symm) hbel.size)
    have o7 : wr.cell? ⟨w.heap.size, 7, none⟩ = some (.bool false) := (hbel.cell (p := ⟨w.heap.size, 7, none⟩) (Nat.lt_succ_self _)).trans (BOX.out.cell 7)
    have o8 : wr.cell? ⟨w.heap.size, 8, none⟩ = some (.int .u64 0) := (hbel.cell (p := ⟨w.heap.size, 8, none⟩) (Nat.lt_succ_self _)).trans (BOX.out.cell 8)
    have o9 : wr.cell? ⟨w.heap.size, 9, none⟩ = some (.int .u64 sl) := (hbel.cell (p := ⟨w.heap.size, 9, none⟩) (Nat.lt_succ_self _)).trans (BOX.out.cell 9)
    have o10 : wr.cell? ⟨w.heap.size, 10, none⟩ = some (.bool false) := (hbel.cell (p := ⟨w.heap.size, 10, none⟩) (Nat.lt_succ_self _)).trans (BOX.out.cell 10)
    have o11 : wr.cell? ⟨w.heap.size, 11, none⟩ = some (.int .u64 0) := (hbel.cell (p := ⟨w.heap.size, 11, none⟩) (Nat.lt_succ_self _)).trans (BOX.out.cell 11)
    have o12 : wr.cell? ⟨w.heap.size, 12, none⟩ = some (.int .u64 dl) := (hbel.cell (p := ⟨w.heap.size, 12, none⟩) (Nat.lt_succ_self _)).trans (BOX.out.cell 12)
    have o13 : wr.cell? ⟨w.heap.size, 13, none⟩ = some (.slice AO no co) := (hbel.cell (p := ⟨w.heap.size, 13, none⟩) (Nat.lt_succ_self _)).trans (BOX.out.cell 13)
    clear hbel
    have hcase : j = 0 ∨ j = 1 ∨ j = 2 ∨ j = 3 ∨ j = 4 ∨ j = 5 := by omega
    rcases hcase with rfl | rfl | rfl | rfl | rfl | rfl
    · have q1 : decide (tos < 0) = false := decide_eq_false (by omega)
      have q2 : decide (255 < tos) = false := decide_eq_false (by omega)
      clear o7 o8 o9 o10 o11 o12 o13
      go_wp2_with fail
      go_roundw
      case rel => exact ⟨1, by omega, by go_num, HB.out.alloc HS.out _⟩
      case measure => simp [intOf]
    · have q1 : decide (ttl < 0) = false := decide_eq_false (by omega)
      have q2 : decide (255 < ttl) = false := decide_eq_false (by omega)
      clear o7 o8 o9 o10 o11 o12 o13
      go_wp2_with fail
      go_roundw
      case rel => exact ⟨2, by omega, by go_num, HB.out.alloc HS.out _⟩
      case measure => simp [intOf]
    · have q1 : decide (pr < 0) = false := decide_eq_false (by omega)
      have q2 : decide (255 < pr) = false := decide_eq_false (by omega)
      clear o7 o8 o9 o10 o11 o12 o13
      go_wp2_with fail
      go_roundw
      case rel => exact ⟨3, by omega, by go_num, HB.out.alloc HS.out _⟩
      case measure => simp [intOf]
    · have q1 : decide (id < 0) = false := decide_eq_false (by omega)
      have q2 : decide (65535 < id) = false := decide_eq_false (by omega)
      clear o7 o8 o9 o10 o11 o12 o13
      go_wp2_with fail
      go_roundw
      case rel => exact ⟨4, by omega, by go_num, HB.out.alloc HS.out _⟩
      case measure => simp [intOf]
    · have q1 : decide (fr < 0) = false := decide_eq_false (by omega)
      have q2 : decide (8191 < fr) = false := decide_eq_false (by omega)
      clear o7 o8 o9 o10 o11 o12 o13
      go_wp2_with fail
      go_roundw
      case rel => exact ⟨5, by omega, by go_num, HB.out.alloc HS.out _⟩
      case measure => simp [intOf]
    · go_wp2_with fail
      clear o7 o8 o9 o10 o11 o12 o13
      obtain ⟨wo, rfl⟩ : ∃ wo : World, wo = wr := ⟨_, rfl⟩
      go_loopw [42, 6] (fun i _ wq => ∃ j : Nat, j ≤ 2 ∧ i = .int .i64 j ∧ Below (w.heap.size + 1) (w.alloc (.cells #[.int .i64 tos, .int .i64 id, .bool df, .bool mf, .int .i64 fr, .int .i64 ttl, .int .i64 pr, .bool false, .int .u64 0, .int .u64 sl, .bool false, .int .u64 0, .int .u64 dl, .slice AO no co] 53)) wq) (fun i _ _ => 2 - (intOf i).toNat)
      case atStart => exact ⟨0, by omega, rfl, HB.out⟩
      case round =>
        obtain ⟨j, hj, rfl, hbel⟩ := hrel
        have HB2 := Lib.hid hbel
        have HS2 := Lib.hid (show w.heap.size + 1 ≤ _ from Nat.le_trans (Nat.le_of_eq HZ.out.symm) hbel.size)
        have o13 : wr.cell? ⟨w.heap.size, 13, none⟩ = some (.slice AO no co) := (hbel.cell (p := ⟨w.heap.size, 13, none⟩) (Nat.lt_succ_self _)).trans (BOX.out.cell 13)
        clear hbel
        have hcase : j = 0 ∨ j = 1 ∨ j = 2 := by omega
        rcases hcase with rfl | rfl | rfl
        · clear o13
          go_wp2_with fail
          refine (HA1.out _).mono ?_
          rintro e w5 ⟨rfl, hb5⟩
          have HB5 := Lib.hid ((HB2.out.alloc HS2.out _).trans (hb5.mono (Nat.le_trans HS2.out (Below.size ((Below.refl 0 _).alloc (Nat.zero_le _) _)))))
          clear hb5
          go_wp2_with fail
          go_roundw
          case rel => first | exact ⟨1, by omega, by go_num, HB5.out⟩ | ((repeat apply Exists.intro); exact ⟨⟨1, by omega, by go_num, HB5.out⟩, rfl⟩)
          case measure => simp [intOf]
        · clear o13
          go_wp2_with fail
          refine (HA2.out _).mono ?_
          rintro e w5 ⟨rfl, hb5⟩
          have HB5 := Lib.hid ((HB2.out.alloc HS2.out _).trans (hb5.mono (Nat.le_trans HS2.out (Below.size ((Below.refl 0 _).alloc (Nat.zero_le _) _)))))
          clear hb5
          go_wp2_with fail
          go_roundw
          case rel => first | exact ⟨2, by omega, by go_num, HB5.out⟩ | ((repeat apply Exists.intro); exact ⟨⟨2, by omega, by go_num, HB5.out⟩, rfl⟩)
          case measure => simp [intOf]
        · go_wp2_with fail
          go_ret
          exact ⟨rfl, HBX.out.trans (HB2.out.mono (Nat.le_succ _))⟩
end Go.Proofs.Ytodckfgfbcnkoaa.fourC
/- Layer 8: the law's bytes of a packet. -/
namespace Go.Proofs.Ytodckfgfbcnkoaa.fourD
open Go.ChangeShapes Go.WideShapes Go.ChangeAt Go.RowKit
set_option linter.unusedVariables false

def hk (tos id fl ttl pr sl dl ck sz : Int) (os : List Int) : List Int := [64 + (20 + (os.length : Int)) / 4, tos, sz / 256, sz % 256, id / 256, id % 256, fl / 256, fl % 256, ttl, pr, ck / 256, ck % 256, sl / 65536 / 256, sl / 65536 % 256, sl % 65536 / 256, sl % 65536 % 256, dl / 65536 / 256, dl / 65536 % 256, dl % 65536 / 256, dl % 65536 % 256] ++ os
theorem hk_len (tos id fl ttl pr sl dl ck sz : Int) (os : List Int) : (hk tos id fl ttl pr sl dl ck sz os).length = 20 + os.length := by simp [hk]; omega
theorem hk_in (tos id fl ttl pr sl dl ck sz : Int) (os : List Int) (h1 : 0 ≤ tos ∧ tos ≤ 255) (h2 : 0 ≤ id ∧ id ≤ 65535) (h3 : 0 ≤ fl ∧ fl ≤ 65535) (h4 : 0 ≤ ttl ∧ ttl ≤ 255) (h5 : 0 ≤ pr ∧ pr ≤ 255) (h6 : 0 ≤ sl ∧ sl ≤ 4294967295) (h7 : 0 ≤ dl ∧ dl ≤ 4294967295) (h8 : 0 ≤ ck ∧ ck ≤ 65535) (h9 : 0 ≤ sz ∧ sz ≤ 65535) (ho : os.length ≤ 40) (hx : ∀ x ∈ os, 0 ≤ x ∧ x ≤ 255) : ∀ x ∈ hk tos id fl ttl pr sl dl ck sz os, 0 ≤ x ∧ x ≤ 255 := by
  intro x h
  unfold hk at h
  rw [List.mem_append] at h
  rcases h with h | h
  · simp only [List.mem_cons, List.not_mem_nil, or_false] at h
    rcases h with h | h | h | h | h | h | h | h | h | h | h | h | h | h | h | h | h | h | h | h <;> (subst h; omega)
  · exact hx x h
end Go.Proofs.Ytodckfgfbcnkoaa.fourD
