/- 10 texts in one. -/
import Derived.Deep.RegionHeld3
import Derived.Deep.DeepCutAuto
import Derived.Deep.WholeRow
import Derived.BigQuiet
import Derived.Test.YtndekicblbpkjaaPt01
import Derived.Test.YtndekicblbpkjaaPt15
import Derived.Test.YtndekicblbpkjaaPt16
import Derived.Test.YtndekicblbpkjaaPt18
import Derived.Test.YtndekicblbpkjaaPt22
/- Layer 9: the law SixParses where a header begins. -/
namespace Go.Proofs.Ytndekicblbpkjaa.sixU
open Go.ChangeShapes Go.WideShapes Go.ChangeAt Go.RowKit
open Go.Proofs.Ytndekicblbpkjaa.sixW Go.Proofs.Ytndekicblbpkjaa.sixB
set_option linter.unusedVariables false

theorem le2047 {l : List XP} (h : RightE l) (x : XP) (hx : x ∈ l) : x.2.length ≤ 2047 := by
  obtain ⟨i, hi, rfl⟩ := List.getElem_of_mem hx
  have := h.each i hi
  unfold rightX at this
  simp only [Bool.and_eq_true, decide_eq_true_eq] at this
  exact this.1.2.1
end Go.Proofs.Ytndekicblbpkjaa.sixU
/- Layer 13: pkt.Parse. -/
namespace Go.Proofs.Ytndekicblbpkjaa.pktG
open Go.ChangeShapes Go.WideShapes Go.ChangeAt Go.RowKit
open Go.Proofs.Ytndekicblbpkjaa.base Go.Proofs.Ytndekicblbpkjaa.octA Go.Proofs.Ytndekicblbpkjaa.rdrA Go.Proofs.Ytndekicblbpkjaa.rdrG Go.Proofs.Ytndekicblbpkjaa.sixW Go.Proofs.Ytndekicblbpkjaa.sixM Go.Proofs.Ytndekicblbpkjaa.pktA Go.Proofs.Ytndekicblbpkjaa.pktB Go.Proofs.Ytndekicblbpkjaa.pktC Go.Proofs.Ytndekicblbpkjaa.pktD Go.Proofs.Ytndekicblbpkjaa.pktE Go.Proofs.Ytndekicblbpkjaa.sixA Go.Proofs.Ytndekicblbpkjaa.sixE Go.Proofs.Ytndekicblbpkjaa.sixF Go.Proofs.Ytndekicblbpkjaa.sixO Go.Proofs.Ytndekicblbpkjaa.pktF
set_option linter.unusedVariables false

def p4 (l : List Int) : Pk × Int := if fourE l ≠ 0 then (zeroPk, fourE l) else if udpA.w16 l 6 % 8192 ≠ 0 ∨ decide (udpA.w16 l 6 / 8192 % 2 = 1) = true then (zeroPk, 21)
  else withP false ⟨l.getD 9 0, false, 0, tcpC.w32 l 12, false, 0, tcpC.w32 l 16, 0, 0⟩ (l.getD 8 0) (20 + ((fourS l - 20 : Nat) : Int) + ((fourR l).length : Int)) (fourR l)
def p6 (l : List Int) : Pk × Int := match sixP l with
  | .inl e => (zeroPk, e)
  | .inr (ys, q, r) => if lies ys / 8 ≠ 0 ∨ decide (lies ys % 2 = 1) = true then (zeroPk, 21)
    else withP true ⟨q, true, (hdOf l q).sh, (hdOf l q).sl, true, (hdOf l q).dh, (hdOf l q).dl, 0, 0⟩ (l.getD 7 0) (((40 + extL ys : Nat) : Int) + (r.length : Int)) r
def pkP (l : List Int) : Pk × Int := if l.length = 0 then (zeroPk, 2) else if 9000 < l.length then (zeroPk, 25) else if l.getD 0 0 / 16 = 4 then p4 l else if l.getD 0 0 / 16 = 6 then p6 l else (zeroPk, 10)
theorem w32_in8 (l : List Int) (hu : U8 l) (i : Nat) : 0 ≤ tcpC.w32 l i ∧ tcpC.w32 l i < 18446744073709551616 := by
  have a := hu.get i; have b := hu.get (i + 1); have c := hu.get (i + 2); have d := hu.get (i + 2 + 1)
  show 0 ≤ (l.getD i 0 * 256 + l.getD (i + 1) 0) * 65536 + (l.getD (i + 2) 0 * 256 + l.getD (i + 2 + 1) 0) ∧ (l.getD i 0 * 256 + l.getD (i + 1) 0) * 65536 + (l.getD (i + 2) 0 * 256 + l.getD (i + 2 + 1) 0) < 18446744073709551616
  omega
theorem fourS_in (l : List Int) (hu : U8 l) (hn : l.length ≤ 1000) (he : fourE l = 0) : 20 ≤ fourS l ∧ fourS l ≤ 60 ∧ (fourR l).length ≤ l.length := by
  have k0 := hu.get 0
  have hs : 0 ≤ fourA.hl l ∧ fourA.hl l ≤ 60 := by unfold fourA.hl; omega
  unfold fourE at he
  split at he
  · omega
  · split at he
    · omega
    · split at he
      · omega
      · refine ⟨by unfold fourS; omega, by unfold fourS; omega, ?_⟩
        unfold fourR
        rw [List.length_take, List.length_drop]
        omega
theorem parse4_any (A : Option Addr) (n c : Nat) (l : List Int) (w : World) (h : Sl w A n c l) (hn : n ≤ 1000) :
    Calls Try.prog 56 #[.slice A n c] w fun o w' => o = .returned (.tuple #[.agg (p4 l).1.cells, .int .i64 (p4 l).2]) ∧ Below w.heap.size w w' := by
  have HF := fun V (hV : Below w.heap.size w V) => four_any A n c l V (h.below hV) hn
  have hl := h.len
  unfold p4
  by_cases he : fourE l = 0
  · rw [if_neg (by omega)]
    have HG : ∀ V, Below w.heap.size w V → Calls Try.prog 79 #[.slice A n c] V fun o w' => Below V.heap.size V w' ∧ (20 ≤ fourS l ∧ fourS l ≤ 60 ∧ (fourR l).length ≤ l.length ∧ ∃ (tos id : Int) (df : Bool) (AO : Option Addr) (co : Nat) (AR : Option Addr) (cr : Nat), o = .returned (.tuple #[.agg #[.int .i64 tos, .int .i64 id, .bool df, .bool (decide (udpA.w16 l 6 / 8192 % 2 = 1)), .int .i64 (udpA.w16 l 6 % 8192), .int .i64 (l.getD 8 0), .int .i64 (l.getD 9 0), .bool false, .int .u64 0, .int .u64 (tcpC.w32 l 12), .bool false, .int .u64 0, .int .u64 (tcpC.w32 l 16), .slice AO (fourS l - 20) co], .slice AR (fourR l).length cr, .int .i64 0]) ∧ Sl w' AR (fourR l).length cr (fourR l)) := fun V hV => (HF V hV).mono fun o w' k => by
      obtain ⟨hb, k⟩ := k
      rcases k with ⟨k1, _⟩ | ⟨_, k2⟩
      · exact absurd he k1
      · exact ⟨hb, k2⟩
    have hs := fourS_in l h.u8 (by omega) he
    have hr : (fourR l).length ≤ 1000 := by omega
    have k6 := udpA.w16_in l h.u8 6
    by_cases hf : udpA.w16 l 6 % 8192 ≠ 0 ∨ decide (udpA.w16 l 6 / 8192 % 2 = 1) = true
    · rw [if_pos hf]
      exact parse4_frag A n c _ _ (l.getD 8 0) (l.getD 9 0) (tcpC.w32 l 12) (tcpC.w32 l 16) (fourS l - 20) (fourR l) hr hf w (Lib.hid fun V hV => (HG V hV).mono fun o w' k => ⟨k.1, k.2.2.2.2⟩)
    · rw [if_neg hf]
      have h1 : udpA.w16 l 6 % 8192 = 0 := Classical.byContradiction fun e => hf (.inl e)
      have h2 : decide (udpA.w16 l 6 / 8192 % 2 = 1) = false := by
        cases hd : decide (udpA.w16 l 6 / 8192 % 2 = 1) with
        | false => rfl
        | true => exact absurd (.inr hd) hf
      exact parse4_ok A n c _ _ (l.getD 8 0) (l.getD 9 0) (tcpC.w32 l 12) (tcpC.w32 l 16) (fourS l - 20) (fourR l) hr h1 h2 (by omega) _ _ _ rfl w (Lib.hid fun V hV => (HG V hV).mono fun o w' k => ⟨k.1, k.2.2.2.2⟩)
        (Lib.hid fun V A2 c2 hV hsl => with_any false (l.getD 9 0) false 0 (tcpC.w32 l 12) false 0 (tcpC.w32 l 16) (l.getD 8 0) _ A2 (fourR l).length c2 (fourR l) V hsl hr ⟨by omega, by omega⟩ (w32_in8 l h.u8 12) ⟨by omega, by omega⟩ (w32_in8 l h.u8 16) (h.u8.get 9))
  · rw [if_pos he]
    exact parse4_fail A n c _ he w (Lib.hid fun V hV => (HF V hV).mono fun o w' k => by
      obtain ⟨hb, k⟩ := k
      rcases k with ⟨_, k2⟩ | ⟨k1, _⟩
      · exact ⟨k2, hb⟩
      · exact absurd k1 he)
theorem parse6_any (A : Option Addr) (n c : Nat) (l : List Int) (w : World) (h : Sl w A n c l) (hn : n ≤ 1000) (hv : l.getD 0 0 / 16 = 6) :
    Calls Try.prog 57 #[.slice A n c] w fun o w' => o = .returned (.tuple #[.agg (p6 l).1.cells, .int .i64 (p6 l).2]) ∧ Below w.heap.size w w' := by
  have hl := h.len
  have F : ∀ e, e ≠ 0 → sixP l = .inl e → (∀ V, Below w.heap.size w V → Calls Try.prog 11 #[.slice A n c] V (HeadP V l (sixP l))) → Calls Try.prog 57 #[.slice A n c] w fun o w' => o = .returned (.tuple #[.agg (p6 l).1.cells, .int .i64 (p6 l).2]) ∧ Below w.heap.size w w' := fun e he hs hc => by
    have e2 : p6 l = (zeroPk, e) := by unfold p6; rw [hs]
    rw [e2]
    rw [hs] at hc
    exact parse6_fail A n c e he w (Lib.hid fun V hV => (hc V hV).mono fun o w' k => sixS.headP_fail k)
  by_cases h40 : n < 40
  · exact F 2 (by omega) (by unfold sixP; rw [if_pos (by omega)]) fun V hV => sixF.parse_short A n c l V hl h40
  obtain ⟨b, off, rfl, hb, hs⟩ := lies_of h.row (by omega)
  have HH : ∀ V, Below w.heap.size w V → Calls Try.prog 11 #[.slice (some ⟨b, off, none⟩) n c] V (HeadP V l (sixP l)) := fun V hV => sixF.parse_ok b off n c l V hl (by omega) (by omega) h.nc h.mx (Nat.lt_of_lt_of_le hb hV.size) (hs.below hV hb) h.u8 hv
  by_cases hz : l.length - 40 < sizeP l
  · exact F 12 (by omega) (by unfold sixP; rw [if_neg (by omega), if_neg (by omega), if_pos hz]) HH
  have e : sixP l = ofC (chn 9 [] (l.getD 6 0) ((l.take (40 + sizeP l)).drop 40)) := by unfold sixP; rw [if_neg (by omega), if_neg (by omega), if_neg hz]
  rcases hC : chn 9 [] (l.getD 6 0) ((l.take (40 + sizeP l)).drop 40) with _ | ⟨ys, q, r⟩
  · exact F 11 (by omega) (by rw [e, hC]; rfl) HH
  have e1 : sixP l = .inr (ys, q, r) := by rw [e, hC]; rfl
  obtain ⟨g1, g2, g3, g4, g5⟩ := sixT.put_back l h.u8 (by omega) hv (by omega) hC
  have hq : 0 ≤ q ∧ q ≤ 255 := ⟨g2.p0, g2.p1⟩
  have hxl := extL_le g2.e
  have ub1 := h.u8.drop 8
  have ub2 := h.u8.drop 24
  have HG : ∀ V, Below w.heap.size w V → Calls Try.prog 11 #[.slice (some ⟨b, off, none⟩) n c] V fun o w' => Below V.heap.size V w' ∧ ∃ (AX : Option Addr) (nx cx : Nat) (cls lab : Int) (AR : Option Addr) (cr : Nat), o = .returned (.tuple #[.agg #[.int .i64 cls, .int .i64 lab, .int .i64 (l.getD 7 0), .bool true, .int .u64 (hdOf l q).sh, .int .u64 (hdOf l q).sl, .bool true, .int .u64 (hdOf l q).dh, .int .u64 (hdOf l q).dl, .slice AX nx cx, .int .i64 q], .slice AR r.length cr, .int .i64 0]) ∧ Sl w' AR r.length cr r
      ∧ (∀ V2, Below w'.heap.size w' V2 → Calls Try.prog 25 #[.agg #[.int .i64 cls, .int .i64 lab, .int .i64 (l.getD 7 0), .bool true, .int .u64 (hdOf l q).sh, .int .u64 (hdOf l q).sl, .bool true, .int .u64 (hdOf l q).dh, .int .u64 (hdOf l q).dl, .slice AX nx cx, .int .i64 q]] V2 fun o w' => o = .returned (.int .i64 (lies ys / 8)) ∧ Below V2.heap.size V2 w')
      ∧ (∀ V2, Below w'.heap.size w' V2 → Calls Try.prog 82 #[.agg #[.int .i64 cls, .int .i64 lab, .int .i64 (l.getD 7 0), .bool true, .int .u64 (hdOf l q).sh, .int .u64 (hdOf l q).sl, .bool true, .int .u64 (hdOf l q).dh, .int .u64 (hdOf l q).dl, .slice AX nx cx, .int .i64 q]] V2 fun o w' => o = .returned (.bool (decide (lies ys % 2 = 1))) ∧ Below V2.heap.size V2 w')
      ∧ (∀ V2, Below w'.heap.size w' V2 → Calls Try.prog 20 #[.agg #[.int .i64 cls, .int .i64 lab, .int .i64 (l.getD 7 0), .bool true, .int .u64 (hdOf l q).sh, .int .u64 (hdOf l q).sl, .bool true, .int .u64 (hdOf l q).dh, .int .u64 (hdOf l q).dl, .slice AX nx cx, .int .i64 q]] V2 fun o w' => o = .returned (.int .i64 (40 + extL ys : Nat)) ∧ Below V2.heap.size V2 w') := fun V hV => by
    have h9 := HH V hV
    rw [e1] at h9
    refine h9.mono fun o w' k => ?_
    obtain ⟨hb9, L, A9, c9, B9, d9, k1, k2, k3, k4⟩ := sixS.headP_good k
    have hU : ∀ x ∈ L, U8 x.d := fun x hx => g3 x.re (by rw [← k2]; exact List.mem_map_of_mem hx)
    have hLn : L.length = ys.length := by rw [← k2, List.length_map]
    have h8 := g2.e.most
    have hd7 : ∀ x ∈ L, x.d.length ≤ 2047 := fun x hx => sixU.le2047 g2.e x.re (by rw [← k2]; exact List.mem_map_of_mem hx)
    refine ⟨hb9, A9, ys.length, c9, _, _, B9, d9, k1, Sl.own k4 rfl g4, fun V2 hV2 => ?_, fun V2 hV2 => ?_, fun V2 hV2 => ?_⟩
    · have h7 := sixA.frag_any (hdOf l q) A9 ys.length c9 L V2 hLn ((k3.below hV2).rd hU) (by omega)
      rw [k2] at h7
      exact h7
    · have h7 := sixA.more_any (hdOf l q) A9 ys.length c9 L V2 hLn ((k3.below hV2).rd hU) (by omega)
      rw [k2] at h7
      exact h7
    · have h7 := sixO.len_any (hdOf l q) A9 ys.length c9 L V2 hLn ((k3.below hV2).rd hU) (by omega) hd7
      rw [k2] at h7
      exact h7
  have e2 : p6 l = if lies ys / 8 ≠ 0 ∨ decide (lies ys % 2 = 1) = true then (zeroPk, 21) else withP true ⟨q, true, (hdOf l q).sh, (hdOf l q).sl, true, (hdOf l q).dh, (hdOf l q).dl, 0, 0⟩ (l.getD 7 0) (((40 + extL ys : Nat) : Int) + (r.length : Int)) r := by unfold p6; rw [e1]
  rw [e2]
  by_cases hf : lies ys / 8 ≠ 0 ∨ decide (lies ys % 2 = 1) = true
  · rw [if_pos hf]
    exact parse6_frag _ n c (l.getD 7 0) true _ _ true _ _ q r (by omega) _ _ (extL ys) hf w (Lib.hid HG)
  · rw [if_neg hf]
    have h1 : lies ys / 8 = 0 := Classical.byContradiction fun e => hf (.inl e)
    have h2 : decide (lies ys % 2 = 1) = false := by
      cases hd : decide (lies ys % 2 = 1) with
      | false => rfl
      | true => exact absurd (.inr hd) hf
    exact parse6_ok _ n c (l.getD 7 0) true _ _ true _ _ q r (by omega) _ _ (extL ys) h1 h2 (by omega) _ _ _ rfl w (Lib.hid HG)
      (Lib.hid fun V A2 c2 hV hsl => with_any true q true _ _ true _ _ (l.getD 7 0) _ A2 r.length c2 r V hsl (by omega) (sixT.atN_in8 _ ub1 0) (sixT.atN_in8 _ ub1 8) (sixT.atN_in8 _ ub2 0) (sixT.atN_in8 _ ub2 8) hq)
set_option maxHeartbeats 4000000 in
set_option maxRecDepth 100000 in
theorem parse_any (A : Option Addr) (n c : Nat) (l : List Int) (w : World) (h : Sl w A n c l) (hn : n ≤ 1000) :
    Calls Try.prog 28 #[.slice A n c] w fun o w' => o = .returned (.tuple #[.agg (pkP l).1.cells, .int .i64 (pkP l).2]) ∧ Below w.heap.size w w' := by
  have hl := h.len
  obtain ⟨w1, hw1⟩ : ∃ w1, w1 = w.alloc (.cells #[.bool false, .int .i64 0, .bool false, .int .u64 0, .int .u64 0, .bool false, .int .u64 0, .int .u64 0, .int .i64 0, .int .i64 0, .int .i64 0, .int .i64 0, .bool false, .int .i64 0, .bool false, .int .u64 0, .int .u64 0, .bool false, .int .u64 0, .int .u64 0, .int .i64 0, .int .i64 0, .int .i64 0] 58) := ⟨_, rfl⟩
  have E1 := Lib.hid hw1
  have B1 := Lib.hid (show Below w.heap.size w w1 from by rw [hw1]; exact (Below.refl _ _).alloc (Nat.le_refl _) _)
  obtain ⟨q, hq⟩ : ∃ q, q = w.heap.size := ⟨_, rfl⟩
  have EQ := Lib.hid hq
  have KQ := Lib.hid (show Blk w1 q 58 #[.bool false, .int .i64 0, .bool false, .int .u64 0, .int .u64 0, .bool false, .int .u64 0, .int .u64 0, .int .i64 0, .int .i64 0, .int .i64 0, .int .i64 0, .bool false, .int .i64 0, .bool false, .int .u64 0, .int .u64 0, .bool false, .int .u64 0, .int .u64 0, .int .i64 0, .int .i64 0, .int .i64 0] from by rw [hw1, hq]; exact Blk.new w _ _)
  have HI := Lib.hid pk_size
  clear hw1 hq
  have t9 : decide (9000 < (n : Int)) = false := decide_eq_false (by omega)
  have t9n : decide (9000 < n) = false := decide_eq_false (by omega)
  by_cases h0 : n = 0
  · have e : pkP l = (zeroPk, 2) := by unfold pkP; rw [if_pos (by omega)]
    rw [e]
    show Calls _ _ _ _ fun o w' => o = .returned (.tuple #[.agg #[.bool false, .int .i64 0, .bool false, .int .u64 0, .int .u64 0, .bool false, .int .u64 0, .int .u64 0, .int .i64 0, .int .i64 0, .int .i64 0, .int .i64 0, .bool false, .int .i64 0, .bool false, .int .u64 0, .int .u64 0, .bool false, .int .u64 0, .int .u64 0, .int .i64 0, .int .i64 0, .int .i64 0], .int .i64 2]) ∧ _
    subst h0
    clear h hl e
    go_enter Try.func28, Try.ntmps28
    go_upto_region 1 with fail
    rw [← E1.out, ← EQ.out]
    go_wp2_with (refine wpList_store_row rfl 58 _ _ rfl q #[.bool false, .int .i64 0, .bool false, .int .u64 0, .int .u64 0, .bool false, .int .u64 0, .int .u64 0, .int .i64 0, .int .i64 0, .int .i64 0, .int .i64 0, .bool false, .int .i64 0, .bool false, .int .u64 0, .int .u64 0, .bool false, .int .u64 0, .int .u64 0, .int .i64 0, .int .i64 0, .int .i64 0] rfl rfl 58 #[.bool false, .int .i64 0, .bool false, .int .u64 0, .int .u64 0, .bool false, .int .u64 0, .int .u64 0, .int .i64 0, .int .i64 0, .int .i64 0, .int .i64 0, .bool false, .int .i64 0, .bool false, .int .u64 0, .int .u64 0, .bool false, .int .u64 0, .int .u64 0, .int .i64 0, .int .i64 0, .int .i64 0] KQ.out HI.out rfl (by kernel_rfl) ?_)
    refine bodyPost_ret (results_pk rfl _ _ q #[.bool false, .int .i64 0, .bool false, .int .u64 0, .int .u64 0, .bool false, .int .u64 0, .int .u64 0, .int .i64 0, .int .i64 0, .int .i64 0, .int .i64 0, .bool false, .int .i64 0, .bool false, .int .u64 0, .int .u64 0, .bool false, .int .u64 0, .int .u64 0, .int .i64 0, .int .i64 0, .int .i64 0] rfl (blkRow KQ.out _) rfl) rfl ?_
    exact ⟨rfl, (onlyRow _).from B1.out (by have := EQ.out; omega)⟩
  obtain ⟨b, off, rfl, hb, hs⟩ := lies_of h.row (by omega)
  have y0 : w1.cell? ⟨b, off, none⟩ = some (.int .u8 (l.getD 0 0)) := (hs.below B1.out hb) 0 (by omega)
  have u0 := h.u8.get 0
  have c0 : ((n : Int) == 0) = false := by simpa using h0
  have c0n : (n == 0) = false := by simpa using h0
  have j0 : 0 < n := by omega
  have j1 : (0 : Int) < n := by omega
  have HSL := Lib.hid (h.below B1.out)
  obtain ⟨x, hx⟩ : ∃ x, x = l.getD 0 0 := ⟨_, rfl⟩
  have HX := Lib.hid hx
  rw [← hx] at y0 u0
  by_cases h4 : x / 16 = 4
  · have e : pkP l = p4 l := by unfold pkP; rw [if_neg (by omega), if_neg (by omega), if_pos (by rw [← hx]; exact h4)]
    have HP := Lib.hid (parse4_any (some ⟨b, off, none⟩) n c l w1 HSL.out hn)
    rw [e]
    generalize p4 l = z at HP ⊢
    obtain ⟨P, ee⟩ := z
    have PS2 := Lib.hid (show P.cells.all (·.oneCell') = true from by simp [Pk.cells, Value.oneCell'])
    have t4 : (x / 16 == 4) = true := by simpa using h4
    clear h hl e hb hs hx h0 h4
    go_enter Try.func28, Try.ntmps28
    go_upto_region 1 with fail
    rw [← E1.out, ← EQ.out]
    go_wp2_with (first
      | (go_at_call 56; refine HP.out.mono ?_; rintro o w2 ⟨rfl, hb2⟩; have KQ2 := Lib.hid (KQ.out.below hb2 KQ.out.lt); have B2 := Lib.hid (B1.out.trans (hb2.mono B1.out.size)); clear hb2)
      | (refine wpList_store_row rfl 58 _ _ rfl q P.cells rfl rfl 58 #[.bool false, .int .i64 0, .bool false, .int .u64 0, .int .u64 0, .bool false, .int .u64 0, .int .u64 0, .int .i64 0, .int .i64 0, .int .i64 0, .int .i64 0, .bool false, .int .i64 0, .bool false, .int .u64 0, .int .u64 0, .bool false, .int .u64 0, .int .u64 0, .int .i64 0, .int .i64 0, .int .i64 0] KQ2.out HI.out rfl PS2.out ?_))
    refine bodyPost_ret (results_pk rfl _ _ q P.cells rfl (blkRow KQ2.out _) rfl) rfl ?_
    exact ⟨rfl, (onlyRow _).from B2.out (by have := EQ.out; omega)⟩
  · have t4 : (x / 16 == 4) = false := by simpa using h4
    by_cases h6 : x / 16 = 6
    · have e : pkP l = p6 l := by unfold pkP; rw [if_neg (by omega), if_neg (by omega), if_neg (by rw [← hx]; exact h4), if_pos (by rw [← hx]; exact h6)]
      have HP := Lib.hid (parse6_any (some ⟨b, off, none⟩) n c l w1 HSL.out hn (by rw [← hx]; exact h6))
      rw [e]
      generalize p6 l = z at HP ⊢
      obtain ⟨P, ee⟩ := z
      have PS2 := Lib.hid (show P.cells.all (·.oneCell') = true from by simp [Pk.cells, Value.oneCell'])
      have t6 : (x / 16 == 6) = true := by simpa using h6
      clear h hl e hb hs hx h0 h4 h6
      go_enter Try.func28, Try.ntmps28
      go_upto_region 1 with fail
      rw [← E1.out, ← EQ.out]
      go_wp2_with (first
        | (go_at_call 57; refine HP.out.mono ?_; rintro o w2 ⟨rfl, hb2⟩; have KQ2 := Lib.hid (KQ.out.below hb2 KQ.out.lt); have B2 := Lib.hid (B1.out.trans (hb2.mono B1.out.size)); clear hb2)
        | (refine wpList_store_row rfl 58 _ _ rfl q P.cells rfl rfl 58 #[.bool false, .int .i64 0, .bool false, .int .u64 0, .int .u64 0, .bool false, .int .u64 0, .int .u64 0, .int .i64 0, .int .i64 0, .int .i64 0, .int .i64 0, .bool false, .int .i64 0, .bool false, .int .u64 0, .int .u64 0, .bool false, .int .u64 0, .int .u64 0, .int .i64 0, .int .i64 0, .int .i64 0] KQ2.out HI.out rfl PS2.out ?_))
      refine bodyPost_ret (results_pk rfl _ _ q P.cells rfl (blkRow KQ2.out _) rfl) rfl ?_
      exact ⟨rfl, (onlyRow _).from B2.out (by have := EQ.out; omega)⟩
    · have e : pkP l = (zeroPk, 10) := by unfold pkP; rw [if_neg (by omega), if_neg (by omega), if_neg (by rw [← hx]; exact h4), if_neg (by rw [← hx]; exact h6)]
      rw [e]
      show Calls _ _ _ _ fun o w' => o = .returned (.tuple #[.agg #[.bool false, .int .i64 0, .bool false, .int .u64 0, .int .u64 0, .bool false, .int .u64 0, .int .u64 0, .int .i64 0, .int .i64 0, .int .i64 0, .int .i64 0, .bool false, .int .i64 0, .bool false, .int .u64 0, .int .u64 0, .bool false, .int .u64 0, .int .u64 0, .int .i64 0, .int .i64 0, .int .i64 0], .int .i64 10]) ∧ _
      have t6 : (x / 16 == 6) = false := by simpa using h6
      clear h hl e hb hs hx h0 h4 h6
      go_enter Try.func28, Try.ntmps28
      go_upto_region 1 with fail
      rw [← E1.out, ← EQ.out]
      go_wp2_with (refine wpList_store_row rfl 58 _ _ rfl q #[.bool false, .int .i64 0, .bool false, .int .u64 0, .int .u64 0, .bool false, .int .u64 0, .int .u64 0, .int .i64 0, .int .i64 0, .int .i64 0, .int .i64 0, .bool false, .int .i64 0, .bool false, .int .u64 0, .int .u64 0, .bool false, .int .u64 0, .int .u64 0, .int .i64 0, .int .i64 0, .int .i64 0] rfl rfl 58 #[.bool false, .int .i64 0, .bool false, .int .u64 0, .int .u64 0, .bool false, .int .u64 0, .int .u64 0, .int .i64 0, .int .i64 0, .int .i64 0, .int .i64 0, .bool false, .int .i64 0, .bool false, .int .u64 0, .int .u64 0, .bool false, .int .u64 0, .int .u64 0, .int .i64 0, .int .i64 0, .int .i64 0] KQ.out HI.out rfl (by kernel_rfl) ?_)
      refine bodyPost_ret (results_pk rfl _ _ q #[.bool false, .int .i64 0, .bool false, .int .u64 0, .int .u64 0, .bool false, .int .u64 0, .int .u64 0, .int .i64 0, .int .i64 0, .int .i64 0, .int .i64 0, .bool false, .int .i64 0, .bool false, .int .u64 0, .int .u64 0, .bool false, .int .u64 0, .int .u64 0, .int .i64 0, .int .i64 0, .int .i64 0] rfl (blkRow KQ.out _) rfl) rfl ?_
      exact ⟨rfl, (onlyRow _).from B1.out (by have := EQ.out; omega)⟩
end Go.Proofs.Ytndekicblbpkjaa.pktG
namespace Go.Proofs.Ytndekicblbpkjaa.pktH
end Go.Proofs.Ytndekicblbpkjaa.pktH
namespace Go.Proofs.Ytndekicblbpkjaa.pktI
end Go.Proofs.Ytndekicblbpkjaa.pktI
namespace Go.Proofs.Ytndekicblbpkjaa.pktJ
end Go.Proofs.Ytndekicblbpkjaa.pktJ
namespace Go.Proofs.Ytndekicblbpkjaa.connA
end Go.Proofs.Ytndekicblbpkjaa.connA
namespace Go.Proofs.Ytndekicblbpkjaa.tcpA
end Go.Proofs.Ytndekicblbpkjaa.tcpA
namespace Go.Proofs.Ytndekicblbpkjaa.tcpB
end Go.Proofs.Ytndekicblbpkjaa.tcpB
/- Layer 13: what a packet is steered by, whether it opens a connection. -/
namespace Go.Proofs.Ytndekicblbpkjaa.pktK
open Go.ChangeShapes Go.WideShapes Go.ChangeAt Go.RowKit
open Go.Proofs.Ytndekicblbpkjaa.base Go.Proofs.Ytndekicblbpkjaa.octA Go.Proofs.Ytndekicblbpkjaa.rdrA Go.Proofs.Ytndekicblbpkjaa.rdrG Go.Proofs.Ytndekicblbpkjaa.sumB Go.Proofs.Ytndekicblbpkjaa.sixM Go.Proofs.Ytndekicblbpkjaa.pktA Go.Proofs.Ytndekicblbpkjaa.pktB Go.Proofs.Ytndekicblbpkjaa.pktC Go.Proofs.Ytndekicblbpkjaa.pktD Go.Proofs.Ytndekicblbpkjaa.pktE Go.Proofs.Ytndekicblbpkjaa.pktG
set_option linter.unusedVariables false

theorem tp_size : (Try.prog.info? 48).map (·.size) = some 9 := by kernel_rfl
theorem results_tp {fn : Func} {p : Tmp} (h : fn.results = #[.cell p 48]) (tmps : Array Value) (w : World) (g : Nat) (cs : Array Value) (hs : cs.size = 9) (hp : tmps.getD p undef = .pointer (some ⟨g, 0, none⟩)) (hg : Blk w g 48 cs) :
    (results fn tmps).run Try.prog w = .ok (.agg cs) w :=
  results_cell_row h tmps w g 48 cs (0, 0) _ hp hg Try.underlying48 rfl (by rw [hs]; kernel_rfl)
set_option maxHeartbeats 4000000 in
set_option maxRecDepth 100000 in
theorem key_err (v6 : Bool) (pr : Int) (s6 : Bool) (sh sl : Int) (d6 : Bool) (dh dl sp dp ttl fl : Int) (apr : Int) (as6 : Bool) (ash asl : Int) (ad6 : Bool) (adh adl asp adp sz : Int) (w : World) :
    Calls Try.prog 30 #[.agg #[.bool v6, .int .i64 pr, .bool s6, .int .u64 sh, .int .u64 sl, .bool d6, .int .u64 dh, .int .u64 dl, .int .i64 sp, .int .i64 dp, .int .i64 ttl, .int .i64 fl, .bool true, .int .i64 apr, .bool as6, .int .u64 ash, .int .u64 asl, .bool ad6, .int .u64 adh, .int .u64 adl, .int .i64 asp, .int .i64 adp, .int .i64 sz]] w fun o w' => o = .returned (.agg #[.int .i64 apr, .bool as6, .int .u64 ash, .int .u64 asl, .bool ad6, .int .u64 adh, .int .u64 adl, .int .i64 asp, .int .i64 adp]) ∧ Below w.heap.size w w' := by
  obtain ⟨w1, hw1⟩ : ∃ w1, w1 = (w.alloc (.cells #[.bool v6, .int .i64 pr, .bool s6, .int .u64 sh, .int .u64 sl, .bool d6, .int .u64 dh, .int .u64 dl, .int .i64 sp, .int .i64 dp, .int .i64 ttl, .int .i64 fl, .bool true, .int .i64 apr, .bool as6, .int .u64 ash, .int .u64 asl, .bool ad6, .int .u64 adh, .int .u64 adl, .int .i64 asp, .int .i64 adp, .int .i64 sz] 58)).alloc (.cells #[.int .i64 0, .bool false, .int .u64 0, .int .u64 0, .bool false, .int .u64 0, .int .u64 0, .int .i64 0, .int .i64 0] 48) := ⟨_, rfl⟩
  have E1 := Lib.hid hw1
  have BA := Lib.hid (show Below w.heap.size w (w.alloc (.cells #[.bool v6, .int .i64 pr, .bool s6, .int .u64 sh, .int .u64 sl, .bool d6, .int .u64 dh, .int .u64 dl, .int .i64 sp, .int .i64 dp, .int .i64 ttl, .int .i64 fl, .bool true, .int .i64 apr, .bool as6, .int .u64 ash, .int .u64 asl, .bool ad6, .int .u64 adh, .int .u64 adl, .int .i64 asp, .int .i64 adp, .int .i64 sz] 58)) from (Below.refl _ _).alloc (Nat.le_refl _) _)
  have B1 := Lib.hid (show Below w.heap.size w w1 from by rw [hw1]; exact BA.out.alloc BA.out.size _)
  obtain ⟨g, hg⟩ : ∃ g, g = w.heap.size := ⟨_, rfl⟩
  obtain ⟨q, hq⟩ : ∃ q, q = w.heap.size + 1 := ⟨_, rfl⟩
  have EG := Lib.hid hg
  have EQ := Lib.hid hq
  have KP := Lib.hid (show Blk w1 g 58 #[.bool v6, .int .i64 pr, .bool s6, .int .u64 sh, .int .u64 sl, .bool d6, .int .u64 dh, .int .u64 dl, .int .i64 sp, .int .i64 dp, .int .i64 ttl, .int .i64 fl, .bool true, .int .i64 apr, .bool as6, .int .u64 ash, .int .u64 asl, .bool ad6, .int .u64 adh, .int .u64 adl, .int .i64 asp, .int .i64 adp, .int .i64 sz] from by rw [hw1, hg]; exact (Blk.new w _ _).below ((Below.refl _ _).alloc (Nat.le_refl _) _) (Blk.new w _ _).lt)
  have KQ := Lib.hid (show Blk w1 q 48 #[.int .i64 0, .bool false, .int .u64 0, .int .u64 0, .bool false, .int .u64 0, .int .u64 0, .int .i64 0, .int .i64 0] from by
    have h9 := Blk.new (w.alloc (.cells #[.bool v6, .int .i64 pr, .bool s6, .int .u64 sh, .int .u64 sl, .bool d6, .int .u64 dh, .int .u64 dl, .int .i64 sp, .int .i64 dp, .int .i64 ttl, .int .i64 fl, .bool true, .int .i64 apr, .bool as6, .int .u64 ash, .int .u64 asl, .bool ad6, .int .u64 adh, .int .u64 adl, .int .i64 asp, .int .i64 adp, .int .i64 sz] 58)) 48 #[.int .i64 0, .bool false, .int .u64 0, .int .u64 0, .bool false, .int .u64 0, .int .u64 0, .int .i64 0, .int .i64 0]
    rw [← hw1] at h9
    rw [hq]
    simpa using h9)
  have HI := Lib.hid tp_size
  clear hw1 hg hq
  have p12 := KP.out.cell 12
  have p13 := KP.out.cell 13
  have p14 := KP.out.cell 14
  have p15 := KP.out.cell 15
  have p16 := KP.out.cell 16
  have p17 := KP.out.cell 17
  have p18 := KP.out.cell 18
  have p19 := KP.out.cell 19
  have p20 := KP.out.cell 20
  have p21 := KP.out.cell 21
  go_enter Try.func30, Try.ntmps30
  go_upto_region 1 with fail
  rw [← E1.out, ← EQ.out, ← EG.out]
  go_wp2_with (refine wpList_store_row rfl 48 _ _ rfl q #[.int .i64 apr, .bool as6, .int .u64 ash, .int .u64 asl, .bool ad6, .int .u64 adh, .int .u64 adl, .int .i64 asp, .int .i64 adp] rfl rfl 48 #[.int .i64 0, .bool false, .int .u64 0, .int .u64 0, .bool false, .int .u64 0, .int .u64 0, .int .i64 0, .int .i64 0] KQ.out HI.out rfl (by kernel_rfl) ?_)
  refine bodyPost_ret (results_tp rfl _ _ q #[.int .i64 apr, .bool as6, .int .u64 ash, .int .u64 asl, .bool ad6, .int .u64 adh, .int .u64 adl, .int .i64 asp, .int .i64 adp] rfl rfl (blkRow KQ.out _)) rfl ?_
  exact ⟨rfl, (onlyRow _).from B1.out (by have := EQ.out; omega)⟩
set_option maxHeartbeats 4000000 in
set_option maxRecDepth 100000 in
theorem key_own (v6 : Bool) (pr : Int) (s6 : Bool) (sh sl : Int) (d6 : Bool) (dh dl sp dp ttl fl : Int) (apr : Int) (as6 : Bool) (ash asl : Int) (ad6 : Bool) (adh adl asp adp sz : Int) (w : World) :
    Calls Try.prog 30 #[.agg #[.bool v6, .int .i64 pr, .bool s6, .int .u64 sh, .int .u64 sl, .bool d6, .int .u64 dh, .int .u64 dl, .int .i64 sp, .int .i64 dp, .int .i64 ttl, .int .i64 fl, .bool false, .int .i64 apr, .bool as6, .int .u64 ash, .int .u64 asl, .bool ad6, .int .u64 adh, .int .u64 adl, .int .i64 asp, .int .i64 adp, .int .i64 sz]] w fun o w' => o = .returned (.agg #[.int .i64 pr, .bool s6, .int .u64 sh, .int .u64 sl, .bool d6, .int .u64 dh, .int .u64 dl, .int .i64 sp, .int .i64 dp]) ∧ Below w.heap.size w w' := by
  obtain ⟨w1, hw1⟩ : ∃ w1, w1 = (w.alloc (.cells #[.bool v6, .int .i64 pr, .bool s6, .int .u64 sh, .int .u64 sl, .bool d6, .int .u64 dh, .int .u64 dl, .int .i64 sp, .int .i64 dp, .int .i64 ttl, .int .i64 fl, .bool false, .int .i64 apr, .bool as6, .int .u64 ash, .int .u64 asl, .bool ad6, .int .u64 adh, .int .u64 adl, .int .i64 asp, .int .i64 adp, .int .i64 sz] 58)).alloc (.cells #[.int .i64 0, .bool false, .int .u64 0, .int .u64 0, .bool false, .int .u64 0, .int .u64 0, .int .i64 0, .int .i64 0] 48) := ⟨_, rfl⟩
  have E1 := Lib.hid hw1
  have BA := Lib.hid (show Below w.heap.size w (w.alloc (.cells #[.bool v6, .int .i64 pr, .bool s6, .int .u64 sh, .int .u64 sl, .bool d6, .int .u64 dh, .int .u64 dl, .int .i64 sp, .int .i64 dp, .int .i64 ttl, .int .i64 fl, .bool false, .int .i64 apr, .bool as6, .int .u64 ash, .int .u64 asl, .bool ad6, .int .u64 adh, .int .u64 adl, .int .i64 asp, .int .i64 adp, .int .i64 sz] 58)) from (Below.refl _ _).alloc (Nat.le_refl _) _)
  have B1 := Lib.hid (show Below w.heap.size w w1 from by rw [hw1]; exact BA.out.alloc BA.out.size _)
  obtain ⟨g, hg⟩ : ∃ g, g = w.heap.size := ⟨_, rfl⟩
  obtain ⟨q, hq⟩ : ∃ q, q = w.heap.size + 1 := ⟨_, rfl⟩
  have EG := Lib.hid hg
  have EQ := Lib.hid hq
  have KP := Lib.hid (show Blk w1 g 58 #[.bool v6, .int .i64 pr, .bool s6, .int .u64 sh, .int .u64 sl, .bool d6, .int .u64 dh, .int .u64 dl, .int .i64 sp, .int .i64 dp, .int .i64 ttl, .int .i64 fl, .bool false, .int .i64 apr, .bool as6, .int .u64 ash, .int .u64 asl, .bool ad6, .int .u64 adh, .int .u64 adl, .int .i64 asp, .int .i64 adp, .int .i64 sz] from by rw [hw1, hg]; exact (Blk.new w _ _).below ((Below.refl _ _).alloc (Nat.le_refl _) _) (Blk.new w _ _).lt)
  have KQ := Lib.hid (show Blk w1 q 48 #[.int .i64 0, .bool false, .int .u64 0, .int .u64 0, .bool false, .int .u64 0, .int .u64 0, .int .i64 0, .int .i64 0] from by
    have h9 := Blk.new (w.alloc (.cells #[.bool v6, .int .i64 pr, .bool s6, .int .u64 sh, .int .u64 sl, .bool d6, .int .u64 dh, .int .u64 dl, .int .i64 sp, .int .i64 dp, .int .i64 ttl, .int .i64 fl, .bool false, .int .i64 apr, .bool as6, .int .u64 ash, .int .u64 asl, .bool ad6, .int .u64 adh, .int .u64 adl, .int .i64 asp, .int .i64 adp, .int .i64 sz] 58)) 48 #[.int .i64 0, .bool false, .int .u64 0, .int .u64 0, .bool false, .int .u64 0, .int .u64 0, .int .i64 0, .int .i64 0]
    rw [← hw1] at h9
    rw [hq]
    simpa using h9)
  have HI := Lib.hid tp_size
  clear hw1 hg hq
  have p12 := KP.out.cell 12
  have p1 := KP.out.cell 1
  have p2 := KP.out.cell 2
  have p3 := KP.out.cell 3
  have p4 := KP.out.cell 4
  have p5 := KP.out.cell 5
  have p6 := KP.out.cell 6
  have p7 := KP.out.cell 7
  have p8 := KP.out.cell 8
  have p9 := KP.out.cell 9
  go_enter Try.func30, Try.ntmps30
  go_upto_region 1 with fail
  rw [← E1.out, ← EQ.out, ← EG.out]
  go_wp2_with (refine wpList_store_row rfl 48 _ _ rfl q #[.int .i64 pr, .bool s6, .int .u64 sh, .int .u64 sl, .bool d6, .int .u64 dh, .int .u64 dl, .int .i64 sp, .int .i64 dp] rfl rfl 48 #[.int .i64 0, .bool false, .int .u64 0, .int .u64 0, .bool false, .int .u64 0, .int .u64 0, .int .i64 0, .int .i64 0] KQ.out HI.out rfl (by kernel_rfl) ?_)
  refine bodyPost_ret (results_tp rfl _ _ q #[.int .i64 pr, .bool s6, .int .u64 sh, .int .u64 sl, .bool d6, .int .u64 dh, .int .u64 dl, .int .i64 sp, .int .i64 dp] rfl rfl (blkRow KQ.out _)) rfl ?_
  exact ⟨rfl, (onlyRow _).from B1.out (by have := EQ.out; omega)⟩
def keyP (P : Pk) : Tp := if P.er = true then P.ab else P.t
theorem key_any (P : Pk) (w : World) : Calls Try.prog 30 #[.agg P.cells] w fun o w' => o = .returned (.agg (keyP P).cells) ∧ Below w.heap.size w w' := by
  obtain ⟨v6, ⟨pr, s6, sh, sl, d6, dh, dl, sp, dp⟩, ttl, fl, er, ⟨apr, as6, ash, asl, ad6, adh, adl, asp, adp⟩, sz⟩ := P
  cases er with
  | true => exact key_err v6 pr s6 sh sl d6 dh dl sp dp ttl fl apr as6 ash asl ad6 adh adl asp adp sz w
  | false => exact key_own v6 pr s6 sh sl d6 dh dl sp dp ttl fl apr as6 ash asl ad6 adh adl asp adp sz w
end Go.Proofs.Ytndekicblbpkjaa.pktK
/- Layer 13: a packet whose bytes behind its header a closure makes. -/
namespace Go.Proofs.Ytndekicblbpkjaa.pktL
open Go.ChangeShapes Go.WideShapes Go.ChangeAt Go.RowKit
open Go.Proofs.Ytndekicblbpkjaa.base Go.Proofs.Ytndekicblbpkjaa.rdrA Go.Proofs.Ytndekicblbpkjaa.rdrG Go.Proofs.Ytndekicblbpkjaa.sixM Go.Proofs.Ytndekicblbpkjaa.pktA Go.Proofs.Ytndekicblbpkjaa.pktB
set_option linter.unusedVariables false

def MkP (e : Int) (out : List Int) (w : World) (o : Ending) (w' : World) : Prop := Below w.heap.size w w' ∧ ∃ (A : Option Addr) (n c : Nat), o = .returned (.tuple #[.slice A n c, .int .i64 e]) ∧ Sl w' A n c out
theorem MkP.nil_ {e : Int} {w w' : World} (h : Below w.heap.size w w') : MkP e [] w (.returned (.tuple #[.slice none 0 0, .int .i64 e])) w' := ⟨h, none, 0, 0, rfl, Sl.none_ w'⟩
set_option maxHeartbeats 4000000 in
set_option maxRecDepth 100000 in
theorem whole_dg_bad (pr : Int) (s6 : Bool) (sh sl : Int) (d6 : Bool) (dh dl sp dp ttl sz : Int) (c1 c2 : Nat) (ps bs : List Int) (e : Int) (he : e ≠ 0) (w : World)
    (HPS : Hid (∀ V, Below w.heap.size w V → Calls Try.prog 88 #[.agg #[.bool s6, .int .u64 sh, .int .u64 sl], .agg #[.bool d6, .int .u64 dh, .int .u64 dl], .int .i64 pr, .int .i64 sz] V (Gives ps V)))
    (HC : Hid (∀ V A2 n2 k2, Below w.heap.size w V → Sl V A2 n2 k2 ps → Calls Try.prog 64 #[.slice A2 n2 k2, .pointer (some ⟨c1, 0, none⟩), .pointer (some ⟨c2, 0, none⟩)] V (MkP e bs V))) :
    Calls Try.prog 63 #[.agg #[.int .i64 pr, .bool s6, .int .u64 sh, .int .u64 sl, .bool d6, .int .u64 dh, .int .u64 dl, .int .i64 sp, .int .i64 dp], .int .i64 ttl, .int .i64 sz, .func (.func 64) #[] #[.pointer (some ⟨c1, 0, none⟩), .pointer (some ⟨c2, 0, none⟩)]] w (MkP e [] w) := by
  have te : (e != 0) = true := by simpa using he
  clear he
  obtain ⟨w1, hw1⟩ : ∃ w1, w1 = w.alloc (.cells #[.int .i64 pr, .bool s6, .int .u64 sh, .int .u64 sl, .bool d6, .int .u64 dh, .int .u64 dl, .int .i64 sp, .int .i64 dp] 48) := ⟨_, rfl⟩
  have E1 := Lib.hid hw1
  have B1 := Lib.hid (show Below w.heap.size w w1 from by rw [hw1]; exact (Below.refl _ _).alloc (Nat.le_refl _) _)
  obtain ⟨g, hg⟩ : ∃ g, g = w.heap.size := ⟨_, rfl⟩
  have EG := Lib.hid hg
  have KP := Lib.hid (show Blk w1 g 48 #[.int .i64 pr, .bool s6, .int .u64 sh, .int .u64 sl, .bool d6, .int .u64 dh, .int .u64 dl, .int .i64 sp, .int .i64 dp] from by rw [hw1, hg]; exact Blk.new w _ _)
  clear hw1 hg
  go_enter Try.func63, Try.ntmps63
  go_upto_region 1 with fail
  rw [← E1.out, ← EG.out]
  have p0 := KP.out.cell 0
  have p1 := KP.out.cell 1
  have p2 := KP.out.cell 2
  have p3 := KP.out.cell 3
  have p4 := KP.out.cell 4
  have p5 := KP.out.cell 5
  have p6 := KP.out.cell 6
  go_wp2_with fail
  refine (HPS.out _ B1.out).mono ?_
  rintro o w2 ⟨hb2, A2, n2, k2, rfl, hsl, hge⟩
  have KP2 := Lib.hid (KP.out.below hb2 KP.out.lt)
  have B2 := Lib.hid (B1.out.trans (hb2.mono B1.out.size))
  have HC2 := Lib.hid (HC.out w2 A2 n2 k2 B2.out hsl)
  clear hb2 hsl hge p0 p1 p2 p3 p4 p5 p6
  go_wp2_with fail
  refine HC2.out.mono ?_
  rintro o w3 ⟨hb3, A3, n3, c3, rfl, hs3⟩
  have KP3 := Lib.hid (KP2.out.below hb3 KP2.out.lt)
  have B3 := Lib.hid (B2.out.trans (hb3.mono B2.out.size))
  clear hb3 hs3
  have p0 := KP3.out.cell 0
  have p1 := KP3.out.cell 1
  have p2 := KP3.out.cell 2
  have p3 := KP3.out.cell 3
  have p4 := KP3.out.cell 4
  have p5 := KP3.out.cell 5
  have p6 := KP3.out.cell 6
  go_wp2_with fail
  go_ret2
  exact MkP.nil_ B3.out
set_option maxHeartbeats 4000000 in
set_option maxRecDepth 100000 in
theorem whole_dg_four (pr : Int) (sh sl : Int) (d6 : Bool) (dh dl sp dp ttl sz : Int) (c1 c2 : Nat) (ps bs : List Int) (e : Int) (out : List Int) (w : World)
    (HPS : Hid (∀ V, Below w.heap.size w V → Calls Try.prog 88 #[.agg #[.bool false, .int .u64 sh, .int .u64 sl], .agg #[.bool d6, .int .u64 dh, .int .u64 dl], .int .i64 pr, .int .i64 sz] V (Gives ps V)))
    (HC : Hid (∀ V A2 n2 k2, Below w.heap.size w V → Sl V A2 n2 k2 ps → Calls Try.prog 64 #[.slice A2 n2 k2, .pointer (some ⟨c1, 0, none⟩), .pointer (some ⟨c2, 0, none⟩)] V (MkP 0 bs V)))
    (HB : Hid (∀ V A2 n2 k2, Below w.heap.size w V → Sl V A2 n2 k2 bs → Calls Try.prog 89 #[.agg #[.int .i64 0, .int .i64 0, .bool false, .bool false, .int .i64 0, .int .i64 ttl, .int .i64 pr, .bool false, .int .u64 sh, .int .u64 sl, .bool d6, .int .u64 dh, .int .u64 dl, .slice none 0 0], .slice A2 n2 k2] V (MkP e out V))) :
    Calls Try.prog 63 #[.agg #[.int .i64 pr, .bool false, .int .u64 sh, .int .u64 sl, .bool d6, .int .u64 dh, .int .u64 dl, .int .i64 sp, .int .i64 dp], .int .i64 ttl, .int .i64 sz, .func (.func 64) #[] #[.pointer (some ⟨c1, 0, none⟩), .pointer (some ⟨c2, 0, none⟩)]] w (MkP e out w) := by
  obtain ⟨w1, hw1⟩ : ∃ w1, w1 = w.alloc (.cells #[.int .i64 pr, .bool false, .int .u64 sh, .int .u64 sl, .bool d6, .int .u64 dh, .int .u64 dl, .int .i64 sp, .int .i64 dp] 48) := ⟨_, rfl⟩
  have E1 := Lib.hid hw1
  have B1 := Lib.hid (show Below w.heap.size w w1 from by rw [hw1]; exact (Below.refl _ _).alloc (Nat.le_refl _) _)
  obtain ⟨g, hg⟩ : ∃ g, g = w.heap.size := ⟨_, rfl⟩
  have EG := Lib.hid hg
  have KP := Lib.hid (show Blk w1 g 48 #[.int .i64 pr, .bool false, .int .u64 sh, .int .u64 sl, .bool d6, .int .u64 dh, .int .u64 dl, .int .i64 sp, .int .i64 dp] from by rw [hw1, hg]; exact Blk.new w _ _)
  clear hw1 hg
  go_enter Try.func63, Try.ntmps63
  go_upto_region 1 with fail
  rw [← E1.out, ← EG.out]
  have p0 := KP.out.cell 0
  have p1 := KP.out.cell 1
  have p2 := KP.out.cell 2
  have p3 := KP.out.cell 3
  have p4 := KP.out.cell 4
  have p5 := KP.out.cell 5
  have p6 := KP.out.cell 6
  go_wp2_with fail
  refine (HPS.out _ B1.out).mono ?_
  rintro o w2 ⟨hb2, A2, n2, k2, rfl, hsl, hge⟩
  have KP2 := Lib.hid (KP.out.below hb2 KP.out.lt)
  have B2 := Lib.hid (B1.out.trans (hb2.mono B1.out.size))
  have HC2 := Lib.hid (HC.out w2 A2 n2 k2 B2.out hsl)
  clear hb2 hsl hge p0 p1 p2 p3 p4 p5 p6
  go_wp2_with fail
  refine HC2.out.mono ?_
  rintro o w3 ⟨hb3, A3, n3, c3, rfl, hs3⟩
  have KP3 := Lib.hid (KP2.out.below hb3 KP2.out.lt)
  have B3 := Lib.hid (B2.out.trans (hb3.mono B2.out.size))
  have HB3 := Lib.hid (HB.out w3 A3 n3 c3 B3.out hs3)
  clear hb3 hs3
  have p0 := KP3.out.cell 0
  have p1 := KP3.out.cell 1
  have p2 := KP3.out.cell 2
  have p3 := KP3.out.cell 3
  have p4 := KP3.out.cell 4
  have p5 := KP3.out.cell 5
  have p6 := KP3.out.cell 6
  go_wp2_with fail
  refine HB3.out.mono ?_
  rintro o w4 ⟨hb4, A4, n4, c4, rfl, hs4⟩
  have B4 := Lib.hid (B3.out.trans (hb4.mono B3.out.size))
  clear hb4
  go_wp2_with fail
  go_ret2
  exact ⟨B4.out, A4, n4, c4, rfl, hs4⟩
set_option maxHeartbeats 4000000 in
set_option maxRecDepth 100000 in
theorem whole_dg_six (pr : Int) (sh sl : Int) (d6 : Bool) (dh dl sp dp ttl sz : Int) (c1 c2 : Nat) (ps bs : List Int) (e : Int) (out : List Int) (w : World)
    (HPS : Hid (∀ V, Below w.heap.size w V → Calls Try.prog 88 #[.agg #[.bool true, .int .u64 sh, .int .u64 sl], .agg #[.bool d6, .int .u64 dh, .int .u64 dl], .int .i64 pr, .int .i64 sz] V (Gives ps V)))
    (HC : Hid (∀ V A2 n2 k2, Below w.heap.size w V → Sl V A2 n2 k2 ps → Calls Try.prog 64 #[.slice A2 n2 k2, .pointer (some ⟨c1, 0, none⟩), .pointer (some ⟨c2, 0, none⟩)] V (MkP 0 bs V)))
    (HB : Hid (∀ V A2 n2 k2, Below w.heap.size w V → Sl V A2 n2 k2 bs → Calls Try.prog 18 #[.agg #[.int .i64 0, .int .i64 0, .int .i64 ttl, .bool true, .int .u64 sh, .int .u64 sl, .bool d6, .int .u64 dh, .int .u64 dl, .slice none 0 0, .int .i64 pr], .slice A2 n2 k2] V (MkP e out V))) :
    Calls Try.prog 63 #[.agg #[.int .i64 pr, .bool true, .int .u64 sh, .int .u64 sl, .bool d6, .int .u64 dh, .int .u64 dl, .int .i64 sp, .int .i64 dp], .int .i64 ttl, .int .i64 sz, .func (.func 64) #[] #[.pointer (some ⟨c1, 0, none⟩), .pointer (some ⟨c2, 0, none⟩)]] w (MkP e out w) := by
  obtain ⟨w1, hw1⟩ : ∃ w1, w1 = w.alloc (.cells #[.int .i64 pr, .bool true, .int .u64 sh, .int .u64 sl, .bool d6, .int .u64 dh, .int .u64 dl, .int .i64 sp, .int .i64 dp] 48) := ⟨_, rfl⟩
  have E1 := Lib.hid hw1
  have B1 := Lib.hid (show Below w.heap.size w w1 from by rw [hw1]; exact (Below.refl _ _).alloc (Nat.le_refl _) _)
  obtain ⟨g, hg⟩ : ∃ g, g = w.heap.size := ⟨_, rfl⟩
  have EG := Lib.hid hg
  have KP := Lib.hid (show Blk w1 g 48 #[.int .i64 pr, .bool true, .int .u64 sh, .int .u64 sl, .bool d6, .int .u64 dh, .int .u64 dl, .int .i64 sp, .int .i64 dp] from by rw [hw1, hg]; exact Blk.new w _ _)
  clear hw1 hg
  go_enter Try.func63, Try.ntmps63
  go_upto_region 1 with fail
  rw [← E1.out, ← EG.out]
  have p0 := KP.out.cell 0
  have p1 := KP.out.cell 1
  have p2 := KP.out.cell 2
  have p3 := KP.out.cell 3
  have p4 := KP.out.cell 4
  have p5 := KP.out.cell 5
  have p6 := KP.out.cell 6
  go_wp2_with fail
  refine (HPS.out _ B1.out).mono ?_
  rintro o w2 ⟨hb2, A2, n2, k2, rfl, hsl, hge⟩
  have KP2 := Lib.hid (KP.out.below hb2 KP.out.lt)
  have B2 := Lib.hid (B1.out.trans (hb2.mono B1.out.size))
  have HC2 := Lib.hid (HC.out w2 A2 n2 k2 B2.out hsl)
  clear hb2 hsl hge p0 p1 p2 p3 p4 p5 p6
  go_wp2_with fail
  refine HC2.out.mono ?_
  rintro o w3 ⟨hb3, A3, n3, c3, rfl, hs3⟩
  have KP3 := Lib.hid (KP2.out.below hb3 KP2.out.lt)
  have B3 := Lib.hid (B2.out.trans (hb3.mono B2.out.size))
  have HB3 := Lib.hid (HB.out w3 A3 n3 c3 B3.out hs3)
  clear hb3 hs3
  have p0 := KP3.out.cell 0
  have p1 := KP3.out.cell 1
  have p2 := KP3.out.cell 2
  have p3 := KP3.out.cell 3
  have p4 := KP3.out.cell 4
  have p5 := KP3.out.cell 5
  have p6 := KP3.out.cell 6
  go_wp2_with fail
  refine HB3.out.mono ?_
  rintro o w4 ⟨hb4, A4, n4, c4, rfl, hs4⟩
  have B4 := Lib.hid (B3.out.trans (hb4.mono B3.out.size))
  clear hb4
  go_wp2_with fail
  go_ret2
  exact ⟨B4.out, A4, n4, c4, rfl, hs4⟩
end Go.Proofs.Ytndekicblbpkjaa.pktL
