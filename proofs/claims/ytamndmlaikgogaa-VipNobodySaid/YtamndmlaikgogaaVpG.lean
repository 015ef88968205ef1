/- Layer 30: a table is made. -/
import Derived.Test.YtamndmlaikgogaaVpF
import Derived.StillTailTactics
namespace Go.Proofs.Ytamndmlaikgogaa.vpG
open Go.ChangeShapes Go.WideShapes Go.ChangeAt Go.RowKit
open Go.Proofs.Ytamndmlaikgogaa.base Go.Proofs.Ytamndmlaikgogaa.dfA Go.Proofs.Ytamndmlaikgogaa.treB Go.Proofs.Ytamndmlaikgogaa.vdA Go.Proofs.Ytamndmlaikgogaa.vdB Go.Proofs.Ytamndmlaikgogaa.vdC Go.Proofs.Ytamndmlaikgogaa.vdD Go.Proofs.Ytamndmlaikgogaa.vdH Go.Proofs.Ytamndmlaikgogaa.vdI Go.Proofs.Ytamndmlaikgogaa.vdJ Go.Proofs.Ytamndmlaikgogaa.vpA Go.Proofs.Ytamndmlaikgogaa.vpB Go.Proofs.Ytamndmlaikgogaa.vpC Go.Proofs.Ytamndmlaikgogaa.vpD Go.Proofs.Ytamndmlaikgogaa.vpE Go.Proofs.Ytamndmlaikgogaa.vpF
open Go.Maps
set_option linter.unusedVariables false

theorem rows_sv {S : Nat → Prop} {w w' : World} {A : Option Addr} {n k : Nat} {f : Nat → List Value} (h : RowsOf w A n k f) (hs : Sv S w w') (hA : ∀ ad : Addr, A = some ad → ¬ S ad.block) : RowsOf w' A n k f := by
  rcases h with h0 | ⟨b, off, h1, h2, h3⟩
  · exact .inl h0
  · exact .inr ⟨b, off, h1, Nat.lt_of_lt_of_le h2 hs.size, fun j hj i hi => (World.cell?_of_block (w := w) (w' := w') (a := ⟨b, off + j * k + i, none⟩) (hs.block b h2 (hA _ h1))).trans (h3 j hj i hi)⟩
theorem owns_keep {H : Type} {w w' : World} {P : Program} {k : TypeId} {R : Value → Option (DataW H × List MemPlace)} {b n : Nat} {D : DataW H} (h : w.ownsMap P k R b n D) (hb : w'.heap[b]? = w.heap[b]?) : w'.ownsMap P k R b n D := by
  obtain ⟨es, clock, h0, r⟩ := h
  exact ⟨es, clock, hb.trans h0, r⟩
theorem sv_blk {S : Nat → Prop} {w w' : World} {g : Nat} {t : TypeId} {cs : Array Value} (hs : Sv S w w') (h : Blk w g t cs) (hg : ¬ S g) : Blk w' g t cs := (hs.block g h.lt hg).trans h
def NewT (w : World) (c : Cf) (e : Ending) (w' : World) : Prop :=
  ∃ tb tr mb ob A k At, e = .returned (.pointer (some ⟨tb, 0, none⟩)) ∧ TabOk w' tb tr mb ob A k At c.vps c.vws ∧ Below w.heap.size w w' ∧ w.heap.size ≤ tb
theorem new_nil (w : World) : Calls Try.prog 18 #[.pointer none] w fun e w' => e = .returned (.pointer none) ∧ w = w' := by
  go_enter Try.func18, Try.ntmps18
  go_wp2_with fail
  go_ret
  exact ⟨rfl, rfl⟩
set_option maxHeartbeats 16000000 in
set_option maxRecDepth 100000 in
theorem new_t {w : World} {g T : Nat} {c : Cf} (h : CfOk w g T c) (hv : ∀ j, j < c.vps.length → VpIn (c.vps.getD j zVp)) (hl : c.vps.length ≤ 1000) (hm : c.vws.length ≤ 1000)
    (hw : ∀ j, j < c.vws.length → prB (c.vws.getD j zVw).v6 (c.vws.getD j zVw).hi (c.vws.getD j zVw).lo (c.vws.getD j zVw).bits = true) :
    Calls Try.prog 18 #[.pointer (some ⟨g, 0, none⟩)] w (NewT w c) := by
  obtain ⟨l, hll⟩ : ∃ l, l = c.vps := ⟨_, rfl⟩
  obtain ⟨vs, hvs⟩ : ∃ vs, vs = c.vws := ⟨_, rfl⟩
  unfold NewT
  have HVR := Lib.hid (show RdV w c.vA l from hll ▸ h.rv)
  have HWR := Lib.hid (show RdW w c.wA vs from hvs ▸ h.rw_)
  have HVU := Lib.hid (show ∀ j, j < vs.length → U64 (vs.getD j zVw).hi ∧ U64 (vs.getD j zVw).lo from hvs ▸ h.vu)
  have HCB := Lib.hid h.blk
  rw [← hll] at hv hl ⊢
  rw [← hvs] at hw hm ⊢
  have HV := Lib.hid hv
  have HW := Lib.hid hw
  have HM := Lib.hid hm
  have HL := Lib.hid hl
  have hmm := @run_makeMap Try.prog
  obtain ⟨n, hn⟩ : ∃ n, n = l.length := ⟨_, rfl⟩
  obtain ⟨m, hmw⟩ : ∃ m, m = vs.length := ⟨_, rfl⟩
  obtain ⟨w1, hw1⟩ : ∃ w1, w1 = w.alloc (.cells #[.pointer none, .pointer none, .bool false, .int .i64 0, .pointer none, .pointer none, .bool false, .int .i64 0, .int .i64 0] 96) := ⟨_, rfl⟩
  have E1 := Lib.hid hw1
  have K1 := Lib.hid (show Blk w1 w.heap.size 96 #[.pointer none, .pointer none, .bool false, .int .i64 0, .pointer none, .pointer none, .bool false, .int .i64 0, .int .i64 0] from hw1 ▸ Blk.new w _ _)
  have B1 := Lib.hid (show Below w.heap.size w w1 from hw1 ▸ (Below.refl _ _).alloc (Nat.le_refl _) _)
  have HCB1 := Lib.hid (HCB.out.below B1.out HCB.out.lt)
  have d1 : w1.cell? ⟨g, 1, none⟩ = some (.slice c.vA n c.vc) := (HCB1.out.cell 1).trans (by rw [hn, hll]; rfl)
  have HCL := Lib.hid (clone_v c.vA c.vc l w1 (rows_below HVR.out B1.out) hl)
  rw [← hn] at HCL
  have d1' : (w.alloc (.cells #[.pointer none, .pointer none, .bool false, .int .i64 0, .pointer none, .pointer none, .bool false, .int .i64 0, .int .i64 0] 96)).cell? ⟨g, 1, none⟩ = some (.slice c.vA n c.vc) := hw1 ▸ d1
  have d0' : w.cell? ⟨g, 1, none⟩ = some (.slice c.vA n c.vc) := (HCB.out.cell 1).trans (by rw [hn, hll]; rfl)
  have hgl := HCB.out.lt
  have HN := Lib.hid hn
  have HMW := Lib.hid hmw
  have HCV := Lib.hid (show ∀ W, Blk W g 41 (c.cells ++ #[.pointer (some ⟨T, 0, none⟩)]) → W.cell? ⟨g, 2, none⟩ = some (.slice c.wA m c.wc) from fun W hb => (hb.cell 2).trans (by rw [hmw, hvs]; rfl))
  have hn1 : n ≤ 1000 := by rw [hn]; exact hl
  have hm1 : m ≤ 1000 := by rw [hmw]; exact hm
  have hgm : (n : Int) ≤ 9223372036854775807 := by omega
  have hmm2 : (m : Int) ≤ 9223372036854775807 := by omega
  clear h hv hw hm hl hll hvs hn hmw hw1 d1
  go_enter Try.func18, Try.ntmps18
  go_wp2_with (go_at_call 29; rw [← E1.out]; (with_reducible refine HCL.out.mono ?_); rintro o w2 ⟨A, k, rfl, hnk, hk2, hrr, hb2, hnew⟩)
  obtain ⟨mb, hmb⟩ : ∃ mb, mb = w2.heap.size := ⟨_, rfl⟩
  rw [← hmb]
  obtain ⟨w3, hw3⟩ : ∃ w3, w3 = ((w2.alloc (.map #[] 0)).alloc (.map #[] 0)).alloc (.cells #[.pointer (some ⟨w.heap.size, 0, none⟩), .slice A n k, .map (some mb), .map (some (mb + 1))] 70) := ⟨_, rfl⟩
  rw [← hw3]
  have B23 := Lib.hid (show Below w2.heap.size w2 w3 from hw3 ▸ (((Below.refl _ _).alloc (Nat.le_refl _) _).alloc (by simp) _).alloc (by simp; omega) _)
  have KT3 := Lib.hid (show Blk w3 (mb + 1 + 1) 70 #[.pointer (some ⟨w.heap.size, 0, none⟩), .slice A n k, .map (some mb), .map (some (mb + 1))] from by
    rw [hw3, show mb + 1 + 1 = ((w2.alloc (.map #[] 0)).alloc (.map #[] 0)).heap.size from by simp [hmb]]
    exact Blk.new _ _ _)
  have MT3 := Lib.hid (show w3.ownsMap Try.prog 98 (plainElem Try.prog 3) mb 0 (tgt l 0) from by
    rw [hw3, hmb]
    exact ((World.ownsMap_made (H := Unit) w2 _ _ _).alloc _).alloc _)
  have MO3 := Lib.hid (show w3.ownsMap Try.prog 27 unitElem (mb + 1) 0 (our l 0) from by
    rw [hw3, show mb + 1 = (w2.alloc (.map #[] 0)).heap.size from by simp [hmb]]
    exact (World.ownsMap_made (H := Unit) (w2.alloc (.map #[] 0)) _ _ _).alloc _)
  have B13 := Lib.hid (hb2.trans (B23.out.mono hb2.size))
  have B3 := Lib.hid (B1.out.trans (B13.out.mono B1.out.size))
  have K3 := Lib.hid (K1.out.below B13.out K1.out.lt)
  have HC3 := Lib.hid (HCB1.out.below B13.out HCB1.out.lt)
  have HR3 := Lib.hid (show RowsOf w3 A n 7 (fun j => (l.getD j zVp).cells.toList) from rows_below hrr B23.out)
  have HW3 := Lib.hid (show RdW w3 c.wA vs from rows_below HWR.out B3.out)
  have HMB := Lib.hid (show w1.heap.size ≤ mb from hmb ▸ hb2.size)
  have HAB := Lib.hid (show ∀ ad : Addr, A = some ad → w1.heap.size ≤ ad.block ∧ ad.block < mb from fun ad e => by rw [hmb]; exact hnew ad e)
  have HWA := Lib.hid (show ∀ ad : Addr, c.wA = some ad → vs.length = 0 ∨ ad.block < w.heap.size from fun ad e => by
    rcases HWR.out with h0 | ⟨b, off, h1, h2, _⟩
    · exact .inl h0
    · rw [h1] at e
      injection e with e
      subst e
      exact .inr h2)
  clear hb2 hnew hrr hw3 hmb d1' d0' hgl
  go_loopw [27, 4, 5] (fun i _ _ wr => ∃ q : Nat, i = .int .i64 q ∧ q ≤ n ∧ wr.ownsMap Try.prog 98 (plainElem Try.prog 3) mb q (tgt l q) ∧ wr.ownsMap Try.prog 27 unitElem (mb + 1) q (our l q) ∧ Sv (fun b => b = mb ∨ b = mb + 1) w3 wr) (fun i _ _ _ => n - (intOf i).toNat)
  case atStart => exact ⟨0, rfl, by omega, MT3.out, MO3.out, Sv.refl _ _⟩
  case round =>
    obtain ⟨q, rfl, hq, ht, ho, hs⟩ := hrel
    obtain ⟨wo, hwo⟩ : ∃ wo, wo = wr := ⟨_, rfl⟩
    subst hwo
    have KO := Lib.hid ho
    have KT := Lib.hid ht
    have KS := Lib.hid hs
    have HT := Lib.hid (sv_blk hs KT3.out (by omega))
    clear ht ho hs
    by_cases hqn : q < n
    case neg =>
      have t1 : decide ((q : Int) < n) = false := decide_eq_false (by omega)
      obtain rfl : n = q := by omega
      have HC4 := Lib.hid (sv_blk KS.out HC3.out (by have := HCB.out.lt; have := HMB.out; have := B1.out.size; omega))
      have x2 : wo.cell? ⟨g, 2, none⟩ = some (.slice c.wA m c.wc) := HCV.out _ HC4.out
      have h13 := K1.out.lt
      have hmb1 := HMB.out
      have htr : w.heap.size ≠ mb ∧ w.heap.size ≠ mb + 1 := by omega
      have K4 := Lib.hid (sv_blk KS.out K3.out (by omega))
      have T0 := Lib.hid (show Tr wo w.heap.size (at0 w.heap.size) (hasT vs 0) (valT vs 0) (szT vs 0) from tr_new K4.out)
      have HR4 := Lib.hid (rows_sv HR3.out KS.out (fun ad e => by have := (HAB.out ad e).2; omega))
      have HW4 := Lib.hid (show RdW wo c.wA vs from by
        by_cases h0 : vs.length = 0
        · exact .inl h0
        · exact rows_sv HW3.out KS.out (fun ad e => by
            rcases HWA.out ad e with h | h
            · exact absurd h h0
            · omega))
      have B4 := Lib.hid (KS.out.to_below B3.out (fun k e => by omega))
      have KN4 := Lib.hid (show w.heap.size < wo.heap.size from K4.out.lt)
      have HTR := Lib.hid htr
      clear h13 hmb1 htr
      go_wp2_with fail
      obtain ⟨w4, hw4⟩ : ∃ w4, w4 = wo := ⟨_, rfl⟩
      subst hw4
      go_loopw [58, 7] (fun i _ wr => ∃ q : Nat, i = .int .i64 q ∧ q ≤ m ∧ Sv (fun b => b = w.heap.size) w4 wr ∧ ∃ At, Tr wr w.heap.size At (hasT vs q) (valT vs q) (szT vs q) ∧ ∀ p g o, At p = some (g, o) → g = w.heap.size ∨ w4.heap.size ≤ g) (fun i _ _ => m - (intOf i).toNat)
      case atStart =>
        refine ⟨0, rfl, by omega, Sv.refl _ _, _, T0.out, fun p g o e => ?_⟩
        rcases T0.out.off p g o e with h | h
        · exact .inl h.1
        · exact .inl (Classical.byContradiction fun _ => by
            match p, e with
            | [b], e => unfold at0 at e; injection e with e; injection e with e1 e2; exact h.1 e1.symm)
      case round =>
        obtain ⟨q, rfl, hq, hs, At, ht, hat⟩ := hrel
        obtain ⟨wo, hwo⟩ : ∃ wo, wo = wr := ⟨_, rfl⟩
        subst hwo
        have KS2 := Lib.hid hs
        have KT2 := Lib.hid ht
        have KA2 := Lib.hid hat
        have HT2 := Lib.hid (sv_blk hs HT.out (by have := HTR.out; have := HMB.out; have := K1.out.lt; omega))
        clear hs ht hat
        by_cases hqm : q < m
        case neg =>
          have t2 : decide ((q : Int) < m) = false := decide_eq_false (by omega)
          obtain rfl : m = q := by omega
          go_wp2_with fail
          go_ret
          refine ⟨mb + 1 + 1, w.heap.size, mb, mb + 1, A, k, At, rfl, ?_, KS2.out.to_below B4.out (fun k e => by omega), by have := HMB.out; have := K1.out.lt; omega⟩
          have hx := HTR.out
          have hln := HN.out
          subst hln
          have hlm := HMW.out
          subst hlm
          refine ⟨HT2.out, rows_sv HR4.out KS2.out (fun ad e => by have := (HAB.out ad e).1; have := K1.out.lt; omega), hnk, hk2, ?_, ?_, KT2.out⟩
          · exact owns_keep KT.out (KS2.out.block _ KT.out.lt (by omega))
          · exact owns_keep KO.out (KS2.out.block _ KO.out.lt (by omega))
        case pos =>
          have t2 : decide ((q : Int) < m) = true := decide_eq_true (by omega)
          obtain ⟨b, off, hA, hbl, hC⟩ := rows_at (show RowsOf wo c.wA vs.length 5 (fun j => (vs.getD j zVw).cells.toList) from rows_sv HW4.out KS2.out (fun ad e => by
            rcases HWA.out ad e with h | h
            · have := HMW.out; omega
            · omega)) q (by have := HMW.out; omega)
          have HPR := Lib.hid (HW.out q (by have := HMW.out; omega))
          have HUQ := Lib.hid (HVU.out q (by have := HMW.out; omega))
          obtain ⟨e, he⟩ : ∃ e, e = vs.getD q zVw := ⟨_, rfl⟩
          simp only [← he] at hC HPR HUQ
          have H1 := Lib.hid (show hasT vs (q + 1) = fun x => if x = pthW e then true else hasT vs q x from by rw [he]; rfl)
          have H2 := Lib.hid (show valT vs (q + 1) = fun x => if x = pthW e then e.lev else valT vs q x from by rw [he]; rfl)
          have H3 := Lib.hid (show szT vs (q + 1) = if hasT vs q (pthW e) = true then szT vs q else szT vs q + 1 from by rw [he]; rfl)
          clear he
          obtain ⟨v6, hi, lo, bits, lev⟩ := e
          obtain ⟨bn, hbn⟩ : ∃ bn : Nat, bits = bn := by
            have := HPR.out
            unfold prB at this
            simp only [Bool.and_eq_true, decide_eq_true_eq] at this
            exact ⟨bits.toNat, by have := this.1.1.2; omega⟩
          subst hbn
          have d0 : wo.cell? ⟨b, off + q * 5, none⟩ = some (.bool v6) := hC 0 (by omega)
          have d1 : wo.cell? ⟨b, off + q * 5 + 1, none⟩ = some (.int .u64 hi) := hC 1 (by omega)
          have d2 : wo.cell? ⟨b, off + q * 5 + 2, none⟩ = some (.int .u64 lo) := hC 2 (by omega)
          have d3 : wo.cell? ⟨b, off + q * 5 + 3, none⟩ = some (.int .i64 bn) := hC 3 (by omega)
          have d4 : wo.cell? ⟨b, off + q * 5 + 4, none⟩ = some (.int .i64 lev) := hC 4 (by omega)
          have j0 : (0 : Int) ≤ q := by omega
          have j1 : (q : Int) < m := by omega
          obtain ⟨wa, hwa⟩ : ∃ wa, wa = wo.alloc (.cells #[.bool v6, .int .u64 hi, .int .u64 lo, .int .i64 bn, .int .i64 lev] 52) := ⟨_, rfl⟩
          have EA := Lib.hid hwa
          have QA := Lib.hid (show Blk wa wo.heap.size 52 #[.bool v6, .int .u64 hi, .int .u64 lo, .int .i64 bn, .int .i64 lev] from hwa ▸ Blk.new wo _ _)
          have BA := Lib.hid (show Below wo.heap.size wo wa from hwa ▸ (Below.refl _ _).alloc (Nat.le_refl _) _)
          have TA := Lib.hid (HT2.out.below BA.out HT2.out.lt)
          have SA := Lib.hid (show Sv (fun b => b = w.heap.size) w4 wa from KS2.out.below BA.out)
          have TRA := Lib.hid (show Tr wa.drew w.heap.size At (hasT vs q) (valT vs q) (szT vs q) from KT2.out.keep (fun k hk => BA.out.block k hk))
          have HP := Lib.hid (put_any w.heap.size v6 hi lo bn lev wa.drew At _ _ _ TRA.out (by have := szT_in vs q; omega) HUQ.out.1.1 HUQ.out.1.2 HUQ.out.2.1 HUQ.out.2.2 HPR.out)
          rw [hA]
          clear hwa hC hbl hA
          go_upto_region 13 with fail
          rw [← EA.out]
          have y0 : wa.cell? ⟨wo.heap.size, 0, none⟩ = some (.bool v6) := QA.out.cell 0
          have y1 : wa.cell? ⟨wo.heap.size, 1, none⟩ = some (.int .u64 hi) := QA.out.cell 1
          have y2 : wa.cell? ⟨wo.heap.size, 2, none⟩ = some (.int .u64 lo) := QA.out.cell 2
          have y3 : wa.cell? ⟨wo.heap.size, 3, none⟩ = some (.int .i64 bn) := QA.out.cell 3
          have y4 : wa.cell? ⟨wo.heap.size, 4, none⟩ = some (.int .i64 lev) := QA.out.cell 4
          have yt : wa.cell? ⟨mb + 1 + 1, 0, none⟩ = some (.pointer (some ⟨w.heap.size, 0, none⟩)) := TA.out.cell 0
          go_wp2_with fail
          go_still_tail 8, (by kernel_rfl)
          change wpList _ _ _ _ _ wa.drew
          clear d0 d1 d2 d3 d4 y0 y1 y2 y3 y4 yt
          go_wp2_with fail
          refine HP.out.mono ?_
          rintro o_ w5 ⟨rfl, hkp, At', hgr, htr5⟩
          have HKP := Lib.hid hkp
          have HGR := Lib.hid hgr
          have HT5 := Lib.hid htr5
          clear hkp hgr htr5
          go_wp2_with fail
          go_roundw
          case rel =>
            refine ⟨q + 1, by simp, by omega, SA.out.drew.kp HKP.out (fun p g o e => KA2.out p g o e), At', ?_, fun p g o e => ?_⟩
            · rw [H1.out, H2.out, H3.out]
              exact HT5.out
            · rcases HGR.out.new p g o e with h | h
              · exact KA2.out p g o h
              · exact .inr (Nat.le_trans SA.out.size h)
          case measure => simp [intOf]; omega
    case pos =>
      have t1 : decide ((q : Int) < n) = true := decide_eq_true (by omega)
      obtain ⟨b, off, hA, hbl, hC⟩ := rows_at (rows_sv HR3.out KS.out (fun ad e => by have := (HAB.out ad e).2; omega)) q hqn
      have HVQ := Lib.hid (HV.out q (by have := HN.out; omega))
      obtain ⟨e, he⟩ : ∃ e, e = l.getD q zVp := ⟨_, rfl⟩
      simp only [← he] at hC HVQ
      have HTG := Lib.hid (show tgt l (q + 1) = (tgt l q).put (kT e.v6 e.hi e.lo e.pr e.po) (.lit (.int .i64 q)) from by rw [he]; rfl)
      have HOU := Lib.hid (show our l (q + 1) = (our l q).put (kA e.v6 e.hi e.lo) (.agg []) from by rw [he]; rfl)
      clear he
      obtain ⟨v6, hi, lo, pr, po, co, nat⟩ := e
      have d0 : wo.cell? ⟨b, off + q * 7, none⟩ = some (.bool v6) := hC 0 (by omega)
      have d1 : wo.cell? ⟨b, off + q * 7 + 1, none⟩ = some (.int .u64 hi) := hC 1 (by omega)
      have d2 : wo.cell? ⟨b, off + q * 7 + 2, none⟩ = some (.int .u64 lo) := hC 2 (by omega)
      have d3 : wo.cell? ⟨b, off + q * 7 + 3, none⟩ = some (.int .i64 pr) := hC 3 (by omega)
      have d4 : wo.cell? ⟨b, off + q * 7 + 4, none⟩ = some (.int .i64 po) := hC 4 (by omega)
      have d5 : wo.cell? ⟨b, off + q * 7 + 5, none⟩ = some (.int .i64 co) := hC 5 (by omega)
      have d6 : wo.cell? ⟨b, off + q * 7 + 6, none⟩ = some (.bool nat) := hC 6 (by omega)
      have j0 : (0 : Int) ≤ q := by omega
      have j1 : (q : Int) < n := by omega
      obtain ⟨wa, hwa⟩ : ∃ wa, wa = wo.alloc (.cells #[.bool v6, .int .u64 hi, .int .u64 lo, .int .i64 pr, .int .i64 po, .int .i64 co, .bool nat] 48) := ⟨_, rfl⟩
      have EA := Lib.hid hwa
      have QA := Lib.hid (show Blk wa wo.heap.size 48 #[.bool v6, .int .u64 hi, .int .u64 lo, .int .i64 pr, .int .i64 po, .int .i64 co, .bool nat] from hwa ▸ Blk.new wo _ _)
      have MA := Lib.hid (show wa.ownsMap Try.prog 98 (plainElem Try.prog 3) mb q (tgt l q) from hwa ▸ KT.out.alloc _)
      have MO := Lib.hid (show wa.ownsMap Try.prog 27 unitElem (mb + 1) q (our l q) from hwa ▸ KO.out.alloc _)
      have SA := Lib.hid (show Sv (fun b => b = mb ∨ b = mb + 1) w3 wa from hwa ▸ KS.out.alloc _)
      have TA := Lib.hid (show Blk wa (mb + 1 + 1) 70 #[.pointer (some ⟨w.heap.size, 0, none⟩), .slice A n k, .map (some mb), .map (some (mb + 1))] from hwa ▸ HT.out.alloc _)
      subst hA
      clear hwa hC hbl
      go_upto_region 7 with fail
      rw [← EA.out]
      have y0 : wa.cell? ⟨wo.heap.size, 0, none⟩ = some (.bool v6) := QA.out.cell 0
      have y1 : wa.cell? ⟨wo.heap.size, 1, none⟩ = some (.int .u64 hi) := QA.out.cell 1
      have y2 : wa.cell? ⟨wo.heap.size, 2, none⟩ = some (.int .u64 lo) := QA.out.cell 2
      have y3 : wa.cell? ⟨wo.heap.size, 3, none⟩ = some (.int .i64 pr) := QA.out.cell 3
      have y4 : wa.cell? ⟨wo.heap.size, 4, none⟩ = some (.int .i64 po) := QA.out.cell 4
      have yt : wa.cell? ⟨mb + 1 + 1, 2, none⟩ = some (.map (some mb)) := TA.out.cell 2
      go_wp2_with fail
      go_still_tail 12, (by kernel_rfl)
      change wpList _ _ _ _ _ wa.drew
      have hkt := keyT_of v6 hi lo pr po HVQ.out.hi HVQ.out.lo HVQ.out.pr HVQ.out.po
      go_wp2_with (first
        | (at_mapUpdate; refine wpList_mapUpdate_own _ rfl _ _ _ 67 rfl 98 3 (Keyed.of_law lawT) Try.underlying67 (plainElem (H := Unit) Try.prog 3) mb q _ rfl MA.out.drew (by unfold maxLen; omega) _ _ _ rfl rfl hkt _ [] (plainElem_int Try.underlying3 (WalkArith.wf_i64 (by omega))) ?_; intro w5 hown5 hgrow5)
        | go_in)
      have S5 := Lib.hid (SA.out.drew.grown hgrow5 (.inl rfl))
      have T5 := Lib.hid (show Blk w5 (mb + 1 + 1) 70 #[.pointer (some ⟨w.heap.size, 0, none⟩), .slice (some ⟨b, off, none⟩) n k, .map (some mb), .map (some (mb + 1))] from TA.out.drew.grown hgrow5 (by intro e; injection e with e; omega))
      have MO5 := Lib.hid (show w5.ownsMap Try.prog 27 unitElem (mb + 1) q (our l q) from MO.out.drew.kept hgrow5 (by intro e; injection e with e; omega))
      have Q5 := Lib.hid (show Blk w5 wo.heap.size 48 #[.bool v6, .int .u64 hi, .int .u64 lo, .int .i64 pr, .int .i64 po, .int .i64 co, .bool nat] from QA.out.drew.grown hgrow5 (by intro e; injection e with e; have := HT.out.lt; omega))
      have MT5 := Lib.hid hown5
      have z0 : w5.cell? ⟨wo.heap.size, 0, none⟩ = some (.bool v6) := Q5.out.cell 0
      have z1 : w5.cell? ⟨wo.heap.size, 1, none⟩ = some (.int .u64 hi) := Q5.out.cell 1
      have z2 : w5.cell? ⟨wo.heap.size, 2, none⟩ = some (.int .u64 lo) := Q5.out.cell 2
      have zt : w5.cell? ⟨mb + 1 + 1, 3, none⟩ = some (.map (some (mb + 1))) := T5.out.cell 3
      clear hown5 hgrow5 y0 y1 y2 y3 y4 yt d0 d1 d2 d3 d4 d5 d6 hkt
      go_wp2_with fail
      go_still_tail 7, (by kernel_rfl)
      change wpList _ _ _ _ _ w5.drew
      have hka := keyA_of v6 hi lo HVQ.out.hi HVQ.out.lo
      go_wp2_with (first
        | (at_mapUpdate; refine wpList_mapUpdate_own _ rfl _ _ _ 68 rfl 27 99 (Keyed.of_law lawA) Try.underlying68 (unitElem (H := Unit)) (mb + 1) q _ rfl MO5.out.drew (by unfold maxLen; omega) _ _ _ rfl rfl hka _ [] unitElem_mk ?_; intro w6 hown6 hgrow6)
        | go_in)
      go_roundw
      case rel =>
        refine ⟨q + 1, by simp, by omega, ?_, ?_, S5.out.drew.grown hgrow6 (.inr rfl)⟩
        · rw [HTG.out]
          exact MT5.out.drew.kept hgrow6 (by intro e; injection e with e; omega)
        · rw [HOU.out]
          exact hown6
      case measure => simp [intOf]; omega
end Go.Proofs.Ytamndmlaikgogaa.vpG
