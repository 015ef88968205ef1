/- 3 texts in one. -/
import Derived.Deep.RegionHeld3
import Derived.Deep.DeepCutAuto
import Derived.BigQuiet
import Derived.Test.YtodckfgfbcnkoaaTa13
import Derived.Test.YtodckfgfbcnkoaaTa22
import Derived.Test.YtodckfgfbcnkoaaTa28
import Derived.Test.YtodckfgfbcnkoaaTa30
/- Layer 14: the example. -/
namespace Go.Proofs.Ytodckfgfbcnkoaa.tunG
open Go.ChangeShapes Go.WideShapes Go.ChangeAt Go.RowKit
open Go.Proofs.Ytodckfgfbcnkoaa.base Go.Proofs.Ytodckfgfbcnkoaa.rdrA Go.Proofs.Ytodckfgfbcnkoaa.rdrG Go.Proofs.Ytodckfgfbcnkoaa.sumB Go.Proofs.Ytodckfgfbcnkoaa.sixW Go.Proofs.Ytodckfgfbcnkoaa.sixM Go.Proofs.Ytodckfgfbcnkoaa.pktA Go.Proofs.Ytodckfgfbcnkoaa.pktB Go.Proofs.Ytodckfgfbcnkoaa.pktC Go.Proofs.Ytodckfgfbcnkoaa.pktE Go.Proofs.Ytodckfgfbcnkoaa.sixE Go.Proofs.Ytodckfgfbcnkoaa.tunW Go.Proofs.Ytodckfgfbcnkoaa.tunE Go.Proofs.Ytodckfgfbcnkoaa.tunF
set_option linter.unusedVariables false
set_option linter.unusedSimpArgs false

theorem range_blk {W : World} {g : Nat} {t : TypeId} {cs : Array Value} (h : Blk W g t cs) : W.rangeAt g 0 cs.toList := fun j v hv => by
  rw [Nat.zero_add, h.cell j]
  simpa using hv
theorem ex_wrap : wrP false 0 1 false 0 2 [64] = (0, tw4 4 1 2 [64]) := by
  have e : numP [64] = (4, 0) := by decide
  unfold wrP
  rw [e]
  rfl
theorem ex_open : topR (tw4 4 1 2 [64]) = ⟨[64], false, 0, 1, false, 0, 2, 0, 0⟩ := by
  obtain ⟨a, b⟩ := opn4 4 1 2 [64] (.inl rfl) (by omega) (by omega) (by simp) (by decide)
  unfold topR
  rw [b, if_pos rfl, a]
set_option maxHeartbeats 4000000 in
set_option maxRecDepth 100000 in
theorem awake_any (w : World) : Calls Try.prog 13 #[] w fun o w' => o = .returned (.bool true) ∧ Below w.heap.size w w' := by
  have HV := Lib.hid (fun (k : Int) (h : 0 ≤ k) (h2 : k ≤ 4294967295) (V : World) => fourA.v4_any k h h2 V)
  have HW := Lib.hid (fun (A : Option Addr) (n c : Nat) (V : World) (h : Sl V A n c [64]) => wrap_any false 0 1 false 0 2 A n c [64] V h (by have := h.len; simp at this; omega) (by omega) (by omega) (by omega) (by omega))
  have HO := Lib.hid (fun (A : Option Addr) (n c : Nat) (V : World) (h : Sl V A n c (tw4 4 1 2 [64])) => open_any A n c _ V h (by have := h.len; rw [(tw4_says 4 1 2 [64] (by omega) (by omega) (by omega) (by simp)).2.2.2.2.2.2.2.2.2] at this; simp at this; omega))
  rw [ex_wrap] at HW
  rw [ex_open] at HO
  have HA := Lib.hid Try.underlying32
  have HIA := Lib.hid (show (Try.prog.info? 32).map (·.size) = some 3 from by kernel_rfl)
  go_enter Try.func13, Try.ntmps13
  go_wp2_with fail
  refine (HV.out 1 (by omega) (by omega) _).mono ?_
  rintro o w1 ⟨rfl, hb1⟩
  have B1 := Lib.hid hb1
  clear hb1
  go_wp2_with fail
  refine (HV.out 2 (by omega) (by omega) _).mono ?_
  rintro o w2 ⟨rfl, hb2⟩
  have B2 := Lib.hid (B1.out.trans (hb2.mono B1.out.size))
  clear hb2
  go_wp2_with fail
  refine (HW.out _ 1 1 _ ⟨rfl, sumC.row_blk (Blk.new w2 5 #[.int .u8 64]), by omega, by omega, (fun h => by cases h), fun x hx => by rw [List.mem_singleton.mp hx]; omega⟩).mono ?_
  rintro o w3 ⟨hb3, A3, n3, c3, rfl, hs3⟩
  have B3 := Lib.hid ((B2.out.alloc B2.out.size _).trans (hb3.mono (B2.out.alloc B2.out.size (.cells #[.int .u8 64] 5)).size))
  have S3 := Lib.hid hs3
  clear hb3 hs3
  go_wp2_with fail
  refine (HO.out _ _ _ _ S3.out).mono ?_
  rintro o w4 ⟨hb4, A5, c5, rfl, hs5⟩
  have B4 := Lib.hid (B3.out.trans (hb4.mono B3.out.size))
  obtain ⟨g1, hg1⟩ : ∃ g1, g1 = w4.heap.size := ⟨_, rfl⟩
  obtain ⟨g2, hg2⟩ : ∃ g2, g2 = w4.heap.size + 1 := ⟨_, rfl⟩
  obtain ⟨w5, hw5⟩ : ∃ w5, w5 = (w4.alloc (.cells #[.bool false, .int .u64 0, .int .u64 1] 32)).alloc (.cells #[.bool false, .int .u64 0, .int .u64 2] 32) := ⟨_, rfl⟩
  have E5 := Lib.hid hw5
  have B45 := Lib.hid (show Below w4.heap.size w4 w5 from by rw [hw5]; exact ((Below.refl _ _).alloc (Nat.le_refl _) _).alloc (by simp) _)
  have B5 := Lib.hid (B4.out.trans (B45.out.mono B4.out.size))
  have S5 := Lib.hid (Sl.below (l := [64]) hs5 B45.out)
  have KA := Lib.hid (show Blk w5 g1 32 #[.bool false, .int .u64 0, .int .u64 1] from by rw [hw5, hg1]; exact (Blk.new w4 _ _).below ((Below.refl _ _).alloc (Nat.le_refl _) _) (Blk.new w4 _ _).lt)
  have KB := Lib.hid (show Blk w5 g2 32 #[.bool false, .int .u64 0, .int .u64 2] from by
    have h9 := Blk.new (w4.alloc (.cells #[.bool false, .int .u64 0, .int .u64 1] 32)) 32 #[.bool false, .int .u64 0, .int .u64 2]
    rw [← hw5] at h9
    rw [hg2]
    simpa using h9)
  have EG1 := Lib.hid hg1
  have EG2 := Lib.hid hg2
  clear hb4 hs5 hg1 hg2 hw5
  go_upto_region 3 with fail
  rw [← E5.out, ← EG2.out, ← EG1.out]
  have HS := Lib.hid (show ∀ V, Below w5.heap.size w5 V → (V.rangeAt g1 0 (#[.bool false, .int .u64 0, .int .u64 1] : Array Value).toList ∧ V.rangeAt g2 0 (#[.bool false, .int .u64 0, .int .u64 2] : Array Value).toList ∧ (convert 22 9 (.slice A5 1 c5)).run Try.prog V = .ok (.string ⟨#[64]⟩) V) from fun V hV => ⟨range_blk (KA.out.below hV KA.out.lt), range_blk (KB.out.below hV KB.out.lt), (sixN.conv_row (S5.out.below hV).row (S5.out.below hV).len).trans rfl⟩)
  have D0 := Lib.hid ((Below.refl w5.heap.size w5).drew)
  have s0 := HS.out w5.drew D0.out
  refine wp_region_held_drew (S := fun V => V.rangeAt g1 0 (#[.bool false, .int .u64 0, .int .u64 1] : Array Value).toList ∧ V.rangeAt g2 0 (#[.bool false, .int .u64 0, .int .u64 2] : Array Value).toList ∧ (convert 22 9 (.slice A5 1 c5)).run Try.prog V = .ok (.string ⟨#[64]⟩) V) (by kernel_rfl) s0 (fun hHeld => ?_)
  refine wpAnyH_ready (rs := [0]) (by kernel_rfl) (by simp) ?_
  refine AllReadyH.cons rfl (fun K hK => ?_) AllReadyH.nil
  go_simp
  go_at_call 18
  (with_reducible refine (over_any true _).mono ?_)
  rintro o wq ⟨rfl, rfl⟩
  refine hK.out _ _ ?_ (fun hHeld => ?_)
  · exact s0
  clear hK K
  try simp only [List.getElem_toArray, List.getElem_cons_zero, Act.put, List.setIfInBounds_toArray, List.set_cons_zero, List.set_cons_succ]
  refine wpAnyH_take (i := 1) (v := .bool true) rfl (by kernel_rfl) (by kernel_rfl) (by kernel_rfl) (fun _ _ _ h => h) (Or.inl ⟨by rfl, ?_⟩) (by assumption) ?_
  · intro V hV
    go_simp
  try simp only [List.getElem_toArray, List.getElem_cons_zero, List.getElem_cons_succ, Act.put, List.setIfInBounds_toArray, List.set_cons_zero, List.set_cons_succ]
  refine wpAnyH_take (i := 2) (v := .bool true) rfl (by kernel_rfl) (by kernel_rfl) (by kernel_rfl) (fun _ _ _ h => h) (Or.inl ⟨by rfl, ?_⟩) (by assumption) ?_
  · intro V hV
    go_simp
  try simp only [List.getElem_toArray, List.getElem_cons_zero, List.getElem_cons_succ, Act.put, List.setIfInBounds_toArray, List.set_cons_zero, List.set_cons_succ]
  refine wpAnyH_ready (rs := [3]) (by kernel_rfl) (by simp) ?_
  refine AllReadyH.cons rfl (fun K hK => ?_) AllReadyH.nil
  go_simp
  go_at_call 18
  (with_reducible refine (over_any false _).mono ?_)
  rintro o wq ⟨rfl, rfl⟩
  refine hK.out _ _ ?_ (fun hHeld => ?_)
  · exact s0
  clear hK K
  try simp only [List.getElem_toArray, List.getElem_cons_zero, List.getElem_cons_succ, Act.put, List.setIfInBounds_toArray, List.set_cons_zero, List.set_cons_succ]
  refine wpAnyH_take (i := 4) (v := .bool true) rfl (by kernel_rfl) (by kernel_rfl) (by kernel_rfl) (fun _ _ _ h => h) (Or.inl ⟨by rfl, ?_⟩) (by assumption) ?_
  · intro V hV
    go_simp
  try simp only [List.getElem_toArray, List.getElem_cons_zero, List.getElem_cons_succ, Act.put, List.setIfInBounds_toArray, List.set_cons_zero, List.set_cons_succ]
  refine wpAnyH_take (i := 5) (v := .bool true) rfl (by kernel_rfl) (by kernel_rfl) (by kernel_rfl) (fun _ _ _ h => h) (Or.inl ⟨by rfl, ?_⟩) (by assumption) ?_
  · intro V hV
    go_simp
  try simp only [List.getElem_toArray, List.getElem_cons_zero, List.getElem_cons_succ, Act.put, List.setIfInBounds_toArray, List.set_cons_zero, List.set_cons_succ]
  refine wpAnyH_take (i := 6) (v := .bool true) rfl (by kernel_rfl) (by kernel_rfl) (by kernel_rfl) (fun _ _ _ h => h) (Or.inl ⟨by rfl, ?_⟩) (by assumption) ?_
  · intro V hV
    go_simp
  try simp only [List.getElem_toArray, List.getElem_cons_zero, List.getElem_cons_succ, Act.put, List.setIfInBounds_toArray, List.set_cons_zero, List.set_cons_succ]
  refine wpAnyH_take (i := 7) (v := .bool true) rfl (by kernel_rfl) (by kernel_rfl) (by kernel_rfl) (fun _ _ _ h => h) (Or.inl ⟨by rfl, ?_⟩) (by assumption) ?_
  · intro V hV
    go_simp
  try simp only [List.getElem_toArray, List.getElem_cons_zero, List.getElem_cons_succ, Act.put, List.setIfInBounds_toArray, List.set_cons_zero, List.set_cons_succ]
  refine wpAnyH_take (i := 8) (v := .bool true) rfl (by kernel_rfl) (by kernel_rfl) (by kernel_rfl) (fun _ _ _ h => h) (Or.inl ⟨by rfl, ?_⟩) (by assumption) ?_
  · intro V hV
    go_simp
  try simp only [List.getElem_toArray, List.getElem_cons_zero, List.getElem_cons_succ, Act.put, List.setIfInBounds_toArray, List.set_cons_zero, List.set_cons_succ]
  refine wpAnyH_take (i := 9) (v := .int .i64 0) rfl (by kernel_rfl) (by kernel_rfl) (by kernel_rfl) (fun _ _ _ h => h) (Or.inl ⟨by rfl, ?_⟩) (by assumption) ?_
  · intro V hV
    go_simp
  try simp only [List.getElem_toArray, List.getElem_cons_zero, List.getElem_cons_succ, Act.put, List.setIfInBounds_toArray, List.set_cons_zero, List.set_cons_succ]
  refine wpAnyH_take (i := 10) (v := .bool true) rfl (by kernel_rfl) (by kernel_rfl) (by kernel_rfl) (fun _ _ _ h => h) (Or.inl ⟨by rfl, ?_⟩) (by assumption) ?_
  · intro V hV
    go_simp
  try simp only [List.getElem_toArray, List.getElem_cons_zero, List.getElem_cons_succ, Act.put, List.setIfInBounds_toArray, List.set_cons_zero, List.set_cons_succ]
  refine wpAnyH_take (i := 11) (v := .bool true) rfl (by kernel_rfl) (by kernel_rfl) (by kernel_rfl) (fun _ _ _ h => h) (Or.inl ⟨by rfl, ?_⟩) (by assumption) ?_
  · intro V hV
    go_simp
  try simp only [List.getElem_toArray, List.getElem_cons_zero, List.getElem_cons_succ, Act.put, List.setIfInBounds_toArray, List.set_cons_zero, List.set_cons_succ]
  refine wpAnyH_take (i := 12) (v := .bool true) rfl (by kernel_rfl) (by kernel_rfl) (by kernel_rfl) (fun _ _ _ h => h) (Or.inl ⟨by rfl, ?_⟩) (by assumption) ?_
  · intro V hV
    go_simp
  try simp only [List.getElem_toArray, List.getElem_cons_zero, List.getElem_cons_succ, Act.put, List.setIfInBounds_toArray, List.set_cons_zero, List.set_cons_succ]
  refine wpAnyH_take (i := 13) (v := .int .i64 0) rfl (by kernel_rfl) (by kernel_rfl) (by kernel_rfl) (fun _ _ _ h => h) (Or.inl ⟨by rfl, ?_⟩) (by assumption) ?_
  · intro V hV
    go_simp
  try simp only [List.getElem_toArray, List.getElem_cons_zero, List.getElem_cons_succ, Act.put, List.setIfInBounds_toArray, List.set_cons_zero, List.set_cons_succ]
  refine wpAnyH_take (i := 14) (v := .bool true) rfl (by kernel_rfl) (by kernel_rfl) (by kernel_rfl) (fun _ _ _ h => h) (Or.inl ⟨by rfl, ?_⟩) (by assumption) ?_
  · intro V hV
    go_simp
  try simp only [List.getElem_toArray, List.getElem_cons_zero, List.getElem_cons_succ, Act.put, List.setIfInBounds_toArray, List.set_cons_zero, List.set_cons_succ]
  refine wpAnyH_take (i := 15) (v := .bool true) rfl (by kernel_rfl) (by kernel_rfl) (by kernel_rfl) (fun _ _ _ h => h) (Or.inl ⟨by rfl, ?_⟩) (by assumption) ?_
  · intro V hV
    go_simp
  try simp only [List.getElem_toArray, List.getElem_cons_zero, List.getElem_cons_succ, Act.put, List.setIfInBounds_toArray, List.set_cons_zero, List.set_cons_succ]
  refine wpAnyH_take (i := 16) (v := .bool true) rfl (by kernel_rfl) (by kernel_rfl) (by kernel_rfl) (fun _ _ _ h => h) (Or.inl ⟨by rfl, ?_⟩) (by assumption) ?_
  · intro V hV
    go_simp
  try simp only [List.getElem_toArray, List.getElem_cons_zero, List.getElem_cons_succ, Act.put, List.setIfInBounds_toArray, List.set_cons_zero, List.set_cons_succ]
  refine wpAnyH_take (i := 17) (v := .slice A5 1 c5) rfl (by kernel_rfl) (by kernel_rfl) (by kernel_rfl) (fun _ _ _ h => h) (Or.inl ⟨by rfl, ?_⟩) (by assumption) ?_
  · intro V hV
    go_simp
  try simp only [List.getElem_toArray, List.getElem_cons_zero, List.getElem_cons_succ, Act.put, List.setIfInBounds_toArray, List.set_cons_zero, List.set_cons_succ]
  refine wpAnyH_take (i := 18) (v := .string ⟨#[64]⟩) rfl (by kernel_rfl) (by kernel_rfl) (by kernel_rfl) (fun _ _ _ h => h) (Or.inl ⟨by rfl, ?_⟩) (by assumption) ?_
  · intro V hV
    obtain ⟨_, _, hc⟩ := hV
    go_simp
  try simp only [List.getElem_toArray, List.getElem_cons_zero, List.getElem_cons_succ, Act.put, List.setIfInBounds_toArray, List.set_cons_zero, List.set_cons_succ]
  refine wpAnyH_take (i := 19) (v := .bool true) rfl (by kernel_rfl) (by kernel_rfl) (by kernel_rfl) (fun _ _ _ h => h) (Or.inl ⟨by rfl, ?_⟩) (by assumption) ?_
  · intro V hV
    go_simp
  try simp only [List.getElem_toArray, List.getElem_cons_zero, List.getElem_cons_succ, Act.put, List.setIfInBounds_toArray, List.set_cons_zero, List.set_cons_succ]
  refine wpAnyH_take (i := 20) (v := .bool true) rfl (by kernel_rfl) (by kernel_rfl) (by kernel_rfl) (fun _ _ _ h => h) (Or.inl ⟨by rfl, ?_⟩) (by assumption) ?_
  · intro V hV
    go_simp
  try simp only [List.getElem_toArray, List.getElem_cons_zero, List.getElem_cons_succ, Act.put, List.setIfInBounds_toArray, List.set_cons_zero, List.set_cons_succ]
  refine wpAnyH_take (i := 21) (v := .bool true) rfl (by kernel_rfl) (by kernel_rfl) (by kernel_rfl) (fun _ _ _ h => h) (Or.inl ⟨by rfl, ?_⟩) (by assumption) ?_
  · intro V hV
    go_simp
  try simp only [List.getElem_toArray, List.getElem_cons_zero, List.getElem_cons_succ, Act.put, List.setIfInBounds_toArray, List.set_cons_zero, List.set_cons_succ]
  refine wpAnyH_take (i := 22) (v := .agg #[.bool false, .int .u64 0, .int .u64 1]) rfl (by kernel_rfl) (by kernel_rfl) (by kernel_rfl) (fun _ _ _ h => h) (yieldsIf_load_mid (by rfl) _ _ rfl g1 0 rfl (#[.bool false, .int .u64 0, .int .u64 1] : Array Value).toList _ (fun _ h => h.1) HA.out rfl (by first | exact HIA.out | kernel_rfl)) (by assumption) ?_
  try simp only [List.getElem_toArray, List.getElem_cons_zero, List.getElem_cons_succ, Act.put, List.setIfInBounds_toArray, List.set_cons_zero, List.set_cons_succ]
  refine wpAnyH_ready (rs := [23]) (by kernel_rfl) (by simp) ?_
  refine AllReadyH.cons rfl (fun K hK => ?_) AllReadyH.nil
  go_simp
  go_at_call 34
  (with_reducible refine (HV.out 1 (by omega) (by omega) _).mono ?_)
  rintro o wk_D1 ⟨rfl, hbk⟩
  have D1 := Lib.hid (D0.out.trans (hbk.mono D0.out.size))
  have s1 := HS.out wk_D1 D1.out
  clear hbk
  refine hK.out _ _ ?_ (fun hHeld => ?_)
  · exact s1
  clear hK K
  try simp only [List.getElem_toArray, List.getElem_cons_zero, List.getElem_cons_succ, Act.put, List.setIfInBounds_toArray, List.set_cons_zero, List.set_cons_succ]
  refine wpAnyH_take (i := 24) (v := .bool true) rfl (by kernel_rfl) (by kernel_rfl) (by kernel_rfl) (fun _ _ _ h => h) (Or.inl ⟨by rfl, ?_⟩) (by assumption) ?_
  · intro V hV
    go_simp
  try simp only [List.getElem_toArray, List.getElem_cons_zero, List.getElem_cons_succ, Act.put, List.setIfInBounds_toArray, List.set_cons_zero, List.set_cons_succ]
  refine wpAnyH_take (i := 25) (v := .bool true) rfl (by kernel_rfl) (by kernel_rfl) (by kernel_rfl) (fun _ _ _ h => h) (Or.inl ⟨by rfl, ?_⟩) (by assumption) ?_
  · intro V hV
    go_simp
  try simp only [List.getElem_toArray, List.getElem_cons_zero, List.getElem_cons_succ, Act.put, List.setIfInBounds_toArray, List.set_cons_zero, List.set_cons_succ]
  refine wpAnyH_take (i := 26) (v := .bool true) rfl (by kernel_rfl) (by kernel_rfl) (by kernel_rfl) (fun _ _ _ h => h) (Or.inl ⟨by rfl, ?_⟩) (by assumption) ?_
  · intro V hV
    go_simp
  try simp only [List.getElem_toArray, List.getElem_cons_zero, List.getElem_cons_succ, Act.put, List.setIfInBounds_toArray, List.set_cons_zero, List.set_cons_succ]
  refine wpAnyH_take (i := 27) (v := .agg #[.bool false, .int .u64 0, .int .u64 2]) rfl (by kernel_rfl) (by kernel_rfl) (by kernel_rfl) (fun _ _ _ h => h) (yieldsIf_load_mid (by rfl) _ _ rfl g2 0 rfl (#[.bool false, .int .u64 0, .int .u64 2] : Array Value).toList _ (fun _ h => h.2.1) HA.out rfl (by first | exact HIA.out | kernel_rfl)) (by assumption) ?_
  try simp only [List.getElem_toArray, List.getElem_cons_zero, List.getElem_cons_succ, Act.put, List.setIfInBounds_toArray, List.set_cons_zero, List.set_cons_succ]
  refine wpAnyH_ready (rs := [28]) (by kernel_rfl) (by simp) ?_
  refine AllReadyH.cons rfl (fun K hK => ?_) AllReadyH.nil
  go_simp
  go_at_call 34
  (with_reducible refine (HV.out 2 (by omega) (by omega) _).mono ?_)
  rintro o wk_D2 ⟨rfl, hbk⟩
  have D2 := Lib.hid (D1.out.trans (hbk.mono D1.out.size))
  have s2 := HS.out wk_D2 D2.out
  clear hbk
  refine hK.out _ _ ?_ (fun hHeld => ?_)
  · exact s2
  clear hK K
  try simp only [List.getElem_toArray, List.getElem_cons_zero, List.getElem_cons_succ, Act.put, List.setIfInBounds_toArray, List.set_cons_zero, List.set_cons_succ]
  refine wpAnyH_take (i := 29) (v := .bool true) rfl (by kernel_rfl) (by kernel_rfl) (by kernel_rfl) (fun _ _ _ h => h) (Or.inl ⟨by rfl, ?_⟩) (by assumption) ?_
  · intro V hV
    go_simp
  try simp only [List.getElem_toArray, List.getElem_cons_zero, List.getElem_cons_succ, Act.put, List.setIfInBounds_toArray, List.set_cons_zero, List.set_cons_succ]
  refine wpAnyH_take (i := 30) (v := .bool true) rfl (by kernel_rfl) (by kernel_rfl) (by kernel_rfl) (fun _ _ _ h => h) (Or.inl ⟨by rfl, ?_⟩) (by assumption) ?_
  · intro V hV
    go_simp
  try simp only [List.getElem_toArray, List.getElem_cons_zero, List.getElem_cons_succ, Act.put, List.setIfInBounds_toArray, List.set_cons_zero, List.set_cons_succ]
  refine wpAnyH_take (i := 31) (v := .bool true) rfl (by kernel_rfl) (by kernel_rfl) (by kernel_rfl) (fun _ _ _ h => h) (Or.inl ⟨by rfl, ?_⟩) (by assumption) ?_
  · intro V hV
    go_simp
  try simp only [List.getElem_toArray, List.getElem_cons_zero, List.getElem_cons_succ, Act.put, List.setIfInBounds_toArray, List.set_cons_zero, List.set_cons_succ]
  refine wpAnyH_done (by kernel_rfl) ?_ _
  go_wp2_with fail
  go_ret
  exact ⟨rfl, B5.out.trans (D2.out.mono B5.out.size)⟩
end Go.Proofs.Ytodckfgfbcnkoaa.tunG
/- Layer 14: the law of a time to live that is one less. -/
namespace Go.Proofs.Ytodckfgfbcnkoaa.tunK
open Go.ChangeShapes Go.WideShapes Go.ChangeAt Go.RowKit
open Go.Proofs.Ytodckfgfbcnkoaa.base Go.Proofs.Ytodckfgfbcnkoaa.octA Go.Proofs.Ytodckfgfbcnkoaa.rdrA Go.Proofs.Ytodckfgfbcnkoaa.rdrG Go.Proofs.Ytodckfgfbcnkoaa.sumB Go.Proofs.Ytodckfgfbcnkoaa.sixW Go.Proofs.Ytodckfgfbcnkoaa.sixM Go.Proofs.Ytodckfgfbcnkoaa.pktA Go.Proofs.Ytodckfgfbcnkoaa.pktB Go.Proofs.Ytodckfgfbcnkoaa.pktC Go.Proofs.Ytodckfgfbcnkoaa.pktD Go.Proofs.Ytodckfgfbcnkoaa.pktE Go.Proofs.Ytodckfgfbcnkoaa.sixE Go.Proofs.Ytodckfgfbcnkoaa.pktL Go.Proofs.Ytodckfgfbcnkoaa.tunG
set_option linter.unusedVariables false
set_option linter.unusedSimpArgs false

theorem pk_same (P : Pk) (W : World) : (binOp .eql 36 (.agg P.cells) (.agg P.cells)).run Try.prog W = .ok (.bool true) W := by
  unfold Pk.cells
  go_simp
theorem load_row_g {P : Program} {ops : Array Oper} {rest : List Oper} {o : Oper} {a : Act} {w : World} {Q : Exit → Act → World → Prop} (hw : Region.wanted o (yielded ops a.tmps) = true) (ty : TypeId) (x : Operand) (ho : o.op = .load ty x)
    (g : Nat) (hx : a.eval x = .pointer (some ⟨g, 0, none⟩)) (t : TypeId) (cs : Array Value) (fr : Nat × Nat) (d : TypeDesc) (hg : w.heap[g]? = some (.cells cs t fr))
    (hu : P.underlying ty = some d) (hd : (match d with | .struct _ | .array _ _ => true | _ => false) = true) (hi : (P.info? ty).map (·.size) = some cs.size)
    (h : wpList P ops Q rest (a.put o.dst (.agg cs)) w) : wpList P ops Q (o :: rest) a w :=
  wpList_step fun K hK => by
    rw [if_pos hw]
    exact wp_load_row ty x ho g hx t cs fr d hg hu hd hi (hK _ _ h)
def tnP (b4 : Bool) (i : Nat) : Bool := (b4 && (decide (i = 8) || decide (i = 10) || decide (i = 11))) || (!b4 && decide (i = 7))
set_option maxHeartbeats 4000000 in
set_option maxRecDepth 100000 in
theorem law_E (A : Option Addr) (n0 n c : Nat) (f : Int) (hf : f ≠ 0) (w : World)
    (HC : Hid (∀ W, Calls Try.prog 10 #[.slice A n0 c] W fun o w' => o = .returned (.slice A n c) ∧ W = w'))
    (HL : Hid (∀ V, Below w.heap.size w V → Calls Try.prog 11 #[.slice A n c] V (MkP f [] V)))
    (HT : Hid (∀ V, Below w.heap.size w V → Calls Try.prog 12 #[.slice A n c] V fun o w' => Below V.heap.size V w' ∧ ∃ t s, o = .returned (.tuple #[.int .i64 t, .int .i64 s, .int .i64 f]))) :
    Calls Try.prog 3 #[.slice A n0 c] w fun o w' => o = .returned (.bool true) ∧ Below w.heap.size w w' := by
  have HAW := Lib.hid awake_any
  have tf : (f != 0) = true := by simpa using hf
  have qf : (f == f) = true := by simp
  clear hf
  go_enter Try.func3, Try.ntmps3
  go_wp2_with fail
  refine (HC.out _).mono ?_
  rintro o w' ⟨rfl, rfl⟩
  go_wp2_with fail
  refine (HL.out _ (Below.refl _ _)).mono ?_
  rintro o w1 ⟨hb1, AX, nx, cx, rfl, hsx⟩
  obtain rfl : nx = 0 := by have := hsx.len; simp at this; omega
  have B1 := Lib.hid hb1
  clear hb1 hsx
  go_wp2_with fail
  refine (HT.out _ B1.out).mono ?_
  rintro o w2 ⟨hb2, t, s, rfl⟩
  have B2 := Lib.hid (B1.out.trans (hb2.mono B1.out.size))
  clear hb2
  go_wp2_with fail
  refine (HAW.out _).mono ?_
  rintro o w3 ⟨rfl, hb3⟩
  go_wp2_with fail
  go_ret
  exact ⟨rfl, B2.out.trans (hb3.mono B2.out.size)⟩
set_option maxHeartbeats 4000000 in
set_option maxRecDepth 100000 in
theorem law_T (A : Option Addr) (n0 n c : Nat) (t s : Int) (ht : t < 2) (w : World)
    (HC : Hid (∀ W, Calls Try.prog 10 #[.slice A n0 c] W fun o w' => o = .returned (.slice A n c) ∧ W = w'))
    (HL : Hid (∀ V, Below w.heap.size w V → Calls Try.prog 11 #[.slice A n c] V (MkP 20 [] V)))
    (HT : Hid (∀ V, Below w.heap.size w V → Calls Try.prog 12 #[.slice A n c] V fun o w' => o = .returned (.tuple #[.int .i64 t, .int .i64 s, .int .i64 0]) ∧ Below V.heap.size V w')) :
    Calls Try.prog 3 #[.slice A n0 c] w fun o w' => o = .returned (.bool true) ∧ Below w.heap.size w w' := by
  have HAW := Lib.hid awake_any
  have tt : decide (t < 2) = true := decide_eq_true ht
  clear ht
  go_enter Try.func3, Try.ntmps3
  go_wp2_with fail
  refine (HC.out _).mono ?_
  rintro o w' ⟨rfl, rfl⟩
  go_wp2_with fail
  refine (HL.out _ (Below.refl _ _)).mono ?_
  rintro o w1 ⟨hb1, AX, nx, cx, rfl, hsx⟩
  obtain rfl : nx = 0 := by have := hsx.len; simp at this; omega
  have B1 := Lib.hid hb1
  clear hb1 hsx
  go_wp2_with fail
  refine (HT.out _ B1.out).mono ?_
  rintro o w2 ⟨rfl, hb2⟩
  have B2 := Lib.hid (B1.out.trans (hb2.mono B1.out.size))
  clear hb2
  go_wp2_with fail
  refine (HAW.out _).mono ?_
  rintro o w3 ⟨rfl, hb3⟩
  go_wp2_with fail
  go_ret
  exact ⟨rfl, B2.out.trans (hb3.mono B2.out.size)⟩
set_option maxHeartbeats 8000000 in
set_option maxRecDepth 100000 in
theorem law_G (b off n0 n c : Nat) (l X : List Int) (t : Int) (S : Nat) (ht : 2 ≤ t) (ht9 : t ≤ 255) (hS0 : 0 < S) (hSn : S ≤ n) (hn : n ≤ 500) (hXl : X.length = S) (b4 : Bool) (hb4 : (l.getD 0 0 / 16 == 4) = b4) (hX : ∀ i, i < S → tnP b4 i = false → X.getD i 0 = l.getD i 0)
    (v6 : Bool) (pr : Int) (s6 : Bool) (sh sl : Int) (d6 : Bool) (dh dl sp dp ttl fl : Int) (er : Bool) (apr : Int) (as6 : Bool) (ash asl : Int) (ad6 : Bool) (adh adl asp adp sz : Int) (e : Int) (Y2 : Array Value) (ys2 : Y2.size = 23) (on2 : Y2.all (·.oneCell') = true) (hY2 : e = 0 → Y2 = #[.bool v6, .int .i64 pr, .bool s6, .int .u64 sh, .int .u64 sl, .bool d6, .int .u64 dh, .int .u64 dl, .int .i64 sp, .int .i64 dp, .int .i64 (ttl - 1), .int .i64 fl, .bool er, .int .i64 apr, .bool as6, .int .u64 ash, .int .u64 asl, .bool ad6, .int .u64 adh, .int .u64 adl, .int .i64 asp, .int .i64 adp, .int .i64 sz]) (httl : ttl - 1 < 9223372036854775808 ∧ -9223372036854775808 ≤ ttl - 1) (w : World) (hs : Sl w (some ⟨b, off, none⟩) n c l)
    (HC : Hid (∀ W, Calls Try.prog 10 #[.slice (some ⟨b, off, none⟩) n0 c] W fun o w' => o = .returned (.slice (some ⟨b, off, none⟩) n c) ∧ W = w'))
    (HL : Hid (∀ V, Below w.heap.size w V → Calls Try.prog 11 #[.slice (some ⟨b, off, none⟩) n c] V (MkP 0 X V)))
    (HT : Hid (∀ V, Below w.heap.size w V → Calls Try.prog 12 #[.slice (some ⟨b, off, none⟩) n c] V fun o w' => o = .returned (.tuple #[.int .i64 t, .int .i64 S, .int .i64 0]) ∧ Below V.heap.size V w'))
    (HT2 : Hid (∀ V A2 n2 c2, Sl V A2 n2 c2 X → Calls Try.prog 12 #[.slice A2 n2 c2] V fun o w' => o = .returned (.tuple #[.int .i64 (t - 1), .int .i64 S, .int .i64 0]) ∧ Below V.heap.size V w'))
    (HP : Hid (∀ V, Below w.heap.size w V → Calls Try.prog 14 #[.slice (some ⟨b, off, none⟩) n c] V fun o w' => o = .returned (.tuple #[.agg #[.bool v6, .int .i64 pr, .bool s6, .int .u64 sh, .int .u64 sl, .bool d6, .int .u64 dh, .int .u64 dl, .int .i64 sp, .int .i64 dp, .int .i64 ttl, .int .i64 fl, .bool er, .int .i64 apr, .bool as6, .int .u64 ash, .int .u64 asl, .bool ad6, .int .u64 adh, .int .u64 adl, .int .i64 asp, .int .i64 adp, .int .i64 sz], .int .i64 e]) ∧ Below V.heap.size V w'))
    (HP2 : Hid (∀ V A2 n2 c2, Sl V A2 n2 c2 X → Calls Try.prog 14 #[.slice A2 n2 c2] V fun o w' => o = .returned (.tuple #[.agg Y2, .int .i64 e]) ∧ Below V.heap.size V w')) :
    Calls Try.prog 3 #[.slice (some ⟨b, off, none⟩) n0 c] w fun o w' => o = .returned (.bool true) ∧ Below w.heap.size w w' := by
  have HAW := Lib.hid awake_any
  have tt : decide (t < 2) = false := decide_eq_false (by omega)
  have wt : IntKind.i64.wrap (t - 1) = t - 1 := IntWalk.i64_in _ (by omega)
  have wp : IntKind.i64.wrap (ttl - 1) = ttl - 1 := IntWalk.i64_in _ (by omega)
  have qS : ((S : Int) != (S : Int)) = false := by simp
  have qSn : (S != S) = false := by simp
  have qt : (t - 1 != t - 1) = false := by simp
  have qe : (e == e) = true := by simp
  have hS9 : S ≤ 500 := by omega
  have jn : 0 < n := by omega
  have jni : (0 : Int) < (n : Int) := by omega
  have hl := hs.len
  obtain ⟨b', off', hA', hbw, hcw⟩ := lies_of hs.row (by omega)
  injection hA' with hA'
  injection hA' with h1 h2
  subst h1
  subst h2
  have y0w : w.cell? ⟨b, off, none⟩ = some (.int .u8 (l.getD 0 0)) := hcw 0 (by omega)
  obtain ⟨x0, hx0⟩ : ∃ x0, x0 = l.getD 0 0 := ⟨_, rfl⟩
  have hx00 : 0 ≤ x0 ∧ x0 ≤ 255 := by rw [hx0]; exact hs.u8.get 0
  rw [← hx0] at y0w hb4
  have CW := Lib.hid hcw
  have CB := Lib.hid hbw
  have Y0 := Lib.hid y0w
  have HX := Lib.hid hX
  have HXL := Lib.hid hXl
  have HLL := Lib.hid hl
  have HSN := Lib.hid hSn
  have HN5 := Lib.hid hn
  obtain ⟨Y, hY⟩ : ∃ Y : Array Value, Y = #[.bool v6, .int .i64 pr, .bool s6, .int .u64 sh, .int .u64 sl, .bool d6, .int .u64 dh, .int .u64 dl, .int .i64 sp, .int .i64 dp, .int .i64 ttl, .int .i64 fl, .bool er, .int .i64 apr, .bool as6, .int .u64 ash, .int .u64 asl, .bool ad6, .int .u64 adh, .int .u64 adl, .int .i64 asp, .int .i64 adp, .int .i64 sz] := ⟨_, rfl⟩
  have ys : Y.size = 23 := by rw [hY]; rfl
  have ONE := Lib.hid (show Y.all (·.oneCell') = true from by rw [hY]; simp [Value.oneCell'])
  have ONE2 := Lib.hid on2
  have HIY := Lib.hid (show (Try.prog.info? 36).map (·.size) = some Y.size from by rw [ys]; exact pk_size)
  have HIY2 := Lib.hid (show (Try.prog.info? 36).map (·.size) = some Y2.size from by rw [ys2]; exact pk_size)
  have ZY := Lib.hid (show (#[.bool false, .int .i64 0, .bool false, .int .u64 0, .int .u64 0, .bool false, .int .u64 0, .int .u64 0, .int .i64 0, .int .i64 0, .int .i64 0, .int .i64 0, .bool false, .int .i64 0, .bool false, .int .u64 0, .int .u64 0, .bool false, .int .u64 0, .int .u64 0, .int .i64 0, .int .i64 0, .int .i64 0] : Array Value).size = Y.size from by rw [ys]; rfl)
  have ZY2 := Lib.hid (show (#[.bool false, .int .i64 0, .bool false, .int .u64 0, .int .u64 0, .bool false, .int .u64 0, .int .u64 0, .int .i64 0, .int .i64 0, .int .i64 0, .int .i64 0, .bool false, .int .i64 0, .bool false, .int .u64 0, .int .u64 0, .bool false, .int .u64 0, .int .u64 0, .int .i64 0, .int .i64 0, .int .i64 0] : Array Value).size = Y2.size from by rw [ys2]; rfl)
  rw [← hY] at HP
  have HY := Lib.hid hY
  have HY2 := Lib.hid hY2
  clear hY hY2 ys ys2 on2 hx0 hcw hbw y0w hX hXl hs ht ht9 hSn hn hl httl
  go_enter Try.func3, Try.ntmps3
  go_wp2_with fail
  refine (HC.out _).mono ?_
  rintro o w' ⟨rfl, rfl⟩
  go_wp2_with fail
  refine (HL.out _ (Below.refl _ _)).mono ?_
  rintro o w1 ⟨hb1, AX, nx, cx, rfl, hsx⟩
  obtain rfl : nx = S := by have := hsx.len; have := HXL.out; omega
  obtain ⟨bx, ox, rfl, hbx, hcx⟩ := lies_of hsx.row (by have := HXL.out; omega)
  have CX := Lib.hid hcx
  have CXB := Lib.hid hbx
  have SX1 := Lib.hid hsx
  have B1 := Lib.hid hb1
  clear hb1 hsx hcx hbx
  go_wp2_with fail
  refine (HT.out _ B1.out).mono ?_
  rintro o w2 ⟨rfl, hb2⟩
  have B12 := Lib.hid hb2
  have B2 := Lib.hid (B1.out.trans (hb2.mono B1.out.size))
  have SX2 := Lib.hid (SX1.out.below hb2)
  clear hb2
  go_wp2_with fail
  refine (HT2.out _ _ _ _ SX2.out).mono ?_
  rintro o w3 ⟨rfl, hb3⟩
  have B13 := Lib.hid (B12.out.trans (hb3.mono B12.out.size))
  have B3 := Lib.hid (B2.out.trans (hb3.mono B2.out.size))
  clear hb3 SX2
  go_wp2_with fail
  go_loopw [11] (fun iv wr => ∃ i : Nat, i ≤ nx ∧ iv = .int .i64 i ∧ Hid (Below w3.heap.size w3 wr)) (fun iv _ => nx - (intOf iv).toNat)
  case atStart => exact ⟨0, by omega, rfl, Lib.hid (Below.refl _ _)⟩
  case round =>
    obtain ⟨i, hi, rfl, hbr⟩ := hrel
    have B3r := Lib.hid (B3.out.trans (hbr.out.mono B3.out.size))
    have B1r := Lib.hid (B13.out.trans (hbr.out.mono B13.out.size))
    have BR := hbr
    clear hbr
    by_cases hlt : i < nx
    · have p1 : decide ((i : Int) < (nx : Int)) = true := decide_eq_true (by omega)
      have p1n : decide (i < nx) = true := decide_eq_true hlt
      have y0 : wr.cell? ⟨b, off, none⟩ = some (.int .u8 x0) := (B3r.out.cell (p := ⟨b, off, none⟩) CB.out).trans Y0.out
      go_upto_region 15 with fail
      go_cut [13] (fun v wx => v = .bool (tnP b4 i) ∧ wr = wx)
      case first =>
        cases b4 with
        | true =>
          by_cases e8 : i = 8
          · subst e8
            go_wp2_with fail
            go_meet
            exact ⟨rfl, rfl⟩
          · have e8 : (i == 8) = false := by simpa using e8
            have e8i : ((i : Int) == 8) = false := by simp only [beq_eq_false_iff_ne] at *; omega
            by_cases e10 : i = 10
            · subst e10
              go_wp2_with fail
              go_meet
              exact ⟨rfl, rfl⟩
            · have e10 : (i == 10) = false := by simpa using e10
              have e10i : ((i : Int) == 10) = false := by simp only [beq_eq_false_iff_ne] at *; omega
              by_cases e11 : i = 11
              · subst e11
                go_wp2_with fail
                go_meet
                exact ⟨rfl, rfl⟩
              · have e11 : (i == 11) = false := by simpa using e11
                have e11i : ((i : Int) == 11) = false := by simp only [beq_eq_false_iff_ne] at *; omega
                go_wp2_with fail
                go_meet
                exact ⟨by simp only [beq_eq_false_iff_ne] at e8 e10 e11; simp [tnP, e8, e10, e11], rfl⟩
        | false =>
          by_cases e7 : i = 7
          · subst e7
            go_wp2_with fail
            go_meet
            exact ⟨rfl, rfl⟩
          · have e7 : (i == 7) = false := by simpa using e7
            have e7i : ((i : Int) == 7) = false := by simp only [beq_eq_false_iff_ne] at *; omega
            go_wp2_with fail
            go_meet
            exact ⟨by simp only [beq_eq_false_iff_ne] at e7; simp [tnP, e7], rfl⟩
      case rest =>
      obtain ⟨rfl, hwc⟩ := hcut
      rw [← hwc]
      clear hwc
      have hxi := HX.out i hlt
      generalize tnP b4 i = tn at *
      cases tn with
      | true =>
        clear hxi
        go_upto_region 16 with fail
        go_quiet (fail)
        go_wp2_with fail
        go_roundw
        case rel => exact ⟨i + 1, by omega, by go_num, Lib.hid (below_drewN BR.out _)⟩
        case measure => simp [intOf]; omega
      | false =>
        have zb : wr.cell? ⟨b, off + i, none⟩ = some (.int .u8 (l.getD i 0)) := (B3r.out.cell (p := ⟨b, off + i, none⟩) CB.out).trans (CW.out i (by have := HLL.out; have := HSN.out; omega))
        have zx : wr.cell? ⟨bx, ox + i, none⟩ = some (.int .u8 (X.getD i 0)) := (B1r.out.cell (p := ⟨bx, ox + i, none⟩) CXB.out).trans (CX.out i (by have := HXL.out; omega))
        rw [hxi rfl] at zx
        clear hxi
        generalize l.getD i 0 = z at *
        have qz : (z != z) = false := by simp
        have ji : (0 : Int) ≤ (i : Int) := by omega
        have ji2 : (i : Int) < (nx : Int) := by omega
        have ji3 : (i : Int) < (n : Int) := by have := HSN.out; omega
        have ji4 : i < n := by have := HSN.out; omega
        go_upto_region 16 with fail
        go_quiet (fail)
        go_wp2_with fail
        go_roundw
        case rel => exact ⟨i + 1, by omega, by go_num, Lib.hid (below_drewN BR.out _)⟩
        case measure => simp [intOf]; omega
    · have p1 : decide ((i : Int) < (nx : Int)) = false := decide_eq_false (by omega)
      have p1n : decide (i < nx) = false := decide_eq_false hlt
      have SXr := Lib.hid (SX1.out.below B1r.out)
      clear BR B1r
      go_wp2_with fail
      refine (HP.out _ B3r.out).mono ?_
      rintro o w4 ⟨rfl, hbp⟩
      obtain ⟨w5, hw5⟩ : ∃ w5, w5 = (w4.alloc (.cells #[.bool false, .int .i64 0, .bool false, .int .u64 0, .int .u64 0, .bool false, .int .u64 0, .int .u64 0, .int .i64 0, .int .i64 0, .int .i64 0, .int .i64 0, .bool false, .int .i64 0, .bool false, .int .u64 0, .int .u64 0, .bool false, .int .u64 0, .int .u64 0, .int .i64 0, .int .i64 0, .int .i64 0] 36)).setRow w4.heap.size Y := ⟨_, rfl⟩
      obtain ⟨g, hg⟩ : ∃ g, g = w4.heap.size := ⟨_, rfl⟩
      have E5 := Lib.hid hw5
      have EG := Lib.hid hg
      have K5 := Lib.hid (show Blk w5 g 36 Y from by rw [hw5, hg]; exact blkRow (Blk.new w4 _ _) _)
      have B45 := Lib.hid (show Below w4.heap.size w4 w5 from by rw [hw5]; exact (onlyRow _).from ((Below.refl _ _).alloc (Nat.le_refl _) _) (Nat.le_refl _))
      have Br5 := Lib.hid (hbp.trans (B45.out.mono hbp.size))
      have B5 := Lib.hid (B3r.out.trans (Br5.out.mono B3r.out.size))
      have SX5 := Lib.hid (SXr.out.below Br5.out)
      have GW := Lib.hid (show w.heap.size ≤ g from by rw [hg]; have := B3r.out.size; have := hbp.size; omega)
      clear hw5 hg hbp
      go_upto_region 19 with (refine wpList_store_row rfl 36 _ _ rfl w4.heap.size Y rfl rfl 36 #[.bool false, .int .i64 0, .bool false, .int .u64 0, .int .u64 0, .bool false, .int .u64 0, .int .u64 0, .int .i64 0, .int .i64 0, .int .i64 0, .int .i64 0, .bool false, .int .i64 0, .bool false, .int .u64 0, .int .u64 0, .bool false, .int .u64 0, .int .u64 0, .int .i64 0, .int .i64 0, .int .i64 0] (Blk.new w4 _ _) HIY.out ZY.out ONE.out ?_)
      rw [← E5.out, ← EG.out]
      go_wp2_with fail
      refine (HP2.out _ _ _ _ SX5.out).mono ?_
      rintro o w6 ⟨rfl, hbp⟩
      obtain ⟨w7, hw7⟩ : ∃ w7, w7 = (w6.alloc (.cells #[.bool false, .int .i64 0, .bool false, .int .u64 0, .int .u64 0, .bool false, .int .u64 0, .int .u64 0, .int .i64 0, .int .i64 0, .int .i64 0, .int .i64 0, .bool false, .int .i64 0, .bool false, .int .u64 0, .int .u64 0, .bool false, .int .u64 0, .int .u64 0, .int .i64 0, .int .i64 0, .int .i64 0] 36)).setRow w6.heap.size Y2 := ⟨_, rfl⟩
      obtain ⟨g2, hg2⟩ : ∃ g2, g2 = w6.heap.size := ⟨_, rfl⟩
      have E7 := Lib.hid hw7
      have EG2 := Lib.hid hg2
      have L7 := Lib.hid (show Blk w7 g2 36 Y2 from by rw [hw7, hg2]; exact blkRow (Blk.new w6 _ _) _)
      have B67 := Lib.hid (show Below w6.heap.size w6 w7 from by rw [hw7]; exact (onlyRow _).from ((Below.refl _ _).alloc (Nat.le_refl _) _) (Nat.le_refl _))
      have B57 := Lib.hid (hbp.trans (B67.out.mono hbp.size))
      have K7 := Lib.hid (K5.out.below B57.out K5.out.lt)
      have B7 := Lib.hid (B5.out.trans (B57.out.mono B5.out.size))
      have NE := Lib.hid (show g2 ≠ g from by rw [hg2]; have := K5.out.lt; have := hbp.size; omega)
      clear hw7 hg2 hbp
      go_upto_region 20 with (refine wpList_store_row rfl 36 _ _ rfl w6.heap.size Y2 rfl rfl 36 #[.bool false, .int .i64 0, .bool false, .int .u64 0, .int .u64 0, .bool false, .int .u64 0, .int .u64 0, .int .i64 0, .int .i64 0, .int .i64 0, .int .i64 0, .bool false, .int .i64 0, .bool false, .int .u64 0, .int .u64 0, .bool false, .int .u64 0, .int .u64 0, .int .i64 0, .int .i64 0, .int .i64 0] (Blk.new w6 _ _) HIY2.out ZY2.out ONE2.out ?_)
      rw [← E7.out, ← EG2.out]
      have k7 := K7.out
      rw [HY.out] at k7
      have K7X := Lib.hid k7
      have y10 := k7.cell 10
      have f10 := k7.frozen 10
      clear k7
      obtain ⟨w8, hw8⟩ : ∃ w8, w8 = w7.setCell ⟨g, 10, none⟩ (.int .i64 (ttl - 1)) := ⟨_, rfl⟩
      have E8 := Lib.hid hw8
      have K8 := Lib.hid (show Blk w8 g 36 #[.bool v6, .int .i64 pr, .bool s6, .int .u64 sh, .int .u64 sl, .bool d6, .int .u64 dh, .int .u64 dl, .int .i64 sp, .int .i64 dp, .int .i64 (ttl - 1), .int .i64 fl, .bool er, .int .i64 apr, .bool as6, .int .u64 ash, .int .u64 asl, .bool ad6, .int .u64 adh, .int .u64 adl, .int .i64 asp, .int .i64 adp, .int .i64 sz] from by
        have h9 := K7X.out.set_ 10 (.int .i64 (ttl - 1))
        rw [← hw8] at h9
        simpa only [List.setIfInBounds_toArray, List.set_cons_zero, List.set_cons_succ] using h9)
      have L8 := Lib.hid (show Blk w8 g2 36 Y2 from by rw [hw8]; exact L7.out.far (p := ⟨g, 10, none⟩) NE.out _)
      have B8 := Lib.hid (show Below w.heap.size w w8 from by rw [hw8]; exact B7.out.setCell (p := ⟨g, 10, none⟩) GW.out _)
      clear hw8
      go_upto_region 21 with fail
      rw [← E8.out]
      clear y10 f10
      by_cases he : e = 0
      · have hq := HY2.out he
        subst he
        have K9 := Lib.hid (show Blk w8 g 36 Y2 from by rw [hq]; exact K8.out)
        have HEQ : ∀ W : World, (binOp .eql 36 (.agg Y2) (.agg Y2)).run Try.prog W = .ok (.bool true) W := fun W => by rw [hq]; exact pk_same (⟨v6, ⟨pr, s6, sh, sl, d6, dh, dl, sp, dp⟩, (ttl - 1), fl, er, ⟨apr, as6, ash, asl, ad6, adh, adl, asp, adp⟩, sz⟩ : Pk) W
        clear hq K8
        go_wp2_with (first | (refine load_row_g rfl 36 _ rfl g rfl 36 Y2 _ _ K9.out Try.underlying36 rfl HIY2.out ?_) | (refine load_row_g rfl 36 _ rfl g2 rfl 36 Y2 _ _ L8.out Try.underlying36 rfl HIY2.out ?_))
        refine (HAW.out _).mono ?_
        rintro o w9 ⟨rfl, hb9⟩
        go_wp2_with fail
        go_ret
        exact ⟨rfl, B8.out.trans (hb9.mono B8.out.size)⟩
      · have qe2 : (e != 0) = true := by simpa using he
        clear he
        go_wp2_with fail
        refine (HAW.out _).mono ?_
        rintro o w9 ⟨rfl, hb9⟩
        go_wp2_with fail
        go_ret
        exact ⟨rfl, B8.out.trans (hb9.mono B8.out.size)⟩
end Go.Proofs.Ytodckfgfbcnkoaa.tunK
/- Layer 13: bytes that are cut to so many. -/
namespace Go.Proofs.Ytodckfgfbcnkoaa.pktCut
open Go.ChangeShapes Go.WideShapes Go.ChangeAt Go.RowKit
open Go.Proofs.Ytodckfgfbcnkoaa.rdrG Go.Proofs.Ytodckfgfbcnkoaa.sumB Go.Proofs.Ytodckfgfbcnkoaa.sixF
set_option linter.unusedVariables false

theorem cut_any (A : Option Addr) (n c : Nat) (w : World) (hA : 0 < n → ∃ b off, A = some ⟨b, off, none⟩) (hnc : n ≤ c) (hc : c ≤ 9223372036854775807) :
    Calls Try.prog 10 #[.slice A n c] w fun o w' => o = .returned (.slice A (min n 500) c) ∧ w = w' := by
  by_cases h : 500 < n
  · obtain ⟨b, off, rfl⟩ := hA (by omega)
    obtain ⟨s1, s2⟩ := slice_to b off n c 500 (by omega) (by omega)
    have t1 : decide (500 < (n : Int)) = true := decide_eq_true (by omega)
    have t1n : decide (500 < n) = true := decide_eq_true h
    have e : min n 500 = 500 := by omega
    rw [e]
    have s1 : ∀ W : World, (Instr.slice 22 (.slice (some ⟨b, off, none⟩) n c) none (some (.int .i64 500)) none).run Try.prog W = .ok (.slice (some ⟨b, off, none⟩) 500 c) W := s1
    have s2 : ∀ W : World, (Instr.sliceAt 22 (.slice (some ⟨b, off, none⟩) n c) none (some (.int .i64 500)) none).run Try.prog W = .ok (.slice (some ⟨b, off, none⟩) 500 c) W := s2
    clear e hA
    go_enter Try.func10, Try.ntmps10
    go_wp2_with fail
    go_ret
    exact ⟨rfl, rfl⟩
  · have t1 : decide (500 < (n : Int)) = false := decide_eq_false (by omega)
    have t1n : decide (500 < n) = false := decide_eq_false h
    have e : min n 500 = n := by omega
    rw [e]
    clear e hA
    go_enter Try.func10, Try.ntmps10
    go_wp2_with fail
    go_ret
    exact ⟨rfl, rfl⟩
end Go.Proofs.Ytodckfgfbcnkoaa.pktCut
