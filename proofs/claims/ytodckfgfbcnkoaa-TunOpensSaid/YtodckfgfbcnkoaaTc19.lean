/- 3 texts in one. -/
import Derived.Deep.RegionHeld3
import Derived.Test.YtodckfgfbcnkoaaTc10
import Derived.Test.YtodckfgfbcnkoaaTc12
import Derived.Test.YtodckfgfbcnkoaaTc18
/- Layer 14: the example. -/
namespace Go.Proofs.Ytodckfgfbcnkoaa.tunG
open Go.ChangeShapes Go.WideShapes Go.ChangeAt Go.RowKit
open Go.Proofs.Ytodckfgfbcnkoaa.base Go.Proofs.Ytodckfgfbcnkoaa.rdrA Go.Proofs.Ytodckfgfbcnkoaa.rdrG Go.Proofs.Ytodckfgfbcnkoaa.sumB Go.Proofs.Ytodckfgfbcnkoaa.sixW Go.Proofs.Ytodckfgfbcnkoaa.sixM Go.Proofs.Ytodckfgfbcnkoaa.pktA Go.Proofs.Ytodckfgfbcnkoaa.pktB Go.Proofs.Ytodckfgfbcnkoaa.pktC Go.Proofs.Ytodckfgfbcnkoaa.pktE Go.Proofs.Ytodckfgfbcnkoaa.sixE Go.Proofs.Ytodckfgfbcnkoaa.tunW Go.Proofs.Ytodckfgfbcnkoaa.tunE Go.Proofs.Ytodckfgfbcnkoaa.tunF
set_option linter.unusedVariables false
set_option linter.unusedSimpArgs false

theorem range_blk {W : World} {g : Nat} {t : TypeId} {cs : Array Value} (h : Blk W g t cs) : W.rangeAt g 0 cs.toList := fun j v hv => by
  rw [Nat.zero_add, h.cell j]
  simpa using hv
theorem ex_wrap : wrP false 0 1 false 0 2 [64] = (0, tw4 4 1 2 [64]) := by
  have e : numP [64] = (4, 0) := by decide
  unfold wrP
  rw [e]
  rfl
theorem ex_open : topR (tw4 4 1 2 [64]) = ⟨[64], false, 0, 1, false, 0, 2, 0, 0⟩ := by
  obtain ⟨a, b⟩ := opn4 4 1 2 [64] (.inl rfl) (by omega) (by omega) (by simp) (by decide)
  unfold topR
  rw [b, if_pos rfl, a]
set_option maxHeartbeats 4000000 in
set_option maxRecDepth 100000 in
theorem awake_any (w : World) : Calls Try.prog 13 #[] w fun o w' => o = .returned (.bool true) ∧ Below w.heap.size w w' := by
  have HV := Lib.hid (fun (k : Int) (h : 0 ≤ k) (h2 : k ≤ 4294967295) (V : World) => fourA.v4_any k h h2 V)
  have HW := Lib.hid (fun (A : Option Addr) (n c : Nat) (V : World) (h : Sl V A n c [64]) => wrap_any false 0 1 false 0 2 A n c [64] V h (by have := h.len; simp at this; omega) (by omega) (by omega) (by omega) (by omega))
  have HO := Lib.hid (fun (A : Option Addr) (n c : Nat) (V : World) (h : Sl V A n c (tw4 4 1 2 [64])) => open_any A n c _ V h (by have := h.len; rw [(tw4_says 4 1 2 [64] (by omega) (by omega) (by omega) (by simp)).2.2.2.2.2.2.2.2.2] at this; simp at this; omega))
  rw [ex_wrap] at HW
  rw [ex_open] at HO
  have HA := Lib.hid Try.underlying32
  have HIA := Lib.hid (show (Try.prog.info? 32).map (·.size) = some 3 from by kernel_rfl)
  go_enter Try.func13, Try.ntmps13
  go_wp2_with fail
  refine (HV.out 1 (by omega) (by omega) _).mono ?_
  rintro o w1 ⟨rfl, hb1⟩
  have B1 := Lib.hid hb1
  clear hb1
  go_wp2_with fail
  refine (HV.out 2 (by omega) (by omega) _).mono ?_
  rintro o w2 ⟨rfl, hb2⟩
  have B2 := Lib.hid (B1.out.trans (hb2.mono B1.out.size))
  clear hb2
  go_wp2_with fail
  refine (HW.out _ 1 1 _ ⟨rfl, sumC.row_blk (Blk.new w2 5 #[.int .u8 64]), by omega, by omega, (fun h => by cases h), fun x hx => by rw [List.mem_singleton.mp hx]; omega⟩).mono ?_
  rintro o w3 ⟨hb3, A3, n3, c3, rfl, hs3⟩
  have B3 := Lib.hid ((B2.out.alloc B2.out.size _).trans (hb3.mono (B2.out.alloc B2.out.size (.cells #[.int .u8 64] 5)).size))
  have S3 := Lib.hid hs3
  clear hb3 hs3
  go_wp2_with fail
  refine (HO.out _ _ _ _ S3.out).mono ?_
  rintro o w4 ⟨hb4, A5, c5, rfl, hs5⟩
  have B4 := Lib.hid (B3.out.trans (hb4.mono B3.out.size))
  obtain ⟨g1, hg1⟩ : ∃ g1, g1 = w4.heap.size := ⟨_, rfl⟩
  obtain ⟨g2, hg2⟩ : ∃ g2, g2 = w4.heap.size + 1 := ⟨_, rfl⟩
  obtain ⟨w5, hw5⟩ : ∃ w5, w5 = (w4.alloc (.cells #[.bool false, .int .u64 0, .int .u64 1] 32)).alloc (.cells #[.bool false, .int .u64 0, .int .u64 2] 32) := ⟨_, rfl⟩
  have E5 := Lib.hid hw5
  have B45 := Lib.hid (show Below w4.heap.size w4 w5 from by rw [hw5]; exact ((Below.refl _ _).alloc (Nat.le_refl _) _).alloc (by simp) _)
  have B5 := Lib.hid (B4.out.trans (B45.out.mono B4.out.size))
  have S5 := Lib.hid (Sl.below (l := [64]) hs5 B45.out)
  have KA := Lib.hid (show Blk w5 g1 32 #[.bool false, .int .u64 0, .int .u64 1] from by rw [hw5, hg1]; exact (Blk.new w4 _ _).below ((Below.refl _ _).alloc (Nat.le_refl _) _) (Blk.new w4 _ _).lt)
  have KB := Lib.hid (show Blk w5 g2 32 #[.bool false, .int .u64 0, .int .u64 2] from by
    have h9 := Blk.new (w4.alloc (.cells #[.bool false, .int .u64 0, .int .u64 1] 32)) 32 #[.bool false, .int .u64 0, .int .u64 2]
    rw [← hw5] at h9
    rw [hg2]
    simpa using h9)
  have EG1 := Lib.hid hg1
  have EG2 := Lib.hid hg2
  clear hb4 hs5 hg1 hg2 hw5
  go_upto_region 3 with fail
  rw [← E5.out, ← EG2.out, ← EG1.out]
  have HS := Lib.hid (show ∀ V, Below w5.heap.size w5 V → (V.rangeAt g1 0 (#[.bool false, .int .u64 0, .int .u64 1] : Array Value).toList ∧ V.rangeAt g2 0 (#[.bool false, .int .u64 0, .int .u64 2] : Array Value).toList ∧ (convert 22 9 (.slice A5 1 c5)).run Try.prog V = .ok (.string ⟨#[64]⟩) V) from fun V hV => ⟨range_blk (KA.out.below hV KA.out.lt), range_blk (KB.out.below hV KB.out.lt), (sixN.conv_row (S5.out.below hV).row (S5.out.below hV).len).trans rfl⟩)
  have D0 := Lib.hid ((Below.refl w5.heap.size w5).drew)
  have s0 := HS.out w5.drew D0.out
  refine wp_region_held_drew (S := fun V => V.rangeAt g1 0 (#[.bool false, .int .u64 0, .int .u64 1] : Array Value).toList ∧ V.rangeAt g2 0 (#[.bool false, .int .u64 0, .int .u64 2] : Array Value).toList ∧ (convert 22 9 (.slice A5 1 c5)).run Try.prog V = .ok (.string ⟨#[64]⟩) V) (by kernel_rfl) s0 (fun hHeld => ?_)
  refine wpAnyH_ready (rs := [0]) (by kernel_rfl) (by simp) ?_
  refine AllReadyH.cons rfl (fun K hK => ?_) AllReadyH.nil
  go_simp
  go_at_call 18
  (with_reducible refine (over_any true _).mono ?_)
  rintro o wq ⟨rfl, rfl⟩
  refine hK.out _ _ ?_ (fun hHeld => ?_)
  · exact s0
  clear hK K
  try simp only [List.getElem_toArray, List.getElem_cons_zero, Act.put, List.setIfInBounds_toArray, List.set_cons_zero, List.set_cons_succ]
  refine wpAnyH_take (i := 1) (v := .bool true) rfl (by kernel_rfl) (by kernel_rfl) (by kernel_rfl) (fun _ _ _ h => h) (Or.inl ⟨by rfl, ?_⟩) (by assumption) ?_
  · intro V hV
    go_simp
  try simp only [List.getElem_toArray, List.getElem_cons_zero, List.getElem_cons_succ, Act.put, List.setIfInBounds_toArray, List.set_cons_zero, List.set_cons_succ]
  refine wpAnyH_take (i := 2) (v := .bool true) rfl (by kernel_rfl) (by kernel_rfl) (by kernel_rfl) (fun _ _ _ h => h) (Or.inl ⟨by rfl, ?_⟩) (by assumption) ?_
  · intro V hV
    go_simp
  try simp only [List.getElem_toArray, List.getElem_cons_zero, List.getElem_cons_succ, Act.put, List.setIfInBounds_toArray, List.set_cons_zero, List.set_cons_succ]
  refine wpAnyH_ready (rs := [3]) (by kernel_rfl) (by simp) ?_
  refine AllReadyH.cons rfl (fun K hK => ?_) AllReadyH.nil
  go_simp
  go_at_call 18
  (with_reducible refine (over_any false _).mono ?_)
  rintro o wq ⟨rfl, rfl⟩
  refine hK.out _ _ ?_ (fun hHeld => ?_)
  · exact s0
  clear hK K
  try simp only [List.getElem_toArray, List.getElem_cons_zero, List.getElem_cons_succ, Act.put, List.setIfInBounds_toArray, List.set_cons_zero, List.set_cons_succ]
  refine wpAnyH_take (i := 4) (v := .bool true) rfl (by kernel_rfl) (by kernel_rfl) (by kernel_rfl) (fun _ _ _ h => h) (Or.inl ⟨by rfl, ?_⟩) (by assumption) ?_
  · intro V hV
    go_simp
  try simp only [List.getElem_toArray, List.getElem_cons_zero, List.getElem_cons_succ, Act.put, List.setIfInBounds_toArray, List.set_cons_zero, List.set_cons_succ]
  refine wpAnyH_take (i := 5) (v := .bool true) rfl (by kernel_rfl) (by kernel_rfl) (by kernel_rfl) (fun _ _ _ h => h) (Or.inl ⟨by rfl, ?_⟩) (by assumption) ?_
  · intro V hV
    go_simp
  try simp only [List.getElem_toArray, List.getElem_cons_zero, List.getElem_cons_succ, Act.put, List.setIfInBounds_toArray, List.set_cons_zero, List.set_cons_succ]
  refine wpAnyH_take (i := 6) (v := .bool true) rfl (by kernel_rfl) (by kernel_rfl) (by kernel_rfl) (fun _ _ _ h => h) (Or.inl ⟨by rfl, ?_⟩) (by assumption) ?_
  · intro V hV
    go_simp
  try simp only [List.getElem_toArray, List.getElem_cons_zero, List.getElem_cons_succ, Act.put, List.setIfInBounds_toArray, List.set_cons_zero, List.set_cons_succ]
  refine wpAnyH_take (i := 7) (v := .bool true) rfl (by kernel_rfl) (by kernel_rfl) (by kernel_rfl) (fun _ _ _ h => h) (Or.inl ⟨by rfl, ?_⟩) (by assumption) ?_
  · intro V hV
    go_simp
  try simp only [List.getElem_toArray, List.getElem_cons_zero, List.getElem_cons_succ, Act.put, List.setIfInBounds_toArray, List.set_cons_zero, List.set_cons_succ]
  refine wpAnyH_take (i := 8) (v := .bool true) rfl (by kernel_rfl) (by kernel_rfl) (by kernel_rfl) (fun _ _ _ h => h) (Or.inl ⟨by rfl, ?_⟩) (by assumption) ?_
  · intro V hV
    go_simp
  try simp only [List.getElem_toArray, List.getElem_cons_zero, List.getElem_cons_succ, Act.put, List.setIfInBounds_toArray, List.set_cons_zero, List.set_cons_succ]
  refine wpAnyH_take (i := 9) (v := .int .i64 0) rfl (by kernel_rfl) (by kernel_rfl) (by kernel_rfl) (fun _ _ _ h => h) (Or.inl ⟨by rfl, ?_⟩) (by assumption) ?_
  · intro V hV
    go_simp
  try simp only [List.getElem_toArray, List.getElem_cons_zero, List.getElem_cons_succ, Act.put, List.setIfInBounds_toArray, List.set_cons_zero, List.set_cons_succ]
  refine wpAnyH_take (i := 10) (v := .bool true) rfl (by kernel_rfl) (by kernel_rfl) (by kernel_rfl) (fun _ _ _ h => h) (Or.inl ⟨by rfl, ?_⟩) (by assumption) ?_
  · intro V hV
    go_simp
  try simp only [List.getElem_toArray, List.getElem_cons_zero, List.getElem_cons_succ, Act.put, List.setIfInBounds_toArray, List.set_cons_zero, List.set_cons_succ]
  refine wpAnyH_take (i := 11) (v := .bool true) rfl (by kernel_rfl) (by kernel_rfl) (by kernel_rfl) (fun _ _ _ h => h) (Or.inl ⟨by rfl, ?_⟩) (by assumption) ?_
  · intro V hV
    go_simp
  try simp only [List.getElem_toArray, List.getElem_cons_zero, List.getElem_cons_succ, Act.put, List.setIfInBounds_toArray, List.set_cons_zero, List.set_cons_succ]
  refine wpAnyH_take (i := 12) (v := .bool true) rfl (by kernel_rfl) (by kernel_rfl) (by kernel_rfl) (fun _ _ _ h => h) (Or.inl ⟨by rfl, ?_⟩) (by assumption) ?_
  · intro V hV
    go_simp
  try simp only [List.getElem_toArray, List.getElem_cons_zero, List.getElem_cons_succ, Act.put, List.setIfInBounds_toArray, List.set_cons_zero, List.set_cons_succ]
  refine wpAnyH_take (i := 13) (v := .int .i64 0) rfl (by kernel_rfl) (by kernel_rfl) (by kernel_rfl) (fun _ _ _ h => h) (Or.inl ⟨by rfl, ?_⟩) (by assumption) ?_
  · intro V hV
    go_simp
  try simp only [List.getElem_toArray, List.getElem_cons_zero, List.getElem_cons_succ, Act.put, List.setIfInBounds_toArray, List.set_cons_zero, List.set_cons_succ]
  refine wpAnyH_take (i := 14) (v := .bool true) rfl (by kernel_rfl) (by kernel_rfl) (by kernel_rfl) (fun _ _ _ h => h) (Or.inl ⟨by rfl, ?_⟩) (by assumption) ?_
  · intro V hV
    go_simp
  try simp only [List.getElem_toArray, List.getElem_cons_zero, List.getElem_cons_succ, Act.put, List.setIfInBounds_toArray, List.set_cons_zero, List.set_cons_succ]
  refine wpAnyH_take (i := 15) (v := .bool true) rfl (by kernel_rfl) (by kernel_rfl) (by kernel_rfl) (fun _ _ _ h => h) (Or.inl ⟨by rfl, ?_⟩) (by assumption) ?_
  · intro V hV
    go_simp
  try simp only [List.getElem_toArray, List.getElem_cons_zero, List.getElem_cons_succ, Act.put, List.setIfInBounds_toArray, List.set_cons_zero, List.set_cons_succ]
  refine wpAnyH_take (i := 16) (v := .bool true) rfl (by kernel_rfl) (by kernel_rfl) (by kernel_rfl) (fun _ _ _ h => h) (Or.inl ⟨by rfl, ?_⟩) (by assumption) ?_
  · intro V hV
    go_simp
  try simp only [List.getElem_toArray, List.getElem_cons_zero, List.getElem_cons_succ, Act.put, List.setIfInBounds_toArray, List.set_cons_zero, List.set_cons_succ]
  refine wpAnyH_take (i := 17) (v := .slice A5 1 c5) rfl (by kernel_rfl) (by kernel_rfl) (by kernel_rfl) (fun _ _ _ h => h) (Or.inl ⟨by rfl, ?_⟩) (by assumption) ?_
  · intro V hV
    go_simp
  try simp only [List.getElem_toArray, List.getElem_cons_zero, List.getElem_cons_succ, Act.put, List.setIfInBounds_toArray, List.set_cons_zero, List.set_cons_succ]
  refine wpAnyH_take (i := 18) (v := .string ⟨#[64]⟩) rfl (by kernel_rfl) (by kernel_rfl) (by kernel_rfl) (fun _ _ _ h => h) (Or.inl ⟨by rfl, ?_⟩) (by assumption) ?_
  · intro V hV
    obtain ⟨_, _, hc⟩ := hV
    go_simp
  try simp only [List.getElem_toArray, List.getElem_cons_zero, List.getElem_cons_succ, Act.put, List.setIfInBounds_toArray, List.set_cons_zero, List.set_cons_succ]
  refine wpAnyH_take (i := 19) (v := .bool true) rfl (by kernel_rfl) (by kernel_rfl) (by kernel_rfl) (fun _ _ _ h => h) (Or.inl ⟨by rfl, ?_⟩) (by assumption) ?_
  · intro V hV
    go_simp
  try simp only [List.getElem_toArray, List.getElem_cons_zero, List.getElem_cons_succ, Act.put, List.setIfInBounds_toArray, List.set_cons_zero, List.set_cons_succ]
  refine wpAnyH_take (i := 20) (v := .bool true) rfl (by kernel_rfl) (by kernel_rfl) (by kernel_rfl) (fun _ _ _ h => h) (Or.inl ⟨by rfl, ?_⟩) (by assumption) ?_
  · intro V hV
    go_simp
  try simp only [List.getElem_toArray, List.getElem_cons_zero, List.getElem_cons_succ, Act.put, List.setIfInBounds_toArray, List.set_cons_zero, List.set_cons_succ]
  refine wpAnyH_take (i := 21) (v := .bool true) rfl (by kernel_rfl) (by kernel_rfl) (by kernel_rfl) (fun _ _ _ h => h) (Or.inl ⟨by rfl, ?_⟩) (by assumption) ?_
  · intro V hV
    go_simp
  try simp only [List.getElem_toArray, List.getElem_cons_zero, List.getElem_cons_succ, Act.put, List.setIfInBounds_toArray, List.set_cons_zero, List.set_cons_succ]
  refine wpAnyH_take (i := 22) (v := .agg #[.bool false, .int .u64 0, .int .u64 1]) rfl (by kernel_rfl) (by kernel_rfl) (by kernel_rfl) (fun _ _ _ h => h) (yieldsIf_load_mid (by rfl) _ _ rfl g1 0 rfl (#[.bool false, .int .u64 0, .int .u64 1] : Array Value).toList _ (fun _ h => h.1) HA.out rfl (by first | exact HIA.out | kernel_rfl)) (by assumption) ?_
  try simp only [List.getElem_toArray, List.getElem_cons_zero, List.getElem_cons_succ, Act.put, List.setIfInBounds_toArray, List.set_cons_zero, List.set_cons_succ]
  refine wpAnyH_ready (rs := [23]) (by kernel_rfl) (by simp) ?_
  refine AllReadyH.cons rfl (fun K hK => ?_) AllReadyH.nil
  go_simp
  go_at_call 34
  (with_reducible refine (HV.out 1 (by omega) (by omega) _).mono ?_)
  rintro o wk_D1 ⟨rfl, hbk⟩
  have D1 := Lib.hid (D0.out.trans (hbk.mono D0.out.size))
  have s1 := HS.out wk_D1 D1.out
  clear hbk
  refine hK.out _ _ ?_ (fun hHeld => ?_)
  · exact s1
  clear hK K
  try simp only [List.getElem_toArray, List.getElem_cons_zero, List.getElem_cons_succ, Act.put, List.setIfInBounds_toArray, List.set_cons_zero, List.set_cons_succ]
  refine wpAnyH_take (i := 24) (v := .bool true) rfl (by kernel_rfl) (by kernel_rfl) (by kernel_rfl) (fun _ _ _ h => h) (Or.inl ⟨by rfl, ?_⟩) (by assumption) ?_
  · intro V hV
    go_simp
  try simp only [List.getElem_toArray, List.getElem_cons_zero, List.getElem_cons_succ, Act.put, List.setIfInBounds_toArray, List.set_cons_zero, List.set_cons_succ]
  refine wpAnyH_take (i := 25) (v := .bool true) rfl (by kernel_rfl) (by kernel_rfl) (by kernel_rfl) (fun _ _ _ h => h) (Or.inl ⟨by rfl, ?_⟩) (by assumption) ?_
  · intro V hV
    go_simp
  try simp only [List.getElem_toArray, List.getElem_cons_zero, List.getElem_cons_succ, Act.put, List.setIfInBounds_toArray, List.set_cons_zero, List.set_cons_succ]
  refine wpAnyH_take (i := 26) (v := .bool true) rfl (by kernel_rfl) (by kernel_rfl) (by kernel_rfl) (fun _ _ _ h => h) (Or.inl ⟨by rfl, ?_⟩) (by assumption) ?_
  · intro V hV
    go_simp
  try simp only [List.getElem_toArray, List.getElem_cons_zero, List.getElem_cons_succ, Act.put, List.setIfInBounds_toArray, List.set_cons_zero, List.set_cons_succ]
  refine wpAnyH_take (i := 27) (v := .agg #[.bool false, .int .u64 0, .int .u64 2]) rfl (by kernel_rfl) (by kernel_rfl) (by kernel_rfl) (fun _ _ _ h => h) (yieldsIf_load_mid (by rfl) _ _ rfl g2 0 rfl (#[.bool false, .int .u64 0, .int .u64 2] : Array Value).toList _ (fun _ h => h.2.1) HA.out rfl (by first | exact HIA.out | kernel_rfl)) (by assumption) ?_
  try simp only [List.getElem_toArray, List.getElem_cons_zero, List.getElem_cons_succ, Act.put, List.setIfInBounds_toArray, List.set_cons_zero, List.set_cons_succ]
  refine wpAnyH_ready (rs := [28]) (by kernel_rfl) (by simp) ?_
  refine AllReadyH.cons rfl (fun K hK => ?_) AllReadyH.nil
  go_simp
  go_at_call 34
  (with_reducible refine (HV.out 2 (by omega) (by omega) _).mono ?_)
  rintro o wk_D2 ⟨rfl, hbk⟩
  have D2 := Lib.hid (D1.out.trans (hbk.mono D1.out.size))
  have s2 := HS.out wk_D2 D2.out
  clear hbk
  refine hK.out _ _ ?_ (fun hHeld => ?_)
  · exact s2
  clear hK K
  try simp only [List.getElem_toArray, List.getElem_cons_zero, List.getElem_cons_succ, Act.put, List.setIfInBounds_toArray, List.set_cons_zero, List.set_cons_succ]
  refine wpAnyH_take (i := 29) (v := .bool true) rfl (by kernel_rfl) (by kernel_rfl) (by kernel_rfl) (fun _ _ _ h => h) (Or.inl ⟨by rfl, ?_⟩) (by assumption) ?_
  · intro V hV
    go_simp
  try simp only [List.getElem_toArray, List.getElem_cons_zero, List.getElem_cons_succ, Act.put, List.setIfInBounds_toArray, List.set_cons_zero, List.set_cons_succ]
  refine wpAnyH_take (i := 30) (v := .bool true) rfl (by kernel_rfl) (by kernel_rfl) (by kernel_rfl) (fun _ _ _ h => h) (Or.inl ⟨by rfl, ?_⟩) (by assumption) ?_
  · intro V hV
    go_simp
  try simp only [List.getElem_toArray, List.getElem_cons_zero, List.getElem_cons_succ, Act.put, List.setIfInBounds_toArray, List.set_cons_zero, List.set_cons_succ]
  refine wpAnyH_take (i := 31) (v := .bool true) rfl (by kernel_rfl) (by kernel_rfl) (by kernel_rfl) (fun _ _ _ h => h) (Or.inl ⟨by rfl, ?_⟩) (by assumption) ?_
  · intro V hV
    go_simp
  try simp only [List.getElem_toArray, List.getElem_cons_zero, List.getElem_cons_succ, Act.put, List.setIfInBounds_toArray, List.set_cons_zero, List.set_cons_succ]
  refine wpAnyH_done (by kernel_rfl) ?_ _
  go_wp2_with fail
  go_ret
  exact ⟨rfl, B5.out.trans (D2.out.mono B5.out.size)⟩
end Go.Proofs.Ytodckfgfbcnkoaa.tunG
/- Layer 13: bytes that are cut to so many. -/
namespace Go.Proofs.Ytodckfgfbcnkoaa.pktCut
open Go.ChangeShapes Go.WideShapes Go.ChangeAt Go.RowKit
open Go.Proofs.Ytodckfgfbcnkoaa.rdrG Go.Proofs.Ytodckfgfbcnkoaa.sumB Go.Proofs.Ytodckfgfbcnkoaa.sixF
set_option linter.unusedVariables false

theorem cut_any (A : Option Addr) (n c : Nat) (w : World) (hA : 0 < n → ∃ b off, A = some ⟨b, off, none⟩) (hnc : n ≤ c) (hc : c ≤ 9223372036854775807) :
    Calls Try.prog 10 #[.slice A n c] w fun o w' => o = .returned (.slice A (min n 500) c) ∧ w = w' := by
  by_cases h : 500 < n
  · obtain ⟨b, off, rfl⟩ := hA (by omega)
    obtain ⟨s1, s2⟩ := slice_to b off n c 500 (by omega) (by omega)
    have t1 : decide (500 < (n : Int)) = true := decide_eq_true (by omega)
    have t1n : decide (500 < n) = true := decide_eq_true h
    have e : min n 500 = 500 := by omega
    rw [e]
    have s1 : ∀ W : World, (Instr.slice 22 (.slice (some ⟨b, off, none⟩) n c) none (some (.int .i64 500)) none).run Try.prog W = .ok (.slice (some ⟨b, off, none⟩) 500 c) W := s1
    have s2 : ∀ W : World, (Instr.sliceAt 22 (.slice (some ⟨b, off, none⟩) n c) none (some (.int .i64 500)) none).run Try.prog W = .ok (.slice (some ⟨b, off, none⟩) 500 c) W := s2
    clear e hA
    go_enter Try.func10, Try.ntmps10
    go_wp2_with fail
    go_ret
    exact ⟨rfl, rfl⟩
  · have t1 : decide (500 < (n : Int)) = false := decide_eq_false (by omega)
    have t1n : decide (500 < n) = false := decide_eq_false h
    have e : min n 500 = n := by omega
    rw [e]
    clear e hA
    go_enter Try.func10, Try.ntmps10
    go_wp2_with fail
    go_ret
    exact ⟨rfl, rfl⟩
end Go.Proofs.Ytodckfgfbcnkoaa.pktCut
/- Layer 14: what lies in any bytes. -/
namespace Go.Proofs.Ytodckfgfbcnkoaa.tunN
open Go.ChangeShapes Go.WideShapes Go.ChangeAt Go.RowKit
open Go.Proofs.Ytodckfgfbcnkoaa.tunW
set_option linter.unusedVariables false
set_option linter.unusedSimpArgs false

theorem right_is {r : List Int} {p : Int} (h : rightP r p = 0) : (p = 4 ∨ p = 41) ∧ 0 < r.length ∧ ((p = 4 ∧ r.getD 0 0 / 16 = 4) ∨ (p = 41 ∧ r.getD 0 0 / 16 = 6)) := by
  unfold rightP at h
  by_cases hp : p ≠ 4 ∧ p ≠ 41
  · rw [if_pos hp] at h
    cases h
  rw [if_neg hp] at h
  have hp2 : p = 4 ∨ p = 41 := by omega
  unfold numP at h
  by_cases h0 : r.length = 0
  · rw [if_pos h0] at h
    revert h
    simp
  by_cases h4 : r.getD 0 0 / 16 = 4
  · rw [if_neg h0, if_pos h4] at h
    simp only [true_and] at h
    by_cases hq : (4 : Int) ≠ p
    · rw [if_pos hq] at h
      cases h
    · exact ⟨hp2, by omega, .inl ⟨by omega, h4⟩⟩
  by_cases h6 : r.getD 0 0 / 16 = 6
  · rw [if_neg h0, if_neg h4, if_pos h6] at h
    simp only [true_and] at h
    by_cases hq : (41 : Int) ≠ p
    · rw [if_pos hq] at h
      cases h
    · exact ⟨hp2, by omega, .inr ⟨by omega, h6⟩⟩
  · rw [if_neg h0, if_neg h4, if_neg h6] at h
    revert h
    simp
theorem right_mis {r : List Int} {p oe : Int} {a4 b4 : Bool} (hoe : oe = rightP r p) (hne : oe ≠ 0) (hp : p = 4 ∨ p = 41) (hr : 0 < r.length) (hy : r.getD 0 0 / 16 = 4 ∨ r.getD 0 0 / 16 = 6) (ha : a4 = (r.getD 0 0 / 16 == 4)) (hb : b4 = (p == 4)) : oe = 14 ∧ a4 ≠ b4 := by
  unfold rightP at hoe
  rw [if_neg (by omega)] at hoe
  rcases hy with h | h
  · have e : numP r = (4, 0) := by unfold numP; rw [if_neg (by omega), if_pos h]
    rw [e] at hoe
    simp only [true_and] at hoe
    rw [h] at ha
    rcases hp with rfl | rfl
    · rw [if_neg (by omega)] at hoe
      exact absurd hoe hne
    · rw [if_pos (by omega)] at hoe
      exact ⟨hoe, by rw [ha, hb]; decide⟩
  · have e : numP r = (41, 0) := by unfold numP; rw [if_neg (by omega), if_neg (by omega), if_pos h]
    rw [e] at hoe
    simp only [true_and] at hoe
    rw [h] at ha
    rcases hp with rfl | rfl
    · rw [if_pos (by omega)] at hoe
      exact ⟨hoe, by rw [ha, hb]; decide⟩
    · rw [if_neg (by omega)] at hoe
      exact absurd hoe hne
end Go.Proofs.Ytodckfgfbcnkoaa.tunN
