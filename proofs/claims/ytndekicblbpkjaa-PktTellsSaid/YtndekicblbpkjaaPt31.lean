/- 1 texts in one. -/
import Derived.Deep.RegionHeld3
import Derived.Deep.DeepCutAuto
import Derived.Test.YtndekicblbpkjaaPt27
import Derived.Test.YtndekicblbpkjaaPt30
/- Layer 13: the law on what is told of an error. -/
namespace Go.Proofs.Ytndekicblbpkjaa.pktZ
open Go.ChangeShapes Go.WideShapes Go.ChangeAt Go.RowKit
open Go.Proofs.Ytndekicblbpkjaa.base Go.Proofs.Ytndekicblbpkjaa.rdrA Go.Proofs.Ytndekicblbpkjaa.rdrG Go.Proofs.Ytndekicblbpkjaa.sixW Go.Proofs.Ytndekicblbpkjaa.sixM Go.Proofs.Ytndekicblbpkjaa.pktA Go.Proofs.Ytndekicblbpkjaa.pktB Go.Proofs.Ytndekicblbpkjaa.pktC Go.Proofs.Ytndekicblbpkjaa.pktD Go.Proofs.Ytndekicblbpkjaa.pktE Go.Proofs.Ytndekicblbpkjaa.pktK Go.Proofs.Ytndekicblbpkjaa.pktL Go.Proofs.Ytndekicblbpkjaa.pktN Go.Proofs.Ytndekicblbpkjaa.pktO Go.Proofs.Ytndekicblbpkjaa.pktY
set_option linter.unusedVariables false

theorem range_part {W : World} {g : Nat} {t : TypeId} {cs : Array Value} (h : Blk W g t cs) (o : Nat) (l : List Value) (hl : ∀ j v, l[j]? = some v → cs[o + j]? = some v) : W.rangeAt g o l := fun j v hv => by
  rw [h.cell (o + j)]
  exact hl j v hv
set_option maxHeartbeats 8000000 in
set_option maxRecDepth 100000 in
theorem tells_N (pr : Int) (s6 : Bool) (sh sl : Int) (d6 : Bool) (dh dl sp dp : Int) (f6 : Bool) (fh fl ttl most : Int) (A : Option Addr) (n0 n c : Nat) (w : World)
    (HC : Hid (∀ W, Calls Try.prog 27 #[.slice A n0 c] W fun o w' => o = .returned (.slice A n c) ∧ W = w'))
    (HD : Hid (∀ V, Below w.heap.size w V → Calls Try.prog 33 #[.agg #[.int .i64 pr, .bool s6, .int .u64 sh, .int .u64 sl, .bool d6, .int .u64 dh, .int .u64 dl, .int .i64 sp, .int .i64 dp], .int .i64 64, .slice A n c] V (MkP 1 [] V))) :
    Calls Try.prog 8 #[.agg #[.int .i64 pr, .bool s6, .int .u64 sh, .int .u64 sl, .bool d6, .int .u64 dh, .int .u64 dl, .int .i64 sp, .int .i64 dp], .agg #[.bool f6, .int .u64 fh, .int .u64 fl], .int .i64 ttl, .slice A n0 c, .int .i64 most] w fun o w' => o = .returned (.bool true) ∧ Below w.heap.size w w' := by
  have HAW := Lib.hid awake_any
  obtain ⟨w1, hw1⟩ : ∃ w1, w1 = (w.alloc (.cells #[.int .i64 pr, .bool s6, .int .u64 sh, .int .u64 sl, .bool d6, .int .u64 dh, .int .u64 dl, .int .i64 sp, .int .i64 dp] 48)).alloc (.cells #[.bool f6, .int .u64 fh, .int .u64 fl] 26) := ⟨_, rfl⟩
  have E1 := Lib.hid hw1
  have B1 := Lib.hid (show Below w.heap.size w w1 from by rw [hw1]; exact ((Below.refl _ _).alloc (Nat.le_refl _) _).alloc (by simp) _)
  obtain ⟨g, hg⟩ : ∃ g, g = w.heap.size := ⟨_, rfl⟩
  obtain ⟨h, hh⟩ : ∃ h, h = w.heap.size + 1 := ⟨_, rfl⟩
  have EG := Lib.hid hg
  have EH := Lib.hid hh
  have K1 := Lib.hid (show Blk w1 g 48 #[.int .i64 pr, .bool s6, .int .u64 sh, .int .u64 sl, .bool d6, .int .u64 dh, .int .u64 dl, .int .i64 sp, .int .i64 dp] from by rw [hw1, hg]; exact (Blk.new w _ _).below ((Below.refl _ _).alloc (Nat.le_refl _) _) (Blk.new w _ _).lt)
  have H1 := Lib.hid (show Blk w1 h 26 #[.bool f6, .int .u64 fh, .int .u64 fl] from by
    have h9 := Blk.new (w.alloc (.cells #[.int .i64 pr, .bool s6, .int .u64 sh, .int .u64 sl, .bool d6, .int .u64 dh, .int .u64 dl, .int .i64 sp, .int .i64 dp] 48)) 26 #[.bool f6, .int .u64 fh, .int .u64 fl]
    rw [← hw1] at h9
    rw [hh]
    simpa using h9)
  have HV := Lib.hid Try.underlying48
  have HA := Lib.hid Try.underlying26
  have HIT := Lib.hid tp_size
  have HIA := Lib.hid (show (Try.prog.info? 26).map (·.size) = some 3 from by kernel_rfl)
  clear hw1 hg hh
  go_enter Try.func8, Try.ntmps8
  go_upto_region 1 with fail
  rw [← E1.out, ← EH.out, ← EG.out]
  have D0 := Lib.hid ((Below.refl w1.heap.size w1).drew)
  have HS_ := Lib.hid (show ∀ W, Below w1.heap.size w1 W → W.rangeAt g 0 (#[.int .i64 pr, .bool s6, .int .u64 sh, .int .u64 sl, .bool d6, .int .u64 dh, .int .u64 dl, .int .i64 sp, .int .i64 dp] : Array Value).toList from fun W hW => range_blk (K1.out.below hW K1.out.lt))
  have s0 := HS_.out w1.drew D0.out
  refine wp_region_held_drew (S := fun V => V.rangeAt g 0 (#[.int .i64 pr, .bool s6, .int .u64 sh, .int .u64 sl, .bool d6, .int .u64 dh, .int .u64 dl, .int .i64 sp, .int .i64 dp] : Array Value).toList) (by kernel_rfl) s0 (fun hHeld => ?_)
  refine wpAnyH_take (i := 0) (v := .agg #[.int .i64 pr, .bool s6, .int .u64 sh, .int .u64 sl, .bool d6, .int .u64 dh, .int .u64 dl, .int .i64 sp, .int .i64 dp]) rfl (by kernel_rfl) (by kernel_rfl) (by kernel_rfl) (fun _ _ _ h => h) (yieldsIf_load_mid (by rfl) _ _ rfl g 0 rfl (#[.int .i64 pr, .bool s6, .int .u64 sh, .int .u64 sl, .bool d6, .int .u64 dh, .int .u64 dl, .int .i64 sp, .int .i64 dp] : Array Value).toList _ (fun _ h => h) HV.out rfl (by first | exact HIT.out | kernel_rfl)) (by assumption) ?_
  try simp only [List.getElem_toArray, List.getElem_cons_zero, Act.put, List.setIfInBounds_toArray, List.set_cons_zero, List.set_cons_succ]
  refine wpAnyH_take (i := 1) (v := .slice A n0 c) rfl (by kernel_rfl) (by kernel_rfl) (by kernel_rfl) (fun _ _ _ h => h) (Or.inl ⟨by rfl, ?_⟩) (by assumption) ?_
  · intro V hV
    go_simp
  try simp only [List.getElem_toArray, List.getElem_cons_zero, List.getElem_cons_succ, Act.put, List.setIfInBounds_toArray, List.set_cons_zero, List.set_cons_succ]
  refine wpAnyH_ready (rs := [2]) (by kernel_rfl) (by simp) ?_
  refine AllReadyH.cons rfl (fun K hK => ?_) AllReadyH.nil
  go_simp
  go_at_call 27
  (with_reducible refine (HC.out _).mono ?_)
  rintro o w' ⟨rfl, rfl⟩
  refine hK.out _ _ ?_ (fun hHeld => ?_)
  · exact s0
  clear hK K
  try simp only [List.getElem_toArray, List.getElem_cons_zero, List.getElem_cons_succ, Act.put, List.setIfInBounds_toArray, List.set_cons_zero, List.set_cons_succ]
  refine wpAnyH_ready (rs := [3]) (by kernel_rfl) (by simp) ?_
  refine AllReadyH.cons rfl (fun K hK => ?_) AllReadyH.nil
  go_simp
  go_at_call 33
  (with_reducible refine (HD.out _ (B1.out.trans (D0.out.mono B1.out.size))).mono ?_)
  rintro o w2 ⟨hb2, A2, n2, c2, rfl, hs2⟩
  have D1 := Lib.hid (D0.out.trans (hb2.mono D0.out.size))
  have s1 := HS_.out w2 D1.out
  have S2 := Lib.hid hs2
  clear hb2 hs2
  refine hK.out _ _ ?_ (fun hHeld => ?_)
  · exact s1
  clear hK K
  try simp only [List.getElem_toArray, List.getElem_cons_zero, List.getElem_cons_succ, Act.put, List.setIfInBounds_toArray, List.set_cons_zero, List.set_cons_succ]
  refine wpAnyH_take (i := 4) (v := .tuple #[.slice A2 n2 c2, .int .i64 1]) rfl (by kernel_rfl) (by kernel_rfl) (by kernel_rfl) (fun _ _ _ h => h) (Or.inl ⟨by rfl, ?_⟩) (by assumption) ?_
  · intro V hV
    go_simp
  try simp only [List.getElem_toArray, List.getElem_cons_zero, List.getElem_cons_succ, Act.put, List.setIfInBounds_toArray, List.set_cons_zero, List.set_cons_succ]
  refine wpAnyH_take (i := 5) (v := .slice A2 n2 c2) rfl (by kernel_rfl) (by kernel_rfl) (by kernel_rfl) (fun _ _ _ h => h) (Or.inl ⟨by rfl, ?_⟩) (by assumption) ?_
  · intro V hV
    go_simp
  try simp only [List.getElem_toArray, List.getElem_cons_zero, List.getElem_cons_succ, Act.put, List.setIfInBounds_toArray, List.set_cons_zero, List.set_cons_succ]
  refine wpAnyH_take (i := 6) (v := .int .i64 1) rfl (by kernel_rfl) (by kernel_rfl) (by kernel_rfl) (fun _ _ _ h => h) (Or.inl ⟨by rfl, ?_⟩) (by assumption) ?_
  · intro V hV
    go_simp
  try simp only [List.getElem_toArray, List.getElem_cons_zero, List.getElem_cons_succ, Act.put, List.setIfInBounds_toArray, List.set_cons_zero, List.set_cons_succ]
  refine wpAnyH_take (i := 7) (v := .slice A2 n2 c2) rfl (by kernel_rfl) (by kernel_rfl) (by kernel_rfl) (fun _ _ _ h => h) (Or.inl ⟨by rfl, ?_⟩) (by assumption) ?_
  · intro V hV
    go_simp
  try simp only [List.getElem_toArray, List.getElem_cons_zero, List.getElem_cons_succ, Act.put, List.setIfInBounds_toArray, List.set_cons_zero, List.set_cons_succ]
  refine wpAnyH_take (i := 8) (v := .int .i64 1) rfl (by kernel_rfl) (by kernel_rfl) (by kernel_rfl) (fun _ _ _ h => h) (Or.inl ⟨by rfl, ?_⟩) (by assumption) ?_
  · intro V hV
    go_simp
  try simp only [List.getElem_toArray, List.getElem_cons_zero, List.getElem_cons_succ, Act.put, List.setIfInBounds_toArray, List.set_cons_zero, List.set_cons_succ]
  refine wpAnyH_done (by kernel_rfl) ?_ _
  have K2 := Lib.hid (K1.out.below D1.out K1.out.lt)
  have H2 := Lib.hid (H1.out.below D1.out H1.out.lt)
  have B2 := Lib.hid (B1.out.trans (D1.out.mono B1.out.size))
  clear s0 s1 hHeld
  go_wp2_with fail
  refine (HAW.out _).mono ?_
  rintro o w3 ⟨rfl, hb3⟩
  have B3 := B2.out.trans (hb3.mono B2.out.size)
  go_wp2_with fail
  go_ret
  exact ⟨rfl, B3⟩
set_option maxHeartbeats 8000000 in
set_option maxRecDepth 100000 in
theorem tells_V (s6 : Bool) (sh sl dh dl sp dp : Int) (f6 : Bool) (hf : f6 ≠ s6) (fh fl ttl most : Int) (A : Option Addr) (n0 n c : Nat) (w : World) (B : List Int)
    (HC : Hid (∀ W, Calls Try.prog 27 #[.slice A n0 c] W fun o w' => o = .returned (.slice A n c) ∧ W = w'))
    (HD : Hid (∀ V, Below w.heap.size w V → Calls Try.prog 33 #[.agg #[.int .i64 17, .bool s6, .int .u64 sh, .int .u64 sl, .bool s6, .int .u64 dh, .int .u64 dl, .int .i64 sp, .int .i64 dp], .int .i64 64, .slice A n c] V (MkP 0 B V)))
    (HU : Hid (∀ V A2 n2 c2, Sl V A2 n2 c2 B → Calls Try.prog 36 #[.agg #[.bool f6, .int .u64 fh, .int .u64 fl], .int .i64 ttl, .slice A2 n2 c2, .int .i64 most] V (MkP 1 [] V))) :
    Calls Try.prog 8 #[.agg #[.int .i64 17, .bool s6, .int .u64 sh, .int .u64 sl, .bool s6, .int .u64 dh, .int .u64 dl, .int .i64 sp, .int .i64 dp], .agg #[.bool f6, .int .u64 fh, .int .u64 fl], .int .i64 ttl, .slice A n0 c, .int .i64 most] w fun o w' => o = .returned (.bool true) ∧ Below w.heap.size w w' := by
  have tf : (f6 == s6) = false := by simpa using hf
  clear hf
  have HAW := Lib.hid awake_any
  obtain ⟨w1, hw1⟩ : ∃ w1, w1 = (w.alloc (.cells #[.int .i64 17, .bool s6, .int .u64 sh, .int .u64 sl, .bool s6, .int .u64 dh, .int .u64 dl, .int .i64 sp, .int .i64 dp] 48)).alloc (.cells #[.bool f6, .int .u64 fh, .int .u64 fl] 26) := ⟨_, rfl⟩
  have E1 := Lib.hid hw1
  have B1 := Lib.hid (show Below w.heap.size w w1 from by rw [hw1]; exact ((Below.refl _ _).alloc (Nat.le_refl _) _).alloc (by simp) _)
  obtain ⟨g, hg⟩ : ∃ g, g = w.heap.size := ⟨_, rfl⟩
  obtain ⟨h, hh⟩ : ∃ h, h = w.heap.size + 1 := ⟨_, rfl⟩
  have EG := Lib.hid hg
  have EH := Lib.hid hh
  have K1 := Lib.hid (show Blk w1 g 48 #[.int .i64 17, .bool s6, .int .u64 sh, .int .u64 sl, .bool s6, .int .u64 dh, .int .u64 dl, .int .i64 sp, .int .i64 dp] from by rw [hw1, hg]; exact (Blk.new w _ _).below ((Below.refl _ _).alloc (Nat.le_refl _) _) (Blk.new w _ _).lt)
  have H1 := Lib.hid (show Blk w1 h 26 #[.bool f6, .int .u64 fh, .int .u64 fl] from by
    have h9 := Blk.new (w.alloc (.cells #[.int .i64 17, .bool s6, .int .u64 sh, .int .u64 sl, .bool s6, .int .u64 dh, .int .u64 dl, .int .i64 sp, .int .i64 dp] 48)) 26 #[.bool f6, .int .u64 fh, .int .u64 fl]
    rw [← hw1] at h9
    rw [hh]
    simpa using h9)
  have HV := Lib.hid Try.underlying48
  have HA := Lib.hid Try.underlying26
  have HIT := Lib.hid tp_size
  have HIA := Lib.hid (show (Try.prog.info? 26).map (·.size) = some 3 from by kernel_rfl)
  clear hw1 hg hh
  go_enter Try.func8, Try.ntmps8
  go_upto_region 1 with fail
  rw [← E1.out, ← EH.out, ← EG.out]
  have D0 := Lib.hid ((Below.refl w1.heap.size w1).drew)
  have HS_ := Lib.hid (show ∀ W, Below w1.heap.size w1 W → W.rangeAt g 0 (#[.int .i64 17, .bool s6, .int .u64 sh, .int .u64 sl, .bool s6, .int .u64 dh, .int .u64 dl, .int .i64 sp, .int .i64 dp] : Array Value).toList from fun W hW => range_blk (K1.out.below hW K1.out.lt))
  have s0 := HS_.out w1.drew D0.out
  refine wp_region_held_drew (S := fun V => V.rangeAt g 0 (#[.int .i64 17, .bool s6, .int .u64 sh, .int .u64 sl, .bool s6, .int .u64 dh, .int .u64 dl, .int .i64 sp, .int .i64 dp] : Array Value).toList) (by kernel_rfl) s0 (fun hHeld => ?_)
  refine wpAnyH_take (i := 0) (v := .agg #[.int .i64 17, .bool s6, .int .u64 sh, .int .u64 sl, .bool s6, .int .u64 dh, .int .u64 dl, .int .i64 sp, .int .i64 dp]) rfl (by kernel_rfl) (by kernel_rfl) (by kernel_rfl) (fun _ _ _ h => h) (yieldsIf_load_mid (by rfl) _ _ rfl g 0 rfl (#[.int .i64 17, .bool s6, .int .u64 sh, .int .u64 sl, .bool s6, .int .u64 dh, .int .u64 dl, .int .i64 sp, .int .i64 dp] : Array Value).toList _ (fun _ h => h) HV.out rfl (by first | exact HIT.out | kernel_rfl)) (by assumption) ?_
  try simp only [List.getElem_toArray, List.getElem_cons_zero, Act.put, List.setIfInBounds_toArray, List.set_cons_zero, List.set_cons_succ]
  refine wpAnyH_take (i := 1) (v := .slice A n0 c) rfl (by kernel_rfl) (by kernel_rfl) (by kernel_rfl) (fun _ _ _ h => h) (Or.inl ⟨by rfl, ?_⟩) (by assumption) ?_
  · intro V hV
    go_simp
  try simp only [List.getElem_toArray, List.getElem_cons_zero, List.getElem_cons_succ, Act.put, List.setIfInBounds_toArray, List.set_cons_zero, List.set_cons_succ]
  refine wpAnyH_ready (rs := [2]) (by kernel_rfl) (by simp) ?_
  refine AllReadyH.cons rfl (fun K hK => ?_) AllReadyH.nil
  go_simp
  go_at_call 27
  (with_reducible refine (HC.out _).mono ?_)
  rintro o w' ⟨rfl, rfl⟩
  refine hK.out _ _ ?_ (fun hHeld => ?_)
  · exact s0
  clear hK K
  try simp only [List.getElem_toArray, List.getElem_cons_zero, List.getElem_cons_succ, Act.put, List.setIfInBounds_toArray, List.set_cons_zero, List.set_cons_succ]
  refine wpAnyH_ready (rs := [3]) (by kernel_rfl) (by simp) ?_
  refine AllReadyH.cons rfl (fun K hK => ?_) AllReadyH.nil
  go_simp
  go_at_call 33
  (with_reducible refine (HD.out _ (B1.out.trans (D0.out.mono B1.out.size))).mono ?_)
  rintro o w2 ⟨hb2, A2, n2, c2, rfl, hs2⟩
  have D1 := Lib.hid (D0.out.trans (hb2.mono D0.out.size))
  have s1 := HS_.out w2 D1.out
  have S2 := Lib.hid hs2
  clear hb2 hs2
  refine hK.out _ _ ?_ (fun hHeld => ?_)
  · exact s1
  clear hK K
  try simp only [List.getElem_toArray, List.getElem_cons_zero, List.getElem_cons_succ, Act.put, List.setIfInBounds_toArray, List.set_cons_zero, List.set_cons_succ]
  refine wpAnyH_take (i := 4) (v := .tuple #[.slice A2 n2 c2, .int .i64 0]) rfl (by kernel_rfl) (by kernel_rfl) (by kernel_rfl) (fun _ _ _ h => h) (Or.inl ⟨by rfl, ?_⟩) (by assumption) ?_
  · intro V hV
    go_simp
  try simp only [List.getElem_toArray, List.getElem_cons_zero, List.getElem_cons_succ, Act.put, List.setIfInBounds_toArray, List.set_cons_zero, List.set_cons_succ]
  refine wpAnyH_take (i := 5) (v := .slice A2 n2 c2) rfl (by kernel_rfl) (by kernel_rfl) (by kernel_rfl) (fun _ _ _ h => h) (Or.inl ⟨by rfl, ?_⟩) (by assumption) ?_
  · intro V hV
    go_simp
  try simp only [List.getElem_toArray, List.getElem_cons_zero, List.getElem_cons_succ, Act.put, List.setIfInBounds_toArray, List.set_cons_zero, List.set_cons_succ]
  refine wpAnyH_take (i := 6) (v := .int .i64 0) rfl (by kernel_rfl) (by kernel_rfl) (by kernel_rfl) (fun _ _ _ h => h) (Or.inl ⟨by rfl, ?_⟩) (by assumption) ?_
  · intro V hV
    go_simp
  try simp only [List.getElem_toArray, List.getElem_cons_zero, List.getElem_cons_succ, Act.put, List.setIfInBounds_toArray, List.set_cons_zero, List.set_cons_succ]
  refine wpAnyH_take (i := 7) (v := .slice A2 n2 c2) rfl (by kernel_rfl) (by kernel_rfl) (by kernel_rfl) (fun _ _ _ h => h) (Or.inl ⟨by rfl, ?_⟩) (by assumption) ?_
  · intro V hV
    go_simp
  try simp only [List.getElem_toArray, List.getElem_cons_zero, List.getElem_cons_succ, Act.put, List.setIfInBounds_toArray, List.set_cons_zero, List.set_cons_succ]
  refine wpAnyH_take (i := 8) (v := .int .i64 0) rfl (by kernel_rfl) (by kernel_rfl) (by kernel_rfl) (fun _ _ _ h => h) (Or.inl ⟨by rfl, ?_⟩) (by assumption) ?_
  · intro V hV
    go_simp
  try simp only [List.getElem_toArray, List.getElem_cons_zero, List.getElem_cons_succ, Act.put, List.setIfInBounds_toArray, List.set_cons_zero, List.set_cons_succ]
  refine wpAnyH_done (by kernel_rfl) ?_ _
  have K2 := Lib.hid (K1.out.below D1.out K1.out.lt)
  have H2 := Lib.hid (H1.out.below D1.out H1.out.lt)
  have B2 := Lib.hid (B1.out.trans (D1.out.mono B1.out.size))
  clear s0 s1 hHeld
  have x0 := H2.out.cell 0
  have x1 := H2.out.cell 1
  have x2 := H2.out.cell 2
  go_wp2_with fail
  refine (HU.out _ _ _ _ S2.out).mono ?_
  rintro o w3 ⟨hb3, A3, n3, c3, rfl, hs3⟩
  have K3 := Lib.hid (K2.out.below hb3 K2.out.lt)
  have H3 := Lib.hid (H2.out.below hb3 H2.out.lt)
  have B3 := Lib.hid (B2.out.trans (hb3.mono B2.out.size))
  clear x0 x1 x2
  have x0 := H3.out.cell 0
  have x1 := H3.out.cell 1
  have x2 := H3.out.cell 2
  have y1 := K3.out.cell 1
  obtain rfl : n3 = 0 := by have := hs3.len; simpa using this.symm
  clear hb3 hs3
  go_wp2_with fail
  refine (HAW.out _).mono ?_
  rintro o w9 ⟨rfl, hb9⟩
  have B9 := B3.out.trans (hb9.mono B3.out.size)
  go_wp2_with fail
  go_ret
  exact ⟨rfl, B9⟩
set_option maxHeartbeats 8000000 in
set_option maxRecDepth 100000 in
theorem tells_B (s6 : Bool) (sh sl dh dl sp dp : Int) (fh fl ttl most : Int) (A : Option Addr) (n0 n c : Nat) (w : World) (B : List Int) (hno : ¬ okE s6 fh fl ttl)
    (HC : Hid (∀ W, Calls Try.prog 27 #[.slice A n0 c] W fun o w' => o = .returned (.slice A n c) ∧ W = w'))
    (HD : Hid (∀ V, Below w.heap.size w V → Calls Try.prog 33 #[.agg #[.int .i64 17, .bool s6, .int .u64 sh, .int .u64 sl, .bool s6, .int .u64 dh, .int .u64 dl, .int .i64 sp, .int .i64 dp], .int .i64 64, .slice A n c] V (MkP 0 B V)))
    (HU : Hid (∀ V A2 n2 c2, Sl V A2 n2 c2 B → Calls Try.prog 36 #[.agg #[.bool s6, .int .u64 fh, .int .u64 fl], .int .i64 ttl, .slice A2 n2 c2, .int .i64 most] V (MkP 1 [] V))) :
    Calls Try.prog 8 #[.agg #[.int .i64 17, .bool s6, .int .u64 sh, .int .u64 sl, .bool s6, .int .u64 dh, .int .u64 dl, .int .i64 sp, .int .i64 dp], .agg #[.bool s6, .int .u64 fh, .int .u64 fl], .int .i64 ttl, .slice A n0 c, .int .i64 most] w fun o w' => o = .returned (.bool true) ∧ Below w.heap.size w w' := by
  have tf : (s6 == s6) = true := by simp
  have HNO := Lib.hid hno
  clear hno
  have HAW := Lib.hid awake_any
  obtain ⟨w1, hw1⟩ : ∃ w1, w1 = (w.alloc (.cells #[.int .i64 17, .bool s6, .int .u64 sh, .int .u64 sl, .bool s6, .int .u64 dh, .int .u64 dl, .int .i64 sp, .int .i64 dp] 48)).alloc (.cells #[.bool s6, .int .u64 fh, .int .u64 fl] 26) := ⟨_, rfl⟩
  have E1 := Lib.hid hw1
  have B1 := Lib.hid (show Below w.heap.size w w1 from by rw [hw1]; exact ((Below.refl _ _).alloc (Nat.le_refl _) _).alloc (by simp) _)
  obtain ⟨g, hg⟩ : ∃ g, g = w.heap.size := ⟨_, rfl⟩
  obtain ⟨h, hh⟩ : ∃ h, h = w.heap.size + 1 := ⟨_, rfl⟩
  have EG := Lib.hid hg
  have EH := Lib.hid hh
  have K1 := Lib.hid (show Blk w1 g 48 #[.int .i64 17, .bool s6, .int .u64 sh, .int .u64 sl, .bool s6, .int .u64 dh, .int .u64 dl, .int .i64 sp, .int .i64 dp] from by rw [hw1, hg]; exact (Blk.new w _ _).below ((Below.refl _ _).alloc (Nat.le_refl _) _) (Blk.new w _ _).lt)
  have H1 := Lib.hid (show Blk w1 h 26 #[.bool s6, .int .u64 fh, .int .u64 fl] from by
    have h9 := Blk.new (w.alloc (.cells #[.int .i64 17, .bool s6, .int .u64 sh, .int .u64 sl, .bool s6, .int .u64 dh, .int .u64 dl, .int .i64 sp, .int .i64 dp] 48)) 26 #[.bool s6, .int .u64 fh, .int .u64 fl]
    rw [← hw1] at h9
    rw [hh]
    simpa using h9)
  have HV := Lib.hid Try.underlying48
  have HA := Lib.hid Try.underlying26
  have HIT := Lib.hid tp_size
  have HIA := Lib.hid (show (Try.prog.info? 26).map (·.size) = some 3 from by kernel_rfl)
  clear hw1 hg hh
  go_enter Try.func8, Try.ntmps8
  go_upto_region 1 with fail
  rw [← E1.out, ← EH.out, ← EG.out]
  have D0 := Lib.hid ((Below.refl w1.heap.size w1).drew)
  have HS_ := Lib.hid (show ∀ W, Below w1.heap.size w1 W → W.rangeAt g 0 (#[.int .i64 17, .bool s6, .int .u64 sh, .int .u64 sl, .bool s6, .int .u64 dh, .int .u64 dl, .int .i64 sp, .int .i64 dp] : Array Value).toList from fun W hW => range_blk (K1.out.below hW K1.out.lt))
  have s0 := HS_.out w1.drew D0.out
  refine wp_region_held_drew (S := fun V => V.rangeAt g 0 (#[.int .i64 17, .bool s6, .int .u64 sh, .int .u64 sl, .bool s6, .int .u64 dh, .int .u64 dl, .int .i64 sp, .int .i64 dp] : Array Value).toList) (by kernel_rfl) s0 (fun hHeld => ?_)
  refine wpAnyH_take (i := 0) (v := .agg #[.int .i64 17, .bool s6, .int .u64 sh, .int .u64 sl, .bool s6, .int .u64 dh, .int .u64 dl, .int .i64 sp, .int .i64 dp]) rfl (by kernel_rfl) (by kernel_rfl) (by kernel_rfl) (fun _ _ _ h => h) (yieldsIf_load_mid (by rfl) _ _ rfl g 0 rfl (#[.int .i64 17, .bool s6, .int .u64 sh, .int .u64 sl, .bool s6, .int .u64 dh, .int .u64 dl, .int .i64 sp, .int .i64 dp] : Array Value).toList _ (fun _ h => h) HV.out rfl (by first | exact HIT.out | kernel_rfl)) (by assumption) ?_
  try simp only [List.getElem_toArray, List.getElem_cons_zero, Act.put, List.setIfInBounds_toArray, List.set_cons_zero, List.set_cons_succ]
  refine wpAnyH_take (i := 1) (v := .slice A n0 c) rfl (by kernel_rfl) (by kernel_rfl) (by kernel_rfl) (fun _ _ _ h => h) (Or.inl ⟨by rfl, ?_⟩) (by assumption) ?_
  · intro V hV
    go_simp
  try simp only [List.getElem_toArray, List.getElem_cons_zero, List.getElem_cons_succ, Act.put, List.setIfInBounds_toArray, List.set_cons_zero, List.set_cons_succ]
  refine wpAnyH_ready (rs := [2]) (by kernel_rfl) (by simp) ?_
  refine AllReadyH.cons rfl (fun K hK => ?_) AllReadyH.nil
  go_simp
  go_at_call 27
  (with_reducible refine (HC.out _).mono ?_)
  rintro o w' ⟨rfl, rfl⟩
  refine hK.out _ _ ?_ (fun hHeld => ?_)
  · exact s0
  clear hK K
  try simp only [List.getElem_toArray, List.getElem_cons_zero, List.getElem_cons_succ, Act.put, List.setIfInBounds_toArray, List.set_cons_zero, List.set_cons_succ]
  refine wpAnyH_ready (rs := [3]) (by kernel_rfl) (by simp) ?_
  refine AllReadyH.cons rfl (fun K hK => ?_) AllReadyH.nil
  go_simp
  go_at_call 33
  (with_reducible refine (HD.out _ (B1.out.trans (D0.out.mono B1.out.size))).mono ?_)
  rintro o w2 ⟨hb2, A2, n2, c2, rfl, hs2⟩
  have D1 := Lib.hid (D0.out.trans (hb2.mono D0.out.size))
  have s1 := HS_.out w2 D1.out
  have S2 := Lib.hid hs2
  clear hb2 hs2
  refine hK.out _ _ ?_ (fun hHeld => ?_)
  · exact s1
  clear hK K
  try simp only [List.getElem_toArray, List.getElem_cons_zero, List.getElem_cons_succ, Act.put, List.setIfInBounds_toArray, List.set_cons_zero, List.set_cons_succ]
  refine wpAnyH_take (i := 4) (v := .tuple #[.slice A2 n2 c2, .int .i64 0]) rfl (by kernel_rfl) (by kernel_rfl) (by kernel_rfl) (fun _ _ _ h => h) (Or.inl ⟨by rfl, ?_⟩) (by assumption) ?_
  · intro V hV
    go_simp
  try simp only [List.getElem_toArray, List.getElem_cons_zero, List.getElem_cons_succ, Act.put, List.setIfInBounds_toArray, List.set_cons_zero, List.set_cons_succ]
  refine wpAnyH_take (i := 5) (v := .slice A2 n2 c2) rfl (by kernel_rfl) (by kernel_rfl) (by kernel_rfl) (fun _ _ _ h => h) (Or.inl ⟨by rfl, ?_⟩) (by assumption) ?_
  · intro V hV
    go_simp
  try simp only [List.getElem_toArray, List.getElem_cons_zero, List.getElem_cons_succ, Act.put, List.setIfInBounds_toArray, List.set_cons_zero, List.set_cons_succ]
  refine wpAnyH_take (i := 6) (v := .int .i64 0) rfl (by kernel_rfl) (by kernel_rfl) (by kernel_rfl) (fun _ _ _ h => h) (Or.inl ⟨by rfl, ?_⟩) (by assumption) ?_
  · intro V hV
    go_simp
  try simp only [List.getElem_toArray, List.getElem_cons_zero, List.getElem_cons_succ, Act.put, List.setIfInBounds_toArray, List.set_cons_zero, List.set_cons_succ]
  refine wpAnyH_take (i := 7) (v := .slice A2 n2 c2) rfl (by kernel_rfl) (by kernel_rfl) (by kernel_rfl) (fun _ _ _ h => h) (Or.inl ⟨by rfl, ?_⟩) (by assumption) ?_
  · intro V hV
    go_simp
  try simp only [List.getElem_toArray, List.getElem_cons_zero, List.getElem_cons_succ, Act.put, List.setIfInBounds_toArray, List.set_cons_zero, List.set_cons_succ]
  refine wpAnyH_take (i := 8) (v := .int .i64 0) rfl (by kernel_rfl) (by kernel_rfl) (by kernel_rfl) (fun _ _ _ h => h) (Or.inl ⟨by rfl, ?_⟩) (by assumption) ?_
  · intro V hV
    go_simp
  try simp only [List.getElem_toArray, List.getElem_cons_zero, List.getElem_cons_succ, Act.put, List.setIfInBounds_toArray, List.set_cons_zero, List.set_cons_succ]
  refine wpAnyH_done (by kernel_rfl) ?_ _
  have K2 := Lib.hid (K1.out.below D1.out K1.out.lt)
  have H2 := Lib.hid (H1.out.below D1.out H1.out.lt)
  have B2 := Lib.hid (B1.out.trans (D1.out.mono B1.out.size))
  clear s0 s1 hHeld
  have x0 := H2.out.cell 0
  have x1 := H2.out.cell 1
  have x2 := H2.out.cell 2
  go_wp2_with fail
  refine (HU.out _ _ _ _ S2.out).mono ?_
  rintro o w3 ⟨hb3, A3, n3, c3, rfl, hs3⟩
  have K3 := Lib.hid (K2.out.below hb3 K2.out.lt)
  have H3 := Lib.hid (H2.out.below hb3 H2.out.lt)
  have B3 := Lib.hid (B2.out.trans (hb3.mono B2.out.size))
  clear x0 x1 x2
  have x0 := H3.out.cell 0
  have x1 := H3.out.cell 1
  have x2 := H3.out.cell 2
  have y1 := K3.out.cell 1
  obtain rfl : n3 = 0 := by have := hs3.len; simpa using this.symm
  clear hb3 hs3
  go_upto_region 7 with fail
  go_cut [74] (fun v wx => v = .bool true ∧ wx = w3)
  case first =>
    have hno := HNO.out
    unfold okE at hno
    by_cases a1 : ttl < 0
    · have t1 : decide (ttl < 0) = true := decide_eq_true a1
      clear hno a1
      go_wp2_with fail
      go_meet
      exact ⟨rfl, rfl⟩
    · have t1 : decide (ttl < 0) = false := decide_eq_false a1
      by_cases a2 : 255 < ttl
      · have t2 : decide (255 < ttl) = true := decide_eq_true a2
        clear hno a1 a2
        go_wp2_with fail
        go_meet
        exact ⟨rfl, rfl⟩
      · have t2 : decide (255 < ttl) = false := decide_eq_false a2
        cases s6 with
        | true => exact absurd ⟨⟨by omega, by omega⟩, .inl rfl⟩ hno
        | false =>
          by_cases a3 : fh = 0
          · have t3 : (fh != 0) = false := by simp [a3]
            have a4 : ¬ fl < 4294967296 := fun a => hno ⟨⟨by omega, by omega⟩, .inr ⟨a3, a⟩⟩
            have t4 : decide (4294967296 ≤ fl) = true := decide_eq_true (by omega)
            have t5 : decide (fl < 4294967296) = false := decide_eq_false a4
            clear hno a1 a2 a3
            go_wp2_with fail
            go_meet
            exact ⟨rfl, rfl⟩
          · have t3 : (fh != 0) = true := by simp [a3]
            clear hno a1 a2 a3
            go_wp2_with fail
            go_meet
            exact ⟨rfl, rfl⟩
  case rest =>
  obtain ⟨rfl, hwc⟩ := hcut
  rw [hwc]
  clear hwc wc
  go_wp2_with fail
  refine (HAW.out _).mono ?_
  rintro o w9 ⟨rfl, hb9⟩
  have B9 := B3.out.trans (hb9.mono B3.out.size)
  go_wp2_with fail
  go_ret
  exact ⟨rfl, B9⟩
set_option maxHeartbeats 8000000 in
set_option maxRecDepth 100000 in
theorem tells_S (s6 : Bool) (sh sl dh dl sp dp : Int) (fh fl ttl most : Int) (A : Option Addr) (n0 n c : Nat) (w : World) (B X : List Int) (hok : okE s6 fh fl ttl) (sz : Nat) (hsz : sz = if s6 = true then 40 else 20) (Y : Array Value) (ys : Y.size = 23) (yo : Y.all (·.oneCell') = true) (gg : Int) (hg : gg = 0 ∨ gg = 2) (hm : most < (sz : Int) + 8)
    (HC : Hid (∀ W, Calls Try.prog 27 #[.slice A n0 c] W fun o w' => o = .returned (.slice A n c) ∧ W = w'))
    (HD : Hid (∀ V, Below w.heap.size w V → Calls Try.prog 33 #[.agg #[.int .i64 17, .bool s6, .int .u64 sh, .int .u64 sl, .bool s6, .int .u64 dh, .int .u64 dl, .int .i64 sp, .int .i64 dp], .int .i64 64, .slice A n c] V (MkP 0 B V)))
    (HU : Hid (∀ V A2 n2 c2, Sl V A2 n2 c2 B → Calls Try.prog 36 #[.agg #[.bool s6, .int .u64 fh, .int .u64 fl], .int .i64 ttl, .slice A2 n2 c2, .int .i64 most] V (MkP 0 X V)))
    (HPX : Hid (∀ V A2 n2 c2, Sl V A2 n2 c2 X → Calls Try.prog 28 #[.slice A2 n2 c2] V fun o w' => o = .returned (.tuple #[.agg Y, .int .i64 gg]) ∧ Below V.heap.size V w')) :
    Calls Try.prog 8 #[.agg #[.int .i64 17, .bool s6, .int .u64 sh, .int .u64 sl, .bool s6, .int .u64 dh, .int .u64 dl, .int .i64 sp, .int .i64 dp], .agg #[.bool s6, .int .u64 fh, .int .u64 fl], .int .i64 ttl, .slice A n0 c, .int .i64 most] w fun o w' => o = .returned (.bool true) ∧ Below w.heap.size w w' := by
  have tf : (s6 == s6) = true := by simp
  have HOK := Lib.hid hok
  have HSZ := Lib.hid hsz
  have HMO := Lib.hid hm
  clear hok hsz hm
  have ONE := Lib.hid yo
  have HIY := Lib.hid (show (Try.prog.info? 58).map (·.size) = some Y.size from by rw [ys]; exact pk_size)
  have ZY := Lib.hid (show (#[.bool false, .int .i64 0, .bool false, .int .u64 0, .int .u64 0, .bool false, .int .u64 0, .int .u64 0, .int .i64 0, .int .i64 0, .int .i64 0, .int .i64 0, .bool false, .int .i64 0, .bool false, .int .u64 0, .int .u64 0, .bool false, .int .u64 0, .int .u64 0, .int .i64 0, .int .i64 0, .int .i64 0] : Array Value).size = Y.size from by rw [ys]; rfl)
  have HG := Lib.hid hg
  clear yo ys hg
  have HAW := Lib.hid awake_any
  obtain ⟨w1, hw1⟩ : ∃ w1, w1 = (w.alloc (.cells #[.int .i64 17, .bool s6, .int .u64 sh, .int .u64 sl, .bool s6, .int .u64 dh, .int .u64 dl, .int .i64 sp, .int .i64 dp] 48)).alloc (.cells #[.bool s6, .int .u64 fh, .int .u64 fl] 26) := ⟨_, rfl⟩
  have E1 := Lib.hid hw1
  have B1 := Lib.hid (show Below w.heap.size w w1 from by rw [hw1]; exact ((Below.refl _ _).alloc (Nat.le_refl _) _).alloc (by simp) _)
  obtain ⟨g, hg⟩ : ∃ g, g = w.heap.size := ⟨_, rfl⟩
  obtain ⟨h, hh⟩ : ∃ h, h = w.heap.size + 1 := ⟨_, rfl⟩
  have EG := Lib.hid hg
  have EH := Lib.hid hh
  have K1 := Lib.hid (show Blk w1 g 48 #[.int .i64 17, .bool s6, .int .u64 sh, .int .u64 sl, .bool s6, .int .u64 dh, .int .u64 dl, .int .i64 sp, .int .i64 dp] from by rw [hw1, hg]; exact (Blk.new w _ _).below ((Below.refl _ _).alloc (Nat.le_refl _) _) (Blk.new w _ _).lt)
  have H1 := Lib.hid (show Blk w1 h 26 #[.bool s6, .int .u64 fh, .int .u64 fl] from by
    have h9 := Blk.new (w.alloc (.cells #[.int .i64 17, .bool s6, .int .u64 sh, .int .u64 sl, .bool s6, .int .u64 dh, .int .u64 dl, .int .i64 sp, .int .i64 dp] 48)) 26 #[.bool s6, .int .u64 fh, .int .u64 fl]
    rw [← hw1] at h9
    rw [hh]
    simpa using h9)
  have HV := Lib.hid Try.underlying48
  have HA := Lib.hid Try.underlying26
  have HIT := Lib.hid tp_size
  have HIA := Lib.hid (show (Try.prog.info? 26).map (·.size) = some 3 from by kernel_rfl)
  clear hw1 hg hh
  go_enter Try.func8, Try.ntmps8
  go_upto_region 1 with fail
  rw [← E1.out, ← EH.out, ← EG.out]
  have D0 := Lib.hid ((Below.refl w1.heap.size w1).drew)
  have HS_ := Lib.hid (show ∀ W, Below w1.heap.size w1 W → W.rangeAt g 0 (#[.int .i64 17, .bool s6, .int .u64 sh, .int .u64 sl, .bool s6, .int .u64 dh, .int .u64 dl, .int .i64 sp, .int .i64 dp] : Array Value).toList from fun W hW => range_blk (K1.out.below hW K1.out.lt))
  have s0 := HS_.out w1.drew D0.out
  refine wp_region_held_drew (S := fun V => V.rangeAt g 0 (#[.int .i64 17, .bool s6, .int .u64 sh, .int .u64 sl, .bool s6, .int .u64 dh, .int .u64 dl, .int .i64 sp, .int .i64 dp] : Array Value).toList) (by kernel_rfl) s0 (fun hHeld => ?_)
  refine wpAnyH_take (i := 0) (v := .agg #[.int .i64 17, .bool s6, .int .u64 sh, .int .u64 sl, .bool s6, .int .u64 dh, .int .u64 dl, .int .i64 sp, .int .i64 dp]) rfl (by kernel_rfl) (by kernel_rfl) (by kernel_rfl) (fun _ _ _ h => h) (yieldsIf_load_mid (by rfl) _ _ rfl g 0 rfl (#[.int .i64 17, .bool s6, .int .u64 sh, .int .u64 sl, .bool s6, .int .u64 dh, .int .u64 dl, .int .i64 sp, .int .i64 dp] : Array Value).toList _ (fun _ h => h) HV.out rfl (by first | exact HIT.out | kernel_rfl)) (by assumption) ?_
  try simp only [List.getElem_toArray, List.getElem_cons_zero, Act.put, List.setIfInBounds_toArray, List.set_cons_zero, List.set_cons_succ]
  refine wpAnyH_take (i := 1) (v := .slice A n0 c) rfl (by kernel_rfl) (by kernel_rfl) (by kernel_rfl) (fun _ _ _ h => h) (Or.inl ⟨by rfl, ?_⟩) (by assumption) ?_
  · intro V hV
    go_simp
  try simp only [List.getElem_toArray, List.getElem_cons_zero, List.getElem_cons_succ, Act.put, List.setIfInBounds_toArray, List.set_cons_zero, List.set_cons_succ]
  refine wpAnyH_ready (rs := [2]) (by kernel_rfl) (by simp) ?_
  refine AllReadyH.cons rfl (fun K hK => ?_) AllReadyH.nil
  go_simp
  go_at_call 27
  (with_reducible refine (HC.out _).mono ?_)
  rintro o w' ⟨rfl, rfl⟩
  refine hK.out _ _ ?_ (fun hHeld => ?_)
  · exact s0
  clear hK K
  try simp only [List.getElem_toArray, List.getElem_cons_zero, List.getElem_cons_succ, Act.put, List.setIfInBounds_toArray, List.set_cons_zero, List.set_cons_succ]
  refine wpAnyH_ready (rs := [3]) (by kernel_rfl) (by simp) ?_
  refine AllReadyH.cons rfl (fun K hK => ?_) AllReadyH.nil
  go_simp
  go_at_call 33
  (with_reducible refine (HD.out _ (B1.out.trans (D0.out.mono B1.out.size))).mono ?_)
  rintro o w2 ⟨hb2, A2, n2, c2, rfl, hs2⟩
  have D1 := Lib.hid (D0.out.trans (hb2.mono D0.out.size))
  have s1 := HS_.out w2 D1.out
  have S2 := Lib.hid hs2
  clear hb2 hs2
  refine hK.out _ _ ?_ (fun hHeld => ?_)
  · exact s1
  clear hK K
  try simp only [List.getElem_toArray, List.getElem_cons_zero, List.getElem_cons_succ, Act.put, List.setIfInBounds_toArray, List.set_cons_zero, List.set_cons_succ]
  refine wpAnyH_take (i := 4) (v := .tuple #[.slice A2 n2 c2, .int .i64 0]) rfl (by kernel_rfl) (by kernel_rfl) (by kernel_rfl) (fun _ _ _ h => h) (Or.inl ⟨by rfl, ?_⟩) (by assumption) ?_
  · intro V hV
    go_simp
  try simp only [List.getElem_toArray, List.getElem_cons_zero, List.getElem_cons_succ, Act.put, List.setIfInBounds_toArray, List.set_cons_zero, List.set_cons_succ]
  refine wpAnyH_take (i := 5) (v := .slice A2 n2 c2) rfl (by kernel_rfl) (by kernel_rfl) (by kernel_rfl) (fun _ _ _ h => h) (Or.inl ⟨by rfl, ?_⟩) (by assumption) ?_
  · intro V hV
    go_simp
  try simp only [List.getElem_toArray, List.getElem_cons_zero, List.getElem_cons_succ, Act.put, List.setIfInBounds_toArray, List.set_cons_zero, List.set_cons_succ]
  refine wpAnyH_take (i := 6) (v := .int .i64 0) rfl (by kernel_rfl) (by kernel_rfl) (by kernel_rfl) (fun _ _ _ h => h) (Or.inl ⟨by rfl, ?_⟩) (by assumption) ?_
  · intro V hV
    go_simp
  try simp only [List.getElem_toArray, List.getElem_cons_zero, List.getElem_cons_succ, Act.put, List.setIfInBounds_toArray, List.set_cons_zero, List.set_cons_succ]
  refine wpAnyH_take (i := 7) (v := .slice A2 n2 c2) rfl (by kernel_rfl) (by kernel_rfl) (by kernel_rfl) (fun _ _ _ h => h) (Or.inl ⟨by rfl, ?_⟩) (by assumption) ?_
  · intro V hV
    go_simp
  try simp only [List.getElem_toArray, List.getElem_cons_zero, List.getElem_cons_succ, Act.put, List.setIfInBounds_toArray, List.set_cons_zero, List.set_cons_succ]
  refine wpAnyH_take (i := 8) (v := .int .i64 0) rfl (by kernel_rfl) (by kernel_rfl) (by kernel_rfl) (fun _ _ _ h => h) (Or.inl ⟨by rfl, ?_⟩) (by assumption) ?_
  · intro V hV
    go_simp
  try simp only [List.getElem_toArray, List.getElem_cons_zero, List.getElem_cons_succ, Act.put, List.setIfInBounds_toArray, List.set_cons_zero, List.set_cons_succ]
  refine wpAnyH_done (by kernel_rfl) ?_ _
  have K2 := Lib.hid (K1.out.below D1.out K1.out.lt)
  have H2 := Lib.hid (H1.out.below D1.out H1.out.lt)
  have B2 := Lib.hid (B1.out.trans (D1.out.mono B1.out.size))
  clear s0 s1 hHeld
  have x0 := H2.out.cell 0
  have x1 := H2.out.cell 1
  have x2 := H2.out.cell 2
  go_wp2_with fail
  refine (HU.out _ _ _ _ S2.out).mono ?_
  rintro o w3 ⟨hb3, A3, n3, c3, rfl, hs3⟩
  have K3 := Lib.hid (K2.out.below hb3 K2.out.lt)
  have H3 := Lib.hid (H2.out.below hb3 H2.out.lt)
  have B3 := Lib.hid (B2.out.trans (hb3.mono B2.out.size))
  clear x0 x1 x2
  have x0 := H3.out.cell 0
  have x1 := H3.out.cell 1
  have x2 := H3.out.cell 2
  have y1 := K3.out.cell 1
  have S3 := Lib.hid hs3
  clear hb3 hs3
  go_upto_region 7 with fail
  go_cut [74] (fun v wx => v = .bool false ∧ wx = w3)
  case first =>
    obtain ⟨⟨a1, a2⟩, a3⟩ := HOK.out
    have t1 : decide (ttl < 0) = false := decide_eq_false (by omega)
    have t2 : decide (255 < ttl) = false := decide_eq_false (by omega)
    cases s6 with
    | true =>
      clear a1 a2 a3
      go_wp2_with fail
      go_meet
      exact ⟨rfl, rfl⟩
    | false =>
      have a4 : fh = 0 ∧ fl < 4294967296 := by
        rcases a3 with a3 | a3
        · cases a3
        · exact a3
      have t3 : (fh != 0) = false := by simp [a4.1]
      have t4 : decide (4294967296 ≤ fl) = false := decide_eq_false (by omega)
      have t5 : decide (fl < 4294967296) = true := decide_eq_true a4.2
      clear a1 a2 a3 a4
      go_wp2_with fail
      go_meet
      exact ⟨rfl, rfl⟩
  case rest =>
  obtain ⟨rfl, hwc⟩ := hcut
  rw [hwc]
  clear hwc wc
  go_wp2_with fail
  refine (HPX.out _ _ _ _ S3.out).mono ?_
  rintro o w4 ⟨rfl, hb4⟩
  obtain ⟨w5, hw5⟩ : ∃ w5, w5 = (w4.alloc (.cells #[.bool false, .int .i64 0, .bool false, .int .u64 0, .int .u64 0, .bool false, .int .u64 0, .int .u64 0, .int .i64 0, .int .i64 0, .int .i64 0, .int .i64 0, .bool false, .int .i64 0, .bool false, .int .u64 0, .int .u64 0, .bool false, .int .u64 0, .int .u64 0, .int .i64 0, .int .i64 0, .int .i64 0] 58)).setRow w4.heap.size Y := ⟨_, rfl⟩
  have E5 := Lib.hid hw5
  have B45 := Lib.hid (show Below w4.heap.size w4 w5 from by rw [hw5]; exact (onlyRow _).from ((Below.refl _ _).alloc (Nat.le_refl _) _) (Nat.le_refl _))
  have B35 := Lib.hid (hb4.trans (B45.out.mono hb4.size))
  have K5 := Lib.hid (K3.out.below B35.out K3.out.lt)
  have H5 := Lib.hid (H3.out.below B35.out H3.out.lt)
  have L5 := Lib.hid (show Blk w5 w4.heap.size 58 Y from by rw [hw5]; exact blkRow (Blk.new w4 _ _) _)
  have S5 := Lib.hid (S3.out.below B35.out)
  have B5 := Lib.hid (B3.out.trans (B35.out.mono B3.out.size))
  clear hw5 hb4 x0 x1 x2 y1
  have x0 := H5.out.cell 0
  go_upto_region 13 with (refine wpList_store_row rfl 58 _ _ rfl w4.heap.size Y rfl rfl 58 #[.bool false, .int .i64 0, .bool false, .int .u64 0, .int .u64 0, .bool false, .int .u64 0, .int .u64 0, .int .i64 0, .int .i64 0, .int .i64 0, .int .i64 0, .bool false, .int .i64 0, .bool false, .int .u64 0, .int .u64 0, .bool false, .int .u64 0, .int .u64 0, .int .i64 0, .int .i64 0, .int .i64 0] (Blk.new w4 _ _) HIY.out ZY.out ONE.out ?_)
  rw [← E5.out]
  go_upto_if 93 with fail
  go_cut [17] (fun v wx => v = .int .i64 (sz : Int) ∧ wx = w5)
  case first =>
    have hz := HSZ.out
    cases s6 with
    | true =>
      rw [if_pos rfl] at hz
      go_wp2_with fail
      go_meet
      exact ⟨by rw [hz]; rfl, rfl⟩
    | false =>
      rw [if_neg (by decide)] at hz
      go_wp2_with fail
      go_meet
      exact ⟨by rw [hz]; rfl, rfl⟩
  case rest =>
  obtain ⟨rfl, hwc⟩ := hcut
  rw [hwc]
  clear hwc wc x0
  have hz40 : sz ≤ 40 := by rw [HSZ.out]; split <;> omega
  have k1 : IntKind.i64.wrap ((sz : Int) + 8) = (sz : Int) + 8 := IntWalk.i64_in _ (by omega)
  have tm : decide (most < (sz : Int) + 8) = true := decide_eq_true HMO.out
  clear hz40
  have hg := HG.out
  rcases hg with rfl | rfl
  · go_wp2_with fail
    refine (HAW.out _).mono ?_
    rintro o w9 ⟨rfl, hb9⟩
    have B9 := B5.out.trans (hb9.mono B5.out.size)
    go_wp2_with fail
    go_ret
    exact ⟨rfl, B9⟩
  · go_wp2_with fail
    refine (HAW.out _).mono ?_
    rintro o w9 ⟨rfl, hb9⟩
    have B9 := B5.out.trans (hb9.mono B5.out.size)
    go_wp2_with fail
    go_ret
    exact ⟨rfl, B9⟩
set_option maxHeartbeats 8000000 in
set_option maxRecDepth 100000 in
theorem tells_G (s6 : Bool) (sh sl dh dl sp dp : Int) (fh fl ttl most : Int) (A : Option Addr) (n0 n c : Nat) (w : World) (B X : List Int) (hok : okE s6 fh fl ttl) (sz : Nat) (hsz : sz = if s6 = true then 40 else 20) (ipr xz : Int) (hm : ¬ most < (sz : Int) + 8)
    (HC : Hid (∀ W, Calls Try.prog 27 #[.slice A n0 c] W fun o w' => o = .returned (.slice A n c) ∧ W = w'))
    (HD : Hid (∀ V, Below w.heap.size w V → Calls Try.prog 33 #[.agg #[.int .i64 17, .bool s6, .int .u64 sh, .int .u64 sl, .bool s6, .int .u64 dh, .int .u64 dl, .int .i64 sp, .int .i64 dp], .int .i64 64, .slice A n c] V (MkP 0 B V)))
    (HU : Hid (∀ V A2 n2 c2, Sl V A2 n2 c2 B → Calls Try.prog 36 #[.agg #[.bool s6, .int .u64 fh, .int .u64 fl], .int .i64 ttl, .slice A2 n2 c2, .int .i64 most] V (MkP 0 X V)))
    (HPX : Hid (∀ V A2 n2 c2, Sl V A2 n2 c2 X → Calls Try.prog 28 #[.slice A2 n2 c2] V fun o w' => o = .returned (.tuple #[.agg #[.bool s6, .int .i64 ipr, .bool s6, .int .u64 fh, .int .u64 fl, .bool s6, .int .u64 sh, .int .u64 sl, .int .i64 0, .int .i64 0, .int .i64 ttl, .int .i64 0, .bool true, .int .i64 17, .bool s6, .int .u64 dh, .int .u64 dl, .bool s6, .int .u64 sh, .int .u64 sl, .int .i64 dp, .int .i64 sp, .int .i64 xz], .int .i64 0]) ∧ Below V.heap.size V w'))
    (HU2 : Hid (∀ V A2 n2 c2, Sl V A2 n2 c2 X → Calls Try.prog 36 #[.agg #[.bool s6, .int .u64 fh, .int .u64 fl], .int .i64 ttl, .slice A2 n2 c2, .int .i64 most] V (MkP 1 [] V))) :
    Calls Try.prog 8 #[.agg #[.int .i64 17, .bool s6, .int .u64 sh, .int .u64 sl, .bool s6, .int .u64 dh, .int .u64 dl, .int .i64 sp, .int .i64 dp], .agg #[.bool s6, .int .u64 fh, .int .u64 fl], .int .i64 ttl, .slice A n0 c, .int .i64 most] w fun o w' => o = .returned (.bool true) ∧ Below w.heap.size w w' := by
  have tf : (s6 == s6) = true := by simp
  have HOK := Lib.hid hok
  have HSZ := Lib.hid hsz
  have HMO := Lib.hid hm
  clear hok hsz hm
  obtain ⟨Y, hY⟩ : ∃ Y : Array Value, Y = #[.bool s6, .int .i64 ipr, .bool s6, .int .u64 fh, .int .u64 fl, .bool s6, .int .u64 sh, .int .u64 sl, .int .i64 0, .int .i64 0, .int .i64 ttl, .int .i64 0, .bool true, .int .i64 17, .bool s6, .int .u64 dh, .int .u64 dl, .bool s6, .int .u64 sh, .int .u64 sl, .int .i64 dp, .int .i64 sp, .int .i64 xz] := ⟨_, rfl⟩
  have ys : Y.size = 23 := by rw [hY]; rfl
  have ONE := Lib.hid (show Y.all (·.oneCell') = true from by rw [hY]; simp [Value.oneCell'])
  have HIY := Lib.hid (show (Try.prog.info? 58).map (·.size) = some Y.size from by rw [ys]; exact pk_size)
  have ZY := Lib.hid (show (#[.bool false, .int .i64 0, .bool false, .int .u64 0, .int .u64 0, .bool false, .int .u64 0, .int .u64 0, .int .i64 0, .int .i64 0, .int .i64 0, .int .i64 0, .bool false, .int .i64 0, .bool false, .int .u64 0, .int .u64 0, .bool false, .int .u64 0, .int .u64 0, .int .i64 0, .int .i64 0, .int .i64 0] : Array Value).size = Y.size from by rw [ys]; rfl)
  have HKY := Lib.hid (show ∀ V : World, Calls Try.prog 30 #[.agg Y] V fun o w' => o = .returned (.agg #[.int .i64 17, .bool s6, .int .u64 dh, .int .u64 dl, .bool s6, .int .u64 sh, .int .u64 sl, .int .i64 dp, .int .i64 sp]) ∧ Below V.heap.size V w' from fun V => by rw [hY]; exact key_any ⟨s6, ⟨ipr, s6, fh, fl, s6, sh, sl, 0, 0⟩, ttl, 0, true, ⟨17, s6, dh, dl, s6, sh, sl, dp, sp⟩, xz⟩ V)
  have HBK := Lib.hid (fun V : World => icmpA.back_any 17 s6 sh sl s6 dh dl sp dp V)
  rw [← hY] at HPX
  have HY := Lib.hid hY
  clear hY ys
  have HAW := Lib.hid awake_any
  obtain ⟨w1, hw1⟩ : ∃ w1, w1 = (w.alloc (.cells #[.int .i64 17, .bool s6, .int .u64 sh, .int .u64 sl, .bool s6, .int .u64 dh, .int .u64 dl, .int .i64 sp, .int .i64 dp] 48)).alloc (.cells #[.bool s6, .int .u64 fh, .int .u64 fl] 26) := ⟨_, rfl⟩
  have E1 := Lib.hid hw1
  have B1 := Lib.hid (show Below w.heap.size w w1 from by rw [hw1]; exact ((Below.refl _ _).alloc (Nat.le_refl _) _).alloc (by simp) _)
  obtain ⟨g, hg⟩ : ∃ g, g = w.heap.size := ⟨_, rfl⟩
  obtain ⟨h, hh⟩ : ∃ h, h = w.heap.size + 1 := ⟨_, rfl⟩
  have EG := Lib.hid hg
  have EH := Lib.hid hh
  have K1 := Lib.hid (show Blk w1 g 48 #[.int .i64 17, .bool s6, .int .u64 sh, .int .u64 sl, .bool s6, .int .u64 dh, .int .u64 dl, .int .i64 sp, .int .i64 dp] from by rw [hw1, hg]; exact (Blk.new w _ _).below ((Below.refl _ _).alloc (Nat.le_refl _) _) (Blk.new w _ _).lt)
  have H1 := Lib.hid (show Blk w1 h 26 #[.bool s6, .int .u64 fh, .int .u64 fl] from by
    have h9 := Blk.new (w.alloc (.cells #[.int .i64 17, .bool s6, .int .u64 sh, .int .u64 sl, .bool s6, .int .u64 dh, .int .u64 dl, .int .i64 sp, .int .i64 dp] 48)) 26 #[.bool s6, .int .u64 fh, .int .u64 fl]
    rw [← hw1] at h9
    rw [hh]
    simpa using h9)
  have HV := Lib.hid Try.underlying48
  have HA := Lib.hid Try.underlying26
  have HIT := Lib.hid tp_size
  have HIA := Lib.hid (show (Try.prog.info? 26).map (·.size) = some 3 from by kernel_rfl)
  clear hw1 hg hh
  go_enter Try.func8, Try.ntmps8
  go_upto_region 1 with fail
  rw [← E1.out, ← EH.out, ← EG.out]
  have D0 := Lib.hid ((Below.refl w1.heap.size w1).drew)
  have HS_ := Lib.hid (show ∀ W, Below w1.heap.size w1 W → W.rangeAt g 0 (#[.int .i64 17, .bool s6, .int .u64 sh, .int .u64 sl, .bool s6, .int .u64 dh, .int .u64 dl, .int .i64 sp, .int .i64 dp] : Array Value).toList from fun W hW => range_blk (K1.out.below hW K1.out.lt))
  have s0 := HS_.out w1.drew D0.out
  refine wp_region_held_drew (S := fun V => V.rangeAt g 0 (#[.int .i64 17, .bool s6, .int .u64 sh, .int .u64 sl, .bool s6, .int .u64 dh, .int .u64 dl, .int .i64 sp, .int .i64 dp] : Array Value).toList) (by kernel_rfl) s0 (fun hHeld => ?_)
  refine wpAnyH_take (i := 0) (v := .agg #[.int .i64 17, .bool s6, .int .u64 sh, .int .u64 sl, .bool s6, .int .u64 dh, .int .u64 dl, .int .i64 sp, .int .i64 dp]) rfl (by kernel_rfl) (by kernel_rfl) (by kernel_rfl) (fun _ _ _ h => h) (yieldsIf_load_mid (by rfl) _ _ rfl g 0 rfl (#[.int .i64 17, .bool s6, .int .u64 sh, .int .u64 sl, .bool s6, .int .u64 dh, .int .u64 dl, .int .i64 sp, .int .i64 dp] : Array Value).toList _ (fun _ h => h) HV.out rfl (by first | exact HIT.out | kernel_rfl)) (by assumption) ?_
  try simp only [List.getElem_toArray, List.getElem_cons_zero, Act.put, List.setIfInBounds_toArray, List.set_cons_zero, List.set_cons_succ]
  refine wpAnyH_take (i := 1) (v := .slice A n0 c) rfl (by kernel_rfl) (by kernel_rfl) (by kernel_rfl) (fun _ _ _ h => h) (Or.inl ⟨by rfl, ?_⟩) (by assumption) ?_
  · intro V hV
    go_simp
  try simp only [List.getElem_toArray, List.getElem_cons_zero, List.getElem_cons_succ, Act.put, List.setIfInBounds_toArray, List.set_cons_zero, List.set_cons_succ]
  refine wpAnyH_ready (rs := [2]) (by kernel_rfl) (by simp) ?_
  refine AllReadyH.cons rfl (fun K hK => ?_) AllReadyH.nil
  go_simp
  go_at_call 27
  (with_reducible refine (HC.out _).mono ?_)
  rintro o w' ⟨rfl, rfl⟩
  refine hK.out _ _ ?_ (fun hHeld => ?_)
  · exact s0
  clear hK K
  try simp only [List.getElem_toArray, List.getElem_cons_zero, List.getElem_cons_succ, Act.put, List.setIfInBounds_toArray, List.set_cons_zero, List.set_cons_succ]
  refine wpAnyH_ready (rs := [3]) (by kernel_rfl) (by simp) ?_
  refine AllReadyH.cons rfl (fun K hK => ?_) AllReadyH.nil
  go_simp
  go_at_call 33
  (with_reducible refine (HD.out _ (B1.out.trans (D0.out.mono B1.out.size))).mono ?_)
  rintro o w2 ⟨hb2, A2, n2, c2, rfl, hs2⟩
  have D1 := Lib.hid (D0.out.trans (hb2.mono D0.out.size))
  have s1 := HS_.out w2 D1.out
  have S2 := Lib.hid hs2
  clear hb2 hs2
  refine hK.out _ _ ?_ (fun hHeld => ?_)
  · exact s1
  clear hK K
  try simp only [List.getElem_toArray, List.getElem_cons_zero, List.getElem_cons_succ, Act.put, List.setIfInBounds_toArray, List.set_cons_zero, List.set_cons_succ]
  refine wpAnyH_take (i := 4) (v := .tuple #[.slice A2 n2 c2, .int .i64 0]) rfl (by kernel_rfl) (by kernel_rfl) (by kernel_rfl) (fun _ _ _ h => h) (Or.inl ⟨by rfl, ?_⟩) (by assumption) ?_
  · intro V hV
    go_simp
  try simp only [List.getElem_toArray, List.getElem_cons_zero, List.getElem_cons_succ, Act.put, List.setIfInBounds_toArray, List.set_cons_zero, List.set_cons_succ]
  refine wpAnyH_take (i := 5) (v := .slice A2 n2 c2) rfl (by kernel_rfl) (by kernel_rfl) (by kernel_rfl) (fun _ _ _ h => h) (Or.inl ⟨by rfl, ?_⟩) (by assumption) ?_
  · intro V hV
    go_simp
  try simp only [List.getElem_toArray, List.getElem_cons_zero, List.getElem_cons_succ, Act.put, List.setIfInBounds_toArray, List.set_cons_zero, List.set_cons_succ]
  refine wpAnyH_take (i := 6) (v := .int .i64 0) rfl (by kernel_rfl) (by kernel_rfl) (by kernel_rfl) (fun _ _ _ h => h) (Or.inl ⟨by rfl, ?_⟩) (by assumption) ?_
  · intro V hV
    go_simp
  try simp only [List.getElem_toArray, List.getElem_cons_zero, List.getElem_cons_succ, Act.put, List.setIfInBounds_toArray, List.set_cons_zero, List.set_cons_succ]
  refine wpAnyH_take (i := 7) (v := .slice A2 n2 c2) rfl (by kernel_rfl) (by kernel_rfl) (by kernel_rfl) (fun _ _ _ h => h) (Or.inl ⟨by rfl, ?_⟩) (by assumption) ?_
  · intro V hV
    go_simp
  try simp only [List.getElem_toArray, List.getElem_cons_zero, List.getElem_cons_succ, Act.put, List.setIfInBounds_toArray, List.set_cons_zero, List.set_cons_succ]
  refine wpAnyH_take (i := 8) (v := .int .i64 0) rfl (by kernel_rfl) (by kernel_rfl) (by kernel_rfl) (fun _ _ _ h => h) (Or.inl ⟨by rfl, ?_⟩) (by assumption) ?_
  · intro V hV
    go_simp
  try simp only [List.getElem_toArray, List.getElem_cons_zero, List.getElem_cons_succ, Act.put, List.setIfInBounds_toArray, List.set_cons_zero, List.set_cons_succ]
  refine wpAnyH_done (by kernel_rfl) ?_ _
  have K2 := Lib.hid (K1.out.below D1.out K1.out.lt)
  have H2 := Lib.hid (H1.out.below D1.out H1.out.lt)
  have B2 := Lib.hid (B1.out.trans (D1.out.mono B1.out.size))
  clear s0 s1 hHeld
  have x0 := H2.out.cell 0
  have x1 := H2.out.cell 1
  have x2 := H2.out.cell 2
  go_wp2_with fail
  refine (HU.out _ _ _ _ S2.out).mono ?_
  rintro o w3 ⟨hb3, A3, n3, c3, rfl, hs3⟩
  have K3 := Lib.hid (K2.out.below hb3 K2.out.lt)
  have H3 := Lib.hid (H2.out.below hb3 H2.out.lt)
  have B3 := Lib.hid (B2.out.trans (hb3.mono B2.out.size))
  clear x0 x1 x2
  have x0 := H3.out.cell 0
  have x1 := H3.out.cell 1
  have x2 := H3.out.cell 2
  have y1 := K3.out.cell 1
  have S3 := Lib.hid hs3
  clear hb3 hs3
  go_upto_region 7 with fail
  go_cut [74] (fun v wx => v = .bool false ∧ wx = w3)
  case first =>
    obtain ⟨⟨a1, a2⟩, a3⟩ := HOK.out
    have t1 : decide (ttl < 0) = false := decide_eq_false (by omega)
    have t2 : decide (255 < ttl) = false := decide_eq_false (by omega)
    cases s6 with
    | true =>
      clear a1 a2 a3
      go_wp2_with fail
      go_meet
      exact ⟨rfl, rfl⟩
    | false =>
      have a4 : fh = 0 ∧ fl < 4294967296 := by
        rcases a3 with a3 | a3
        · cases a3
        · exact a3
      have t3 : (fh != 0) = false := by simp [a4.1]
      have t4 : decide (4294967296 ≤ fl) = false := decide_eq_false (by omega)
      have t5 : decide (fl < 4294967296) = true := decide_eq_true a4.2
      clear a1 a2 a3 a4
      go_wp2_with fail
      go_meet
      exact ⟨rfl, rfl⟩
  case rest =>
  obtain ⟨rfl, hwc⟩ := hcut
  rw [hwc]
  clear hwc wc
  go_wp2_with fail
  refine (HPX.out _ _ _ _ S3.out).mono ?_
  rintro o w4 ⟨rfl, hb4⟩
  obtain ⟨w5, hw5⟩ : ∃ w5, w5 = (w4.alloc (.cells #[.bool false, .int .i64 0, .bool false, .int .u64 0, .int .u64 0, .bool false, .int .u64 0, .int .u64 0, .int .i64 0, .int .i64 0, .int .i64 0, .int .i64 0, .bool false, .int .i64 0, .bool false, .int .u64 0, .int .u64 0, .bool false, .int .u64 0, .int .u64 0, .int .i64 0, .int .i64 0, .int .i64 0] 58)).setRow w4.heap.size Y := ⟨_, rfl⟩
  have E5 := Lib.hid hw5
  have B45 := Lib.hid (show Below w4.heap.size w4 w5 from by rw [hw5]; exact (onlyRow _).from ((Below.refl _ _).alloc (Nat.le_refl _) _) (Nat.le_refl _))
  have B35 := Lib.hid (hb4.trans (B45.out.mono hb4.size))
  have K5 := Lib.hid (K3.out.below B35.out K3.out.lt)
  have H5 := Lib.hid (H3.out.below B35.out H3.out.lt)
  have L5 := Lib.hid (show Blk w5 w4.heap.size 58 Y from by rw [hw5]; exact blkRow (Blk.new w4 _ _) _)
  have S5 := Lib.hid (S3.out.below B35.out)
  have B5 := Lib.hid (B3.out.trans (B35.out.mono B3.out.size))
  clear hw5 hb4 x0 x1 x2 y1
  have x0 := H5.out.cell 0
  go_upto_region 13 with (refine wpList_store_row rfl 58 _ _ rfl w4.heap.size Y rfl rfl 58 #[.bool false, .int .i64 0, .bool false, .int .u64 0, .int .u64 0, .bool false, .int .u64 0, .int .u64 0, .int .i64 0, .int .i64 0, .int .i64 0, .int .i64 0, .bool false, .int .i64 0, .bool false, .int .u64 0, .int .u64 0, .bool false, .int .u64 0, .int .u64 0, .int .i64 0, .int .i64 0, .int .i64 0] (Blk.new w4 _ _) HIY.out ZY.out ONE.out ?_)
  rw [← E5.out]
  go_upto_if 93 with fail
  go_cut [17] (fun v wx => v = .int .i64 (sz : Int) ∧ wx = w5)
  case first =>
    have hz := HSZ.out
    cases s6 with
    | true =>
      rw [if_pos rfl] at hz
      go_wp2_with fail
      go_meet
      exact ⟨by rw [hz]; rfl, rfl⟩
    | false =>
      rw [if_neg (by decide)] at hz
      go_wp2_with fail
      go_meet
      exact ⟨by rw [hz]; rfl, rfl⟩
  case rest =>
  obtain ⟨rfl, hwc⟩ := hcut
  rw [hwc]
  clear hwc wc x0
  have hz40 : sz ≤ 40 := by rw [HSZ.out]; split <;> omega
  have k1 : IntKind.i64.wrap ((sz : Int) + 8) = (sz : Int) + 8 := IntWalk.i64_in _ (by omega)
  have tm : decide (most < (sz : Int) + 8) = false := decide_eq_false (by have := HMO.out; omega)
  clear hz40
  have x0 := H5.out.cell 0
  have x1 := H5.out.cell 1
  have x2 := H5.out.cell 2
  go_wp2_with fail
  refine (HU2.out _ _ _ _ S5.out).mono ?_
  rintro o w6 ⟨hb6, A6, n6, c6, rfl, hs6⟩
  have K6 := Lib.hid (K5.out.below hb6 K5.out.lt)
  have H6 := Lib.hid (H5.out.below hb6 H5.out.lt)
  have L6 := Lib.hid (L5.out.below hb6 L5.out.lt)
  have B6 := Lib.hid (B5.out.trans (hb6.mono B5.out.size))
  clear hb6 hs6 x0 x1 x2 HS_ D0 D1
  go_upto_region 18 with fail
  have HU_ := Lib.hid Try.underlying58
  have LY := Lib.hid (show Blk w6 w4.heap.size 58 #[.bool s6, .int .i64 ipr, .bool s6, .int .u64 fh, .int .u64 fl, .bool s6, .int .u64 sh, .int .u64 sl, .int .i64 0, .int .i64 0, .int .i64 ttl, .int .i64 0, .bool true, .int .i64 17, .bool s6, .int .u64 dh, .int .u64 dl, .bool s6, .int .u64 sh, .int .u64 sl, .int .i64 dp, .int .i64 sp, .int .i64 xz] from by rw [← HY.out]; exact L6.out)
  have HS := Lib.hid (show ∀ W, Below w6.heap.size w6 W → (W.rangeAt w4.heap.size 0 Y.toList ∧ W.rangeAt g 0 (#[.int .i64 17, .bool s6, .int .u64 sh, .int .u64 sl, .bool s6, .int .u64 dh, .int .u64 dl, .int .i64 sp, .int .i64 dp] : Array Value).toList ∧ W.rangeAt w4.heap.size 13 (#[.int .i64 17, .bool s6, .int .u64 dh, .int .u64 dl, .bool s6, .int .u64 sh, .int .u64 sl, .int .i64 dp, .int .i64 sp] : Array Value).toList ∧ W.rangeAt w4.heap.size 2 (#[.bool s6, .int .u64 fh, .int .u64 fl] : Array Value).toList ∧ W.rangeAt h 0 (#[.bool s6, .int .u64 fh, .int .u64 fl] : Array Value).toList ∧ W.rangeAt w4.heap.size 5 (#[.bool s6, .int .u64 sh, .int .u64 sl] : Array Value).toList ∧ W.rangeAt g 1 (#[.bool s6, .int .u64 sh, .int .u64 sl] : Array Value).toList ∧ W.cell? ⟨w4.heap.size, 12, none⟩ = some (.bool true) ∧ W.cell? ⟨w4.heap.size, 10, none⟩ = some (.int .i64 ttl)) from fun W hW => by
    have l1 := L6.out.below hW L6.out.lt
    have l2 := LY.out.below hW LY.out.lt
    have l3 := K6.out.below hW K6.out.lt
    have l4 := H6.out.below hW H6.out.lt
    refine ⟨range_blk l1, range_blk l3, range_part l2 13 _ ?_, range_part l2 2 _ ?_, range_blk l4, range_part l2 5 _ ?_, range_part l3 1 _ ?_, l2.cell 12, l2.cell 10⟩
    all_goals
      intro j v hv
      rcases j with _ | _ | _ | _ | _ | _ | _ | _ | _ | j <;> first | exact hv | (simp at hv))
  have D0 := Lib.hid ((Below.refl w6.heap.size w6).drew)
  have s0 := HS.out w6.drew D0.out
  refine wp_region_held_drew (S := fun V => V.rangeAt w4.heap.size 0 Y.toList ∧ V.rangeAt g 0 (#[.int .i64 17, .bool s6, .int .u64 sh, .int .u64 sl, .bool s6, .int .u64 dh, .int .u64 dl, .int .i64 sp, .int .i64 dp] : Array Value).toList ∧ V.rangeAt w4.heap.size 13 (#[.int .i64 17, .bool s6, .int .u64 dh, .int .u64 dl, .bool s6, .int .u64 sh, .int .u64 sl, .int .i64 dp, .int .i64 sp] : Array Value).toList ∧ V.rangeAt w4.heap.size 2 (#[.bool s6, .int .u64 fh, .int .u64 fl] : Array Value).toList ∧ V.rangeAt h 0 (#[.bool s6, .int .u64 fh, .int .u64 fl] : Array Value).toList ∧ V.rangeAt w4.heap.size 5 (#[.bool s6, .int .u64 sh, .int .u64 sl] : Array Value).toList ∧ V.rangeAt g 1 (#[.bool s6, .int .u64 sh, .int .u64 sl] : Array Value).toList ∧ V.cell? ⟨w4.heap.size, 12, none⟩ = some (.bool true) ∧ V.cell? ⟨w4.heap.size, 10, none⟩ = some (.int .i64 ttl)) (by kernel_rfl) s0 (fun hHeld => ?_)
  refine wpAnyH_take (i := 0) (v := .int .i64 0) rfl (by kernel_rfl) (by kernel_rfl) (by kernel_rfl) (fun _ _ _ h => h) (Or.inl ⟨by rfl, ?_⟩) (by assumption) ?_
  · intro V hV
    obtain ⟨_, _, _, _, _, _, _, v1, v2⟩ := hV
    go_simp
  try simp only [List.getElem_toArray, List.getElem_cons_zero, Act.put, List.setIfInBounds_toArray, List.set_cons_zero, List.set_cons_succ]
  refine wpAnyH_take (i := 1) (v := .bool true) rfl (by kernel_rfl) (by kernel_rfl) (by kernel_rfl) (fun _ _ _ h => h) (Or.inl ⟨by rfl, ?_⟩) (by assumption) ?_
  · intro V hV
    obtain ⟨_, _, _, _, _, _, _, v1, v2⟩ := hV
    go_simp
  try simp only [List.getElem_toArray, List.getElem_cons_zero, List.getElem_cons_succ, Act.put, List.setIfInBounds_toArray, List.set_cons_zero, List.set_cons_succ]
  refine wpAnyH_take (i := 2) (v := .bool true) rfl (by kernel_rfl) (by kernel_rfl) (by kernel_rfl) (fun _ _ _ h => h) (Or.inl ⟨by rfl, ?_⟩) (by assumption) ?_
  · intro V hV
    obtain ⟨_, _, _, _, _, _, _, v1, v2⟩ := hV
    go_simp
  try simp only [List.getElem_toArray, List.getElem_cons_zero, List.getElem_cons_succ, Act.put, List.setIfInBounds_toArray, List.set_cons_zero, List.set_cons_succ]
  refine wpAnyH_take (i := 3) (v := .pointer (some ⟨w4.heap.size, 12, none⟩)) rfl (by kernel_rfl) (by kernel_rfl) (by kernel_rfl) (fun _ _ _ h => h) (Or.inl ⟨by rfl, ?_⟩) (by assumption) ?_
  · intro V hV
    obtain ⟨_, _, _, _, _, _, _, v1, v2⟩ := hV
    go_simp
  try simp only [List.getElem_toArray, List.getElem_cons_zero, List.getElem_cons_succ, Act.put, List.setIfInBounds_toArray, List.set_cons_zero, List.set_cons_succ]
  refine wpAnyH_take (i := 4) (v := .bool true) rfl (by kernel_rfl) (by kernel_rfl) (by kernel_rfl) (fun _ _ _ h => h) (Or.inl ⟨by rfl, ?_⟩) (by assumption) ?_
  · intro V hV
    obtain ⟨_, _, _, _, _, _, _, v1, v2⟩ := hV
    go_simp
  try simp only [List.getElem_toArray, List.getElem_cons_zero, List.getElem_cons_succ, Act.put, List.setIfInBounds_toArray, List.set_cons_zero, List.set_cons_succ]
  refine wpAnyH_take (i := 5) (v := .bool true) rfl (by kernel_rfl) (by kernel_rfl) (by kernel_rfl) (fun _ _ _ h => h) (Or.inl ⟨by rfl, ?_⟩) (by assumption) ?_
  · intro V hV
    obtain ⟨_, _, _, _, _, _, _, v1, v2⟩ := hV
    go_simp
  try simp only [List.getElem_toArray, List.getElem_cons_zero, List.getElem_cons_succ, Act.put, List.setIfInBounds_toArray, List.set_cons_zero, List.set_cons_succ]
  refine wpAnyH_take (i := 6) (v := .bool true) rfl (by kernel_rfl) (by kernel_rfl) (by kernel_rfl) (fun _ _ _ h => h) (Or.inl ⟨by rfl, ?_⟩) (by assumption) ?_
  · intro V hV
    obtain ⟨_, _, _, _, _, _, _, v1, v2⟩ := hV
    go_simp
  try simp only [List.getElem_toArray, List.getElem_cons_zero, List.getElem_cons_succ, Act.put, List.setIfInBounds_toArray, List.set_cons_zero, List.set_cons_succ]
  refine wpAnyH_take (i := 7) (v := .pointer (some ⟨w4.heap.size, 13, none⟩)) rfl (by kernel_rfl) (by kernel_rfl) (by kernel_rfl) (fun _ _ _ h => h) (Or.inl ⟨by rfl, ?_⟩) (by assumption) ?_
  · intro V hV
    obtain ⟨_, _, _, _, _, _, _, v1, v2⟩ := hV
    go_simp
  try simp only [List.getElem_toArray, List.getElem_cons_zero, List.getElem_cons_succ, Act.put, List.setIfInBounds_toArray, List.set_cons_zero, List.set_cons_succ]
  refine wpAnyH_take (i := 8) (v := .agg #[.int .i64 17, .bool s6, .int .u64 dh, .int .u64 dl, .bool s6, .int .u64 sh, .int .u64 sl, .int .i64 dp, .int .i64 sp]) rfl (by kernel_rfl) (by kernel_rfl) (by kernel_rfl) (fun _ _ _ h => h) (yieldsIf_load_mid (by rfl) _ _ rfl w4.heap.size 13 rfl (#[.int .i64 17, .bool s6, .int .u64 dh, .int .u64 dl, .bool s6, .int .u64 sh, .int .u64 sl, .int .i64 dp, .int .i64 sp] : Array Value).toList _ (fun _ h => h.2.2.1) HV.out rfl (by first | exact HIT.out | kernel_rfl)) (by assumption) ?_
  try simp only [List.getElem_toArray, List.getElem_cons_zero, List.getElem_cons_succ, Act.put, List.setIfInBounds_toArray, List.set_cons_zero, List.set_cons_succ]
  refine wpAnyH_take (i := 9) (v := .agg #[.int .i64 17, .bool s6, .int .u64 sh, .int .u64 sl, .bool s6, .int .u64 dh, .int .u64 dl, .int .i64 sp, .int .i64 dp]) rfl (by kernel_rfl) (by kernel_rfl) (by kernel_rfl) (fun _ _ _ h => h) (yieldsIf_load_mid (by rfl) _ _ rfl g 0 rfl (#[.int .i64 17, .bool s6, .int .u64 sh, .int .u64 sl, .bool s6, .int .u64 dh, .int .u64 dl, .int .i64 sp, .int .i64 dp] : Array Value).toList _ (fun _ h => h.2.1) HV.out rfl (by first | exact HIT.out | kernel_rfl)) (by assumption) ?_
  try simp only [List.getElem_toArray, List.getElem_cons_zero, List.getElem_cons_succ, Act.put, List.setIfInBounds_toArray, List.set_cons_zero, List.set_cons_succ]
  refine wpAnyH_ready (rs := [10]) (by kernel_rfl) (by simp) ?_
  refine AllReadyH.cons rfl (fun K hK => ?_) AllReadyH.nil
  go_simp
  go_at_call 37
  (with_reducible refine (HBK.out _).mono ?_)
  rintro o wk_D1 ⟨rfl, hbk⟩
  have D1 := Lib.hid (D0.out.trans (hbk.mono D0.out.size))
  have s1 := HS.out wk_D1 D1.out
  clear hbk
  refine hK.out _ _ ?_ (fun hHeld => ?_)
  · exact s1
  clear hK K
  try simp only [List.getElem_toArray, List.getElem_cons_zero, List.getElem_cons_succ, Act.put, List.setIfInBounds_toArray, List.set_cons_zero, List.set_cons_succ]
  refine wpAnyH_take (i := 11) (v := .bool true) rfl (by kernel_rfl) (by kernel_rfl) (by kernel_rfl) (fun _ _ _ h => h) (Or.inl ⟨by rfl, ?_⟩) (by assumption) ?_
  · intro V hV
    obtain ⟨_, _, _, _, _, _, _, v1, v2⟩ := hV
    go_simp
  try simp only [List.getElem_toArray, List.getElem_cons_zero, List.getElem_cons_succ, Act.put, List.setIfInBounds_toArray, List.set_cons_zero, List.set_cons_succ]
  refine wpAnyH_take (i := 12) (v := .bool true) rfl (by kernel_rfl) (by kernel_rfl) (by kernel_rfl) (fun _ _ _ h => h) (Or.inl ⟨by rfl, ?_⟩) (by assumption) ?_
  · intro V hV
    obtain ⟨_, _, _, _, _, _, _, v1, v2⟩ := hV
    go_simp
  try simp only [List.getElem_toArray, List.getElem_cons_zero, List.getElem_cons_succ, Act.put, List.setIfInBounds_toArray, List.set_cons_zero, List.set_cons_succ]
  refine wpAnyH_take (i := 13) (v := .bool true) rfl (by kernel_rfl) (by kernel_rfl) (by kernel_rfl) (fun _ _ _ h => h) (Or.inl ⟨by rfl, ?_⟩) (by assumption) ?_
  · intro V hV
    obtain ⟨_, _, _, _, _, _, _, v1, v2⟩ := hV
    go_simp
  try simp only [List.getElem_toArray, List.getElem_cons_zero, List.getElem_cons_succ, Act.put, List.setIfInBounds_toArray, List.set_cons_zero, List.set_cons_succ]
  refine wpAnyH_take (i := 14) (v := .agg Y) rfl (by kernel_rfl) (by kernel_rfl) (by kernel_rfl) (fun _ _ _ h => h) (yield_row (by rfl) _ _ rfl w4.heap.size rfl Y _ (fun _ h => h.1) HU_.out rfl HIY.out) (by assumption) ?_
  try simp only [List.getElem_toArray, List.getElem_cons_zero, List.getElem_cons_succ, Act.put, List.setIfInBounds_toArray, List.set_cons_zero, List.set_cons_succ]
  refine wpAnyH_take (i := 16) (v := .agg #[.int .i64 17, .bool s6, .int .u64 sh, .int .u64 sl, .bool s6, .int .u64 dh, .int .u64 dl, .int .i64 sp, .int .i64 dp]) rfl (by kernel_rfl) (by kernel_rfl) (by kernel_rfl) (fun _ _ _ h => h) (yieldsIf_load_mid (by rfl) _ _ rfl g 0 rfl (#[.int .i64 17, .bool s6, .int .u64 sh, .int .u64 sl, .bool s6, .int .u64 dh, .int .u64 dl, .int .i64 sp, .int .i64 dp] : Array Value).toList _ (fun _ h => h.2.1) HV.out rfl (by first | exact HIT.out | kernel_rfl)) (by assumption) ?_
  try simp only [List.getElem_toArray, List.getElem_cons_zero, List.getElem_cons_succ, Act.put, List.setIfInBounds_toArray, List.set_cons_zero, List.set_cons_succ]
  refine wpAnyH_ready (rs := [15]) (by kernel_rfl) (by simp) ?_
  refine AllReadyH.cons rfl (fun K hK => ?_) AllReadyH.nil
  go_simp
  go_at_call 30
  (with_reducible refine (HKY.out _).mono ?_)
  rintro o wk_D2 ⟨rfl, hbk⟩
  have D2 := Lib.hid (D1.out.trans (hbk.mono D1.out.size))
  have s2 := HS.out wk_D2 D2.out
  clear hbk
  refine hK.out _ _ ?_ (fun hHeld => ?_)
  · exact s2
  clear hK K
  try simp only [List.getElem_toArray, List.getElem_cons_zero, List.getElem_cons_succ, Act.put, List.setIfInBounds_toArray, List.set_cons_zero, List.set_cons_succ]
  refine wpAnyH_ready (rs := [17]) (by kernel_rfl) (by simp) ?_
  refine AllReadyH.cons rfl (fun K hK => ?_) AllReadyH.nil
  go_simp
  go_at_call 37
  (with_reducible refine (HBK.out _).mono ?_)
  rintro o wk_D3 ⟨rfl, hbk⟩
  have D3 := Lib.hid (D2.out.trans (hbk.mono D2.out.size))
  have s3 := HS.out wk_D3 D3.out
  clear hbk
  refine hK.out _ _ ?_ (fun hHeld => ?_)
  · exact s3
  clear hK K
  try simp only [List.getElem_toArray, List.getElem_cons_zero, List.getElem_cons_succ, Act.put, List.setIfInBounds_toArray, List.set_cons_zero, List.set_cons_succ]
  refine wpAnyH_take (i := 18) (v := .bool true) rfl (by kernel_rfl) (by kernel_rfl) (by kernel_rfl) (fun _ _ _ h => h) (Or.inl ⟨by rfl, ?_⟩) (by assumption) ?_
  · intro V hV
    obtain ⟨_, _, _, _, _, _, _, v1, v2⟩ := hV
    go_simp
  try simp only [List.getElem_toArray, List.getElem_cons_zero, List.getElem_cons_succ, Act.put, List.setIfInBounds_toArray, List.set_cons_zero, List.set_cons_succ]
  refine wpAnyH_take (i := 19) (v := .bool true) rfl (by kernel_rfl) (by kernel_rfl) (by kernel_rfl) (fun _ _ _ h => h) (Or.inl ⟨by rfl, ?_⟩) (by assumption) ?_
  · intro V hV
    obtain ⟨_, _, _, _, _, _, _, v1, v2⟩ := hV
    go_simp
  try simp only [List.getElem_toArray, List.getElem_cons_zero, List.getElem_cons_succ, Act.put, List.setIfInBounds_toArray, List.set_cons_zero, List.set_cons_succ]
  refine wpAnyH_take (i := 20) (v := .bool true) rfl (by kernel_rfl) (by kernel_rfl) (by kernel_rfl) (fun _ _ _ h => h) (Or.inl ⟨by rfl, ?_⟩) (by assumption) ?_
  · intro V hV
    obtain ⟨_, _, _, _, _, _, _, v1, v2⟩ := hV
    go_simp
  try simp only [List.getElem_toArray, List.getElem_cons_zero, List.getElem_cons_succ, Act.put, List.setIfInBounds_toArray, List.set_cons_zero, List.set_cons_succ]
  refine wpAnyH_take (i := 21) (v := .pointer (some ⟨w4.heap.size, 1, none⟩)) rfl (by kernel_rfl) (by kernel_rfl) (by kernel_rfl) (fun _ _ _ h => h) (Or.inl ⟨by rfl, ?_⟩) (by assumption) ?_
  · intro V hV
    obtain ⟨_, _, _, _, _, _, _, v1, v2⟩ := hV
    go_simp
  try simp only [List.getElem_toArray, List.getElem_cons_zero, List.getElem_cons_succ, Act.put, List.setIfInBounds_toArray, List.set_cons_zero, List.set_cons_succ]
  refine wpAnyH_take (i := 22) (v := .pointer (some ⟨w4.heap.size, 2, none⟩)) rfl (by kernel_rfl) (by kernel_rfl) (by kernel_rfl) (fun _ _ _ h => h) (Or.inl ⟨by rfl, ?_⟩) (by assumption) ?_
  · intro V hV
    obtain ⟨_, _, _, _, _, _, _, v1, v2⟩ := hV
    go_simp
  try simp only [List.getElem_toArray, List.getElem_cons_zero, List.getElem_cons_succ, Act.put, List.setIfInBounds_toArray, List.set_cons_zero, List.set_cons_succ]
  refine wpAnyH_take (i := 23) (v := .agg #[.bool s6, .int .u64 fh, .int .u64 fl]) rfl (by kernel_rfl) (by kernel_rfl) (by kernel_rfl) (fun _ _ _ h => h) (yieldsIf_load_mid (by rfl) _ _ rfl w4.heap.size 2 rfl (#[.bool s6, .int .u64 fh, .int .u64 fl] : Array Value).toList _ (fun _ h => h.2.2.2.1) HA.out rfl (by first | exact HIA.out | kernel_rfl)) (by assumption) ?_
  try simp only [List.getElem_toArray, List.getElem_cons_zero, List.getElem_cons_succ, Act.put, List.setIfInBounds_toArray, List.set_cons_zero, List.set_cons_succ]
  refine wpAnyH_take (i := 24) (v := .agg #[.bool s6, .int .u64 fh, .int .u64 fl]) rfl (by kernel_rfl) (by kernel_rfl) (by kernel_rfl) (fun _ _ _ h => h) (yieldsIf_load_mid (by rfl) _ _ rfl h 0 rfl (#[.bool s6, .int .u64 fh, .int .u64 fl] : Array Value).toList _ (fun _ h => h.2.2.2.2.1) HA.out rfl (by first | exact HIA.out | kernel_rfl)) (by assumption) ?_
  try simp only [List.getElem_toArray, List.getElem_cons_zero, List.getElem_cons_succ, Act.put, List.setIfInBounds_toArray, List.set_cons_zero, List.set_cons_succ]
  refine wpAnyH_take (i := 25) (v := .bool true) rfl (by kernel_rfl) (by kernel_rfl) (by kernel_rfl) (fun _ _ _ h => h) (Or.inl ⟨by rfl, ?_⟩) (by assumption) ?_
  · intro V hV
    obtain ⟨_, _, _, _, _, _, _, v1, v2⟩ := hV
    go_simp
  try simp only [List.getElem_toArray, List.getElem_cons_zero, List.getElem_cons_succ, Act.put, List.setIfInBounds_toArray, List.set_cons_zero, List.set_cons_succ]
  refine wpAnyH_take (i := 26) (v := .bool true) rfl (by kernel_rfl) (by kernel_rfl) (by kernel_rfl) (fun _ _ _ h => h) (Or.inl ⟨by rfl, ?_⟩) (by assumption) ?_
  · intro V hV
    obtain ⟨_, _, _, _, _, _, _, v1, v2⟩ := hV
    go_simp
  try simp only [List.getElem_toArray, List.getElem_cons_zero, List.getElem_cons_succ, Act.put, List.setIfInBounds_toArray, List.set_cons_zero, List.set_cons_succ]
  refine wpAnyH_take (i := 27) (v := .bool true) rfl (by kernel_rfl) (by kernel_rfl) (by kernel_rfl) (fun _ _ _ h => h) (Or.inl ⟨by rfl, ?_⟩) (by assumption) ?_
  · intro V hV
    obtain ⟨_, _, _, _, _, _, _, v1, v2⟩ := hV
    go_simp
  try simp only [List.getElem_toArray, List.getElem_cons_zero, List.getElem_cons_succ, Act.put, List.setIfInBounds_toArray, List.set_cons_zero, List.set_cons_succ]
  refine wpAnyH_take (i := 28) (v := .pointer (some ⟨w4.heap.size, 1, none⟩)) rfl (by kernel_rfl) (by kernel_rfl) (by kernel_rfl) (fun _ _ _ h => h) (Or.inl ⟨by rfl, ?_⟩) (by assumption) ?_
  · intro V hV
    obtain ⟨_, _, _, _, _, _, _, v1, v2⟩ := hV
    go_simp
  try simp only [List.getElem_toArray, List.getElem_cons_zero, List.getElem_cons_succ, Act.put, List.setIfInBounds_toArray, List.set_cons_zero, List.set_cons_succ]
  refine wpAnyH_take (i := 29) (v := .pointer (some ⟨w4.heap.size, 5, none⟩)) rfl (by kernel_rfl) (by kernel_rfl) (by kernel_rfl) (fun _ _ _ h => h) (Or.inl ⟨by rfl, ?_⟩) (by assumption) ?_
  · intro V hV
    obtain ⟨_, _, _, _, _, _, _, v1, v2⟩ := hV
    go_simp
  try simp only [List.getElem_toArray, List.getElem_cons_zero, List.getElem_cons_succ, Act.put, List.setIfInBounds_toArray, List.set_cons_zero, List.set_cons_succ]
  refine wpAnyH_take (i := 30) (v := .agg #[.bool s6, .int .u64 sh, .int .u64 sl]) rfl (by kernel_rfl) (by kernel_rfl) (by kernel_rfl) (fun _ _ _ h => h) (yieldsIf_load_mid (by rfl) _ _ rfl w4.heap.size 5 rfl (#[.bool s6, .int .u64 sh, .int .u64 sl] : Array Value).toList _ (fun _ h => h.2.2.2.2.2.1) HA.out rfl (by first | exact HIA.out | kernel_rfl)) (by assumption) ?_
  try simp only [List.getElem_toArray, List.getElem_cons_zero, List.getElem_cons_succ, Act.put, List.setIfInBounds_toArray, List.set_cons_zero, List.set_cons_succ]
  refine wpAnyH_take (i := 31) (v := .pointer (some ⟨g, 1, none⟩)) rfl (by kernel_rfl) (by kernel_rfl) (by kernel_rfl) (fun _ _ _ h => h) (Or.inl ⟨by rfl, ?_⟩) (by assumption) ?_
  · intro V hV
    obtain ⟨_, _, _, _, _, _, _, v1, v2⟩ := hV
    go_simp
  try simp only [List.getElem_toArray, List.getElem_cons_zero, List.getElem_cons_succ, Act.put, List.setIfInBounds_toArray, List.set_cons_zero, List.set_cons_succ]
  refine wpAnyH_take (i := 32) (v := .agg #[.bool s6, .int .u64 sh, .int .u64 sl]) rfl (by kernel_rfl) (by kernel_rfl) (by kernel_rfl) (fun _ _ _ h => h) (yieldsIf_load_mid (by rfl) _ _ rfl g 1 rfl (#[.bool s6, .int .u64 sh, .int .u64 sl] : Array Value).toList _ (fun _ h => h.2.2.2.2.2.2.1) HA.out rfl (by first | exact HIA.out | kernel_rfl)) (by assumption) ?_
  try simp only [List.getElem_toArray, List.getElem_cons_zero, List.getElem_cons_succ, Act.put, List.setIfInBounds_toArray, List.set_cons_zero, List.set_cons_succ]
  refine wpAnyH_take (i := 33) (v := .bool true) rfl (by kernel_rfl) (by kernel_rfl) (by kernel_rfl) (fun _ _ _ h => h) (Or.inl ⟨by rfl, ?_⟩) (by assumption) ?_
  · intro V hV
    obtain ⟨_, _, _, _, _, _, _, v1, v2⟩ := hV
    go_simp
  try simp only [List.getElem_toArray, List.getElem_cons_zero, List.getElem_cons_succ, Act.put, List.setIfInBounds_toArray, List.set_cons_zero, List.set_cons_succ]
  refine wpAnyH_take (i := 34) (v := .bool true) rfl (by kernel_rfl) (by kernel_rfl) (by kernel_rfl) (fun _ _ _ h => h) (Or.inl ⟨by rfl, ?_⟩) (by assumption) ?_
  · intro V hV
    obtain ⟨_, _, _, _, _, _, _, v1, v2⟩ := hV
    go_simp
  try simp only [List.getElem_toArray, List.getElem_cons_zero, List.getElem_cons_succ, Act.put, List.setIfInBounds_toArray, List.set_cons_zero, List.set_cons_succ]
  refine wpAnyH_take (i := 35) (v := .bool true) rfl (by kernel_rfl) (by kernel_rfl) (by kernel_rfl) (fun _ _ _ h => h) (Or.inl ⟨by rfl, ?_⟩) (by assumption) ?_
  · intro V hV
    obtain ⟨_, _, _, _, _, _, _, v1, v2⟩ := hV
    go_simp
  try simp only [List.getElem_toArray, List.getElem_cons_zero, List.getElem_cons_succ, Act.put, List.setIfInBounds_toArray, List.set_cons_zero, List.set_cons_succ]
  refine wpAnyH_take (i := 36) (v := .pointer (some ⟨w4.heap.size, 10, none⟩)) rfl (by kernel_rfl) (by kernel_rfl) (by kernel_rfl) (fun _ _ _ h => h) (Or.inl ⟨by rfl, ?_⟩) (by assumption) ?_
  · intro V hV
    obtain ⟨_, _, _, _, _, _, _, v1, v2⟩ := hV
    go_simp
  try simp only [List.getElem_toArray, List.getElem_cons_zero, List.getElem_cons_succ, Act.put, List.setIfInBounds_toArray, List.set_cons_zero, List.set_cons_succ]
  refine wpAnyH_take (i := 37) (v := .int .i64 ttl) rfl (by kernel_rfl) (by kernel_rfl) (by kernel_rfl) (fun _ _ _ h => h) (Or.inl ⟨by rfl, ?_⟩) (by assumption) ?_
  · intro V hV
    obtain ⟨_, _, _, _, _, _, _, v1, v2⟩ := hV
    go_simp
  try simp only [List.getElem_toArray, List.getElem_cons_zero, List.getElem_cons_succ, Act.put, List.setIfInBounds_toArray, List.set_cons_zero, List.set_cons_succ]
  refine wpAnyH_take (i := 38) (v := .int .i64 ttl) rfl (by kernel_rfl) (by kernel_rfl) (by kernel_rfl) (fun _ _ _ h => h) (Or.inl ⟨by rfl, ?_⟩) (by assumption) ?_
  · intro V hV
    obtain ⟨_, _, _, _, _, _, _, v1, v2⟩ := hV
    go_simp
  try simp only [List.getElem_toArray, List.getElem_cons_zero, List.getElem_cons_succ, Act.put, List.setIfInBounds_toArray, List.set_cons_zero, List.set_cons_succ]
  refine wpAnyH_take (i := 39) (v := .bool true) rfl (by kernel_rfl) (by kernel_rfl) (by kernel_rfl) (fun _ _ _ h => h) (Or.inl ⟨by rfl, ?_⟩) (by assumption) ?_
  · intro V hV
    obtain ⟨_, _, _, _, _, _, _, v1, v2⟩ := hV
    go_simp
  try simp only [List.getElem_toArray, List.getElem_cons_zero, List.getElem_cons_succ, Act.put, List.setIfInBounds_toArray, List.set_cons_zero, List.set_cons_succ]
  refine wpAnyH_take (i := 40) (v := .bool true) rfl (by kernel_rfl) (by kernel_rfl) (by kernel_rfl) (fun _ _ _ h => h) (Or.inl ⟨by rfl, ?_⟩) (by assumption) ?_
  · intro V hV
    obtain ⟨_, _, _, _, _, _, _, v1, v2⟩ := hV
    go_simp
  try simp only [List.getElem_toArray, List.getElem_cons_zero, List.getElem_cons_succ, Act.put, List.setIfInBounds_toArray, List.set_cons_zero, List.set_cons_succ]
  refine wpAnyH_take (i := 41) (v := .bool true) rfl (by kernel_rfl) (by kernel_rfl) (by kernel_rfl) (fun _ _ _ h => h) (Or.inl ⟨by rfl, ?_⟩) (by assumption) ?_
  · intro V hV
    obtain ⟨_, _, _, _, _, _, _, v1, v2⟩ := hV
    go_simp
  try simp only [List.getElem_toArray, List.getElem_cons_zero, List.getElem_cons_succ, Act.put, List.setIfInBounds_toArray, List.set_cons_zero, List.set_cons_succ]
  refine wpAnyH_take (i := 42) (v := .int .i64 1) rfl (by kernel_rfl) (by kernel_rfl) (by kernel_rfl) (fun _ _ _ h => h) (Or.inl ⟨by rfl, ?_⟩) (by assumption) ?_
  · intro V hV
    obtain ⟨_, _, _, _, _, _, _, v1, v2⟩ := hV
    go_simp
  try simp only [List.getElem_toArray, List.getElem_cons_zero, List.getElem_cons_succ, Act.put, List.setIfInBounds_toArray, List.set_cons_zero, List.set_cons_succ]
  refine wpAnyH_take (i := 43) (v := .bool true) rfl (by kernel_rfl) (by kernel_rfl) (by kernel_rfl) (fun _ _ _ h => h) (Or.inl ⟨by rfl, ?_⟩) (by assumption) ?_
  · intro V hV
    obtain ⟨_, _, _, _, _, _, _, v1, v2⟩ := hV
    go_simp
  try simp only [List.getElem_toArray, List.getElem_cons_zero, List.getElem_cons_succ, Act.put, List.setIfInBounds_toArray, List.set_cons_zero, List.set_cons_succ]
  refine wpAnyH_take (i := 44) (v := .bool true) rfl (by kernel_rfl) (by kernel_rfl) (by kernel_rfl) (fun _ _ _ h => h) (Or.inl ⟨by rfl, ?_⟩) (by assumption) ?_
  · intro V hV
    obtain ⟨_, _, _, _, _, _, _, v1, v2⟩ := hV
    go_simp
  try simp only [List.getElem_toArray, List.getElem_cons_zero, List.getElem_cons_succ, Act.put, List.setIfInBounds_toArray, List.set_cons_zero, List.set_cons_succ]
  refine wpAnyH_take (i := 45) (v := .bool true) rfl (by kernel_rfl) (by kernel_rfl) (by kernel_rfl) (fun _ _ _ h => h) (Or.inl ⟨by rfl, ?_⟩) (by assumption) ?_
  · intro V hV
    obtain ⟨_, _, _, _, _, _, _, v1, v2⟩ := hV
    go_simp
  try simp only [List.getElem_toArray, List.getElem_cons_zero, List.getElem_cons_succ, Act.put, List.setIfInBounds_toArray, List.set_cons_zero, List.set_cons_succ]
  refine wpAnyH_ready (rs := [46]) (by kernel_rfl) (by simp) ?_
  refine AllReadyH.cons rfl (fun K hK => ?_) AllReadyH.nil
  go_simp
  go_at_call 32
  (with_reducible refine (HAW.out _).mono ?_)
  rintro o wk_D4 ⟨rfl, hbk⟩
  have D4 := Lib.hid (D3.out.trans (hbk.mono D3.out.size))
  have s4 := HS.out wk_D4 D4.out
  clear hbk
  refine hK.out _ _ ?_ (fun hHeld => ?_)
  · exact s4
  clear hK K
  try simp only [List.getElem_toArray, List.getElem_cons_zero, List.getElem_cons_succ, Act.put, List.setIfInBounds_toArray, List.set_cons_zero, List.set_cons_succ]
  refine wpAnyH_take (i := 47) (v := .bool true) rfl (by kernel_rfl) (by kernel_rfl) (by kernel_rfl) (fun _ _ _ h => h) (Or.inl ⟨by rfl, ?_⟩) (by assumption) ?_
  · intro V hV
    obtain ⟨_, _, _, _, _, _, _, v1, v2⟩ := hV
    go_simp
  try simp only [List.getElem_toArray, List.getElem_cons_zero, List.getElem_cons_succ, Act.put, List.setIfInBounds_toArray, List.set_cons_zero, List.set_cons_succ]
  refine wpAnyH_take (i := 48) (v := .bool true) rfl (by kernel_rfl) (by kernel_rfl) (by kernel_rfl) (fun _ _ _ h => h) (Or.inl ⟨by rfl, ?_⟩) (by assumption) ?_
  · intro V hV
    obtain ⟨_, _, _, _, _, _, _, v1, v2⟩ := hV
    go_simp
  try simp only [List.getElem_toArray, List.getElem_cons_zero, List.getElem_cons_succ, Act.put, List.setIfInBounds_toArray, List.set_cons_zero, List.set_cons_succ]
  refine wpAnyH_done (by kernel_rfl) ?_ _
  go_wp2_with fail
  go_ret
  exact ⟨rfl, B6.out.trans (D4.out.mono B6.out.size)⟩
end Go.Proofs.Ytndekicblbpkjaa.pktZ
