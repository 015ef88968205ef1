/- Layer 27: what its law has of lists: one more ahead, whether two are the same, what goes. -/
import Derived.Test.YtmlfpfmpoigfiaaFlowPa
namespace Go.Proofs.Ytmlfpfmpoigfiaa.flowPb
open Go.ChangeShapes Go.WideShapes Go.ChangeAt Go.RowKit
open Go.Proofs.Ytmlfpfmpoigfiaa.base Go.Proofs.Ytmlfpfmpoigfiaa.flowA Go.Proofs.Ytmlfpfmpoigfiaa.flowB Go.Proofs.Ytmlfpfmpoigfiaa.flowC Go.Proofs.Ytmlfpfmpoigfiaa.flowD Go.Proofs.Ytmlfpfmpoigfiaa.flowE Go.Proofs.Ytmlfpfmpoigfiaa.flowF Go.Proofs.Ytmlfpfmpoigfiaa.flowG Go.Proofs.Ytmlfpfmpoigfiaa.flowH Go.Proofs.Ytmlfpfmpoigfiaa.flowI Go.Proofs.Ytmlfpfmpoigfiaa.flowL Go.Proofs.Ytmlfpfmpoigfiaa.flowM Go.Proofs.Ytmlfpfmpoigfiaa.flowN Go.Proofs.Ytmlfpfmpoigfiaa.flowO Go.Proofs.Ytmlfpfmpoigfiaa.flowP Go.Proofs.Ytmlfpfmpoigfiaa.flowQ Go.Proofs.Ytmlfpfmpoigfiaa.flowR Go.Proofs.Ytmlfpfmpoigfiaa.flowS Go.Proofs.Ytmlfpfmpoigfiaa.flowT Go.Proofs.Ytmlfpfmpoigfiaa.flowU Go.Proofs.Ytmlfpfmpoigfiaa.flowV Go.Proofs.Ytmlfpfmpoigfiaa.flowW Go.Proofs.Ytmlfpfmpoigfiaa.flowX Go.Proofs.Ytmlfpfmpoigfiaa.flowY Go.Proofs.Ytmlfpfmpoigfiaa.flowGo Go.Proofs.Ytmlfpfmpoigfiaa.flowGp Go.Proofs.Ytmlfpfmpoigfiaa.flowPa
set_option linter.unusedVariables false

theorem same_law (v1 v2 : Value) (l : List Ent) (w : World) (h1 : RdE w v1 l) (h2 : RdE w v2 l) (hl : l.length ≤ 5000) :
    Calls Try.prog 21 #[v1, v2] w fun o w' => o = .returned (.bool true) ∧ Below w.heap.size w w' := by
  have HV1 := Lib.hid h1
  have HV2 := Lib.hid h2
  obtain ⟨A1, c1, hv1, hc1, hm1, _⟩ := h1
  obtain ⟨A2, c2, hv2, hc2, hm2, _⟩ := h2
  unfold maxLen at hm1 hm2
  subst hv1 hv2
  obtain ⟨n, hn⟩ : ∃ n, n = l.length := ⟨_, rfl⟩
  have HNL := Lib.hid hn
  rw [← hn] at hl hc1 hc2 HV1 HV2 ⊢
  clear hn
  go_enter Try.func21, Try.ntmps21
  go_wp2_with fail
  go_loopw [5] (fun i wr => ∃ j : Nat, i = .int .i64 j ∧ j ≤ n ∧ Below w.heap.size w wr) (fun i _ => n - (intOf i).toNat)
  case atStart => exact ⟨0, rfl, by omega, by first | exact Below.refl _ _ | exact (Below.refl _ _).drew⟩
  case round =>
    obtain ⟨j, rfl, hj, hbel⟩ := hrel
    have KB := Lib.hid hbel
    clear hbel
    by_cases hjn : j < n
    · have t1 : decide ((j : Int) < n) = true := decide_eq_true (by omega)
      have hjl : j < l.length := HNL.out ▸ hjn
      obtain ⟨b, c, hvb, _, _, hbl, hC⟩ := RdE.at_ (HV1.out.below KB.out) j hjl
      rw [← HNL.out] at hvb
      obtain ⟨rfl, rfl⟩ : A1 = some ⟨b, 0, none⟩ ∧ c1 = c := by injection hvb with a b c; exact ⟨a, c⟩
      obtain ⟨b2, c, hvb2, _, _, hbl2, hC2⟩ := RdE.at_ (HV2.out.below KB.out) j hjl
      rw [← HNL.out] at hvb2
      obtain ⟨rfl, rfl⟩ : A2 = some ⟨b2, 0, none⟩ ∧ c2 = c := by injection hvb2 with a b c; exact ⟨a, c⟩
      obtain ⟨e, he⟩ : ∃ e, e = l[j] := ⟨_, rfl⟩
      rw [← he] at hC hC2
      have d0 : wr.cell? ⟨b, j * 12, none⟩ = some (.int .i64 e.x.pr) := hC 0 (by omega)
      have d1 : wr.cell? ⟨b, j * 12 + 1, none⟩ = some (.bool e.x.s6) := hC 1 (by omega)
      have d2 : wr.cell? ⟨b, j * 12 + 2, none⟩ = some (.int .u64 e.x.sh) := hC 2 (by omega)
      have d3 : wr.cell? ⟨b, j * 12 + 3, none⟩ = some (.int .u64 e.x.sl) := hC 3 (by omega)
      have d4 : wr.cell? ⟨b, j * 12 + 4, none⟩ = some (.bool e.x.d6) := hC 4 (by omega)
      have d5 : wr.cell? ⟨b, j * 12 + 5, none⟩ = some (.int .u64 e.x.dh) := hC 5 (by omega)
      have d6 : wr.cell? ⟨b, j * 12 + 6, none⟩ = some (.int .u64 e.x.dl) := hC 6 (by omega)
      have d7 : wr.cell? ⟨b, j * 12 + 7, none⟩ = some (.int .i64 e.x.sp) := hC 7 (by omega)
      have d8 : wr.cell? ⟨b, j * 12 + 8, none⟩ = some (.int .i64 e.x.dp) := hC 8 (by omega)
      have d9 : wr.cell? ⟨b, j * 12 + 9, none⟩ = some (.int .i64 e.host) := hC 9 (by omega)
      have d10 : wr.cell? ⟨b, j * 12 + 10, none⟩ = some (.int .i64 e.state) := hC 10 (by omega)
      have d11 : wr.cell? ⟨b, j * 12 + 11, none⟩ = some (.int .i64 e.till) := hC 11 (by omega)
      have k0 : wr.cell? ⟨b2, j * 12, none⟩ = some (.int .i64 e.x.pr) := hC2 0 (by omega)
      have k1 : wr.cell? ⟨b2, j * 12 + 1, none⟩ = some (.bool e.x.s6) := hC2 1 (by omega)
      have k2 : wr.cell? ⟨b2, j * 12 + 2, none⟩ = some (.int .u64 e.x.sh) := hC2 2 (by omega)
      have k3 : wr.cell? ⟨b2, j * 12 + 3, none⟩ = some (.int .u64 e.x.sl) := hC2 3 (by omega)
      have k4 : wr.cell? ⟨b2, j * 12 + 4, none⟩ = some (.bool e.x.d6) := hC2 4 (by omega)
      have k5 : wr.cell? ⟨b2, j * 12 + 5, none⟩ = some (.int .u64 e.x.dh) := hC2 5 (by omega)
      have k6 : wr.cell? ⟨b2, j * 12 + 6, none⟩ = some (.int .u64 e.x.dl) := hC2 6 (by omega)
      have k7 : wr.cell? ⟨b2, j * 12 + 7, none⟩ = some (.int .i64 e.x.sp) := hC2 7 (by omega)
      have k8 : wr.cell? ⟨b2, j * 12 + 8, none⟩ = some (.int .i64 e.x.dp) := hC2 8 (by omega)
      have k9 : wr.cell? ⟨b2, j * 12 + 9, none⟩ = some (.int .i64 e.host) := hC2 9 (by omega)
      have k10 : wr.cell? ⟨b2, j * 12 + 10, none⟩ = some (.int .i64 e.state) := hC2 10 (by omega)
      have k11 : wr.cell? ⟨b2, j * 12 + 11, none⟩ = some (.int .i64 e.till) := hC2 11 (by omega)
      have j0 : (0 : Int) ≤ j := by omega
      have j1 : (j : Int) < n := by omega
      clear hC hC2 hvb hvb2 he
      have heq : ∀ W : World, (binOp .neq 33 (.agg #[.int .i64 e.x.pr, .bool e.x.s6, .int .u64 e.x.sh, .int .u64 e.x.sl, .bool e.x.d6, .int .u64 e.x.dh, .int .u64 e.x.dl, .int .i64 e.x.sp, .int .i64 e.x.dp, .int .i64 e.host, .int .i64 e.state, .int .i64 e.till]) (.agg #[.int .i64 e.x.pr, .bool e.x.s6, .int .u64 e.x.sh, .int .u64 e.x.sl, .bool e.x.d6, .int .u64 e.x.dh, .int .u64 e.x.dl, .int .i64 e.x.sp, .int .i64 e.x.dp, .int .i64 e.host, .int .i64 e.state, .int .i64 e.till])).run Try.prog W = .ok (.bool false) W := fun W => by
        have := ent_ne e e W
        rw [sameE_yes] at this
        exact this
      go_wp2_with fail
      go_region
      all_goals
        go_wp2_with fail
        go_roundw
        case rel => exact ⟨j + 1, by go_num, by omega, KB.out.drew⟩
        case measure => simp [intOf]; omega
    · have t1 : decide ((j : Int) < n) = false := decide_eq_false (by omega)
      go_wp2_with fail
      go_ret
      exact ⟨rfl, KB.out⟩
theorem ahead_none (e : Ent) (c : Nat) (w : World) (hc : c = 0) :
    Calls Try.prog 40 #[.agg e.cells, .slice none 0 c] w fun o w' => ∃ v', o = .returned v' ∧ Own w' w.heap.size v' [e] ∧ Below w.heap.size w w' := by
  subst hc
  obtain ⟨i0, hi0, hz0, hz1, hz2⟩ := info_parts info_e
  have HI0 := Lib.hid hi0
  have HZ0 := Lib.hid hz0
  have HZ1 := Lib.hid hz1
  have HZ2 := Lib.hid hz2
  clear hi0 hz0 hz1 hz2
  obtain ⟨w1, hw1⟩ : ∃ w1, w1 = (w.alloc (.cells #[.int .i64 e.x.pr, .bool e.x.s6, .int .u64 e.x.sh, .int .u64 e.x.sl, .bool e.x.d6, .int .u64 e.x.dh, .int .u64 e.x.dl, .int .i64 e.x.sp, .int .i64 e.x.dp, .int .i64 e.host, .int .i64 e.state, .int .i64 e.till] 33)).alloc (.cells #[.int .i64 e.x.pr, .bool e.x.s6, .int .u64 e.x.sh, .int .u64 e.x.sl, .bool e.x.d6, .int .u64 e.x.dh, .int .u64 e.x.dl, .int .i64 e.x.sp, .int .i64 e.x.dp, .int .i64 e.host, .int .i64 e.state, .int .i64 e.till] 33) := ⟨_, rfl⟩
  have HB := Lib.hid (show Below w.heap.size w w1 from hw1 ▸ ((Below.refl w.heap.size w).alloc (Nat.le_refl _) _).alloc (by simp) _)
  have HK := Lib.hid (show Blk w1 (w.heap.size + 1) 33 e.cells from by
    have := Blk.new (w.alloc (.cells #[.int .i64 e.x.pr, .bool e.x.s6, .int .u64 e.x.sh, .int .u64 e.x.sl, .bool e.x.d6, .int .u64 e.x.dh, .int .u64 e.x.dl, .int .i64 e.x.sp, .int .i64 e.x.dp, .int .i64 e.host, .int .i64 e.state, .int .i64 e.till] 33)) 33 #[.int .i64 e.x.pr, .bool e.x.s6, .int .u64 e.x.sh, .int .u64 e.x.sl, .bool e.x.d6, .int .u64 e.x.dh, .int .u64 e.x.dl, .int .i64 e.x.sp, .int .i64 e.x.dp, .int .i64 e.host, .int .i64 e.state, .int .i64 e.till]
    rw [show (w.alloc (.cells #[.int .i64 e.x.pr, .bool e.x.s6, .int .u64 e.x.sh, .int .u64 e.x.sl, .bool e.x.d6, .int .u64 e.x.dh, .int .u64 e.x.dl, .int .i64 e.x.sp, .int .i64 e.x.dp, .int .i64 e.host, .int .i64 e.state, .int .i64 e.till] 33)).heap.size = w.heap.size + 1 by simp] at this
    rw [hw1]
    exact this)
  have HO := Lib.hid (show Own w1 w.heap.size (.slice (some ⟨w.heap.size + 1, 0, none⟩) 1 1) [e] from ⟨rfl, .inr ⟨w.heap.size + 1, 1, e.cells, rfl, by omega, HK.out, Nat.le_refl _, by unfold maxLen; omega, rfl, by simp [flat]; rfl⟩⟩)
  have hrun := run_append_owned_none (P := Try.prog) (w := w1) w.heap.size 39 39 33 i0 12 Try.underlying39 HI0.out (.slice (some ⟨w.heap.size + 1, 0, none⟩) 1 1) 1 (flat [e]) HO.out
  rw [hw1] at hrun HO HB
  unfold Ent.cells
  clear hw1 HK
  go_enter Try.func40, Try.ntmps40
  go_wp2_with fail
  go_ret
  exact ⟨_, rfl, HO.out, HB.out⟩
set_option maxHeartbeats 1000000 in
theorem ahead_some (e : Ent) (b c : Nat) (l : List Ent) (w : World) (hv : RdE w (.slice (some ⟨b, 0, none⟩) l.length c) l) (hl : l.length ≤ 5000) :
    Calls Try.prog 40 #[.agg e.cells, .slice (some ⟨b, 0, none⟩) l.length c] w fun o w' => ∃ v', o = .returned v' ∧ Own w' w.heap.size v' (e :: l) ∧ Below w.heap.size w w' := by
  obtain ⟨i0, hi0, hz0, hz1, hz2⟩ := info_parts info_e
  have HI0 := Lib.hid hi0
  have HZ0 := Lib.hid hz0
  have HZ1 := Lib.hid hz1
  have HZ2 := Lib.hid hz2
  clear hi0 hz0 hz1 hz2
  obtain ⟨w1, hw1⟩ : ∃ w1, w1 = (w.alloc (.cells #[.int .i64 e.x.pr, .bool e.x.s6, .int .u64 e.x.sh, .int .u64 e.x.sl, .bool e.x.d6, .int .u64 e.x.dh, .int .u64 e.x.dl, .int .i64 e.x.sp, .int .i64 e.x.dp, .int .i64 e.host, .int .i64 e.state, .int .i64 e.till] 33)).alloc (.cells #[.int .i64 e.x.pr, .bool e.x.s6, .int .u64 e.x.sh, .int .u64 e.x.sl, .bool e.x.d6, .int .u64 e.x.dh, .int .u64 e.x.dl, .int .i64 e.x.sp, .int .i64 e.x.dp, .int .i64 e.host, .int .i64 e.state, .int .i64 e.till] 33) := ⟨_, rfl⟩
  have HB := Lib.hid (show Below w.heap.size w w1 from hw1 ▸ ((Below.refl w.heap.size w).alloc (Nat.le_refl _) _).alloc (by simp) _)
  have HK := Lib.hid (show Blk w1 (w.heap.size + 1) 33 e.cells from by
    have := Blk.new (w.alloc (.cells #[.int .i64 e.x.pr, .bool e.x.s6, .int .u64 e.x.sh, .int .u64 e.x.sl, .bool e.x.d6, .int .u64 e.x.dh, .int .u64 e.x.dl, .int .i64 e.x.sp, .int .i64 e.x.dp, .int .i64 e.host, .int .i64 e.state, .int .i64 e.till] 33)) 33 #[.int .i64 e.x.pr, .bool e.x.s6, .int .u64 e.x.sh, .int .u64 e.x.sl, .bool e.x.d6, .int .u64 e.x.dh, .int .u64 e.x.dl, .int .i64 e.x.sp, .int .i64 e.x.dp, .int .i64 e.host, .int .i64 e.state, .int .i64 e.till]
    rw [show (w.alloc (.cells #[.int .i64 e.x.pr, .bool e.x.s6, .int .u64 e.x.sh, .int .u64 e.x.sl, .bool e.x.d6, .int .u64 e.x.dh, .int .u64 e.x.dl, .int .i64 e.x.sp, .int .i64 e.x.dp, .int .i64 e.host, .int .i64 e.state, .int .i64 e.till] 33)).heap.size = w.heap.size + 1 by simp] at this
    rw [hw1]
    exact this)
  have HO := Lib.hid (show Own w1 w.heap.size (.slice (some ⟨w.heap.size + 1, 0, none⟩) 1 1) [e] from ⟨rfl, .inr ⟨w.heap.size + 1, 1, e.cells, rfl, by omega, HK.out, Nat.le_refl _, by unfold maxLen; omega, rfl, by simp [flat]; rfl⟩⟩)
  have HNE := Lib.hid (show ∀ j u, (flat l)[j]? = some u → w1.cell? ((⟨b, 0, none⟩ : Addr).add j) = some u from fun j u hu => by
    obtain ⟨q, i, e', h1, h2, h3, h4⟩ := flat_get l j u hu
    rw [Addr.add_lit, Nat.zero_add, h1]
    obtain ⟨A, c', k1, _, _, k4⟩ := hv.below HB.out
    rcases k4 with h0 | ⟨b', e1, _, e3⟩
    · rw [h0.1] at h3; cases h3
    · injection k1 with a1 _ _
      rw [e1] at a1
      injection a1 with a1
      injection a1 with a1
      rw [a1, e3 q e' h3 i h2, h4])
  have ONE := Lib.hid (show ∀ u ∈ flat l, u.oneCell' = true from fun u hu => by
    unfold flat at hu
    obtain ⟨e', _, h⟩ := List.mem_flatMap.mp hu
    exact one_el e' u h)
  have P1 := Lib.hid (show 1 + l.length ≤ maxLen by unfold maxLen; omega)
  have P2 := Lib.hid (show (1 + l.length) * 96 ≤ 140737488355328 by omega)
  have P3 := Lib.hid HB.out.size
  have HFL := Lib.hid (flat_len l)
  rw [hw1] at HO HB HNE P3
  unfold Ent.cells
  clear hw1 HK hv
  go_enter Try.func40, Try.ntmps40
  go_wp2_with (at_builtin; refine wpList_append_own _ rfl (.tmp 6) (.tmp 7) _ rfl w.heap.size 33 i0 _ 12 96 Try.underlying39 HI0.out HZ0.out HZ1.out HZ2.out rfl (by omega) _ 1 (flat [e]) rfl HO.out ⟨b, 0, none⟩ l.length c (flat l) rfl HFL.out HNE.out ONE.out P1.out P2.out P3.out ?_; intro v1 w2 ho hg _; have HO1 := Lib.hid (show Own w2 w.heap.size v1 (e :: l) by (have := ho; rw [Nat.add_comm 1] at this; exact this)); have HB1 := Lib.hid (HB.out.grown hg P3.out (fun k hk => (HO.out.lt k hk).1)); clear ho hg)
  go_ret
  exact ⟨_, rfl, HO1.out, HB1.out⟩
theorem ahead_law (e : Ent) (v : Value) (l : List Ent) (w : World) (hv : RdE w v l) (hl : l.length ≤ 5000) :
    Calls Try.prog 40 #[.agg e.cells, v] w fun o w' => ∃ v', o = .returned v' ∧ Own w' w.heap.size v' (e :: l) ∧ Below w.heap.size w w' := by
  have hv0 := hv
  obtain ⟨A, c, h1, h2, h3, h4⟩ := hv
  subst h1
  rcases h4 with ⟨h5, h6, h7⟩ | ⟨b, h5, _⟩
  · subst h5 h6
    exact ahead_none e c w h7
  · subst h5
    exact ahead_some e b c l w hv0 hl
end Go.Proofs.Ytmlfpfmpoigfiaa.flowPb
