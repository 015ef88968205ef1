/- Layer 9: next, Len, the law's cut. -/
import Derived.Test.YtndekicblbpkjaaSixN
namespace Go.Proofs.Ytndekicblbpkjaa.sixO
open Go.ChangeShapes Go.WideShapes Go.ChangeAt Go.RowKit
open Go.Proofs.Ytndekicblbpkjaa.base Go.Proofs.Ytndekicblbpkjaa.octA Go.Proofs.Ytndekicblbpkjaa.octB Go.Proofs.Ytndekicblbpkjaa.octC Go.Proofs.Ytndekicblbpkjaa.octF Go.Proofs.Ytndekicblbpkjaa.octK Go.Proofs.Ytndekicblbpkjaa.net Go.Proofs.Ytndekicblbpkjaa.rdrA Go.Proofs.Ytndekicblbpkjaa.rdrG Go.Proofs.Ytndekicblbpkjaa.sumA Go.Proofs.Ytndekicblbpkjaa.sumB Go.Proofs.Ytndekicblbpkjaa.udpA Go.Proofs.Ytndekicblbpkjaa.tcpC Go.Proofs.Ytndekicblbpkjaa.sixW Go.Proofs.Ytndekicblbpkjaa.sixM Go.Proofs.Ytndekicblbpkjaa.sixA Go.Proofs.Ytndekicblbpkjaa.sixB Go.Proofs.Ytndekicblbpkjaa.sixC Go.Proofs.Ytndekicblbpkjaa.sixD Go.Proofs.Ytndekicblbpkjaa.sixE Go.Proofs.Ytndekicblbpkjaa.sixF Go.Proofs.Ytndekicblbpkjaa.sixG Go.Proofs.Ytndekicblbpkjaa.sixN
set_option linter.unusedVariables false

set_option maxHeartbeats 2000000 in
set_option maxRecDepth 100000 in
theorem next_any (h : Hs) (A : Option Addr) (n c k : Nat) (l : List Xt) (w : World) (hl : l.length = n) (hr : RdX w A l) (hn : n ≤ 1000000) :
    Calls Try.prog 47 #[.agg (h.cells (.slice A n c)), .int .i64 k] w fun o w' => o = .returned (.int .i64 (nextK ((l.map Xt.re).drop k) h.p)) ∧ Below w.heap.size w w' := by
  obtain ⟨cls, lab, hop, s6, sh, sl, d6, dh, dl, p⟩ := h
  obtain ⟨w1, hw1⟩ : ∃ w1, w1 = w.alloc (.cells #[.int .i64 cls, .int .i64 lab, .int .i64 hop, .bool s6, .int .u64 sh, .int .u64 sl, .bool d6, .int .u64 dh, .int .u64 dl, .slice A n c, .int .i64 p] 29) := ⟨_, rfl⟩
  have E1 := Lib.hid hw1
  have BA := Lib.hid (show Below w.heap.size w w1 from by rw [hw1]; exact (Below.refl _ _).alloc (Nat.le_refl _) _)
  have KB := Lib.hid (show Blk w1 w.heap.size 29 #[.int .i64 cls, .int .i64 lab, .int .i64 hop, .bool s6, .int .u64 sh, .int .u64 sl, .bool d6, .int .u64 dh, .int .u64 dl, .slice A n c, .int .i64 p] from by rw [hw1]; exact Blk.new w _ _)
  have HR1 := Lib.hid (hr.below BA.out)
  have SZ1 := Lib.hid (show w1.heap.size = w.heap.size + 1 from by rw [hw1]; simp)
  have HL := Lib.hid hl
  have x9 := KB.out.cell 9
  have x10 := KB.out.cell 10
  show Calls _ _ #[.agg #[.int .i64 cls, .int .i64 lab, .int .i64 hop, .bool s6, .int .u64 sh, .int .u64 sl, .bool d6, .int .u64 dh, .int .u64 dl, .slice A n c, .int .i64 p], .int .i64 k] _ _
  by_cases hk : k < n
  · have hkl : k < l.length := by rw [hl]; exact hk
    obtain ⟨b, off, hA, hbl, hC⟩ := HR1.out.at_ k hkl
    subst hA
    have d0 : w1.cell? ⟨b, off + k * 2, none⟩ = some (.int .i64 (l[k]).kind) := hC 0 (by omega)
    have hv : nextK ((l.map Xt.re).drop k) p = (l[k]).kind := by
      rw [List.drop_eq_getElem_cons (by rw [List.length_map]; exact hkl), List.getElem_map]
      rfl
    show Calls _ _ _ _ fun o w' => o = .returned (.int .i64 (nextK ((l.map Xt.re).drop k) p)) ∧ _
    rw [hv]
    obtain ⟨y, hy⟩ : ∃ y, y = (l[k]).kind := ⟨_, rfl⟩
    rw [← hy] at d0 ⊢
    have j0 : (0 : Int) ≤ k := by omega
    have j1 : (k : Int) < n := by omega
    have t1 : decide ((k : Int) < n) = true := decide_eq_true j1
    have t1n : decide (k < n) = true := decide_eq_true hk
    clear hw1 hl hr hkl hC hv hy hk hbl
    go_enter Try.func47, Try.ntmps47
    go_upto_region 1 with fail
    rw [← E1.out]
    go_wp2_with fail
    go_ret
    exact ⟨rfl, BA.out⟩
  · have hv : nextK ((l.map Xt.re).drop k) p = p := by
      rw [List.drop_of_length_le (by rw [List.length_map, hl]; omega)]
      rfl
    show Calls _ _ _ _ fun o w' => o = .returned (.int .i64 (nextK ((l.map Xt.re).drop k) p)) ∧ _
    rw [hv]
    have t1 : decide ((k : Int) < n) = false := decide_eq_false (by omega)
    have t1n : decide (k < n) = false := decide_eq_false hk
    clear hw1 hl hr hv hk
    go_enter Try.func47, Try.ntmps47
    go_upto_region 1 with fail
    rw [← E1.out]
    go_wp2_with fail
    go_ret
    exact ⟨rfl, BA.out⟩
set_option maxHeartbeats 2000000 in
set_option maxRecDepth 100000 in
theorem cut_any (A : Option Addr) (n c : Nat) (w : World) (hA : 0 < n → ∃ b off, A = some ⟨b, off, none⟩) (hnc : n ≤ c) (hc : c ≤ 9223372036854775807) :
    Calls Try.prog 10 #[.slice A n c] w fun o w' => o = .returned (.slice A (min n 500) c) ∧ w = w' := by
  by_cases h : 500 < n
  · obtain ⟨b, off, rfl⟩ := hA (by omega)
    obtain ⟨s1, s2⟩ := slice_to b off n c 500 (by omega) (by omega)
    have t1 : decide (500 < (n : Int)) = true := decide_eq_true (by omega)
    have t1n : decide (500 < n) = true := decide_eq_true h
    have e : min n 500 = 500 := by omega
    rw [e]
    have s1 : ∀ W : World, (Instr.slice 22 (.slice (some ⟨b, off, none⟩) n c) none (some (.int .i64 500)) none).run Try.prog W = .ok (.slice (some ⟨b, off, none⟩) 500 c) W := s1
    have s2 : ∀ W : World, (Instr.sliceAt 22 (.slice (some ⟨b, off, none⟩) n c) none (some (.int .i64 500)) none).run Try.prog W = .ok (.slice (some ⟨b, off, none⟩) 500 c) W := s2
    clear e hA
    go_enter Try.func10, Try.ntmps10
    go_wp2_with fail
    go_ret
    exact ⟨rfl, rfl⟩
  · have t1 : decide (500 < (n : Int)) = false := decide_eq_false (by omega)
    have t1n : decide (500 < n) = false := decide_eq_false h
    have e : min n 500 = n := by omega
    rw [e]
    clear e hA
    go_enter Try.func10, Try.ntmps10
    go_wp2_with fail
    go_ret
    exact ⟨rfl, rfl⟩
set_option maxHeartbeats 4000000 in
set_option maxRecDepth 100000 in
theorem len_any (h : Hs) (A : Option Addr) (n c : Nat) (l : List Xt) (w : World) (hl : l.length = n) (hr : RdX w A l) (hn : n ≤ 8) (hd : ∀ x ∈ l, x.d.length ≤ 2047) :
    Calls Try.prog 20 #[.agg (h.cells (.slice A n c))] w fun o w' => o = .returned (.int .i64 (40 + extL (l.map Xt.re) : Nat)) ∧ Below w.heap.size w w' := by
  obtain ⟨cls, lab, hop, s6, sh, sl, d6, dh, dl, p⟩ := h
  obtain ⟨w1, hw1⟩ : ∃ w1, w1 = w.alloc (.cells #[.int .i64 cls, .int .i64 lab, .int .i64 hop, .bool s6, .int .u64 sh, .int .u64 sl, .bool d6, .int .u64 dh, .int .u64 dl, .slice A n c, .int .i64 p] 29) := ⟨_, rfl⟩
  have E1 := Lib.hid hw1
  have BA := Lib.hid (show Below w.heap.size w w1 from by rw [hw1]; exact (Below.refl _ _).alloc (Nat.le_refl _) _)
  have KB := Lib.hid (show Blk w1 w.heap.size 29 #[.int .i64 cls, .int .i64 lab, .int .i64 hop, .bool s6, .int .u64 sh, .int .u64 sl, .bool d6, .int .u64 dh, .int .u64 dl, .slice A n c, .int .i64 p] from by rw [hw1]; exact Blk.new w _ _)
  have HR1 := Lib.hid (hr.below BA.out)
  have SZ1 := Lib.hid (show w1.heap.size = w.heap.size + 1 from by rw [hw1]; simp)
  have HL := Lib.hid hl
  have x9 := KB.out.cell 9
  have x10 := KB.out.cell 10
  show Calls _ _ #[.agg #[.int .i64 cls, .int .i64 lab, .int .i64 hop, .bool s6, .int .u64 sh, .int .u64 sl, .bool d6, .int .u64 dh, .int .u64 dl, .slice A n c, .int .i64 p]] _ _
  have HD := Lib.hid (show ∀ k, k ≤ n → extL ((l.map Xt.re).take k) ≤ 2048 * k from fun k => by
    induction k with
    | zero => intro _; simp [extL]
    | succ k ih =>
      intro hk
      have hk2 : k < (l.map Xt.re).length := by rw [List.length_map, hl]; omega
      have := hd (l[k]'(by rw [hl]; omega)) (List.getElem_mem _)
      rw [List.take_succ_eq_append_getElem hk2]
      have e : extL ((l.map Xt.re).take k ++ [(l.map Xt.re)[k]]) = extL ((l.map Xt.re).take k) + (1 + (l[k]'(by rw [hl]; omega)).d.length) := by
        unfold extL
        rw [List.map_append, List.sum_append]
        simp [Xt.re]
      rw [e]
      have := ih (by omega)
      omega)
  have HST := Lib.hid (show ∀ k (hk : k < l.length), extL ((l.map Xt.re).take (k + 1)) = extL ((l.map Xt.re).take k) + (1 + l[k].d.length) from fun k hk => by
    have hk2 : k < (l.map Xt.re).length := by rw [List.length_map]; exact hk
    rw [List.take_succ_eq_append_getElem hk2]
    unfold extL
    rw [List.map_append, List.sum_append]
    simp [Xt.re])
  have HALL := Lib.hid (show extL ((l.map Xt.re).take n) = extL (l.map Xt.re) from by rw [List.take_of_length_le (by rw [List.length_map, hl]; exact Nat.le_refl _)])
  clear hw1 hl hr hd
  go_enter Try.func20, Try.ntmps20
  go_upto_region 3 with fail
  rw [← E1.out]
  go_loopw [3, 9] (fun tv iv wr => ∃ k v : Nat, k ≤ n ∧ iv = .int .i64 k ∧ tv = .int .i64 v ∧ Hid (v = 40 + extL ((l.map Xt.re).take k)) ∧ Hid (Below w1.heap.size w1 wr)) (fun _ i _ => n - (intOf i).toNat)
  case atStart => exact ⟨0, 40, by omega, rfl, rfl, Lib.hid (by simp [extL]), Lib.hid (Below.refl _ _)⟩
  case round =>
    obtain ⟨k, v, hk, rfl, rfl, HV, HB⟩ := hrel
    have hvb : v ≤ 40 + 2048 * k := by have := HV.out; have := HD.out k hk; omega
    by_cases hlt : k < n
    · have hkl : k < l.length := by rw [HL.out]; exact hlt
      obtain ⟨b, off, hA, hbl, hC⟩ := (HR1.out.below HB.out).at_ k hkl
      subst hA
      have hst := HST.out k hkl
      have hdk := HD.out (k + 1) (by omega)
      obtain ⟨e, he⟩ : ∃ e, e = l[k] := ⟨_, rfl⟩
      rw [← he] at hC hst
      obtain ⟨ek, eA, ec, ed⟩ := e
      obtain ⟨q, hq⟩ : ∃ q, q = ed.length := ⟨_, rfl⟩
      have d0 : wr.cell? ⟨b, off + k * 2, none⟩ = some (.int .i64 ek) := hC 0 (by omega)
      have d1 : wr.cell? ⟨b, off + k * 2 + 1, none⟩ = some (.slice eA q ec) := by rw [hq]; exact hC 1 (by omega)
      have HVN := Lib.hid (show v + (1 + q) = 40 + extL ((l.map Xt.re).take (k + 1)) from by rw [hst, HV.out, hq]; show _ = _; simp only [Nat.add_assoc])
      have hq9 : v + (1 + q) ≤ 40 + 2048 * (k + 1) := by have := HVN.out; omega
      obtain ⟨w3, hw3⟩ : ∃ w3, w3 = wr.alloc (.cells #[.int .i64 ek, .slice eA q ec] 73) := ⟨_, rfl⟩
      have E3 := Lib.hid hw3
      have B3 := Lib.hid (show Below wr.heap.size wr w3 from by rw [hw3]; exact (Below.refl _ _).alloc (Nat.le_refl _) _)
      have K3 := Lib.hid (show Blk w3 wr.heap.size 73 #[.int .i64 ek, .slice eA q ec] from by rw [hw3]; exact Blk.new wr _ _)
      have HB3 := Lib.hid (HB.out.trans (B3.out.mono HB.out.size))
      have j0 : (0 : Int) ≤ k := by omega
      have j1 : (k : Int) < n := by omega
      have t1 : decide ((k : Int) < n) = true := decide_eq_true j1
      have t1n : decide (k < n) = true := decide_eq_true hlt
      have wk : IntKind.i64.wrap ((k : Int) + 1) = (k : Int) + 1 := IntWalk.i64_in _ (by omega)
      have wq : IntKind.i64.wrap (1 + (q : Int)) = 1 + (q : Int) := IntWalk.i64_in _ (by omega)
      have wv : IntKind.i64.wrap ((v : Int) + (1 + (q : Int))) = ((v + (1 + q) : Nat) : Int) := by rw [IntWalk.i64_in _ (by omega)]; omega
      clear hw3 hC hst hdk he hq hkl hbl hlt x9 x10
      go_upto_region 5 with fail
      rw [← E3.out]
      have z1 := K3.out.cell 1
      go_wp2_with fail
      go_roundw
      case rel => exact ⟨k + 1, v + (1 + q), by omega, by go_num, by go_num, HVN, HB3⟩
      case measure => simp [intOf]; omega
    · obtain rfl : k = n := by omega
      have t1 : decide ((k : Int) < k) = false := decide_eq_false (by omega)
      have t1n : decide (k < k) = false := decide_eq_false (by omega)
      have hv : v = 40 + extL (l.map Xt.re) := by rw [HV.out, HALL.out]
      subst hv
      go_wp2_with fail
      go_ret
      exact ⟨rfl, BA.out.trans (HB.out.mono BA.out.size)⟩
end Go.Proofs.Ytndekicblbpkjaa.sixO
