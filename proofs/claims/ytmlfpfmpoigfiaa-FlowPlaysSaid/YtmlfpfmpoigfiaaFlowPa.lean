/- Layer 27: what its law has of lists. -/
import Derived.Test.YtmlfpfmpoigfiaaFlowGp
namespace Go.Proofs.Ytmlfpfmpoigfiaa.flowPa
open Go.ChangeShapes Go.WideShapes Go.ChangeAt Go.RowKit
open Go.Proofs.Ytmlfpfmpoigfiaa.base Go.Proofs.Ytmlfpfmpoigfiaa.flowA Go.Proofs.Ytmlfpfmpoigfiaa.flowB Go.Proofs.Ytmlfpfmpoigfiaa.flowC Go.Proofs.Ytmlfpfmpoigfiaa.flowD Go.Proofs.Ytmlfpfmpoigfiaa.flowE Go.Proofs.Ytmlfpfmpoigfiaa.flowF Go.Proofs.Ytmlfpfmpoigfiaa.flowG Go.Proofs.Ytmlfpfmpoigfiaa.flowH Go.Proofs.Ytmlfpfmpoigfiaa.flowI Go.Proofs.Ytmlfpfmpoigfiaa.flowL Go.Proofs.Ytmlfpfmpoigfiaa.flowM Go.Proofs.Ytmlfpfmpoigfiaa.flowN Go.Proofs.Ytmlfpfmpoigfiaa.flowO Go.Proofs.Ytmlfpfmpoigfiaa.flowP Go.Proofs.Ytmlfpfmpoigfiaa.flowQ Go.Proofs.Ytmlfpfmpoigfiaa.flowR Go.Proofs.Ytmlfpfmpoigfiaa.flowS Go.Proofs.Ytmlfpfmpoigfiaa.flowT Go.Proofs.Ytmlfpfmpoigfiaa.flowU Go.Proofs.Ytmlfpfmpoigfiaa.flowV Go.Proofs.Ytmlfpfmpoigfiaa.flowW Go.Proofs.Ytmlfpfmpoigfiaa.flowX Go.Proofs.Ytmlfpfmpoigfiaa.flowY Go.Proofs.Ytmlfpfmpoigfiaa.flowGo Go.Proofs.Ytmlfpfmpoigfiaa.flowGp
set_option linter.unusedVariables false

/-- A slice that reads as entries. -/
def RdE (w : World) (v : Value) (l : List Ent) : Prop := ∃ A c, v = .slice A l.length c ∧ l.length ≤ c ∧ c ≤ maxLen ∧ ((l = [] ∧ A = none ∧ c = 0) ∨ ∃ b, A = some ⟨b, 0, none⟩ ∧ b < w.heap.size ∧ ∀ j e, l[j]? = some e → ∀ i, i < 12 → w.cell? ⟨b, j * 12 + i, none⟩ = e.cells[i]?)
theorem RdE.nil (w : World) : RdE w (.slice none 0 0) [] := ⟨none, 0, rfl, Nat.le_refl _, Nat.zero_le _, .inl ⟨rfl, rfl, rfl⟩⟩
theorem RdE.far {w w' : World} {v : Value} {l : List Ent} (h : RdE w v l) (hb : ∀ k, v.ownBlock = some k → w'.heap[k]? = w.heap[k]?) : RdE w' v l := by
  obtain ⟨A, c, h1, h2, h3, h4⟩ := h
  refine ⟨A, c, h1, h2, h3, ?_⟩
  rcases h4 with h0 | ⟨b, e1, e2, e3⟩
  · exact .inl h0
  · have hk := hb b (by rw [h1, e1]; rfl)
    refine .inr ⟨b, e1, ?_, fun j e he i hi => ?_⟩
    · rw [Array.getElem?_eq_getElem e2] at hk
      exact (Array.getElem?_eq_some_iff.mp hk).1
    · rw [← e3 j e he i hi]
      unfold World.cell?
      rw [hk]
theorem RdE.below {w w' : World} {v : Value} {l : List Ent} (h : RdE w v l) (hb : Below w.heap.size w w') : RdE w' v l := by
  obtain ⟨A, c, h1, h2, h3, h4⟩ := h
  refine ⟨A, c, h1, h2, h3, ?_⟩
  rcases h4 with h0 | ⟨b, e1, e2, e3⟩
  · exact .inl h0
  · refine .inr ⟨b, e1, Nat.lt_of_lt_of_le e2 hb.size, fun j e he i hi => ?_⟩
    rw [← e3 j e he i hi]
    unfold World.cell?
    rw [hb.block b e2]
theorem flat_get : ∀ (l : List Ent) (j : Nat) (u : Value), (flat l)[j]? = some u → ∃ q i e, j = q * 12 + i ∧ i < 12 ∧ l[q]? = some e ∧ e.cells[i]? = some u
  | [], j, u, h => by cases h
  | e :: l, j, u, h => by
    have h : (e.cells.toList ++ flat l)[j]? = some u := h
    have hl : e.cells.toList.length = 12 := rfl
    by_cases hj : j < 12
    · rw [List.getElem?_append_left (by omega)] at h
      exact ⟨0, j, e, by omega, hj, rfl, by simpa using h⟩
    · rw [List.getElem?_append_right (by omega), hl] at h
      obtain ⟨q, i, e', h1, h2, h3, h4⟩ := flat_get l (j - 12) u h
      exact ⟨q + 1, i, e', by omega, h2, h3, h4⟩
theorem flat_at : ∀ (l : List Ent) (q i : Nat) (e : Ent), l[q]? = some e → i < 12 → (flat l)[q * 12 + i]? = e.cells[i]?
  | [], q, i, e, h, _ => by cases h
  | a :: l, 0, i, e, h, hi => by
    simp only [List.getElem?_cons_zero, Option.some.injEq] at h
    subst h
    show (a.cells.toList ++ flat l)[0 * 12 + i]? = _
    have hl : a.cells.toList.length = 12 := rfl
    rw [List.getElem?_append_left (by omega)]
    simp
  | a :: l, q + 1, i, e, h, hi => by
    show (a.cells.toList ++ flat l)[(q + 1) * 12 + i]? = _
    have hl : a.cells.toList.length = 12 := rfl
    rw [List.getElem?_append_right (by omega), hl, show (q + 1) * 12 + i - 12 = q * 12 + i by omega]
    exact flat_at l q i e h hi
theorem RdE.of_own {w : World} {B : Nat} {v : Value} {l : List Ent} (h : Own w B v l) : RdE w v l := by
  rcases h.2 with ⟨h0, h1⟩ | ⟨g, cap, cur, e1, e2, e3, e4, e5, e6, e7⟩
  · have : l = [] := List.eq_nil_of_length_eq_zero h1
    subst this
    rw [h0]
    exact RdE.nil w
  · refine ⟨_, cap, e1, e4, e5, .inr ⟨g, rfl, (Array.getElem?_eq_some_iff.mp e3).1, fun j e he i hi => ?_⟩⟩
    rw [Blk.cell (show Blk w g 33 cur from e3), ← flat_at l j i e he hi, ← e7, List.getElem?_take, if_pos]
    · simp
    · have := (List.getElem?_eq_some_iff.mp he).1
      omega
theorem RdE.at_ {w : World} {v : Value} {l : List Ent} (h : RdE w v l) (j : Nat) (hj : j < l.length) : ∃ b c, v = .slice (some ⟨b, 0, none⟩) l.length c ∧ l.length ≤ c ∧ c ≤ maxLen ∧ b < w.heap.size ∧ ∀ i, i < 12 → w.cell? ⟨b, j * 12 + i, none⟩ = (l[j]).cells[i]? := by
  obtain ⟨A, c, h1, h2, h3, h4⟩ := h
  rcases h4 with h0 | ⟨b, e1, e2, e3⟩
  · rw [h0.1] at hj; simp at hj
  · subst e1
    exact ⟨b, c, h1, h2, h3, e2, fun i hi => e3 j _ (List.getElem?_eq_getElem hj) i hi⟩
set_option maxHeartbeats 4000000 in
theorem find_law (x : Tup) (v : Value) (l : List Ent) (w : World) (hv : RdE w v l) (hl : l.length ≤ 5000) :
    Calls Try.prog 22 #[v, .agg x.cells] w fun o w' => ∃ at' : Int, o = .returned (.int .i64 at') ∧ Below w.heap.size w w' ∧ ((at' = -1 ∧ ∀ e, e ∈ l → e.x ≠ x) ∨ ∃ A e B, l = A ++ e :: B ∧ at' = (A.length : Int) ∧ e.x = x) := by
  have HV := Lib.hid hv
  obtain ⟨w1, hw1⟩ : ∃ w1, w1 = w.alloc (.cells #[.int .i64 x.pr, .bool x.s6, .int .u64 x.sh, .int .u64 x.sl, .bool x.d6, .int .u64 x.dh, .int .u64 x.dl, .int .i64 x.sp, .int .i64 x.dp] 26) := ⟨_, rfl⟩
  have HW := Lib.hid (show Below w.heap.size w w1 from hw1 ▸ (Below.refl w.heap.size w).alloc (Nat.le_refl _) _)
  have HK := Lib.hid (show Blk w1 w.heap.size 26 #[.int .i64 x.pr, .bool x.s6, .int .u64 x.sh, .int .u64 x.sl, .bool x.d6, .int .u64 x.dh, .int .u64 x.dl, .int .i64 x.sp, .int .i64 x.dp] from hw1 ▸ Blk.new w _ _)
  obtain ⟨A0, c0, hv1, hc1, hc2, _⟩ := hv
  unfold maxLen at hc2
  subst hv1
  obtain ⟨n, hn⟩ : ∃ n, n = l.length := ⟨_, rfl⟩
  have HNL := Lib.hid hn
  rw [← hn] at hl hc1 HV ⊢
  clear hn
  unfold Tup.cells
  go_enter Try.func22, Try.ntmps22
  go_wp2_with fail
  rw [← hw1]
  clear hw1
  go_loopw [5] (fun i wr => ∃ j : Nat, i = .int .i64 j ∧ j ≤ n ∧ Hid (∀ e, e ∈ l.take j → e.x ≠ x) ∧ Below w1.heap.size w1 wr) (fun i _ => n - (intOf i).toNat)
  case atStart => exact ⟨0, rfl, by omega, Lib.hid (fun e he => by simp at he), Below.refl _ _⟩
  case round =>
    obtain ⟨j, rfl, hj, HNO, hbel⟩ := hrel
    have KB := Lib.hid hbel
    clear hbel
    by_cases hjn : j < n
    · have t1 : decide ((j : Int) < n) = true := decide_eq_true (by omega)
      have hjl : j < l.length := HNL.out ▸ hjn
      obtain ⟨b, c, hvb, _, _, hbl, hC⟩ := RdE.at_ (HV.out.below (HW.out.trans (KB.out.mono HW.out.size))) j hjl
      rw [← HNL.out] at hvb
      obtain ⟨rfl, rfl⟩ : A0 = some ⟨b, 0, none⟩ ∧ c0 = c := by injection hvb with a b c; exact ⟨a, c⟩
      obtain ⟨e, he⟩ : ∃ e, e = l[j] := ⟨_, rfl⟩
      rw [← he] at hC
      have HE := Lib.hid he
      have d0 : wr.cell? ⟨b, j * 12, none⟩ = some (.int .i64 e.x.pr) := hC 0 (by omega)
      have d1 : wr.cell? ⟨b, j * 12 + 1, none⟩ = some (.bool e.x.s6) := hC 1 (by omega)
      have d2 : wr.cell? ⟨b, j * 12 + 2, none⟩ = some (.int .u64 e.x.sh) := hC 2 (by omega)
      have d3 : wr.cell? ⟨b, j * 12 + 3, none⟩ = some (.int .u64 e.x.sl) := hC 3 (by omega)
      have d4 : wr.cell? ⟨b, j * 12 + 4, none⟩ = some (.bool e.x.d6) := hC 4 (by omega)
      have d5 : wr.cell? ⟨b, j * 12 + 5, none⟩ = some (.int .u64 e.x.dh) := hC 5 (by omega)
      have d6 : wr.cell? ⟨b, j * 12 + 6, none⟩ = some (.int .u64 e.x.dl) := hC 6 (by omega)
      have d7 : wr.cell? ⟨b, j * 12 + 7, none⟩ = some (.int .i64 e.x.sp) := hC 7 (by omega)
      have d8 : wr.cell? ⟨b, j * 12 + 8, none⟩ = some (.int .i64 e.x.dp) := hC 8 (by omega)
      have k0 : wr.cell? ⟨w.heap.size, 0, none⟩ = some (.int .i64 x.pr) := (show Blk wr w.heap.size 26 #[.int .i64 x.pr, .bool x.s6, .int .u64 x.sh, .int .u64 x.sl, .bool x.d6, .int .u64 x.dh, .int .u64 x.dl, .int .i64 x.sp, .int .i64 x.dp] from (KB.out.block _ HK.out.lt).trans HK.out).cell 0
      have k1 : wr.cell? ⟨w.heap.size, 1, none⟩ = some (.bool x.s6) := (show Blk wr w.heap.size 26 #[.int .i64 x.pr, .bool x.s6, .int .u64 x.sh, .int .u64 x.sl, .bool x.d6, .int .u64 x.dh, .int .u64 x.dl, .int .i64 x.sp, .int .i64 x.dp] from (KB.out.block _ HK.out.lt).trans HK.out).cell 1
      have k2 : wr.cell? ⟨w.heap.size, 2, none⟩ = some (.int .u64 x.sh) := (show Blk wr w.heap.size 26 #[.int .i64 x.pr, .bool x.s6, .int .u64 x.sh, .int .u64 x.sl, .bool x.d6, .int .u64 x.dh, .int .u64 x.dl, .int .i64 x.sp, .int .i64 x.dp] from (KB.out.block _ HK.out.lt).trans HK.out).cell 2
      have k3 : wr.cell? ⟨w.heap.size, 3, none⟩ = some (.int .u64 x.sl) := (show Blk wr w.heap.size 26 #[.int .i64 x.pr, .bool x.s6, .int .u64 x.sh, .int .u64 x.sl, .bool x.d6, .int .u64 x.dh, .int .u64 x.dl, .int .i64 x.sp, .int .i64 x.dp] from (KB.out.block _ HK.out.lt).trans HK.out).cell 3
      have k4 : wr.cell? ⟨w.heap.size, 4, none⟩ = some (.bool x.d6) := (show Blk wr w.heap.size 26 #[.int .i64 x.pr, .bool x.s6, .int .u64 x.sh, .int .u64 x.sl, .bool x.d6, .int .u64 x.dh, .int .u64 x.dl, .int .i64 x.sp, .int .i64 x.dp] from (KB.out.block _ HK.out.lt).trans HK.out).cell 4
      have k5 : wr.cell? ⟨w.heap.size, 5, none⟩ = some (.int .u64 x.dh) := (show Blk wr w.heap.size 26 #[.int .i64 x.pr, .bool x.s6, .int .u64 x.sh, .int .u64 x.sl, .bool x.d6, .int .u64 x.dh, .int .u64 x.dl, .int .i64 x.sp, .int .i64 x.dp] from (KB.out.block _ HK.out.lt).trans HK.out).cell 5
      have k6 : wr.cell? ⟨w.heap.size, 6, none⟩ = some (.int .u64 x.dl) := (show Blk wr w.heap.size 26 #[.int .i64 x.pr, .bool x.s6, .int .u64 x.sh, .int .u64 x.sl, .bool x.d6, .int .u64 x.dh, .int .u64 x.dl, .int .i64 x.sp, .int .i64 x.dp] from (KB.out.block _ HK.out.lt).trans HK.out).cell 6
      have k7 : wr.cell? ⟨w.heap.size, 7, none⟩ = some (.int .i64 x.sp) := (show Blk wr w.heap.size 26 #[.int .i64 x.pr, .bool x.s6, .int .u64 x.sh, .int .u64 x.sl, .bool x.d6, .int .u64 x.dh, .int .u64 x.dl, .int .i64 x.sp, .int .i64 x.dp] from (KB.out.block _ HK.out.lt).trans HK.out).cell 7
      have k8 : wr.cell? ⟨w.heap.size, 8, none⟩ = some (.int .i64 x.dp) := (show Blk wr w.heap.size 26 #[.int .i64 x.pr, .bool x.s6, .int .u64 x.sh, .int .u64 x.sl, .bool x.d6, .int .u64 x.dh, .int .u64 x.dl, .int .i64 x.sp, .int .i64 x.dp] from (KB.out.block _ HK.out.lt).trans HK.out).cell 8
      have j0 : (0 : Int) ≤ j := by omega
      have j1 : (j : Int) < n := by omega
      clear hC hvb he
      by_cases hx : e.x = x
      · have heq : ∀ W : World, (binOp .eql 26 (.agg #[.int .i64 e.x.pr, .bool e.x.s6, .int .u64 e.x.sh, .int .u64 e.x.sl, .bool e.x.d6, .int .u64 e.x.dh, .int .u64 e.x.dl, .int .i64 e.x.sp, .int .i64 e.x.dp]) (.agg #[.int .i64 x.pr, .bool x.s6, .int .u64 x.sh, .int .u64 x.sl, .bool x.d6, .int .u64 x.dh, .int .u64 x.dl, .int .i64 x.sp, .int .i64 x.dp])).run Try.prog W = .ok (.bool true) W := fun W => by
          have := tup_eq e.x x W
          rw [show sameT e.x x = true from (sameT_iff _ _).mpr hx] at this
          exact this
        have HX := Lib.hid hx
        clear hx
        go_wp2_with fail
        go_region
        all_goals
          go_wp2_with fail
          go_ret
          refine ⟨(j : Int), rfl, ?_, .inr ⟨l.take j, e, l.drop (j + 1), ?_, ?_, HX.out⟩⟩
          · exact (HW.out.trans (KB.out.mono HW.out.size)).drew
          · rw [HE.out, ← List.drop_eq_getElem_cons, List.take_append_drop]
          · rw [List.length_take, Nat.min_eq_left (by omega)]
      · have heq : ∀ W : World, (binOp .eql 26 (.agg #[.int .i64 e.x.pr, .bool e.x.s6, .int .u64 e.x.sh, .int .u64 e.x.sl, .bool e.x.d6, .int .u64 e.x.dh, .int .u64 e.x.dl, .int .i64 e.x.sp, .int .i64 e.x.dp]) (.agg #[.int .i64 x.pr, .bool x.s6, .int .u64 x.sh, .int .u64 x.sl, .bool x.d6, .int .u64 x.dh, .int .u64 x.dl, .int .i64 x.sp, .int .i64 x.dp])).run Try.prog W = .ok (.bool false) W := fun W => by
          have := tup_eq e.x x W
          rw [sameT_no hx] at this
          exact this
        have HX := Lib.hid (show ∀ e0, e0 ∈ l.take (j + 1) → e0.x ≠ x from fun e0 h0 => by
          rw [List.take_add_one, List.mem_append] at h0
          rcases h0 with h0 | h0
          · exact HNO.out e0 h0
          · rw [List.getElem?_eq_getElem hjl, ← HE.out] at h0
            simp at h0
            rw [h0]
            exact hx)
        clear hx
        go_wp2_with fail
        go_region
        all_goals
          go_wp2_with fail
          go_roundw
          case rel => exact ⟨j + 1, by go_num, by omega, HX, KB.out.drew⟩
          case measure => simp [intOf]; omega
    · have t1 : decide ((j : Int) < n) = false := decide_eq_false (by omega)
      have HF := Lib.hid (show ∀ e, e ∈ l → e.x ≠ x from fun e he => HNO.out e (by rw [List.take_of_length_le (by rw [← HNL.out]; omega)]; exact he))
      go_wp2_with fail
      go_ret
      refine ⟨-1, rfl, ?_, .inl ⟨rfl, HF.out⟩⟩
      first | exact HW.out.trans (KB.out.mono HW.out.size) | exact (HW.out.trans (KB.out.mono HW.out.size)).drew
/-- A list without one, as far as it has been read. -/
def woN (l : List Ent) (at' : Int) : Nat → List Ent
  | 0 => []
  | i + 1 => woN l at' i ++ (if (i : Int) = at' then [] else l[i]?.toList)
theorem woN_le (l : List Ent) (at' : Int) : ∀ i, (woN l at' i).length ≤ i
  | 0 => Nat.le_refl _
  | i + 1 => by
    have := woN_le l at' i
    unfold woN
    rw [List.length_append]
    split
    · simp; omega
    · cases l[i]? <;> simp <;> omega
theorem woN_none (l : List Ent) : ∀ i, i ≤ l.length → woN l (-1) i = l.take i
  | 0, _ => rfl
  | i + 1, h => by
    unfold woN
    rw [woN_none l i (by omega), if_neg (by omega), List.take_add_one]
theorem woN_take (l : List Ent) (k : Nat) : ∀ i, i ≤ k → i ≤ l.length → woN l (k : Int) i = l.take i
  | 0, _, _ => rfl
  | i + 1, h, h2 => by
    unfold woN
    rw [woN_take l k i (by omega) (by omega), if_neg (by omega), List.take_add_one]
theorem woN_at (A B : List Ent) (e : Ent) : ∀ i, i ≤ B.length → woN (A ++ e :: B) (A.length : Int) (A.length + 1 + i) = A ++ B.take i
  | 0, _ => by
    show woN _ _ (A.length + 1) = _
    unfold woN
    rw [woN_take _ _ _ (Nat.le_refl _) (by simp), if_pos rfl]
    simp
  | i + 1, h => by
    show woN _ _ (A.length + 1 + i + 1) = _
    unfold woN
    rw [woN_at A B e i (by omega), if_neg (by omega), List.getElem?_append_right (by omega), show A.length + 1 + i - A.length = i + 1 by omega, List.getElem?_cons_succ, List.append_assoc, List.take_add_one]
theorem wo_split (A B : List Ent) (e : Ent) : woN (A ++ e :: B) (A.length : Int) (A ++ e :: B).length = A ++ B := by
  have := woN_at A B e B.length (Nat.le_refl _)
  rw [List.take_length] at this
  rw [← this]
  congr 1
  simp
  omega
theorem wo_none (l : List Ent) : woN l (-1) l.length = l := by rw [woN_none l _ (Nat.le_refl _), List.take_length]
set_option maxHeartbeats 4000000 in
theorem without_law (at' : Int) (v : Value) (l : List Ent) (w : World) (hv : RdE w v l) (hl : l.length ≤ 5000) :
    Calls Try.prog 41 #[v, .int .i64 at'] w fun o w' => ∃ v', o = .returned v' ∧ Own w' w.heap.size v' (woN l at' l.length) ∧ Below w.heap.size w w' := by
  obtain ⟨i0, hi0, hz0, hz1, hz2⟩ := info_parts info_e
  have HI0 := Lib.hid hi0
  have HZ0 := Lib.hid hz0
  have HZ1 := Lib.hid hz1
  have HZ2 := Lib.hid hz2
  clear hi0 hz0 hz1 hz2
  have HV := Lib.hid hv
  obtain ⟨A0, c0, hv1, hc1, hc2, _⟩ := hv
  unfold maxLen at hc2
  subst hv1
  obtain ⟨n, hn⟩ : ∃ n, n = l.length := ⟨_, rfl⟩
  have HNL := Lib.hid hn
  rw [← hn] at hl hc1 HV ⊢
  clear hn
  go_enter Try.func41, Try.ntmps41
  go_wp2_with fail
  go_loopw [5, 6] (fun out i wr => ∃ j : Nat, i = .int .i64 j ∧ j ≤ n ∧ Own wr w.heap.size out (woN l at' j) ∧ Below w.heap.size w wr) (fun _ i _ => n - (intOf i).toNat)
  case atStart => exact ⟨0, rfl, by omega, Own.nil _ _, Below.refl _ _⟩
  case round =>
    obtain ⟨j, rfl, hj, how, hbel⟩ := hrel
    have KO := Lib.hid how
    have KB := Lib.hid hbel
    clear how hbel
    by_cases hjn : j < n
    · have t1 : decide ((j : Int) < n) = true := decide_eq_true (by omega)
      by_cases hat : (j : Int) = at'
      · have t2 : ((j : Int) != at') = false := by rw [hat]; simp
        have HO2 := Lib.hid (show Own wr w.heap.size u5 (woN l at' (j + 1)) from by
          unfold woN
          rw [if_pos hat, List.append_nil]
          exact KO.out)
        clear hat
        go_wp2_with fail
        go_roundw
        case rel => exact ⟨j + 1, by go_num, by omega, HO2.out, KB.out⟩
        case measure => simp [intOf]; omega
      · have t2 : ((j : Int) != at') = true := by simp [hat]
        have hjl : j < l.length := HNL.out ▸ hjn
        obtain ⟨b, c, hvb, _, _, hbl, hC⟩ := RdE.at_ (HV.out.below KB.out) j hjl
        rw [← HNL.out] at hvb
        obtain ⟨rfl, rfl⟩ : A0 = some ⟨b, 0, none⟩ ∧ c0 = c := by injection hvb with a b c; exact ⟨a, c⟩
        obtain ⟨e, he⟩ : ∃ e, e = l[j] := ⟨_, rfl⟩
        rw [← he] at hC
        have HE := Lib.hid (show woN l at' (j + 1) = woN l at' j ++ [e] from by
          conv => lhs; unfold woN
          rw [if_neg hat, List.getElem?_eq_getElem hjl, ← he]
          rfl)
        have d0 : wr.cell? ⟨b, j * 12, none⟩ = some (.int .i64 e.x.pr) := hC 0 (by omega)
        have d1 : wr.cell? ⟨b, j * 12 + 1, none⟩ = some (.bool e.x.s6) := hC 1 (by omega)
        have d2 : wr.cell? ⟨b, j * 12 + 2, none⟩ = some (.int .u64 e.x.sh) := hC 2 (by omega)
        have d3 : wr.cell? ⟨b, j * 12 + 3, none⟩ = some (.int .u64 e.x.sl) := hC 3 (by omega)
        have d4 : wr.cell? ⟨b, j * 12 + 4, none⟩ = some (.bool e.x.d6) := hC 4 (by omega)
        have d5 : wr.cell? ⟨b, j * 12 + 5, none⟩ = some (.int .u64 e.x.dh) := hC 5 (by omega)
        have d6 : wr.cell? ⟨b, j * 12 + 6, none⟩ = some (.int .u64 e.x.dl) := hC 6 (by omega)
        have d7 : wr.cell? ⟨b, j * 12 + 7, none⟩ = some (.int .i64 e.x.sp) := hC 7 (by omega)
        have d8 : wr.cell? ⟨b, j * 12 + 8, none⟩ = some (.int .i64 e.x.dp) := hC 8 (by omega)
        have d9 : wr.cell? ⟨b, j * 12 + 9, none⟩ = some (.int .i64 e.host) := hC 9 (by omega)
        have d10 : wr.cell? ⟨b, j * 12 + 10, none⟩ = some (.int .i64 e.state) := hC 10 (by omega)
        have d11 : wr.cell? ⟨b, j * 12 + 11, none⟩ = some (.int .i64 e.till) := hC 11 (by omega)
        have j0 : (0 : Int) ≤ j := by omega
        have j1 : (j : Int) < n := by omega
        have hwl := woN_le l at' j
        have KO2 := Lib.hid (KO.out.alloc (.cells #[.int .i64 e.x.pr, .bool e.x.s6, .int .u64 e.x.sh, .int .u64 e.x.sl, .bool e.x.d6, .int .u64 e.x.dh, .int .u64 e.x.dl, .int .i64 e.x.sp, .int .i64 e.x.dp, .int .i64 e.host, .int .i64 e.state, .int .i64 e.till] 33))
        have KB2 := Lib.hid (KB.out.alloc KB.out.size (.cells #[.int .i64 e.x.pr, .bool e.x.s6, .int .u64 e.x.sh, .int .u64 e.x.sl, .bool e.x.d6, .int .u64 e.x.dh, .int .u64 e.x.dl, .int .i64 e.x.sp, .int .i64 e.x.dp, .int .i64 e.host, .int .i64 e.state, .int .i64 e.till] 33))
        have HNE := Lib.hid (show ∀ j u, e.cells.toList[j]? = some u → (wr.alloc (.cells #[.int .i64 e.x.pr, .bool e.x.s6, .int .u64 e.x.sh, .int .u64 e.x.sl, .bool e.x.d6, .int .u64 e.x.dh, .int .u64 e.x.dl, .int .i64 e.x.sp, .int .i64 e.x.dp, .int .i64 e.host, .int .i64 e.state, .int .i64 e.till] 33)).cell? ((⟨wr.heap.size, 0, none⟩ : Addr).add j) = some u from fun j u hu => by
          rw [Addr.add_lit, Nat.zero_add, (Blk.new wr _ _).cell j]
          have h2 : e.cells[j]? = some u := by simpa using hu
          exact h2)
        have P1 := Lib.hid (show (woN l at' j).length + 1 ≤ maxLen by unfold maxLen; omega)
        have P2 := Lib.hid (show ((woN l at' j).length + 1) * 96 ≤ 140737488355328 by omega)
        have P3 := Lib.hid (show w.heap.size ≤ (wr.alloc (.cells #[.int .i64 e.x.pr, .bool e.x.s6, .int .u64 e.x.sh, .int .u64 e.x.sl, .bool e.x.d6, .int .u64 e.x.dh, .int .u64 e.x.dl, .int .i64 e.x.sp, .int .i64 e.x.dp, .int .i64 e.host, .int .i64 e.state, .int .i64 e.till] 33)).heap.size from KB2.out.size)
        clear hC hvb he hat hwl
        go_wp2_with (at_builtin; refine wpList_append_own _ rfl (.tmp 16) (.tmp 21) _ rfl w.heap.size 33 i0 _ 12 96 Try.underlying39 HI0.out HZ0.out HZ1.out HZ2.out rfl (by omega) _ (woN l at' j).length (flat (woN l at' j)) rfl KO2.out ⟨wr.heap.size, 0, none⟩ 1 1 e.cells.toList rfl rfl HNE.out (one_el _) P1.out P2.out P3.out ?_; intro v1 w1 ho hg _; have HO1 := Lib.hid (show Own w1 w.heap.size v1 (woN l at' j ++ [e]) by (have := ho; rw [← flat_snoc] at this; simpa [Own] using this)); have HB1 := Lib.hid (KB2.out.grown hg P3.out (fun k hk => (KO2.out.lt k hk).1)); clear ho hg)
        go_roundw
        case rel => exact ⟨j + 1, by go_num, by omega, by rw [HE.out]; exact HO1.out, HB1.out⟩
        case measure => simp [intOf]; omega
    · have t1 : decide ((j : Int) < n) = false := decide_eq_false (by omega)
      obtain rfl : n = j := by omega
      go_wp2_with fail
      go_ret
      exact ⟨_, rfl, KO.out, KB.out⟩
end Go.Proofs.Ytmlfpfmpoigfiaa.flowPa
