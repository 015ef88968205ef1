/- Layer 23: what a set tells. -/
import Derived.Test.YtlihgiannfpjfaaEliA
import Derived.Deep.QuietTactic
import Derived.BigQuiet
namespace Go.Proofs.Ytlihgiannfpjfaa.eliB
open Go.ChangeShapes Go.WideShapes Go.ChangeAt Go.RowKit
open Go.Proofs.Ytlihgiannfpjfaa.base Go.Proofs.Ytlihgiannfpjfaa.dfA Go.Proofs.Ytlihgiannfpjfaa.treA Go.Proofs.Ytlihgiannfpjfaa.treB Go.Proofs.Ytlihgiannfpjfaa.treC Go.Proofs.Ytlihgiannfpjfaa.treD Go.Proofs.Ytlihgiannfpjfaa.treE Go.Proofs.Ytlihgiannfpjfaa.treG Go.Proofs.Ytlihgiannfpjfaa.treH Go.Proofs.Ytlihgiannfpjfaa.treM Go.Proofs.Ytlihgiannfpjfaa.treW Go.Proofs.Ytlihgiannfpjfaa.treP Go.Proofs.Ytlihgiannfpjfaa.eliW Go.Proofs.Ytlihgiannfpjfaa.eliA
set_option linter.unusedVariables false

/-- A set in memory. -/
structure SetOk (w : World) (S T g : Nat) (m : List Nd) (W : Nat → Int) : Prop where
  set : Blk w S 55 #[.pointer (some ⟨T, 0, none⟩), .slice (some ⟨g, 0, none⟩) m.length m.length]
  wts : ∃ cs, Blk w g 33 cs ∧ AtU m.length W cs
  tree : TreeOk w T m
theorem SetOk.below {w w' : World} {S T g : Nat} {m : List Nd} {W : Nat → Int} (h : SetOk w S T g m W) (hb : Below w.heap.size w w') : SetOk w' S T g m W := by
  obtain ⟨cs, h1, h2⟩ := h.wts
  exact ⟨h.set.below hb h.set.lt, ⟨cs, h1.below hb h1.lt, h2⟩, h.tree.below hb⟩
theorem setOk_of {w0 w : World} {T : Nat} {m : List Nd} {W : Nat → Int} (h : ESt w0 (some ⟨T, 0, none⟩) m.length W w) (ht : TreeOk w0 T m) : SetOk w (w0.heap.size + 1) T w0.heap.size m W := ⟨h.set, h.wts, ht.below h.bel⟩
theorem SetOk.cell {w : World} {S T g : Nat} {m : List Nd} {W : Nat → Int} (h : SetOk w S T g m W) {k : Nat} (hk : k < m.length) : w.cell? ⟨g, k, none⟩ = some (.int .u64 (W k)) := by
  obtain ⟨cs, h1, h2⟩ := h.wts
  exact (h1.cell k).trans (h2.2 k hk)
theorem below_n (w : World) (k : Nat) : Below w.heap.size w (w.drewN k) := ⟨rfl, rfl, rfl, Nat.le_refl _, fun _ _ => rfl⟩
set_option maxHeartbeats 2000000 in
theorem empty_x {w : World} {S T g : Nat} {m : List Nd} {W : Nat → Int} (h : SetOk w S T g m W) : Calls Try.prog 26 #[.pointer (some ⟨S, 0, none⟩)] w fun e w' => e = .returned (.bool false) ∧ w' = w := by
  have d0 : w.cell? ⟨S, 0, none⟩ = some (.pointer (some ⟨T, 0, none⟩)) := h.set.cell 0
  clear h
  go_enter Try.func26, Try.ntmps26
  go_wp2
  go_ret
  exact ⟨rfl, rfl⟩
/-- What a set says that node i weighs. -/
def wtOf (m : List Nd) (W : Nat → Int) (i : Int) : Int := if isB i m.length = true then W i.toNat else 0
set_option maxRecDepth 100000 in
set_option maxHeartbeats 8000000 in
theorem weight_x {w : World} {S T g : Nat} {m : List Nd} {W : Nat → Int} (h : SetOk w S T g m W) (i : Int) : Calls Try.prog 12 #[.pointer (some ⟨S, 0, none⟩), .int .i64 i] w fun e w' => e = .returned (.int .u64 (wtOf m W i)) ∧ ∃ q, w' = w.drewN q := by
  have HE := Lib.hid (fun k => empty_x (h.below (below_n w k)))
  have HL := Lib.hid (show ∀ k, Calls Try.prog 24 #[.pointer (some ⟨T, 0, none⟩)] (w.drewN k) fun e w' => e = .returned (.int .i64 m.length) ∧ w' = w.drewN k from fun k => by
    obtain ⟨A, c, K, kc, ht⟩ := (h.tree.below (below_n w k)).at_
    exact len_x ht)
  have d0 : w.cell? ⟨S, 0, none⟩ = some (.pointer (some ⟨T, 0, none⟩)) := h.set.cell 0
  have d1 : w.cell? ⟨S, 1, none⟩ = some (.slice (some ⟨g, 0, none⟩) m.length m.length) := h.set.cell 1
  have HC := Lib.hid (fun (k : Nat) (hk : k < m.length) => h.cell hk)
  obtain ⟨n, hn⟩ : ∃ n, n = m.length := ⟨_, rfl⟩
  have HN := Lib.hid hn
  rw [← hn] at HL d1
  clear h hn
  have t4 : min (n : Int) (n : Int) = (n : Int) := by omega
  obtain ⟨y, hy⟩ : ∃ y, y = wtOf m W i := ⟨_, rfl⟩
  have HY := Lib.hid hy
  rw [← hy]
  clear hy
  unfold wtOf at HY
  by_cases h0 : i < 0
  · have t1 : decide (i < 0) = true := decide_eq_true h0
    have HZ := Lib.hid (show isB i m.length = false from by unfold isB; simp only [Bool.and_eq_false_iff, decide_eq_false_iff_not]; omega)
    clear h0
    go_enter Try.func12, Try.ntmps12
    go_wp2_with fail
    go_quiet (first | (go_at_call 26; exact Calls.quiet_of_same (HE.out _)) | (go_at_call 24; exact Calls.quiet_of_same (HL.out _)))
    go_wp2_with fail
    go_ret
    exact ⟨by rw [HY.out, HZ.out]; rfl, _, rfl⟩
  · have t1 : decide (i < 0) = false := decide_eq_false h0
    by_cases h1 : i < n
    · obtain ⟨a, rfl⟩ : ∃ a : Nat, i = (a : Int) := ⟨i.toNat, by omega⟩
      have ha : a < m.length := by have := HN.out; omega
      have t2 : decide ((n : Int) ≤ a) = false := decide_eq_false (by omega)
      have t3 : decide (n ≤ a) = false := decide_eq_false (by omega)
      have HZ := Lib.hid (isB_nat ha)
      have c0 := HC.out a ha
      have j0 : (0 : Int) ≤ a := by omega
      have j1 : (a : Int) < n := h1
      clear h0 h1
      go_enter Try.func12, Try.ntmps12
      go_wp2_with fail
      go_quiet (first | (go_at_call 26; exact Calls.quiet_of_same (HE.out _)) | (go_at_call 24; exact Calls.quiet_of_same (HL.out _)))
      go_wp2_with fail
      go_ret
      exact ⟨by rw [HY.out, HZ.out, if_pos rfl, Int.toNat_natCast]; rfl, _, rfl⟩
    · have t2 : decide ((n : Int) ≤ i) = true := decide_eq_true (by omega)
      have HZ := Lib.hid (show isB i m.length = false from by unfold isB; simp only [Bool.and_eq_false_iff, decide_eq_false_iff_not]; have := HN.out; omega)
      clear h0 h1
      go_enter Try.func12, Try.ntmps12
      go_wp2_with fail
      go_quiet (first | (go_at_call 26; exact Calls.quiet_of_same (HE.out _)) | (go_at_call 24; exact Calls.quiet_of_same (HL.out _)))
      go_wp2_with fail
      go_ret
      exact ⟨by rw [HY.out, HZ.out]; rfl, _, rfl⟩
theorem has_x {w : World} {S T g : Nat} {m : List Nd} {W : Nat → Int} (h : SetOk w S T g m W) (i : Int) : Calls Try.prog 13 #[.pointer (some ⟨S, 0, none⟩), .int .i64 i] w fun e w' => e = .returned (.bool (wtOf m W i != 0)) ∧ ∃ q, w' = w.drewN q := by
  have HW := Lib.hid (weight_x h i)
  obtain ⟨x, hx⟩ : ∃ x, x = wtOf m W i := ⟨_, rfl⟩
  rw [← hx] at HW ⊢
  clear h hx
  go_enter Try.func13, Try.ntmps13
  go_wp2_with fail
  refine HW.out.mono ?_
  rintro o w1 ⟨rfl, q, rfl⟩
  go_wp2_with fail
  go_ret
  exact ⟨rfl, q, rfl⟩
/-- The nodes of a kind among the first j that weigh something. -/
def domL (m : List Nd) (W : Nat → Int) (kind : Int) : Nat → List Int
  | 0 => []
  | j + 1 => if ((ndAt m j).kind == kind && (wtOf m W j != 0)) = true then domL m W kind j ++ [(j : Int)] else domL m W kind j
theorem domL_len (m : List Nd) (W : Nat → Int) (kind : Int) (k : Nat) : (domL m W kind k).length ≤ k := by
  induction k with
  | zero => exact Nat.le_refl _
  | succ k ih =>
    unfold domL
    split
    · rw [List.length_append]; exact Nat.succ_le_succ ih
    · exact Nat.le_succ_of_le ih
set_option maxRecDepth 100000 in
set_option maxHeartbeats 8000000 in
theorem domains_any {w : World} {S T g : Nat} {m : List Nd} {W : Nat → Int} (h : SetOk w S T g m W) (kind : Int) :
    Calls Try.prog 18 #[.pointer (some ⟨S, 0, none⟩), .int .i64 kind] w fun o w' => ∃ v, o = .returned v ∧ OwnI w' w.heap.size v (domL m W kind m.length) ∧ Below w.heap.size w w' := by
  obtain ⟨i0, hi0, hz0, hz1, hz2⟩ := info_parts info_i
  have HI0 := Lib.hid hi0
  have HZ0 := Lib.hid hz0
  have HZ1 := Lib.hid hz1
  have HZ2 := Lib.hid hz2
  have HS := Lib.hid h
  have HE := Lib.hid (empty_x h)
  have hml := h.tree.len
  have BE := Lib.hid ((Below.refl w.heap.size w).alloc (Nat.le_refl _) (.cells #[] 3))
  have OE := Lib.hid (show OwnI (w.alloc (.cells #[] 3)) w.heap.size (.slice (some ⟨w.heap.size, 0, none⟩) 0 0) [] from World.ownsRow_made w #[] 0 (Nat.le_refl _) (Nat.zero_le _) rfl)
  have d1 : (w.alloc (.cells #[] 3)).cell? ⟨S, 0, none⟩ = some (.pointer (some ⟨T, 0, none⟩)) := (h.below BE.out).set.cell 0
  have HL := Lib.hid (show Calls Try.prog 24 #[.pointer (some ⟨T, 0, none⟩)] (w.alloc (.cells #[] 3)) fun e w' => e = .returned (.int .i64 m.length) ∧ w' = w.alloc (.cells #[] 3) from by
    obtain ⟨A, c, K, kc, ht⟩ := (h.below BE.out).tree.at_
    exact len_x ht)
  obtain ⟨n, hn⟩ : ∃ n, n = m.length := ⟨_, rfl⟩
  have HN := Lib.hid hn
  rw [← hn] at HL hml ⊢
  clear hi0 hz0 hz1 hz2 h hn
  go_enter Try.func18, Try.ntmps18
  go_wp2_with fail
  refine HE.out.mono ?_
  rintro o w1 ⟨rfl, rfl⟩
  go_wp2_with fail
  refine HL.out.mono ?_
  rintro o w2 ⟨rfl, rfl⟩
  clear d1
  go_wp2_with fail
  go_loopw [5, 15] (fun out i wr => ∃ j : Nat, i = .int .i64 j ∧ j ≤ n ∧ Hid (OwnI wr w1.heap.size out (domL m W kind j)) ∧ Hid (Below w1.heap.size w1 wr)) (fun _ i _ => n - (intOf i).toNat)
  case atStart => exact ⟨0, rfl, by omega, OE, BE⟩
  case round =>
    obtain ⟨j, rfl, hj, KO, KB⟩ := hrel
    by_cases hjn : j < n
    · have t1 : decide ((j : Int) < n) = true := decide_eq_true (by omega)
      have HNX := Lib.hid (show domL m W kind (j + 1) = if ((ndAt m j).kind == kind && (wtOf m W j != 0)) = true then domL m W kind j ++ [(j : Int)] else domL m W kind j from rfl)
      have HLE := Lib.hid (domL_len m W kind j)
      have d0 : wr.cell? ⟨S, 0, none⟩ = some (.pointer (some ⟨T, 0, none⟩)) := (HS.out.below KB.out).set.cell 0
      have HND := Lib.hid (show Calls Try.prog 25 #[.pointer (some ⟨T, 0, none⟩), .int .i64 (j : Int)] wr fun o w' => o = .returned (.agg (ndAt m j).cells) ∧ Below wr.heap.size wr w' from by
        obtain ⟨A2, c2, K2, kc2, ht2⟩ := (HS.out.below KB.out).tree.at_
        exact node_any ht2 j)
      obtain ⟨x, hx⟩ : ∃ x, x = wtOf m W j := ⟨_, rfl⟩
      have HX := Lib.hid hx
      rw [← hx] at HNX
      obtain ⟨e, he⟩ : ∃ e, e = ndAt m j := ⟨_, rfl⟩
      rw [← he] at HND HNX
      have hfd : ∀ W, (Instr.field 44 (.agg #[.string e.nm, .int .i64 e.kind, .int .i64 e.ab, .int .i64 e.wt, .bool e.v6, .int .u64 e.hi, .int .u64 e.lo]) 1).run Try.prog W = .ok (.int .i64 e.kind) W := fun _ => by kernel_rfl
      unfold Nd.cells at HND
      clear he hx
      go_wp2_with fail
      refine HND.out.mono ?_
      rintro o w3 ⟨rfl, hb⟩
      have B3 := Lib.hid (KB.out.trans (hb.mono KB.out.size))
      have O3 := Lib.hid (KO.out.below hb)
      have S3 := Lib.hid (HS.out.below B3.out)
      have HH := Lib.hid (has_x S3.out (j : Int))
      rw [← HX.out] at HH
      clear hb d0
      cases hm : (e.kind == kind) with
      | false =>
        rw [hm, Bool.false_and, if_neg (by decide)] at HNX
        go_wp2_with fail
        go_roundw
        case rel => exact ⟨j + 1, by go_num, by omega, by rw [HNX.out]; exact O3, B3⟩
        case measure => simp [intOf]; omega
      | true =>
        rw [hm, Bool.true_and] at HNX
        go_wp2_with fail
        refine HH.out.mono ?_
        rintro o w4 ⟨rfl, q, rfl⟩
        have B4 := Lib.hid (B3.out.trans ((below_n w3 q).mono B3.out.size))
        have O4 := Lib.hid (O3.out.below (below_n w3 q))
        cases hx : (x != 0) with
        | false =>
          rw [hx, if_neg (by decide)] at HNX
          go_wp2_with fail
          go_roundw
          case rel => exact ⟨j + 1, by go_num, by omega, by rw [HNX.out]; exact O4, B4⟩
          case measure => simp [intOf]; omega
        | true =>
          rw [hx, if_pos rfl] at HNX
          obtain ⟨w5, hw5⟩ : ∃ w5, w5 = w3.drewN q := ⟨_, rfl⟩
          rw [← hw5] at B4 O4 ⊢
          clear hw5
          have KO2 := Lib.hid (O4.out.alloc (.cells #[.int .i64 j] 3))
          have KB2 := Lib.hid (B4.out.alloc B4.out.size (.cells #[.int .i64 j] 3))
          have HNE := Lib.hid (show ∀ p u, [Value.int .i64 j][p]? = some u → (w5.alloc (.cells #[.int .i64 j] 3)).cell? ((⟨w5.heap.size, 0, none⟩ : Addr).add p) = some u from fun p u hu => by
            rw [Addr.add_lit, Nat.zero_add, (Blk.new w5 3 #[.int .i64 j]).cell p]
            have h2 : (#[Value.int .i64 j])[p]? = some u := by simpa using hu
            exact h2)
          have H1 := Lib.hid (show ∀ u ∈ [Value.int .i64 (j : Int)], u.oneCell' = true from fun u hu => by simp at hu; subst hu; rfl)
          have P1 := Lib.hid (show (domL m W kind j).length + 1 ≤ maxLen by unfold maxLen; have := HLE.out; omega)
          have P2 := Lib.hid (show ((domL m W kind j).length + 1) * 8 ≤ 140737488355328 by have := HLE.out; omega)
          have P3 := Lib.hid (show w1.heap.size ≤ (w5.alloc (.cells #[.int .i64 j] 3)).heap.size from KB2.out.size)
          go_wp2_with (at_builtin; refine wpList_append_own _ rfl (.tmp 32) (.tmp 34) _ rfl w1.heap.size 3 i0 _ 1 8 Try.underlying23 HI0.out HZ0.out HZ1.out HZ2.out rfl (by omega) _ (domL m W kind j).length ((domL m W kind j).map (Value.int .i64)) rfl KO2.out ⟨w5.heap.size, 0, none⟩ 1 1 [.int .i64 j] rfl rfl HNE.out H1.out P1.out P2.out P3.out ?_; intro v6 w6 ho hg _; have HO1 := Lib.hid (OwnI.snoc (l := domL m W kind j) ho); have HB1 := Lib.hid (KB2.out.grown hg P3.out (fun k hk => (KO2.out.lt k hk).1)); clear ho hg)
          go_roundw
          case rel => exact ⟨j + 1, by go_num, by omega, by rw [HNX.out]; exact HO1, HB1⟩
          case measure => simp [intOf]; omega
    · have t1 : decide ((j : Int) < n) = false := decide_eq_false (by omega)
      obtain rfl : n = j := by omega
      go_wp2_with fail
      go_ret
      exact ⟨_, rfl, KO.out, KB.out⟩
theorem list_any {w : World} {S T g : Nat} {m : List Nd} {W : Nat → Int} (h : SetOk w S T g m W) :
    Calls Try.prog 11 #[.pointer (some ⟨S, 0, none⟩)] w fun o w' => ∃ v, o = .returned v ∧ OwnI w' w.heap.size v (domL m W 4 m.length) ∧ Below w.heap.size w w' := by
  have HD := Lib.hid (domains_any h 4)
  clear h
  go_enter Try.func11, Try.ntmps11
  go_wp2_with fail
  refine HD.out.mono ?_
  rintro o w1 ⟨v, rfl, ho, hb⟩
  have H1 := Lib.hid ho
  have H2 := Lib.hid hb
  clear ho hb
  go_wp2_with fail
  go_ret
  exact ⟨v, rfl, H1.out, H2.out⟩
end Go.Proofs.Ytlihgiannfpjfaa.eliB
