/- 2 texts in one. -/
import Derived.Deep.QuietTactic
import Derived.BigQuiet
import Derived.Test.YtoaboklckkcjcaaGreatPk09
/- Layer 23: what a set tells. -/
namespace Go.Proofs.YtoaboklckkcjcaaGreat.eliB
open Go.ChangeShapes Go.WideShapes Go.ChangeAt Go.RowKit
open Go.Proofs.YtoaboklckkcjcaaGreat.base Go.Proofs.YtoaboklckkcjcaaGreat.dfA Go.Proofs.YtoaboklckkcjcaaGreat.treA Go.Proofs.YtoaboklckkcjcaaGreat.treB Go.Proofs.YtoaboklckkcjcaaGreat.treC Go.Proofs.YtoaboklckkcjcaaGreat.treD Go.Proofs.YtoaboklckkcjcaaGreat.treE Go.Proofs.YtoaboklckkcjcaaGreat.treG Go.Proofs.YtoaboklckkcjcaaGreat.treH Go.Proofs.YtoaboklckkcjcaaGreat.treM Go.Proofs.YtoaboklckkcjcaaGreat.treW Go.Proofs.YtoaboklckkcjcaaGreat.treP Go.Proofs.YtoaboklckkcjcaaGreat.eliW Go.Proofs.YtoaboklckkcjcaaGreat.eliA
set_option linter.unusedVariables false

/-- A set in memory. -/
structure SetOk (w : World) (S T g : Nat) (m : List Nd) (W : Nat → Int) : Prop where
  set : Blk w S 93 #[.pointer (some ⟨T, 0, none⟩), .slice (some ⟨g, 0, none⟩) m.length m.length]
  wts : ∃ cs, Blk w g 24 cs ∧ AtU m.length W cs
  tree : TreeOk w T m
theorem SetOk.below {w w' : World} {S T g : Nat} {m : List Nd} {W : Nat → Int} (h : SetOk w S T g m W) (hb : Below w.heap.size w w') : SetOk w' S T g m W := by
  obtain ⟨cs, h1, h2⟩ := h.wts
  exact ⟨h.set.below hb h.set.lt, ⟨cs, h1.below hb h1.lt, h2⟩, h.tree.below hb⟩
theorem setOk_of {w0 w : World} {T : Nat} {m : List Nd} {W : Nat → Int} (h : ESt w0 (some ⟨T, 0, none⟩) m.length W w) (ht : TreeOk w0 T m) : SetOk w (w0.heap.size + 1) T w0.heap.size m W := ⟨h.set, h.wts, ht.below h.bel⟩
theorem SetOk.cell {w : World} {S T g : Nat} {m : List Nd} {W : Nat → Int} (h : SetOk w S T g m W) {k : Nat} (hk : k < m.length) : w.cell? ⟨g, k, none⟩ = some (.int .u64 (W k)) := by
  obtain ⟨cs, h1, h2⟩ := h.wts
  exact (h1.cell k).trans (h2.2 k hk)
theorem below_n (w : World) (k : Nat) : Below w.heap.size w (w.drewN k) := ⟨rfl, rfl, rfl, Nat.le_refl _, fun _ _ => rfl⟩
set_option maxHeartbeats 2000000 in
theorem empty_x {w : World} {S T g : Nat} {m : List Nd} {W : Nat → Int} (h : SetOk w S T g m W) : Calls Tryz.prog 62 #[.pointer (some ⟨S, 0, none⟩)] w fun e w' => e = .returned (.bool false) ∧ w' = w := by
  have d0 : w.cell? ⟨S, 0, none⟩ = some (.pointer (some ⟨T, 0, none⟩)) := h.set.cell 0
  clear h
  go_enter Tryz.func62, Tryz.ntmps62
  go_wp2
  go_ret
  exact ⟨rfl, rfl⟩
/-- What a set says that node i weighs. -/
def wtOf (m : List Nd) (W : Nat → Int) (i : Int) : Int := if isB i m.length = true then W i.toNat else 0
set_option maxRecDepth 100000 in
set_option maxHeartbeats 8000000 in
theorem weight_x {w : World} {S T g : Nat} {m : List Nd} {W : Nat → Int} (h : SetOk w S T g m W) (i : Int) : Calls Tryz.prog 29 #[.pointer (some ⟨S, 0, none⟩), .int .i64 i] w fun e w' => e = .returned (.int .u64 (wtOf m W i)) ∧ ∃ q, w' = w.drewN q := by
  have HE := Lib.hid (fun k => empty_x (h.below (below_n w k)))
  have HL := Lib.hid (show ∀ k, Calls Tryz.prog 42 #[.pointer (some ⟨T, 0, none⟩)] (w.drewN k) fun e w' => e = .returned (.int .i64 m.length) ∧ w' = w.drewN k from fun k => by
    obtain ⟨A, c, K, kc, ht⟩ := (h.tree.below (below_n w k)).at_
    exact len_x ht)
  have d0 : w.cell? ⟨S, 0, none⟩ = some (.pointer (some ⟨T, 0, none⟩)) := h.set.cell 0
  have d1 : w.cell? ⟨S, 1, none⟩ = some (.slice (some ⟨g, 0, none⟩) m.length m.length) := h.set.cell 1
  have HC := Lib.hid (fun (k : Nat) (hk : k < m.length) => h.cell hk)
  obtain ⟨n, hn⟩ : ∃ n, n = m.length := ⟨_, rfl⟩
  have HN := Lib.hid hn
  rw [← hn] at HL d1
  clear h hn
  have t4 : min (n : Int) (n : Int) = (n : Int) := by omega
  obtain ⟨y, hy⟩ : ∃ y, y = wtOf m W i := ⟨_, rfl⟩
  have HY := Lib.hid hy
  rw [← hy]
  clear hy
  unfold wtOf at HY
  by_cases h0 : i < 0
  · have t1 : decide (i < 0) = true := decide_eq_true h0
    have HZ := Lib.hid (show isB i m.length = false from by unfold isB; simp only [Bool.and_eq_false_iff, decide_eq_false_iff_not]; omega)
    clear h0
    go_enter Tryz.func29, Tryz.ntmps29
    go_wp2_with fail
    go_quiet (first | (go_at_call 62; exact Calls.quiet_of_same (HE.out _)) | (go_at_call 42; exact Calls.quiet_of_same (HL.out _)))
    go_wp2_with fail
    go_ret
    exact ⟨by rw [HY.out, HZ.out]; rfl, _, rfl⟩
  · have t1 : decide (i < 0) = false := decide_eq_false h0
    by_cases h1 : i < n
    · obtain ⟨a, rfl⟩ : ∃ a : Nat, i = (a : Int) := ⟨i.toNat, by omega⟩
      have ha : a < m.length := by have := HN.out; omega
      have t2 : decide ((n : Int) ≤ a) = false := decide_eq_false (by omega)
      have t3 : decide (n ≤ a) = false := decide_eq_false (by omega)
      have HZ := Lib.hid (isB_nat ha)
      have c0 := HC.out a ha
      have j0 : (0 : Int) ≤ a := by omega
      have j1 : (a : Int) < n := h1
      clear h0 h1
      go_enter Tryz.func29, Tryz.ntmps29
      go_wp2_with fail
      go_quiet (first | (go_at_call 62; exact Calls.quiet_of_same (HE.out _)) | (go_at_call 42; exact Calls.quiet_of_same (HL.out _)))
      go_wp2_with fail
      go_ret
      exact ⟨by rw [HY.out, HZ.out, if_pos rfl, Int.toNat_natCast]; rfl, _, rfl⟩
    · have t2 : decide ((n : Int) ≤ i) = true := decide_eq_true (by omega)
      have HZ := Lib.hid (show isB i m.length = false from by unfold isB; simp only [Bool.and_eq_false_iff, decide_eq_false_iff_not]; have := HN.out; omega)
      clear h0 h1
      go_enter Tryz.func29, Tryz.ntmps29
      go_wp2_with fail
      go_quiet (first | (go_at_call 62; exact Calls.quiet_of_same (HE.out _)) | (go_at_call 42; exact Calls.quiet_of_same (HL.out _)))
      go_wp2_with fail
      go_ret
      exact ⟨by rw [HY.out, HZ.out]; rfl, _, rfl⟩
theorem has_x {w : World} {S T g : Nat} {m : List Nd} {W : Nat → Int} (h : SetOk w S T g m W) (i : Int) : Calls Tryz.prog 47 #[.pointer (some ⟨S, 0, none⟩), .int .i64 i] w fun e w' => e = .returned (.bool (wtOf m W i != 0)) ∧ ∃ q, w' = w.drewN q := by
  have HW := Lib.hid (weight_x h i)
  obtain ⟨x, hx⟩ : ∃ x, x = wtOf m W i := ⟨_, rfl⟩
  rw [← hx] at HW ⊢
  clear h hx
  go_enter Tryz.func47, Tryz.ntmps47
  go_wp2_with fail
  refine HW.out.mono ?_
  rintro o w1 ⟨rfl, q, rfl⟩
  go_wp2_with fail
  go_ret
  exact ⟨rfl, q, rfl⟩
/-- The nodes of a kind among the first j that weigh something. -/
def domL (m : List Nd) (W : Nat → Int) (kind : Int) : Nat → List Int
  | 0 => []
  | j + 1 => if ((ndAt m j).kind == kind && (wtOf m W j != 0)) = true then domL m W kind j ++ [(j : Int)] else domL m W kind j
theorem domL_len (m : List Nd) (W : Nat → Int) (kind : Int) (k : Nat) : (domL m W kind k).length ≤ k := by
  induction k with
  | zero => exact Nat.le_refl _
  | succ k ih =>
    unfold domL
    split
    · rw [List.length_append]; exact Nat.succ_le_succ ih
    · exact Nat.le_succ_of_le ih
set_option maxRecDepth 100000 in
set_option maxHeartbeats 8000000 in
theorem domains_any {w : World} {S T g : Nat} {m : List Nd} {W : Nat → Int} (h : SetOk w S T g m W) (kind : Int) :
    Calls Tryz.prog 28 #[.pointer (some ⟨S, 0, none⟩), .int .i64 kind] w fun o w' => ∃ v, o = .returned v ∧ OwnI w' w.heap.size v (domL m W kind m.length) ∧ Below w.heap.size w w' := by
  obtain ⟨i0, hi0, hz0, hz1, hz2⟩ := info_parts info_i
  have HI0 := Lib.hid hi0
  have HZ0 := Lib.hid hz0
  have HZ1 := Lib.hid hz1
  have HZ2 := Lib.hid hz2
  have HS := Lib.hid h
  have HE := Lib.hid (empty_x h)
  have hml := h.tree.len
  have BE := Lib.hid ((Below.refl w.heap.size w).alloc (Nat.le_refl _) (.cells #[] 3))
  have OE := Lib.hid (show OwnI (w.alloc (.cells #[] 3)) w.heap.size (.slice (some ⟨w.heap.size, 0, none⟩) 0 0) [] from World.ownsRow_made w #[] 0 (Nat.le_refl _) (Nat.zero_le _) rfl)
  have d1 : (w.alloc (.cells #[] 3)).cell? ⟨S, 0, none⟩ = some (.pointer (some ⟨T, 0, none⟩)) := (h.below BE.out).set.cell 0
  have HL := Lib.hid (show Calls Tryz.prog 42 #[.pointer (some ⟨T, 0, none⟩)] (w.alloc (.cells #[] 3)) fun e w' => e = .returned (.int .i64 m.length) ∧ w' = w.alloc (.cells #[] 3) from by
    obtain ⟨A, c, K, kc, ht⟩ := (h.below BE.out).tree.at_
    exact len_x ht)
  obtain ⟨n, hn⟩ : ∃ n, n = m.length := ⟨_, rfl⟩
  have HN := Lib.hid hn
  rw [← hn] at HL hml ⊢
  clear hi0 hz0 hz1 hz2 h hn
  go_enter Tryz.func28, Tryz.ntmps28
  go_wp2_with fail
  refine HE.out.mono ?_
  rintro o w1 ⟨rfl, rfl⟩
  go_wp2_with fail
  refine HL.out.mono ?_
  rintro o w2 ⟨rfl, rfl⟩
  clear d1
  go_wp2_with fail
  go_loopw [5, 15] (fun out i wr => ∃ j : Nat, i = .int .i64 j ∧ j ≤ n ∧ Hid (OwnI wr w1.heap.size out (domL m W kind j)) ∧ Hid (Below w1.heap.size w1 wr)) (fun _ i _ => n - (intOf i).toNat)
  case atStart => exact ⟨0, rfl, by omega, OE, BE⟩
  case round =>
    obtain ⟨j, rfl, hj, KO, KB⟩ := hrel
    by_cases hjn : j < n
    · have t1 : decide ((j : Int) < n) = true := decide_eq_true (by omega)
      have HNX := Lib.hid (show domL m W kind (j + 1) = if ((ndAt m j).kind == kind && (wtOf m W j != 0)) = true then domL m W kind j ++ [(j : Int)] else domL m W kind j from rfl)
      have HLE := Lib.hid (domL_len m W kind j)
      have d0 : wr.cell? ⟨S, 0, none⟩ = some (.pointer (some ⟨T, 0, none⟩)) := (HS.out.below KB.out).set.cell 0
      have HND := Lib.hid (show Calls Tryz.prog 30 #[.pointer (some ⟨T, 0, none⟩), .int .i64 (j : Int)] wr fun o w' => o = .returned (.agg (ndAt m j).cells) ∧ Below wr.heap.size wr w' from by
        obtain ⟨A2, c2, K2, kc2, ht2⟩ := (HS.out.below KB.out).tree.at_
        exact node_any ht2 j)
      obtain ⟨x, hx⟩ : ∃ x, x = wtOf m W j := ⟨_, rfl⟩
      have HX := Lib.hid hx
      rw [← hx] at HNX
      obtain ⟨e, he⟩ : ∃ e, e = ndAt m j := ⟨_, rfl⟩
      rw [← he] at HND HNX
      have hfd : ∀ W, (Instr.field 67 (.agg #[.string e.nm, .int .i64 e.kind, .int .i64 e.ab, .int .i64 e.wt, .bool e.v6, .int .u64 e.hi, .int .u64 e.lo]) 1).run Tryz.prog W = .ok (.int .i64 e.kind) W := fun _ => by kernel_rfl
      unfold Nd.cells at HND
      clear he hx
      go_wp2_with fail
      refine HND.out.mono ?_
      rintro o w3 ⟨rfl, hb⟩
      have B3 := Lib.hid (KB.out.trans (hb.mono KB.out.size))
      have O3 := Lib.hid (KO.out.below hb)
      have S3 := Lib.hid (HS.out.below B3.out)
      have HH := Lib.hid (has_x S3.out (j : Int))
      rw [← HX.out] at HH
      clear hb d0
      cases hm : (e.kind == kind) with
      | false =>
        rw [hm, Bool.false_and, if_neg (by decide)] at HNX
        go_wp2_with fail
        go_roundw
        case rel => exact ⟨j + 1, by go_num, by omega, by rw [HNX.out]; exact O3, B3⟩
        case measure => simp [intOf]; omega
      | true =>
        rw [hm, Bool.true_and] at HNX
        go_wp2_with fail
        refine HH.out.mono ?_
        rintro o w4 ⟨rfl, q, rfl⟩
        have B4 := Lib.hid (B3.out.trans ((below_n w3 q).mono B3.out.size))
        have O4 := Lib.hid (O3.out.below (below_n w3 q))
        cases hx : (x != 0) with
        | false =>
          rw [hx, if_neg (by decide)] at HNX
          go_wp2_with fail
          go_roundw
          case rel => exact ⟨j + 1, by go_num, by omega, by rw [HNX.out]; exact O4, B4⟩
          case measure => simp [intOf]; omega
        | true =>
          rw [hx, if_pos rfl] at HNX
          obtain ⟨w5, hw5⟩ : ∃ w5, w5 = w3.drewN q := ⟨_, rfl⟩
          rw [← hw5] at B4 O4 ⊢
          clear hw5
          have KO2 := Lib.hid (O4.out.alloc (.cells #[.int .i64 j] 3))
          have KB2 := Lib.hid (B4.out.alloc B4.out.size (.cells #[.int .i64 j] 3))
          have HNE := Lib.hid (show ∀ p u, [Value.int .i64 j][p]? = some u → (w5.alloc (.cells #[.int .i64 j] 3)).cell? ((⟨w5.heap.size, 0, none⟩ : Addr).add p) = some u from fun p u hu => by
            rw [Addr.add_lit, Nat.zero_add, (Blk.new w5 3 #[.int .i64 j]).cell p]
            have h2 : (#[Value.int .i64 j])[p]? = some u := by simpa using hu
            exact h2)
          have H1 := Lib.hid (show ∀ u ∈ [Value.int .i64 (j : Int)], u.oneCell' = true from fun u hu => by simp at hu; subst hu; rfl)
          have P1 := Lib.hid (show (domL m W kind j).length + 1 ≤ maxLen by unfold maxLen; have := HLE.out; omega)
          have P2 := Lib.hid (show ((domL m W kind j).length + 1) * 8 ≤ 140737488355328 by have := HLE.out; omega)
          have P3 := Lib.hid (show w1.heap.size ≤ (w5.alloc (.cells #[.int .i64 j] 3)).heap.size from KB2.out.size)
          go_wp2_with (at_builtin; refine wpList_append_own _ rfl (.tmp 32) (.tmp 34) _ rfl w1.heap.size 3 i0 _ 1 8 Tryz.underlying23 HI0.out HZ0.out HZ1.out HZ2.out rfl (by omega) _ (domL m W kind j).length ((domL m W kind j).map (Value.int .i64)) rfl KO2.out ⟨w5.heap.size, 0, none⟩ 1 1 [.int .i64 j] rfl rfl HNE.out H1.out P1.out P2.out P3.out ?_; intro v6 w6 ho hg _; have HO1 := Lib.hid (OwnI.snoc (l := domL m W kind j) ho); have HB1 := Lib.hid (KB2.out.grown hg P3.out (fun k hk => (KO2.out.lt k hk).1)); clear ho hg)
          go_roundw
          case rel => exact ⟨j + 1, by go_num, by omega, by rw [HNX.out]; exact HO1, HB1⟩
          case measure => simp [intOf]; omega
    · have t1 : decide ((j : Int) < n) = false := decide_eq_false (by omega)
      obtain rfl : n = j := by omega
      go_wp2_with fail
      go_ret
      exact ⟨_, rfl, KO.out, KB.out⟩
theorem list_any {w : World} {S T g : Nat} {m : List Nd} {W : Nat → Int} (h : SetOk w S T g m W) :
    Calls Tryz.prog 23 #[.pointer (some ⟨S, 0, none⟩)] w fun o w' => ∃ v, o = .returned v ∧ OwnI w' w.heap.size v (domL m W 4 m.length) ∧ Below w.heap.size w w' := by
  have HD := Lib.hid (domains_any h 4)
  clear h
  go_enter Tryz.func23, Tryz.ntmps23
  go_wp2_with fail
  refine HD.out.mono ?_
  rintro o w1 ⟨v, rfl, ho, hb⟩
  have H1 := Lib.hid ho
  have H2 := Lib.hid hb
  clear ho hb
  go_wp2_with fail
  go_ret
  exact ⟨v, rfl, H1.out, H2.out⟩
end Go.Proofs.YtoaboklckkcjcaaGreat.eliB
/- Layer 23: the law's words. -/
namespace Go.Proofs.YtoaboklckkcjcaaGreat.eliC
open Go.ChangeShapes Go.WideShapes Go.ChangeAt Go.RowKit
open Go.Proofs.YtoaboklckkcjcaaGreat.base Go.Proofs.YtoaboklckkcjcaaGreat.dfA Go.Proofs.YtoaboklckkcjcaaGreat.treA Go.Proofs.YtoaboklckkcjcaaGreat.treB Go.Proofs.YtoaboklckkcjcaaGreat.treC Go.Proofs.YtoaboklckkcjcaaGreat.treD Go.Proofs.YtoaboklckkcjcaaGreat.treE Go.Proofs.YtoaboklckkcjcaaGreat.treG Go.Proofs.YtoaboklckkcjcaaGreat.treH Go.Proofs.YtoaboklckkcjcaaGreat.treM Go.Proofs.YtoaboklckkcjcaaGreat.treW Go.Proofs.YtoaboklckkcjcaaGreat.treP Go.Proofs.YtoaboklckkcjcaaGreat.eliW Go.Proofs.YtoaboklckkcjcaaGreat.eliA Go.Proofs.YtoaboklckkcjcaaGreat.eliB
set_option linter.unusedVariables false

/-- The law's below, in so many steps. -/
def belF (m : List Nd) (a : Int) : Nat → Int → Bool
  | 0, _ => false
  | f + 1, x => if isB x m.length = true then (if (x == a) = true then true else belF m a f (ndAt m x).ab) else false
theorem belF_out {m : List Nd} {a x : Int} (h : isB x m.length = false) : ∀ f, belF m a f x = false := by
  intro f
  cases f with
  | zero => rfl
  | succ f => unfold belF; rw [h]; rfl
theorem upW_F {m : List Nd} (hf : Fine m) (kd : Int) {f b : Nat} (hb : b < m.length) (h : (m[b]).kind ≤ (f : Int)) : upW m kd f (b : Int) = upF m kd (b : Int) := by
  have h0 := hf.lo b hb
  have h4 := hf.hi b hb
  have e : (((m[b]).kind.toNat : Nat) : Int) = (m[b]).kind := by omega
  have h1 := upW_more hf kd (m[b]).kind.toNat b hb (by omega) f (by omega)
  have h2 := upW_more hf kd (m[b]).kind.toNat b hb (by omega) 4 (by omega)
  unfold upF
  rw [h1, h2]
theorem belF_is {m : List Nd} (hf : Fine m) {a : Nat} (ha : a < m.length) : ∀ (f x : Nat) (hx : x < m.length), (m[x]).kind ≤ (f : Int) → belF m (a : Int) f (x : Int) = (upW m (ndAt m a).kind f (x : Int) == (a : Int)) := by
  intro f
  induction f with
  | zero => intro x hx h; have := hf.lo x hx; omega
  | succ f ih =>
    intro x hx h
    unfold belF upW
    rw [isB_nat hx, if_pos rfl, if_pos rfl, ndAt_nat hx]
    by_cases hxa : x = a
    · subst hxa
      rw [if_pos (by simp), ndAt_nat hx, if_pos (by simp)]
      simp
    · have hne : ((x : Int) == (a : Int)) = false := beq_false_of_ne (by omega)
      rw [hne, if_neg (by decide)]
      have hz : isB (-1) m.length = false := rfl
      by_cases hk : (m[x]).kind = (ndAt m a).kind
      · rw [if_pos (by simp [hk]), hne]
        by_cases h1 : (m[x]).kind = 1
        · rw [hf.lev x hx h1]; exact belF_out hz f
        · obtain ⟨b, hb, hab, hbx, hkb⟩ := hf.sub x hx h1
          rw [hab, ih b hb (by omega), upW_F hf _ hb (by omega), up_low hf _ (b + 1) b (by omega) hb (by rw [ndAt_nat hb]; omega)]
          exact beq_false_of_ne (by omega)
      · rw [if_neg (by simp [hk])]
        by_cases h1 : (m[x]).kind = 1
        · rw [hf.lev x hx h1, belF_out hz f, upW_out hz]
          exact (beq_false_of_ne (by omega)).symm
        · obtain ⟨b, hb, hab, hbx, hkb⟩ := hf.sub x hx h1
          rw [hab]
          exact ih b hb (by omega)
theorem belF_U {m : List Nd} (hf : Fine m) {a x : Nat} (ha : a < m.length) (hx : x < m.length) : belF m (a : Int) 4 (x : Int) = belU m x a := by
  have := hf.hi x hx
  exact belF_is hf ha 4 x hx (by omega)
set_option maxHeartbeats 8000000 in
theorem below_x {m : List Nd} {A : Option Addr} {c : Nat} {w : World} (hr : RdN w A m) (hcap : m.length ≤ c) (hcap2 : c ≤ 9223372036854775807) (hf : Fine m) {x a : Nat} (hx : x < m.length) (ha : a < m.length) :
    Calls Tryz.prog 70 #[.slice A m.length c, .int .i64 (x : Int), .int .i64 (a : Int)] w fun o w' => o = .returned (.bool (belU m x a)) ∧ w' = w := by
  have HF := Lib.hid hf
  have HR := Lib.hid hr
  have HB := Lib.hid (belF_U hf ha hx)
  obtain ⟨n, hn⟩ : ∃ n, n = m.length := ⟨_, rfl⟩
  have HN := Lib.hid hn
  rw [← hn] at hcap ⊢
  obtain ⟨r, hr2⟩ : ∃ r, r = belU m x a := ⟨_, rfl⟩
  have HRR := Lib.hid hr2
  rw [← hr2] at HB ⊢
  clear hf hr hn hr2
  go_enter Tryz.func70, Tryz.ntmps70
  go_wp2_with fail
  go_loopw [1, 7] (fun i' k' wr => ∃ (y : Int) (k : Nat), i' = .int .i64 y ∧ k' = .int .i64 k ∧ k ≤ 4 ∧ Hid (belF m (a : Int) (4 - k) y = r) ∧ wr = w) (fun _ k' _ => 4 - (intOf k').toNat)
  case atStart => exact ⟨x, 0, rfl, rfl, by omega, HB, rfl⟩
  case round =>
    obtain ⟨y, k, rfl, rfl, hk4, HX, rfl⟩ := hrel
    by_cases hk : k < 4
    · have t1 : decide ((k : Int) < 4) = true := decide_eq_true (by omega)
      cases hq : isB y m.length with
      | false =>
        have HU := Lib.hid (belF_out (m := m) (a := (a : Int)) hq (4 - k))
        rcases isB_not hq with hx0 | hx0
        · have t2 : decide (0 ≤ y) = false := decide_eq_false (by omega)
          clear hq
          go_wp2_with fail
          go_ret
          exact ⟨by rw [← HX.out, HU.out]; rfl, rfl⟩
        · have t2 : decide (0 ≤ y) = true := decide_eq_true (by omega)
          have t3 : decide (y < (n : Int)) = false := decide_eq_false (by have := HN.out; omega)
          clear hq
          go_wp2_with fail
          go_ret
          exact ⟨by rw [← HX.out, HU.out]; rfl, rfl⟩
      | true =>
        obtain ⟨b, rfl, hb⟩ := isB_of hq
        obtain ⟨bl, off, hA, hbl, hC⟩ := HR.out.at_ b hb
        subst hA
        have HA := Lib.hid (show belF m (a : Int) (4 - k) (b : Int) = if ((b : Int) == (a : Int)) = true then true else belF m (a : Int) (4 - (k + 1)) (m[b]).ab from by
          rw [show 4 - k = (4 - (k + 1)) + 1 by omega]
          show (if isB (b : Int) m.length = true then (if ((b : Int) == (a : Int)) = true then true else belF m (a : Int) (4 - (k + 1)) (ndAt m (b : Int)).ab) else false) = _
          rw [isB_nat hb, if_pos rfl, ndAt_nat hb])
        obtain ⟨e, he⟩ : ∃ e, e = m[b] := ⟨_, rfl⟩
        rw [← he] at hC HA
        have d2 : wr.cell? ⟨bl, off + b * 7 + 2, none⟩ = some (.int .i64 e.ab) := hC 2 (by omega)
        have j0 : (0 : Int) ≤ b := by omega
        have j1 : (b : Int) < n := by have := HN.out; omega
        have t2 : decide ((0 : Int) ≤ b) = true := decide_eq_true j0
        have t3 : decide ((b : Int) < n) = true := decide_eq_true j1
        clear hC he hq
        by_cases hba : b = a
        · subst hba
          rw [if_pos (by simp)] at HA
          have x1 : ((b : Int) == (b : Int)) = true := by simp
          go_wp2_with fail
          go_ret
          exact ⟨by rw [← HX.out, HA.out]; rfl, rfl⟩
        · have hkd : ((b : Int) == (a : Int)) = false := beq_false_of_ne (by omega)
          have hkd2 : (b == a) = false := beq_false_of_ne hba
          rw [hkd, if_neg (by decide)] at HA
          clear hba
          go_wp2_with fail
          go_roundw
          case rel => exact ⟨e.ab, k + 1, rfl, by go_num, by omega, Lib.hid (HA.out.symm.trans HX.out), trivial⟩
          case measure => simp [intOf]; omega
    · have t1 : decide ((k : Int) < 4) = false := decide_eq_false (by omega)
      have HU := Lib.hid (show r = false from by rw [← HX.out, show 4 - k = 0 by omega]; rfl)
      go_wp2_with fail
      go_ret
      exact ⟨by rw [HU.out]; rfl, rfl⟩
theorem few_small (A : Option Addr) (n c : Nat) (w : World) (h : n ≤ 30) : Calls Tryz.prog 10 #[.slice A n c] w fun o w' => o = .returned (.slice A n c) ∧ w' = w := by
  have t1 : decide ((30 : Int) < n) = false := decide_eq_false (by omega)
  go_enter Tryz.func10, Tryz.ntmps10
  go_wp2_with fail
  go_ret
  exact ⟨rfl, rfl⟩
theorem few_big (b off n c : Nat) (w : World) (h : 30 < n) (hc : n ≤ c) (hc2 : c ≤ 9223372036854775807) : Calls Tryz.prog 10 #[.slice (some ⟨b, off, none⟩) n c] w fun o w' => o = .returned (.slice (some ⟨b, off, none⟩) 30 c) ∧ w' = w := by
  have t1 : decide ((30 : Int) < n) = true := decide_eq_true (by omega)
  go_enter Tryz.func10, Tryz.ntmps10
  go_wp2_with fail
  go_ret
  exact ⟨rfl, rfl⟩
set_option maxHeartbeats 8000000 in
theorem picked_x {m : List Nd} {A : Option Addr} {c : Nat} {w : World} (hr : RdN w A m) (hcap : m.length ≤ c) (hcap2 : c ≤ 9223372036854775807) (AH : Option Addr) (ch : Nat) (H : List Int) (hh : RdI w AH H) (hH : H.length ≤ 100) {i : Nat} (hi : i < m.length) :
    Calls Tryz.prog 69 #[.slice A m.length c, .slice AH H.length ch, .int .i64 (i : Int)] w fun o w' => o = .returned (.bool (pkB m H i)) ∧ w' = w := by
  have HR := Lib.hid hr
  have HI := Lib.hid hh
  obtain ⟨r, hr2⟩ : ∃ r, r = pkB m H i := ⟨_, rfl⟩
  have HRR := Lib.hid hr2
  rw [← hr2]
  have HNA := Lib.hid (ndAt_nat hi)
  obtain ⟨bl, off, hA, hbl, hC⟩ := hr.at_ i hi
  subst hA
  obtain ⟨e, he⟩ : ∃ e, e = m[i] := ⟨_, rfl⟩
  rw [← he] at hC HNA
  have d1 : w.cell? ⟨bl, off + i * 7 + 1, none⟩ = some (.int .i64 e.kind) := hC 1 (by omega)
  have d3 : w.cell? ⟨bl, off + i * 7 + 3, none⟩ = some (.int .i64 e.wt) := hC 3 (by omega)
  obtain ⟨n, hn⟩ : ∃ n, n = m.length := ⟨_, rfl⟩
  have HN := Lib.hid hn
  rw [← hn] at hcap ⊢
  have j0 : (0 : Int) ≤ i := by omega
  have j1 : (i : Int) < n := by omega
  have t0 : decide ((i : Int) < 0) = false := decide_eq_false (by omega)
  have t1 : decide ((n : Int) ≤ i) = false := decide_eq_false (by omega)
  have t2 : decide (n ≤ i) = false := decide_eq_false (by omega)
  obtain ⟨hl, hhl⟩ : ∃ hl, hl = H.length := ⟨_, rfl⟩
  have HHL := Lib.hid hhl
  rw [← hhl] at hH ⊢
  clear hr hC he hn hr2 hh hhl
  go_enter Tryz.func69, Tryz.ntmps69
  cases k1 : (e.kind != 4) with
  | true =>
    have HV := Lib.hid (show r = false from by
      rw [HRR.out]; unfold pkB; rw [HNA.out]
      have : (e.kind == 4) = false := by simpa [bne] using k1
      rw [this]; rfl)
    have K1 := Lib.hid k1
    go_wp2_with fail
    all_goals go_ret
    all_goals exact ⟨by rw [HV.out]; rfl, rfl⟩
  | false =>
    have K1 := Lib.hid k1
    cases k2 : (e.wt == 0) with
    | true =>
      have HV := Lib.hid (show r = false from by
        rw [HRR.out]; unfold pkB; rw [HNA.out, k2]
        simp)
      have K2 := Lib.hid k2
      go_wp2_with fail
      all_goals go_ret
      all_goals exact ⟨by rw [HV.out]; rfl, rfl⟩
    | false =>
      have HV := Lib.hid (show r = H.contains (i : Int) from by
        rw [HRR.out]; unfold pkB; rw [HNA.out, k2]
        have : (e.kind == 4) = true := by simpa [bne] using k1
        rw [this]; rfl)
      go_wp2_with fail
      go_loopw [7] (fun k' wr => ∃ k : Nat, k' = .int .i64 k ∧ k ≤ hl ∧ Hid (∀ j (hj : j < H.length), j < k → H[j] ≠ (i : Int)) ∧ wr = w) (fun k' _ => hl - (intOf k').toNat)
      case atStart => exact ⟨0, rfl, by omega, Lib.hid (fun j hj h => by omega), rfl⟩
      case round =>
        obtain ⟨k, rfl, hk, HX, rfl⟩ := hrel
        by_cases hkn : k < hl
        · have t3 : decide ((k : Int) < hl) = true := decide_eq_true (by omega)
          have hkl : k < H.length := HHL.out ▸ hkn
          obtain ⟨b2, o2, hA2, _, c2⟩ := HI.out.at_ k hkl
          subst hA2
          obtain ⟨y, hy⟩ : ∃ y, y = H[k] := ⟨_, rfl⟩
          have HY := Lib.hid hy
          rw [← hy] at c2
          have j2 : (0 : Int) ≤ k := by omega
          have j3 : (k : Int) < hl := by omega
          clear hy
          cases hyi : (y == (i : Int)) with
          | true =>
            have HT := Lib.hid (show r = true from by
              rw [HV.out, List.contains_iff_mem, ← (by simpa using hyi : y = (i : Int)), HY.out]
              exact List.getElem_mem hkl)
            go_wp2_with fail
            go_ret
            exact ⟨by rw [HT.out]; rfl, rfl⟩
          | false =>
            have HX2 := Lib.hid (show ∀ j (hj : j < H.length), j < k + 1 → H[j] ≠ (i : Int) from fun j hj hjk => by
              by_cases hjq : j = k
              · subst hjq
                rw [← HY.out]
                simpa using hyi
              · exact HX.out j hj (by omega))
            go_wp2_with fail
            go_roundw
            case rel => exact ⟨k + 1, by go_num, by omega, HX2, trivial⟩
            case measure => simp [intOf]; omega
        · have t3 : decide ((k : Int) < hl) = false := decide_eq_false (by omega)
          have HT := Lib.hid (show r = false from by
            rw [HV.out]
            cases hc : H.contains (i : Int) with
            | false => rfl
            | true =>
              rw [List.contains_iff_mem] at hc
              obtain ⟨q, hq, he⟩ := List.mem_iff_getElem.mp hc
              exact absurd he (HX.out q hq (by have := HHL.out; omega)))
          go_wp2_with fail
          go_ret
          exact ⟨by rw [HT.out]; rfl, rfl⟩
set_option maxHeartbeats 8000000 in
theorem lhas_x {m : List Nd} {A : Option Addr} {c : Nat} {w : World} (hr : RdN w A m) (hcap : m.length ≤ c) (hcap2 : c ≤ 9223372036854775807) (hf : Fine m) (hhv : Heavy m) (AH : Option Addr) (ch : Nat) (H : List Int) (hh : RdI w AH H) (hH : H.length ≤ 100) {i : Nat} (hi : i < m.length) :
    Calls Tryz.prog 43 #[.slice A m.length c, .slice AH H.length ch, .int .i64 (i : Int)] w fun o w' => o = .returned (.bool (F m H i != 0)) ∧ w' = w := by
  have HP := Lib.hid (show ∀ k, k < m.length → Calls Tryz.prog 69 #[.slice A m.length c, .slice AH H.length ch, .int .i64 (k : Int)] w fun o w' => o = .returned (.bool (pkB m H k)) ∧ w' = w from fun k hk => picked_x hr hcap hcap2 AH ch H hh hH hk)
  have HB := Lib.hid (show ∀ k, k < m.length → Calls Tryz.prog 70 #[.slice A m.length c, .int .i64 (k : Int), .int .i64 (i : Int)] w fun o w' => o = .returned (.bool (belU m k i)) ∧ w' = w from fun k hk => below_x hr hcap hcap2 hf hk hi)
  have HFH := Lib.hid (F_has hf hhv H m.length i hi (by omega))
  obtain ⟨r, hr2⟩ : ∃ r, r = (F m H i != 0) := ⟨_, rfl⟩
  have HRR := Lib.hid hr2
  rw [← hr2]
  obtain ⟨n, hn⟩ : ∃ n, n = m.length := ⟨_, rfl⟩
  have HN := Lib.hid hn
  rw [← hn] at HP HB hcap ⊢
  obtain ⟨hl, hhl⟩ : ∃ hl, hl = H.length := ⟨_, rfl⟩
  rw [← hhl] at HP ⊢
  clear hr hn hr2 hh hhl hf hhv
  go_enter Tryz.func43, Tryz.ntmps43
  go_wp2_with fail
  go_loopw [7] (fun k' wr => ∃ k : Nat, k' = .int .i64 k ∧ k ≤ n ∧ Hid (∀ j, j < k → (pkB m H j && belU m j i) = false) ∧ wr = w) (fun k' _ => n - (intOf k').toNat)
  case atStart => exact ⟨0, rfl, by omega, Lib.hid (fun j h => by omega), rfl⟩
  case round =>
    obtain ⟨k, rfl, hk, HX, rfl⟩ := hrel
    by_cases hkn : k < n
    · have t3 : decide ((k : Int) < n) = true := decide_eq_true (by omega)
      have HP2 := Lib.hid (HP.out k hkn)
      have HB2 := Lib.hid (HB.out k hkn)
      obtain ⟨p, hp⟩ : ∃ p, p = pkB m H k := ⟨_, rfl⟩
      have HPP := Lib.hid hp
      obtain ⟨q, hq⟩ : ∃ q, q = belU m k i := ⟨_, rfl⟩
      have HQQ := Lib.hid hq
      rw [← hp] at HP2
      rw [← hq] at HB2
      clear hp hq
      have HX2 := Lib.hid (show (p && q) = false → ∀ j, j < k + 1 → (pkB m H j && belU m j i) = false from fun h j hjk => by
        by_cases hjq : j = k
        · subst hjq; rw [← HPP.out, ← HQQ.out]; exact h
        · exact HX.out j (by omega))
      go_wp2_with fail
      refine HP2.out.mono ?_
      rintro o w1 ⟨rfl, rfl⟩
      cases p with
      | false =>
        have HX3 := Lib.hid (HX2.out rfl)
        go_wp2_with fail
        go_roundw
        case rel => exact ⟨k + 1, by go_num, by omega, HX3, trivial⟩
        case measure => simp [intOf]; omega
      | true =>
        go_wp2_with fail
        refine HB2.out.mono ?_
        rintro o w2 ⟨rfl, rfl⟩
        cases q with
        | false =>
          have HX3 := Lib.hid (HX2.out rfl)
          go_wp2_with fail
          go_roundw
          case rel => exact ⟨k + 1, by go_num, by omega, HX3, trivial⟩
          case measure => simp [intOf]; omega
        | true =>
          have HT := Lib.hid (show r = true from by
            rw [HRR.out, bne_iff_ne]
            exact HFH.out.mpr ⟨k, HN.out ▸ hkn, HPP.out.symm, HQQ.out.symm⟩)
          go_wp2_with fail
          go_ret
          exact ⟨by rw [HT.out]; rfl, rfl⟩
    · have t3 : decide ((k : Int) < n) = false := decide_eq_false (by omega)
      have HT := Lib.hid (show r = false from by
        rw [HRR.out]
        cases hc : (F m H i != 0) with
        | false => rfl
        | true =>
          obtain ⟨j, hj, h1, h2⟩ := HFH.out.mp (by simpa using hc)
          have := HX.out j (by have := HN.out; omega)
          rw [h1, h2] at this
          cases this)
      go_wp2_with fail
      go_ret
      exact ⟨by rw [HT.out]; rfl, rfl⟩
set_option maxRecDepth 100000 in
set_option maxHeartbeats 16000000 in
/-- The law's weights. -/
theorem weights_any {m : List Nd} {A : Option Addr} {c : Nat} {w : World} (hr : RdN w A m) (hm60 : m.length ≤ 60) (hcap : m.length ≤ c) (hcap2 : c ≤ 9223372036854775807) (hf : Fine m) (hhv : Heavy m) (AH : Option Addr) (ch : Nat) (H : List Int) (hh : RdI w AH H) (hH : H.length ≤ 100) :
    Calls Tryz.prog 12 #[.slice A m.length c, .slice AH H.length ch] w fun o w' => o = .returned (.slice (some ⟨w.heap.size, 0, none⟩) m.length m.length) ∧ (∃ cs, Blk w' w.heap.size 24 cs ∧ AtU m.length (F m H) cs) ∧ Below w.heap.size w w' := by
  obtain ⟨i0, hi0, hz0, hz1, hz2⟩ := info_parts info_u
  obtain ⟨n, hn⟩ : ∃ n, n = m.length := ⟨_, rfl⟩
  have hmk := fun (W : World) => run_make_one (P := Tryz.prog) 31 24 i0 _ Tryz.underlying31 hi0 hz0 hz1 rfl .i64 .i64 (n : Int) (by omega) (by rw [hz2]; omega) (by omega) W
  have hmk2 := hmk w
  rw [Int.toNat_natCast] at hmk2
  have HF := Lib.hid hf
  have HH := Lib.hid hhv
  have HR := Lib.hid hr
  have HN := Lib.hid hn
  have HLH := Lib.hid (show ∀ W, Below w.heap.size w W → ∀ i, i < m.length → Calls Tryz.prog 43 #[.slice A m.length c, .slice AH H.length ch, .int .i64 (i : Int)] W fun o w' => o = .returned (.bool (F m H i != 0)) ∧ w' = W from fun W hb i hi => lhas_x (hr.below hb) hcap hcap2 hf hhv AH ch H (hh.below hb) hH hi)
  have hm60' := hm60
  rw [← hn] at HLH hm60 hcap ⊢
  have B0 := Lib.hid (show Below w.heap.size w (w.alloc (.cells (zeros n (.int .u64 0)) 24)) from (Below.refl w.heap.size w).alloc (Nat.le_refl _) _)
  have K0 := Lib.hid (show Blk (w.alloc (.cells (zeros n (.int .u64 0)) 24)) w.heap.size 24 (zeros n (.int .u64 0)) from Blk.new w _ _)
  have HM := Lib.hid hm60'
  obtain ⟨hl, hhl⟩ : ∃ hl, hl = H.length := ⟨_, rfl⟩
  rw [← hhl] at HLH ⊢
  clear hmk hi0 hz0 hz1 hz2 hn hr hh hf hhv hhl hm60'
  go_enter Tryz.func12, Tryz.ntmps12
  go_wp2_with fail
  clear hmk2
  go_loopw [6, 7] (fun iv _ wr => ∃ (d : Nat) (x : Int), iv = .int .i64 x ∧ x = (d : Int) - 1 ∧ d ≤ n ∧ Hid (∃ cs, Blk wr w.heap.size 24 cs ∧ AtU n (fun j => if d ≤ j then F m H j else 0) cs) ∧ Hid (Below w.heap.size w wr)) (fun iv _ _ => (intOf iv + 1).toNat)
  case atStart => exact ⟨n, _, rfl, rfl, Nat.le_refl _, Lib.hid ⟨_, K0.out, (AtU.zeros n).congr fun j hj => by rw [if_neg (by omega)]⟩, B0⟩
  case round =>
    obtain ⟨d, x, rfl, hx, hd, HK, HB⟩ := hrel
    rcases d with _ | i
    · obtain rfl : x = -1 := by omega
      clear hx hd
      have t0 : decide ((0 : Int) ≤ -1) = false := by decide
      go_wp2_with fail
      go_ret
      obtain ⟨cs, h1, h2⟩ := HK.out
      exact ⟨rfl, ⟨cs, h1, h2.congr fun j hj => by rw [if_pos (Nat.zero_le _)]⟩, HB.out⟩
    · obtain rfl : x = (i : Int) := by omega
      have hi : i < n := by omega
      clear hx hd
      have him : i < m.length := HN.out ▸ hi
      have HLI := Lib.hid (HLH.out wr HB.out i hi)
      have HFE := Lib.hid (F_eq HF.out H him)
      have HNA := Lib.hid (ndAt_nat him)
      have hwt := wt_range HH.out i
      rw [HNA.out] at HFE hwt
      have HLS := Lib.hid (show ∀ k, k ≤ n → 0 ≤ sumF (gF m H i) k ∧ sumF (gF m H i) k ≤ 60000000000000 from fun k hk => ⟨sum_lo HH.out H i k, sum_hi HH.out HM.out H i k (by omega)⟩)
      have HF1 := Lib.hid (F_lo HH.out H)
      have HF2 := Lib.hid (F_hi HH.out HM.out H)
      have HPZ := Lib.hid (pre_zero HF.out H i him (i + 1) (Nat.le_refl _))
      have HH0 := Lib.hid (show hw0 m H i = 0 ∨ hw0 m H i = (m[i]).wt from by
        unfold hw0
        split
        · right; rw [HNA.out]
        · left; rfl)
      obtain ⟨bl, off, hA, hbl, hC⟩ := (HR.out.below HB.out).at_ i him
      have HCK := Lib.hid (show ∀ W, Below w.heap.size w W → ∀ k (hk : k < m.length), ∃ b off, A = some ⟨b, off, none⟩ ∧ W.cell? ⟨b, off + k * 7 + 2, none⟩ = some (.int .i64 (m[k]).ab) from fun W hb k hk => by
        obtain ⟨b, off, h1, h2, h3⟩ := (HR.out.below hb).at_ k hk
        exact ⟨b, off, h1, h3 2 (by omega)⟩)
      subst hA
      obtain ⟨e, he⟩ : ∃ e, e = m[i] := ⟨_, rfl⟩
      rw [← he] at hC HFE hwt HH0
      have d3 : wr.cell? ⟨bl, off + i * 7 + 3, none⟩ = some (.int .i64 e.wt) := hC 3 (by omega)
      obtain ⟨f, hff⟩ : ∃ f, f = F m H i := ⟨_, rfl⟩
      have HFF := Lib.hid hff
      rw [← hff] at HLI HFE
      have j0 : (0 : Int) ≤ i := by omega
      have j1 : (i : Int) < n := by omega
      clear hC he hff
      go_wp2_with fail
      refine HLI.out.mono ?_
      rintro o w1 ⟨rfl, rfl⟩
      cases hq : (f != 0) with
      | false =>
        have HFZ := Lib.hid (show F m H i = 0 from by rw [← HFF.out]; simpa using hq)
        have HQ := Lib.hid hq
        go_wp2_with fail
        all_goals go_roundw
        case rel => exact ⟨i, (i : Int) - 1, rfl, rfl, by omega, Lib.hid (by
          obtain ⟨cs, h1, h2⟩ := HK.out
          exact ⟨cs, h1, h2.congr fun j hj => by
            by_cases hji : j = i
            · subst hji; rw [if_neg (by omega), if_pos (Nat.le_refl _), HFZ.out]
            · by_cases h3 : i + 1 ≤ j
              · rw [if_pos h3, if_pos (by omega)]
              · rw [if_neg h3, if_neg (by omega)]⟩), HB⟩
        case measure => simp [intOf] <;> omega
      | true =>
        have HFN := Lib.hid (show f ≠ 0 from by simpa using hq)
        obtain ⟨cs, hcs1, hcs2⟩ := HK.out
        have HK1 := Lib.hid hcs1
        have HK2 := Lib.hid hcs2
        clear hcs1 hcs2
        by_cases hw0 : 0 < e.wt
        · have t2 : decide ((0 : Int) < e.wt) = true := decide_eq_true hw0
          have HFV := Lib.hid (show F m H i = e.wt from by
            rw [← HFF.out]
            have h1 := HFE.out
            by_cases hk : e.kind = 4
            · rw [if_pos hk] at h1
              rcases HH0.out with h2 | h2
              · exact absurd (h1.trans h2) HFN.out
              · rw [h1, h2]
            · rw [if_neg hk] at h1
              by_cases hs : SF m H i = 0
              · rw [if_neg (fun h => h.2 hs)] at h1
                exact absurd (h1.trans hs) HFN.out
              · rw [if_pos ⟨by omega, hs⟩] at h1
                exact h1)
          have u1 : IntKind.u64.wrap e.wt = e.wt := by rw [IntKind.wrap_u64]; omega
          have c1 : w1.cell? ⟨w.heap.size, i, none⟩ = some (.int .u64 0) := by rw [HK1.out.cell i, HK2.out.2 i hi]; dsimp only; rw [if_neg (show ¬ (i + 1 ≤ i) by omega)]
          have c2 : w1.frozen? ⟨w.heap.size, i, none⟩ = false := HK1.out.frozen i
          clear hwt hw0
          go_wp2_with fail
          all_goals go_roundw
          case rel => exact ⟨i, (i : Int) - 1, rfl, rfl, by omega, Lib.hid ⟨_, HK1.out.set_ i _, (HK2.out.put i e.wt).congr fun j hj => by
            unfold putU
            try dsimp only
            by_cases hji : j = i
            · subst hji; rw [if_pos rfl, if_pos (Nat.le_refl _), HFV.out]
            · by_cases h3 : i + 1 ≤ j
              · rw [if_neg hji, if_pos h3, if_pos (by omega)]
              · rw [if_neg hji, if_neg h3, if_neg (by omega)]⟩, Lib.hid (HB.out.setCell (p := ⟨w.heap.size, i, none⟩) (Nat.le_refl _) _)⟩
          case measure => simp [intOf] <;> omega
        · have t2 : decide ((0 : Int) < e.wt) = false := decide_eq_false hw0
          have HFV := Lib.hid (show F m H i = sumF (gF m H i) n from by
            have hz : e.wt = 0 := by omega
            rw [← HFF.out, HFE.out]
            by_cases hk : e.kind = 4
            · have h1 := HFE.out
              rw [if_pos hk] at h1
              rcases HH0.out with h2 | h2
              · exact absurd (h1.trans h2) HFN.out
              · exact absurd (h1.trans (h2.trans hz)) HFN.out
            · rw [if_neg hk, if_neg (fun h => h.1 hz), HN.out]
              rfl)
          have HW0 := Lib.hid hw0
          clear hwt hw0
          have hm59 : n ≤ 60 := hm60
          go_wp2_with fail
          go_loopw [7] (fun kv wr => ∃ k : Nat, kv = .int .i64 k ∧ i + 1 ≤ k ∧ k ≤ n ∧ Hid (∃ cs, Blk wr w.heap.size 24 cs ∧ AtU n (fun j => if j = i then sumF (gF m H i) k else if i + 1 ≤ j then F m H j else 0) cs) ∧ Hid (Below w.heap.size w wr)) (fun kv _ => n - (intOf kv).toNat)
          case atStart => exact ⟨i + 1, by go_num, Nat.le_refl _, by omega, Lib.hid ⟨_, HK1.out, HK2.out.congr fun j hj => by
            try dsimp only
            by_cases hji : j = i
            · subst hji; rw [if_pos rfl, HPZ.out, if_neg (show ¬ (j + 1 ≤ j) by omega)]
            · rw [if_neg hji]⟩, HB⟩
          case round =>
            obtain ⟨k, rfl, hk1, hk2, HKI, HBI⟩ := hrel
            have HLK := Lib.hid (HLS.out k hk2)
            by_cases hkn : k < n
            · have t3 : decide ((k : Int) < n) = true := decide_eq_true (by omega)
              have hkm : k < m.length := HN.out ▸ hkn
              obtain ⟨b', off', hA', ck⟩ := HCK.out wr HBI.out k hkm
              injection hA' with hA'
              injection hA' with hb' ho'
              subst hb' ho'
              have HNK := Lib.hid (ndAt_nat hkm)
              have HSN := Lib.hid (show sumF (gF m H i) (k + 1) = sumF (gF m H i) k + gF m H i k from rfl)
              have HLK1 := Lib.hid (HLS.out (k + 1) (by omega))
              have HGK := Lib.hid (show gF m H i k = if (m[k]).ab = (i : Int) then F m H k else 0 from by unfold gF; rw [HNK.out])
              obtain ⟨ab, hab⟩ : ∃ ab, ab = (m[k]).ab := ⟨_, rfl⟩
              rw [← hab] at ck HGK
              obtain ⟨cs2, hcs1, hcs2⟩ := HKI.out
              have HC1 := Lib.hid hcs1
              have HC2 := Lib.hid hcs2
              have j2 : (0 : Int) ≤ k := by omega
              have j3 : (k : Int) < n := by omega
              clear hab hcs1 hcs2
              by_cases hai : ab = (i : Int)
              · have x1 : (ab == (i : Int)) = true := by simp [hai]
                rw [if_pos hai] at HGK
                obtain ⟨fk, hfk⟩ : ∃ fk, fk = F m H k := ⟨_, rfl⟩
                have HFK := Lib.hid hfk
                obtain ⟨sk, hsk⟩ : ∃ sk, sk = sumF (gF m H i) k := ⟨_, rfl⟩
                have HSK := Lib.hid hsk
                have r1 := HLK.out
                have r2 := HLK1.out
                rw [HSN.out, HGK.out, ← hfk, ← hsk] at r2
                rw [← hsk] at r1
                have u1 : IntKind.u64.wrap (sk + fk) = sk + fk := by rw [IntKind.wrap_u64]; omega
                have c5 : wr.drew.cell? ⟨w.heap.size, i, none⟩ = some (.int .u64 sk) := by
                  have := (HC1.out.cell i).trans (HC2.out.2 i hi)
                  dsimp only at this
                  rw [if_pos rfl] at this
                  rw [hsk]; exact this
                have f5 : wr.drew.frozen? ⟨w.heap.size, i, none⟩ = false := HC1.out.frozen i
                have s0 : wr.drew.cell? ⟨w.heap.size, k, none⟩ = some (.int .u64 fk) := by
                  have := (HC1.out.cell k).trans (HC2.out.2 k hkn)
                  dsimp only at this
                  rw [if_neg (show ¬ k = i by omega), if_pos hk1] at this
                  rw [hfk]; exact this
                have s1 : (wr.drew.setCell ⟨w.heap.size, i, none⟩ (.int .u64 (sk + fk))).cell? ⟨w.heap.size, k, none⟩ = some (.int .u64 fk) := by
                  have h1 : Blk wr.drew w.heap.size 24 cs2 := HC1.out
                  rw [(h1.set_ i _).cell k, Array.getElem?_setIfInBounds_ne (show i ≠ k by omega), ← h1.cell k]
                  exact s0
                clear hfk hsk r1 r2 hai
                go_wp2_with fail
                refine wp_let (fun Q hQ => ?_)
                have HQ := Lib.hid hQ
                clear hQ
                refine wp_region_noPanic ?_
                refine wp_region_held_drew (S := (fun w' => w'.cell? ⟨w.heap.size, k, none⟩ = some (.int .u64 fk))) (by kernel_rfl) s0 (fun hHeld => ?_)
                refine wpAnyH_take (i := 0) (v := ?_) (by simp only [List.getElem?_toArray, List.getElem?_cons_zero]; rfl) (by kernel_rfl) (by kernel_rfl) (by kernel_rfl) (fun _ _ _ h => h) (Or.inl ⟨by rfl, ?_⟩) hHeld ?_
                (rotate_left 1; (focus ((intro w hSw; (try dsimp only at hSw); go_simp) <;> with_reducible rfl)); all_goals skip)
                try simp only [Act.put, List.setIfInBounds_toArray, List.set_cons_zero, List.set_cons_succ]
                refine wpAnyH_take (i := 1) (v := ?_) (by simp only [List.getElem?_toArray, List.getElem?_cons_succ, List.getElem?_cons_zero]; rfl) (by kernel_rfl) (by kernel_rfl) (by kernel_rfl) (fun _ _ _ h => h) (Or.inl ⟨by rfl, ?_⟩) hHeld ?_
                (rotate_left 1; (focus ((intro w hSw; (try dsimp only at hSw); go_simp) <;> with_reducible rfl)); all_goals skip)
                try simp only [Act.put, List.setIfInBounds_toArray, List.set_cons_zero, List.set_cons_succ]
                refine wpAnyH_take (i := 2) (v := ?_) (by simp only [List.getElem?_toArray, List.getElem?_cons_succ, List.getElem?_cons_zero]; rfl) (by kernel_rfl) (by kernel_rfl) (by kernel_rfl) (fun _ _ _ h => h) (Or.inl ⟨by rfl, ?_⟩) hHeld ?_
                (rotate_left 1; (focus ((intro w hSw; (try dsimp only at hSw); go_simp) <;> with_reducible rfl)); all_goals skip)
                try simp only [Act.put, List.setIfInBounds_toArray, List.set_cons_zero, List.set_cons_succ]
                refine wpAnyH_take (i := 3) (v := ?_) (by simp only [List.getElem?_toArray, List.getElem?_cons_succ, List.getElem?_cons_zero]; rfl) (by kernel_rfl) (by kernel_rfl) (by kernel_rfl) (fun _ _ _ h => h) (Or.inl ⟨by rfl, ?_⟩) hHeld ?_
                (rotate_left 1; (focus ((intro w hSw; (try dsimp only at hSw); go_simp) <;> with_reducible rfl)); all_goals skip)
                try simp only [Act.put, List.setIfInBounds_toArray, List.set_cons_zero, List.set_cons_succ]
                refine wpAnyH_take (i := 4) (v := ?_) (by simp only [List.getElem?_toArray, List.getElem?_cons_succ, List.getElem?_cons_zero]; rfl) (by kernel_rfl) (by kernel_rfl) (by kernel_rfl) (fun _ _ _ h => h) (Or.inl ⟨by rfl, ?_⟩) hHeld ?_
                (rotate_left 1; (focus ((intro w hSw; (try dsimp only at hSw); go_simp) <;> with_reducible rfl)); all_goals skip)
                try simp only [Act.put, List.setIfInBounds_toArray, List.set_cons_zero, List.set_cons_succ]
                refine wpAnyH_take (i := 6) (v := ?_) (by simp only [List.getElem?_toArray, List.getElem?_cons_succ, List.getElem?_cons_zero]; rfl) (by kernel_rfl) (by kernel_rfl) (by kernel_rfl) (fun _ _ _ h => h) (Or.inl ⟨by rfl, ?_⟩) hHeld ?_
                (rotate_left 1; (focus ((intro w hSw; (try dsimp only at hSw); go_simp) <;> with_reducible rfl)); all_goals skip)
                try simp only [Act.put, List.setIfInBounds_toArray, List.set_cons_zero, List.set_cons_succ]
                refine wpAnyH_take (i := 7) (v := ?_) (by simp only [List.getElem?_toArray, List.getElem?_cons_succ, List.getElem?_cons_zero]; rfl) (by kernel_rfl) (by kernel_rfl) (by kernel_rfl) (fun _ _ _ h => h) (Or.inl ⟨by rfl, ?_⟩) hHeld ?_
                (rotate_left 1; (focus ((intro w hSw; (try dsimp only at hSw); go_simp) <;> with_reducible rfl)); all_goals skip)
                try simp only [Act.put, List.setIfInBounds_toArray, List.set_cons_zero, List.set_cons_succ]
                refine wpAnyH_take (i := 8) (v := ?_) (by simp only [List.getElem?_toArray, List.getElem?_cons_succ, List.getElem?_cons_zero]; rfl) (by kernel_rfl) (by kernel_rfl) (by kernel_rfl) (fun _ _ _ h => h) (Or.inl ⟨by rfl, ?_⟩) hHeld ?_
                (rotate_left 1; (focus ((intro w hSw; (try dsimp only at hSw); go_simp) <;> with_reducible rfl)); all_goals skip)
                try simp only [Act.put, List.setIfInBounds_toArray, List.set_cons_zero, List.set_cons_succ]
                refine wpAnyH_take (i := 9) (v := ?_) (by simp only [List.getElem?_toArray, List.getElem?_cons_succ, List.getElem?_cons_zero]; rfl) (by kernel_rfl) (by kernel_rfl) (by kernel_rfl) (fun _ _ _ h => h) (Or.inl ⟨by rfl, ?_⟩) hHeld ?_
                (rotate_left 1; (focus ((intro w hSw; (try dsimp only at hSw); go_simp) <;> with_reducible rfl)); all_goals skip)
                try simp only [Act.put, List.setIfInBounds_toArray, List.set_cons_zero, List.set_cons_succ]
                refine wpAnyH_ready (rs := [5]) (by kernel_rfl) (by simp) ?_
                refine AllReadyH.cons (by simp only [List.getElem?_toArray, List.getElem?_cons_succ, List.getElem?_cons_zero]; rfl) (fun K hK => ?_) ?_
                (rotate_left 1; (focus exact AllReadyH.nil); rotate_right 1)
                go_simp
                refine hK.out _ _ s0 (fun hHeld => ?_)
                clear hK K
                try simp only [Act.put, List.setIfInBounds_toArray, List.set_cons_zero, List.set_cons_succ]
                refine wpAnyH_take (i := 10) (v := ?_) (by simp only [List.getElem?_toArray, List.getElem?_cons_succ, List.getElem?_cons_zero]; rfl) (by kernel_rfl) (by kernel_rfl) (by kernel_rfl) (fun _ _ _ h => h) (Or.inl ⟨by rfl, ?_⟩) hHeld ?_
                (rotate_left 1; (focus ((intro w hSw; (try dsimp only at hSw); go_simp) <;> with_reducible rfl)); all_goals skip)
                try simp only [Act.put, List.setIfInBounds_toArray, List.set_cons_zero, List.set_cons_succ]
                refine wpAnyH_take (i := 11) (v := ?_) (by simp only [List.getElem?_toArray, List.getElem?_cons_succ, List.getElem?_cons_zero]; rfl) (by kernel_rfl) (by kernel_rfl) (by kernel_rfl) (fun _ _ _ h => h) (Or.inl ⟨by rfl, ?_⟩) hHeld ?_
                (rotate_left 1; (focus ((intro w hSw; (try dsimp only at hSw); go_simp) <;> with_reducible rfl)); all_goals skip)
                try simp only [Act.put, List.setIfInBounds_toArray, List.set_cons_zero, List.set_cons_succ]
                refine wpAnyH_ready (rs := [12]) (by kernel_rfl) (by simp) ?_
                refine AllReadyH.cons (by simp only [List.getElem?_toArray, List.getElem?_cons_succ, List.getElem?_cons_zero]; rfl) (fun K hK => ?_) ?_
                (rotate_left 1; (focus exact AllReadyH.nil); rotate_right 1)
                go_simp
                refine hK.out _ _ s1 (fun hHeld => ?_)
                clear hK K
                try simp only [Act.put, List.setIfInBounds_toArray, List.set_cons_zero, List.set_cons_succ]
                refine wpAnyH_done (by kernel_rfl) (NoPanic.normal ?_) _
                rw [HQ.out]
                go_wp2_with fail
                go_roundw
                case rel => exact ⟨k + 1, by go_num, by omega, by omega, Lib.hid ⟨_, (show Blk wr.drew w.heap.size 24 cs2 from HC1.out).set_ i _, (HC2.out.put i (sk + fk)).congr fun j hj => by
                  unfold putU
                  try dsimp only
                  by_cases hji : j = i
                  · subst hji; rw [if_pos rfl, if_pos rfl, HSN.out, HGK.out, HSK.out, HFK.out]
                  · rw [if_neg hji, if_neg hji, if_neg hji]⟩, Lib.hid (HBI.out.drew.setCell (p := ⟨w.heap.size, i, none⟩) (Nat.le_refl _) _)⟩
                case measure => simp [intOf]; omega
              · have x1 : (ab == (i : Int)) = false := beq_false_of_ne hai
                rw [if_neg hai] at HGK
                clear hai
                go_wp2_with fail
                go_roundw
                case rel => exact ⟨k + 1, by go_num, by omega, by omega, Lib.hid ⟨_, HC1.out, HC2.out.congr fun j hj => by
                  try dsimp only
                  by_cases hji : j = i
                  · subst hji; rw [if_pos rfl, if_pos rfl, HSN.out, HGK.out, Int.add_zero]
                  · rw [if_neg hji, if_neg hji]⟩, HBI⟩
                case measure => simp [intOf]; omega
            · have t3 : decide ((k : Int) < n) = false := decide_eq_false (by omega)
              obtain rfl : n = k := by omega
              go_wp2_with fail
              go_roundw
              case rel => exact ⟨i, (i : Int) - 1, rfl, rfl, by omega, Lib.hid (by
                obtain ⟨cs2, h1, h2⟩ := HKI.out
                exact ⟨cs2, h1, h2.congr fun j hj => by
                  try dsimp only
                  by_cases hji : j = i
                  · subst hji; rw [if_pos rfl, if_pos (Nat.le_refl _), HFV.out]
                  · by_cases h3 : i + 1 ≤ j
                    · rw [if_neg hji, if_pos h3, if_pos (show i ≤ j by omega)]
                    · rw [if_neg hji, if_neg h3, if_neg (show ¬ i ≤ j by omega)]⟩), HBI⟩
              case measure => simp [intOf] <;> omega
end Go.Proofs.YtoaboklckkcjcaaGreat.eliC
