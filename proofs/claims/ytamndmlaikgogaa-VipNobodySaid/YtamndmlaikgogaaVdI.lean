/- Layer 19: copies of addresses that are balanced, and of views. -/
import Derived.Test.YtamndmlaikgogaaVdH
namespace Go.Proofs.Ytamndmlaikgogaa.vdI
open Go.ChangeShapes Go.WideShapes Go.ChangeAt Go.RowKit
open Go.Proofs.Ytamndmlaikgogaa.base Go.Proofs.Ytamndmlaikgogaa.dfA Go.Proofs.Ytamndmlaikgogaa.treB Go.Proofs.Ytamndmlaikgogaa.treG Go.Proofs.Ytamndmlaikgogaa.treH Go.Proofs.Ytamndmlaikgogaa.vdA
set_option linter.unusedVariables false

/-- Rows laid behind each other. -/
def flatR (f : Nat → List Value) (n : Nat) : List Value := (List.range n).flatMap f
theorem flatR_succ (f : Nat → List Value) (n : Nat) : flatR f (n + 1) = flatR f n ++ f n := by
  unfold flatR; rw [List.range_succ, List.flatMap_append]; simp
theorem flatR_len {f : Nat → List Value} {k : Nat} (hf : ∀ j, (f j).length = k) : ∀ n, (flatR f n).length = n * k
  | 0 => by simp [flatR]
  | n + 1 => by rw [flatR_succ, List.length_append, flatR_len hf n, hf, Nat.succ_mul]
theorem flatR_at {f : Nat → List Value} {k : Nat} (hf : ∀ j, (f j).length = k) : ∀ n j, j < n → ∀ i, i < k → (flatR f n)[j * k + i]? = (f j)[i]?
  | 0, j, hj, _, _ => by omega
  | n + 1, j, hj, i, hi => by
    rw [flatR_succ]
    by_cases h : j < n
    · have h1 : j * k + i < n * k := by
        have : (j + 1) * k ≤ n * k := Nat.mul_le_mul_right k h
        rw [Nat.succ_mul] at this
        omega
      rw [List.getElem?_append_left (by rw [flatR_len hf]; exact h1)]
      exact flatR_at hf n j h i hi
    · obtain rfl : n = j := by omega
      rw [List.getElem?_append_right (by rw [flatR_len hf]; omega), flatR_len hf]
      congr 1
      omega
theorem flatR_one {f : Nat → List Value} (hf : ∀ j, ∀ u ∈ f j, u.oneCell' = true) (n : Nat) : ∀ u ∈ flatR f n, u.oneCell' = true := fun u hu => by
  unfold flatR at hu
  rw [List.mem_flatMap] at hu
  obtain ⟨j, _, hj⟩ := hu
  exact hf j u hj
theorem flatR_of {w : World} {b off n k : Nat} {f : Nat → List Value} (hk : 0 < k) (hf : ∀ j, (f j).length = k) (h : RowsOf w (some ⟨b, off, none⟩) n k f) : ∀ (q : Nat) (u : Value), (flatR f n)[q]? = some u → w.cell? ((⟨b, off, none⟩ : Addr).add q) = some u := by
  intro q u hu
  have hq : q < n * k := by
    have := (List.getElem?_eq_some_iff.mp hu).1
    rwa [flatR_len hf] at this
  have hj : q / k < n := Nat.div_lt_of_lt_mul (by rw [Nat.mul_comm]; exact hq)
  obtain ⟨b2, o2, hA, _, hC⟩ := rows_at h (q / k) hj
  injection hA with hA
  injection hA with e1 e2
  subst e1 e2
  have h1 := hC (q % k) (Nat.mod_lt _ hk)
  have h2 := flatR_at hf n (q / k) hj (q % k) (Nat.mod_lt _ hk)
  have h3 : q / k * k + q % k = q := by rw [Nat.mul_comm]; exact Nat.div_add_mod q k
  rw [h3, hu] at h2
  rw [Addr.add_lit, show off + q = off + q / k * k + q % k by omega, h1, ← h2]
theorem rows_own {w : World} {B k n : Nat} {t : TypeId} {v : Value} {f : Nat → List Value} (hf : ∀ j, (f j).length = k) (h : w.ownsRow B t k v n (flatR f n)) : ∃ A c, v = .slice A n c ∧ n ≤ c ∧ c ≤ 9223372036854775807 ∧ RowsOf w A n k f ∧ ∀ ad : Addr, A = some ad → B ≤ ad.block ∧ ad.block < w.heap.size := by
  rcases h.2 with ⟨h0, h1⟩ | ⟨g, cap, cur, e1, e2, e3, e4, e5, e6, e7⟩
  · subst h1
    exact ⟨none, 0, h0, Nat.le_refl _, by omega, .inl rfl, fun ad e => by cases e⟩
  · refine ⟨_, cap, e1, e4, by unfold maxLen at e5; omega, .inr ⟨g, 0, rfl, (h.lt g (by rw [e1]; rfl)).2, fun j hj i hi => ?_⟩, fun ad e => by injection e with e; subst e; exact ⟨e2, (h.lt g (by rw [e1]; rfl)).2⟩⟩
    have h7 := h
    rw [e1] at h7
    have h1 : j * k + i < n * k := by
      have : (j + 1) * k ≤ n * k := Nat.mul_le_mul_right k hj
      rw [Nat.succ_mul] at this
      omega
    rw [Nat.zero_add, h7.cellAt (j * k + i) h1]
    exact flatR_at hf n j hj i hi
theorem rows_set {w : World} {A : Option Addr} {n k : Nat} {f : Nat → List Value} (h : RowsOf w A n k f) (g i : Nat) (u : Value) (hg : ∀ ad : Addr, A = some ad → ad.block ≠ g) : RowsOf (w.setCell ⟨g, i, none⟩ u) A n k f := by
  rcases h with h0 | ⟨b, off, h1, h2, h3⟩
  · exact .inl h0
  · have hne := hg _ h1
    refine .inr ⟨b, off, h1, by simpa using h2, fun j hj i2 hi => ?_⟩
    rw [← h3 j hj i2 hi]
    exact World.cell?_of_block (Below.heap_setCell w _ u b (by simpa using hne))
def ClR (k : Nat) (f : Nat → List Value) (n : Nat) (w : World) (o : Ending) (w' : World) : Prop := ∃ A c, o = .returned (.slice A n c) ∧ n ≤ c ∧ c ≤ 9223372036854775807 ∧ RowsOf w' A n k f ∧ Below w.heap.size w w' ∧ ∀ ad : Addr, A = some ad → w.heap.size ≤ ad.block ∧ ad.block < w'.heap.size
theorem len_v (l : List Vp) (j : Nat) : ((l.getD j zVp).cells.toList).length = 7 := rfl
theorem cell_v (l : List Vp) (j : Nat) : ∀ u ∈ (l.getD j zVp).cells.toList, u.oneCell' = true := fun u hu => by
  unfold Vp.cells at hu
  simp only [List.mem_cons, List.not_mem_nil, or_false] at hu
  rcases hu with rfl | rfl | rfl | rfl | rfl | rfl | rfl <;> rfl
theorem info_v : (Try.prog.info? 48).map (fun i => (i.zero, i.size, i.bytes)) = some (some (.agg #[.bool false, .int .u64 0, .int .u64 0, .int .i64 0, .int .i64 0, .int .i64 0, .bool false]), 7, 56) := by kernel_rfl
set_option maxHeartbeats 4000000 in
theorem clone_v (A : Option Addr) (c : Nat) (l : List Vp) (w : World) (hr : RowsOf w A l.length 7 (fun j => (l.getD j zVp).cells.toList)) (hl : l.length ≤ 1000) :
    Calls Try.prog 29 #[.slice A l.length c] w (ClR 7 (fun j => (l.getD j zVp).cells.toList) l.length w) := by
  have q22 : ∀ (w : World) (a : Option Addr) (n c n' c' : Nat), (binOp .eql 23 (.slice a n c) (.slice none n' c')).run Try.prog w = .ok (.bool a.isNone) w := fun w a n c n' c' => Lib.run_eql_slice_nil w _ _ a n c n' c' Try.underlying23
  cases A with
  | none =>
    have hl0 : l = [] := by
      rcases hr with h | ⟨b, off, h, _⟩
      · exact List.eq_nil_of_length_eq_zero h
      · cases h
    subst hl0
    have HB := Lib.hid (Below.refl w.heap.size w)
    clear hr
    go_enter Try.func29, Try.ntmps29
    go_wp2_with fail
    go_ret
    exact ⟨none, 0, rfl, Nat.le_refl _, by omega, .inl rfl, HB.out, fun ad e => by cases e⟩
  | some ad =>
    obtain ⟨i0, hi0, hz0, hz1, hz2⟩ := info_parts info_v
    have HI0 := Lib.hid hi0
    have HZ0 := Lib.hid hz0
    have HZ1 := Lib.hid hz1
    have HZ2 := Lib.hid hz2
    have BE := Lib.hid ((Below.refl w.heap.size w).alloc (Nat.le_refl _) (.cells #[] 48))
    have OE := Lib.hid (show (w.alloc (.cells #[] 48)).ownsRow w.heap.size 48 7 (.slice (some ⟨w.heap.size, 0, none⟩) 0 0) 0 [] from World.ownsRow_made w #[] 0 (Nat.le_refl _) (Nat.zero_le _) rfl)
    have HNW := Lib.hid (show ∀ (q : Nat) (u : Value), (flatR (fun j => (l.getD j zVp).cells.toList) l.length)[q]? = some u → (w.alloc (.cells #[] 48)).cell? (ad.add q) = some u from by
      have hr2 := rows_below hr BE.out
      rcases hr with h | ⟨b, off, h, h2, h3⟩
      · intro q u hu; rw [h] at hu; simp [flatR] at hu
      · injection h with h
        subst h
        exact flatR_of (by omega) (len_v l) hr2)
    have ONE := Lib.hid (flatR_one (cell_v l) l.length)
    have HFL := Lib.hid (flatR_len (len_v l) l.length)
    have P1 := Lib.hid (show 0 + l.length ≤ maxLen by unfold maxLen; omega)
    have P2 := Lib.hid (show (0 + l.length) * 56 ≤ 140737488355328 by omega)
    have P3 := Lib.hid (BE.out.size)
    have LN := Lib.hid (len_v l)
    obtain ⟨F, hF⟩ : ∃ F : Nat → List Value, F = fun j => (l.getD j zVp).cells.toList := ⟨_, rfl⟩
    rw [← hF] at HNW ONE HFL ⊢
    have LN2 := Lib.hid (show ∀ j, (F j).length = 7 from fun j => by rw [hF]; rfl)
    clear hi0 hz0 hz1 hz2 hr hF LN
    go_enter Try.func29, Try.ntmps29
    go_wp2_with (at_builtin; refine wpList_append_own _ rfl (.tmp 5) (.tmp 6) _ rfl w.heap.size 48 i0 _ 7 56 Try.underlying23 HI0.out HZ0.out HZ1.out HZ2.out rfl (by omega) _ 0 [] rfl OE.out ad l.length c (flatR F l.length) rfl HFL.out HNW.out ONE.out P1.out P2.out P3.out ?_; intro v6 w6 ho hg _; have HO1 := Lib.hid ho; have HB1 := Lib.hid (BE.out.grown hg P3.out (fun k hk => (World.ownsRow.lt OE.out k hk).1)); clear ho hg)
    go_ret
    have h1 := HO1.out
    rw [Nat.zero_add, List.nil_append] at h1
    obtain ⟨A2, c2, rfl, k1, k2, k3, k4⟩ := rows_own LN2.out h1
    exact ⟨A2, c2, rfl, k1, k2, k3, HB1.out, k4⟩
theorem len_w (l : List Vw) (j : Nat) : ((l.getD j zVw).cells.toList).length = 5 := rfl
theorem cell_w (l : List Vw) (j : Nat) : ∀ u ∈ (l.getD j zVw).cells.toList, u.oneCell' = true := fun u hu => by
  unfold Vw.cells at hu
  simp only [List.mem_cons, List.not_mem_nil, or_false] at hu
  rcases hu with rfl | rfl | rfl | rfl | rfl <;> rfl
theorem info_w : (Try.prog.info? 52).map (fun i => (i.zero, i.size, i.bytes)) = some (some (.agg #[.bool false, .int .u64 0, .int .u64 0, .int .i64 0, .int .i64 0]), 5, 40) := by kernel_rfl
set_option maxHeartbeats 4000000 in
theorem clone_w (A : Option Addr) (c : Nat) (l : List Vw) (w : World) (hr : RowsOf w A l.length 5 (fun j => (l.getD j zVw).cells.toList)) (hl : l.length ≤ 1000) :
    Calls Try.prog 30 #[.slice A l.length c] w (ClR 5 (fun j => (l.getD j zVw).cells.toList) l.length w) := by
  have q22 : ∀ (w : World) (a : Option Addr) (n c n' c' : Nat), (binOp .eql 24 (.slice a n c) (.slice none n' c')).run Try.prog w = .ok (.bool a.isNone) w := fun w a n c n' c' => Lib.run_eql_slice_nil w _ _ a n c n' c' Try.underlying24
  cases A with
  | none =>
    have hl0 : l = [] := by
      rcases hr with h | ⟨b, off, h, _⟩
      · exact List.eq_nil_of_length_eq_zero h
      · cases h
    subst hl0
    have HB := Lib.hid (Below.refl w.heap.size w)
    clear hr
    go_enter Try.func30, Try.ntmps30
    go_wp2_with fail
    go_ret
    exact ⟨none, 0, rfl, Nat.le_refl _, by omega, .inl rfl, HB.out, fun ad e => by cases e⟩
  | some ad =>
    obtain ⟨i0, hi0, hz0, hz1, hz2⟩ := info_parts info_w
    have HI0 := Lib.hid hi0
    have HZ0 := Lib.hid hz0
    have HZ1 := Lib.hid hz1
    have HZ2 := Lib.hid hz2
    have BE := Lib.hid ((Below.refl w.heap.size w).alloc (Nat.le_refl _) (.cells #[] 52))
    have OE := Lib.hid (show (w.alloc (.cells #[] 52)).ownsRow w.heap.size 52 5 (.slice (some ⟨w.heap.size, 0, none⟩) 0 0) 0 [] from World.ownsRow_made w #[] 0 (Nat.le_refl _) (Nat.zero_le _) rfl)
    have HNW := Lib.hid (show ∀ (q : Nat) (u : Value), (flatR (fun j => (l.getD j zVw).cells.toList) l.length)[q]? = some u → (w.alloc (.cells #[] 52)).cell? (ad.add q) = some u from by
      have hr2 := rows_below hr BE.out
      rcases hr with h | ⟨b, off, h, h2, h3⟩
      · intro q u hu; rw [h] at hu; simp [flatR] at hu
      · injection h with h
        subst h
        exact flatR_of (by omega) (len_w l) hr2)
    have ONE := Lib.hid (flatR_one (cell_w l) l.length)
    have HFL := Lib.hid (flatR_len (len_w l) l.length)
    have P1 := Lib.hid (show 0 + l.length ≤ maxLen by unfold maxLen; omega)
    have P2 := Lib.hid (show (0 + l.length) * 40 ≤ 140737488355328 by omega)
    have P3 := Lib.hid (BE.out.size)
    have LN := Lib.hid (len_w l)
    obtain ⟨F, hF⟩ : ∃ F : Nat → List Value, F = fun j => (l.getD j zVw).cells.toList := ⟨_, rfl⟩
    rw [← hF] at HNW ONE HFL ⊢
    have LN2 := Lib.hid (show ∀ j, (F j).length = 5 from fun j => by rw [hF]; rfl)
    clear hi0 hz0 hz1 hz2 hr hF LN
    go_enter Try.func30, Try.ntmps30
    go_wp2_with (at_builtin; refine wpList_append_own _ rfl (.tmp 5) (.tmp 6) _ rfl w.heap.size 52 i0 _ 5 40 Try.underlying24 HI0.out HZ0.out HZ1.out HZ2.out rfl (by omega) _ 0 [] rfl OE.out ad l.length c (flatR F l.length) rfl HFL.out HNW.out ONE.out P1.out P2.out P3.out ?_; intro v6 w6 ho hg _; have HO1 := Lib.hid ho; have HB1 := Lib.hid (BE.out.grown hg P3.out (fun k hk => (World.ownsRow.lt OE.out k hk).1)); clear ho hg)
    go_ret
    have h1 := HO1.out
    rw [Nat.zero_add, List.nil_append] at h1
    obtain ⟨A2, c2, rfl, k1, k2, k3, k4⟩ := rows_own LN2.out h1
    exact ⟨A2, c2, rfl, k1, k2, k3, HB1.out, k4⟩
end Go.Proofs.Ytamndmlaikgogaa.vdI
