/- Layer 16: what a tree that is made tells. -/
import Derived.Test.YtamndmlaikgogaaTreL
namespace Go.Proofs.Ytamndmlaikgogaa.treM
open Go.ChangeShapes Go.WideShapes Go.ChangeAt Go.RowKit
open Go.Proofs.Ytamndmlaikgogaa.base Go.Proofs.Ytamndmlaikgogaa.dfA Go.Proofs.Ytamndmlaikgogaa.treB Go.Proofs.Ytamndmlaikgogaa.treD Go.Proofs.Ytamndmlaikgogaa.treG Go.Proofs.Ytamndmlaikgogaa.treH Go.Proofs.Ytamndmlaikgogaa.treJ
set_option linter.unusedVariables false

/-- A slice that reads as numbers. -/
def RdI (w : World) (A : Option Addr) (l : List Int) : Prop := l = [] ∨ ∃ b off, A = some ⟨b, off, none⟩ ∧ b < w.heap.size ∧ ∀ (j : Nat) (x : Int), l[j]? = some x → w.cell? ⟨b, off + j, none⟩ = some (.int .i64 x)
theorem RdI.below {w w' : World} {A : Option Addr} {l : List Int} (h : RdI w A l) (hb : Below w.heap.size w w') : RdI w' A l := by
  rcases h with h0 | ⟨b, off, h1, h2, h3⟩
  · exact .inl h0
  · exact .inr ⟨b, off, h1, Nat.lt_of_lt_of_le h2 hb.size, fun j x hx => (hb.cell (p := ⟨b, off + j, none⟩) h2).trans (h3 j x hx)⟩
theorem RdI.at_ {w : World} {A : Option Addr} {l : List Int} (h : RdI w A l) (j : Nat) (hj : j < l.length) : ∃ b off, A = some ⟨b, off, none⟩ ∧ b < w.heap.size ∧ w.cell? ⟨b, off + j, none⟩ = some (.int .i64 l[j]) := by
  rcases h with h0 | ⟨b, off, h1, h2, h3⟩
  · subst h0; simp at hj
  · exact ⟨b, off, h1, h2, h3 j _ (List.getElem?_eq_getElem hj)⟩
/-- A value that reads as a list of numbers. -/
def ReadI (w : World) (v : Value) (l : List Int) : Prop := ∃ A c, v = .slice A l.length c ∧ l.length ≤ c ∧ c ≤ 9223372036854775807 ∧ RdI w A l
theorem ReadI.below {w w' : World} {v : Value} {l : List Int} (h : ReadI w v l) (hb : Below w.heap.size w w') : ReadI w' v l := by
  obtain ⟨A, c, h1, h2, h3, h4⟩ := h
  exact ⟨A, c, h1, h2, h3, h4.below hb⟩
theorem ReadI.nil (w : World) : ReadI w (.slice none 0 0) [] := ⟨none, 0, rfl, Nat.le_refl _, by omega, .inl rfl⟩
theorem read_own {w : World} {B : Nat} {v : Value} {l : List Int} (h : OwnI w B v l) : ReadI w v l := by
  have h0 := h
  unfold OwnI at h0
  rcases h0.2 with ⟨e1, e2⟩ | ⟨g, cap, cur, e1, e2, e3, e4, e5, e6, e7⟩
  · have : l = [] := List.eq_nil_of_length_eq_zero e2
    subst this
    exact ⟨none, 0, e1, Nat.le_refl _, by omega, .inl rfl⟩
  · refine ⟨_, cap, e1, e4, by unfold maxLen at e5; omega, .inr ⟨g, 0, rfl, (h0.lt g (by rw [e1]; rfl)).2, fun j x hx => ?_⟩⟩
    have hj : j < l.length := (List.getElem?_eq_some_iff.mp hx).1
    rw [e1] at h0
    rw [Nat.zero_add, h0.cellAt j (by simpa using hj), List.getElem?_map, hx]
    rfl
/-- Nodes of the call's own read as a list. -/
theorem rdN_own2 {w : World} {B : Nat} {v : Value} {l : List Nd} (h : w.ownsRow B 44 7 v l.length (flatN l)) : ∃ A c, v = .slice A l.length c ∧ l.length ≤ c ∧ c ≤ 9223372036854775807 ∧ RdN w A l ∧ ∀ ad : Addr, A = some ad → B ≤ ad.block ∧ ad.block < w.heap.size := by
  rcases h.2 with ⟨h0, h1⟩ | ⟨g, cap, cur, e1, e2, e3, e4, e5, e6, e7⟩
  · have hl : l = [] := List.eq_nil_of_length_eq_zero h1
    subst hl
    exact ⟨none, 0, h0, Nat.le_refl _, by omega, .inl rfl, fun ad e => by cases e⟩
  · refine ⟨_, cap, e1, e4, by unfold maxLen at e5; omega, .inr ⟨g, 0, rfl, (h.lt g (by rw [e1]; rfl)).2, fun j hj i hi => ?_⟩, fun ad e => by injection e with e; subst e; exact ⟨e2, (h.lt g (by rw [e1]; rfl)).2⟩⟩
    have h7 := h
    rw [e1] at h7
    rw [Nat.zero_add, h7.cellAt (j * 7 + i) (by omega)]
    exact flatN_at l j hj i hi
theorem rdN_own {w : World} {B : Nat} {v : Value} {l : List Nd} (h : w.ownsRow B 44 7 v l.length (flatN l)) : ∃ A c, v = .slice A l.length c ∧ l.length ≤ c ∧ c ≤ 9223372036854775807 ∧ RdN w A l := by
  obtain ⟨A, c, h1, h2, h3, h4, _⟩ := rdN_own2 h
  exact ⟨A, c, h1, h2, h3, h4⟩
theorem flat_of {w : World} {b off : Nat} {l : List Nd} (h : RdN w (some ⟨b, off, none⟩) l) : ∀ (q : Nat) (u : Value), (flatN l)[q]? = some u → w.cell? ((⟨b, off, none⟩ : Addr).add q) = some u := by
  intro q u hu
  have hq : q < l.length * 7 := by
    have := (List.getElem?_eq_some_iff.mp hu).1
    rwa [flatN_len] at this
  have hj : q / 7 < l.length := by omega
  obtain ⟨b2, o2, hA, _, hC⟩ := h.at_ (q / 7) hj
  injection hA with hA
  injection hA with e1 e2
  subst e1 e2
  have h1 := hC (q % 7) (Nat.mod_lt _ (by omega))
  have h2 := flatN_at l (q / 7) hj (q % 7) (Nat.mod_lt _ (by omega))
  rw [show q / 7 * 7 + q % 7 = q by omega, hu] at h2
  rw [Addr.add_lit, show off + q = off + q / 7 * 7 + q % 7 by omega, h1, ← h2]
theorem one_f (l : List Nd) : ∀ u ∈ flatN l, u.oneCell' = true := fun u hu => by
  unfold flatN at hu
  rw [List.mem_flatMap] at hu
  obtain ⟨e, _, he⟩ := hu
  exact one_n1 e u he
def ClP (w : World) (l : List Nd) (o : Ending) (w' : World) : Prop := ∃ A c, o = .returned (.slice A l.length c) ∧ l.length ≤ c ∧ c ≤ 9223372036854775807 ∧ RdN w' A l ∧ Below w.heap.size w w' ∧ ∀ ad : Addr, A = some ad → w.heap.size ≤ ad.block ∧ ad.block < w'.heap.size
set_option maxHeartbeats 4000000 in
theorem clone_any (A : Option Addr) (c : Nat) (l : List Nd) (w : World) (hr : RdN w A l) (hl : l.length ≤ 1000) :
    Calls Try.prog 47 #[.slice A l.length c] w (ClP w l) := by
  have q22 : ∀ (w : World) (a : Option Addr) (n c n' c' : Nat), (binOp .eql 22 (.slice a n c) (.slice none n' c')).run Try.prog w = .ok (.bool a.isNone) w := fun w a n c n' c' => Lib.run_eql_slice_nil w _ _ a n c n' c' Try.underlying22
  cases A with
  | none =>
    have hl0 : l = [] := by
      rcases hr with h | ⟨b, off, h, _⟩
      · exact h
      · cases h
    subst hl0
    have HB := Lib.hid (Below.refl w.heap.size w)
    clear hr
    go_enter Try.func47, Try.ntmps47
    go_wp2_with fail
    go_ret
    exact ⟨none, 0, rfl, Nat.le_refl _, by omega, .inl rfl, HB.out, fun ad e => by cases e⟩
  | some ad =>
    obtain ⟨i0, hi0, hz0, hz1, hz2⟩ := info_parts info_n
    have HI0 := Lib.hid hi0
    have HZ0 := Lib.hid hz0
    have HZ1 := Lib.hid hz1
    have HZ2 := Lib.hid hz2
    have BE := Lib.hid ((Below.refl w.heap.size w).alloc (Nat.le_refl _) (.cells #[] 44))
    have OE := Lib.hid (show (w.alloc (.cells #[] 44)).ownsRow w.heap.size 44 7 (.slice (some ⟨w.heap.size, 0, none⟩) 0 0) 0 [] from World.ownsRow_made w #[] 0 (Nat.le_refl _) (Nat.zero_le _) rfl)
    have HNW := Lib.hid (show ∀ (q : Nat) (u : Value), (flatN l)[q]? = some u → (w.alloc (.cells #[] 44)).cell? (ad.add q) = some u from by
      rcases hr with h | ⟨b, off, h, h2, h3⟩
      · subst h; intro q u hu; simp [flatN] at hu
      · injection h with h
        subst h
        exact flat_of ((show RdN w (some ⟨b, off, none⟩) l from .inr ⟨b, off, rfl, h2, h3⟩).below BE.out))
    have ONE := Lib.hid (one_f l)
    have HFL := Lib.hid (flatN_len l)
    have P1 := Lib.hid (show 0 + l.length ≤ maxLen by unfold maxLen; omega)
    have P2 := Lib.hid (show (0 + l.length) * 64 ≤ 140737488355328 by omega)
    have P3 := Lib.hid (BE.out.size)
    clear hi0 hz0 hz1 hz2 hr
    go_enter Try.func47, Try.ntmps47
    go_wp2_with (at_builtin; refine wpList_append_own _ rfl (.tmp 5) (.tmp 6) _ rfl w.heap.size 44 i0 _ 7 64 Try.underlying22 HI0.out HZ0.out HZ1.out HZ2.out rfl (by omega) _ 0 [] rfl OE.out ad l.length c (flatN l) rfl HFL.out HNW.out ONE.out P1.out P2.out P3.out ?_; intro v6 w6 ho hg _; have HO1 := Lib.hid ho; have HB1 := Lib.hid (BE.out.grown hg P3.out (fun k hk => (World.ownsRow.lt OE.out k hk).1)); clear ho hg)
    go_ret
    have h1 := HO1.out
    rw [Nat.zero_add, List.nil_append] at h1
    obtain ⟨A2, c2, rfl, k1, k2, k3, k4⟩ := rdN_own2 h1
    exact ⟨A2, c2, rfl, k1, k2, k3, HB1.out, k4⟩
/-- A tree that is made: nodes l, which may all be. -/
structure TreeOk (w : World) (T : Nat) (l : List Nd) : Prop where
  grow : ∃ nv kv ks, Grow T w l l.length (kidsL l l.length) nv kv ks
  good : GoodTo l l.length
  len : l.length ≤ 1000
theorem TreeOk.below {w w' : World} {T : Nat} {l : List Nd} (h : TreeOk w T l) (hb : Below w.heap.size w w') : TreeOk w' T l := by
  obtain ⟨⟨nv, kv, ks, hg⟩, h2, h3⟩ := h
  exact ⟨⟨nv, kv, ks, hg.below hb⟩, h2, h3⟩
theorem TreeOk.at_ {w : World} {T : Nat} {l : List Nd} (h : TreeOk w T l) : ∃ A c K kc, TreeAt w T l A c K l.length kc := by
  obtain ⟨⟨nv, kv, ks, hg⟩, _⟩ := h
  obtain ⟨A, c, K, kc, ht, _⟩ := hg.at_
  exact ⟨A, c, K, kc, ht⟩
set_option maxHeartbeats 4000000 in
theorem nodes_any {w : World} {T : Nat} {l : List Nd} (h : TreeOk w T l) : Calls Try.prog 28 #[.pointer (some ⟨T, 0, none⟩)] w (ClP w l) := by
  obtain ⟨A, c, K, kc, ht⟩ := h.at_
  have d0 := ht.nodes
  have HC := Lib.hid (clone_any A c l w ht.rd h.len)
  clear h ht
  go_enter Try.func28, Try.ntmps28
  go_wp2_with fail
  refine HC.out.mono ?_
  rintro o w1 ⟨A2, c2, rfl, h1, h2, h3, h4, h5⟩
  have H3 := Lib.hid h3
  have H4 := Lib.hid h4
  have H5 := Lib.hid h5
  clear h3 h4 h5
  go_wp2_with fail
  go_ret
  exact ⟨A2, c2, rfl, h1, h2, H3.out, H4.out, H5.out⟩
/-- The nodes right below node i. -/
def kidsP (l : List Nd) (i : Int) : List Int := if isB i l.length = true then kidsL l l.length i.toNat else []
end Go.Proofs.Ytamndmlaikgogaa.treM
