/- Layer 16: what a tree that is made tells. -/
import Derived.Test.YtndlgdjkldnfiaaTreL
namespace Go.Proofs.Ytndlgdjkldnfiaa.treM
open Go.ChangeShapes Go.WideShapes Go.ChangeAt Go.RowKit
open Go.Proofs.Ytndlgdjkldnfiaa.base Go.Proofs.Ytndlgdjkldnfiaa.dfA Go.Proofs.Ytndlgdjkldnfiaa.treB Go.Proofs.Ytndlgdjkldnfiaa.treD Go.Proofs.Ytndlgdjkldnfiaa.treG Go.Proofs.Ytndlgdjkldnfiaa.treH Go.Proofs.Ytndlgdjkldnfiaa.treJ
set_option linter.unusedVariables false

/-- A slice that reads as numbers. -/
def RdI (w : World) (A : Option Addr) (l : List Int) : Prop := l = [] ∨ ∃ b off, A = some ⟨b, off, none⟩ ∧ b < w.heap.size ∧ ∀ (j : Nat) (x : Int), l[j]? = some x → w.cell? ⟨b, off + j, none⟩ = some (.int .i64 x)
theorem RdI.below {w w' : World} {A : Option Addr} {l : List Int} (h : RdI w A l) (hb : Below w.heap.size w w') : RdI w' A l := by
  rcases h with h0 | ⟨b, off, h1, h2, h3⟩
  · exact .inl h0
  · exact .inr ⟨b, off, h1, Nat.lt_of_lt_of_le h2 hb.size, fun j x hx => (hb.cell (p := ⟨b, off + j, none⟩) h2).trans (h3 j x hx)⟩
theorem RdI.at_ {w : World} {A : Option Addr} {l : List Int} (h : RdI w A l) (j : Nat) (hj : j < l.length) : ∃ b off, A = some ⟨b, off, none⟩ ∧ b < w.heap.size ∧ w.cell? ⟨b, off + j, none⟩ = some (.int .i64 l[j]) := by
  rcases h with h0 | ⟨b, off, h1, h2, h3⟩
  · subst h0; simp at hj
  · exact ⟨b, off, h1, h2, h3 j _ (List.getElem?_eq_getElem hj)⟩
/-- A value that reads as a list of numbers. -/
def ReadI (w : World) (v : Value) (l : List Int) : Prop := ∃ A c, v = .slice A l.length c ∧ l.length ≤ c ∧ c ≤ 9223372036854775807 ∧ RdI w A l
theorem ReadI.below {w w' : World} {v : Value} {l : List Int} (h : ReadI w v l) (hb : Below w.heap.size w w') : ReadI w' v l := by
  obtain ⟨A, c, h1, h2, h3, h4⟩ := h
  exact ⟨A, c, h1, h2, h3, h4.below hb⟩
theorem ReadI.nil (w : World) : ReadI w (.slice none 0 0) [] := ⟨none, 0, rfl, Nat.le_refl _, by omega, .inl rfl⟩
theorem read_own {w : World} {B : Nat} {v : Value} {l : List Int} (h : OwnI w B v l) : ReadI w v l := by
  have h0 := h
  unfold OwnI at h0
  rcases h0.2 with ⟨e1, e2⟩ | ⟨g, cap, cur, e1, e2, e3, e4, e5, e6, e7⟩
  · have : l = [] := List.eq_nil_of_length_eq_zero e2
    subst this
    exact ⟨none, 0, e1, Nat.le_refl _, by omega, .inl rfl⟩
  · refine ⟨_, cap, e1, e4, by unfold maxLen at e5; omega, .inr ⟨g, 0, rfl, (h0.lt g (by rw [e1]; rfl)).2, fun j x hx => ?_⟩⟩
    have hj : j < l.length := (List.getElem?_eq_some_iff.mp hx).1
    rw [e1] at h0
    rw [Nat.zero_add, h0.cellAt j (by simpa using hj), List.getElem?_map, hx]
    rfl
set_option maxHeartbeats 4000000 in
/-- Two lists of the same numbers are the same. -/
theorem same_any (v1 v2 : Value) (l : List Int) (w : World) (h1 : ReadI w v1 l) (h2 : ReadI w v2 l) : Calls Try.prog 24 #[v1, v2] w fun o w' => o = .returned (.bool true) ∧ Below w.heap.size w w' := by
  obtain ⟨A1, c1, rfl, p1, p2, r1⟩ := h1
  obtain ⟨A2, c2, rfl, p3, p4, r2⟩ := h2
  have R1 := Lib.hid r1
  have R2 := Lib.hid r2
  have HW := Lib.hid (Below.refl w.heap.size w)
  obtain ⟨n, hn⟩ : ∃ n, n = l.length := ⟨_, rfl⟩
  have HN := Lib.hid hn
  rw [← hn] at p1 p3 ⊢
  clear r1 r2 hn
  go_enter Try.func24, Try.ntmps24
  go_wp2_with fail
  go_loopw [5] (fun i wr => ∃ k : Nat, i = .int .i64 k ∧ k ≤ n ∧ Below w.heap.size w wr) (fun i _ => n - (intOf i).toNat)
  case atStart => exact ⟨0, rfl, by omega, HW.out⟩
  case round =>
    obtain ⟨k, rfl, hk, hbel⟩ := hrel
    have KB := Lib.hid hbel
    clear hbel
    by_cases hkn : k < n
    · have t1 : decide ((k : Int) < n) = true := decide_eq_true (by omega)
      obtain ⟨b1, o1, hA1, x1, d1⟩ := (R1.out.below KB.out).at_ k (by have := HN.out; omega)
      obtain ⟨b2, o2, hA2, x2, d2⟩ := (R2.out.below KB.out).at_ k (by have := HN.out; omega)
      subst hA1 hA2
      obtain ⟨x, hx⟩ : ∃ x, x = l[k]'(by have := HN.out; omega) := ⟨_, rfl⟩
      rw [← hx] at d1 d2
      have s0 : wr.drew.cell? ⟨b1, o1 + k, none⟩ = some (.int .i64 x) ∧ wr.drew.cell? ⟨b2, o2 + k, none⟩ = some (.int .i64 x) := ⟨d1, d2⟩
      have j0 : (0 : Int) ≤ k := by omega
      have j1 : (k : Int) < n := by omega
      clear hx d1 d2 x1 x2
      go_wp2_with fail
      go_region_held3 (fun w' => w'.cell? ⟨b1, o1 + k, none⟩ = some (.int .i64 x) ∧ w'.cell? ⟨b2, o2 + k, none⟩ = some (.int .i64 x)) (assumption) (first | fail)
      go_wp2_with fail
      go_roundw
      case rel => exact ⟨k + 1, by go_num, by omega, KB.out.drew⟩
      case measure => simp [intOf]; omega
    · have t1 : decide ((k : Int) < n) = false := decide_eq_false (by omega)
      go_wp2_with fail
      go_ret
      exact ⟨rfl, KB.out⟩
theorem find1_any (e : Nd) (s : ByteArray) (c : Nat) (w : World) (hc : w.cell? ⟨c, 0, none⟩ = some (.string s)) (q : Bool) (hq : q = true ↔ e.nm = s) : Calls Try.prog 36 #[.agg e.cells, .pointer (some ⟨c, 0, none⟩)] w fun o w' => o = .returned (.bool q) ∧ Below w.heap.size w w' := by
  have HW := Lib.hid ((Below.refl w.heap.size w).alloc (Nat.le_refl _) (.cells #[.string e.nm, .int .i64 e.kind, .int .i64 e.ab, .int .i64 e.wt, .bool e.v6, .int .u64 e.hi, .int .u64 e.lo] 34))
  have hc2 : (w.alloc (.cells #[.string e.nm, .int .i64 e.kind, .int .i64 e.ab, .int .i64 e.wt, .bool e.v6, .int .u64 e.hi, .int .u64 e.lo] 34)).cell? ⟨c, 0, none⟩ = some (.string s) := (HW.out.cell (p := ⟨c, 0, none⟩) (World.block_lt_of_cell? w _ hc)).trans hc
  have hs : (e.nm.toList == s.toList) = q := by
    by_cases h : e.nm = s
    · rw [hq.mpr h]; exact str_yes h
    · have : q = false := by cases q with
        | false => rfl
        | true => exact absurd (hq.mp rfl) h
      rw [this]; exact str_no h
  unfold Nd.cells
  clear hc hq
  go_enter Try.func36, Try.ntmps36
  go_wp2_with fail
  go_ret
  first | exact ⟨rfl, HW.out⟩ | exact ⟨rfl, HW.out.drew⟩
theorem index_any (A : Option Addr) (c : Nat) (l : List Nd) (s : ByteArray) (w : World) (p : Nat) (hp : w.cell? ⟨p, 0, none⟩ = some (.string s)) (hr : RdN w A l) (hl : l.length ≤ 1000) (hc1 : l.length ≤ c) (hc2 : c ≤ 9223372036854775807) :
    Calls Try.prog 35 #[.slice A l.length c, .func (.func 36) #[] #[.pointer (some ⟨p, 0, none⟩)]] w fun o w' => ∃ at' : Int, o = .returned (.int .i64 at') ∧ IsFind l s at' ∧ Below w.heap.size w w' := by
  have HR := Lib.hid hr
  obtain ⟨n, hn⟩ : ∃ n, n = l.length := ⟨_, rfl⟩
  have HNL := Lib.hid hn
  rw [← hn] at hl hc1 ⊢
  have HP := Lib.hid (show ∀ w2, Below w.heap.size w w2 → w2.cell? ⟨p, 0, none⟩ = some (.string s) from fun w2 hb => (hb.cell (p := ⟨p, 0, none⟩) (World.block_lt_of_cell? w _ hp)).trans hp)
  clear hn hr hp
  go_enter Try.func35, Try.ntmps35
  go_wp2_with fail
  go_loopw [8] (fun i wr => ∃ j : Nat, i = .int .i64 j ∧ j ≤ n ∧ Hid (NoF l s j) ∧ Below w.heap.size w wr) (fun i _ => n - (intOf i).toNat)
  case atStart => exact ⟨0, rfl, by omega, Lib.hid (fun q hq hq2 => by omega), by first | exact Below.refl _ _ | exact (Below.refl _ _).drew⟩
  case round =>
    obtain ⟨j, rfl, hj, HNO, hbel⟩ := hrel
    have KB := Lib.hid hbel
    clear hbel
    by_cases hjn : j < n
    · have t1 : decide ((j : Int) < n) = true := decide_eq_true (by omega)
      have hjl : j < l.length := HNL.out ▸ hjn
      obtain ⟨b, off, hA, hbl, hC⟩ := (HR.out.below KB.out).at_ j hjl
      subst hA
      obtain ⟨e, he⟩ : ∃ e, e = l[j] := ⟨_, rfl⟩
      rw [← he] at hC
      have d0 : wr.cell? ⟨b, off + j * 7, none⟩ = some (.string e.nm) := hC 0 (by omega)
      have d1 : wr.cell? ⟨b, off + j * 7 + 1, none⟩ = some (.int .i64 e.kind) := hC 1 (by omega)
      have d2 : wr.cell? ⟨b, off + j * 7 + 2, none⟩ = some (.int .i64 e.ab) := hC 2 (by omega)
      have d3 : wr.cell? ⟨b, off + j * 7 + 3, none⟩ = some (.int .i64 e.wt) := hC 3 (by omega)
      have d4 : wr.cell? ⟨b, off + j * 7 + 4, none⟩ = some (.bool e.v6) := hC 4 (by omega)
      have d5 : wr.cell? ⟨b, off + j * 7 + 5, none⟩ = some (.int .u64 e.hi) := hC 5 (by omega)
      have d6 : wr.cell? ⟨b, off + j * 7 + 6, none⟩ = some (.int .u64 e.lo) := hC 6 (by omega)
      have HE := Lib.hid he
      have j0 : (0 : Int) ≤ j := by omega
      have j1 : (j : Int) < n := by omega
      clear hC he
      by_cases hx : e.nm = s
      · have HF := Lib.hid (HNO.out.here hjl (HE.out ▸ hx))
        have HC := Lib.hid (find1_any e s p wr (HP.out wr KB.out) true ⟨fun _ => hx, fun _ => rfl⟩)
        unfold Nd.cells at HC
        clear hx
        go_wp2_with fail
        refine HC.out.mono ?_
        rintro o w3 ⟨rfl, hb⟩
        have B3 := Lib.hid (KB.out.trans (hb.mono KB.out.size))
        clear hb
        go_wp2_with fail
        go_ret
        exact ⟨_, rfl, HF.out, B3.out⟩
      · have HX := Lib.hid (HNO.out.next hjl (HE.out ▸ hx))
        have HC := Lib.hid (find1_any e s p wr (HP.out wr KB.out) false ⟨fun h => (by cases h), fun h => absurd h hx⟩)
        unfold Nd.cells at HC
        clear hx
        go_wp2_with fail
        refine HC.out.mono ?_
        rintro o w3 ⟨rfl, hb⟩
        have B3 := Lib.hid (KB.out.trans (hb.mono KB.out.size))
        clear hb
        go_wp2_with fail
        go_roundw
        case rel => exact ⟨j + 1, by go_num, by omega, HX, B3.out⟩
        case measure => simp [intOf]; omega
    · have t1 : decide ((j : Int) < n) = false := decide_eq_false (by omega)
      obtain rfl : n = j := by omega
      have HF := Lib.hid (show IsFind l s (-1) from NoF.none (by have := HNO.out; rw [HNL.out] at this; exact this))
      go_wp2_with fail
      go_ret
      exact ⟨_, rfl, HF.out, KB.out⟩

/-- Nodes of the call's own read as a list. -/
theorem rdN_own2 {w : World} {B : Nat} {v : Value} {l : List Nd} (h : w.ownsRow B 34 7 v l.length (flatN l)) : ∃ A c, v = .slice A l.length c ∧ l.length ≤ c ∧ c ≤ 9223372036854775807 ∧ RdN w A l ∧ ∀ ad : Addr, A = some ad → B ≤ ad.block ∧ ad.block < w.heap.size := by
  rcases h.2 with ⟨h0, h1⟩ | ⟨g, cap, cur, e1, e2, e3, e4, e5, e6, e7⟩
  · have hl : l = [] := List.eq_nil_of_length_eq_zero h1
    subst hl
    exact ⟨none, 0, h0, Nat.le_refl _, by omega, .inl rfl, fun ad e => by cases e⟩
  · refine ⟨_, cap, e1, e4, by unfold maxLen at e5; omega, .inr ⟨g, 0, rfl, (h.lt g (by rw [e1]; rfl)).2, fun j hj i hi => ?_⟩, fun ad e => by injection e with e; subst e; exact ⟨e2, (h.lt g (by rw [e1]; rfl)).2⟩⟩
    have h7 := h
    rw [e1] at h7
    rw [Nat.zero_add, h7.cellAt (j * 7 + i) (by omega)]
    exact flatN_at l j hj i hi
theorem rdN_own {w : World} {B : Nat} {v : Value} {l : List Nd} (h : w.ownsRow B 34 7 v l.length (flatN l)) : ∃ A c, v = .slice A l.length c ∧ l.length ≤ c ∧ c ≤ 9223372036854775807 ∧ RdN w A l := by
  obtain ⟨A, c, h1, h2, h3, h4, _⟩ := rdN_own2 h
  exact ⟨A, c, h1, h2, h3, h4⟩
theorem flat_of {w : World} {b off : Nat} {l : List Nd} (h : RdN w (some ⟨b, off, none⟩) l) : ∀ (q : Nat) (u : Value), (flatN l)[q]? = some u → w.cell? ((⟨b, off, none⟩ : Addr).add q) = some u := by
  intro q u hu
  have hq : q < l.length * 7 := by
    have := (List.getElem?_eq_some_iff.mp hu).1
    rwa [flatN_len] at this
  have hj : q / 7 < l.length := by omega
  obtain ⟨b2, o2, hA, _, hC⟩ := h.at_ (q / 7) hj
  injection hA with hA
  injection hA with e1 e2
  subst e1 e2
  have h1 := hC (q % 7) (Nat.mod_lt _ (by omega))
  have h2 := flatN_at l (q / 7) hj (q % 7) (Nat.mod_lt _ (by omega))
  rw [show q / 7 * 7 + q % 7 = q by omega, hu] at h2
  rw [Addr.add_lit, show off + q = off + q / 7 * 7 + q % 7 by omega, h1, ← h2]
theorem one_f (l : List Nd) : ∀ u ∈ flatN l, u.oneCell' = true := fun u hu => by
  unfold flatN at hu
  rw [List.mem_flatMap] at hu
  obtain ⟨e, _, he⟩ := hu
  exact one_n1 e u he
def ClP (w : World) (l : List Nd) (o : Ending) (w' : World) : Prop := ∃ A c, o = .returned (.slice A l.length c) ∧ l.length ≤ c ∧ c ≤ 9223372036854775807 ∧ RdN w' A l ∧ Below w.heap.size w w' ∧ ∀ ad : Addr, A = some ad → w.heap.size ≤ ad.block ∧ ad.block < w'.heap.size
set_option maxHeartbeats 4000000 in
theorem clone_any (A : Option Addr) (c : Nat) (l : List Nd) (w : World) (hr : RdN w A l) (hl : l.length ≤ 1000) :
    Calls Try.prog 30 #[.slice A l.length c] w (ClP w l) := by
  have q22 : ∀ (w : World) (a : Option Addr) (n c n' c' : Nat), (binOp .eql 22 (.slice a n c) (.slice none n' c')).run Try.prog w = .ok (.bool a.isNone) w := fun w a n c n' c' => Lib.run_eql_slice_nil w _ _ a n c n' c' Try.underlying22
  cases A with
  | none =>
    have hl0 : l = [] := by
      rcases hr with h | ⟨b, off, h, _⟩
      · exact h
      · cases h
    subst hl0
    have HB := Lib.hid (Below.refl w.heap.size w)
    clear hr
    go_enter Try.func30, Try.ntmps30
    go_wp2_with fail
    go_ret
    exact ⟨none, 0, rfl, Nat.le_refl _, by omega, .inl rfl, HB.out, fun ad e => by cases e⟩
  | some ad =>
    obtain ⟨i0, hi0, hz0, hz1, hz2⟩ := info_parts info_n
    have HI0 := Lib.hid hi0
    have HZ0 := Lib.hid hz0
    have HZ1 := Lib.hid hz1
    have HZ2 := Lib.hid hz2
    have BE := Lib.hid ((Below.refl w.heap.size w).alloc (Nat.le_refl _) (.cells #[] 34))
    have OE := Lib.hid (show (w.alloc (.cells #[] 34)).ownsRow w.heap.size 34 7 (.slice (some ⟨w.heap.size, 0, none⟩) 0 0) 0 [] from World.ownsRow_made w #[] 0 (Nat.le_refl _) (Nat.zero_le _) rfl)
    have HNW := Lib.hid (show ∀ (q : Nat) (u : Value), (flatN l)[q]? = some u → (w.alloc (.cells #[] 34)).cell? (ad.add q) = some u from by
      rcases hr with h | ⟨b, off, h, h2, h3⟩
      · subst h; intro q u hu; simp [flatN] at hu
      · injection h with h
        subst h
        exact flat_of ((show RdN w (some ⟨b, off, none⟩) l from .inr ⟨b, off, rfl, h2, h3⟩).below BE.out))
    have ONE := Lib.hid (one_f l)
    have HFL := Lib.hid (flatN_len l)
    have P1 := Lib.hid (show 0 + l.length ≤ maxLen by unfold maxLen; omega)
    have P2 := Lib.hid (show (0 + l.length) * 64 ≤ 140737488355328 by omega)
    have P3 := Lib.hid (BE.out.size)
    clear hi0 hz0 hz1 hz2 hr
    go_enter Try.func30, Try.ntmps30
    go_wp2_with (at_builtin; refine wpList_append_own _ rfl (.tmp 5) (.tmp 6) _ rfl w.heap.size 34 i0 _ 7 64 Try.underlying22 HI0.out HZ0.out HZ1.out HZ2.out rfl (by omega) _ 0 [] rfl OE.out ad l.length c (flatN l) rfl HFL.out HNW.out ONE.out P1.out P2.out P3.out ?_; intro v6 w6 ho hg _; have HO1 := Lib.hid ho; have HB1 := Lib.hid (BE.out.grown hg P3.out (fun k hk => (World.ownsRow.lt OE.out k hk).1)); clear ho hg)
    go_ret
    have h1 := HO1.out
    rw [Nat.zero_add, List.nil_append] at h1
    obtain ⟨A2, c2, rfl, k1, k2, k3, k4⟩ := rdN_own2 h1
    exact ⟨A2, c2, rfl, k1, k2, k3, HB1.out, k4⟩
/-- A tree that is made: nodes l, which may all be. -/
structure TreeOk (w : World) (T : Nat) (l : List Nd) : Prop where
  grow : ∃ nv kv ks, Grow T w l l.length (kidsL l l.length) nv kv ks
  good : GoodTo l l.length
  len : l.length ≤ 1000
theorem TreeOk.below {w w' : World} {T : Nat} {l : List Nd} (h : TreeOk w T l) (hb : Below w.heap.size w w') : TreeOk w' T l := by
  obtain ⟨⟨nv, kv, ks, hg⟩, h2, h3⟩ := h
  exact ⟨⟨nv, kv, ks, hg.below hb⟩, h2, h3⟩
theorem TreeOk.at_ {w : World} {T : Nat} {l : List Nd} (h : TreeOk w T l) : ∃ A c K kc, TreeAt w T l A c K l.length kc := by
  obtain ⟨⟨nv, kv, ks, hg⟩, _⟩ := h
  obtain ⟨A, c, K, kc, ht, _⟩ := hg.at_
  exact ⟨A, c, K, kc, ht⟩
set_option maxHeartbeats 4000000 in
theorem nodes_any {w : World} {T : Nat} {l : List Nd} (h : TreeOk w T l) : Calls Try.prog 15 #[.pointer (some ⟨T, 0, none⟩)] w (ClP w l) := by
  obtain ⟨A, c, K, kc, ht⟩ := h.at_
  have d0 := ht.nodes
  have HC := Lib.hid (clone_any A c l w ht.rd h.len)
  clear h ht
  go_enter Try.func15, Try.ntmps15
  go_wp2_with fail
  refine HC.out.mono ?_
  rintro o w1 ⟨A2, c2, rfl, h1, h2, h3, h4, h5⟩
  have H3 := Lib.hid h3
  have H4 := Lib.hid h4
  have H5 := Lib.hid h5
  clear h3 h4 h5
  go_wp2_with fail
  go_ret
  exact ⟨A2, c2, rfl, h1, h2, H3.out, H4.out, H5.out⟩
set_option maxHeartbeats 4000000 in
theorem find_any {w : World} {T : Nat} {l : List Nd} (h : TreeOk w T l) (s : ByteArray) : Calls Try.prog 20 #[.pointer (some ⟨T, 0, none⟩), .string s] w fun o w' => ∃ at' : Int, o = .returned (.int .i64 at') ∧ IsFind l s at' ∧ Below w.heap.size w w' := by
  have hmf : ∀ (fn : Fn) (first cap : Array Value) (w : World), (Instr.makeFunc fn first cap).run Try.prog w = .ok (.func fn first cap) w := fun _ _ _ _ => rfl
  have HW := Lib.hid ((Below.refl w.heap.size w).alloc (Nat.le_refl _) (.cells #[.string s] 9))
  have hp := (Blk.new w 9 #[.string s]).cell 0
  obtain ⟨A, c, K, kc, ht⟩ := (h.below HW.out).at_
  have d0 := ht.nodes
  have HI := Lib.hid (index_any A c l s _ w.heap.size hp ht.rd h.len ht.cap ht.cap2)
  clear h ht hp
  go_enter Try.func20, Try.ntmps20
  go_wp2_with fail
  refine HI.out.mono ?_
  rintro o w2 ⟨at', rfl, hf, hb⟩
  have HF := Lib.hid hf
  have HB := Lib.hid (HW.out.trans (hb.mono HW.out.size))
  clear hf hb
  go_wp2_with fail
  go_ret
  exact ⟨_, rfl, HF.out, HB.out⟩
/-- The nodes right below node i. -/
def kidsP (l : List Nd) (i : Int) : List Int := if isB i l.length = true then kidsL l l.length i.toNat else []
set_option maxHeartbeats 4000000 in
theorem kids_any {w : World} {T : Nat} {l : List Nd} (h : TreeOk w T l) (i : Int) : Calls Try.prog 16 #[.pointer (some ⟨T, 0, none⟩), .int .i64 i] w fun o w' => ∃ v, o = .returned v ∧ ReadI w' v (kidsP l i) ∧ Below w.heap.size w w' := by
  obtain ⟨A, c, K, kc, ht⟩ := h.at_
  have HI := Lib.hid (is_any ht i)
  unfold kidsP
  cases hq : isB i l.length with
  | false =>
    rw [hq] at HI
    rw [if_neg (by decide)]
    clear h ht hq
    go_enter Try.func16, Try.ntmps16
    go_wp2_with fail
    refine HI.out.mono ?_
    rintro o w1 ⟨rfl, hb⟩
    have HB := Lib.hid hb
    clear hb
    go_wp2_with fail
    go_ret
    exact ⟨_, rfl, ReadI.nil _, HB.out⟩
  | true =>
    rw [hq] at HI
    rw [if_pos rfl]
    obtain ⟨a, rfl, ha⟩ : ∃ a : Nat, i = (a : Int) ∧ a < l.length := by
      unfold isB at hq
      simp only [Bool.and_eq_true, decide_eq_true_eq] at hq
      exact ⟨i.toNat, by omega, by omega⟩
    rw [Int.toNat_natCast]
    have HH := Lib.hid h
    clear hq ht h
    have kle := kidsL_le l l.length a
    obtain ⟨m, hm⟩ : ∃ m, m = kidsL l l.length a := ⟨_, rfl⟩
    have hml : m.length ≤ l.length := hm ▸ kle
    have HM := Lib.hid hm
    rw [← hm]
    obtain ⟨ln, hln⟩ : ∃ ln, ln = l.length := ⟨_, rfl⟩
    have HLN := Lib.hid hln
    have hl := HH.out.len
    rw [← hln] at ha hml hl
    clear hm kle hln
    go_enter Try.func16, Try.ntmps16
    go_wp2_with fail
    refine HI.out.mono ?_
    rintro o w1 ⟨rfl, hb⟩
    have HB := Lib.hid hb
    obtain ⟨⟨nv, kv, ks, hg⟩, _, _⟩ := HH.out.below hb
    have hkn := hg.kids.1
    rw [← HLN.out] at hg hkn
    obtain ⟨kg, kcap, hkv⟩ : ∃ g cap, kv = .slice (some ⟨g, 0, none⟩) ln cap := by
      have h7 := hg.kids
      rcases h7.2 with ⟨_, h0⟩ | ⟨g, cap, cur, h1, _⟩
      · omega
      · exact ⟨g, cap, h1⟩
    subst hkv
    have hal : a < ks.length := by omega
    have dk : w1.cell? ⟨T, 1, none⟩ = some (.slice (some ⟨kg, 0, none⟩) ln kcap) := hg.tree.cell 1
    have hcap : ln ≤ kcap ∧ kcap ≤ 9223372036854775807 := by
      have h7 := hg.kids
      rcases h7.2 with ⟨h0, _⟩ | ⟨g, cap, cur, h1, _, _, h4, h5, _⟩
      · cases h0
      · injection h1 with _ _ h1
        subst h1
        exact ⟨h4, by unfold maxLen at h5; omega⟩
    obtain ⟨hcap1, hcap2⟩ := hcap
    obtain ⟨u, hu⟩ : ∃ u, ks[a]? = some u := ⟨_, List.getElem?_eq_getElem hal⟩
    have da : w1.cell? ⟨kg, a, none⟩ = some u := by
      have h7 := hg.kids.cellAt a (by omega)
      rw [h7, hu]
    have OU := Lib.hid (show OwnI w1 (T + 1) u m from by have := hg.each a u hu; rw [HLN.out] at this; rwa [← HM.out] at this)
    have j0 : (0 : Int) ≤ a := by omega
    have j1 : (a : Int) < ln := by omega
    clear hb hg hu hkn
    have OU2 := OU.out
    unfold OwnI at OU2
    rcases OU2.2 with ⟨e1, e2⟩ | ⟨g, cap, cur, e1, e2, e3, e4, e5, e6, e7⟩
    · subst e1
      have hm0 : m = [] := List.eq_nil_of_length_eq_zero e2
      have HC := Lib.hid (Go.Proofs.Try.slices_Clone_int_nil 0 0 w1)
      clear OU2 e2
      go_wp2_with fail
      refine HC.out.mono ?_
      rintro o w2 ⟨rfl, rfl⟩
      go_wp2_with fail
      go_ret
      exact ⟨_, rfl, by rw [hm0]; exact ReadI.nil _, HB.out⟩
    · subst e1
      have HC := Lib.hid (Go.Proofs.Try.slices_Clone_int g 0 m.length cap m w1 (Nat.le_refl _) (by omega) (fun j hj => by
        rw [Nat.zero_add, OU2.cellAt j (by simpa using hj), List.getElem?_map, List.getElem?_eq_getElem hj, List.getD_eq_getElem?_getD, List.getElem?_eq_getElem hj]
        rfl))
      clear OU2 e2 e3 e6 e7
      go_wp2_with fail
      refine HC.out.mono ?_
      rintro o w2 ⟨v, rfl, ho, _, hb⟩
      have HO := Lib.hid (show OwnI w2 w1.heap.size v m from by unfold OwnI; rw [List.take_of_length_le (Nat.le_refl _)] at ho; exact ho)
      have HB2 := Lib.hid (HB.out.trans (hb.mono HB.out.size))
      clear ho hb
      go_wp2_with fail
      go_ret
      exact ⟨_, rfl, read_own HO.out, HB2.out⟩
end Go.Proofs.Ytndlgdjkldnfiaa.treM
