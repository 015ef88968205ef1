/- Layer 16: a tree that grows in memory. -/
import Derived.Test.YtamndmlaikgogaaTreD
import Derived.OwnWalk
import Derived.Laws.AppendOwn
import Derived.Laws.OwnMore
import Derived.ArgAppend
namespace Go.Proofs.Ytamndmlaikgogaa.treG
open Go.ChangeShapes Go.WideShapes Go.ChangeAt Go.RowKit
open Go.Proofs.Ytamndmlaikgogaa.base Go.Proofs.Ytamndmlaikgogaa.dfA Go.Proofs.Ytamndmlaikgogaa.treB Go.Proofs.Ytamndmlaikgogaa.treD
set_option linter.unusedVariables false

def flatN (l : List Nd) : List Value := l.flatMap fun e => e.cells.toList
theorem flatN_len (l : List Nd) : (flatN l).length = l.length * 7 := by
  induction l with
  | nil => rfl
  | cons a l ih =>
    show (a.cells.toList ++ flatN l).length = _
    rw [List.length_append, ih, List.length_cons]
    have : a.cells.toList.length = 7 := rfl
    omega
theorem flatN_snoc (l : List Nd) (e : Nd) : flatN (l ++ [e]) = flatN l ++ e.cells.toList := by
  unfold flatN
  rw [List.flatMap_append]
  simp
theorem flatN_at (l : List Nd) : ∀ (j : Nat) (hj : j < l.length) (i : Nat), i < 7 → (flatN l)[j * 7 + i]? = (l[j]).cells[i]? := by
  induction l with
  | nil => intro j hj; exact absurd hj (by simp)
  | cons a l ih =>
    intro j hj i hi
    show (a.cells.toList ++ flatN l)[j * 7 + i]? = _
    have h7 : a.cells.toList.length = 7 := rfl
    cases j with
    | zero =>
      rw [List.getElem?_append_left (by omega)]
      simp
    | succ j =>
      rw [List.getElem?_append_right (by omega), h7, show (j + 1) * 7 + i - 7 = j * 7 + i by omega, ih j (by simpa using hj) i hi]
      simp
theorem own_far {w w' : World} {B : Nat} {e : TypeId} {size : Nat} {v : Value} {n : Nat} {xs : List Value} (h : w.ownsRow B e size v n xs) (hb : ∀ k, v.ownBlock = some k → w'.heap[k]? = w.heap[k]?) : w'.ownsRow B e size v n xs := by
  refine ⟨h.1, ?_⟩
  rcases h.2 with h0 | ⟨g, cap, cur, e1, e2, e3, e4⟩
  · exact .inl h0
  · exact .inr ⟨g, cap, cur, e1, e2, (hb g (by rw [e1]; rfl)).trans e3, e4⟩
/-- Is a node right below node a? -/
def kidB (e : Nd) (a : Nat) : Bool := e.kind != 1 && e.ab == (a : Int)
/-- The kids of node a among the first k nodes. -/
def kidsL (l : List Nd) : Nat → Nat → List Int
  | 0, _ => []
  | k + 1, a => if kidB (l.getD k zNd) a = true then kidsL l k a ++ [(k : Int)] else kidsL l k a
/-- One kid more of node a. -/
def setK (kd : Nat → List Int) (a : Nat) (x : Int) : Nat → List Int := fun j => if j = a then kd a ++ [x] else kd j
theorem setK_at (kd : Nat → List Int) (a : Nat) (x : Int) : setK kd a x a = kd a ++ [x] := if_pos rfl
theorem setK_ne (kd : Nat → List Int) (a : Nat) (x : Int) {j : Nat} (h : j ≠ a) : setK kd a x j = kd j := if_neg h
theorem kidsL_le (l : List Nd) (k a : Nat) : (kidsL l k a).length ≤ k := by
  induction k with
  | zero => exact Nat.le_refl _
  | succ k ih =>
    unfold kidsL
    split
    · rw [List.length_append]; exact Nat.succ_le_succ ih
    · exact Nat.le_succ_of_le ih
theorem kidsL_level {l : List Nd} {k : Nat} (hk : k < l.length) (h : (l[k]).kind = 1) : kidsL l (k + 1) = kidsL l k := by
  funext a
  have h1 : l.getD k zNd = l[k] := by rw [List.getD_eq_getElem?_getD, List.getElem?_eq_getElem hk]; rfl
  have h2 : kidB (l.getD k zNd) a = false := by unfold kidB; rw [h1, h]; rfl
  show (if kidB (l.getD k zNd) a = true then kidsL l k a ++ [(k : Int)] else kidsL l k a) = _
  rw [h2]; rfl
theorem kidsL_sub {l : List Nd} {k a : Nat} (hk : k < l.length) (h : (l[k]).kind ≠ 1) (ha : (l[k]).ab = (a : Int)) : kidsL l (k + 1) = setK (kidsL l k) a k := by
  funext j
  have h1 : l.getD k zNd = l[k] := by rw [List.getD_eq_getElem?_getD, List.getElem?_eq_getElem hk]; rfl
  show (if kidB (l.getD k zNd) j = true then kidsL l k j ++ [(k : Int)] else kidsL l k j) = _
  by_cases hj : j = a
  · subst hj
    have h2 : kidB (l.getD k zNd) j = true := by unfold kidB; rw [h1, ha]; simp [h]
    rw [h2, setK_at, if_pos rfl]
  · have h2 : kidB (l.getD k zNd) j = false := by
      unfold kidB; rw [h1, ha]
      have : ((a : Int) == (j : Int)) = false := beq_false_of_ne (by omega)
      rw [this, Bool.and_false]
    rw [h2, setK_ne _ _ _ hj]; rfl
theorem kidsL_none {l : List Nd} {a : Nat} : ∀ {k : Nat}, k ≤ l.length → (∀ j (hj : j < l.length), j < k → (l[j]).kind ≠ 1 → (l[j]).ab ≠ (a : Int)) → kidsL l k a = [] := by
  intro k
  induction k with
  | zero => intro _ _; rfl
  | succ k ih =>
    intro hk h
    have hkl : k < l.length := by omega
    have h1 : l.getD k zNd = l[k] := by rw [List.getD_eq_getElem?_getD, List.getElem?_eq_getElem hkl]; rfl
    have h2 : kidB (l.getD k zNd) a = false := by
      unfold kidB; rw [h1]
      by_cases hq : (l[k]).kind = 1
      · rw [hq]; rfl
      · have := beq_false_of_ne (h k hkl (by omega) hq)
        rw [this, Bool.and_false]
    show (if kidB (l.getD k zNd) a = true then kidsL l k a ++ [(k : Int)] else kidsL l k a) = _
    rw [h2]
    exact ih (by omega) (fun j hj hjk => h j hj (by omega))
/-- A tree as it grows: nodes l, and of the first n the kids, kd. -/
structure Grow (T : Nat) (w : World) (l : List Nd) (n : Nat) (m : Nat → List Int) (nv kv : Value) (ks : List Value) : Prop where
  tree : Blk w T 85 #[nv, kv]
  nodes : w.ownsRow (T + 1) 44 7 nv l.length (flatN l)
  kids : w.ownsRow (T + 1) 108 1 kv n ks
  each : ∀ (j : Nat) (u : Value), ks[j]? = some u → OwnI w (T + 1) u (m j)
  nk : ∀ g, nv.ownBlock = some g → kv.ownBlock ≠ some g
  nj : ∀ (j : Nat) (u : Value) (g : Nat), ks[j]? = some u → u.ownBlock = some g → nv.ownBlock ≠ some g ∧ kv.ownBlock ≠ some g
  jj : ∀ (i j : Nat) (u v : Value) (g : Nat), i ≠ j → ks[i]? = some u → ks[j]? = some v → u.ownBlock = some g → v.ownBlock ≠ some g
section
variable {T : Nat} {w w1 w2 : World} {l : List Nd} {n : Nat} {m : Nat → List Int} {nv kv nv' kv' : Value} {ks : List Value}
theorem Grow.keep (h : Grow T w l n m nv kv ks) (hb : ∀ k, k < w.heap.size → w1.heap[k]? = w.heap[k]?) : Grow T w1 l n m nv kv ks :=
  ⟨(hb _ h.tree.lt).trans h.tree, own_far h.nodes fun k e => hb k (h.nodes.lt k e).2, own_far h.kids fun k e => hb k (h.kids.lt k e).2,
    fun j u hu => by
      have o := h.each j u hu
      exact o.far fun k e => hb k (o.lt k e).2, h.nk, h.nj, h.jj⟩
theorem Grow.below (h : Grow T w l n m nv kv ks) (hb : Below w.heap.size w w1) : Grow T w1 l n m nv kv ks := h.keep fun k hk => hb.block k hk
theorem Grow.new (w : World) : Grow w.heap.size (w.alloc (.cells #[.slice none 0 0, .slice none 0 0] 85)) [] 0 (fun _ => []) (.slice none 0 0) (.slice none 0 0) [] :=
  ⟨Blk.new w _ _, World.ownsRow_nil _ _ _ 7, World.ownsRow_nil _ _ _ 1, (fun j u hu => by simp at hu), (fun g e => by cases e), (fun j u g hu => by simp at hu), (fun i j u v g _ hu => by simp at hu)⟩
/-- A node more. -/
theorem Grow.node (h : Grow T w l n m nv kv ks) (hb : Below w.heap.size w w1) (e : Nd) (ho : w2.ownsRow (T + 1) 44 7 nv' (l.length + 1) (flatN l ++ e.cells.toList)) (hg : w1.grownBy w2 nv.ownBlock)
    (hn : ∀ g, nv'.ownBlock = some g → nv.ownBlock = some g ∨ w1.heap.size ≤ g) : Grow T (w2.setCell ⟨T, 0, none⟩ nv') (l ++ [e]) n m nv' kv ks := by
  have hT : some T ≠ nv.ownBlock := fun e => by have := (h.nodes.lt T e.symm).1; omega
  have hT1 : Blk w1 T 85 #[nv, kv] := (hb.block _ h.tree.lt).trans h.tree
  have key : ∀ k, T + 1 ≤ k → k < w.heap.size → nv.ownBlock ≠ some k → (w2.setCell ⟨T, 0, none⟩ nv').heap[k]? = w.heap[k]? := fun k h1 h2 h3 =>
    ((Below.heap_setCell w2 ⟨T, 0, none⟩ nv' k (by show k ≠ T; omega)).trans (hg.block k (Nat.lt_of_lt_of_le h2 hb.size) (fun e => h3 e.symm))).trans (hb.block k h2)
  refine ⟨(hT1.grown hg hT).set_ 0 nv', ?_, own_far h.kids fun k e => key k (h.kids.lt k e).1 (h.kids.lt k e).2 (fun e2 => h.nk k e2 e), ?_, ?_, ?_, h.jj⟩
  · rw [flatN_snoc, List.length_append]
    exact own_far ho fun k e => Below.heap_setCell w2 ⟨T, 0, none⟩ nv' k (by show k ≠ T; have := (ho.lt k e).1; omega)
  · intro j u hu
    have o := h.each j u hu
    exact o.far fun k e => key k (o.lt k e).1 (o.lt k e).2 (h.nj j u k hu e).1
  · intro g e1 e2
    rcases hn g e1 with h1 | h1
    · exact h.nk g h1 e2
    · have := (h.kids.lt g e2).2; have := hb.size; omega
  · intro j u g hu e1
    refine ⟨fun e2 => ?_, (h.nj j u g hu e1).2⟩
    rcases hn g e2 with h1 | h1
    · exact (h.nj j u g hu e1).1 h1
    · have o := h.each j u hu
      have := (o.lt g e1).2; have := hb.size; omega
/-- A node's kids, none as yet. -/
theorem Grow.kid (h : Grow T w l n m nv kv ks) (hm : m n = []) (hb : Below w.heap.size w w1) (ho : w2.ownsRow (T + 1) 108 1 kv' (n + 1) (ks ++ [.slice none 0 0])) (hg : w1.grownBy w2 kv.ownBlock)
    (hn : ∀ g, kv'.ownBlock = some g → kv.ownBlock = some g ∨ w1.heap.size ≤ g) : Grow T (w2.setCell ⟨T, 1, none⟩ kv') l (n + 1) m nv kv' (ks ++ [.slice none 0 0]) := by
  have hT : some T ≠ kv.ownBlock := fun e => by have := (h.kids.lt T e.symm).1; omega
  have hT1 : Blk w1 T 85 #[nv, kv] := (hb.block _ h.tree.lt).trans h.tree
  have key : ∀ k, T + 1 ≤ k → k < w.heap.size → kv.ownBlock ≠ some k → (w2.setCell ⟨T, 1, none⟩ kv').heap[k]? = w.heap[k]? := fun k h1 h2 h3 =>
    ((Below.heap_setCell w2 ⟨T, 1, none⟩ kv' k (by show k ≠ T; omega)).trans (hg.block k (Nat.lt_of_lt_of_le h2 hb.size) (fun e => h3 e.symm))).trans (hb.block k h2)
  have old : ∀ (j : Nat) (u : Value) (g : Nat), (ks ++ [Value.slice none 0 0])[j]? = some u → u.ownBlock = some g → ks[j]? = some u := fun j u g hu e => by
    rcases Nat.lt_or_ge j ks.length with hj | hj
    · rwa [List.getElem?_append_left hj] at hu
    · rw [List.getElem?_append_right hj] at hu
      rcases hq : j - ks.length with _ | q
      · rw [hq] at hu
        simp at hu
        subst hu
        cases e
      · rw [hq] at hu
        simp at hu
  refine ⟨(hT1.grown hg hT).set_ 1 kv', own_far h.nodes fun k e => key k (h.nodes.lt k e).1 (h.nodes.lt k e).2 (h.nk k e), own_far ho fun k e => Below.heap_setCell w2 ⟨T, 1, none⟩ kv' k (by show k ≠ T; have := (ho.lt k e).1; omega), ?_, ?_, ?_, ?_⟩
  · intro j u hu
    rcases hq : u.ownBlock with _ | g
    · rcases Nat.lt_or_ge j ks.length with hj | hj
      · rw [List.getElem?_append_left hj] at hu
        have o := h.each j u hu
        exact o.far (fun k e => by rw [hq] at e; cases e)
      · rw [List.getElem?_append_right hj] at hu
        rcases hq2 : j - ks.length with _ | q
        · rw [hq2] at hu
          simp at hu
          subst hu
          have hjn : j = n := by have := h.kids.1; omega
          subst hjn
          rw [hm]
          exact World.ownsRow_nil _ _ _ 1
        · rw [hq2] at hu
          simp at hu
    · have o := h.each j u (old j u g hu hq)
      exact o.far fun k e => key k (o.lt k e).1 (o.lt k e).2 (h.nj j u k (old j u g hu hq) e).2
  · intro g e1 e2
    rcases hn g e2 with h1 | h1
    · exact h.nk g e1 h1
    · have := (h.nodes.lt g e1).2; have := hb.size; omega
  · intro j u g hu e1
    refine ⟨(h.nj j u g (old j u g hu e1) e1).1, fun e2 => ?_⟩
    rcases hn g e2 with h1 | h1
    · exact (h.nj j u g (old j u g hu e1) e1).2 h1
    · have o := h.each j u (old j u g hu e1)
      have := (o.lt g e1).2; have := hb.size; omega
  · intro i j u v g hij hu hv e1 e2
    exact h.jj i j u v g hij (old i u g hu e1) (old j v g hv e2) e1 e2
/-- A kid more of a node. -/
theorem Grow.sub {g cap a : Nat} {u u' : Value} {x : Int} (h : Grow T w l n m nv (.slice (some ⟨g, 0, none⟩) n cap) ks) (hb : Below w.heap.size w w1) (hu : ks[a]? = some u)
    (ho : w2.ownsRow (T + 1) 3 1 u' ((m a).length + 1) ((m a).map (Value.int .i64) ++ [.int .i64 x])) (hg : w1.grownBy w2 u.ownBlock)
    (hn : ∀ g, u'.ownBlock = some g → u.ownBlock = some g ∨ w1.heap.size ≤ g) : Grow T (w2.setCell ⟨g, a, none⟩ u') l n (setK m a x) nv (.slice (some ⟨g, 0, none⟩) n cap) (ks.set a u') := by
  have o0 := h.each a u hu
  have hgl := h.kids.lt g rfl
  have hT : some T ≠ u.ownBlock := fun e => by have := (o0.lt T e.symm).1; omega
  have hT1 : Blk w1 T 85 #[nv, .slice (some ⟨g, 0, none⟩) n cap] := (hb.block _ h.tree.lt).trans h.tree
  have hgu : some g ≠ u.ownBlock := fun e => (h.nj a u g hu e.symm).2 rfl
  have key : ∀ k, k < w.heap.size → u.ownBlock ≠ some k → k ≠ g → (w2.setCell ⟨g, a, none⟩ u').heap[k]? = w.heap[k]? := fun k h2 h3 h4 =>
    ((Below.heap_setCell w2 ⟨g, a, none⟩ u' k h4).trans (hg.block k (Nat.lt_of_lt_of_le h2 hb.size) (fun e => h3 e.symm))).trans (hb.block k h2)
  have hk1 : w2.ownsRow (T + 1) 108 1 (.slice (some ⟨g, 0, none⟩) n cap) n ks := own_far h.kids fun k e => by
    have hk : k = g := by injection e with e; exact e.symm
    subst hk
    exact (hg.block k (Nat.lt_of_lt_of_le hgl.2 hb.size) hgu).trans (hb.block k hgl.2)
  have ug : ∀ k, u'.ownBlock = some k → k ≠ g := fun k e1 e2 => by
    rcases hn k e1 with h1 | h1
    · exact hgu (by rw [h1, e2])
    · have := hb.size; omega
  refine ⟨((hT1.grown hg hT).far (by show T ≠ g; omega) u'), own_far h.nodes fun k e => key k (h.nodes.lt k e).2 (fun e2 => (h.nj a u k hu e2).1 e) (fun e2 => h.nk k e (by rw [e2]; rfl)), (hk1.stored a u').1, ?_, h.nk, ?_, ?_⟩
  · intro j v hv
    rw [List.getElem?_set] at hv
    by_cases hja : a = j
    · subst hja
      rw [if_pos rfl] at hv
      split at hv
      · injection hv with hv
        subst hv
        rw [setK_at]
        exact (OwnI.snoc ho).far fun k e => Below.heap_setCell w2 ⟨g, a, none⟩ u' k (ug k e)
      · cases hv
    · rw [if_neg hja] at hv
      have o := h.each j v hv
      rw [setK_ne _ _ _ (fun e => hja e.symm)]
      exact o.far fun k e => key k (o.lt k e).2 (fun e2 => h.jj a j u v k hja hu hv e2 e) (fun e2 => (h.nj j v k hv e).2 (by rw [e2]; rfl))
  · intro j v k hv e
    rw [List.getElem?_set] at hv
    by_cases hja : a = j
    · subst hja
      rw [if_pos rfl] at hv
      split at hv
      · injection hv with hv
        subst hv
        refine ⟨fun e2 => ?_, fun e2 => ug k e (by injection e2 with e2; exact e2.symm)⟩
        rcases hn k e with h1 | h1
        · exact (h.nj a u k hu h1).1 e2
        · have := (h.nodes.lt k e2).2; have := hb.size; omega
      · cases hv
    · rw [if_neg hja] at hv
      exact h.nj j v k hv e
  · intro i j v1 v2 k hij h1 h2 e1 e2
    rw [List.getElem?_set] at h1 h2
    have fresh : ∀ (q : Nat) (v : Value), a ≠ q → ks[q]? = some v → v.ownBlock = some k → u'.ownBlock ≠ some k := fun q v hq hv ev eu => by
      rcases hn k eu with h3 | h3
      · exact h.jj a q u v k hq hu hv h3 ev
      · have oq := h.each q v hv
        have := (oq.lt k ev).2; have := hb.size; omega
    by_cases hai : a = i
    · have haj : a ≠ j := fun e => hij (hai.symm.trans e)
      rw [if_pos hai] at h1
      rw [if_neg haj] at h2
      split at h1
      · injection h1 with h1
        subst h1
        exact fresh j v2 haj h2 e2 e1
      · cases h1
    · rw [if_neg hai] at h1
      by_cases haj : a = j
      · rw [if_pos haj] at h2
        split at h2
        · injection h2 with h2
          subst h2
          exact fresh i v1 hai h1 e1 e2
        · cases h2
      · rw [if_neg haj] at h2
        exact h.jj i j v1 v2 k hij h1 h2 e1 e2
theorem Grow.sub2 {g cap a : Nat} {u u' : Value} {x : Int} {li : List Int} (h : Grow T w l n m nv (.slice (some ⟨g, 0, none⟩) n cap) ks) (hli : li = m a) (hb : Below w.heap.size w w1) (hu : ks[a]? = some u)
    (ho : w2.ownsRow (T + 1) 3 1 u' (li.length + 1) (li.map (Value.int .i64) ++ [.int .i64 x])) (hg : w1.grownBy w2 u.ownBlock)
    (hn : ∀ g, u'.ownBlock = some g → u.ownBlock = some g ∨ w1.heap.size ≤ g) : Grow T (w2.setCell ⟨g, a, none⟩ u') l n (setK m a x) nv (.slice (some ⟨g, 0, none⟩) n cap) (ks.set a u') := by
  subst hli
  exact h.sub hb hu ho hg hn
/-- It reads as a tree. -/
theorem Grow.at_ (h : Grow T w l n m nv kv ks) : ∃ A c K kc, TreeAt w T l A c K n kc ∧ nv = .slice A l.length c := by
  obtain ⟨K, kc, hk⟩ := own_slice h.kids
  rcases h.nodes.2 with ⟨h0, h1⟩ | ⟨g, cap, cur, e1, e2, e3, e4, e5, e6, e7⟩
  · have hl : l = [] := List.eq_nil_of_length_eq_zero h1
    subst hl
    refine ⟨none, 0, K, kc, ⟨by rw [h.tree.cell 0, h0]; rfl, by rw [h.tree.cell 1, hk]; rfl, .inl rfl, Nat.le_refl _, by omega⟩, h0⟩
  · refine ⟨_, cap, K, kc, ⟨by rw [h.tree.cell 0, e1]; rfl, by rw [h.tree.cell 1, hk]; rfl, .inr ⟨g, 0, rfl, (h.nodes.lt g (by rw [e1]; rfl)).2, fun j hj i hi => ?_⟩, e4, by unfold maxLen at e5; omega⟩, e1⟩
    have h7 := h.nodes
    rw [e1] at h7
    rw [Nat.zero_add, h7.cellAt (j * 7 + i) (by omega)]
    exact flatN_at l j hj i hi
end
end Go.Proofs.Ytamndmlaikgogaa.treG
