/- Layer 6: a trie in memory. -/
import Derived.Test.YtamndmlaikgogaaVpA
namespace Go.Proofs.Ytamndmlaikgogaa.vpB
open Go.ChangeShapes Go.WideShapes Go.ChangeAt Go.RowKit
open Go.Proofs.Ytamndmlaikgogaa.base Go.Proofs.Ytamndmlaikgogaa.dfA Go.Proofs.Ytamndmlaikgogaa.treB Go.Proofs.Ytamndmlaikgogaa.vdB Go.Proofs.Ytamndmlaikgogaa.vdC Go.Proofs.Ytamndmlaikgogaa.vpA
set_option linter.unusedVariables false

/-- A cell that may be written. -/
def Cl (w : World) (g o : Nat) (v : Value) : Prop := w.cell? ⟨g, o, none⟩ = some v ∧ w.frozen? ⟨g, o, none⟩ = false
theorem Cl.lt {w : World} {g o : Nat} {v : Value} (h : Cl w g o v) : g < w.heap.size := by
  rcases Nat.lt_or_ge g w.heap.size with h' | h'
  · exact h'
  · have := h.1
    unfold World.cell? at this
    rw [Array.getElem?_eq_none h'] at this
    cases this
theorem Cl.same {w : World} {g o : Nat} {u : Value} (h : Cl w g o u) (v : Value) : Cl (w.setCell ⟨g, o, none⟩ v) g o v :=
  ⟨World.cell?_setCell_same w ⟨g, o, none⟩ v h.1, by rw [World.frozen?_setCell]; exact h.2⟩
theorem Cl.other {w : World} {g o : Nat} {u : Value} (h : Cl w g o u) {g' o' : Nat} (hne : g' ≠ g ∨ o' ≠ o) (v : Value) : Cl (w.setCell ⟨g', o', none⟩ v) g o u := by
  refine ⟨?_, by rw [World.frozen?_setCell]; exact h.2⟩
  rw [World.cell?_setCell_other]
  · exact h.1
  · intro e
    injection e with e1 e2
    rcases hne with h | h
    · exact h e1
    · exact h e2
theorem Cl.alloc {w : World} {g o : Nat} {u : Value} (h : Cl w g o u) (cs : Array Value) (t : TypeId) : Cl (w.alloc (.cells cs t)) g o u :=
  ⟨(World.cell?_alloc_lt w (.cells cs t) ⟨g, o, none⟩ h.lt).trans h.1, (World.frozen?_alloc_old w (.cells cs t) ⟨g, o, none⟩ (by show g ≠ _; have := h.lt; omega)).trans h.2⟩
theorem Cl.blk {w : World} {g : Nat} {t : TypeId} {cs : Array Value} (h : Blk w g t cs) {o : Nat} {v : Value} (hv : cs[o]? = some v) : Cl w g o v := ⟨(h.cell o).trans hv, h.frozen o⟩
theorem Cl.drew {w : World} {g o : Nat} {u : Value} (h : Cl w g o u) : Cl w.drew g o u := h
theorem Cl.keep {w w' : World} {g o : Nat} {u : Value} (h : Cl w g o u) (hb : w'.heap[g]? = w.heap[g]?) : Cl w' g o u :=
  ⟨(World.cell?_of_block (w := w) (a := ⟨g, o, none⟩) hb).trans h.1, (World.frozen?_of_block (w := w) (a := ⟨g, o, none⟩) hb).trans h.2⟩
/-- Where a place is. -/
def kid : Option (Nat × Nat) → Value
  | none => .pointer none
  | some (g, o) => .pointer (some ⟨g, o, none⟩)
abbrev Pos := List Bool → Option (Nat × Nat)
/-- The first i bits of an address, behind its version. -/
def pth (v6 : Bool) (hi lo : Int) : Nat → List Bool
  | 0 => [v6]
  | i + 1 => pth v6 hi lo i ++ [bitZ v6 hi lo i == 1]
theorem pth_ne (v6 : Bool) (hi lo : Int) (i : Nat) : pth v6 hi lo i ≠ [] := by
  cases i <;> simp [pth]
theorem pth_len (v6 : Bool) (hi lo : Int) (i : Nat) : (pth v6 hi lo i).length = i + 1 := by
  induction i with
  | zero => rfl
  | succ i ih => simp [pth, ih]
/-- A trie at block tr: where the places of all paths are, which paths are put, with which value, and how many. -/
structure Tr (w : World) (tr : Nat) (At : Pos) (has : List Bool → Bool) (val : List Bool → Int) (sz : Int) : Prop where
  root : ∀ b, At [b] = some (tr, if b then 4 else 0)
  nil_ : At [] = none
  cells : ∀ p g o, At p = some (g, o) → Cl w g o (kid (At (p ++ [false]))) ∧ Cl w g (o + 1) (kid (At (p ++ [true]))) ∧ Cl w g (o + 2) (.bool (has p)) ∧ Cl w g (o + 3) (.int .i64 (val p))
  size : Cl w tr 8 (.int .i64 sz)
  inj : ∀ p q x, At p = some x → At q = some x → p = q
  off : ∀ p g o, At p = some (g, o) → (g = tr ∧ (o = 0 ∨ o = 4)) ∨ (g ≠ tr ∧ o = 0)
  up : ∀ p b, p ≠ [] → At p = none → At (p ++ [b]) = none
  out : ∀ p, At p = none → has p = false ∧ val p = 0
theorem Tr.lt {w : World} {tr : Nat} {At : Pos} {has : List Bool → Bool} {val : List Bool → Int} {sz : Int} (h : Tr w tr At has val sz) {p : List Bool} {g o : Nat} (hp : At p = some (g, o)) : g < w.heap.size := (h.cells p g o hp).1.lt
/-- What is not of a trie stays. -/
structure Kp (At : Pos) (w w' : World) : Prop where
  os : w'.os = w.os
  tape : w'.tape = w.tape
  output : w'.output = w.output
  size : w.heap.size ≤ w'.heap.size
  block : ∀ k, k < w.heap.size → (∀ p o, At p ≠ some (k, o)) → w'.heap[k]? = w.heap[k]?
/-- More places. -/
structure Gr (N : Nat) (At At' : Pos) : Prop where
  old : ∀ p x, At p = some x → At' p = some x
  new : ∀ p g o, At' p = some (g, o) → At p = some (g, o) ∨ N ≤ g
theorem Gr.refl (N : Nat) (At : Pos) : Gr N At At := ⟨fun _ _ h => h, fun _ _ _ h => .inl h⟩
theorem Gr.trans {N N' : Nat} {A B C : Pos} (h : Gr N A B) (k : Gr N' B C) (hN : N ≤ N') : Gr N A C :=
  ⟨fun p x e => k.old p x (h.old p x e), fun p g o e => by
    rcases k.new p g o e with e | e
    · exact h.new p g o e
    · exact .inr (Nat.le_trans hN e)⟩
theorem Kp.refl (At : Pos) (w : World) : Kp At w w := ⟨rfl, rfl, rfl, Nat.le_refl _, fun _ _ _ => rfl⟩
theorem Kp.trans {A B : Pos} {a b c : World} (h : Kp A a b) (k : Kp B b c) (hg : Gr a.heap.size A B) : Kp A a c :=
  ⟨k.os.trans h.os, k.tape.trans h.tape, k.output.trans h.output, Nat.le_trans h.size k.size, fun i hi hn =>
    (k.block i (Nat.lt_of_lt_of_le hi h.size) (fun p o e => by
      rcases hg.new p i o e with e | e
      · exact hn p o e
      · omega)).trans (h.block i hi hn)⟩
theorem Kp.of {A : Pos} {w w' : World} (h : Below w.heap.size w w') : Kp A w w' := ⟨h.os, h.tape, h.output, h.size, fun k hk _ => h.block k hk⟩
theorem Kp.drew {A : Pos} {w w' : World} (h : Kp A w w') : Kp A w w'.drew := ⟨h.os, h.tape, h.output, h.size, h.block⟩
theorem Kp.set {A : Pos} {w w' : World} (h : Kp A w w') {g o : Nat} (hp : ∃ p o', A p = some (g, o')) (u : Value) : Kp A w (w'.setCell ⟨g, o, none⟩ u) :=
  ⟨h.os, h.tape, h.output, by simpa [World.setCell] using h.size, fun k hk hn => by
    rw [Below.heap_setCell]
    · exact h.block k hk hn
    · rintro rfl
      obtain ⟨p, o', e⟩ := hp
      exact hn p o' e⟩
theorem Kp.setN {A : Pos} {w w' : World} (h : Kp A w w') {g o : Nat} (hp : w.heap.size ≤ g) (u : Value) : Kp A w (w'.setCell ⟨g, o, none⟩ u) :=
  ⟨h.os, h.tape, h.output, by simpa [World.setCell] using h.size, fun k hk hn => by
    rw [Below.heap_setCell]
    · exact h.block k hk hn
    · rintro rfl
      exact absurd hk (Nat.not_lt.mpr hp)⟩
theorem Kp.alloc {A : Pos} {w w' : World} (h : Kp A w w') (o : Obj) : Kp A w (w'.alloc o) :=
  ⟨h.os, h.tape, h.output, by simpa using Nat.le_succ_of_le h.size, fun k hk hn => by
    rw [Below.heap_alloc _ _ _ (Nat.lt_of_lt_of_le hk h.size)]
    exact h.block k hk hn⟩
theorem Tr.keep {w w' : World} {tr : Nat} {At : Pos} {has : List Bool → Bool} {val : List Bool → Int} {sz : Int} (h : Tr w tr At has val sz) (hb : ∀ k, k < w.heap.size → w'.heap[k]? = w.heap[k]?) : Tr w' tr At has val sz :=
  ⟨h.root, h.nil_, fun p g o e => by
    have c := h.cells p g o e
    have b := hb g c.1.lt
    exact ⟨c.1.keep b, c.2.1.keep b, c.2.2.1.keep b, c.2.2.2.keep b⟩, h.size.keep (hb _ h.size.lt), h.inj, h.off, h.up, h.out⟩
/-- Another place. -/
def putAt (At : Pos) (p : List Bool) (x : Nat × Nat) : Pos := fun q => if q = p then some x else At q
theorem app_ne (p : List Bool) (b : Bool) : p ++ [b] ≠ p := by
  intro e
  have := congrArg List.length e
  simp at this
theorem snoc_inj {p q : List Bool} {a b : Bool} (h : p ++ [a] = q ++ [b]) : p = q ∧ a = b := by
  have := List.append_inj' h rfl
  simpa using this
/-- What the cell of a path's kid is. -/
theorem Tr.cellK {w : World} {tr : Nat} {At : Pos} {has : List Bool → Bool} {val : List Bool → Int} {sz : Int} (h : Tr w tr At has val sz) {p : List Bool} {g o : Nat} (hp : At p = some (g, o)) (b : Bool) : Cl w g (o + if b then 1 else 0) (kid (At (p ++ [b]))) := by
  have c := h.cells p g o hp
  cases b
  · exact c.1
  · exact c.2.1
/-- Two places have no cell together. -/
theorem Tr.apart {w : World} {tr : Nat} {At : Pos} {has : List Bool → Bool} {val : List Bool → Int} {sz : Int} (h : Tr w tr At has val sz) {p q : List Bool} {g o g' o' : Nat} (hp : At p = some (g, o)) (hq : At q = some (g', o')) (hne : p ≠ q) (i j : Nat) (hi : i < 4) (hj : j < 4) : g' ≠ g ∨ o' + j ≠ o + i := by
  by_cases e : g' = g
  · right
    intro e2
    apply hne
    have o1 := h.off p g o hp
    have o2 := h.off q g' o' hq
    have : o' = o := by
      rcases o1 with ⟨a, b⟩ | ⟨a, b⟩ <;> rcases o2 with ⟨c, d⟩ | ⟨c, d⟩
      · rcases b with b | b <;> rcases d with d | d <;> omega
      · exact absurd (e.trans a) c
      · exact absurd (e ▸ c) a
      · omega
    subst e; subst this
    exact h.inj p q _ hp hq
  · exact .inl e
/-- No place has the cell of how many. -/
theorem Tr.apart8 {w : World} {tr : Nat} {At : Pos} {has : List Bool → Bool} {val : List Bool → Int} {sz : Int} (h : Tr w tr At has val sz) {p : List Bool} {g o : Nat} (hp : At p = some (g, o)) (i : Nat) (hi : i < 4) : g ≠ tr ∨ o + i ≠ 8 := by
  rcases h.off p g o hp with ⟨_, b⟩ | ⟨a, b⟩
  · right; rcases b with b | b <;> omega
  · exact .inl a
/-- A place more. -/
theorem Tr.grow {w : World} {tr : Nat} {At : Pos} {has : List Bool → Bool} {val : List Bool → Int} {sz : Int} (h : Tr w tr At has val sz) {p : List Bool} {g o : Nat} (hp : At p = some (g, o)) (b : Bool) (hn : At (p ++ [b]) = none) (t : TypeId) :
    Tr ((w.alloc (.cells #[.pointer none, .pointer none, .bool false, .int .i64 0] t)).setCell ⟨g, o + (if b then 1 else 0), none⟩ (.pointer (some ⟨w.heap.size, 0, none⟩))) tr (putAt At (p ++ [b]) (w.heap.size, 0)) has val sz := by
  have hpn : p ≠ [] := by rintro rfl; rw [h.nil_] at hp; cases hp
  have hlt : ∀ q g o, At q = some (g, o) → g < w.heap.size := fun q g o e => h.lt e
  have hb2 : (if b then 1 else 0) < 4 := by cases b <;> decide
  have htr : tr ≠ w.heap.size := by have := h.size.lt; omega
  have hroot : ∀ b', [b'] ≠ p ++ [b] := by
    intro b' e
    have := congrArg List.length e
    have : p.length = 0 := by simpa using this
    exact hpn (List.length_eq_zero_iff.mp this)
  obtain ⟨wa, ha⟩ : ∃ wa, wa = w.alloc (.cells #[.pointer none, .pointer none, .bool false, .int .i64 0] t) := ⟨_, rfl⟩
  rw [← ha]
  have KA : ∀ {g o v}, Cl w g o v → Cl wa g o v := fun c => ha ▸ c.alloc _ _
  have BN : Blk wa w.heap.size t #[.pointer none, .pointer none, .bool false, .int .i64 0] := ha ▸ Blk.new w _ _
  have hgl := hlt p g o hp
  refine ⟨?_, ?_, ?_, ?_, ?_, ?_, ?_, ?_⟩
  · intro b'
    unfold putAt
    rw [if_neg (hroot b')]
    exact h.root b'
  · unfold putAt
    rw [if_neg (by simp)]
    exact h.nil_
  · intro q g' o' hq
    unfold putAt at hq
    by_cases e : q = p ++ [b]
    · rw [if_pos e] at hq
      injection hq with hq
      injection hq with e1 e2
      subst e1; subst e2; subst e
      have k : ∀ c, putAt At (p ++ [b]) (w.heap.size, 0) ((p ++ [b]) ++ [c]) = none := by
        intro c
        unfold putAt
        rw [if_neg (app_ne _ _)]
        exact h.up _ _ (by simp) hn
      have u := h.out _ hn
      rw [k, k, u.1, u.2]
      have ne : ∀ i, g ≠ w.heap.size ∨ o + (if b then 1 else 0) ≠ i := fun i => .inl (by omega)
      exact ⟨(Cl.blk BN (o := 0) rfl).other (ne _) _, (Cl.blk BN (o := 1) rfl).other (ne _) _, (Cl.blk BN (o := 2) rfl).other (ne _) _, (Cl.blk BN (o := 3) rfl).other (ne _) _⟩
    · rw [if_neg e] at hq
      have c := h.cells q g' o' hq
      by_cases eq : q = p
      · subst eq
        rw [hp] at hq
        injection hq with hq
        injection hq with e1 e2
        subst e1; subst e2
        have far : ∀ i v, Cl w g (o + i) v → i ≠ (if b then 1 else 0) → Cl (wa.setCell ⟨g, o + (if b then 1 else 0), none⟩ (.pointer (some ⟨w.heap.size, 0, none⟩))) g (o + i) v :=
          fun i v c hi => (KA c).other (.inr (by omega)) _
        have near := (KA (h.cellK hp b)).same (.pointer (some ⟨w.heap.size, 0, none⟩))
        have two := far 2 _ c.2.2.1 (by cases b <;> decide)
        have three := far 3 _ c.2.2.2 (by cases b <;> decide)
        cases b
        · have k0 : putAt At (q ++ [false]) (w.heap.size, 0) (q ++ [false]) = some (w.heap.size, 0) := by unfold putAt; rw [if_pos rfl]
          have k1 : putAt At (q ++ [false]) (w.heap.size, 0) (q ++ [true]) = At (q ++ [true]) := by unfold putAt; rw [if_neg (by simp)]
          rw [k0, k1]
          exact ⟨near, far 1 _ c.2.1 (by decide), two, three⟩
        · have k0 : putAt At (q ++ [true]) (w.heap.size, 0) (q ++ [true]) = some (w.heap.size, 0) := by unfold putAt; rw [if_pos rfl]
          have k1 : putAt At (q ++ [true]) (w.heap.size, 0) (q ++ [false]) = At (q ++ [false]) := by unfold putAt; rw [if_neg (by simp)]
          rw [k0, k1]
          exact ⟨far 0 _ c.1 (by decide), near, two, three⟩
      · have k : ∀ c, putAt At (p ++ [b]) (w.heap.size, 0) (q ++ [c]) = At (q ++ [c]) := by
          intro c
          unfold putAt
          rw [if_neg (fun e => eq (snoc_inj e).1)]
        rw [k, k]
        have ap := fun i hi => h.apart hq hp eq i (if b then 1 else 0) hi hb2
        exact ⟨(KA c.1).other (ap 0 (by omega)) _, (KA c.2.1).other (ap 1 (by omega)) _, (KA c.2.2.1).other (ap 2 (by omega)) _, (KA c.2.2.2).other (ap 3 (by omega)) _⟩
  · exact (KA h.size).other (h.apart8 hp _ hb2) _
  · intro a c x ea ec
    unfold putAt at ea ec
    by_cases e1 : a = p ++ [b] <;> by_cases e2 : c = p ++ [b]
    · exact e1.trans e2.symm
    · rw [if_pos e1] at ea
      rw [if_neg e2] at ec
      injection ea with ea
      subst ea
      have := hlt _ _ _ ec
      omega
    · rw [if_neg e1] at ea
      rw [if_pos e2] at ec
      injection ec with ec
      subst ec
      have := hlt _ _ _ ea
      omega
    · rw [if_neg e1] at ea
      rw [if_neg e2] at ec
      exact h.inj a c x ea ec
  · intro a g' o' ea
    unfold putAt at ea
    by_cases e1 : a = p ++ [b]
    · rw [if_pos e1] at ea
      injection ea with ea
      injection ea with h1 h2
      exact .inr ⟨by omega, h2.symm⟩
    · rw [if_neg e1] at ea
      exact h.off a g' o' ea
  · intro a c hne ha'
    unfold putAt at ha' ⊢
    by_cases e1 : a = p ++ [b]
    · rw [if_pos e1] at ha'; cases ha'
    · rw [if_neg e1] at ha'
      rw [if_neg ?_]
      · exact h.up a c hne ha'
      · intro e
        rw [(snoc_inj e).1, hp] at ha'
        cases ha'
  · intro a ha'
    unfold putAt at ha'
    by_cases e1 : a = p ++ [b]
    · rw [if_pos e1] at ha'; cases ha'
    · rw [if_neg e1] at ha'
      exact h.out a ha'
theorem Tr.grow_kp {w : World} {tr : Nat} {At : Pos} {has : List Bool → Bool} {val : List Bool → Int} {sz : Int} (h : Tr w tr At has val sz) {p : List Bool} {g o : Nat} (hp : At p = some (g, o)) (q : List Bool) (hq : At q = none) (j : Nat) (u : Value) (ob : Obj) :
    Kp At w ((w.alloc ob).setCell ⟨g, j, none⟩ u) ∧ Gr w.heap.size At (putAt At q (w.heap.size, 0)) := by
  refine ⟨((Kp.refl At w).alloc ob).set ⟨p, o, hp⟩ u, fun a x e => ?_, fun a g o e => ?_⟩
  · unfold putAt
    by_cases e1 : a = q
    · rw [e1, hq] at e; cases e
    · rw [if_neg e1]; exact e
  · unfold putAt at e
    by_cases e1 : a = q
    · rw [if_pos e1] at e
      injection e with e
      injection e with e2 e3
      exact .inr (by omega)
    · rw [if_neg e1] at e
      exact .inl e
end Go.Proofs.Ytamndmlaikgogaa.vpB
