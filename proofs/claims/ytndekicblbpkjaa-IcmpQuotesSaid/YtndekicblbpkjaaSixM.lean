/- Layer 9: headers that extend, in memory. -/
import Derived.Test.YtndekicblbpkjaaSixW
import Derived.Test.YtndekicblbpkjaaRdrG
namespace Go.Proofs.Ytndekicblbpkjaa.sixM
open Go.ChangeShapes Go.WideShapes Go.ChangeAt Go.RowKit
open Go.Proofs.Ytndekicblbpkjaa.base Go.Proofs.Ytndekicblbpkjaa.octA Go.Proofs.Ytndekicblbpkjaa.octB Go.Proofs.Ytndekicblbpkjaa.octC Go.Proofs.Ytndekicblbpkjaa.octF Go.Proofs.Ytndekicblbpkjaa.net Go.Proofs.Ytndekicblbpkjaa.rdrA Go.Proofs.Ytndekicblbpkjaa.rdrG Go.Proofs.Ytndekicblbpkjaa.sixW
set_option linter.unusedVariables false

/-- A header that extends, with where its bytes lie. -/
structure Xt where
  kind : Int
  A : Option Addr
  c : Nat
  d : List Int
def Xt.cells (x : Xt) : Array Value := #[.int .i64 x.kind, .slice x.A x.d.length x.c]
def Xt.re (x : Xt) : XP := (x.kind, x.d)
/-- A slice that reads as headers that extend. -/
structure RdX (w : World) (A : Option Addr) (l : List Xt) : Prop where
  row : l = [] ∨ ∃ b off, A = some ⟨b, off, none⟩ ∧ b < w.heap.size ∧ ∀ j (hj : j < l.length), ∀ i, i < 2 → w.cell? ⟨b, off + j * 2 + i, none⟩ = (l[j]).cells[i]?
  els : ∀ x ∈ l, Row w w.heap.size x.A (x.d.map (.int .u8)) ∧ x.d.length ≤ x.c ∧ x.c ≤ 9223372036854775807 ∧ U8 x.d ∧ (x.A = none → x.c = 0)
theorem RdX.at_ {w : World} {A : Option Addr} {l : List Xt} (h : RdX w A l) (j : Nat) (hj : j < l.length) : ∃ b off, A = some ⟨b, off, none⟩ ∧ b < w.heap.size ∧ ∀ i, i < 2 → w.cell? ⟨b, off + j * 2 + i, none⟩ = (l[j]).cells[i]? := by
  rcases h.row with rfl | ⟨b, off, h1, h2, h3⟩
  · simp at hj
  · exact ⟨b, off, h1, h2, h3 j hj⟩
theorem RdX.at_lt {w : World} {A : Option Addr} {l : List Xt} (h : RdX w A l) {b off : Nat} (j : Nat) (hj : j < l.length) (hA : A = some ⟨b, off, none⟩) : b < w.heap.size := by
  obtain ⟨b2, off2, h1, h2, _⟩ := h.at_ j hj
  rw [hA] at h1
  injection h1 with h1
  injection h1 with h1
  exact h1 ▸ h2
theorem RdX.below {w w' : World} {A : Option Addr} {l : List Xt} (h : RdX w A l) (hb : Below w.heap.size w w') : RdX w' A l := by
  refine ⟨?_, fun o ho => ?_⟩
  · rcases h.row with rfl | ⟨b, off, h1, h2, h3⟩
    · exact .inl rfl
    · exact .inr ⟨b, off, h1, Nat.lt_of_lt_of_le h2 hb.size, fun j hj i hi => (hb.cell (p := ⟨b, off + j * 2 + i, none⟩) h2).trans (h3 j hj i hi)⟩
  · obtain ⟨h1, h2⟩ := h.els o ho
    exact ⟨(h1.below hb).more hb.size, h2⟩
theorem RdX.take {w : World} {A : Option Addr} {l : List Xt} (h : RdX w A l) (k : Nat) : RdX w A (l.take k) := by
  refine ⟨?_, fun o ho => h.els o (List.mem_of_mem_take ho)⟩
  rcases h.row with rfl | ⟨b, off, h1, h2, h3⟩
  · exact .inl (by simp)
  · refine .inr ⟨b, off, h1, h2, fun j hj i hi => ?_⟩
    rw [List.length_take] at hj
    rw [h3 j (by omega) i hi, List.getElem_take]
def flatX (l : List Xt) : List Value := l.flatMap fun e => e.cells.toList
theorem flatX_snoc (l : List Xt) (e : Xt) : flatX (l ++ [e]) = flatX l ++ e.cells.toList := by simp [flatX]
theorem flatX_get (l : List Xt) : ∀ (j : Nat) (hj : j < l.length) (i : Nat), i < 2 → (flatX l)[j * 2 + i]? = (l[j]).cells[i]? := by
  induction l with
  | nil => intro j hj; simp at hj
  | cons o l ih =>
    intro j hj i hi
    have hc : o.cells.toList.length = 2 := rfl
    show (o.cells.toList ++ flatX l)[j * 2 + i]? = _
    cases j with
    | zero => rw [List.getElem?_append_left (by omega)]; simp
    | succ j =>
      rw [List.getElem?_append_right (by omega), hc, show (j + 1) * 2 + i - 2 = j * 2 + i by omega, ih j (by simpa using hj) i hi]
      simp
/-- What is not block g is as it was. -/
def Els (g : Nat) (w w' : World) : Prop := ∀ k, k < w.heap.size → k ≠ g → w'.heap[k]? = w.heap[k]?
theorem Els.refl (g : Nat) (w : World) : Els g w w := fun _ _ _ => rfl
theorem Els.trans {g : Nat} {a b c : World} (h1 : Els g a b) (hs : a.heap.size ≤ b.heap.size) (h2 : Els g b c) : Els g a c := fun k hk hg => (h2 k (by omega) hg).trans (h1 k hk hg)
theorem Els.below {g : Nat} {a b c : World} {B : Nat} (h1 : Els g a b) (hs : a.heap.size ≤ B) (h2 : Below B b c) : Els g a c := fun k hk hg => (h2.block k (by omega)).trans (h1 k hk hg)
theorem toEls {g : Nat} {w w' : World} (h : OnlyG g w w') : Els g w w' := h.toE
theorem own_els {g : Nat} {w w' : World} {B e s : Nat} {v : Value} {n : Nat} {xs : List Value} (h : w.ownsRow B e s v n xs) (hg : g < B) (he : Els g w w') : w'.ownsRow B e s v n xs := by
  refine ⟨h.1, ?_⟩
  rcases h.2 with hn | ⟨k, cap, cur, rfl, hb2, hgg, rest⟩
  · exact .inl hn
  · exact .inr ⟨k, cap, cur, rfl, hb2, (he k (Array.getElem?_eq_some_iff.1 hgg).1 (by omega)).trans hgg, rest⟩
theorem own_below2 {w w' : World} {B : Nat} {e : TypeId} {size : Nat} {v : Value} {n : Nat} {xs : List Value} (h : w.ownsRow B e size v n xs) (hb : Below w.heap.size w w') : w'.ownsRow B e size v n xs := by
  refine ⟨h.1, ?_⟩
  rcases h.2 with hn | ⟨g, cap, cur, e1, hb2, hgg, rest⟩
  · exact .inl hn
  · exact .inr ⟨g, cap, cur, e1, hb2, (hb.block g (h.lt g (by rw [e1]; rfl)).2).trans hgg, rest⟩
theorem own_sliceN {w : World} {base e s : Nat} {v : Value} {n : Nat} {xs : List Value} (h : w.ownsRow base e s v n xs) : ∃ A c, v = .slice A n c := by
  rcases h.2 with ⟨rfl, h0⟩ | ⟨g, cap, cur, rfl, _⟩
  · exact ⟨_, _, by rw [h0]⟩
  · exact ⟨_, _, rfl⟩
theorem own_cap {w : World} {B e s : Nat} {A : Option Addr} {n c : Nat} {xs : List Value} (h : w.ownsRow B e s (.slice A n c) n xs) : n ≤ c ∧ c ≤ 9223372036854775807 ∧ (A = none → c = 0) := by
  rcases h.2 with ⟨hv, h0⟩ | ⟨g, cap, cur, hv, hb, hg, hnc, hm, hsz, htake⟩
  · injection hv with h1 h2 h3
    exact ⟨by omega, by omega, fun _ => h3⟩
  · injection hv with h1 h2 h3
    subst h3
    unfold maxLen at hm
    exact ⟨by omega, by omega, fun h => by rw [h1] at h; cases h⟩
theorem own_neB {w : World} {base t e size : Nat} {v : Value} {n b : Nat} {xs : List Value} {cs : Array Value} (ht : t ≠ e) (h : w.ownsRow base e size v n xs) (hb : Blk w b t cs) : ∀ k, v.ownBlock = some k → k ≠ b := by
  rcases h.2 with ⟨rfl, _⟩ | ⟨g, cap, cur, rfl, hg, hgg, _⟩
  · intro k hk; simp [Value.ownBlock] at hk
  · intro k hk e
    simp [Value.ownBlock] at hk
    subst hk e
    unfold Blk at hb
    rw [hb] at hgg
    injection hgg with h1
    injection h1 with _ h2 _
    exact absurd h2 ht
theorem own_own {w : World} {B1 B2 e1 e2 s1 s2 : Nat} {v1 v2 : Value} {n1 n2 : Nat} {x1 x2 : List Value} (ht : e1 ≠ e2) (h1 : w.ownsRow B1 e1 s1 v1 n1 x1) (h2 : w.ownsRow B2 e2 s2 v2 n2 x2) : v1.ownBlock = none ∨ v1.ownBlock ≠ v2.ownBlock := by
  rcases h1.2 with ⟨rfl, _⟩ | ⟨g, cap, cur, rfl, hg, hgg, _⟩
  · exact .inl rfl
  · refine .inr fun e => ?_
    have hb : Blk w g e1 cur := hgg
    exact own_neB ht h2 hb g (by rw [← e]; rfl) rfl
/-- Headers that extend, in a row of the call's own, and each text one. -/
structure GotX (w : World) (B : Nat) (v : Value) (l : List Xt) : Prop where
  row : w.ownsRow B 73 2 v l.length (flatX l)
  els : ∀ e ∈ l, w.ownsRow B 5 1 (.slice e.A e.d.length e.c) e.d.length (e.d.map (.int .u8))
theorem own_baseN {w : World} {base base' s : Nat} {e : TypeId} {v : Value} {n : Nat} {xs : List Value} (h : w.ownsRow base e s v n xs) (hb : base' ≤ base) : w.ownsRow base' e s v n xs := by
  refine ⟨h.1, ?_⟩
  rcases h.2 with hn | ⟨g, cap, cur, rfl, hg, rest⟩
  · exact .inl hn
  · exact .inr ⟨g, cap, cur, rfl, by omega, rest⟩
theorem GotX.base {w : World} {B B' : Nat} {v : Value} {l : List Xt} (h : GotX w B v l) (hb : B' ≤ B) : GotX w B' v l := ⟨own_baseN h.row hb, fun e he => own_baseN (h.els e he) hb⟩
theorem GotX.nil (w : World) (B : Nat) : GotX w B (.slice none 0 0) [] := ⟨World.ownsRow_nil _ _ _ _, fun e he => by cases he⟩
theorem GotX.els_ {g : Nat} {w w' : World} {B : Nat} {v : Value} {l : List Xt} (h : GotX w B v l) (hg : g < B) (he : Els g w w') : GotX w' B v l := ⟨own_els h.row hg he, fun e hm => own_els (h.els e hm) hg he⟩
theorem GotX.below {w w' : World} {B : Nat} {v : Value} {l : List Xt} (h : GotX w B v l) (hb : Below w.heap.size w w') : GotX w' B v l := ⟨own_below2 h.row hb, fun e he => own_below2 (h.els e he) hb⟩
theorem GotX.more {w w' : World} {B : Nat} {v v' : Value} {l : List Xt} {e : Xt} (h : GotX w B v l) (he : w.ownsRow B 5 1 (.slice e.A e.d.length e.c) e.d.length (e.d.map (.int .u8))) (ho : w'.ownsRow B 73 2 v' (l.length + 1) (flatX l ++ e.cells.toList)) (hg : w.grownBy w' v.ownBlock) : GotX w' B v' (l ++ [e]) := by
  refine ⟨by rw [List.length_append, flatX_snoc]; exact ho, fun x hx => ?_⟩
  rcases List.mem_append.mp hx with hx | hx
  · exact (h.els x hx).kept hg (own_own (by decide) (h.els x hx) h.row)
  · rw [List.mem_singleton.mp hx]
    exact he.kept hg (own_own (by decide) he h.row)
theorem GotX.rd {w : World} {B : Nat} {A : Option Addr} {n c : Nat} {l : List Xt} (h : GotX w B (.slice A n c) l) (hu : ∀ e ∈ l, U8 e.d) : RdX w A l := by
  refine ⟨?_, fun o ho => ⟨own_row (h.els o ho), (own_cap (h.els o ho)).1, (own_cap (h.els o ho)).2.1, hu o ho, (own_cap (h.els o ho)).2.2⟩⟩
  rcases Nat.eq_zero_or_pos l.length with h0 | h0
  · exact .inl (List.eq_nil_of_length_eq_zero h0)
  · rcases h.row.2 with ⟨hv, h1⟩ | ⟨g, cap, cur, hv, hb, hg, h1, h2, h3, h4⟩
    · omega
    · injection hv with hA hn hc
      subst hA hn hc
      refine .inr ⟨g, 0, rfl, (Array.getElem?_eq_some_iff.1 hg).1, fun j hj i hi => ?_⟩
      rw [Nat.zero_add, h.row.cellAt (j * 2 + i) (by omega)]
      exact flatX_get l j hj i hi
/-- A header without those that extend it. -/
structure Hs where
  cls : Int
  lab : Int
  hop : Int
  s6 : Bool
  sh : Int
  sl : Int
  d6 : Bool
  dh : Int
  dl : Int
  p : Int
def Hs.cells (h : Hs) (v : Value) : Array Value := #[.int .i64 h.cls, .int .i64 h.lab, .int .i64 h.hop, .bool h.s6, .int .u64 h.sh, .int .u64 h.sl, .bool h.d6, .int .u64 h.dh, .int .u64 h.dl, v, .int .i64 h.p]
def zeroH : Hs := ⟨0, 0, 0, false, 0, 0, false, 0, 0, 0⟩
end Go.Proofs.Ytndekicblbpkjaa.sixM
