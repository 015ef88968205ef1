/- Layer 36: lists of records in memory, bytes that are compared. -/
import Derived.Test.YtmchedjeohhpcaaPcapK
namespace Go.Proofs.Ytmchedjeohhpcaa.pcapL
open Go.ChangeShapes Go.WideShapes Go.ChangeAt Go.RowKit
open Go.Proofs.Ytmchedjeohhpcaa.base Go.Proofs.Ytmchedjeohhpcaa.pcapA Go.Proofs.Ytmchedjeohhpcaa.pcapB Go.Proofs.Ytmchedjeohhpcaa.pcapC Go.Proofs.Ytmchedjeohhpcaa.pcapD Go.Proofs.Ytmchedjeohhpcaa.pcapE Go.Proofs.Ytmchedjeohhpcaa.pcapF Go.Proofs.Ytmchedjeohhpcaa.pcapG Go.Proofs.Ytmchedjeohhpcaa.pcapI Go.Proofs.Ytmchedjeohhpcaa.pcapJ Go.Proofs.Ytmchedjeohhpcaa.pcapK
set_option linter.unusedVariables false

def flatR (l : List Rc) : List Value := l.flatMap fun e => e.cells.toList
theorem flatR_len (l : List Rc) : (flatR l).length = l.length * 4 := by
  induction l with
  | nil => rfl
  | cons e l ih =>
    have e1 : flatR (e :: l) = e.cells.toList ++ flatR l := rfl
    rw [e1, List.length_append, ih, List.length_cons]
    simp [Rc.cells]
    omega
theorem flatR_snoc (l : List Rc) (e : Rc) : flatR (l ++ [e]) = flatR l ++ e.cells.toList := by simp [flatR]
theorem flatR_get (l : List Rc) : ∀ (j : Nat) (hj : j < l.length) (i : Nat), i < 4 → (flatR l)[j * 4 + i]? = (l[j]).cells[i]? := by
  induction l with
  | nil => intro j hj; simp at hj
  | cons e l ih =>
    intro j hj i hi
    have e1 : flatR (e :: l) = e.cells.toList ++ flatR l := rfl
    have e2 : e.cells.toList.length = 4 := rfl
    rw [e1]
    cases j with
    | zero => rw [List.getElem?_append_left (by omega), Nat.zero_mul, Nat.zero_add, Array.getElem?_toList]; rfl
    | succ j =>
      rw [List.getElem?_append_right (by omega), e2, show (j + 1) * 4 + i - 4 = j * 4 + i by omega]
      exact ih j (by simpa using hj) i hi
theorem own_farB {w w' : World} {B : Nat} {e : TypeId} {size : Nat} {v : Value} {n : Nat} {xs : List Value} (h : w.ownsRow B e size v n xs) (hb : ∀ k, v.ownBlock = some k → w'.heap[k]? = w.heap[k]?) : w'.ownsRow B e size v n xs := by
  refine ⟨h.1, ?_⟩
  rcases h.2 with hn | ⟨g, cap, cur, rfl, hb2, hgg, rest⟩
  · exact .inl hn
  · exact .inr ⟨g, cap, cur, rfl, hb2, (hb g rfl).trans hgg, rest⟩
theorem own_below {w w' : World} {B : Nat} {e : TypeId} {size : Nat} {v : Value} {n : Nat} {xs : List Value} (h : w.ownsRow B e size v n xs) (hb : Below w.heap.size w w') : w'.ownsRow B e size v n xs :=
  own_farB h fun k hk => hb.block k (h.lt k hk).2
/-- A row of one type is no block of another one. -/
theorem own_neB {w : World} {base t e size : Nat} {v : Value} {n b : Nat} {xs : List Value} {cs : Array Value} (ht : t ≠ e) (h : w.ownsRow base e size v n xs) (hb : Blk w b t cs) : ∀ k, v.ownBlock = some k → k ≠ b := by
  rcases h.2 with ⟨rfl, _⟩ | ⟨g, cap, cur, rfl, hg, hgg, _⟩
  · intro k hk; simp [Value.ownBlock] at hk
  · intro k hk e
    simp [Value.ownBlock] at hk
    subst hk e
    unfold Blk at hb
    rw [hb] at hgg
    injection hgg with h1
    injection h1 with _ h2 _
    exact absurd h2 ht
theorem own_own {w : World} {B1 B2 e1 e2 s1 s2 : Nat} {v1 v2 : Value} {n1 n2 : Nat} {x1 x2 : List Value} (ht : e1 ≠ e2) (h1 : w.ownsRow B1 e1 s1 v1 n1 x1) (h2 : w.ownsRow B2 e2 s2 v2 n2 x2) : v1.ownBlock = none ∨ v1.ownBlock ≠ v2.ownBlock := by
  rcases h1.2 with ⟨rfl, _⟩ | ⟨g, cap, cur, rfl, hg, hgg, _⟩
  · exact .inl rfl
  · refine .inr fun e => ?_
    have hb : Blk w g e1 cur := hgg
    exact own_neB ht h2 hb g (by rw [← e]; rfl) rfl
structure Recs (w : World) (B : Nat) (v : Value) (l : List Rc) : Prop where
  row : w.ownsRow B 38 4 v l.length (flatR l)
  els : ∀ e ∈ l, w.ownsRow B 5 1 (.slice e.A e.n e.c) e.n (e.bs.map (.int .u8))
theorem Recs.below {w w' : World} {B : Nat} {v : Value} {l : List Rc} (h : Recs w B v l) (hb : Below w.heap.size w w') : Recs w' B v l :=
  ⟨own_below h.row hb, fun e he => own_below (h.els e he) hb⟩
theorem Recs.set_ {w : World} {B : Nat} {v : Value} {l : List Rc} (h : Recs w B v l) {g t : Nat} {cs : Array Value} (hg : Blk w g t cs) (h1 : t ≠ 38) (h2 : t ≠ 5) (i : Nat) (u : Value) : Recs (w.setCell ⟨g, i, none⟩ u) B v l :=
  ⟨own_farB h.row fun k hk => Below.heap_setCell w _ u k (own_neB h1 h.row hg k hk), fun e he => own_farB (h.els e he) fun k hk => Below.heap_setCell w _ u k (own_neB h2 (h.els e he) hg k hk)⟩
theorem Recs.drew {w : World} {B : Nat} {v : Value} {l : List Rc} (h : Recs w B v l) : Recs w.drew B v l := h.below ((Below.refl _ _).drew)
theorem Recs.more {w w' : World} {B : Nat} {v v' : Value} {l : List Rc} {e : Rc} (h : Recs w B v l) (he : w.ownsRow B 5 1 (.slice e.A e.n e.c) e.n (e.bs.map (.int .u8))) (ho : w'.ownsRow B 38 4 v' (l.length + 1) (flatR l ++ e.cells.toList)) (hg : w.grownBy w' v.ownBlock) : Recs w' B v' (l ++ [e]) := by
  refine ⟨by rw [List.length_append, flatR_snoc]; exact ho, fun x hx => ?_⟩
  rcases List.mem_append.mp hx with hx | hx
  · exact (h.els x hx).kept hg (own_own (by decide) (h.els x hx) h.row)
  · rw [List.mem_singleton.mp hx]
    exact he.kept hg (own_own (by decide) he h.row)
theorem Recs.slice {w : World} {B : Nat} {v : Value} {l : List Rc} (h : Recs w B v l) : ∃ A c, v = .slice A l.length c ∧ l.length ≤ c ∧ c ≤ 9223372036854775807 := by
  rcases h.row.2 with ⟨rfl, h0⟩ | ⟨g, cap, cur, rfl, _, _, h1, h2, _⟩
  · exact ⟨none, 0, by rw [h0], by omega, by omega⟩
  · unfold maxLen at h2
    exact ⟨_, _, rfl, h1, by omega⟩
theorem Recs.rd {w : World} {B : Nat} {A : Option Addr} {n c : Nat} {l : List Rc} (h : Recs w B (.slice A n c) l) : RdR w A l := by
  rcases Nat.eq_zero_or_pos l.length with h0 | h0
  · exact .inl (List.eq_nil_of_length_eq_zero h0)
  · rcases h.row.2 with ⟨hv, h1⟩ | ⟨g, cap, cur, hv, hb, hg, h1, h2, h3, h4⟩
    · omega
    · injection hv with hA hn hc
      subst hA hn hc
      refine .inr ⟨g, 0, rfl, (Array.getElem?_eq_some_iff.1 hg).1, fun j hj i hi => ?_⟩
      rw [Nat.zero_add, h.row.cellAt (j * 4 + i) (by omega)]
      exact flatR_get l j hj i hi
theorem Recs.has {w : World} {B : Nat} {v : Value} {l : List Rc} (h : Recs w B v l) (e : Rc) (he : e ∈ l) (hn : e.n ≤ 65536) : Has w e := by
  have h1 := h.els e he
  refine ⟨own_row h1, ?_, (own_bounds h1).1, hn⟩
  have := h1.1
  rw [List.length_map] at this
  omega
theorem conv_zero (w : World) (A : Option Addr) (c : Nat) : (convert 27 9 (.slice A 0 c)).run Try.prog w = .ok (.string (strOfNums [])) w := by
  rw [run_convert_bytes_string w 27 9 5 _ 0 c Try.underlying27 Try.underlying5 Try.underlying9]
  cases A <;> simp [Conv.bytesToString, loadCells]
  all_goals rfl
/-- Bytes as a text. -/
theorem conv_row {w : World} {B : Nat} {A : Option Addr} {n c : Nat} {l : List Int} (h : Row w B A (l.map (.int .u8))) (hl : l.length = n) :
    (convert 27 9 (.slice A n c)).run Try.prog w = .ok (.string (strOfNums l)) w := by
  cases A with
  | none =>
    have h0 := row_none h
    have hl0 : l = [] := by simpa using h0
    subst hl0
    exact run_convert_bytes_nil w 27 5 Try.underlying27 Try.underlying5 n c 9 Try.underlying9
  | some ad =>
    rcases Nat.eq_zero_or_pos l.length with h0 | h0
    · have hl0 : l = [] := List.eq_nil_of_length_eq_zero h0
      subst hl0
      obtain rfl : n = 0 := by simpa using hl.symm
      exact conv_zero w _ c
    · obtain ⟨b, off, hA, _, hc⟩ := h.at_ (by intro e; rw [List.map_eq_nil_iff] at e; subst e; simp at h0)
      injection hA with hA
      subst hA
      refine run_convert_bytes_arg w 27 5 Try.underlying27 Try.underlying5 b off n c l hl (fun i hi => ?_) 9 Try.underlying9
      exact hc i _ (by rw [List.getElem?_map, List.getElem?_eq_getElem (by omega), List.getD_eq_getElem?_getD, List.getElem?_eq_getElem (by omega)]; rfl)
theorem str_eq {xs ys : List Int} (hx : Byte xs) (hy : Byte ys) : ((strOfNums xs).toList == (strOfNums ys).toList) = decide (xs = ys) := by
  have key : (strOfNums xs).toList = (strOfNums ys).toList ↔ xs = ys := by
    constructor
    · intro h
      have e : xs.map (fun n => UInt8.ofNat n.toNat) = ys.map (fun n => UInt8.ofNat n.toNat) := by
        have := h
        rw [ByteArray.toList_eq, ByteArray.toList_eq, strOfNums_data, strOfNums_data] at this
        exact this
      clear h
      induction xs generalizing ys with
      | nil => cases ys with
        | nil => rfl
        | cons y ys => simp at e
      | cons x xs ih => cases ys with
        | nil => simp at e
        | cons y ys =>
          rw [List.map_cons, List.map_cons] at e
          injection e with e1 e2
          have h1 := hx x (List.mem_cons_self ..)
          have h2 := hy y (List.mem_cons_self ..)
          have e3 : x = y := by
            have := congrArg UInt8.toNat e1
            simp only [UInt8.toNat_ofNat'] at this
            omega
          rw [e3, ih (fun z hz => hx z (List.mem_cons_of_mem _ hz)) (fun z hz => hy z (List.mem_cons_of_mem _ hz)) e2]
    · intro h; rw [h]
  by_cases h : xs = ys
  · rw [decide_eq_true h, h]
    simp
  · rw [decide_eq_false h]
    exact beq_eq_false_iff_ne.mpr fun e => h (key.mp e)
theorem equal_any (A A' : Option Addr) (n c n' c' B B' : Nat) (xs ys : List Int) (w : World) (h1 : Row w B A (xs.map (.int .u8))) (h2 : Row w B' A' (ys.map (.int .u8))) (hl1 : xs.length = n) (hl2 : ys.length = n') (hx : Byte xs) (hy : Byte ys) :
    Calls Try.prog 20 #[.slice A n c, .slice A' n' c'] w fun o w' => o = .returned (.bool (decide (xs = ys))) ∧ w = w' := by
  have q1 := conv_row (c := c) h1 hl1
  have q2 := conv_row (c := c') h2 hl2
  have q3 := str_eq hx hy
  obtain ⟨z, hz⟩ : ∃ z, z = decide (xs = ys) := ⟨_, rfl⟩
  rw [← hz] at q3 ⊢
  clear h1 h2 hl1 hl2 hx hy hz
  go_enter Try.func20, Try.ntmps20
  go_wp2_with fail
  go_ret
  exact ⟨rfl, rfl⟩
end Go.Proofs.Ytmchedjeohhpcaa.pcapL
