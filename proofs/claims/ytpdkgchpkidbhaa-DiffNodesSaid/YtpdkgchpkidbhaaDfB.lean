/- Layer 43: the node above, what is otherwise. -/
import Derived.Test.YtpdkgchpkidbhaaDfA
import Derived.OwnWalk
import Derived.ArgAppend
import Derived.Laws.AppendOwn
namespace Go.Proofs.Ytpdkgchpkidbhaa.dfB
open Go.ChangeShapes Go.WideShapes Go.ChangeAt Go.RowKit
open Go.Proofs.Ytpdkgchpkidbhaa.base Go.Proofs.Ytpdkgchpkidbhaa.dfA
set_option linter.unusedVariables false

def aboveS (l : List Nd) (e : Nd) : ByteArray := if h : 0 ≤ e.ab ∧ e.ab.toNat < l.length then (l[e.ab.toNat]'h.2).nm else ⟨#[]⟩
set_option maxHeartbeats 1000000 in
theorem lawabove_any (A : Option Addr) (c : Nat) (l : List Nd) (e : Nd) (w : World) (hr : RdN w A l) (hc1 : l.length ≤ c) (hc2 : c ≤ 9223372036854775807) :
    Calls Try.prog 6 #[.slice A l.length c, .agg e.cells] w fun o w' => o = .returned (.string (aboveS l e)) ∧ Below w.heap.size w w' := by
  have HW := Lib.hid ((Below.refl w.heap.size w).alloc (Nat.le_refl _) (.cells #[.string e.nm, .int .i64 e.kind, .int .i64 e.ab, .int .i64 e.wt, .bool e.v6, .int .u64 e.hi, .int .u64 e.lo] 30))
  have HR := Lib.hid (hr.below HW.out)
  unfold Nd.cells
  clear hr
  unfold aboveS
  by_cases h1 : e.ab < 0
  · have t1 : decide (e.ab < 0) = true := decide_eq_true h1
    rw [dif_neg (by omega)]
    clear h1
    go_enter Try.func6, Try.ntmps6
    go_wp2_with fail
    go_ret
    first | exact ⟨rfl, HW.out⟩ | exact ⟨rfl, HW.out.drew⟩
  · have t1 : decide (e.ab < 0) = false := decide_eq_false h1
    by_cases h2 : (l.length : Int) ≤ e.ab
    · have t2 : decide ((l.length : Int) ≤ e.ab) = true := decide_eq_true h2
      rw [dif_neg (by omega)]
      clear h1 h2
      go_enter Try.func6, Try.ntmps6
      go_wp2_with fail
      go_ret
      first | exact ⟨rfl, HW.out⟩ | exact ⟨rfl, HW.out.drew⟩
    · have t2 : decide ((l.length : Int) ≤ e.ab) = false := decide_eq_false h2
      have h3 : 0 ≤ e.ab ∧ e.ab.toNat < l.length := by omega
      rw [dif_pos h3]
      obtain ⟨j, hj⟩ : ∃ j, j = e.ab.toNat := ⟨_, rfl⟩
      have hjl : j < l.length := hj ▸ h3.2
      obtain ⟨b, off, hA, hbl, hC⟩ := HR.out.at_ j hjl
      subst hA
      have d0 := hC 0 (by omega)
      have hje : e.ab = (j : Int) := by omega
      have hge : l[e.ab.toNat] = l[j] := by congr 1; exact hj.symm
      rw [hge]
      have d0' : (w.alloc (.cells #[.string e.nm, .int .i64 e.kind, .int .i64 e.ab, .int .i64 e.wt, .bool e.v6, .int .u64 e.hi, .int .u64 e.lo] 30)).cell? ⟨b, off + j * 7, none⟩ = some (.string (l[j]).nm) := d0
      obtain ⟨s, hs⟩ : ∃ s, s = (l[j]).nm := ⟨_, rfl⟩
      rw [← hs] at d0' ⊢
      have j0 : (0 : Int) ≤ j := by omega
      have j1 : (j : Int) < l.length := by omega
      rw [hje] at t1 t2 d0' HW
      clear hC d0 hge h1 h2 h3 hs hj
      rw [hje]
      go_enter Try.func6, Try.ntmps6
      go_wp2_with fail
      go_ret
      first | exact ⟨rfl, HW.out⟩ | exact ⟨rfl, HW.out.drew⟩
set_option maxHeartbeats 1000000 in
theorem above_any (A : Option Addr) (c : Nat) (l : List Nd) (e : Nd) (w : World) (hr : RdN w A l) (hc1 : l.length ≤ c) (hc2 : c ≤ 9223372036854775807) :
    Calls Try.prog 11 #[.slice A l.length c, .agg e.cells] w fun o w' => o = .returned (.string (aboveS l e)) ∧ Below w.heap.size w w' := by
  have HW := Lib.hid ((Below.refl w.heap.size w).alloc (Nat.le_refl _) (.cells #[.string e.nm, .int .i64 e.kind, .int .i64 e.ab, .int .i64 e.wt, .bool e.v6, .int .u64 e.hi, .int .u64 e.lo] 30))
  have HR := Lib.hid (hr.below HW.out)
  unfold Nd.cells
  clear hr
  unfold aboveS
  by_cases h1 : e.ab < 0
  · have t1 : decide (e.ab < 0) = true := decide_eq_true h1
    rw [dif_neg (by omega)]
    clear h1
    go_enter Try.func11, Try.ntmps11
    go_wp2_with fail
    go_ret
    first | exact ⟨rfl, HW.out⟩ | exact ⟨rfl, HW.out.drew⟩
  · have t1 : decide (e.ab < 0) = false := decide_eq_false h1
    by_cases h2 : (l.length : Int) ≤ e.ab
    · have t2 : decide ((l.length : Int) ≤ e.ab) = true := decide_eq_true h2
      rw [dif_neg (by omega)]
      clear h1 h2
      go_enter Try.func11, Try.ntmps11
      go_wp2_with fail
      go_ret
      first | exact ⟨rfl, HW.out⟩ | exact ⟨rfl, HW.out.drew⟩
    · have t2 : decide ((l.length : Int) ≤ e.ab) = false := decide_eq_false h2
      have h3 : 0 ≤ e.ab ∧ e.ab.toNat < l.length := by omega
      rw [dif_pos h3]
      obtain ⟨j, hj⟩ : ∃ j, j = e.ab.toNat := ⟨_, rfl⟩
      have hjl : j < l.length := hj ▸ h3.2
      obtain ⟨b, off, hA, hbl, hC⟩ := HR.out.at_ j hjl
      subst hA
      have d0 := hC 0 (by omega)
      have hje : e.ab = (j : Int) := by omega
      have hge : l[e.ab.toNat] = l[j] := by congr 1; exact hj.symm
      rw [hge]
      have d0' : (w.alloc (.cells #[.string e.nm, .int .i64 e.kind, .int .i64 e.ab, .int .i64 e.wt, .bool e.v6, .int .u64 e.hi, .int .u64 e.lo] 30)).cell? ⟨b, off + j * 7, none⟩ = some (.string (l[j]).nm) := d0
      obtain ⟨s, hs⟩ : ∃ s, s = (l[j]).nm := ⟨_, rfl⟩
      rw [← hs] at d0' ⊢
      have j0 : (0 : Int) ≤ j := by omega
      have j1 : (j : Int) < l.length := by omega
      rw [hje] at t1 t2 d0' HW
      clear hC d0 hge h1 h2 h3 hs hj
      rw [hje]
      go_enter Try.func11, Try.ntmps11
      go_wp2_with fail
      go_ret
      first | exact ⟨rfl, HW.out⟩ | exact ⟨rfl, HW.out.drew⟩
/-- A change: a node's name, what it is. -/
structure Cg where
  nm : ByteArray
  what : Int
def Cg.cells (e : Cg) : Array Value := #[.string e.nm, .int .i64 e.what]
def flatC (l : List Cg) : List Value := l.flatMap fun e => e.cells.toList
theorem flatC_snoc (l : List Cg) (e : Cg) : flatC (l ++ [e]) = flatC l ++ e.cells.toList := by
  unfold flatC
  rw [List.flatMap_append]
  simp
theorem flatC_app (l k : List Cg) : flatC (l ++ k) = flatC l ++ flatC k := by
  unfold flatC
  rw [List.flatMap_append]
theorem flatC_len (l : List Cg) : (flatC l).length = l.length * 2 := by
  induction l with
  | nil => rfl
  | cons e l ih =>
    show (e.cells.toList ++ flatC l).length = _
    rw [List.length_append, ih]
    show 2 + l.length * 2 = (l.length + 1) * 2
    omega
theorem flatC_at : ∀ (l : List Cg) (q i : Nat) (e : Cg), l[q]? = some e → i < 2 → (flatC l)[q * 2 + i]? = e.cells[i]?
  | [], q, i, e, h, _ => by cases h
  | a :: l, 0, i, e, h, hi => by
    simp only [List.getElem?_cons_zero, Option.some.injEq] at h
    subst h
    show (a.cells.toList ++ flatC l)[0 * 2 + i]? = _
    have hl : a.cells.toList.length = 2 := rfl
    rw [List.getElem?_append_left (by omega)]
    simp
  | a :: l, q + 1, i, e, h, hi => by
    show (a.cells.toList ++ flatC l)[(q + 1) * 2 + i]? = _
    have hl : a.cells.toList.length = 2 := rfl
    rw [List.getElem?_append_right (by omega), hl, show (q + 1) * 2 + i - 2 = q * 2 + i by omega]
    exact flatC_at l q i e h hi
theorem one_c (l : List Cg) : ∀ u ∈ flatC l, u.oneCell' = true := fun u hu => by
  unfold flatC at hu
  obtain ⟨e, _, h⟩ := List.mem_flatMap.mp hu
  unfold Cg.cells at h
  simp at h
  rcases h with rfl | rfl <;> rfl
theorem one_c1 (e : Cg) : ∀ u ∈ e.cells.toList, u.oneCell' = true := fun u hu => by
  unfold Cg.cells at hu
  simp at hu
  rcases hu with rfl | rfl <;> rfl
theorem info_c : (Try.prog.info? 32).map (fun i => (i.zero, i.size, i.bytes)) = some (some (.agg #[.string ⟨#[]⟩, .int .i64 0]), 2, 24) := by kernel_rfl
/-- A slice of changes of the call's own. -/
def OwnC (w : World) (B : Nat) (v : Value) (l : List Cg) : Prop := w.ownsRow B 32 2 v l.length (flatC l)
theorem OwnC.nil (w : World) (B : Nat) : OwnC w B (.slice none 0 0) [] := World.ownsRow_nil w B _ 2
theorem OwnC.empty (w : World) (B : Nat) (hB : B ≤ w.heap.size) : OwnC (w.alloc (.cells #[] 32)) B (.slice (some ⟨w.heap.size, 0, none⟩) 0 0) [] := World.ownsRow_made w #[] 0 hB (Nat.zero_le _) rfl
theorem OwnC.far {w w' : World} {B : Nat} {v : Value} {l : List Cg} (h : OwnC w B v l) (hb : ∀ k, v.ownBlock = some k → w'.heap[k]? = w.heap[k]?) : OwnC w' B v l := by
  refine ⟨h.1, ?_⟩
  rcases h.2 with h0 | ⟨g, cap, cur, e1, e2, e3, e4⟩
  · exact .inl h0
  · exact .inr ⟨g, cap, cur, e1, e2, (hb g (by rw [e1]; rfl)).trans e3, e4⟩
theorem OwnC.lt {w : World} {B : Nat} {v : Value} {l : List Cg} (h : OwnC w B v l) : ∀ k, v.ownBlock = some k → B ≤ k ∧ k < w.heap.size := World.ownsRow.lt h
theorem OwnC.below {w w' : World} {B : Nat} {v : Value} {l : List Cg} (h : OwnC w B v l) (hb : Below w.heap.size w w') : OwnC w' B v l := h.far fun k hk => hb.block k (h.lt k hk).2
theorem OwnC.alloc {w : World} {B : Nat} {v : Value} {l : List Cg} (h : OwnC w B v l) (o : Obj) : OwnC (w.alloc o) B v l := World.ownsRow.alloc h o
theorem OwnC.more {w : World} {B B2 : Nat} {v : Value} {l : List Cg} (h : OwnC w B2 v l) (hB : B ≤ B2) : OwnC w B v l := by
  refine ⟨h.1, ?_⟩
  rcases h.2 with h0 | ⟨g, cap, cur, e1, e2, e3⟩
  · exact .inl h0
  · exact .inr ⟨g, cap, cur, e1, Nat.le_trans hB e2, e3⟩
theorem OwnC.slice {w : World} {B : Nat} {v : Value} {l : List Cg} (h : OwnC w B v l) : ∃ A cap, v = .slice A l.length cap ∧ l.length ≤ cap ∧ cap ≤ maxLen ∧ ((l = [] ∧ A = none ∧ cap = 0) ∨ ∃ g, A = some ⟨g, 0, none⟩ ∧ B ≤ g ∧ g < w.heap.size ∧ ∀ j u, (flatC l)[j]? = some u → w.cell? ⟨g, j, none⟩ = some u) := by
  rcases h.2 with ⟨h0, h1⟩ | ⟨g, cap, cur, e1, e2, e3, e4, e5, e6, e7⟩
  · have : l = [] := List.eq_nil_of_length_eq_zero h1
    subst this
    exact ⟨none, 0, h0, Nat.le_refl _, Nat.zero_le _, .inl ⟨rfl, rfl, rfl⟩⟩
  · refine ⟨_, cap, e1, e4, e5, .inr ⟨g, rfl, e2, (Array.getElem?_eq_some_iff.mp e3).1, fun j u hu => ?_⟩⟩
    rw [Blk.cell (show Blk w g 32 cur from e3)]
    have hj : j < l.length * 2 := by
      have := (List.getElem?_eq_some_iff.mp hu).1
      rw [flatC_len] at this
      exact this
    rw [← e7, List.getElem?_take, if_pos hj] at hu
    simpa using hu
/-- What is otherwise of a node. -/
def othC (a : Nd) (sa : ByteArray) (b : Nd) (sb : ByteArray) : List Cg :=
  (if a.kind ≠ b.kind ∨ sa ≠ sb then [⟨b.nm, 4⟩] else []) ++ (if a.v6 ≠ b.v6 ∨ a.hi ≠ b.hi ∨ a.lo ≠ b.lo then [⟨b.nm, 5⟩] else []) ++ (if a.wt ≠ b.wt then [⟨b.nm, 3⟩] else [])
end Go.Proofs.Ytpdkgchpkidbhaa.dfB
