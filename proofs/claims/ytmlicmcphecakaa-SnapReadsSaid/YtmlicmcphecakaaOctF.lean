/- Layer 7: bytes with another number in them. -/
import Derived.Test.YtmlicmcphecakaaOctE
import Derived.Laws.CopyOwn
import Derived.Deep.RegionLaw
import Derived.Lib.SliceRun
import Derived.Deep.RegionHeld3
namespace Go.Proofs.Ytmlicmcphecakaa.octF
open Go.ChangeShapes Go.WideShapes Go.ChangeAt Go.RowKit
open Go.Proofs.Ytmlicmcphecakaa.base Go.Proofs.Ytmlicmcphecakaa.octA Go.Proofs.Ytmlicmcphecakaa.octB Go.Proofs.Ytmlicmcphecakaa.octC Go.Proofs.Ytmlicmcphecakaa.octD Go.Proofs.Ytmlicmcphecakaa.octE
set_option linter.unusedVariables false

theorem info1 : (Try.prog.info? 5).map (·.size) = some 1 := by kernel_rfl
def ClonePost (w : World) (n : Nat) (l : List Int) (e : Ending) (w' : World) : Prop :=
  ∃ v', e = .returned v' ∧ w'.ownsRow w.heap.size 5 1 v' n (l.map (.int .u8)) ∧ Below w.heap.size w w' ∧ w.heap.size ≤ w'.heap.size
set_option maxRecDepth 100000 in
theorem clone_any (A : Option Addr) (n c : Nat) (l : List Int) (w : World) (hl : l.length = n) (hn : n ≤ 1000) (hz : A = none → c = 0) (hr : Row w w.heap.size A (l.map (.int .u8))) :
    Calls Try.prog 25 #[.slice A n c] w (ClonePost w n l) := by
  cases A with
  | none =>
    have h0 := row_none hr
    have hl0 : l = [] := by simpa using h0
    subst hl0
    have hn0 : n = 0 := by simpa using hl.symm
    subst hn0
    have hc := hz rfl
    subst hc
    clear hr hz h0 hl
    have q22 : ∀ (w : World) (a : Option Addr) (n c n' c' : Nat), (binOp .eql 25 (.slice a n c) (.slice none n' c')).run Try.prog w = .ok (.bool a.isNone) w := fun w a n c n' c' => Lib.run_eql_slice_nil w _ _ a n c n' c' Try.underlying25
    go_enter Try.func25, Try.ntmps25
    go_wp2_with fail
    go_ret
    exact ⟨_, rfl, World.ownsRow_nil _ _ _ _, Below.refl _ _, Nat.le_refl _⟩
  | some ad =>
    obtain ⟨i0, hi0, hz0, hz1, hz2⟩ := info_parts info_u8
    have HI0 := Lib.hid hi0
    have HZ0 := Lib.hid hz0
    have HZ1 := Lib.hid hz1
    have HZ2 := Lib.hid hz2
    have R1 := Lib.hid hr
    have L1 := Lib.hid hl
    have oneC : ∀ u ∈ l.map (Value.int .u8), u.oneCell' = true := by
      intro u hu
      rw [List.mem_map] at hu
      obtain ⟨x, _, rfl⟩ := hu
      rfl
    have ONE := Lib.hid oneC
    clear hi0 hz0 hz1 hz2 hr hl oneC hz
    have q22 : ∀ (w : World) (a : Option Addr) (n c n' c' : Nat), (binOp .eql 25 (.slice a n c) (.slice none n' c')).run Try.prog w = .ok (.bool a.isNone) w := fun w a n c n' c' => Lib.run_eql_slice_nil w _ _ a n c n' c' Try.underlying25
    go_enter Try.func25, Try.ntmps25
    go_wp2_with (at_builtin; refine wpList_append_row rfl (.tmp 5) (.tmp 6) _ rfl w.heap.size 5 i0 _ 1 Try.underlying25 HI0.out HZ0.out HZ1.out HZ2.out rfl (.slice (some ⟨w.heap.size, 0, none⟩) 0 0) 0 [] rfl (World.ownsRow_lit w #[] 0 (Nat.le_refl _) (by unfold maxLen; omega) rfl) (some ad) n c w.heap.size (l.map (.int .u8)) rfl (by intro h; cases h) (by simp; exact L1.out) (R1.out.below ((Below.refl _ _).alloc (Nat.le_refl _) _)) ONE.out (by unfold maxLen; omega) (by omega) (by simp) ?_; intro va wa owna ga; have HOa := Lib.hid owna; have HBa := Lib.hid (below_grown ((Below.refl _ _).alloc (Nat.le_refl _) _) (World.ownsRow_lit w #[] 0 (Nat.le_refl _) (by unfold maxLen; omega) rfl) (Nat.le_refl _) (by simp) ga); clear owna ga)
    go_ret
    refine ⟨_, rfl, ?_, HBa.out, HBa.out.size⟩
    have := HOa.out
    rwa [Nat.zero_add, List.nil_append] at this
theorem splice_map (l ys : List Int) (q : Nat) : splice (l.map (Value.int .u8)) q (ys.map (Value.int .u8)) = (splice l q ys).map (Value.int .u8) := by
  simp [splice, List.map_take, List.map_drop]
theorem splice_take {α : Type} (cl cs : List α) (q n : Nat) (h : q + cs.length ≤ n) (hn : n ≤ cl.length) : (splice cl q cs).take n = splice (cl.take n) q cs := by
  have a1 : (cl.take q).length = q := by rw [List.length_take]; omega
  unfold splice
  rw [List.take_append, a1, List.take_of_length_le (by rw [a1]; omega), List.take_append, List.take_of_length_le (by omega : cs.length ≤ n - q), List.take_take, List.drop_take, Nat.min_eq_left (by omega), Nat.sub_sub]
theorem splice_get (l ys : List Int) (q i : Nat) (h : q + ys.length ≤ l.length) : (splice l q ys).getD i 0 = if q ≤ i ∧ i < q + ys.length then ys.getD (i - q) 0 else l.getD i 0 := by
  have a1 : (l.take q).length = q := by rw [List.length_take]; omega
  unfold splice
  rw [List.getD_eq_getElem?_getD, List.getD_eq_getElem?_getD, List.getD_eq_getElem?_getD]
  rcases Nat.lt_or_ge i q with h1 | h1
  · rw [if_neg (by omega), List.getElem?_append_left (by omega), List.getElem?_take, if_pos h1]
  · rw [List.getElem?_append_right (by omega), a1]
    by_cases h2 : i < q + ys.length
    · rw [if_pos ⟨h1, h2⟩, List.getElem?_append_left (by omega)]
    · rw [if_neg (by omega), List.getElem?_append_right (by omega), List.getElem?_drop, show q + ys.length + (i - q - ys.length) = i by omega]
theorem own_splice {w : World} {base g cap n q : Nat} {cl cs xs : List Value} (hg : w.heap[g]? = some (.cells (splice cl q cs).toArray 5 (0, 0))) (hsz : cl.length = cap) (htake : cl.take n = xs) (hnc : n ≤ cap) (hm : cap ≤ maxLen) (hb : base ≤ g) (hfit : q + cs.length ≤ n) :
    w.ownsRow base 5 1 (.slice (some ⟨g, 0, none⟩) n cap) n (splice xs q cs) := by
  subst htake
  refine ⟨?_, .inr ⟨g, cap, _, rfl, hb, hg, hnc, hm, ?_, ?_⟩⟩
  · rw [length_splice _ _ _ (by rw [List.length_take]; omega), List.length_take]; omega
  · simp only [List.size_toArray]; rw [length_splice _ _ _ (by omega)]; omega
  · simp only [Nat.mul_one]; exact splice_take cl cs q n hfit (by omega)
theorem own_split {w : World} {base n : Nat} {v : Value} {xs : List Value} (h : w.ownsRow base 5 1 v n xs) :
    (v = .slice none 0 0 ∧ n = 0) ∨ ∃ g cap cl, v = .slice (some ⟨g, 0, none⟩) n cap ∧ base ≤ g ∧ w.heap[g]? = some (.cells (List.toArray cl) 5 (0, 0)) ∧ n ≤ cap ∧ cap ≤ maxLen ∧ cl.length = cap ∧ cl.take n = xs ∧ g < w.heap.size := by
  rcases h.2 with ⟨rfl, h0⟩ | ⟨g, cap, cur, rfl, hb, hg, hnc, hm, hsz, htake⟩
  · exact .inl ⟨rfl, h0⟩
  · exact .inr ⟨g, cap, cur.toList, rfl, hb, by simpa using hg, hnc, hm, by simpa using hsz, by simpa using htake, (h.lt g rfl).2⟩
theorem src_of {w : World} {B : Nat} {A : Option Addr} {X : List Value} (h : Row w B A X) : 0 < X.length → ∃ ad, A = some ad ∧ ∀ j v, X[j]? = some v → w.cell? (ad.add j) = some v := by
  intro h0
  obtain ⟨b, off, rfl, _, hc⟩ := h.at_ (by intro h; rw [h] at h0; simp at h0)
  refine ⟨_, rfl, fun j v hv => ?_⟩
  rw [Addr.add_lit]
  exact hc j v hv
theorem step_copy_zero {P : Program} {ops : Array Oper} {o : Oper} {a : Act} {w : World} {K : Act → World → Prop} {Q : Exit → Act → World → Prop} {E : Prop} (hgd : o.guard = none) (d s : Operand) (dT sT : TypeId)
    (ho : o.op = .call { callee := .builtin .copy, args := #[d, s], argTypes := #[dT, sT] }) (elem : TypeId) (hu : P.underlying dT = some (.slice elem)) (hsz : (P.info? elem).map (·.size) = some 1)
    (dp sp : Option Addr) (dLen dCap sLen sCap : Nat) (hd : a.eval d = .slice dp dLen dCap) (hs : a.eval s = .slice sp sLen sCap) (hn : Nat.min sLen dLen = 0)
    (h : K (a.put o.dst (goInt 0)) w) : if Region.wanted o (yielded ops a.tmps) = true then Oper.wp P o a w K Q else E := by
  have hw : Region.wanted o (yielded ops a.tmps) = true := by simp [Region.wanted, hgd]
  rw [if_pos hw]
  have hrun := run_copy_none (P := P) w dT sT o.type elem dp sp dLen dCap sLen sCap hu hsz hn
  unfold Oper.wp
  simp [execOp, ho, resolve, invoke, builtin, hd, hs, hrun, Result.andThen]
  exact h
end Go.Proofs.Ytmlicmcphecakaa.octF
