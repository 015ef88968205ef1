/- Layer 31: sums that are the same. -/
import Derived.Test.YtpgodmcpdgbhaaaCountG
namespace Go.Proofs.Ytpgodmcpdgbhaaa.countH
open Go.ChangeShapes Go.WideShapes Go.ChangeAt Go.RowKit
open Go.Proofs.Ytpgodmcpdgbhaaa.base Go.Proofs.Ytpgodmcpdgbhaaa.countA Go.Proofs.Ytpgodmcpdgbhaaa.countC Go.Proofs.Ytpgodmcpdgbhaaa.countD Go.Proofs.Ytpgodmcpdgbhaaa.countE Go.Proofs.Ytpgodmcpdgbhaaa.countF Go.Proofs.Ytpgodmcpdgbhaaa.countG
set_option linter.unusedVariables false

def In64 (f : Nat → Int) : Prop := ∀ i, i < 29 → (Lit.int .i64 (f i)).wf = true
theorem In64.up {f : Nat → Int} (h : In64 f) (k : Nat) (d : Int) : In64 (up f k d) := fun i hi => by
  unfold countE.up
  split
  · exact wrap64_wf _
  · exact h i hi
theorem zero_wf : (Lit.int .i64 0).wf = true := by decide
theorem in64_zero : In64 (fun _ => 0) := fun _ _ => zero_wf
theorem mapM_some {α β : Type} {F : α → Option β} {G : α → β} : ∀ (l : List α), (∀ x ∈ l, F x = some (G x)) → l.mapM F = some (l.map G)
  | [], _ => rfl
  | x :: l, h => by
    rw [List.mapM_cons, h x (by simp), mapM_some l (fun y hy => h y (by simp [hy]))]
    rfl
theorem mapM_ex {α β : Type} {F : α → Option β} : ∀ (l : List α), (∀ x ∈ l, ∃ y, F x = some y) → ∃ ys, l.mapM F = some ys
  | [], _ => ⟨[], rfl⟩
  | x :: l, h => by
    obtain ⟨y, hy⟩ := h x (by simp)
    obtain ⟨ys, hys⟩ := mapM_ex l (fun z hz => h z (by simp [hz]))
    exact ⟨y :: ys, by rw [List.mapM_cons, hy, hys]; rfl⟩
theorem k_int (d : Nat) (x : Int) (hx : (Lit.int .i64 x).wf = true) : Try.prog.keyLits (d + 1) 2 [.int .i64 x] = some [.int .i64 x] := by
  unfold Program.keyLits
  rw [Try.underlying2]
  simp [hx]
theorem k_arr (d : Nat) (L : List Value) (f : Nat → Int) (hL : L.length = 26) (h : ∀ i, i < 26 → L[i]? = some (.int .i64 (f i)) ∧ (Lit.int .i64 (f i)).wf = true) :
    ∃ ls, Try.prog.keyLits (d + 2) 22 L = some ls := by
  unfold Program.keyLits
  rw [Try.underlying22]
  have hc : Try.prog.cellsOf 22 = 26 := by kernel_rfl
  have hc1 : Try.prog.cellsOf 2 = 1 := by kernel_rfl
  simp only [hc, hc1, hL, if_true]
  rw [mapM_some (G := fun i => [Lit.int .i64 (f i)]) (List.range 26) (fun i hi => by
    have hi' : i < 26 := by simpa using hi
    obtain ⟨h1, h2⟩ := h i hi'
    have e : (L.drop (i * 1)).take 1 = [.int .i64 (f i)] := by
      rw [Nat.mul_one, List.take_one, List.head?_drop, h1]
      rfl
    rw [e]
    exact k_int d _ h2)]
  exact ⟨_, rfl⟩
theorem sum_fields : ((Try.prog.fieldsOf 24).toList.map fun f => (f.offset, f.type)) = [(0, 2), (1, 2), (2, 2), (3, 22)] := by kernel_rfl
theorem sum_names : (Try.prog.fieldsOf 24).all (·.name != "_") = true := by kernel_rfl
theorem k_sum (d : Nat) (cs : Array Value) (f : Nat → Int) (h : At cs f) (hi : In64 f) : ∃ ls, Try.prog.keyLits (d + 3) 24 cs.toList = some ls := by
  have hu : Try.prog.underlying 24 = some (.struct (Try.prog.fieldsOf 24)) := by kernel_rfl
  have hc : Try.prog.cellsOf 24 = 29 := by kernel_rfl
  have hc1 : Try.prog.cellsOf 2 = 1 := by kernel_rfl
  have hc2 : Try.prog.cellsOf 22 = 26 := by kernel_rfl
  have hl : cs.toList.length = 29 := by simpa using h.1
  have hg : ∀ i, i < 29 → cs.toList[i]? = some (.int .i64 (f i)) := fun i hi => by simpa using h.2 i hi
  unfold Program.keyLits
  rw [hu]
  simp only [hc, hl, sum_names, and_self, if_true]
  obtain ⟨ys, hys⟩ := mapM_ex (F := fun g : Field => Try.prog.keyLits (d + 2) g.type ((cs.toList.drop g.offset).take (Try.prog.cellsOf g.type))) (Try.prog.fieldsOf 24).toList (fun x hx => by
    have hm : (x.offset, x.type) ∈ [(0, 2), (1, 2), (2, 2), (3, 22)] := by
      rw [← sum_fields]
      exact List.mem_map.mpr ⟨x, hx, rfl⟩
    simp only [List.mem_cons, Prod.mk.injEq, List.not_mem_nil, or_false] at hm
    have one : ∀ o, o < 29 → x.offset = o → x.type = 2 → ∃ y, Try.prog.keyLits (d + 2) x.type ((cs.toList.drop x.offset).take (Try.prog.cellsOf x.type)) = some y := by
      intro o ho e1 e2
      rw [e1, e2, hc1, List.take_one, List.head?_drop, hg o ho]
      exact ⟨_, k_int (d + 1) (f o) (hi o ho)⟩
    rcases hm with ⟨e1, e2⟩ | ⟨e1, e2⟩ | ⟨e1, e2⟩ | ⟨e1, e2⟩
    · exact one 0 (by omega) e1 e2
    · exact one 1 (by omega) e1 e2
    · exact one 2 (by omega) e1 e2
    · rw [e1, e2, hc2]
      refine k_arr d _ (fun i => f (3 + i)) (by rw [List.length_take, List.length_drop, hl]; rfl) (fun i hi26 => ⟨?_, hi (3 + i) (by omega)⟩)
      rw [List.getElem?_take, if_pos hi26, List.getElem?_drop]
      exact hg (3 + i) (by omega))
  exact ⟨ys.flatten, by rw [hys]; rfl⟩
theorem at_ext {a b : Array Value} {f : Nat → Int} (ha : At a f) (hb : At b f) : a = b := by
  apply Array.ext_getElem?
  intro i
  by_cases h : i < 29
  · rw [ha.2 i h, hb.2 i h]
  · rw [Array.getElem?_eq_none (by have := ha.1; omega), Array.getElem?_eq_none (by have := hb.1; omega)]
theorem neq_same {cs : Array Value} {f : Nat → Int} (h : At cs f) (hi : In64 f) (W : World) : (binOp .neq 24 (.agg cs) (.agg cs)).run Try.prog W = .ok (.bool false) W := by
  obtain ⟨ls, hk⟩ := k_sum 7 cs f h hi
  have hc : Try.prog.cellsOf 24 = 29 := by kernel_rfl
  have hf : (Value.agg cs).formed Try.prog 24 = true := by
    unfold Value.formed
    rw [Try.underlying24]
    simp [hc, h.1]
  rw [run_neq_struct, eq_same 9990 10 10 (ls := ls) (by kernel_rfl) hf hk W]
  rfl
theorem load_at {W : World} {g : Nat} {cs : Array Value} (h : Blk W g 24 cs) (hs : cs.size = 29) : (Instr.loadAt 24 (.pointer (some ⟨g, 0, none⟩))).run Try.prog W = .ok (.agg cs) W := by
  simp only [Instr.loadAt, Instr.sureAddr, Sem.run_bind, Sem.run_pure, Result.andThen]
  exact run_loadVar_row W g 24 24 cs (0, 0) _ h Try.underlying24 rfl (by rw [hs]; exact size_s)
theorem zero29b : (Try.prog.info? 44).map (fun i => (i.zero, i.size)) = some (some (.agg Z29), 29) := by kernel_rfl
end Go.Proofs.Ytpgodmcpdgbhaaa.countH
