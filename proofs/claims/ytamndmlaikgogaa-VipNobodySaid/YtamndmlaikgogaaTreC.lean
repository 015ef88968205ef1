/- Layer 16: is there a node of a node's name, or of its address? -/
import Derived.Test.YtamndmlaikgogaaTreB
namespace Go.Proofs.Ytamndmlaikgogaa.treC
open Go.ChangeShapes Go.WideShapes Go.ChangeAt Go.RowKit
open Go.Proofs.Ytamndmlaikgogaa.base Go.Proofs.Ytamndmlaikgogaa.dfA Go.Proofs.Ytamndmlaikgogaa.treB
set_option linter.unusedVariables false

/-- May two nodes not stand together? -/
def twB (x n : Nd) : Bool := (x.nm.toList == n.nm.toList) || (x.kind == 4 && n.kind == 4 && (x.v6 == n.v6 && x.hi == n.hi && x.lo == n.lo))
def hasB (l : List Nd) (n : Nd) : Bool := l.any fun x => twB x n
set_option maxHeartbeats 4000000 in
theorem has1_any (x n : Nd) (c : Nat) (w : World) (hc : Blk w c 44 n.cells) : Calls Try.prog 61 #[.agg x.cells, .pointer (some ⟨c, 0, none⟩)] w fun o w' => o = .returned (.bool (twB x n)) ∧ Below w.heap.size w w' := by
  have HW := Lib.hid (show Below w.heap.size w (w.alloc (.cells #[.string x.nm, .int .i64 x.kind, .int .i64 x.ab, .int .i64 x.wt, .bool x.v6, .int .u64 x.hi, .int .u64 x.lo] 44)) from (Below.refl w.heap.size w).alloc (Nat.le_refl _) _)
  have hC : Blk (w.alloc (.cells #[.string x.nm, .int .i64 x.kind, .int .i64 x.ab, .int .i64 x.wt, .bool x.v6, .int .u64 x.hi, .int .u64 x.lo] 44)) c 44 n.cells := (HW.out.block c hc.lt).trans hc
  have c0 : (w.alloc (.cells #[.string x.nm, .int .i64 x.kind, .int .i64 x.ab, .int .i64 x.wt, .bool x.v6, .int .u64 x.hi, .int .u64 x.lo] 44)).cell? ⟨c, 0, none⟩ = some (.string n.nm) := hC.cell 0
  have c1 : (w.alloc (.cells #[.string x.nm, .int .i64 x.kind, .int .i64 x.ab, .int .i64 x.wt, .bool x.v6, .int .u64 x.hi, .int .u64 x.lo] 44)).cell? ⟨c, 1, none⟩ = some (.int .i64 n.kind) := hC.cell 1
  have c4 : (w.alloc (.cells #[.string x.nm, .int .i64 x.kind, .int .i64 x.ab, .int .i64 x.wt, .bool x.v6, .int .u64 x.hi, .int .u64 x.lo] 44)).cell? ⟨c, 4, none⟩ = some (.bool n.v6) := hC.cell 4
  have c5 : (w.alloc (.cells #[.string x.nm, .int .i64 x.kind, .int .i64 x.ab, .int .i64 x.wt, .bool x.v6, .int .u64 x.hi, .int .u64 x.lo] 44)).cell? ⟨c, 5, none⟩ = some (.int .u64 n.hi) := hC.cell 5
  have c6 : (w.alloc (.cells #[.string x.nm, .int .i64 x.kind, .int .i64 x.ab, .int .i64 x.wt, .bool x.v6, .int .u64 x.hi, .int .u64 x.lo] 44)).cell? ⟨c, 6, none⟩ = some (.int .u64 n.lo) := hC.cell 6
  unfold twB
  unfold Nd.cells
  clear hC hc
  go_enter Try.func61, Try.ntmps61
  cases hq : (x.nm.toList == n.nm.toList) with
  | true =>
    rw [Bool.true_or]
    go_wp2_with fail
    go_ret
    exact ⟨rfl, HW.out⟩
  | false =>
    rw [Bool.false_or]
    cases h1 : (x.kind == 4) with
    | true =>
      rw [Bool.true_and]
      cases h2 : (n.kind == 4) with
      | true =>
        rw [Bool.true_and]
        cases e1 : (x.v6 == n.v6) <;> cases e2 : (x.hi == n.hi) <;> cases e3 : (x.lo == n.lo)
        all_goals go_wp2_with fail
        all_goals go_ret
        all_goals exact ⟨rfl, HW.out⟩
      | false =>
        rw [Bool.false_and]
        go_wp2_with fail
        go_ret
        exact ⟨rfl, HW.out⟩
    | false =>
      rw [Bool.false_and, Bool.false_and]
      go_wp2_with fail
      go_ret
      exact ⟨rfl, HW.out⟩
/-- Nobody as far as has been looked. -/
def noTo (l : List Nd) (n : Nd) (j : Nat) : Prop := hasB (l.take j) n = false
theorem noTo_next {l : List Nd} {n : Nd} {j : Nat} (hj : j < l.length) (h : noTo l n j) (h2 : twB (l[j]) n = false) : noTo l n (j + 1) := by
  unfold noTo hasB at *
  rw [List.take_add_one, List.getElem?_eq_getElem hj, List.any_append, h]
  simp [h2]
theorem has_here {l : List Nd} {n : Nd} {j : Nat} (hj : j < l.length) (h2 : twB (l[j]) n = true) : hasB l n = true := by
  unfold hasB
  rw [List.any_eq_true]
  exact ⟨_, List.getElem_mem hj, h2⟩
theorem has_none {l : List Nd} {n : Nd} {j : Nat} (hj : l.length ≤ j) (h : noTo l n j) : hasB l n = false := by
  unfold noTo at h
  rw [List.take_of_length_le hj] at h
  exact h
set_option maxHeartbeats 4000000 in
theorem index2_any (A : Option Addr) (c : Nat) (l : List Nd) (n : Nd) (w : World) (p : Nat) (hp : Blk w p 44 n.cells) (hr : RdN w A l) (hl : l.length ≤ 2000) (hc1 : l.length ≤ c) (hc2 : c ≤ 9223372036854775807) :
    Calls Try.prog 62 #[.slice A l.length c, .func (.func 61) #[] #[.pointer (some ⟨p, 0, none⟩)]] w fun o w' => ∃ at' : Int, o = .returned (.int .i64 at') ∧ decide (0 ≤ at') = hasB l n ∧ Below w.heap.size w w' := by
  have HR := Lib.hid hr
  obtain ⟨m, hm⟩ : ∃ m, m = l.length := ⟨_, rfl⟩
  have HNL := Lib.hid hm
  rw [← hm] at hl hc1 ⊢
  have HP := Lib.hid (show ∀ w2, Below w.heap.size w w2 → Blk w2 p 44 n.cells from fun w2 hb => (hb.block p hp.lt).trans hp)
  clear hm hr hp
  go_enter Try.func62, Try.ntmps62
  go_wp2_with fail
  go_loopw [8] (fun i wr => ∃ j : Nat, i = .int .i64 j ∧ j ≤ m ∧ Hid (noTo l n j) ∧ Below w.heap.size w wr) (fun i _ => m - (intOf i).toNat)
  case atStart => exact ⟨0, rfl, by omega, Lib.hid (by unfold noTo hasB; rfl), by first | exact Below.refl _ _ | exact (Below.refl _ _).drew⟩
  case round =>
    obtain ⟨j, rfl, hj, HNO, hbel⟩ := hrel
    have KB := Lib.hid hbel
    clear hbel
    by_cases hjn : j < m
    · have t1 : decide ((j : Int) < m) = true := decide_eq_true (by omega)
      have hjl : j < l.length := HNL.out ▸ hjn
      obtain ⟨b, off, hA, hbl, hC⟩ := (HR.out.below KB.out).at_ j hjl
      subst hA
      obtain ⟨e, he⟩ : ∃ e, e = l[j] := ⟨_, rfl⟩
      rw [← he] at hC
      have d0 : wr.cell? ⟨b, off + j * 7, none⟩ = some (.string e.nm) := hC 0 (by omega)
      have d1 : wr.cell? ⟨b, off + j * 7 + 1, none⟩ = some (.int .i64 e.kind) := hC 1 (by omega)
      have d2 : wr.cell? ⟨b, off + j * 7 + 2, none⟩ = some (.int .i64 e.ab) := hC 2 (by omega)
      have d3 : wr.cell? ⟨b, off + j * 7 + 3, none⟩ = some (.int .i64 e.wt) := hC 3 (by omega)
      have d4 : wr.cell? ⟨b, off + j * 7 + 4, none⟩ = some (.bool e.v6) := hC 4 (by omega)
      have d5 : wr.cell? ⟨b, off + j * 7 + 5, none⟩ = some (.int .u64 e.hi) := hC 5 (by omega)
      have d6 : wr.cell? ⟨b, off + j * 7 + 6, none⟩ = some (.int .u64 e.lo) := hC 6 (by omega)
      have HE := Lib.hid he
      have j0 : (0 : Int) ≤ j := by omega
      have j1 : (j : Int) < m := by omega
      clear hC he
      cases hx : twB e n with
      | true =>
        have HF := Lib.hid (show decide (0 ≤ (j : Int)) = hasB l n by rw [has_here hjl (HE.out ▸ hx)]; exact decide_eq_true j0)
        have HC := Lib.hid (hx ▸ has1_any e n p wr (HP.out wr KB.out))
        unfold Nd.cells at HC
        clear hx
        go_wp2_with fail
        refine HC.out.mono ?_
        rintro o w3 ⟨rfl, hb⟩
        have B3 := Lib.hid (KB.out.trans (hb.mono KB.out.size))
        clear hb
        go_wp2_with fail
        go_ret
        exact ⟨_, rfl, HF.out, B3.out⟩
      | false =>
        have HX := Lib.hid (noTo_next hjl HNO.out (HE.out ▸ hx))
        have HC := Lib.hid (hx ▸ has1_any e n p wr (HP.out wr KB.out))
        unfold Nd.cells at HC
        clear hx
        go_wp2_with fail
        refine HC.out.mono ?_
        rintro o w3 ⟨rfl, hb⟩
        have B3 := Lib.hid (KB.out.trans (hb.mono KB.out.size))
        clear hb
        go_wp2_with fail
        go_roundw
        case rel => exact ⟨j + 1, by go_num, by omega, HX, B3.out⟩
        case measure => simp [intOf]; omega
    · have t1 : decide ((j : Int) < m) = false := decide_eq_false (by omega)
      obtain rfl : m = j := by omega
      have HF := Lib.hid (show decide (0 ≤ (-1 : Int)) = hasB l n by rw [has_none (by have := HNL.out; omega) HNO.out]; rfl)
      go_wp2_with fail
      go_ret
      exact ⟨_, rfl, HF.out, KB.out⟩
set_option maxHeartbeats 4000000 in
theorem contains_any (A : Option Addr) (c : Nat) (l : List Nd) (n : Nd) (w : World) (p : Nat) (hp : Blk w p 44 n.cells) (hr : RdN w A l) (hl : l.length ≤ 2000) (hc1 : l.length ≤ c) (hc2 : c ≤ 9223372036854775807) :
    Calls Try.prog 60 #[.slice A l.length c, .func (.func 61) #[] #[.pointer (some ⟨p, 0, none⟩)]] w fun o w' => o = .returned (.bool (hasB l n)) ∧ Below w.heap.size w w' := by
  have HI := Lib.hid (index2_any A c l n w p hp hr hl hc1 hc2)
  clear hp hr
  go_enter Try.func60, Try.ntmps60
  go_wp2_with fail
  refine HI.out.mono ?_
  rintro o w2 ⟨at', rfl, hf, hb⟩
  have HF := Lib.hid hf
  have HB := Lib.hid hb
  clear hf hb
  go_wp2_with fail
  go_ret
  exact ⟨by rw [← HF.out]; rfl, HB.out⟩
set_option maxHeartbeats 4000000 in
theorem has_any {t : Nat} {l : List Nd} {A : Option Addr} {c : Nat} {K : Option Addr} {kn kc : Nat} {w : World} (h : TreeAt w t l A c K kn kc) (n : Nd) (hl : l.length ≤ 2000) :
    Calls Try.prog 58 #[.pointer (some ⟨t, 0, none⟩), .agg n.cells] w fun o w' => o = .returned (.bool (hasB l n)) ∧ Below w.heap.size w w' := by
  have hmf : ∀ (fn : Fn) (first cap : Array Value) (w : World), (Instr.makeFunc fn first cap).run Try.prog w = .ok (.func fn first cap) w := fun _ _ _ _ => rfl
  have HW := Lib.hid ((Below.refl w.heap.size w).alloc (Nat.le_refl _) (.cells #[.string n.nm, .int .i64 n.kind, .int .i64 n.ab, .int .i64 n.wt, .bool n.v6, .int .u64 n.hi, .int .u64 n.lo] 44))
  have hT := h.below HW.out
  have d0 := hT.nodes
  have HI := Lib.hid (contains_any A c l n _ w.heap.size (Blk.new w 44 #[.string n.nm, .int .i64 n.kind, .int .i64 n.ab, .int .i64 n.wt, .bool n.v6, .int .u64 n.hi, .int .u64 n.lo]) hT.rd hl h.cap h.cap2)
  unfold Nd.cells
  clear h hT
  go_enter Try.func58, Try.ntmps58
  go_wp2_with fail
  refine HI.out.mono ?_
  rintro o w2 ⟨rfl, hb⟩
  have HB := Lib.hid (HW.out.trans (hb.mono HW.out.size))
  clear hb
  go_wp2_with fail
  go_ret
  exact ⟨rfl, HB.out⟩
end Go.Proofs.Ytamndmlaikgogaa.treC
