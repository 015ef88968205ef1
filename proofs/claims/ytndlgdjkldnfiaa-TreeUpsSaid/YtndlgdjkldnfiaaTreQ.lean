/- Layer 16: the hosts below a node. -/
import Derived.Test.YtndlgdjkldnfiaaTreP
import Derived.Shelf.SlicesE.DeleteFunc
namespace Go.Proofs.Ytndlgdjkldnfiaa.treQ
open Go.ChangeShapes Go.WideShapes Go.ChangeAt Go.RowKit Go.Sort
open Go.Proofs.Ytndlgdjkldnfiaa.base Go.Proofs.Ytndlgdjkldnfiaa.dfA Go.Proofs.Ytndlgdjkldnfiaa.treA Go.Proofs.Ytndlgdjkldnfiaa.treB Go.Proofs.Ytndlgdjkldnfiaa.treC Go.Proofs.Ytndlgdjkldnfiaa.treD Go.Proofs.Ytndlgdjkldnfiaa.treE Go.Proofs.Ytndlgdjkldnfiaa.treG Go.Proofs.Ytndlgdjkldnfiaa.treH Go.Proofs.Ytndlgdjkldnfiaa.treM Go.Proofs.Ytndlgdjkldnfiaa.treW Go.Proofs.Ytndlgdjkldnfiaa.treP
set_option linter.unusedVariables false

def dfRen : Go.Shelf.Ren := ⟨fun | 6 => 39 | 10 => 33 | n => n, fun | 0 => 0 | 3 => 3 | 4 => 4 | 22 => 40 | 23 => 3 | 25 => 57 | n => n, fun | n => n⟩
theorem dfLays : Go.Proofs.SlLaysH.n10 Try.prog dfRen := {
  mixed := by kernel_rfl
  f6 := ⟨"slices.IndexFunc[[]int,int]", by decide, Try.func39.trans (congrArg some (by kernel_rfl))⟩
  f10 := ⟨"slices.DeleteFunc[[]int,int]", by decide, Try.func33.trans (congrArg some (by kernel_rfl))⟩
  t0 := Try.underlying0
  a0 := Try.isAgg0
  z0 := Try.sizeOf0
  v0 := Try.zeroValue0
  t3 := Try.underlying3
  a3 := Try.isAgg3
  z3 := Try.sizeOf3
  v3 := Try.zeroValue3
  t4 := Try.underlying4
  a4 := Try.isAgg4
  z4 := Try.sizeOf4
  v4 := Try.zeroValue4
  t22 := Try.underlying40
  a22 := Try.isAgg40
  z22 := Try.sizeOf40
  v22 := Try.zeroValue40
  a23 := Try.isAgg3
  z23 := Try.sizeOf3
  t25 := Try.underlying57
  a25 := Try.isAgg57
  z25 := Try.sizeOf57
  v25 := Try.zeroValue57 }
/-- The closure of Below. -/
theorem gives {t : Nat} {l : List Nd} {A : Option Addr} {c : Nat} {K : Option Addr} {kn kc : Nat} {W : World} (h : TreeAt W t l A c K kn kc) (hf : Fine l) (b1 b2 b3 : Nat) (kind i x : Int)
    (h1 : W.cell? ⟨b1, 0, none⟩ = some (.pointer (some ⟨t, 0, none⟩))) (h2 : W.cell? ⟨b2, 0, none⟩ = some (.int .i64 kind)) (h3 : W.cell? ⟨b3, 0, none⟩ = some (.int .i64 i)) :
    FnGives Try.prog 34 #[.pointer (some ⟨b1, 0, none⟩), .pointer (some ⟨b2, 0, none⟩), .pointer (some ⟨b3, 0, none⟩)] #[.int .i64 x] (.bool (upF l kind x != i)) W := by
  show Calls Try.prog 34 #[.int .i64 x, .pointer (some ⟨b1, 0, none⟩), .pointer (some ⟨b2, 0, none⟩), .pointer (some ⟨b3, 0, none⟩)] W _
  have d := h.below (Below.refl W.heap.size W).drew
  have s0 : W.drew.cell? ⟨b1, 0, none⟩ = some (.pointer (some ⟨t, 0, none⟩)) ∧ W.drew.cell? ⟨b2, 0, none⟩ = some (.int .i64 kind) ∧ W.drew.cell? ⟨b3, 0, none⟩ = some (.int .i64 i) := ⟨h1, h2, h3⟩
  have HU := Lib.hid (up_x d hf x kind)
  clear h d hf h1 h2 h3
  go_enter Try.func34, Try.ntmps34
  go_wp2_with fail
  go_region_held3 (fun w' => w'.cell? ⟨b1, 0, none⟩ = some (.pointer (some ⟨t, 0, none⟩)) ∧ w'.cell? ⟨b2, 0, none⟩ = some (.int .i64 kind) ∧ w'.cell? ⟨b3, 0, none⟩ = some (.int .i64 i)) (assumption)
    (first
      | (go_at_call 21
         (with_reducible refine HU.out.mono ?_)
         rintro o wA ⟨rfl, rfl⟩))
  go_wp2_with fail
  go_ret
  exact ⟨rfl, 1, rfl⟩
theorem del_nil (fv : Value) (w : World) : Calls Try.prog 33 #[.slice none 0 0, fv] w fun o w' => o = .returned (.slice none 0 0) ∧ w' = w := by
  have HI : Calls Try.prog 39 #[.slice none 0 0, fv] w fun o w' => o = .returned (.int .i64 (-1)) ∧ w' = w := by
    go_enter Try.func39, Try.ntmps39
    go_wp2_with fail
    go_loopw [8] (fun i wr => i = .int .i64 0 ∧ wr = w) (fun _ _ => 0)
    case atStart => exact ⟨rfl, rfl⟩
    case round =>
      obtain ⟨rfl, rfl⟩ := hrel
      go_wp2_with fail
      go_ret
      exact ⟨rfl, rfl⟩
  have HI := Lib.hid HI
  go_enter Try.func33, Try.ntmps33
  go_wp2_with fail
  refine HI.out.mono ?_
  rintro o w1 ⟨rfl, rfl⟩
  go_wp2_with fail
  go_ret
  exact ⟨rfl, rfl⟩
theorem treeAt_far {w W : World} {t : Nat} {l : List Nd} {A : Option Addr} {c : Nat} {K : Option Addr} {kn kc : Nat} (h : TreeAt w t l A c K kn kc) (hB : ∀ p : Addr, p.block < w.heap.size → W.cell? p = w.cell? p) (hs : w.heap.size ≤ W.heap.size) : TreeAt W t l A c K kn kc := by
  refine ⟨(hB ⟨t, 0, none⟩ (World.block_lt_of_cell? w _ h.nodes)).trans h.nodes, (hB ⟨t, 1, none⟩ (World.block_lt_of_cell? w _ h.kids)).trans h.kids, ?_, h.cap, h.cap2⟩
  rcases h.rd with h0 | ⟨b, off, h1, h2, h3⟩
  · exact .inl h0
  · exact .inr ⟨b, off, h1, Nat.lt_of_lt_of_le h2 hs, fun j hj i hi => (hB ⟨b, off + j * 7 + i, none⟩ h2).trans (h3 j hj i hi)⟩
theorem put_below {B : Nat} {a w : World} (h : Below B a w) (g off : Nat) (d : Array Int) (q : Nat) (hg : B ≤ g) : Below B a (putRow (Value.int .i64) (Sort.ahead w q) g off d) :=
  ⟨h.os, h.tape, h.output, by rw [size_putRow]; exact h.size, fun k hk => by
    have h1 : (putRow (Value.int .i64) (Sort.ahead w q) g off d).heap[k]? = w.heap[k]? := by
      simp only [putRow, mapBlock, Array.getElem?_modify]
      rw [if_neg (by omega)]
      rfl
    exact h1.trans (h.block k hk)⟩
/-- The hosts below i. -/
def belP (m : List Nd) (i : Int) : List Int := if isB i m.length = true then belW m i (ndAt m i).kind m.length else []
theorem drop_z (l : List Int) (n : Nat) (j : Nat) (hj : j < l.length) : (l ++ List.replicate n 0).toArray[j]! = l[j] := by
  rw [getElem!_pos _ _ (by simp; omega)]
  simp [List.getElem_append_left hj]
set_option maxRecDepth 100000 in
set_option maxHeartbeats 16000000 in
theorem below_x {T : Nat} {m : List Nd} {w : World} (h : TreeOk w T m) (i : Int) : Calls Try.prog 19 #[.pointer (some ⟨T, 0, none⟩), .int .i64 i] w fun o w' => ∃ v, o = .returned v ∧ ReadI w' v (belP m i) ∧ Below w.heap.size w w' := by
  have hmf : ∀ (fn : Fn) (first cap : Array Value) (w : World), (Instr.makeFunc fn first cap).run Try.prog w = .ok (.func fn first cap) w := fun _ _ _ _ => rfl
  have HF := Lib.hid (fine_of h.good)
  obtain ⟨w1, hw1⟩ : ∃ w1, w1 = (w.alloc (.cells #[.pointer (some ⟨T, 0, none⟩)] 24)).alloc (.cells #[.int .i64 i] 3) := ⟨_, rfl⟩
  have BA := Lib.hid (show Below w.heap.size w w1 from hw1 ▸ ((Below.refl w.heap.size w).alloc (Nat.le_refl _) _).alloc (by simp) _)
  have HS1 := Lib.hid (show w1.heap.size = w.heap.size + 2 by rw [hw1]; simp)
  have HC1 := Lib.hid (show Blk w1 w.heap.size 24 #[.pointer (some ⟨T, 0, none⟩)] from hw1 ▸ (Blk.new w _ _).alloc _)
  have HC2 := Lib.hid (show Blk w1 (w.heap.size + 1) 3 #[.int .i64 i] from hw1 ▸ (by
    have := Blk.new (w.alloc (.cells #[.pointer (some ⟨T, 0, none⟩)] 24)) 3 #[.int .i64 i]
    simpa using this))
  have HW1 := Lib.hid (show (w.alloc (.cells #[.pointer (some ⟨T, 0, none⟩)] 24)).alloc (.cells #[.int .i64 i] 3) = w1 from hw1.symm)
  have c1 : w1.cell? ⟨w.heap.size, 0, none⟩ = some (.pointer (some ⟨T, 0, none⟩)) := HC1.out.cell 0
  have c2 : w1.cell? ⟨w.heap.size + 1, 0, none⟩ = some (.int .i64 i) := HC2.out.cell 0
  have HT1 := Lib.hid (h.below BA.out)
  obtain ⟨A, c, K, kc, ht⟩ := HT1.out.at_
  have HN := Lib.hid (node_any ht i)
  have HAW := Lib.hid (show ∀ W, Below w1.heap.size w1 W → TreeOk W T m from fun W hb => HT1.out.below hb)
  clear h ht hw1
  go_enter Try.func19, Try.ntmps19
  go_wp2_with fail
  rw [HW1.out]
  go_wp2_with fail
  refine HN.out.mono ?_
  rintro o w2 ⟨rfl, hb2⟩
  have B2 := Lib.hid (BA.out.trans (hb2.mono BA.out.size))
  obtain ⟨e, he⟩ : ∃ e, e = ndAt m i := ⟨_, rfl⟩
  have HE := Lib.hid he
  rw [← he]
  obtain ⟨w3, hw3⟩ : ∃ w3, w3 = w2.alloc (.cells #[.int .i64 e.kind] 3) := ⟨_, rfl⟩
  have BB := Lib.hid (show Below w2.heap.size w2 w3 from hw3 ▸ (Below.refl w2.heap.size w2).alloc (Nat.le_refl _) _)
  have HS3 := Lib.hid (show w3.heap.size = w2.heap.size + 1 by rw [hw3]; simp)
  have HC3 := Lib.hid (show Blk w3 w2.heap.size 3 #[.int .i64 e.kind] from hw3 ▸ Blk.new w2 _ _)
  have HW3 := Lib.hid (show w2.alloc (.cells #[.int .i64 e.kind] 3) = w3 from hw3.symm)
  have B3 := Lib.hid (B2.out.trans (BB.out.mono B2.out.size))
  have HC13 := Lib.hid ((HC1.out.below hb2 HC1.out.lt).below BB.out (Nat.lt_of_lt_of_le HC1.out.lt hb2.size))
  have HC23 := Lib.hid ((HC2.out.below hb2 HC2.out.lt).below BB.out (Nat.lt_of_lt_of_le HC2.out.lt hb2.size))
  have d1 : w3.cell? ⟨w.heap.size, 0, none⟩ = some (.pointer (some ⟨T, 0, none⟩)) := HC13.out.cell 0
  have d2 : w3.cell? ⟨w2.heap.size, 0, none⟩ = some (.int .i64 e.kind) := HC3.out.cell 0
  have HT3 := Lib.hid (HAW.out w3 (hb2.trans (BB.out.mono hb2.size)))
  have BWM := Lib.hid (show w.heap.size ≤ w3.heap.size from B3.out.size)
  clear hb2 c1 c2 hw3 he
  have hfd : ∀ W, (Instr.field 34 (.agg #[.string e.nm, .int .i64 e.kind, .int .i64 e.ab, .int .i64 e.wt, .bool e.v6, .int .u64 e.hi, .int .u64 e.lo]) 1).run Try.prog W = .ok (.int .i64 e.kind) W := fun _ => by kernel_rfl
  unfold Nd.cells
  cases hq : isB i m.length with
  | false =>
    have HK := Lib.hid (show e.kind = 0 from by rw [HE.out, ndAt_none hq]; rfl)
    have t1 : (e.kind == 0) = true := by simp [HK.out]
    have HR := Lib.hid (show belP m i = [] by unfold belP; rw [hq]; rfl)
    clear hq
    go_wp2_with fail
    rw [HW3.out]
    go_wp2_with fail
    go_ret
    exact ⟨_, rfl, by rw [HR.out]; exact ReadI.nil _, B3.out⟩
  | true =>
    have HK := Lib.hid (show e.kind ≠ 0 from by
      obtain ⟨a, rfl, ha⟩ := isB_of hq
      rw [HE.out, ndAt_nat ha]
      have := HF.out.lo a ha
      omega)
    have t1 : (e.kind == 0) = false := beq_false_of_ne HK.out
    have HR := Lib.hid (show belP m i = (ofK m 4 m.length).filter fun x => !(upF m e.kind x != i) by unfold belP; rw [hq, if_pos rfl, ← HE.out]; exact belW_is m i e.kind m.length (Nat.le_refl _))
    obtain ⟨A3, c3, K3, kc3, ht3⟩ := HT3.out.at_
    have HHO := Lib.hid (hosts_any ht3 (by have := HT3.out.len; omega))
    have HG := Lib.hid (show ∀ W : World, (∀ p : Addr, p.block < w3.heap.size → W.cell? p = w3.cell? p) → w3.heap.size ≤ W.heap.size → ∀ x, FnGives Try.prog 34 #[.pointer (some ⟨w.heap.size, 0, none⟩), .pointer (some ⟨w2.heap.size, 0, none⟩), .pointer (some ⟨w.heap.size + 1, 0, none⟩)] #[.int .i64 x] (.bool (upF m e.kind x != i)) W from fun W hc hs x =>
      gives (treeAt_far ht3 hc hs) HF.out _ _ _ e.kind i x ((hc ⟨_, 0, none⟩ HC13.out.lt).trans d1) ((hc ⟨_, 0, none⟩ HC3.out.lt).trans d2) ((hc ⟨_, 0, none⟩ HC23.out.lt).trans (HC23.out.cell 0)))
    have hlen := ofK_len m 4 m.length
    have hml := HT3.out.len
    obtain ⟨hl, hhl⟩ : ∃ hl, hl = ofK m 4 m.length := ⟨_, rfl⟩
    rw [← hhl] at HHO HR hlen
    have d4 : (w2.alloc (.cells #[.int .i64 e.kind] 3)).cell? ⟨w.heap.size, 0, none⟩ = some (.pointer (some ⟨T, 0, none⟩)) := by rw [HW3.out]; exact d1
    clear hq ht3 hhl
    go_wp2_with fail
    rw [HW3.out]
    refine HHO.out.mono ?_
    rintro o w4 ⟨v, rfl, ho, hb4⟩
    have B4 := Lib.hid (B3.out.trans (hb4.mono B3.out.size))
    have HO := Lib.hid ho
    have h0 := HO.out
    unfold OwnI at h0
    rcases h0.2 with ⟨e1, e2⟩ | ⟨g, cap, cur, e1, e2, e3, e4, e5, e6, e7⟩
    · have hz : hl = [] := List.eq_nil_of_length_eq_zero e2
      subst e1 hz
      have HX := Lib.hid (fun fv W => del_nil fv W)
      clear h0 e2 ho hb4
      go_wp2_with fail
      refine (HX.out _ _).mono ?_
      rintro o w5 ⟨rfl, rfl⟩
      go_wp2_with fail
      go_ret
      exact ⟨_, rfl, by rw [HR.out]; exact ReadI.nil _, B4.out⟩
    · subst e1
      have BG := Lib.hid (show w3.heap.size ≤ g from e2)
      have hH : Holds (Value.int .i64) w4 g 0 hl.toArray := fun j hj => by
        have hj2 : j < hl.length := by simpa using hj
        refine ⟨?_, Blk.frozen (show Blk w4 g 3 cur from e3) (0 + j)⟩
        rw [Nat.zero_add, h0.cellAt j (by simpa using hj2), List.getElem?_map, List.getElem?_eq_getElem hj2, getElem!_pos hl.toArray j hj]
        simp
      have eg : ∀ args w, (callFunc 34 args).run Try.prog w = .ok (.enter 34 args) w := enters_of Try.func34 (by kernel_rfl) rfl
      have hcon := AnyE.slices_DeleteFunc dfLays (Value.int .i64) (fun _ => rfl) (fun x => upF m e.kind x != i) 34 #[.pointer (some ⟨w.heap.size, 0, none⟩), .pointer (some ⟨w2.heap.size, 0, none⟩), .pointer (some ⟨w.heap.size + 1, 0, none⟩)] eg 0 Try.zeroValue3 g 0 cap hl.toArray w4
        (fun W x hb => HG.out W (fun p hp => (hb.cell (Nat.lt_of_lt_of_le hp hb4.size)).trans (hb4.cell hp)) (Nat.le_trans hb4.size hb.size) x)
        (fun n os dk x _ => HG.out _ (fun p hp => by
          unfold sortWorld
          rw [cell?_grow _ _ _ (by rw [size_putRow]; exact Nat.lt_of_lt_of_le hp hb4.size), cell?_putRow_other _ _ g 0 _ _ (Or.inl (by have := BG.out; omega))]
          exact hb4.cell hp) (by unfold sortWorld grow; show _ ≤ (_ ++ os).size; rw [Array.size_append, size_putRow]; have := hb4.size; show _ ≤ w4.heap.size + _; omega) x)
        hH (by simp; omega) (by simpa using e4)
      change Calls Try.prog 33 _ _ _ at hcon
      rw [List.size_toArray, List.toList_toArray] at hcon
      obtain ⟨r, hr⟩ : ∃ r, r = hl.filter fun x => !(upF m e.kind x != i) := ⟨_, rfl⟩
      have HRR := Lib.hid hr
      have hrl : r.length ≤ hl.length := by rw [hr]; exact List.length_filter_le _ _
      rw [← hr] at hcon HR
      have HCN := Lib.hid hcon
      have HHH := Lib.hid hH
      clear h0 e2 e3 e6 e7 ho hb4 hcon hH eg hr
      go_wp2_with fail
      refine HCN.out.mono ?_
      rintro o w5 ⟨rfl, q, rfl⟩
      go_wp2_with fail
      go_ret
      refine ⟨_, rfl, ?_, put_below B4.out g 0 _ q (Nat.le_trans BWM.out BG.out)⟩
      rw [HR.out]
      refine ⟨_, cap, rfl, by omega, by unfold maxLen at e5; omega, .inr ⟨g, 0, rfl, by rw [size_putRow]; exact (HO.out.lt g rfl).2, fun j x hx => ?_⟩⟩
      have hj : j < r.length := (List.getElem?_eq_some_iff.mp hx).1
      rw [cell?_putRow (Value.int .i64) (Sort.ahead w4 q) g 0 hl.toArray _ (fun j hj => HHH.out j hj) (by simp; omega) j (by simp; omega), drop_z r _ j hj]
      rw [List.getElem?_eq_getElem hj] at hx
      injection hx with hx
      rw [hx]
end Go.Proofs.Ytndlgdjkldnfiaa.treQ
