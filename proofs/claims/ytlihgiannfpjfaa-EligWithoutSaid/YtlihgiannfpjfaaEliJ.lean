/- Layer 23: what Without asks of each host; the library's functions over closures that lay memory. -/
import Derived.Test.YtlihgiannfpjfaaEliC
import Derived.Lib.SliceRun
import Derived.Laws.IdiomCopy
namespace Go.Proofs.Ytlihgiannfpjfaa.eliJ
open Go.ChangeShapes Go.WideShapes Go.ChangeAt Go.RowKit
open Go.Proofs.Ytlihgiannfpjfaa.base Go.Proofs.Ytlihgiannfpjfaa.dfA Go.Proofs.Ytlihgiannfpjfaa.treB Go.Proofs.Ytlihgiannfpjfaa.treD Go.Proofs.Ytlihgiannfpjfaa.treH Go.Proofs.Ytlihgiannfpjfaa.treM Go.Proofs.Ytlihgiannfpjfaa.treW Go.Proofs.Ytlihgiannfpjfaa.treP Go.Proofs.Ytlihgiannfpjfaa.eliW Go.Proofs.Ytlihgiannfpjfaa.eliA Go.Proofs.Ytlihgiannfpjfaa.eliB Go.Proofs.Ytlihgiannfpjfaa.eliC
set_option linter.unusedVariables false

/-- The first that p holds of. -/
def IsFst (p : Int → Bool) (l : List Int) (at' : Int) : Prop := (at' = -1 ∧ ∀ x, x ∈ l → p x = false) ∨ ∃ j, ∃ hj : j < l.length, at' = (j : Int) ∧ p l[j] = true ∧ ∀ q, ∀ hq : q < j, p (l[q]'(by omega)) = false
def NoP (p : Int → Bool) (l : List Int) (j : Nat) : Prop := ∀ q, ∀ hq : q < l.length, q < j → p l[q] = false
theorem NoP.none {p : Int → Bool} {l : List Int} (h : NoP p l l.length) : IsFst p l (-1) := .inl ⟨rfl, fun e he => by
  obtain ⟨q, hq, rfl⟩ := List.mem_iff_getElem.mp he
  exact h q hq hq⟩
theorem NoP.here {p : Int → Bool} {l : List Int} {j : Nat} (h : NoP p l j) (hj : j < l.length) (e : p l[j] = true) : IsFst p l (j : Int) := .inr ⟨j, hj, rfl, e, fun q hq => h q (by omega) hq⟩
theorem NoP.next {p : Int → Bool} {l : List Int} {j : Nat} (h : NoP p l j) (hj : j < l.length) (e : p l[j] = false) : NoP p l (j + 1) := fun q hq hq2 => by
  by_cases hqj : q = j
  · subst hqj; exact e
  · exact h q hq (by omega)
theorem fst_any {p : Int → Bool} {l : List Int} {at' : Int} (h : IsFst p l at') : decide (0 ≤ at') = l.any p := by
  rcases h with ⟨rfl, h⟩ | ⟨j, hj, rfl, h1, _⟩
  · rw [show l.any p = false from List.any_eq_false.mpr fun x hx => by rw [h x hx]; decide]; rfl
  · rw [decide_eq_true (by omega), eq_comm, List.any_eq_true]
    exact ⟨_, List.getElem_mem hj, h1⟩
set_option maxHeartbeats 4000000 in
theorem idx2_any (A : Option Addr) (c : Nat) (l : List Int) (w : World) (b1 b2 : Nat) (p : Int → Bool) (hr : RdI w A l) (hl : l.length ≤ 1000) (hc1 : l.length ≤ c) (hc2 : c ≤ 9223372036854775807) (hc : ∀ W, Below w.heap.size w W → ∀ x : Int, Calls Try.prog 34 #[.int .i64 x, .pointer (some ⟨b1, 0, none⟩), .pointer (some ⟨b2, 0, none⟩)] W fun o w' => o = .returned (.bool (p x)) ∧ Below W.heap.size W w') :
    Calls Try.prog 41 #[.slice A l.length c, .func (.func 34) #[] #[.pointer (some ⟨b1, 0, none⟩), .pointer (some ⟨b2, 0, none⟩)]] w fun o w' => ∃ at' : Int, o = .returned (.int .i64 at') ∧ IsFst p l at' ∧ Below w.heap.size w w' := by
  have HR := Lib.hid hr
  have HC := Lib.hid hc
  obtain ⟨n, hn⟩ : ∃ n, n = l.length := ⟨_, rfl⟩
  have HNL := Lib.hid hn
  rw [← hn] at hl hc1 ⊢
  clear hn hr hc
  go_enter Try.func41, Try.ntmps41
  go_wp2_with fail
  go_loopw [8] (fun i wr => ∃ j : Nat, i = .int .i64 j ∧ j ≤ n ∧ Hid (NoP p l j) ∧ Hid (Below w.heap.size w wr)) (fun i _ => n - (intOf i).toNat)
  case atStart => exact ⟨0, rfl, by omega, Lib.hid (fun q hq hq2 => by omega), Lib.hid (Below.refl _ _)⟩
  case round =>
    obtain ⟨j, rfl, hj, HNO, KB⟩ := hrel
    by_cases hjn : j < n
    · have t1 : decide ((j : Int) < n) = true := decide_eq_true (by omega)
      have hjl : j < l.length := HNL.out ▸ hjn
      obtain ⟨b, off, hA, hbl, d0⟩ := (HR.out.below KB.out).at_ j hjl
      subst hA
      have HHERE := Lib.hid (fun h => HNO.out.here hjl h)
      have HNEXT := Lib.hid (fun h => HNO.out.next hjl h)
      obtain ⟨x, hx⟩ : ∃ x, x = l[j] := ⟨_, rfl⟩
      rw [← hx] at d0 HHERE HNEXT
      have HCX := Lib.hid (HC.out wr KB.out x)
      obtain ⟨z, hz⟩ : ∃ z, z = p x := ⟨_, rfl⟩
      rw [← hz] at HCX HHERE HNEXT
      have j0 : (0 : Int) ≤ j := by omega
      have j1 : (j : Int) < n := by omega
      clear hx hz
      go_wp2_with fail
      refine HCX.out.mono ?_
      rintro o w3 ⟨rfl, hb⟩
      have B3 := Lib.hid (KB.out.trans (hb.mono KB.out.size))
      clear hb
      cases z with
      | true =>
        have HF := Lib.hid (HHERE.out rfl)
        go_wp2_with fail
        go_ret
        exact ⟨_, rfl, HF.out, B3.out⟩
      | false =>
        have HX := Lib.hid (HNEXT.out rfl)
        go_wp2_with fail
        go_roundw
        case rel => exact ⟨j + 1, by go_num, by omega, HX, B3⟩
        case measure => simp [intOf]; omega
    · have t1 : decide ((j : Int) < n) = false := decide_eq_false (by omega)
      obtain rfl : n = j := by omega
      have HF := Lib.hid (show IsFst p l (-1) from NoP.none (by have := HNO.out; rw [HNL.out] at this; exact this))
      go_wp2_with fail
      go_ret
      exact ⟨_, rfl, HF.out, KB.out⟩
set_option maxHeartbeats 4000000 in
theorem idx1_any (A : Option Addr) (c : Nat) (l : List Int) (w : World) (b1 b2 : Nat) (p : Int → Bool) (hr : RdI w A l) (hl : l.length ≤ 1000) (hc1 : l.length ≤ c) (hc2 : c ≤ 9223372036854775807) (hc : ∀ W, Below w.heap.size w W → ∀ x : Int, Calls Try.prog 32 #[.int .i64 x, .pointer (some ⟨b1, 0, none⟩), .pointer (some ⟨b2, 0, none⟩)] W fun o w' => o = .returned (.bool (p x)) ∧ Below W.heap.size W w') :
    Calls Try.prog 41 #[.slice A l.length c, .func (.func 32) #[] #[.pointer (some ⟨b1, 0, none⟩), .pointer (some ⟨b2, 0, none⟩)]] w fun o w' => ∃ at' : Int, o = .returned (.int .i64 at') ∧ IsFst p l at' ∧ Below w.heap.size w w' := by
  have HR := Lib.hid hr
  have HC := Lib.hid hc
  obtain ⟨n, hn⟩ : ∃ n, n = l.length := ⟨_, rfl⟩
  have HNL := Lib.hid hn
  rw [← hn] at hl hc1 ⊢
  clear hn hr hc
  go_enter Try.func41, Try.ntmps41
  go_wp2_with fail
  go_loopw [8] (fun i wr => ∃ j : Nat, i = .int .i64 j ∧ j ≤ n ∧ Hid (NoP p l j) ∧ Hid (Below w.heap.size w wr)) (fun i _ => n - (intOf i).toNat)
  case atStart => exact ⟨0, rfl, by omega, Lib.hid (fun q hq hq2 => by omega), Lib.hid (Below.refl _ _)⟩
  case round =>
    obtain ⟨j, rfl, hj, HNO, KB⟩ := hrel
    by_cases hjn : j < n
    · have t1 : decide ((j : Int) < n) = true := decide_eq_true (by omega)
      have hjl : j < l.length := HNL.out ▸ hjn
      obtain ⟨b, off, hA, hbl, d0⟩ := (HR.out.below KB.out).at_ j hjl
      subst hA
      have HHERE := Lib.hid (fun h => HNO.out.here hjl h)
      have HNEXT := Lib.hid (fun h => HNO.out.next hjl h)
      obtain ⟨x, hx⟩ : ∃ x, x = l[j] := ⟨_, rfl⟩
      rw [← hx] at d0 HHERE HNEXT
      have HCX := Lib.hid (HC.out wr KB.out x)
      obtain ⟨z, hz⟩ : ∃ z, z = p x := ⟨_, rfl⟩
      rw [← hz] at HCX HHERE HNEXT
      have j0 : (0 : Int) ≤ j := by omega
      have j1 : (j : Int) < n := by omega
      clear hx hz
      go_wp2_with fail
      refine HCX.out.mono ?_
      rintro o w3 ⟨rfl, hb⟩
      have B3 := Lib.hid (KB.out.trans (hb.mono KB.out.size))
      clear hb
      cases z with
      | true =>
        have HF := Lib.hid (HHERE.out rfl)
        go_wp2_with fail
        go_ret
        exact ⟨_, rfl, HF.out, B3.out⟩
      | false =>
        have HX := Lib.hid (HNEXT.out rfl)
        go_wp2_with fail
        go_roundw
        case rel => exact ⟨j + 1, by go_num, by omega, HX, B3⟩
        case measure => simp [intOf]; omega
    · have t1 : decide ((j : Int) < n) = false := decide_eq_false (by omega)
      obtain rfl : n = j := by omega
      have HF := Lib.hid (show IsFst p l (-1) from NoP.none (by have := HNO.out; rw [HNL.out] at this; exact this))
      go_wp2_with fail
      go_ret
      exact ⟨_, rfl, HF.out, KB.out⟩
set_option maxHeartbeats 4000000 in
theorem contains_any (A : Option Addr) (c : Nat) (l : List Int) (w : World) (b1 b2 : Nat) (p : Int → Bool) (hr : RdI w A l) (hl : l.length ≤ 1000) (hc1 : l.length ≤ c) (hc2 : c ≤ 9223372036854775807) (hc : ∀ W, Below w.heap.size w W → ∀ x : Int, Calls Try.prog 34 #[.int .i64 x, .pointer (some ⟨b1, 0, none⟩), .pointer (some ⟨b2, 0, none⟩)] W fun o w' => o = .returned (.bool (p x)) ∧ Below W.heap.size W w') :
    Calls Try.prog 33 #[.slice A l.length c, .func (.func 34) #[] #[.pointer (some ⟨b1, 0, none⟩), .pointer (some ⟨b2, 0, none⟩)]] w fun o w' => o = .returned (.bool (l.any p)) ∧ Below w.heap.size w w' := by
  have HI := Lib.hid (idx2_any A c l w b1 b2 p hr hl hc1 hc2 hc)
  obtain ⟨r, hr2⟩ : ∃ r, r = l.any p := ⟨_, rfl⟩
  have HRR := Lib.hid hr2
  rw [← hr2]
  clear hr hc hr2
  go_enter Try.func33, Try.ntmps33
  go_wp2_with fail
  refine HI.out.mono ?_
  rintro o w1 ⟨at', rfl, hf, hb⟩
  have HB := Lib.hid hb
  have HD := Lib.hid (fst_any hf)
  clear hf hb
  go_wp2_with fail
  go_ret
  exact ⟨by rw [HRR.out, ← HD.out]; rfl, HB.out⟩
/-- Is a host the node, or below it? -/
def askB (m : List Nd) (x node : Int) : Bool := decide (0 ≤ node) && (upF m (ndAt m node).kind x == node)
set_option maxRecDepth 100000 in
set_option maxHeartbeats 8000000 in
theorem clo2_any {w : World} {S T g : Nat} {m : List Nd} {W : Nat → Int} (h : SetOk w S T g m W) (b1 b2 : Nat) (x node : Int) (h1 : w.cell? ⟨b1, 0, none⟩ = some (.pointer (some ⟨S, 0, none⟩))) (h2 : w.cell? ⟨b2, 0, none⟩ = some (.int .i64 x)) :
    Calls Try.prog 34 #[.int .i64 node, .pointer (some ⟨b1, 0, none⟩), .pointer (some ⟨b2, 0, none⟩)] w fun o w' => o = .returned (.bool (askB m x node)) ∧ Below w.heap.size w w' := by
  have HF := Lib.hid (fine_of h.tree.good)
  have HS := Lib.hid h
  have BD := Lib.hid (show Below w.heap.size w w.drew from (Below.refl _ _).drew)
  have d0 : w.cell? ⟨S, 0, none⟩ = some (.pointer (some ⟨T, 0, none⟩)) := h.set.cell 0
  have HSS := Lib.hid (show ∀ W', Below w.heap.size w W' → (World.cell? W' ⟨b1, 0, none⟩ = some (.pointer (some ⟨S, 0, none⟩)) ∧ World.cell? W' ⟨b2, 0, none⟩ = some (.int .i64 x) ∧ World.cell? W' ⟨S, 0, none⟩ = some (.pointer (some ⟨T, 0, none⟩))) from fun W' hb =>
    ⟨(hb.cell (p := ⟨b1, 0, none⟩) (World.block_lt_of_cell? w _ h1)).trans h1, (hb.cell (p := ⟨b2, 0, none⟩) (World.block_lt_of_cell? w _ h2)).trans h2, (hb.cell (p := ⟨S, 0, none⟩) (World.block_lt_of_cell? w _ d0)).trans d0⟩)
  have HND := Lib.hid (show Calls Try.prog 25 #[.pointer (some ⟨T, 0, none⟩), .int .i64 node] w.drew fun o w' => o = .returned (.agg (ndAt m node).cells) ∧ Below w.drew.heap.size w.drew w' from by
    obtain ⟨A2, c2, K2, kc2, ht2⟩ := (h.tree.below BD.out).at_
    exact node_any ht2 node)
  obtain ⟨e, he⟩ : ∃ e, e = ndAt m node := ⟨_, rfl⟩
  rw [← he] at HND
  have HUP := Lib.hid (show ∀ W', Below w.heap.size w W' → Calls Try.prog 30 #[.pointer (some ⟨T, 0, none⟩), .int .i64 x, .int .i64 e.kind] W' fun o w' => o = .returned (.int .i64 (upF m e.kind x)) ∧ w' = W' from fun W' hb => by
    obtain ⟨A2, c2, K2, kc2, ht2⟩ := (HS.out.tree.below hb).at_
    exact up_x ht2 HF.out x e.kind)
  have hfd : ∀ W, (Instr.field 44 (.agg #[.string e.nm, .int .i64 e.kind, .int .i64 e.ab, .int .i64 e.wt, .bool e.v6, .int .u64 e.hi, .int .u64 e.lo]) 1).run Try.prog W = .ok (.int .i64 e.kind) W := fun _ => by kernel_rfl
  unfold Nd.cells at HND
  obtain ⟨r, hr⟩ : ∃ r, r = askB m x node := ⟨_, rfl⟩
  have HRR := Lib.hid hr
  have HEE := Lib.hid he
  rw [← hr]
  obtain ⟨u, hu⟩ : ∃ u, u = upF m e.kind x := ⟨_, rfl⟩
  have HUU := Lib.hid hu
  rw [← hu] at HUP
  clear h h1 h2 d0 he hr hu
  by_cases h0 : 0 ≤ node
  · have t1 : decide (0 ≤ node) = true := decide_eq_true h0
    have s0 := HSS.out _ BD.out
    have HVV := Lib.hid (show r = (u == node) from by rw [HRR.out]; unfold askB; rw [t1, Bool.true_and, ← HEE.out, ← HUU.out])
    clear h0
    go_enter Try.func34, Try.ntmps34
    go_wp2_with fail
    go_region_held3 (fun W' => World.cell? W' ⟨b1, 0, none⟩ = some (.pointer (some ⟨S, 0, none⟩)) ∧ World.cell? W' ⟨b2, 0, none⟩ = some (.int .i64 x) ∧ World.cell? W' ⟨S, 0, none⟩ = some (.pointer (some ⟨T, 0, none⟩))) (first | with_reducible assumption)
      (first
        | (go_at_call 25
           (with_reducible refine HND.out.mono ?_)
           rintro o wA ⟨rfl, hb⟩
           have BA := Lib.hid (BD.out.trans (hb.mono BD.out.size))
           have sA := HSS.out _ BA.out
           clear hb)
        | (go_at_call 30
           (with_reducible refine (HUP.out _ BA.out).mono ?_)
           rintro o wB ⟨rfl, rfl⟩))
    go_wp2_with fail
    go_ret
    exact ⟨by rw [HVV.out]; rfl, BA.out⟩
  · have t1 : decide (0 ≤ node) = false := decide_eq_false h0
    have HVV := Lib.hid (show r = false from by rw [HRR.out]; unfold askB; rw [t1]; rfl)
    clear h0
    go_enter Try.func34, Try.ntmps34
    go_wp2_with fail
    go_quiet (fail)
    go_wp2_with fail
    go_ret
    exact ⟨by rw [HVV.out]; rfl, below_n w _⟩
set_option maxHeartbeats 8000000 in
/-- What Without asks of a host. -/
theorem clo1_any {w : World} {S T g : Nat} {m : List Nd} {W : Nat → Int} (h : SetOk w S T g m W) (bn bs : Nat) (AN : Option Addr) (cN : Nat) (N : List Int) (x : Int) (h1 : w.cell? ⟨bn, 0, none⟩ = some (.slice AN N.length cN)) (h2 : w.cell? ⟨bs, 0, none⟩ = some (.pointer (some ⟨S, 0, none⟩)))
    (hr : RdI w AN N) (hN : N.length ≤ 30) (hc1 : N.length ≤ cN) (hc2 : cN ≤ 9223372036854775807) :
    Calls Try.prog 32 #[.int .i64 x, .pointer (some ⟨bn, 0, none⟩), .pointer (some ⟨bs, 0, none⟩)] w fun o w' => o = .returned (.bool (N.any (askB m x))) ∧ Below w.heap.size w w' := by
  have hmf : ∀ (fn : Fn) (first cap : Array Value) (w : World), (Instr.makeFunc fn first cap).run Try.prog w = .ok (.func fn first cap) w := fun _ _ _ _ => rfl
  have BA := Lib.hid (show Below w.heap.size w (w.alloc (.cells #[.int .i64 x] 3)) from (Below.refl w.heap.size w).alloc (Nat.le_refl _) _)
  have d1 : (w.alloc (.cells #[.int .i64 x] 3)).cell? ⟨bn, 0, none⟩ = some (.slice AN N.length cN) := (BA.out.cell (p := ⟨bn, 0, none⟩) (World.block_lt_of_cell? w _ h1)).trans h1
  have d2 : (w.alloc (.cells #[.int .i64 x] 3)).cell? ⟨bs, 0, none⟩ = some (.pointer (some ⟨S, 0, none⟩)) := (BA.out.cell (p := ⟨bs, 0, none⟩) (World.block_lt_of_cell? w _ h2)).trans h2
  have d3 : (w.alloc (.cells #[.int .i64 x] 3)).cell? ⟨w.heap.size, 0, none⟩ = some (.int .i64 x) := (Blk.new w 3 #[.int .i64 x]).cell 0
  have HCO := Lib.hid (contains_any AN cN N (w.alloc (.cells #[.int .i64 x] 3)) bs w.heap.size (askB m x) (hr.below BA.out) (by omega) hc1 hc2 (fun W' hb node =>
    clo2_any ((h.below BA.out).below hb) bs w.heap.size x node ((hb.cell (p := ⟨bs, 0, none⟩) (World.block_lt_of_cell? _ _ d2)).trans d2) ((hb.cell (p := ⟨w.heap.size, 0, none⟩) (World.block_lt_of_cell? _ _ d3)).trans d3)))
  obtain ⟨r, hr2⟩ : ∃ r, r = N.any (askB m x) := ⟨_, rfl⟩
  rw [← hr2] at HCO ⊢
  obtain ⟨nn, hnn⟩ : ∃ nn, nn = N.length := ⟨_, rfl⟩
  rw [← hnn] at HCO d1
  clear h h1 h2 hr hr2 hnn d2 d3
  go_enter Try.func32, Try.ntmps32
  go_wp2_with fail
  refine HCO.out.mono ?_
  rintro o w1 ⟨rfl, hb⟩
  have HB := Lib.hid (BA.out.trans (hb.mono BA.out.size))
  clear hb
  go_wp2_with fail
  go_ret
  exact ⟨rfl, HB.out⟩
end Go.Proofs.Ytlihgiannfpjfaa.eliJ
