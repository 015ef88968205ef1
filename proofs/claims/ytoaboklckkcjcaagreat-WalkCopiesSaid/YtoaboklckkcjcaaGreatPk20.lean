/- 4 texts in one. -/
import Derived.Lib.SliceRun
import Derived.Laws.IdiomCopy
import Derived.Deep.QuietTactic
import Derived.BigQuiet
import Derived.Test.YtoaboklckkcjcaaGreatPk10
import Derived.Test.YtoaboklckkcjcaaGreatPk12
import Derived.Test.YtoaboklckkcjcaaGreatPk17
import Derived.Test.YtoaboklckkcjcaaGreatPk18
/- Layer 23: what Without asks of each host; the library's functions over closures that lay memory. -/
namespace Go.Proofs.YtoaboklckkcjcaaGreat.eliJ
open Go.ChangeShapes Go.WideShapes Go.ChangeAt Go.RowKit
open Go.Proofs.YtoaboklckkcjcaaGreat.base Go.Proofs.YtoaboklckkcjcaaGreat.dfA Go.Proofs.YtoaboklckkcjcaaGreat.treB Go.Proofs.YtoaboklckkcjcaaGreat.treD Go.Proofs.YtoaboklckkcjcaaGreat.treH Go.Proofs.YtoaboklckkcjcaaGreat.treM Go.Proofs.YtoaboklckkcjcaaGreat.treW Go.Proofs.YtoaboklckkcjcaaGreat.treP Go.Proofs.YtoaboklckkcjcaaGreat.eliW Go.Proofs.YtoaboklckkcjcaaGreat.eliA Go.Proofs.YtoaboklckkcjcaaGreat.eliB Go.Proofs.YtoaboklckkcjcaaGreat.eliC
set_option linter.unusedVariables false

/-- The first that p holds of. -/
def IsFst (p : Int → Bool) (l : List Int) (at' : Int) : Prop := (at' = -1 ∧ ∀ x, x ∈ l → p x = false) ∨ ∃ j, ∃ hj : j < l.length, at' = (j : Int) ∧ p l[j] = true ∧ ∀ q, ∀ hq : q < j, p (l[q]'(by omega)) = false
def NoP (p : Int → Bool) (l : List Int) (j : Nat) : Prop := ∀ q, ∀ hq : q < l.length, q < j → p l[q] = false
theorem NoP.none {p : Int → Bool} {l : List Int} (h : NoP p l l.length) : IsFst p l (-1) := .inl ⟨rfl, fun e he => by
  obtain ⟨q, hq, rfl⟩ := List.mem_iff_getElem.mp he
  exact h q hq hq⟩
theorem NoP.here {p : Int → Bool} {l : List Int} {j : Nat} (h : NoP p l j) (hj : j < l.length) (e : p l[j] = true) : IsFst p l (j : Int) := .inr ⟨j, hj, rfl, e, fun q hq => h q (by omega) hq⟩
theorem NoP.next {p : Int → Bool} {l : List Int} {j : Nat} (h : NoP p l j) (hj : j < l.length) (e : p l[j] = false) : NoP p l (j + 1) := fun q hq hq2 => by
  by_cases hqj : q = j
  · subst hqj; exact e
  · exact h q hq (by omega)
theorem fst_any {p : Int → Bool} {l : List Int} {at' : Int} (h : IsFst p l at') : decide (0 ≤ at') = l.any p := by
  rcases h with ⟨rfl, h⟩ | ⟨j, hj, rfl, h1, _⟩
  · rw [show l.any p = false from List.any_eq_false.mpr fun x hx => by rw [h x hx]; decide]; rfl
  · rw [decide_eq_true (by omega), eq_comm, List.any_eq_true]
    exact ⟨_, List.getElem_mem hj, h1⟩
set_option maxHeartbeats 4000000 in
theorem idx2_any (A : Option Addr) (c : Nat) (l : List Int) (w : World) (b1 b2 : Nat) (p : Int → Bool) (hr : RdI w A l) (hl : l.length ≤ 1000) (hc1 : l.length ≤ c) (hc2 : c ≤ 9223372036854775807) (hc : ∀ W, Below w.heap.size w W → ∀ x : Int, Calls Tryz.prog 91 #[.int .i64 x, .pointer (some ⟨b1, 0, none⟩), .pointer (some ⟨b2, 0, none⟩)] W fun o w' => o = .returned (.bool (p x)) ∧ Below W.heap.size W w') :
    Calls Tryz.prog 84 #[.slice A l.length c, .func (.func 91) #[] #[.pointer (some ⟨b1, 0, none⟩), .pointer (some ⟨b2, 0, none⟩)]] w fun o w' => ∃ at' : Int, o = .returned (.int .i64 at') ∧ IsFst p l at' ∧ Below w.heap.size w w' := by
  have HR := Lib.hid hr
  have HC := Lib.hid hc
  obtain ⟨n, hn⟩ : ∃ n, n = l.length := ⟨_, rfl⟩
  have HNL := Lib.hid hn
  rw [← hn] at hl hc1 ⊢
  clear hn hr hc
  go_enter Tryz.func84, Tryz.ntmps84
  go_wp2_with fail
  go_loopw [8] (fun i wr => ∃ j : Nat, i = .int .i64 j ∧ j ≤ n ∧ Hid (NoP p l j) ∧ Hid (Below w.heap.size w wr)) (fun i _ => n - (intOf i).toNat)
  case atStart => exact ⟨0, rfl, by omega, Lib.hid (fun q hq hq2 => by omega), Lib.hid (Below.refl _ _)⟩
  case round =>
    obtain ⟨j, rfl, hj, HNO, KB⟩ := hrel
    by_cases hjn : j < n
    · have t1 : decide ((j : Int) < n) = true := decide_eq_true (by omega)
      have hjl : j < l.length := HNL.out ▸ hjn
      obtain ⟨b, off, hA, hbl, d0⟩ := (HR.out.below KB.out).at_ j hjl
      subst hA
      have HHERE := Lib.hid (fun h => HNO.out.here hjl h)
      have HNEXT := Lib.hid (fun h => HNO.out.next hjl h)
      obtain ⟨x, hx⟩ : ∃ x, x = l[j] := ⟨_, rfl⟩
      rw [← hx] at d0 HHERE HNEXT
      have HCX := Lib.hid (HC.out wr KB.out x)
      obtain ⟨z, hz⟩ : ∃ z, z = p x := ⟨_, rfl⟩
      rw [← hz] at HCX HHERE HNEXT
      have j0 : (0 : Int) ≤ j := by omega
      have j1 : (j : Int) < n := by omega
      clear hx hz
      go_wp2_with fail
      refine HCX.out.mono ?_
      rintro o w3 ⟨rfl, hb⟩
      have B3 := Lib.hid (KB.out.trans (hb.mono KB.out.size))
      clear hb
      cases z with
      | true =>
        have HF := Lib.hid (HHERE.out rfl)
        go_wp2_with fail
        go_ret
        exact ⟨_, rfl, HF.out, B3.out⟩
      | false =>
        have HX := Lib.hid (HNEXT.out rfl)
        go_wp2_with fail
        go_roundw
        case rel => exact ⟨j + 1, by go_num, by omega, HX, B3⟩
        case measure => simp [intOf]; omega
    · have t1 : decide ((j : Int) < n) = false := decide_eq_false (by omega)
      obtain rfl : n = j := by omega
      have HF := Lib.hid (show IsFst p l (-1) from NoP.none (by have := HNO.out; rw [HNL.out] at this; exact this))
      go_wp2_with fail
      go_ret
      exact ⟨_, rfl, HF.out, KB.out⟩
set_option maxHeartbeats 4000000 in
theorem idx1_any (A : Option Addr) (c : Nat) (l : List Int) (w : World) (b1 b2 : Nat) (p : Int → Bool) (hr : RdI w A l) (hl : l.length ≤ 1000) (hc1 : l.length ≤ c) (hc2 : c ≤ 9223372036854775807) (hc : ∀ W, Below w.heap.size w W → ∀ x : Int, Calls Tryz.prog 89 #[.int .i64 x, .pointer (some ⟨b1, 0, none⟩), .pointer (some ⟨b2, 0, none⟩)] W fun o w' => o = .returned (.bool (p x)) ∧ Below W.heap.size W w') :
    Calls Tryz.prog 84 #[.slice A l.length c, .func (.func 89) #[] #[.pointer (some ⟨b1, 0, none⟩), .pointer (some ⟨b2, 0, none⟩)]] w fun o w' => ∃ at' : Int, o = .returned (.int .i64 at') ∧ IsFst p l at' ∧ Below w.heap.size w w' := by
  have HR := Lib.hid hr
  have HC := Lib.hid hc
  obtain ⟨n, hn⟩ : ∃ n, n = l.length := ⟨_, rfl⟩
  have HNL := Lib.hid hn
  rw [← hn] at hl hc1 ⊢
  clear hn hr hc
  go_enter Tryz.func84, Tryz.ntmps84
  go_wp2_with fail
  go_loopw [8] (fun i wr => ∃ j : Nat, i = .int .i64 j ∧ j ≤ n ∧ Hid (NoP p l j) ∧ Hid (Below w.heap.size w wr)) (fun i _ => n - (intOf i).toNat)
  case atStart => exact ⟨0, rfl, by omega, Lib.hid (fun q hq hq2 => by omega), Lib.hid (Below.refl _ _)⟩
  case round =>
    obtain ⟨j, rfl, hj, HNO, KB⟩ := hrel
    by_cases hjn : j < n
    · have t1 : decide ((j : Int) < n) = true := decide_eq_true (by omega)
      have hjl : j < l.length := HNL.out ▸ hjn
      obtain ⟨b, off, hA, hbl, d0⟩ := (HR.out.below KB.out).at_ j hjl
      subst hA
      have HHERE := Lib.hid (fun h => HNO.out.here hjl h)
      have HNEXT := Lib.hid (fun h => HNO.out.next hjl h)
      obtain ⟨x, hx⟩ : ∃ x, x = l[j] := ⟨_, rfl⟩
      rw [← hx] at d0 HHERE HNEXT
      have HCX := Lib.hid (HC.out wr KB.out x)
      obtain ⟨z, hz⟩ : ∃ z, z = p x := ⟨_, rfl⟩
      rw [← hz] at HCX HHERE HNEXT
      have j0 : (0 : Int) ≤ j := by omega
      have j1 : (j : Int) < n := by omega
      clear hx hz
      go_wp2_with fail
      refine HCX.out.mono ?_
      rintro o w3 ⟨rfl, hb⟩
      have B3 := Lib.hid (KB.out.trans (hb.mono KB.out.size))
      clear hb
      cases z with
      | true =>
        have HF := Lib.hid (HHERE.out rfl)
        go_wp2_with fail
        go_ret
        exact ⟨_, rfl, HF.out, B3.out⟩
      | false =>
        have HX := Lib.hid (HNEXT.out rfl)
        go_wp2_with fail
        go_roundw
        case rel => exact ⟨j + 1, by go_num, by omega, HX, B3⟩
        case measure => simp [intOf]; omega
    · have t1 : decide ((j : Int) < n) = false := decide_eq_false (by omega)
      obtain rfl : n = j := by omega
      have HF := Lib.hid (show IsFst p l (-1) from NoP.none (by have := HNO.out; rw [HNL.out] at this; exact this))
      go_wp2_with fail
      go_ret
      exact ⟨_, rfl, HF.out, KB.out⟩
set_option maxHeartbeats 4000000 in
theorem contains_any (A : Option Addr) (c : Nat) (l : List Int) (w : World) (b1 b2 : Nat) (p : Int → Bool) (hr : RdI w A l) (hl : l.length ≤ 1000) (hc1 : l.length ≤ c) (hc2 : c ≤ 9223372036854775807) (hc : ∀ W, Below w.heap.size w W → ∀ x : Int, Calls Tryz.prog 91 #[.int .i64 x, .pointer (some ⟨b1, 0, none⟩), .pointer (some ⟨b2, 0, none⟩)] W fun o w' => o = .returned (.bool (p x)) ∧ Below W.heap.size W w') :
    Calls Tryz.prog 90 #[.slice A l.length c, .func (.func 91) #[] #[.pointer (some ⟨b1, 0, none⟩), .pointer (some ⟨b2, 0, none⟩)]] w fun o w' => o = .returned (.bool (l.any p)) ∧ Below w.heap.size w w' := by
  have HI := Lib.hid (idx2_any A c l w b1 b2 p hr hl hc1 hc2 hc)
  obtain ⟨r, hr2⟩ : ∃ r, r = l.any p := ⟨_, rfl⟩
  have HRR := Lib.hid hr2
  rw [← hr2]
  clear hr hc hr2
  go_enter Tryz.func90, Tryz.ntmps90
  go_wp2_with fail
  refine HI.out.mono ?_
  rintro o w1 ⟨at', rfl, hf, hb⟩
  have HB := Lib.hid hb
  have HD := Lib.hid (fst_any hf)
  clear hf hb
  go_wp2_with fail
  go_ret
  exact ⟨by rw [HRR.out, ← HD.out]; rfl, HB.out⟩
/-- Is a host the node, or below it? -/
def askB (m : List Nd) (x node : Int) : Bool := decide (0 ≤ node) && (upF m (ndAt m node).kind x == node)
set_option maxRecDepth 100000 in
set_option maxHeartbeats 8000000 in
theorem clo2_any {w : World} {S T g : Nat} {m : List Nd} {W : Nat → Int} (h : SetOk w S T g m W) (b1 b2 : Nat) (x node : Int) (h1 : w.cell? ⟨b1, 0, none⟩ = some (.pointer (some ⟨S, 0, none⟩))) (h2 : w.cell? ⟨b2, 0, none⟩ = some (.int .i64 x)) :
    Calls Tryz.prog 91 #[.int .i64 node, .pointer (some ⟨b1, 0, none⟩), .pointer (some ⟨b2, 0, none⟩)] w fun o w' => o = .returned (.bool (askB m x node)) ∧ Below w.heap.size w w' := by
  have HF := Lib.hid (fine_of h.tree.good)
  have HS := Lib.hid h
  have BD := Lib.hid (show Below w.heap.size w w.drew from (Below.refl _ _).drew)
  have d0 : w.cell? ⟨S, 0, none⟩ = some (.pointer (some ⟨T, 0, none⟩)) := h.set.cell 0
  have HSS := Lib.hid (show ∀ W', Below w.heap.size w W' → (World.cell? W' ⟨b1, 0, none⟩ = some (.pointer (some ⟨S, 0, none⟩)) ∧ World.cell? W' ⟨b2, 0, none⟩ = some (.int .i64 x) ∧ World.cell? W' ⟨S, 0, none⟩ = some (.pointer (some ⟨T, 0, none⟩))) from fun W' hb =>
    ⟨(hb.cell (p := ⟨b1, 0, none⟩) (World.block_lt_of_cell? w _ h1)).trans h1, (hb.cell (p := ⟨b2, 0, none⟩) (World.block_lt_of_cell? w _ h2)).trans h2, (hb.cell (p := ⟨S, 0, none⟩) (World.block_lt_of_cell? w _ d0)).trans d0⟩)
  have HND := Lib.hid (show Calls Tryz.prog 30 #[.pointer (some ⟨T, 0, none⟩), .int .i64 node] w.drew fun o w' => o = .returned (.agg (ndAt m node).cells) ∧ Below w.drew.heap.size w.drew w' from by
    obtain ⟨A2, c2, K2, kc2, ht2⟩ := (h.tree.below BD.out).at_
    exact node_any ht2 node)
  obtain ⟨e, he⟩ : ∃ e, e = ndAt m node := ⟨_, rfl⟩
  rw [← he] at HND
  have HUP := Lib.hid (show ∀ W', Below w.heap.size w W' → Calls Tryz.prog 31 #[.pointer (some ⟨T, 0, none⟩), .int .i64 x, .int .i64 e.kind] W' fun o w' => o = .returned (.int .i64 (upF m e.kind x)) ∧ w' = W' from fun W' hb => by
    obtain ⟨A2, c2, K2, kc2, ht2⟩ := (HS.out.tree.below hb).at_
    exact up_x ht2 HF.out x e.kind)
  have hfd : ∀ W, (Instr.field 67 (.agg #[.string e.nm, .int .i64 e.kind, .int .i64 e.ab, .int .i64 e.wt, .bool e.v6, .int .u64 e.hi, .int .u64 e.lo]) 1).run Tryz.prog W = .ok (.int .i64 e.kind) W := fun _ => by kernel_rfl
  unfold Nd.cells at HND
  obtain ⟨r, hr⟩ : ∃ r, r = askB m x node := ⟨_, rfl⟩
  have HRR := Lib.hid hr
  have HEE := Lib.hid he
  rw [← hr]
  obtain ⟨u, hu⟩ : ∃ u, u = upF m e.kind x := ⟨_, rfl⟩
  have HUU := Lib.hid hu
  rw [← hu] at HUP
  clear h h1 h2 d0 he hr hu
  by_cases h0 : 0 ≤ node
  · have t1 : decide (0 ≤ node) = true := decide_eq_true h0
    have s0 := HSS.out _ BD.out
    have HVV := Lib.hid (show r = (u == node) from by rw [HRR.out]; unfold askB; rw [t1, Bool.true_and, ← HEE.out, ← HUU.out])
    clear h0
    go_enter Tryz.func91, Tryz.ntmps91
    go_wp2_with fail
    go_region_held3 (fun W' => World.cell? W' ⟨b1, 0, none⟩ = some (.pointer (some ⟨S, 0, none⟩)) ∧ World.cell? W' ⟨b2, 0, none⟩ = some (.int .i64 x) ∧ World.cell? W' ⟨S, 0, none⟩ = some (.pointer (some ⟨T, 0, none⟩))) (first | with_reducible assumption)
      (first
        | (go_at_call 30
           (with_reducible refine HND.out.mono ?_)
           rintro o wA ⟨rfl, hb⟩
           have BA := Lib.hid (BD.out.trans (hb.mono BD.out.size))
           have sA := HSS.out _ BA.out
           clear hb)
        | (go_at_call 31
           (with_reducible refine (HUP.out _ BA.out).mono ?_)
           rintro o wB ⟨rfl, rfl⟩))
    go_wp2_with fail
    go_ret
    exact ⟨by rw [HVV.out]; rfl, BA.out⟩
  · have t1 : decide (0 ≤ node) = false := decide_eq_false h0
    have HVV := Lib.hid (show r = false from by rw [HRR.out]; unfold askB; rw [t1]; rfl)
    clear h0
    go_enter Tryz.func91, Tryz.ntmps91
    go_wp2_with fail
    go_quiet (fail)
    go_wp2_with fail
    go_ret
    exact ⟨by rw [HVV.out]; rfl, below_n w _⟩
set_option maxHeartbeats 8000000 in
/-- What Without asks of a host. -/
theorem clo1_any {w : World} {S T g : Nat} {m : List Nd} {W : Nat → Int} (h : SetOk w S T g m W) (bn bs : Nat) (AN : Option Addr) (cN : Nat) (N : List Int) (x : Int) (h1 : w.cell? ⟨bn, 0, none⟩ = some (.slice AN N.length cN)) (h2 : w.cell? ⟨bs, 0, none⟩ = some (.pointer (some ⟨S, 0, none⟩)))
    (hr : RdI w AN N) (hN : N.length ≤ 30) (hc1 : N.length ≤ cN) (hc2 : cN ≤ 9223372036854775807) :
    Calls Tryz.prog 89 #[.int .i64 x, .pointer (some ⟨bn, 0, none⟩), .pointer (some ⟨bs, 0, none⟩)] w fun o w' => o = .returned (.bool (N.any (askB m x))) ∧ Below w.heap.size w w' := by
  have hmf : ∀ (fn : Fn) (first cap : Array Value) (w : World), (Instr.makeFunc fn first cap).run Tryz.prog w = .ok (.func fn first cap) w := fun _ _ _ _ => rfl
  have BA := Lib.hid (show Below w.heap.size w (w.alloc (.cells #[.int .i64 x] 3)) from (Below.refl w.heap.size w).alloc (Nat.le_refl _) _)
  have d1 : (w.alloc (.cells #[.int .i64 x] 3)).cell? ⟨bn, 0, none⟩ = some (.slice AN N.length cN) := (BA.out.cell (p := ⟨bn, 0, none⟩) (World.block_lt_of_cell? w _ h1)).trans h1
  have d2 : (w.alloc (.cells #[.int .i64 x] 3)).cell? ⟨bs, 0, none⟩ = some (.pointer (some ⟨S, 0, none⟩)) := (BA.out.cell (p := ⟨bs, 0, none⟩) (World.block_lt_of_cell? w _ h2)).trans h2
  have d3 : (w.alloc (.cells #[.int .i64 x] 3)).cell? ⟨w.heap.size, 0, none⟩ = some (.int .i64 x) := (Blk.new w 3 #[.int .i64 x]).cell 0
  have HCO := Lib.hid (contains_any AN cN N (w.alloc (.cells #[.int .i64 x] 3)) bs w.heap.size (askB m x) (hr.below BA.out) (by omega) hc1 hc2 (fun W' hb node =>
    clo2_any ((h.below BA.out).below hb) bs w.heap.size x node ((hb.cell (p := ⟨bs, 0, none⟩) (World.block_lt_of_cell? _ _ d2)).trans d2) ((hb.cell (p := ⟨w.heap.size, 0, none⟩) (World.block_lt_of_cell? _ _ d3)).trans d3)))
  obtain ⟨r, hr2⟩ : ∃ r, r = N.any (askB m x) := ⟨_, rfl⟩
  rw [← hr2] at HCO ⊢
  obtain ⟨nn, hnn⟩ : ∃ nn, nn = N.length := ⟨_, rfl⟩
  rw [← hnn] at HCO d1
  clear h h1 h2 hr hr2 hnn d2 d3
  go_enter Tryz.func89, Tryz.ntmps89
  go_wp2_with fail
  refine HCO.out.mono ?_
  rintro o w1 ⟨rfl, hb⟩
  have HB := Lib.hid (BA.out.trans (hb.mono BA.out.size))
  clear hb
  go_wp2_with fail
  go_ret
  exact ⟨rfl, HB.out⟩
end Go.Proofs.YtoaboklckkcjcaaGreat.eliJ
/- Layer 23: slices.DeleteFunc over a row of the call's own; Without. -/
namespace Go.Proofs.YtoaboklckkcjcaaGreat.eliK
open Go.ChangeShapes Go.WideShapes Go.ChangeAt Go.RowKit
open Go.Proofs.YtoaboklckkcjcaaGreat.base Go.Proofs.YtoaboklckkcjcaaGreat.dfA Go.Proofs.YtoaboklckkcjcaaGreat.treB Go.Proofs.YtoaboklckkcjcaaGreat.treD Go.Proofs.YtoaboklckkcjcaaGreat.treH Go.Proofs.YtoaboklckkcjcaaGreat.treM Go.Proofs.YtoaboklckkcjcaaGreat.treW Go.Proofs.YtoaboklckkcjcaaGreat.treP Go.Proofs.YtoaboklckkcjcaaGreat.eliW Go.Proofs.YtoaboklckkcjcaaGreat.eliA Go.Proofs.YtoaboklckkcjcaaGreat.eliB Go.Proofs.YtoaboklckkcjcaaGreat.eliC Go.Proofs.YtoaboklckkcjcaaGreat.eliJ
set_option linter.unusedVariables false

/-- What stays of the first i. -/
def stay (p : Int → Bool) (l : List Int) (i : Nat) : List Int := (l.take i).filter fun x => !p x
theorem stay_next {p : Int → Bool} {l : List Int} {i : Nat} (hi : i < l.length) : stay p l (i + 1) = stay p l i ++ (if p l[i] = true then [] else [l[i]]) := by
  unfold stay
  rw [List.take_succ_eq_append_getElem hi, List.filter_append]
  congr 1
  cases h : p l[i] <;> simp [h]
theorem stay_len (p : Int → Bool) (l : List Int) (i : Nat) : (stay p l i).length ≤ i := by
  unfold stay
  exact Nat.le_trans (List.length_filter_le _ _) (by rw [List.length_take]; omega)
theorem stay_all {p : Int → Bool} {l : List Int} {i : Nat} (h : ∀ q, ∀ hq : q < l.length, q < i → p l[q] = false) : i ≤ l.length → stay p l i = l.take i := by
  intro hi
  unfold stay
  rw [List.filter_eq_self]
  intro x hx
  obtain ⟨q, hq, rfl⟩ := List.mem_iff_getElem.mp hx
  rw [List.length_take] at hq
  rw [List.getElem_take, h q (by omega) (by omega)]
  rfl
/-- The row as it is rewritten: those that stay ahead, and what was not looked at behind. -/
structure Dl (B : Nat) (w0 : World) (g : Nat) (p : Int → Bool) (l : List Int) (i : Nat) (w : World) : Prop where
  row : ∃ cs, Blk w g 3 cs ∧ l.length ≤ cs.size ∧ (∀ (j : Nat) (x : Int), (stay p l i)[j]? = some x → cs[j]? = some (.int .i64 x)) ∧ (∀ j, i ≤ j → ∀ hj : j < l.length, cs[j]? = some (.int .i64 l[j]))
  bel : Below B w0 w
  hB : B ≤ g
theorem Dl.below {B : Nat} {w0 w w' : World} {g : Nat} {p : Int → Bool} {l : List Int} {i : Nat} (h : Dl B w0 g p l i w) (hb : Below w.heap.size w w') (hs : B ≤ w.heap.size) : Dl B w0 g p l i w' := by
  obtain ⟨cs, h1, h2⟩ := h.row
  exact ⟨⟨cs, h1.below hb h1.lt, h2⟩, h.bel.trans (hb.mono hs), h.hB⟩
theorem Dl.drop {B : Nat} {w0 w : World} {g : Nat} {p : Int → Bool} {l : List Int} {i : Nat} (h : Dl B w0 g p l i w) (hi : i < l.length) (hp : p l[i] = true) : Dl B w0 g p l (i + 1) w := by
  obtain ⟨cs, h1, h2, h3, h4⟩ := h.row
  refine ⟨⟨cs, h1, h2, fun j x hx => h3 j x ?_, fun j hj => h4 j (by omega)⟩, h.bel, h.hB⟩
  rwa [stay_next hi, if_pos hp, List.append_nil] at hx
theorem Dl.keep {B : Nat} {w0 w : World} {g : Nat} {p : Int → Bool} {l : List Int} {i : Nat} (h : Dl B w0 g p l i w) (hi : i < l.length) (hp : p l[i] = false) : Dl B w0 g p l (i + 1) (w.setCell ⟨g, (stay p l i).length, none⟩ (.int .i64 l[i])) := by
  obtain ⟨cs, h1, h2, h3, h4⟩ := h.row
  have hle := stay_len p l i
  refine ⟨⟨_, h1.set_ _ _, by rw [Array.size_setIfInBounds]; exact h2, fun j x hx => ?_, fun j hj hj2 => ?_⟩, h.bel.setCell (p := ⟨g, (stay p l i).length, none⟩) h.hB _, h.hB⟩
  · rw [stay_next hi, hp, if_neg (by decide)] at hx
    by_cases e : j = (stay p l i).length
    · subst e
      rw [List.getElem?_append_right (Nat.le_refl _), Nat.sub_self] at hx
      simp at hx
      subst hx
      rw [Array.getElem?_setIfInBounds_self_of_lt (by omega)]
    · have hj : j < (stay p l i).length := by
        have := (List.getElem?_eq_some_iff.mp hx).1
        rw [List.length_append, List.length_singleton] at this
        omega
      rw [List.getElem?_append_left hj] at hx
      rw [Array.getElem?_setIfInBounds_ne (fun he => e he.symm)]
      exact h3 j x hx
  · rw [Array.getElem?_setIfInBounds_ne (by omega)]
    exact h4 j (by omega) hj2
theorem below_cells {B : Nat} {a : World} (g : Nat) (hg : B ≤ g) : ∀ (vs : List Value) (o : Nat) (w : World), Below B a w → Below B a (w.setCells g o vs) := by
  intro vs
  induction vs with
  | nil => intro o w h; exact h
  | cons v vs ih =>
    intro o w h
    rw [World.setCells]
    exact ih (o + 1) _ (h.setCell (p := ⟨g, o, none⟩) hg v)
theorem size_cells (g : Nat) : ∀ (vs : List Value) (o : Nat) (w : World), (w.setCells g o vs).heap.size = w.heap.size := by
  intro vs
  induction vs with
  | nil => intro o w; rfl
  | cons v vs ih => intro o w; rw [World.setCells, ih, set_size]
set_option maxRecDepth 100000 in
set_option maxHeartbeats 16000000 in
theorem delete_any (B g cap : Nat) (l : List Int) (w : World) (b1 b2 : Nat) (p : Int → Bool) (ho : OwnI w B (.slice (some ⟨g, 0, none⟩) l.length cap) l) (hB : B ≤ w.heap.size) (hl : l.length ≤ 1000)
    (hc : ∀ W, Below B w W → ∀ x : Int, Calls Tryz.prog 89 #[.int .i64 x, .pointer (some ⟨b1, 0, none⟩), .pointer (some ⟨b2, 0, none⟩)] W fun o w' => o = .returned (.bool (p x)) ∧ Below W.heap.size W w') :
    Calls Tryz.prog 88 #[.slice (some ⟨g, 0, none⟩) l.length cap, .func (.func 89) #[] #[.pointer (some ⟨b1, 0, none⟩), .pointer (some ⟨b2, 0, none⟩)]] w fun o w' => ∃ v, o = .returned v ∧ ReadI w' v (l.filter fun x => !p x) ∧ Below B w w' ∧ w.heap.size ≤ w'.heap.size := by
  obtain ⟨A0, c0, hv, hc1, hc2, hrd⟩ := read_own ho
  injection hv with e1 e2 e3
  subst e1 e3
  have HI := Lib.hid (idx1_any _ cap l w b1 b2 p hrd hl hc1 hc2 (fun W hb => hc W (hb.mono hB)))
  have HC := Lib.hid hc
  have HRD := Lib.hid hrd
  have D0 := Lib.hid (show Dl B w g p l 0 w from by
    rcases ho.2 with ⟨h0, _⟩ | ⟨g', cap', cur, h1, h2, h3, h4, h5, h6, h7⟩
    · cases h0
    · have hg : g = g' ∧ cap = cap' := by simpa using h1
      obtain ⟨rfl, rfl⟩ := hg
      refine ⟨⟨cur, h3, by omega, fun j x hx => by unfold stay at hx; simp at hx, fun j _ hj => ?_⟩, Below.refl _ _, h2⟩
      have hx := ho.cellAt j (by simpa using hj)
      rw [List.getElem?_map, List.getElem?_eq_getElem hj] at hx
      have hb : Blk w g 3 cur := h3
      rw [hb.cell j] at hx
      exact hx)
  have HO := Lib.hid ho
  clear hc hrd ho e2
  obtain ⟨n, hn⟩ : ∃ n, n = l.length := ⟨_, rfl⟩
  have HN := Lib.hid hn
  rw [← hn] at hl hc1 HI ⊢
  clear hn
  go_enter Tryz.func88, Tryz.ntmps88
  go_wp2_with fail
  refine HI.out.mono ?_
  rintro o w1 ⟨at', rfl, hf, hb⟩
  have B1 := Lib.hid hb
  rcases hf with ⟨rfl, hall⟩ | ⟨j0, hj0, rfl, hp0, hpre⟩
  · have HX := Lib.hid (show l.filter (fun x => !p x) = l from by rw [List.filter_eq_self]; intro x hx; rw [hall x hx]; rfl)
    clear hall hb
    go_wp2_with fail
    go_ret
    exact ⟨_, rfl, by rw [HX.out, HN.out]; exact ⟨_, cap, rfl, by rw [← HN.out]; exact hc1, hc2, HRD.out.below B1.out⟩, B1.out.mono hB, B1.out.size⟩
  · have hj0n : j0 < n := by rw [HN.out]; exact hj0
    have HSA := Lib.hid (show stay p l (j0 + 1) = l.take j0 from by
      rw [stay_next hj0, if_pos hp0, List.append_nil]
      exact stay_all (fun q hq hq2 => hpre q hq2) (by omega))
    have D1 := Lib.hid (show Dl B w g p l (j0 + 1) w1 from by
      have h0 := D0.out.below hb hB
      obtain ⟨cs, h1, h2, h3, h4⟩ := h0.row
      refine ⟨⟨cs, h1, h2, fun j x hx => ?_, fun j hj => h4 j (by omega)⟩, h0.bel, h0.hB⟩
      rw [HSA.out] at hx
      have hj : j < l.length := by have := (List.getElem?_eq_some_iff.mp hx).1; rw [List.length_take] at this; omega
      rw [h4 j (Nat.zero_le _) hj]
      rw [List.getElem?_take_of_lt (by have := (List.getElem?_eq_some_iff.mp hx).1; rw [List.length_take] at this; omega), List.getElem?_eq_getElem hj] at hx
      injection hx with hx
      rw [hx])
    have HS0 := Lib.hid (show (stay p l (j0 + 1)).length = j0 by rw [HSA.out, List.length_take]; omega)
    have Z1 := Lib.hid (show w.heap.size ≤ w1.heap.size from hb.size)
    clear hb hp0 hpre hj0
    go_wp2_with fail
    go_loopw [5, 6] (fun kv iv wr => ∃ i : Nat, iv = .int .i64 i ∧ i ≤ n ∧ kv = .int .i64 (stay p l i).length ∧ (stay p l i).length < i ∧ Hid (Dl B w g p l i wr) ∧ Hid (w.heap.size ≤ wr.heap.size)) (fun _ iv _ => n - (intOf iv).toNat)
    case atStart => exact ⟨j0 + 1, by go_num, by omega, by rw [HS0.out], by rw [HS0.out]; omega, D1, Z1⟩
    case round =>
      obtain ⟨i, rfl, hi, rfl, hki, KD, KZ⟩ := hrel
      by_cases hin : i < n
      · have t1 : decide ((i : Int) < n) = true := decide_eq_true (by omega)
        have hil : i < l.length := HN.out ▸ hin
        have HNX := Lib.hid (stay_next (p := p) hil)
        have d0 : wr.cell? ⟨g, i, none⟩ = some (.int .i64 l[i]) := by
          obtain ⟨cs, h1, h2, h3, h4⟩ := KD.out.row
          rw [h1.cell i]; exact h4 i (Nat.le_refl _) hil
        have HCX := Lib.hid (HC.out wr KD.out.bel l[i])
        have HKP := Lib.hid (fun (W : World) (hb : Below wr.heap.size wr W) (h : p l[i] = false) => (KD.out.below hb (Nat.le_trans hB KZ.out)).keep hil h)
        have HDP := Lib.hid (fun (W : World) (hb : Below wr.heap.size wr W) (h : p l[i] = true) => (KD.out.below hb (Nat.le_trans hB KZ.out)).drop hil h)
        have HRW := Lib.hid (fun (W : World) (hb : Below wr.heap.size wr W) => (KD.out.below hb (Nat.le_trans hB KZ.out)).row)
        obtain ⟨x, hx⟩ : ∃ x, x = l[i] := ⟨_, rfl⟩
        rw [← hx] at d0 HCX HKP HDP HNX
        obtain ⟨z, hz⟩ : ∃ z, z = p x := ⟨_, rfl⟩
        rw [← hz] at HCX HKP HDP HNX
        obtain ⟨k, hk⟩ : ∃ k, k = (stay p l i).length := ⟨_, rfl⟩
        have HK := Lib.hid hk
        rw [← hk] at HKP hki ⊢
        have j0' : (0 : Int) ≤ i := by omega
        have j1 : (i : Int) < n := by omega
        have j2 : (0 : Int) ≤ k := by omega
        have j3 : (k : Int) < n := by omega
        clear hx hz hk
        go_wp2_with fail
        refine HCX.out.mono ?_
        rintro o w3 ⟨rfl, hb⟩
        have B3 := Lib.hid hb
        have Z3 := Lib.hid (Nat.le_trans KZ.out hb.size)
        cases z with
        | true =>
          have D3 := Lib.hid (HDP.out w3 hb rfl)
          rw [if_pos rfl, List.append_nil] at HNX
          clear hb
          go_wp2_with fail
          go_roundw
          case rel => first | exact ⟨i + 1, by go_num, by omega, by rw [HNX.out, HK.out], by rw [HNX.out, ← HK.out]; omega, D3, Z3⟩ | ((repeat apply Exists.intro); exact ⟨⟨i + 1, by go_num, by omega, by rw [HNX.out, HK.out], by rw [HNX.out, ← HK.out]; omega, D3, Z3⟩, rfl⟩)
          case measure => simp [intOf]; omega
        | false =>
          have D3 := Lib.hid (HKP.out w3 hb rfl)
          rw [if_neg (by decide)] at HNX
          obtain ⟨cs, q1, q2, q3, q4⟩ := HRW.out w3 hb
          have c1 : (w3.cell? ⟨g, k, none⟩).isSome = true := by
            rw [q1.cell k, Array.getElem?_eq_getElem (by have := HN.out; omega)]; rfl
          obtain ⟨cv, c2⟩ := Option.isSome_iff_exists.mp c1
          have c3 : w3.frozen? ⟨g, k, none⟩ = false := q1.frozen k
          have HLL := Lib.hid (show ((stay p l (i + 1)).length : Int) = (k : Int) + 1 by rw [HNX.out, List.length_append, List.length_singleton, ← HK.out]; omega)
          have HLM := Lib.hid (show (stay p l (i + 1)).length = k + 1 by rw [HNX.out, List.length_append, List.length_singleton, ← HK.out])
          clear hb q1 q2 q3 q4 c1
          go_wp2_with fail
          go_roundw
          case rel => first | exact ⟨i + 1, by go_num, by omega, by rw [HLL.out], by rw [HLM.out]; omega, D3, Lib.hid (by rw [set_size]; exact Z3.out)⟩ | ((repeat apply Exists.intro); exact ⟨⟨i + 1, by go_num, by omega, by rw [HLL.out], by rw [HLM.out]; omega, D3, Lib.hid (by rw [set_size]; exact Z3.out)⟩, rfl⟩)
          case measure => simp [intOf]; omega
      · have t1 : decide ((i : Int) < n) = false := decide_eq_false (by omega)
        obtain rfl : n = i := by omega
        have HST := Lib.hid (show stay p l n = l.filter (fun x => !p x) from by unfold stay; rw [HN.out, List.take_length])
        obtain ⟨k, hk⟩ : ∃ k, k = (stay p l n).length := ⟨_, rfl⟩
        have HK := Lib.hid hk
        rw [← hk] at hki ⊢
        have hcl : ∀ ty, (Builtin.clear_ #[23] ty #[.slice (some ⟨g, k, none⟩) (n - k) (cap - k)]).run Tryz.prog wr = .ok (.tuple #[]) (wr.setCells g k (List.replicate (n - k) (.int .i64 0))) := fun ty => by
          obtain ⟨cs, q1, q2, q3, q4⟩ := KD.out.row
          exact Lib.run_clear_slice wr _ 3 ty (.int .i64 0) Tryz.underlying23 Tryz.zeroValue3 rfl rfl g k (n - k) (cap - k) (by omega) (fun j hj => by rw [q1.cell, Array.getElem?_eq_getElem (by have := HN.out; omega)]; rfl) (fun j hj => q1.frozen _)
        have j2 : (0 : Int) ≤ k := by omega
        have j3 : (k : Int) ≤ n := by omega
        have j4 : (k : Int) ≤ cap := by omega
        have j5 : k ≤ cap := by omega
        have j6 : k ≤ n := by omega
        clear hk
        go_wp2_with fail
        go_ret
        refine ⟨_, rfl, ?_, below_cells g KD.out.hB _ _ _ KD.out.bel, by rw [size_cells]; exact KZ.out⟩
        rw [← HST.out]
        refine ⟨some ⟨g, 0, none⟩, cap, by rw [← HK.out] <;> rfl, by rw [← HK.out]; omega, hc2, .inr ⟨g, 0, rfl, ?_, fun j x hx => ?_⟩⟩
        · rw [size_cells]
          obtain ⟨cs, q1, _⟩ := KD.out.row
          exact q1.lt
        · have hj : j < k := by rw [HK.out]; exact (List.getElem?_eq_some_iff.mp hx).1
          obtain ⟨cs, q1, q2, q3, q4⟩ := KD.out.row
          rw [World.cell?_setCells_out g _ k wr ⟨g, 0 + j, none⟩ (fun _ _ => Or.inl (by show 0 + j < k; omega)), Nat.zero_add, q1.cell j]
          exact q3 j x hx
theorem del_nil (fv : Value) (w : World) : Calls Tryz.prog 88 #[.slice none 0 0, fv] w fun o w' => o = .returned (.slice none 0 0) ∧ w' = w := by
  have HI : Calls Tryz.prog 84 #[.slice none 0 0, fv] w fun o w' => o = .returned (.int .i64 (-1)) ∧ w' = w := by
    go_enter Tryz.func84, Tryz.ntmps84
    go_wp2_with fail
    go_loopw [8] (fun i wr => i = .int .i64 0 ∧ wr = w) (fun _ _ => 0)
    case atStart => exact ⟨rfl, rfl⟩
    case round =>
      obtain ⟨rfl, rfl⟩ := hrel
      go_wp2_with fail
      go_ret
      exact ⟨rfl, rfl⟩
  have HI := Lib.hid HI
  go_enter Tryz.func88, Tryz.ntmps88
  go_wp2_with fail
  refine HI.out.mono ?_
  rintro o w1 ⟨rfl, rfl⟩
  go_wp2_with fail
  go_ret
  exact ⟨rfl, rfl⟩
/-- The hosts that stay without those below nodes N. -/
def wout (m : List Nd) (W : Nat → Int) (N : List Int) : List Int := (domL m W 4 m.length).filter fun x => !(N.any (askB m x))
theorem del_own {w0 wA : World} {v : Value} {m : List Nd} {W : Nat → Int} {N : List Int} {b1 b2 : Nat} (ho : OwnI wA w0.heap.size v (domL m W 4 m.length)) (hb : Below w0.heap.size w0 wA)
    (hc : ∀ W', Below w0.heap.size w0 W' → ∀ x : Int, Calls Tryz.prog 89 #[.int .i64 x, .pointer (some ⟨b1, 0, none⟩), .pointer (some ⟨b2, 0, none⟩)] W' fun o w' => o = .returned (.bool (N.any (askB m x))) ∧ Below W'.heap.size W' w') (hl : (domL m W 4 m.length).length ≤ 1000) :
    Calls Tryz.prog 88 #[v, .func (.func 89) #[] #[.pointer (some ⟨b1, 0, none⟩), .pointer (some ⟨b2, 0, none⟩)]] wA fun o w' => ∃ v', o = .returned v' ∧ ReadI w' v' (wout m W N) ∧ Below w0.heap.size w0 w' := by
  have h0 := ho
  unfold OwnI at h0
  rcases h0.2 with ⟨e1, e2⟩ | ⟨g, cap, cur, e1, e2, e3, e4, e5, e6, e7⟩
  · have hz : domL m W 4 m.length = [] := List.eq_nil_of_length_eq_zero e2
    subst e1
    refine (del_nil _ wA).mono ?_
    rintro o w' ⟨rfl, rfl⟩
    exact ⟨_, rfl, by unfold wout; rw [hz]; exact ReadI.nil _, hb⟩
  · subst e1
    refine (delete_any w0.heap.size g cap (domL m W 4 m.length) wA b1 b2 (fun x => N.any (askB m x)) ho hb.size hl (fun W' hb' => hc W' (hb.trans hb'))).mono ?_
    rintro o w' ⟨v, rfl, hv, hb2, _⟩
    exact ⟨v, rfl, hv, hb.trans hb2⟩
set_option maxRecDepth 100000 in
set_option maxHeartbeats 16000000 in
theorem without_any {w : World} {S T g : Nat} {m : List Nd} {W : Nat → Int} (h : SetOk w S T g m W) (hm60 : m.length ≤ 60) (AN : Option Addr) (cN : Nat) (N : List Int) (hr : RdI w AN N) (hN : N.length ≤ 30) (hc1 : N.length ≤ cN) (hc2 : cN ≤ 9223372036854775807) :
    Calls Tryz.prog 61 #[.pointer (some ⟨S, 0, none⟩), .slice AN N.length cN] w fun o w' => ∃ g2, o = .returned (.pointer (some ⟨g2 + 1, 0, none⟩)) ∧ SetOk w' (g2 + 1) T g2 m (F m (wout m W N)) ∧ Below w.heap.size w w' := by
  have hmf : ∀ (fn : Fn) (first cap : Array Value) (w : World), (Instr.makeFunc fn first cap).run Tryz.prog w = .ok (.func fn first cap) w := fun _ _ _ _ => rfl
  obtain ⟨nn, hnn⟩ : ∃ nn, nn = N.length := ⟨_, rfl⟩
  have HNN := Lib.hid hnn
  obtain ⟨w1, hw1⟩ : ∃ w1, w1 = (w.alloc (.cells #[.pointer (some ⟨S, 0, none⟩)] 29)).alloc (.cells #[.slice AN nn cN] 23) := ⟨_, rfl⟩
  have BA := Lib.hid (show Below w.heap.size w w1 from hw1 ▸ ((Below.refl w.heap.size w).alloc (Nat.le_refl _) _).alloc (by simp) _)
  have HW1 := Lib.hid (show (w.alloc (.cells #[.pointer (some ⟨S, 0, none⟩)] 29)).alloc (.cells #[.slice AN nn cN] 23) = w1 from hw1.symm)
  have K1 := Lib.hid (show Blk w1 w.heap.size 29 #[.pointer (some ⟨S, 0, none⟩)] from hw1 ▸ (Blk.new w _ _).alloc _)
  have K2 := Lib.hid (show Blk w1 (w.heap.size + 1) 23 #[.slice AN nn cN] from by
    have := Blk.new (w.alloc (.cells #[.pointer (some ⟨S, 0, none⟩)] 29)) 23 #[.slice AN nn cN]
    rw [hw1]
    simpa using this)
  have S1 := Lib.hid (h.below BA.out)
  have HE := Lib.hid (empty_x S1.out)
  have hc0 : ((w.alloc (.cells #[.pointer (some ⟨S, 0, none⟩)] 29)).alloc (.cells #[.slice AN nn cN] 23)).cell? ⟨w.heap.size, 0, none⟩ = some (.pointer (some ⟨S, 0, none⟩)) := by rw [HW1.out]; exact K1.out.cell 0
  have BD := Lib.hid (show Below w1.heap.size w1 w1.drew from (Below.refl _ _).drew)
  have HLI := Lib.hid (list_any (S1.out.below BD.out))
  have HSS := Lib.hid (show ∀ W', Below w1.heap.size w1 W' → (World.cell? W' ⟨w.heap.size, 0, none⟩ = some (.pointer (some ⟨S, 0, none⟩)) ∧ World.cell? W' ⟨S, 0, none⟩ = some (.pointer (some ⟨T, 0, none⟩))) from fun W' hb =>
    ⟨(K1.out.below hb K1.out.lt).cell 0, (S1.out.below hb).set.cell 0⟩)
  have HCL := Lib.hid (show ∀ W', Below w1.heap.size w1 W' → ∀ x : Int, Calls Tryz.prog 89 #[.int .i64 x, .pointer (some ⟨w.heap.size + 1, 0, none⟩), .pointer (some ⟨w.heap.size, 0, none⟩)] W' fun o w' => o = .returned (.bool (N.any (askB m x))) ∧ Below W'.heap.size W' w' from fun W' hb x =>
    clo1_any (S1.out.below hb) (w.heap.size + 1) w.heap.size AN cN N x (by rw [← hnn]; exact (K2.out.below hb K2.out.lt).cell 0) ((K1.out.below hb K1.out.lt).cell 0) ((hr.below BA.out).below hb) hN hc1 hc2)
  have HDL := Lib.hid (domL_len m W 4 m.length)
  have s0 := HSS.out _ BD.out
  rw [← hnn]
  clear h hr hnn hw1
  go_enter Tryz.func61, Tryz.ntmps61
  go_wp2_with fail
  rw [HW1.out]
  refine HE.out.mono ?_
  rintro o w2 ⟨rfl, rfl⟩
  go_wp2_with fail
  go_region_held3 (fun W' => World.cell? W' ⟨w.heap.size, 0, none⟩ = some (.pointer (some ⟨S, 0, none⟩)) ∧ World.cell? W' ⟨S, 0, none⟩ = some (.pointer (some ⟨T, 0, none⟩))) (first | with_reducible assumption)
    (first
      | (go_at_call 23
         (with_reducible refine HLI.out.mono ?_)
         rintro o wA ⟨vA, rfl, ho, hb⟩
         have BB := Lib.hid (BD.out.trans (hb.mono BD.out.size))
         have sA := HSS.out _ BB.out
         have HO := Lib.hid ho
         have HDE := Lib.hid (del_own ho hb (fun W' hb' => HCL.out W' (BD.out.trans hb')) (by have := HDL.out; omega))
         clear ho hb)
      | (go_at_call 88
         (with_reducible refine HDE.out.mono ?_)
         rintro o wB ⟨vB, rfl, hvB, hb⟩
         have BC := Lib.hid (BD.out.trans hb)
         have sB := HSS.out _ BC.out
         obtain ⟨A2, c2, rfl, n1, n2, n3⟩ := hvB
         have HNW := Lib.hid (new_any (S1.out.below BC.out).tree hm60 A2 c2 (wout m W N) n3 (Nat.le_trans (List.length_filter_le _ _) (Nat.le_trans HDL.out (by omega))) n1 n2)
         clear hb n3)
      | (go_at_call 11
         (with_reducible refine HNW.out.mono ?_)
         rintro o wC ⟨rfl, hs, hz⟩
         have BE := Lib.hid (BC.out.trans (hs.bel.mono BC.out.size))
         have sC := HSS.out _ BE.out
         have SX := Lib.hid (setOk_of hs (S1.out.below BC.out).tree)
         clear hs hz))
  all_goals go_wp2_with fail
  all_goals go_ret
  all_goals exact ⟨_, rfl, SX.out, BA.out.trans (BE.out.mono BA.out.size)⟩
end Go.Proofs.YtoaboklckkcjcaaGreat.eliK
/- Layer 23: the law of EligWithout. -/
namespace Go.Proofs.YtoaboklckkcjcaaGreat.eliL
open Go.ChangeShapes Go.WideShapes Go.ChangeAt Go.RowKit
open Go.Proofs.YtoaboklckkcjcaaGreat.base Go.Proofs.YtoaboklckkcjcaaGreat.dfA Go.Proofs.YtoaboklckkcjcaaGreat.treA Go.Proofs.YtoaboklckkcjcaaGreat.treB Go.Proofs.YtoaboklckkcjcaaGreat.treC Go.Proofs.YtoaboklckkcjcaaGreat.treD Go.Proofs.YtoaboklckkcjcaaGreat.treE Go.Proofs.YtoaboklckkcjcaaGreat.treG Go.Proofs.YtoaboklckkcjcaaGreat.treH Go.Proofs.YtoaboklckkcjcaaGreat.treI Go.Proofs.YtoaboklckkcjcaaGreat.treM Go.Proofs.YtoaboklckkcjcaaGreat.treN Go.Proofs.YtoaboklckkcjcaaGreat.treW Go.Proofs.YtoaboklckkcjcaaGreat.treP Go.Proofs.YtoaboklckkcjcaaGreat.eliW Go.Proofs.YtoaboklckkcjcaaGreat.eliA Go.Proofs.YtoaboklckkcjcaaGreat.eliB Go.Proofs.YtoaboklckkcjcaaGreat.eliC Go.Proofs.YtoaboklckkcjcaaGreat.eliD Go.Proofs.YtoaboklckkcjcaaGreat.eliE Go.Proofs.YtoaboklckkcjcaaGreat.eliJ Go.Proofs.YtoaboklckkcjcaaGreat.eliK
set_option linter.unusedVariables false

theorem domL_mem {m : List Nd} {W : Nat → Int} {kind x : Int} : ∀ {n : Nat}, x ∈ domL m W kind n ↔ ∃ j : Nat, x = (j : Int) ∧ j < n ∧ ((ndAt m j).kind == kind && (wtOf m W j != 0)) = true := by
  intro n
  induction n with
  | zero => constructor
            · intro h; cases h
            · rintro ⟨j, _, h, _⟩; omega
  | succ n ih =>
    show x ∈ (if ((ndAt m n).kind == kind && (wtOf m W n != 0)) = true then domL m W kind n ++ [(n : Int)] else domL m W kind n) ↔ _
    by_cases hc : ((ndAt m n).kind == kind && (wtOf m W n != 0)) = true
    · rw [if_pos hc, List.mem_append, ih, List.mem_singleton]
      constructor
      · rintro (⟨j, h1, h2, h3⟩ | h)
        · exact ⟨j, h1, by omega, h3⟩
        · exact ⟨n, h, by omega, hc⟩
      · rintro ⟨j, h1, h2, h3⟩
        by_cases e : j = n
        · subst e; exact .inr h1
        · exact .inl ⟨j, h1, by omega, h3⟩
    · rw [if_neg hc, ih]
      constructor
      · rintro ⟨j, h1, h2, h3⟩; exact ⟨j, h1, by omega, h3⟩
      · rintro ⟨j, h1, h2, h3⟩
        by_cases e : j = n
        · subst e; exact absurd h3 hc
        · exact ⟨j, h1, by omega, h3⟩
/-- The hosts of the set without are those that stay. -/
theorem dom_out {m : List Nd} (hf : Fine m) (H N : List Int) : ∀ j, j ≤ m.length → domL m (F m (wout m (F m H) N)) 4 j = (domL m (F m H) 4 j).filter fun x => !(N.any (askB m x)) := by
  intro j
  induction j with
  | zero => intro _; rfl
  | succ j ih =>
    intro hj
    have hjm : j < m.length := by omega
    show (if ((ndAt m j).kind == 4 && (wtOf m (F m (wout m (F m H) N)) j != 0)) = true then domL m (F m (wout m (F m H) N)) 4 j ++ [(j : Int)] else domL m (F m (wout m (F m H) N)) 4 j) = (if ((ndAt m j).kind == 4 && (wtOf m (F m H) j != 0)) = true then domL m (F m H) 4 j ++ [(j : Int)] else domL m (F m H) 4 j).filter _
    rw [wt_in hjm, wt_in hjm, F_pk hf _ hjm, F_pk hf _ hjm, ih (by omega)]
    have key : pkB m (wout m (F m H) N) j = (pkB m H j && !(N.any (askB m (j : Int)))) := by
      cases hp : pkB m H j with
      | false =>
        rw [Bool.false_and]
        cases hq : pkB m (wout m (F m H) N) j with
        | false => rfl
        | true =>
          have h1 := (pkB_parts hq).2.2
          rw [List.contains_iff_mem] at h1
          unfold wout at h1
          rw [List.mem_filter, domL_mem] at h1
          obtain ⟨⟨i, e, hi, hc⟩, _⟩ := h1
          have : i = j := by omega
          subst this
          rw [wt_in hi, F_pk hf _ hi, hp] at hc
          cases hc
      | true =>
        rw [Bool.true_and]
        obtain ⟨h4, hw, _⟩ := pkB_parts hp
        have hk4 : ((ndAt m j).kind == 4) = true := by simp [h4]
        have hwz : ((ndAt m j).wt == 0) = false := beq_false_of_ne hw
        unfold pkB
        rw [hk4, hwz]
        have hmem : (j : Int) ∈ domL m (F m H) 4 m.length := domL_mem.mpr ⟨j, rfl, hjm, by rw [wt_in hjm, F_pk hf _ hjm]; exact hp⟩
        cases hn : N.any (askB m (j : Int)) with
        | false =>
          have : (wout m (F m H) N).contains (j : Int) = true := by
            rw [List.contains_iff_mem]; unfold wout
            exact List.mem_filter.mpr ⟨hmem, by rw [hn]; rfl⟩
          rw [this]; rfl
        | true =>
          have : (wout m (F m H) N).contains (j : Int) = false := by
            cases hc : (wout m (F m H) N).contains (j : Int) with
            | false => rfl
            | true =>
              rw [List.contains_iff_mem] at hc
              unfold wout at hc
              have := (List.mem_filter.mp hc).2
              rw [hn] at this
              cases this
          rw [this]; rfl
    rw [key]
    cases pkB m H j with
    | false => rw [Bool.false_and, if_neg (by decide), if_neg (by decide)]
    | true =>
      rw [Bool.true_and, if_pos rfl, List.filter_append]
      cases hn : N.any (askB m (j : Int)) with
      | false => rw [if_pos (by decide)]; simp [hn]
      | true => rw [if_neg (by decide)]; simp [hn]
theorem ask_is {m : List Nd} (hf : Fine m) {x : Nat} (hx : x < m.length) (node : Int) : askB m (x : Int) node = (isB node m.length && belU m x node.toNat) := by
  unfold askB
  cases hb : isB node m.length with
  | true =>
    obtain ⟨a, rfl, ha⟩ := isB_of hb
    rw [decide_eq_true (by omega), Int.toNat_natCast]
    rfl
  | false =>
    rw [Bool.false_and]
    by_cases h0 : 0 ≤ node
    · rw [decide_eq_true h0, Bool.true_and, ndAt_none hb]
      have hz : zNd.kind = 0 := rfl
      rw [hz]
      apply beq_false_of_ne
      intro he
      obtain ⟨a, rfl⟩ : ∃ a : Nat, node = (a : Int) := ⟨node.toNat, by omega⟩
      obtain ⟨h1, h2⟩ := up_kind hf 0 (x + 1) x a (by omega) hx he
      rw [isB_nat h1] at hb
      cases hb
    · rw [decide_eq_false h0, Bool.false_and]
theorem stay_pre (p : Int → Bool) (l : List Int) : ∀ n k, k ≤ n → n ≤ l.length → ∃ r, stay p l n = stay p l k ++ r := by
  intro n
  induction n with
  | zero => intro k hk _; have : k = 0 := by omega
            subst this; exact ⟨[], by simp⟩
  | succ n ih =>
    intro k hk hn
    by_cases e : k = n + 1
    · subst e; exact ⟨[], by simp⟩
    · obtain ⟨r, hr⟩ := ih k (by omega) (by omega)
      rw [stay_next (show n < l.length by omega), hr, List.append_assoc]
      exact ⟨_, rfl⟩
theorem stay_hit {p : Int → Bool} {l : List Int} {k : Nat} (hk : k < l.length) (h : p l[k] = false) : (stay p l k).length < (stay p l l.length).length ∧ (stay p l l.length)[(stay p l k).length]? = some l[k] := by
  obtain ⟨r, hr⟩ := stay_pre p l l.length (k + 1) (by omega) (Nat.le_refl _)
  rw [hr, stay_next hk, h, if_neg (by decide)]
  constructor
  · rw [List.length_append, List.length_append, List.length_singleton]; omega
  · rw [List.getElem?_append_left (by rw [List.length_append, List.length_singleton]; omega), List.getElem?_append_right (Nat.le_refl _), Nat.sub_self]; rfl
theorem any_next (p : Int → Bool) {N : List Int} {k : Nat} (hk : k < N.length) : (N.take (k + 1)).any p = ((N.take k).any p || p N[k]) := by
  rw [List.take_succ_eq_append_getElem hk, List.any_append]
  simp
end Go.Proofs.YtoaboklckkcjcaaGreat.eliL
/- Layer 26: copies, in plain words. -/
namespace Go.Proofs.YtoaboklckkcjcaaGreat.walkZa
open Go.ChangeShapes Go.WideShapes Go.ChangeAt Go.RowKit
open Go.Proofs.YtoaboklckkcjcaaGreat.base Go.Proofs.YtoaboklckkcjcaaGreat.dfA Go.Proofs.YtoaboklckkcjcaaGreat.treB Go.Proofs.YtoaboklckkcjcaaGreat.treD Go.Proofs.YtoaboklckkcjcaaGreat.treG Go.Proofs.YtoaboklckkcjcaaGreat.treH Go.Proofs.YtoaboklckkcjcaaGreat.treM Go.Proofs.YtoaboklckkcjcaaGreat.treW Go.Proofs.YtoaboklckkcjcaaGreat.eliW Go.Proofs.YtoaboklckkcjcaaGreat.eliB Go.Proofs.YtoaboklckkcjcaaGreat.eliJ Go.Proofs.YtoaboklckkcjcaaGreat.eliK Go.Proofs.YtoaboklckkcjcaaGreat.eliL Go.Proofs.YtoaboklckkcjcaaGreat.walkA Go.Proofs.YtoaboklckkcjcaaGreat.walkE Go.Proofs.YtoaboklckkcjcaaGreat.walkM
set_option linter.unusedVariables false

theorem Fz_congr {m : List Nd} {H1 H2 : List Int} (e : ∀ j, pkB m H1 j = pkB m H2 j) : ∀ f i, Fz m H1 f i = Fz m H2 f i
  | 0, _ => rfl
  | f + 1, i => by
    have hs : sumF (fun k => if (ndAt m k).ab = (i : Int) then Fz m H1 f k else 0) m.length = sumF (fun k => if (ndAt m k).ab = (i : Int) then Fz m H2 f k else 0) m.length := sumF_congr _ fun q _ => by rw [Fz_congr e f q]
    unfold Fz hw0
    rw [hs, e]
theorem F_congr {m : List Nd} {H1 H2 : List Int} (e : ∀ j, pkB m H1 j = pkB m H2 j) : F m H1 = F m H2 := funext fun i => Fz_congr e 4 i
theorem mem_dom {m : List Nd} {H : List Int} {kind : Int} {j : Nat} : (j : Int) ∈ domL m (F m H) kind m.length ↔ j < m.length ∧ (ndAt m j).kind = kind ∧ F m H j ≠ 0 := by
  rw [domL_mem]
  constructor
  · rintro ⟨i, e, hi, hc⟩
    have : i = j := by omega
    subst this
    rw [Bool.and_eq_true, beq_iff_eq, bne_iff_ne, wt_nat hi] at hc
    exact ⟨hi, hc.1, hc.2⟩
  · rintro ⟨h1, h2, h3⟩
    exact ⟨j, rfl, h1, by rw [Bool.and_eq_true, beq_iff_eq, bne_iff_ne, wt_nat h1]; exact ⟨h2, h3⟩⟩
theorem mem_dom2 {m : List Nd} {H : List Int} {kind x : Int} (h : x ∈ domL m (F m H) kind m.length) : ∃ j : Nat, x = (j : Int) ∧ j < m.length ∧ (ndAt m j).kind = kind ∧ F m H j ≠ 0 := by
  obtain ⟨j, e, _, _⟩ := domL_mem.mp h
  subst e
  exact ⟨j, rfl, mem_dom.mp h⟩
theorem pk_dom {m : List Nd} (hf : Fine m) {H : List Int} {j : Nat} (hj : j < m.length) : pkB m H j = true ↔ (j : Int) ∈ domL m (F m H) 4 m.length := by
  rw [mem_dom]
  constructor
  · intro h
    have h4 := (pkB_parts h).1
    refine ⟨hj, h4, ?_⟩
    rw [F_eq hf H hj, if_pos h4]
    unfold hw0
    rw [if_pos h]
    exact (pkB_parts h).2.1
  · rintro ⟨_, h4, hz⟩
    rw [F_eq hf H hj, if_pos h4] at hz
    unfold hw0 at hz
    cases hp : pkB m H j with
    | true => rfl
    | false => rw [hp, if_neg (by decide)] at hz; exact absurd rfl hz
/-- Without no nodes all is as it is. -/
theorem wout_nil {m : List Nd} (hf : Fine m) (H : List Int) : F m (wout m (F m H) []) = F m H := by
  refine F_congr fun j => ?_
  by_cases hj : j < m.length
  · have hd := dom_out hf H [] m.length (Nat.le_refl _)
    have hd2 : domL m (F m (wout m (F m H) [])) 4 m.length = domL m (F m H) 4 m.length := by rw [hd]; simp
    rw [Bool.eq_iff_iff, pk_dom hf hj, pk_dom hf hj, hd2]
  · have hz : ndAt m (j : Int) = zNd := ndAt_none (by unfold isB; simp only [Bool.and_eq_false_iff, decide_eq_false_iff_not]; omega)
    unfold pkB
    rw [hz]
    rfl
theorem domL_sorted (m : List Nd) (W : Nat → Int) (kind : Int) : ∀ n, (domL m W kind n).Pairwise (· < ·)
  | 0 => List.Pairwise.nil
  | n + 1 => by
    unfold domL
    split
    · refine List.pairwise_append.mpr ⟨domL_sorted m W kind n, List.pairwise_singleton _ _, fun x hx y hy => ?_⟩
      obtain ⟨j, e, hj, _⟩ := domL_mem.mp hx
      rw [List.mem_singleton.mp hy]
      omega
    · exact domL_sorted m W kind n
theorem domL_nodup (m : List Nd) (W : Nat → Int) (kind : Int) (n : Nat) : (domL m W kind n).Nodup := (domL_sorted m W kind n).imp fun h => by omega
/-- Copies so far: hosts and the nodes above them. -/
structure CpI (m : List Nd) (H : List Int) (kind : Int) (hs ns : List Int) : Prop where
  len : hs.length = ns.length
  up : ∀ (i : Nat) (x : Int), hs[i]? = some x → ns[i]? = some (upF m kind x)
  good : ∀ x ∈ hs, ∃ j : Nat, x = (j : Int) ∧ j < m.length ∧ (ndAt m j).kind = 4 ∧ F m H j ≠ 0
  dom : ∀ d ∈ ns, d ∈ domL m (F m H) kind m.length
  nd : ns.Nodup
theorem CpI.nil (m : List Nd) (H : List Int) (kind : Int) : CpI m H kind [] [] := ⟨rfl, fun i x hi => (by simp at hi), fun x hx => (by simp at hx), fun d hd => (by simp at hd), List.nodup_nil⟩
theorem len_sub : ∀ {a b : List Int}, a.Nodup → (∀ x ∈ a, x ∈ b) → a.length ≤ b.length := fun {a b} h1 h2 => List.Nodup.length_le_of_subset h1 h2
theorem CpI.le {m : List Nd} {H : List Int} {kind : Int} {hs ns : List Int} (c : CpI m H kind hs ns) : ns.length ≤ (domL m (F m H) kind m.length).length := len_sub c.nd c.dom
section
variable {m : List Nd} {H : List Int} {kind : Int} {hs ns : List Int}
theorem cp_next (hf : Fine m) (hh : Heavy m) (k1 : 1 ≤ kind) (k4 : kind ≤ 4) (c : CpI m H kind hs ns) (seed fac f key : Int) (h : hostW m (F m (wout m (F m H) ns)) seed fac f key ≠ -1) :
    ∃ hn d : Nat, hostW m (F m (wout m (F m H) ns)) seed fac f key = (hn : Int) ∧ hn < m.length ∧ upF m kind (hn : Int) = (d : Int) ∧ CpI m H kind (hs ++ [(hn : Int)]) (ns ++ [(d : Int)]) := by
  obtain ⟨hn, _, e1, hl, h4, hz, _⟩ := walkP.host_good hf hh _ seed fac f key h
  have hmem : (hn : Int) ∈ domL m (F m (wout m (F m H) ns)) 4 m.length := mem_dom.mpr ⟨hl, h4, hz⟩
  rw [dom_out hf H ns m.length (Nat.le_refl _), List.mem_filter] at hmem
  obtain ⟨hm1, hm2⟩ := hmem
  have hgood := mem_dom.mp hm1
  obtain ⟨d, hd, hu, hdk⟩ := up_some hf kind k1 (hn + 1) hn (by omega) hl (by rw [h4]; exact k4)
  have hFd : F m H d ≠ 0 := by
    rw [F_has hf hh H m.length d hd (by omega)]
    refine ⟨hn, hl, (pk_dom hf hl).mpr hm1, ?_⟩
    unfold belU
    rw [hdk, hu]
    simp
  have hnew : (d : Int) ∉ ns := fun hc => by
    have h9 : ns.any (askB m (hn : Int)) = true := List.any_eq_true.mpr ⟨(d : Int), hc, by
      unfold askB
      rw [hdk, hu]
      simp⟩
    rw [h9] at hm2
    cases hm2
  refine ⟨hn, d, e1, hl, hu, ⟨by rw [List.length_append, List.length_append, c.len]; rfl, fun i x hi => ?_, fun x hx => ?_, fun x hx => ?_, ?_⟩⟩
  · rcases Nat.lt_or_ge i hs.length with h1 | h1
    · rw [List.getElem?_append_left h1] at hi
      rw [List.getElem?_append_left (by rw [← c.len]; exact h1)]
      exact c.up i x hi
    · rw [List.getElem?_append_right h1] at hi
      rw [List.getElem?_append_right (by rw [← c.len]; exact h1), ← c.len]
      have h2 : i - hs.length = 0 := by
        have := (List.getElem?_eq_some_iff.mp hi).1
        simp at this
        omega
      rw [h2] at hi ⊢
      simp at hi ⊢
      rw [← hi, hu]
  · rcases List.mem_append.mp hx with h1 | h1
    · exact c.good x h1
    · exact ⟨hn, List.mem_singleton.mp h1, hl, h4, hgood.2.2⟩
  · rcases List.mem_append.mp hx with h1 | h1
    · exact c.dom x h1
    · rw [List.mem_singleton.mp h1]
      exact mem_dom.mpr ⟨hd, hdk, hFd⟩
  · rw [List.nodup_append]
    refine ⟨c.nd, by simp, fun a ha b hb => ?_⟩
    rw [List.mem_singleton.mp hb]
    exact fun e => hnew (e ▸ ha)
theorem cp_done (hg : GoodTo m m.length) (hf : Fine m) (hh : Heavy m) (hm : m.length ≤ 60) (k1 : 1 ≤ kind) (c : CpI m H kind hs ns) (seed fac f key : Int) (f1 : 100 ≤ fac) (f2 : fac ≤ 1000) (h : hostW m (F m (wout m (F m H) ns)) seed fac f key = -1) :
    ns.length = (domL m (F m H) kind m.length).length := by
  refine Nat.le_antisymm c.le (len_sub (domL_nodup _ _ _ _) fun x hx => ?_)
  obtain ⟨d, rfl, hd, hdk, hFd⟩ := mem_dom2 hx
  obtain ⟨k, hk, hpk, hbk⟩ := (F_has hf hh H m.length d hd (by omega)).mp hFd
  have h4 := (pkB_parts hpk).1
  have hz : F m (wout m (F m H) ns) k = 0 := Decidable.byContradiction fun hc => walkQ.host_some hg hf hh hm _ seed fac f key f1 f2 hk h4 hc h
  have hin := (pk_dom hf hk).mp hpk
  have hany : ns.any (askB m (k : Int)) = true := by
    cases ha : ns.any (askB m (k : Int)) with
    | true => rfl
    | false =>
      exfalso
      have h9 : (k : Int) ∈ domL m (F m (wout m (F m H) ns)) 4 m.length := by
        rw [dom_out hf H ns m.length (Nat.le_refl _), List.mem_filter]
        exact ⟨hin, by rw [ha]; rfl⟩
      exact (mem_dom.mp h9).2.2 hz
  obtain ⟨e, he, hask⟩ := List.any_eq_true.mp hany
  obtain ⟨q, rfl, hq, hqk, _⟩ := mem_dom2 (c.dom e he)
  unfold askB at hask
  rw [Bool.and_eq_true, beq_iff_eq, hqk] at hask
  unfold belU at hbk
  rw [hdk, beq_iff_eq] at hbk
  have : q = d := by have := hask.2; omega
  subst this
  exact he
end
/-- Hosts and nodes behind so many rounds. -/
noncomputable def cpS (m : List Nd) (H : List Int) (seed fac f key kind : Int) : Nat → List Int × List Int
  | 0 => ([], [])
  | j + 1 => if hostW m (F m (wout m (F m H) (cpS m H seed fac f key kind j).2)) seed fac f key = -1 then cpS m H seed fac f key kind j
    else ((cpS m H seed fac f key kind j).1 ++ [hostW m (F m (wout m (F m H) (cpS m H seed fac f key kind j).2)) seed fac f key], (cpS m H seed fac f key kind j).2 ++ [upF m kind (hostW m (F m (wout m (F m H) (cpS m H seed fac f key kind j).2)) seed fac f key)])
section
variable {m : List Nd} {H : List Int} {seed fac f key kind : Int}
theorem cpS_succ (j : Nat) : cpS m H seed fac f key kind (j + 1) = if hostW m (F m (wout m (F m H) (cpS m H seed fac f key kind j).2)) seed fac f key = -1 then cpS m H seed fac f key kind j
    else ((cpS m H seed fac f key kind j).1 ++ [hostW m (F m (wout m (F m H) (cpS m H seed fac f key kind j).2)) seed fac f key], (cpS m H seed fac f key kind j).2 ++ [upF m kind (hostW m (F m (wout m (F m H) (cpS m H seed fac f key kind j).2)) seed fac f key)]) := by rw [cpS]
theorem cpS_stay {j : Nat} (h : hostW m (F m (wout m (F m H) (cpS m H seed fac f key kind j).2)) seed fac f key = -1) : ∀ n, cpS m H seed fac f key kind (j + n) = cpS m H seed fac f key kind j
  | 0 => rfl
  | n + 1 => by
    have ih := cpS_stay h n
    rw [show j + (n + 1) = (j + n) + 1 from rfl, cpS_succ, ih, if_pos h]
theorem cpS_next {j : Nat} {hs ns : List Int} (e : cpS m H seed fac f key kind j = (hs, ns)) (h : hostW m (F m (wout m (F m H) ns)) seed fac f key ≠ -1) : cpS m H seed fac f key kind (j + 1) = (hs ++ [hostW m (F m (wout m (F m H) ns)) seed fac f key], ns ++ [upF m kind (hostW m (F m (wout m (F m H) ns)) seed fac f key)]) := by
  rw [cpS_succ, e]
  simp only
  rw [if_neg h]
theorem cpS_inv (hf : Fine m) (hh : Heavy m) (k1 : 1 ≤ kind) (k4 : kind ≤ 4) : ∀ j, CpI m H kind (cpS m H seed fac f key kind j).1 (cpS m H seed fac f key kind j).2
  | 0 => CpI.nil m H kind
  | j + 1 => by
    have ih := cpS_inv hf hh k1 k4 j
    by_cases h : hostW m (F m (wout m (F m H) (cpS m H seed fac f key kind j).2)) seed fac f key = -1
    · have := cpS_stay (kind := kind) h 1
      rw [this]
      exact ih
    · rw [cpS_next rfl h]
      obtain ⟨hn, d, e1, _, e2, c⟩ := cp_next hf hh k1 k4 ih seed fac f key h
      rw [e1, e2]
      exact c
theorem cpS_len (hg : GoodTo m m.length) (hf : Fine m) (hh : Heavy m) (hm : m.length ≤ 60) (k1 : 1 ≤ kind) (k4 : kind ≤ 4) (f1 : 100 ≤ fac) (f2 : fac ≤ 1000) : ∀ j, (cpS m H seed fac f key kind j).1.length = min j (domL m (F m H) kind m.length).length
  | 0 => by unfold cpS; simp
  | j + 1 => by
    have ih := cpS_len hg hf hh hm k1 k4 f1 f2 j
    have c := cpS_inv (H := H) (seed := seed) (fac := fac) (f := f) (key := key) (kind := kind) hf hh k1 k4 j
    have c2 := cpS_inv (H := H) (seed := seed) (fac := fac) (f := f) (key := key) (kind := kind) hf hh k1 k4 (j + 1)
    have hl := c2.le
    rw [← c2.len] at hl
    by_cases h : hostW m (F m (wout m (F m H) (cpS m H seed fac f key kind j).2)) seed fac f key = -1
    · have hd := cp_done hg hf hh hm k1 c seed fac f key f1 f2 h
      rw [← c.len] at hd
      rw [cpS_stay (kind := kind) h 1]
      omega
    · have e := cpS_next (kind := kind) (j := j) rfl h
      have e3 : (cpS m H seed fac f key kind (j + 1)).1.length = (cpS m H seed fac f key kind j).1.length + 1 := by rw [e]; simp
      omega
theorem cpS_first (hf : Fine m) {n : Nat} (h : 0 < (cpS m H seed fac f key kind n).1.length) : (cpS m H seed fac f key kind n).1[0]? = some (hostW m (F m H) seed fac f key) := by
  have key2 : ∀ n, (cpS m H seed fac f key kind n).1 = [] ∨ (cpS m H seed fac f key kind n).1[0]? = some (hostW m (F m H) seed fac f key) := by
    intro n
    induction n with
    | zero => exact .inl rfl
    | succ n ih =>
      by_cases h : hostW m (F m (wout m (F m H) (cpS m H seed fac f key kind n).2)) seed fac f key = -1
      · rw [cpS_stay (kind := kind) h 1]
        exact ih
      · rw [cpS_next (kind := kind) (j := n) rfl h]
        right
        rcases ih with e | e
        · have e2 : (cpS m H seed fac f key kind n).2 = [] := by
            cases n with
            | zero => rfl
            | succ q =>
              by_cases h2 : hostW m (F m (wout m (F m H) (cpS m H seed fac f key kind q).2)) seed fac f key = -1
              · exfalso
                exact h (by rw [cpS_stay (kind := kind) h2 1]; exact h2)
              · rw [cpS_next (kind := kind) (j := q) rfl h2] at e
                simp at e
          rw [e, e2, wout_nil hf]
          rfl
        · have : 0 < (cpS m H seed fac f key kind n).1.length := (List.getElem?_eq_some_iff.mp e).1
          simp only
          rw [List.getElem?_append_left this]
          exact e
  rcases key2 n with e | e
  · rw [e] at h; cases h
  · exact e
end
end Go.Proofs.YtoaboklckkcjcaaGreat.walkZa
