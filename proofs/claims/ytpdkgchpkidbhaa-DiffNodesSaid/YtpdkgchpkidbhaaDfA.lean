/- Layer 43: nodes, and which is the first of a name. -/
import Derived.Test.YtpdkgchpkidbhaaOpenRows
import Derived.Test.YtpdkgchpkidbhaaKeep
namespace Go.Proofs.Ytpdkgchpkidbhaa.dfA
open Go.ChangeShapes Go.WideShapes Go.ChangeAt Go.RowKit
open Go.Proofs.Ytpdkgchpkidbhaa.base
set_option linter.unusedVariables false

/-- A node: its name, its kind, the one above it, its weight, its address. -/
structure Nd where
  nm : ByteArray
  kind : Int
  ab : Int
  wt : Int
  v6 : Bool
  hi : Int
  lo : Int
def Nd.cells (e : Nd) : Array Value := #[.string e.nm, .int .i64 e.kind, .int .i64 e.ab, .int .i64 e.wt, .bool e.v6, .int .u64 e.hi, .int .u64 e.lo]
/-- A slice that reads as nodes. -/
def RdN (w : World) (A : Option Addr) (l : List Nd) : Prop := l = [] ∨ ∃ b off, A = some ⟨b, off, none⟩ ∧ b < w.heap.size ∧ ∀ j (hj : j < l.length), ∀ i, i < 7 → w.cell? ⟨b, off + j * 7 + i, none⟩ = (l[j]).cells[i]?
theorem RdN.below {w w' : World} {A : Option Addr} {l : List Nd} (h : RdN w A l) (hb : Below w.heap.size w w') : RdN w' A l := by
  rcases h with h0 | ⟨b, off, h1, h2, h3⟩
  · exact .inl h0
  · refine .inr ⟨b, off, h1, Nat.lt_of_lt_of_le h2 hb.size, fun j hj i hi => ?_⟩
    rw [← h3 j hj i hi]
    unfold World.cell?
    rw [hb.block b h2]
theorem RdN.at_ {w : World} {A : Option Addr} {l : List Nd} (h : RdN w A l) (j : Nat) (hj : j < l.length) : ∃ b off, A = some ⟨b, off, none⟩ ∧ b < w.heap.size ∧ ∀ i, i < 7 → w.cell? ⟨b, off + j * 7 + i, none⟩ = (l[j]).cells[i]? := by
  rcases h with h0 | ⟨b, off, h1, h2, h3⟩
  · subst h0; simp at hj
  · exact ⟨b, off, h1, h2, fun i hi => h3 j hj i hi⟩
/-- The first of a name. -/
def IsFind (l : List Nd) (s : ByteArray) (at' : Int) : Prop := (at' = -1 ∧ ∀ e, e ∈ l → e.nm ≠ s) ∨ ∃ j, ∃ hj : j < l.length, at' = (j : Int) ∧ (l[j]).nm = s ∧ ∀ q, ∀ hq : q < j, (l[q]'(by omega)).nm ≠ s
theorem IsFind.uniq {l : List Nd} {s : ByteArray} {a b : Int} (h1 : IsFind l s a) (h2 : IsFind l s b) : a = b := by
  rcases h1 with ⟨e1, n1⟩ | ⟨j, hj, e1, n1, m1⟩ <;> rcases h2 with ⟨e2, n2⟩ | ⟨q, hq, e2, n2, m2⟩
  · rw [e1, e2]
  · exact absurd n2 (n1 _ (List.getElem_mem hq))
  · exact absurd n1 (n2 _ (List.getElem_mem hj))
  · rcases Nat.lt_trichotomy j q with h | h | h
    · exact absurd n1 (m2 j h)
    · rw [e1, e2, h]
    · exact absurd n2 (m1 q h)
theorem str_yes {a b : ByteArray} (h : a = b) : (a.toList == b.toList) = true := by rw [h]; simp
theorem str_no {a b : ByteArray} (h : a ≠ b) : (a.toList == b.toList) = false := by
  cases hq : (a.toList == b.toList) with
  | false => rfl
  | true =>
    have h2 : a.toList = b.toList := by simpa using hq
    rw [ByteArray.toList_eq, ByteArray.toList_eq] at h2
    exact absurd (bytes_inj h2) h
theorem find1_any (e : Nd) (s : ByteArray) (c : Nat) (w : World) (hc : w.cell? ⟨c, 0, none⟩ = some (.string s)) (q : Bool) (hq : q = true ↔ e.nm = s) : Calls Try.prog 13 #[.agg e.cells, .pointer (some ⟨c, 0, none⟩)] w fun o w' => o = .returned (.bool q) ∧ Below w.heap.size w w' := by
  have HW := Lib.hid ((Below.refl w.heap.size w).alloc (Nat.le_refl _) (.cells #[.string e.nm, .int .i64 e.kind, .int .i64 e.ab, .int .i64 e.wt, .bool e.v6, .int .u64 e.hi, .int .u64 e.lo] 30))
  have hc2 : (w.alloc (.cells #[.string e.nm, .int .i64 e.kind, .int .i64 e.ab, .int .i64 e.wt, .bool e.v6, .int .u64 e.hi, .int .u64 e.lo] 30)).cell? ⟨c, 0, none⟩ = some (.string s) := (HW.out.cell (p := ⟨c, 0, none⟩) (World.block_lt_of_cell? w _ hc)).trans hc
  have hs : (e.nm.toList == s.toList) = q := by
    by_cases h : e.nm = s
    · rw [hq.mpr h]; exact str_yes h
    · have : q = false := by cases q with
        | false => rfl
        | true => exact absurd (hq.mp rfl) h
      rw [this]; exact str_no h
  unfold Nd.cells
  clear hc hq
  go_enter Try.func13, Try.ntmps13
  go_wp2_with fail
  go_ret
  first | exact ⟨rfl, HW.out⟩ | exact ⟨rfl, HW.out.drew⟩
/-- As far as has been looked. -/
def NoF (l : List Nd) (s : ByteArray) (j : Nat) : Prop := ∀ q, ∀ hq : q < l.length, q < j → (l[q]).nm ≠ s
theorem NoF.none {l : List Nd} {s : ByteArray} (h : NoF l s l.length) : IsFind l s (-1) := .inl ⟨rfl, fun e he => by
  obtain ⟨q, hq, rfl⟩ := List.mem_iff_getElem.mp he
  exact h q hq hq⟩
theorem NoF.here {l : List Nd} {s : ByteArray} {j : Nat} (h : NoF l s j) (hj : j < l.length) (e : (l[j]).nm = s) : IsFind l s (j : Int) := .inr ⟨j, hj, rfl, e, fun q hq => h q (by omega) hq⟩
theorem NoF.next {l : List Nd} {s : ByteArray} {j : Nat} (h : NoF l s j) (hj : j < l.length) (e : (l[j]).nm ≠ s) : NoF l s (j + 1) := fun q hq hq2 => by
  by_cases hqj : q = j
  · subst hqj; exact e
  · exact h q hq (by omega)
set_option maxHeartbeats 4000000 in
theorem lfind_any (A : Option Addr) (c : Nat) (l : List Nd) (s : ByteArray) (w : World) (hr : RdN w A l) (hl : l.length ≤ 1000) (hc1 : l.length ≤ c) (hc2 : c ≤ 9223372036854775807) :
    Calls Try.prog 5 #[.slice A l.length c, .string s] w fun o w' => ∃ at' : Int, o = .returned (.int .i64 at') ∧ IsFind l s at' ∧ Below w.heap.size w w' := by
  have HR := Lib.hid hr
  obtain ⟨n, hn⟩ : ∃ n, n = l.length := ⟨_, rfl⟩
  have HNL := Lib.hid hn
  rw [← hn] at hl hc1 ⊢

  clear hn hr
  go_enter Try.func5, Try.ntmps5
  go_wp2_with fail
  go_loopw [5] (fun i wr => ∃ j : Nat, i = .int .i64 j ∧ j ≤ n ∧ Hid (NoF l s j) ∧ Below w.heap.size w wr) (fun i _ => n - (intOf i).toNat)
  case atStart => exact ⟨0, rfl, by omega, Lib.hid (fun q hq hq2 => by omega), by first | exact Below.refl _ _ | exact (Below.refl _ _).drew⟩
  case round =>
    obtain ⟨j, rfl, hj, HNO, hbel⟩ := hrel
    have KB := Lib.hid hbel
    clear hbel
    by_cases hjn : j < n
    · have t1 : decide ((j : Int) < n) = true := decide_eq_true (by omega)
      have hjl : j < l.length := HNL.out ▸ hjn
      obtain ⟨b, off, hA, hbl, hC⟩ := (HR.out.below KB.out).at_ j hjl
      subst hA
      obtain ⟨e, he⟩ : ∃ e, e = l[j] := ⟨_, rfl⟩
      rw [← he] at hC
      have d0 : wr.cell? ⟨b, off + j * 7, none⟩ = some (.string e.nm) := hC 0 (by omega)
      have d1 : wr.cell? ⟨b, off + j * 7 + 1, none⟩ = some (.int .i64 e.kind) := hC 1 (by omega)
      have d2 : wr.cell? ⟨b, off + j * 7 + 2, none⟩ = some (.int .i64 e.ab) := hC 2 (by omega)
      have d3 : wr.cell? ⟨b, off + j * 7 + 3, none⟩ = some (.int .i64 e.wt) := hC 3 (by omega)
      have d4 : wr.cell? ⟨b, off + j * 7 + 4, none⟩ = some (.bool e.v6) := hC 4 (by omega)
      have d5 : wr.cell? ⟨b, off + j * 7 + 5, none⟩ = some (.int .u64 e.hi) := hC 5 (by omega)
      have d6 : wr.cell? ⟨b, off + j * 7 + 6, none⟩ = some (.int .u64 e.lo) := hC 6 (by omega)
      have HE := Lib.hid he
      have j0 : (0 : Int) ≤ j := by omega
      have j1 : (j : Int) < n := by omega
      clear hC he
      by_cases hx : e.nm = s
      · have HF := Lib.hid (HNO.out.here hjl (HE.out ▸ hx))
        have hs : (e.nm.toList == s.toList) = true := str_yes hx
        clear hx
        go_wp2_with fail
        go_ret
        exact ⟨_, rfl, HF.out, KB.out⟩
      · have HX := Lib.hid (HNO.out.next hjl (HE.out ▸ hx))
        have hs : (e.nm.toList == s.toList) = false := str_no hx
        clear hx
        go_wp2_with fail
        go_roundw
        case rel => exact ⟨j + 1, by go_num, by omega, HX, KB.out⟩
        case measure => simp [intOf]; omega
    · have t1 : decide ((j : Int) < n) = false := decide_eq_false (by omega)
      obtain rfl : n = j := by omega
      have HF := Lib.hid (show IsFind l s (-1) from NoF.none (by have := HNO.out; rw [HNL.out] at this; exact this))
      go_wp2_with fail
      go_ret
      exact ⟨_, rfl, HF.out, KB.out⟩
set_option maxHeartbeats 4000000 in
theorem index_any (A : Option Addr) (c : Nat) (l : List Nd) (s : ByteArray) (w : World) (p : Nat) (hp : w.cell? ⟨p, 0, none⟩ = some (.string s)) (hr : RdN w A l) (hl : l.length ≤ 1000) (hc1 : l.length ≤ c) (hc2 : c ≤ 9223372036854775807) :
    Calls Try.prog 12 #[.slice A l.length c, .func (.func 13) #[] #[.pointer (some ⟨p, 0, none⟩)]] w fun o w' => ∃ at' : Int, o = .returned (.int .i64 at') ∧ IsFind l s at' ∧ Below w.heap.size w w' := by
  have HR := Lib.hid hr
  obtain ⟨n, hn⟩ : ∃ n, n = l.length := ⟨_, rfl⟩
  have HNL := Lib.hid hn
  rw [← hn] at hl hc1 ⊢
  have HP := Lib.hid (show ∀ w2, Below w.heap.size w w2 → w2.cell? ⟨p, 0, none⟩ = some (.string s) from fun w2 hb => (hb.cell (p := ⟨p, 0, none⟩) (World.block_lt_of_cell? w _ hp)).trans hp)
  clear hn hr hp
  go_enter Try.func12, Try.ntmps12
  go_wp2_with fail
  go_loopw [8] (fun i wr => ∃ j : Nat, i = .int .i64 j ∧ j ≤ n ∧ Hid (NoF l s j) ∧ Below w.heap.size w wr) (fun i _ => n - (intOf i).toNat)
  case atStart => exact ⟨0, rfl, by omega, Lib.hid (fun q hq hq2 => by omega), by first | exact Below.refl _ _ | exact (Below.refl _ _).drew⟩
  case round =>
    obtain ⟨j, rfl, hj, HNO, hbel⟩ := hrel
    have KB := Lib.hid hbel
    clear hbel
    by_cases hjn : j < n
    · have t1 : decide ((j : Int) < n) = true := decide_eq_true (by omega)
      have hjl : j < l.length := HNL.out ▸ hjn
      obtain ⟨b, off, hA, hbl, hC⟩ := (HR.out.below KB.out).at_ j hjl
      subst hA
      obtain ⟨e, he⟩ : ∃ e, e = l[j] := ⟨_, rfl⟩
      rw [← he] at hC
      have d0 : wr.cell? ⟨b, off + j * 7, none⟩ = some (.string e.nm) := hC 0 (by omega)
      have d1 : wr.cell? ⟨b, off + j * 7 + 1, none⟩ = some (.int .i64 e.kind) := hC 1 (by omega)
      have d2 : wr.cell? ⟨b, off + j * 7 + 2, none⟩ = some (.int .i64 e.ab) := hC 2 (by omega)
      have d3 : wr.cell? ⟨b, off + j * 7 + 3, none⟩ = some (.int .i64 e.wt) := hC 3 (by omega)
      have d4 : wr.cell? ⟨b, off + j * 7 + 4, none⟩ = some (.bool e.v6) := hC 4 (by omega)
      have d5 : wr.cell? ⟨b, off + j * 7 + 5, none⟩ = some (.int .u64 e.hi) := hC 5 (by omega)
      have d6 : wr.cell? ⟨b, off + j * 7 + 6, none⟩ = some (.int .u64 e.lo) := hC 6 (by omega)
      have HE := Lib.hid he
      have j0 : (0 : Int) ≤ j := by omega
      have j1 : (j : Int) < n := by omega
      clear hC he
      by_cases hx : e.nm = s
      · have HF := Lib.hid (HNO.out.here hjl (HE.out ▸ hx))
        have HC := Lib.hid (find1_any e s p wr (HP.out wr KB.out) true ⟨fun _ => hx, fun _ => rfl⟩)
        unfold Nd.cells at HC
        clear hx
        go_wp2_with fail
        refine HC.out.mono ?_
        rintro o w3 ⟨rfl, hb⟩
        have B3 := Lib.hid (KB.out.trans (hb.mono KB.out.size))
        clear hb
        go_wp2_with fail
        go_ret
        exact ⟨_, rfl, HF.out, B3.out⟩
      · have HX := Lib.hid (HNO.out.next hjl (HE.out ▸ hx))
        have HC := Lib.hid (find1_any e s p wr (HP.out wr KB.out) false ⟨fun h => (by cases h), fun h => absurd h hx⟩)
        unfold Nd.cells at HC
        clear hx
        go_wp2_with fail
        refine HC.out.mono ?_
        rintro o w3 ⟨rfl, hb⟩
        have B3 := Lib.hid (KB.out.trans (hb.mono KB.out.size))
        clear hb
        go_wp2_with fail
        go_roundw
        case rel => exact ⟨j + 1, by go_num, by omega, HX, B3.out⟩
        case measure => simp [intOf]; omega
    · have t1 : decide ((j : Int) < n) = false := decide_eq_false (by omega)
      obtain rfl : n = j := by omega
      have HF := Lib.hid (show IsFind l s (-1) from NoF.none (by have := HNO.out; rw [HNL.out] at this; exact this))
      go_wp2_with fail
      go_ret
      exact ⟨_, rfl, HF.out, KB.out⟩
theorem find_any (A : Option Addr) (c : Nat) (l : List Nd) (s : ByteArray) (w : World) (hr : RdN w A l) (hl : l.length ≤ 1000) (hc1 : l.length ≤ c) (hc2 : c ≤ 9223372036854775807) :
    Calls Try.prog 9 #[.slice A l.length c, .string s] w fun o w' => ∃ at' : Int, o = .returned (.int .i64 at') ∧ IsFind l s at' ∧ Below w.heap.size w w' := by
  have hmf : ∀ (fn : Fn) (first cap : Array Value) (w : World), (Instr.makeFunc fn first cap).run Try.prog w = .ok (.func fn first cap) w := fun _ _ _ _ => rfl
  have HW := Lib.hid ((Below.refl w.heap.size w).alloc (Nat.le_refl _) (.cells #[.string s] 9))
  have HI := Lib.hid (index_any A c l s (w.alloc (.cells #[.string s] 9)) w.heap.size ((Blk.new w 9 #[.string s]).cell 0) (hr.below HW.out) hl hc1 hc2)
  clear hr
  go_enter Try.func9, Try.ntmps9
  go_wp2_with fail
  refine HI.out.mono ?_
  rintro o w2 ⟨at', rfl, hf, hb⟩
  have HF := Lib.hid hf
  have HB := Lib.hid (HW.out.trans (hb.mono HW.out.size))
  clear hf hb
  go_wp2_with fail
  go_ret
  first | exact ⟨_, rfl, HF.out, HB.out⟩ | exact ⟨_, rfl, HF.out, HB.out.drew⟩
end Go.Proofs.Ytpdkgchpkidbhaa.dfA
