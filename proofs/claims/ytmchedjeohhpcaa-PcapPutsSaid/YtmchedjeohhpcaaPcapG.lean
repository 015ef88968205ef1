/- Layer 36: whether a file can be. -/
import Derived.Test.YtmchedjeohhpcaaPcapF
namespace Go.Proofs.Ytmchedjeohhpcaa.pcapG
open Go.ChangeShapes Go.WideShapes Go.ChangeAt Go.RowKit
open Go.Proofs.Ytmchedjeohhpcaa.base Go.Proofs.Ytmchedjeohhpcaa.pcapA Go.Proofs.Ytmchedjeohhpcaa.pcapB Go.Proofs.Ytmchedjeohhpcaa.pcapC Go.Proofs.Ytmchedjeohhpcaa.pcapD Go.Proofs.Ytmchedjeohhpcaa.pcapE Go.Proofs.Ytmchedjeohhpcaa.pcapF
set_option linter.unusedVariables false

/-- A record: its four fields, its bytes as a slice, and what that slice reads as. -/
structure Rc where
  sec : Nat
  mic : Nat
  sz : Nat
  A : Option Addr
  n : Nat
  c : Nat
  bs : List Int
def Rc.cells (e : Rc) : Array Value := #[.int .u32 (e.sec : Int), .int .u32 (e.mic : Int), .int .u32 (e.sz : Int), .slice e.A e.n e.c]
def Rc.ok (e : Rc) : Prop := e.sec < 4294967296 ∧ e.mic < 4294967296 ∧ e.sz < 4294967296 ∧ e.n ≤ 1000000000
def Rc.bad (snap : Nat) (e : Rc) : Bool := badB snap e.mic e.sz e.n
/-- A slice that reads as records. -/
def RdR (w : World) (A : Option Addr) (l : List Rc) : Prop := l = [] ∨ ∃ b off, A = some ⟨b, off, none⟩ ∧ b < w.heap.size ∧ ∀ j (hj : j < l.length), ∀ i, i < 4 → w.cell? ⟨b, off + j * 4 + i, none⟩ = (l[j]).cells[i]?
theorem RdR.below {w w' : World} {A : Option Addr} {l : List Rc} (h : RdR w A l) (hb : Below w.heap.size w w') : RdR w' A l := by
  rcases h with h0 | ⟨b, off, h1, h2, h3⟩
  · exact .inl h0
  · refine .inr ⟨b, off, h1, Nat.lt_of_lt_of_le h2 hb.size, fun j hj i hi => ?_⟩
    rw [← h3 j hj i hi]
    unfold World.cell?
    rw [hb.block b h2]
theorem RdR.at_ {w : World} {A : Option Addr} {l : List Rc} (h : RdR w A l) (j : Nat) (hj : j < l.length) : ∃ b off, A = some ⟨b, off, none⟩ ∧ b < w.heap.size ∧ ∀ i, i < 4 → w.cell? ⟨b, off + j * 4 + i, none⟩ = (l[j]).cells[i]? := by
  rcases h with h0 | ⟨b, off, h1, h2, h3⟩
  · subst h0; simp at hj
  · exact ⟨b, off, h1, h2, fun i hi => h3 j hj i hi⟩
/-- The first that p holds of. -/
def IsFst (p : Rc → Bool) (l : List Rc) (at' : Int) : Prop := (at' = -1 ∧ ∀ x, x ∈ l → p x = false) ∨ ∃ j, ∃ hj : j < l.length, at' = (j : Int) ∧ p l[j] = true
def NoP (p : Rc → Bool) (l : List Rc) (j : Nat) : Prop := ∀ q, ∀ hq : q < l.length, q < j → p l[q] = false
theorem NoP.none {p : Rc → Bool} {l : List Rc} (h : NoP p l l.length) : IsFst p l (-1) := .inl ⟨rfl, fun e he => by
  obtain ⟨q, hq, rfl⟩ := List.mem_iff_getElem.mp he
  exact h q hq hq⟩
theorem NoP.here {p : Rc → Bool} {l : List Rc} {j : Nat} (h : NoP p l j) (hj : j < l.length) (e : p l[j] = true) : IsFst p l (j : Int) := .inr ⟨j, hj, rfl, e⟩
theorem NoP.next {p : Rc → Bool} {l : List Rc} {j : Nat} (h : NoP p l j) (hj : j < l.length) (e : p l[j] = false) : NoP p l (j + 1) := fun q hq hq2 => by
  by_cases hqj : q = j
  · subst hqj; exact e
  · exact h q hq (by omega)
theorem fst_any {p : Rc → Bool} {l : List Rc} {at' : Int} (h : IsFst p l at') : decide (0 ≤ at') = l.any p := by
  rcases h with ⟨rfl, h⟩ | ⟨j, hj, rfl, h1⟩
  · rw [show l.any p = false from List.any_eq_false.mpr fun x hx => by rw [h x hx]; decide]; rfl
  · rw [decide_eq_true (by omega), eq_comm, List.any_eq_true]
    exact ⟨_, List.getElem_mem hj, h1⟩
set_option maxHeartbeats 4000000 in
theorem index_any (A : Option Addr) (c : Nat) (l : List Rc) (w : World) (bf sn : Nat) (hf : w.cell? ⟨bf, 1, none⟩ = some (.int .u32 (sn : Int))) (h1 : sn < 4294967296) (hr : RdR w A l) (hw : ∀ e ∈ l, e.ok) (hl : l.length ≤ 4096) (hc1 : l.length ≤ c) (hc2 : c ≤ 9223372036854775807) :
    Calls Try.prog 26 #[.slice A l.length c, .func (.func 18) #[] #[.pointer (some ⟨bf, 0, none⟩)]] w fun o w' => ∃ at' : Int, o = .returned (.int .i64 at') ∧ IsFst (Rc.bad sn) l at' ∧ Below w.heap.size w w' := by
  have HR := Lib.hid hr
  have HW := Lib.hid hw
  obtain ⟨n, hn⟩ : ∃ n, n = l.length := ⟨_, rfl⟩
  have HNL := Lib.hid hn
  rw [← hn] at hl hc1 ⊢
  have HF := Lib.hid (show ∀ w2, Below w.heap.size w w2 → w2.cell? ⟨bf, 1, none⟩ = some (.int .u32 (sn : Int)) from fun w2 hb => (hb.cell (p := ⟨bf, 1, none⟩) (World.block_lt_of_cell? w _ hf)).trans hf)
  clear hn hr hf hw
  go_enter Try.func26, Try.ntmps26
  go_wp2_with fail
  go_loopw [8] (fun i wr => ∃ j : Nat, i = .int .i64 j ∧ j ≤ n ∧ Hid (NoP (Rc.bad sn) l j) ∧ Hid (Below w.heap.size w wr)) (fun i _ => n - (intOf i).toNat)
  case atStart => exact ⟨0, rfl, by omega, Lib.hid (fun q hq hq2 => by omega), Lib.hid (Below.refl _ _)⟩
  case round =>
    obtain ⟨j, rfl, hj, HNO, KB⟩ := hrel
    by_cases hjn : j < n
    · have t1 : decide ((j : Int) < n) = true := decide_eq_true (by omega)
      have hjl : j < l.length := HNL.out ▸ hjn
      obtain ⟨b, off, hA, hbl, hC⟩ := (HR.out.below KB.out).at_ j hjl
      subst hA
      have HHERE := Lib.hid (fun h => HNO.out.here hjl h)
      have HNEXT := Lib.hid (fun h => HNO.out.next hjl h)
      obtain ⟨o1, o2, o3, o4⟩ := HW.out l[j] (List.getElem_mem hjl)
      have HC := Lib.hid (bad_any bf false 0 0 sn (l[j]).sec (l[j]).mic (l[j]).sz (l[j]).n (l[j]).c (l[j]).A wr (HF.out wr KB.out) h1 o2 o3 o4)
      obtain ⟨z, hz⟩ : ∃ z, z = Rc.bad sn l[j] := ⟨_, rfl⟩
      rw [← hz] at HHERE HNEXT
      rw [show badB sn (l[j]).mic (l[j]).sz (l[j]).n = z from hz.symm] at HC
      obtain ⟨e, he⟩ : ∃ e, e = l[j] := ⟨_, rfl⟩
      rw [← he] at hC HC
      have d0 : wr.cell? ⟨b, off + j * 4, none⟩ = some (.int .u32 (e.sec : Int)) := hC 0 (by omega)
      have d1 : wr.cell? ⟨b, off + j * 4 + 1, none⟩ = some (.int .u32 (e.mic : Int)) := hC 1 (by omega)
      have d2 : wr.cell? ⟨b, off + j * 4 + 2, none⟩ = some (.int .u32 (e.sz : Int)) := hC 2 (by omega)
      have d3 : wr.cell? ⟨b, off + j * 4 + 3, none⟩ = some (.slice e.A e.n e.c) := hC 3 (by omega)
      have j0 : (0 : Int) ≤ j := by omega
      have j1 : (j : Int) < n := by omega
      clear hC he hz o1 o2 o3 o4
      go_wp2_with fail
      refine HC.out.mono ?_
      rintro o w3 ⟨rfl, hb⟩
      have B3 := Lib.hid (KB.out.trans (hb.mono KB.out.size))
      clear hb
      cases z with
      | true =>
        have HX := Lib.hid (HHERE.out rfl)
        go_wp2_with fail
        go_ret
        exact ⟨_, rfl, HX.out, B3.out⟩
      | false =>
        have HX := Lib.hid (HNEXT.out rfl)
        go_wp2_with fail
        go_roundw
        case rel => exact ⟨j + 1, by go_num, by omega, HX, B3⟩
        case measure => simp [intOf]; omega
    · have t1 : decide ((j : Int) < n) = false := decide_eq_false (by omega)
      obtain rfl : n = j := by omega
      have HX := Lib.hid (show IsFst (Rc.bad sn) l (-1) from NoP.none (by have := HNO.out; rw [HNL.out] at this; exact this))
      go_wp2_with fail
      go_ret
      exact ⟨_, rfl, HX.out, KB.out⟩
theorem contains_any (A : Option Addr) (c : Nat) (l : List Rc) (w : World) (bf sn : Nat) (hf : w.cell? ⟨bf, 1, none⟩ = some (.int .u32 (sn : Int))) (h1 : sn < 4294967296) (hr : RdR w A l) (hw : ∀ e ∈ l, e.ok) (hl : l.length ≤ 4096) (hc1 : l.length ≤ c) (hc2 : c ≤ 9223372036854775807) :
    Calls Try.prog 17 #[.slice A l.length c, .func (.func 18) #[] #[.pointer (some ⟨bf, 0, none⟩)]] w fun o w' => o = .returned (.bool (l.any (Rc.bad sn))) ∧ Below w.heap.size w w' := by
  have HI := Lib.hid (index_any A c l w bf sn hf h1 hr hw hl hc1 hc2)
  obtain ⟨r, hr2⟩ : ∃ r, r = l.any (Rc.bad sn) := ⟨_, rfl⟩
  have HRR := Lib.hid hr2
  rw [← hr2]
  clear hr hf hw hr2
  go_enter Try.func17, Try.ntmps17
  go_wp2_with fail
  refine HI.out.mono ?_
  rintro o w1 ⟨at', rfl, hf, hb⟩
  have HB := Lib.hid hb
  have HD := Lib.hid (fst_any hf)
  clear hf hb
  go_wp2_with fail
  go_ret
  exact ⟨by rw [HRR.out, ← HD.out]; rfl, HB.out⟩
/-- Whether a file can be. -/
def rightB (sn : Nat) (l : List Rc) : Bool := decide (l.length ≤ 4096) && !(l.any (Rc.bad sn))
set_option maxHeartbeats 4000000 in
theorem right_any (big : Bool) (sn link : Nat) (A : Option Addr) (c : Nat) (l : List Rc) (w : World) (h1 : sn < 4294967296) (hr : RdR w A l) (hw : ∀ e ∈ l, e.ok) (hl : l.length ≤ 1000000000) (hc1 : l.length ≤ c) (hc2 : c ≤ 9223372036854775807) :
    Calls Try.prog 8 #[.agg #[.bool big, .int .u32 (sn : Int), .int .u32 (link : Int), .slice A l.length c]] w fun o w' => o = .returned (.bool (rightB sn l)) ∧ Below w.heap.size w w' := by
  have hmf : ∀ (fn : Fn) (first cap : Array Value) (w : World), (Instr.makeFunc fn first cap).run Try.prog w = .ok (.func fn first cap) w := fun _ _ _ _ => rfl
  have BA := Lib.hid (show Below w.heap.size w (w.alloc (.cells #[.bool big, .int .u32 (sn : Int), .int .u32 (link : Int), .slice A l.length c] 25)) from (Below.refl w.heap.size w).alloc (Nat.le_refl _) _)
  have k0 := Blk.new w 25 #[.bool big, .int .u32 (sn : Int), .int .u32 (link : Int), .slice A l.length c]
  have d1 : (w.alloc (.cells #[.bool big, .int .u32 (sn : Int), .int .u32 (link : Int), .slice A l.length c] 25)).cell? ⟨w.heap.size, 1, none⟩ = some (.int .u32 (sn : Int)) := k0.cell 1
  have d3 : (w.alloc (.cells #[.bool big, .int .u32 (sn : Int), .int .u32 (link : Int), .slice A l.length c] 25)).cell? ⟨w.heap.size, 3, none⟩ = some (.slice A l.length c) := k0.cell 3
  by_cases hle : l.length ≤ 4096
  · have HC := Lib.hid (contains_any A c l (w.alloc (.cells #[.bool big, .int .u32 (sn : Int), .int .u32 (link : Int), .slice A l.length c] 25)) w.heap.size sn d1 h1 (hr.below BA.out) hw hle hc1 hc2)
    have HV := Lib.hid (show rightB sn l = !(l.any (Rc.bad sn)) from by unfold rightB; rw [decide_eq_true hle, Bool.true_and])
    obtain ⟨r, hr2⟩ : ∃ r, r = rightB sn l := ⟨_, rfl⟩
    rw [← hr2] at HV ⊢
    obtain ⟨z, hz⟩ : ∃ z, z = l.any (Rc.bad sn) := ⟨_, rfl⟩
    rw [← hz] at HC HV
    obtain ⟨n, hn⟩ : ∃ n, n = l.length := ⟨_, rfl⟩
    rw [← hn] at HC d3 hle BA ⊢
    have t1 : decide ((n : Int) ≤ 4096) = true := decide_eq_true (by omega)
    clear hr hw hr2 hz hn k0
    go_enter Try.func8, Try.ntmps8
    go_wp2_with fail
    refine HC.out.mono ?_
    rintro o w1 ⟨rfl, hb⟩
    have HB := Lib.hid (BA.out.trans (hb.mono BA.out.size))
    clear hb
    go_wp2_with fail
    go_ret
    exact ⟨by rw [HV.out]; rfl, HB.out⟩
  · have HV := Lib.hid (show rightB sn l = false from by unfold rightB; rw [decide_eq_false hle, Bool.false_and])
    obtain ⟨r, hr2⟩ : ∃ r, r = rightB sn l := ⟨_, rfl⟩
    rw [← hr2] at HV ⊢
    obtain ⟨n, hn⟩ : ∃ n, n = l.length := ⟨_, rfl⟩
    rw [← hn] at d3 hle BA ⊢
    have t1 : decide ((n : Int) ≤ 4096) = false := decide_eq_false (by omega)
    clear hr hw hr2 hn k0
    go_enter Try.func8, Try.ntmps8
    go_wp2_with fail
    go_ret
    exact ⟨by rw [HV.out]; rfl, BA.out⟩
end Go.Proofs.Ytmchedjeohhpcaa.pcapG
