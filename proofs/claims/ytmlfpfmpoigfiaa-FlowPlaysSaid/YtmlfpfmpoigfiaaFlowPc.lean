/- Layer 27: what its law says that goes. -/
import Derived.Test.YtmlfpfmpoigfiaaFlowPb
namespace Go.Proofs.Ytmlfpfmpoigfiaa.flowPc
open Go.ChangeShapes Go.WideShapes Go.ChangeAt Go.RowKit
open Go.Proofs.Ytmlfpfmpoigfiaa.base Go.Proofs.Ytmlfpfmpoigfiaa.flowA Go.Proofs.Ytmlfpfmpoigfiaa.flowB Go.Proofs.Ytmlfpfmpoigfiaa.flowC Go.Proofs.Ytmlfpfmpoigfiaa.flowD Go.Proofs.Ytmlfpfmpoigfiaa.flowE Go.Proofs.Ytmlfpfmpoigfiaa.flowF Go.Proofs.Ytmlfpfmpoigfiaa.flowG Go.Proofs.Ytmlfpfmpoigfiaa.flowH Go.Proofs.Ytmlfpfmpoigfiaa.flowI Go.Proofs.Ytmlfpfmpoigfiaa.flowL Go.Proofs.Ytmlfpfmpoigfiaa.flowM Go.Proofs.Ytmlfpfmpoigfiaa.flowN Go.Proofs.Ytmlfpfmpoigfiaa.flowO Go.Proofs.Ytmlfpfmpoigfiaa.flowP Go.Proofs.Ytmlfpfmpoigfiaa.flowQ Go.Proofs.Ytmlfpfmpoigfiaa.flowR Go.Proofs.Ytmlfpfmpoigfiaa.flowS Go.Proofs.Ytmlfpfmpoigfiaa.flowT Go.Proofs.Ytmlfpfmpoigfiaa.flowU Go.Proofs.Ytmlfpfmpoigfiaa.flowV Go.Proofs.Ytmlfpfmpoigfiaa.flowW Go.Proofs.Ytmlfpfmpoigfiaa.flowX Go.Proofs.Ytmlfpfmpoigfiaa.flowY Go.Proofs.Ytmlfpfmpoigfiaa.flowGo Go.Proofs.Ytmlfpfmpoigfiaa.flowGp Go.Proofs.Ytmlfpfmpoigfiaa.flowPa Go.Proofs.Ytmlfpfmpoigfiaa.flowPb
set_option linter.unusedVariables false

/-- A call's fourteen cells: its kind, its entry, its hosts. -/
def opc (kd : Int) (x : Ent) (A : Option Addr) (m cc : Nat) : Array Value := #[.int .i64 kd, .int .i64 x.x.pr, .bool x.x.s6, .int .u64 x.x.sh, .int .u64 x.x.sl, .bool x.x.d6, .int .u64 x.x.dh, .int .u64 x.x.dl, .int .i64 x.x.sp, .int .i64 x.x.dp, .int .i64 x.host, .int .i64 x.state, .int .i64 x.till, .slice A m cc]
/-- What goes by a call. -/
def ggo (kd : Int) (x : Ent) (hs : List Int) (e : Ent) : Bool := if kd = 5 then decide (e.till ≤ x.till) else if kd = 7 then true else (hs.take 30).contains e.host
/-- Numbers that came in. -/
def RdI (w : World) (B : Nat) (A : Option Addr) (hs : List Int) : Prop := hs = [] ∨ ∃ b off, A = some ⟨b, off, none⟩ ∧ b < B ∧ ∀ j (hj : j < hs.length), w.cell? ⟨b, off + j, none⟩ = some (.int .i64 hs[j])
theorem RdI.below {w w' : World} {B : Nat} {A : Option Addr} {hs : List Int} (h : RdI w B A hs) (hb : Below B w w') : RdI w' B A hs := by
  rcases h with h0 | ⟨b, off, h1, h2, h3⟩
  · exact .inl h0
  · refine .inr ⟨b, off, h1, h2, fun j hj => ?_⟩
    rw [← h3 j hj]
    unfold World.cell?
    rw [hb.block b h2]
theorem RdI.more {w : World} {B B2 : Nat} {A : Option Addr} {hs : List Int} (h : RdI w B A hs) (hB : B ≤ B2) : RdI w B2 A hs := by
  rcases h with h0 | ⟨b, off, h1, h2, h3⟩
  · exact .inl h0
  · exact .inr ⟨b, off, h1, by omega, h3⟩
theorem RdI.row {w : World} {B : Nat} {A : Option Addr} {hs : List Int} (h : RdI w B A hs) : Row w B A (hs.map (.int .i64)) := by
  rcases h with h0 | ⟨b, off, h1, h2, h3⟩
  · exact .inl (by rw [h0]; rfl)
  · refine .inr ⟨b, off, h1, h2, fun i u hu => ?_⟩
    rw [List.getElem?_map] at hu
    obtain ⟨z, hz, rfl⟩ := Option.map_eq_some_iff.mp hu
    obtain ⟨hi, rfl⟩ := List.getElem?_eq_some_iff.mp hz
    exact h3 i hi
theorem RdI.take {w : World} {B : Nat} {A : Option Addr} {hs : List Int} (h : RdI w B A hs) (k : Nat) : RdI w B A (hs.take k) := by
  rcases h with h0 | ⟨b, off, h1, h2, h3⟩
  · exact .inl (by rw [h0]; simp)
  · refine .inr ⟨b, off, h1, h2, fun j hj => ?_⟩
    rw [List.length_take] at hj
    rw [List.getElem_take]
    exact h3 j (by omega)
set_option maxHeartbeats 4000000 in
theorem goes_law (kd : Int) (x e : Ent) (A : Option Addr) (m cc : Nat) (hs : List Int) (w : World) (hm : hs.length = m) (hm2 : m ≤ 9223372036854775807) (hr : RdI w w.heap.size A hs) (hmc : m ≤ cc) (hcc : cc ≤ 9223372036854775807) :
    Calls Try.prog 38 #[.agg (opc kd x A m cc), .agg e.cells] w fun o w' => o = .returned (.bool (ggo kd x hs e)) ∧ Below w.heap.size w w' := by
  have HB := Lib.hid (show Below w.heap.size w ((w.alloc (.cells #[.int .i64 kd, .int .i64 x.x.pr, .bool x.x.s6, .int .u64 x.x.sh, .int .u64 x.x.sl, .bool x.x.d6, .int .u64 x.x.dh, .int .u64 x.x.dl, .int .i64 x.x.sp, .int .i64 x.x.dp, .int .i64 x.host, .int .i64 x.state, .int .i64 x.till, .slice A m cc] 57)).alloc (.cells #[.int .i64 e.x.pr, .bool e.x.s6, .int .u64 e.x.sh, .int .u64 e.x.sl, .bool e.x.d6, .int .u64 e.x.dh, .int .u64 e.x.dl, .int .i64 e.x.sp, .int .i64 e.x.dp, .int .i64 e.host, .int .i64 e.state, .int .i64 e.till] 33)) from ((Below.refl w.heap.size w).alloc (Nat.le_refl _) _).alloc (by simp) _)
  unfold opc Ent.cells ggo
  by_cases h5 : kd = 5
  · subst h5
    rw [if_pos rfl]
    clear hr
    go_enter Try.func38, Try.ntmps38
    go_wp2_with fail
    go_ret
    first | exact ⟨rfl, HB.out⟩ | exact ⟨rfl, HB.out.drew⟩
  rw [if_neg h5]
  have k5 : (kd == 5) = false := by simp [h5]
  by_cases h7 : kd = 7
  · subst h7
    rw [if_pos rfl]
    clear hr h5
    go_enter Try.func38, Try.ntmps38
    go_wp2_with fail
    go_ret
    first | exact ⟨rfl, HB.out⟩ | exact ⟨rfl, HB.out.drew⟩
  rw [if_neg h7]
  have k7 : (kd == 7) = false := by simp [h7]
  obtain ⟨w1, hw1⟩ : ∃ w1, w1 = (w.alloc (.cells #[.int .i64 kd, .int .i64 x.x.pr, .bool x.x.s6, .int .u64 x.x.sh, .int .u64 x.x.sl, .bool x.x.d6, .int .u64 x.x.dh, .int .u64 x.x.dl, .int .i64 x.x.sp, .int .i64 x.x.dp, .int .i64 x.host, .int .i64 x.state, .int .i64 x.till, .slice A m cc] 57)).alloc (.cells #[.int .i64 e.x.pr, .bool e.x.s6, .int .u64 e.x.sh, .int .u64 e.x.sl, .bool e.x.d6, .int .u64 e.x.dh, .int .u64 e.x.dl, .int .i64 e.x.sp, .int .i64 e.x.dp, .int .i64 e.host, .int .i64 e.state, .int .i64 e.till] 33) := ⟨_, rfl⟩
  have HW := Lib.hid (hw1 ▸ HB.out)
  have HK0 := Lib.hid (show Blk w1 w.heap.size 57 #[.int .i64 kd, .int .i64 x.x.pr, .bool x.x.s6, .int .u64 x.x.sh, .int .u64 x.x.sl, .bool x.x.d6, .int .u64 x.x.dh, .int .u64 x.x.dl, .int .i64 x.x.sp, .int .i64 x.x.dp, .int .i64 x.host, .int .i64 x.state, .int .i64 x.till, .slice A m cc] from by
    rw [hw1]
    exact (Below.heap_alloc _ _ _ (by simp)).trans (Blk.new w _ _))
  have HK1 := Lib.hid (show Blk w1 (w.heap.size + 1) 33 #[.int .i64 e.x.pr, .bool e.x.s6, .int .u64 e.x.sh, .int .u64 e.x.sl, .bool e.x.d6, .int .u64 e.x.dh, .int .u64 e.x.dl, .int .i64 e.x.sp, .int .i64 e.x.dp, .int .i64 e.host, .int .i64 e.state, .int .i64 e.till] from by
    have := Blk.new (w.alloc (.cells #[.int .i64 kd, .int .i64 x.x.pr, .bool x.x.s6, .int .u64 x.x.sh, .int .u64 x.x.sl, .bool x.x.d6, .int .u64 x.x.dh, .int .u64 x.x.dl, .int .i64 x.x.sp, .int .i64 x.x.dp, .int .i64 x.host, .int .i64 x.state, .int .i64 x.till, .slice A m cc] 57)) 33 #[.int .i64 e.x.pr, .bool e.x.s6, .int .u64 e.x.sh, .int .u64 e.x.sl, .bool e.x.d6, .int .u64 e.x.dh, .int .u64 e.x.dl, .int .i64 e.x.sp, .int .i64 e.x.dp, .int .i64 e.host, .int .i64 e.state, .int .i64 e.till]
    rw [show (w.alloc (.cells #[.int .i64 kd, .int .i64 x.x.pr, .bool x.x.s6, .int .u64 x.x.sh, .int .u64 x.x.sl, .bool x.x.d6, .int .u64 x.x.dh, .int .u64 x.x.dl, .int .i64 x.x.sp, .int .i64 x.x.dp, .int .i64 x.host, .int .i64 x.state, .int .i64 x.till, .slice A m cc] 57)).heap.size = w.heap.size + 1 by simp] at this
    rw [hw1]
    exact this)
  have HR := Lib.hid hr
  have HMM := Lib.hid hm
  obtain ⟨q, hq⟩ : ∃ q, q = (hs.take 30).contains e.host := ⟨_, rfl⟩
  rw [← hq]
  have HQ := Lib.hid hq
  clear hr h5 h7 hm HB hq
  go_enter Try.func38, Try.ntmps38
  go_wp2_with fail
  rw [← hw1]
  clear hw1
  go_loopw [5] (fun i wr => ∃ j : Nat, i = .int .i64 j ∧ j ≤ m ∧ j ≤ 30 ∧ Hid (∀ h, h ∈ hs.take j → h ≠ e.host) ∧ Below w1.heap.size w1 wr) (fun i _ => 30 - (intOf i).toNat)
  case atStart => exact ⟨0, rfl, by omega, by omega, Lib.hid (fun h hh => by simp at hh), by first | exact Below.refl _ _ | exact (Below.refl _ _).drew⟩
  case round =>
    obtain ⟨j, rfl, hj, hj2, HNO, hbel⟩ := hrel
    have KB := Lib.hid hbel
    have q13 : wr.cell? ⟨w.heap.size, 13, none⟩ = some (.slice A m cc) := (show Blk wr w.heap.size 57 #[.int .i64 kd, .int .i64 x.x.pr, .bool x.x.s6, .int .u64 x.x.sh, .int .u64 x.x.sl, .bool x.x.d6, .int .u64 x.x.dh, .int .u64 x.x.dl, .int .i64 x.x.sp, .int .i64 x.x.dp, .int .i64 x.host, .int .i64 x.state, .int .i64 x.till, .slice A m cc] from (hbel.block _ HK0.out.lt).trans HK0.out).cell 13
    have q9 : wr.cell? ⟨w.heap.size + 1, 9, none⟩ = some (.int .i64 e.host) := (show Blk wr (w.heap.size + 1) 33 #[.int .i64 e.x.pr, .bool e.x.s6, .int .u64 e.x.sh, .int .u64 e.x.sl, .bool e.x.d6, .int .u64 e.x.dh, .int .u64 e.x.dl, .int .i64 e.x.sp, .int .i64 e.x.dp, .int .i64 e.host, .int .i64 e.state, .int .i64 e.till] from (hbel.block _ HK1.out.lt).trans HK1.out).cell 9
    have HBE := Lib.hid (HW.out.trans (hbel.mono HW.out.size))
    clear hbel
    by_cases hjm : j < m ∧ j < 30
    · obtain ⟨hj3, hj4⟩ := hjm
      have t1 : decide ((j : Int) < m) = true := decide_eq_true (by omega)
      have t2 : decide ((j : Int) < 30) = true := decide_eq_true (by omega)
      have hjl : j < hs.length := by rw [HMM.out]; exact hj3
      rcases HR.out.below HBE.out with h0 | ⟨b, off, hA, hbl, hcell⟩
      · rw [h0] at hjl; simp at hjl
      subst hA
      obtain ⟨z, hz⟩ : ∃ z, z = hs[j] := ⟨_, rfl⟩
      have qz : wr.cell? ⟨b, off + j, none⟩ = some (.int .i64 z) := hz ▸ hcell j hjl
      have HZ := Lib.hid hz
      have j0 : (0 : Int) ≤ j := by omega
      have j1 : (j : Int) < m := by omega
      clear hcell hz
      by_cases hx : z = e.host
      · have qx : (z == e.host) = true := by simp [hx]
        have HF := Lib.hid (show (hs.take 30).contains e.host = true from by
          rw [List.contains_iff_mem, ← hx, HZ.out]
          exact List.mem_take_iff_getElem.mpr ⟨j, by omega, rfl⟩)
        clear hx
        obtain rfl : q = true := HQ.out.trans HF.out
        go_wp2_with fail
        go_region
        all_goals
          go_wp2_with fail
          go_ret
          first | exact ⟨rfl, HBE.out.drew⟩ | exact ⟨rfl, HBE.out⟩
      · have qx : (z == e.host) = false := by simp [hx]
        have HX := Lib.hid (show ∀ h, h ∈ hs.take (j + 1) → h ≠ e.host from fun h0 hh => by
          rw [List.take_add_one, List.mem_append] at hh
          rcases hh with hh | hh
          · exact HNO.out h0 hh
          · rw [List.getElem?_eq_getElem hjl, ← HZ.out] at hh
            simp at hh
            rw [hh]
            exact hx)
        clear hx
        go_wp2_with fail
        go_region
        all_goals
          go_wp2_with fail
          go_roundw
          case rel => exact ⟨j + 1, by go_num, by omega, by omega, HX, KB.out.drew⟩
          case measure => simp [intOf]; omega
    · have hjj : hs.take j = hs.take 30 := by
        have := HMM.out
        rcases Nat.lt_or_ge j 30 with h | h
        · rw [List.take_of_length_le (by omega), List.take_of_length_le (by omega)]
        · rw [show j = 30 by omega]
      have HF := Lib.hid (show (hs.take 30).contains e.host = false from by
        rw [← hjj]
        cases hq2 : (hs.take j).contains e.host with
        | false => rfl
        | true => exact absurd rfl (HNO.out _ (List.contains_iff_mem.mp hq2)))
      obtain rfl : q = false := HQ.out.trans HF.out
      clear hjj
      by_cases h1 : j < m
      · have t1 : decide ((j : Int) < m) = true := decide_eq_true (by omega)
        have t2 : decide ((j : Int) < 30) = false := decide_eq_false (by omega)
        go_wp2_with fail
        go_ret
        first | exact ⟨rfl, HBE.out⟩ | exact ⟨rfl, HBE.out.drew⟩
      · have t1 : decide ((j : Int) < m) = false := decide_eq_false (by omega)
        go_wp2_with fail
        go_ret
        first | exact ⟨rfl, HBE.out⟩ | exact ⟨rfl, HBE.out.drew⟩
end Go.Proofs.Ytmlfpfmpoigfiaa.flowPc
