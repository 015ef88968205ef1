/- Layer 27: the law of FlowHashes. -/
import Derived.Test.YtmlfpfmpoigfiaaFlowZ
namespace Go.Proofs.Ytmlfpfmpoigfiaa.flowHa
open Go.ChangeShapes Go.WideShapes Go.ChangeAt Go.RowKit
open Go.Proofs.Ytmlfpfmpoigfiaa.base Go.Proofs.Ytmlfpfmpoigfiaa.flowA Go.Proofs.Ytmlfpfmpoigfiaa.flowB Go.Proofs.Ytmlfpfmpoigfiaa.flowC Go.Proofs.Ytmlfpfmpoigfiaa.flowD Go.Proofs.Ytmlfpfmpoigfiaa.flowE Go.Proofs.Ytmlfpfmpoigfiaa.flowF Go.Proofs.Ytmlfpfmpoigfiaa.flowG Go.Proofs.Ytmlfpfmpoigfiaa.flowH Go.Proofs.Ytmlfpfmpoigfiaa.flowI Go.Proofs.Ytmlfpfmpoigfiaa.flowL Go.Proofs.Ytmlfpfmpoigfiaa.flowM Go.Proofs.Ytmlfpfmpoigfiaa.flowN Go.Proofs.Ytmlfpfmpoigfiaa.flowO Go.Proofs.Ytmlfpfmpoigfiaa.flowP Go.Proofs.Ytmlfpfmpoigfiaa.flowQ Go.Proofs.Ytmlfpfmpoigfiaa.flowR Go.Proofs.Ytmlfpfmpoigfiaa.flowS Go.Proofs.Ytmlfpfmpoigfiaa.flowT Go.Proofs.Ytmlfpfmpoigfiaa.flowU Go.Proofs.Ytmlfpfmpoigfiaa.flowV Go.Proofs.Ytmlfpfmpoigfiaa.flowW Go.Proofs.Ytmlfpfmpoigfiaa.flowX Go.Proofs.Ytmlfpfmpoigfiaa.flowY Go.Proofs.Ytmlfpfmpoigfiaa.flowZ
set_option linter.unusedVariables false

theorem row_of_blk {w : World} {b B : Nat} {T : TypeId} {vs : List Value} (h : Blk w b T vs.toArray) (hB : b < B) : Row w B (some ⟨b, 0, none⟩) vs := by
  refine .inr ⟨b, 0, rfl, hB, fun i u hu => ?_⟩
  rw [Nat.zero_add, h.cell i]
  simpa using hu
/-- A table that was never made. -/
def zero8 : Array Value := #[.int .i64 0, .int .u64 0, .int .i64 0, .slice none 0 0, .slice none 0 0, .int .i64 0, .int .i64 0, .int .i64 0]
theorem most_zero {w : World} {z : Nat} (h : Blk w z 31 zero8) : Calls Try.prog 11 #[.pointer (some ⟨z, 0, none⟩)] w fun e w' => e = .returned (.int .i64 0) ∧ Below w.heap.size w w' := by
  have HB := Lib.hid (Below.refl w.heap.size w)
  have c0 : w.cell? ⟨z, 0, none⟩ = some (.int .i64 0) := h.cell 0
  clear h
  go_enter Try.func11, Try.ntmps11
  go_wp2_with fail
  go_ret
  first | exact ⟨rfl, HB.out⟩ | exact ⟨rfl, HB.out.drew⟩ | exact ⟨rfl, HB.out.drew.drew⟩
theorem empty_zero {w : World} {z : Nat} (h : Blk w z 31 zero8) : Calls Try.prog 29 #[.pointer (some ⟨z, 0, none⟩)] w fun e w' => e = .returned (.bool true) ∧ Below w.heap.size w w' := by
  have HB := Lib.hid (Below.refl w.heap.size w)
  have c2 : w.cell? ⟨z, 2, none⟩ = some (.int .i64 0) := h.cell 2
  clear h
  go_enter Try.func29, Try.ntmps29
  go_wp2_with fail
  go_ret
  first | exact ⟨rfl, HB.out⟩ | exact ⟨rfl, HB.out.drew⟩ | exact ⟨rfl, HB.out.drew.drew⟩
theorem Bare.zero {w : World} {z : Nat} (h : Blk w z 31 zero8) : Bare (.pointer (some ⟨z, 0, none⟩)) w := fun w' hb => empty_zero ((hb.block z h.lt).trans h)
theorem put_zero {w : World} {z : Nat} (e : Ent) (h : Blk w z 31 zero8) : Calls Try.prog 7 #[.pointer (some ⟨z, 0, none⟩), .agg e.cells] w fun o w' => o = .returned (.tuple #[.agg zeroE.cells, .bool false]) ∧ Below w.heap.size w w' := by
  have hz : z < w.heap.size := h.lt
  have HW := Lib.hid (show Below w.heap.size w ((w.alloc (.cells #[.int .i64 e.x.pr, .bool e.x.s6, .int .u64 e.x.sh, .int .u64 e.x.sl, .bool e.x.d6, .int .u64 e.x.dh, .int .u64 e.x.dl, .int .i64 e.x.sp, .int .i64 e.x.dp, .int .i64 e.host, .int .i64 e.state, .int .i64 e.till] 33)).alloc (.cells #[.int .i64 0, .bool false, .int .u64 0, .int .u64 0, .bool false, .int .u64 0, .int .u64 0, .int .i64 0, .int .i64 0, .int .i64 0, .int .i64 0, .int .i64 0] 33)) from ((Below.refl w.heap.size w).alloc (Nat.le_refl _) _).alloc (by simp) _)
  have HB1 := Lib.hid (show Blk ((w.alloc (.cells #[.int .i64 e.x.pr, .bool e.x.s6, .int .u64 e.x.sh, .int .u64 e.x.sl, .bool e.x.d6, .int .u64 e.x.dh, .int .u64 e.x.dl, .int .i64 e.x.sp, .int .i64 e.x.dp, .int .i64 e.host, .int .i64 e.state, .int .i64 e.till] 33)).alloc (.cells #[.int .i64 0, .bool false, .int .u64 0, .int .u64 0, .bool false, .int .u64 0, .int .u64 0, .int .i64 0, .int .i64 0, .int .i64 0, .int .i64 0, .int .i64 0] 33)) (w.heap.size + 1) 33 zeroE.cells from by
    have := Blk.new (w.alloc (.cells #[.int .i64 e.x.pr, .bool e.x.s6, .int .u64 e.x.sh, .int .u64 e.x.sl, .bool e.x.d6, .int .u64 e.x.dh, .int .u64 e.x.dl, .int .i64 e.x.sp, .int .i64 e.x.dp, .int .i64 e.host, .int .i64 e.state, .int .i64 e.till] 33)) 33 #[.int .i64 0, .bool false, .int .u64 0, .int .u64 0, .bool false, .int .u64 0, .int .u64 0, .int .i64 0, .int .i64 0, .int .i64 0, .int .i64 0, .int .i64 0]
    rw [show (w.alloc (.cells #[.int .i64 e.x.pr, .bool e.x.s6, .int .u64 e.x.sh, .int .u64 e.x.sl, .bool e.x.d6, .int .u64 e.x.dh, .int .u64 e.x.dl, .int .i64 e.x.sp, .int .i64 e.x.dp, .int .i64 e.host, .int .i64 e.state, .int .i64 e.till] 33)).heap.size = w.heap.size + 1 by simp] at this
    exact this)
  have c0 : ((w.alloc (.cells #[.int .i64 e.x.pr, .bool e.x.s6, .int .u64 e.x.sh, .int .u64 e.x.sl, .bool e.x.d6, .int .u64 e.x.dh, .int .u64 e.x.dl, .int .i64 e.x.sp, .int .i64 e.x.dp, .int .i64 e.host, .int .i64 e.state, .int .i64 e.till] 33)).alloc (.cells #[.int .i64 0, .bool false, .int .u64 0, .int .u64 0, .bool false, .int .u64 0, .int .u64 0, .int .i64 0, .int .i64 0, .int .i64 0, .int .i64 0, .int .i64 0] 33)).cell? ⟨z, 0, none⟩ = some (.int .i64 0) := (HW.out.cell (p := ⟨z, 0, none⟩) hz).trans (h.cell 0)
  have HBL := Lib.hid (setRow_heap _ (w.heap.size + 1) _ zeroE.cells _ (0, 0) HB1.out)
  have BZ := Lib.hid (show Below w.heap.size w (((w.alloc (.cells #[.int .i64 e.x.pr, .bool e.x.s6, .int .u64 e.x.sh, .int .u64 e.x.sl, .bool e.x.d6, .int .u64 e.x.dh, .int .u64 e.x.dl, .int .i64 e.x.sp, .int .i64 e.x.dp, .int .i64 e.host, .int .i64 e.state, .int .i64 e.till] 33)).alloc (.cells #[.int .i64 0, .bool false, .int .u64 0, .int .u64 0, .bool false, .int .u64 0, .int .u64 0, .int .i64 0, .int .i64 0, .int .i64 0, .int .i64 0, .int .i64 0] 33)).setRow (w.heap.size + 1) zeroE.cells) from ⟨HW.out.os, HW.out.tape, HW.out.output, Nat.le_trans HW.out.size (by unfold World.setRow; simp), fun k hk => (setRow_other _ _ _ _ (by omega)).trans (HW.out.block k hk)⟩)
  clear h
  unfold Ent.cells
  go_enter Try.func7, Try.ntmps7
  go_wp2_with (refine wpList_store_row rfl 33 _ _ rfl (w.heap.size + 1) zeroE.cells rfl rfl 33 zeroE.cells HB1.out size_e rfl (one_e _) ?_)
  refine bodyPost_ret (results_entry rfl _ _ (w.heap.size + 1) zeroE.cells rfl HBL.out rfl) rfl ⟨rfl, BZ.out⟩
set_option maxRecDepth 100000 in
set_option maxHeartbeats 16000000 in
theorem hashes_x (seed pr sh sl dh dl sp dp : Int) (s6 d6 : Bool) (w : World) :
    Calls Try.prog 3 #[.int .u64 seed, .agg #[.int .i64 pr, .bool s6, .int .u64 sh, .int .u64 sl, .bool d6, .int .u64 dh, .int .u64 dl, .int .i64 sp, .int .i64 dp]] w fun e w' => e = .returned (.bool true) ∧ Below w.heap.size w w' := by
  have hmf : ∀ (fn : Fn) (first cap : Array Value) (w : World), (Instr.makeFunc fn first cap).run Try.prog w = .ok (.func fn first cap) w := fun _ _ _ _ => rfl
  obtain ⟨w2, hw2⟩ : ∃ w2, w2 = (w.alloc (.cells #[.int .i64 pr, .bool s6, .int .u64 sh, .int .u64 sl, .bool d6, .int .u64 dh, .int .u64 dl, .int .i64 sp, .int .i64 dp] 26)).alloc (.cells #[.int .i64 0, .int .u64 0, .int .i64 0, .slice none 0 0, .slice none 0 0, .int .i64 0, .int .i64 0, .int .i64 0] 31) := ⟨_, rfl⟩
  have hs1 : (w.alloc (.cells #[.int .i64 pr, .bool s6, .int .u64 sh, .int .u64 sl, .bool d6, .int .u64 dh, .int .u64 dl, .int .i64 sp, .int .i64 dp] 26)).heap.size = w.heap.size + 1 := by simp
  have bz : Blk w2 (w.heap.size + 1) 31 zero8 := by
    have := Blk.new (w.alloc (.cells #[.int .i64 pr, .bool s6, .int .u64 sh, .int .u64 sl, .bool d6, .int .u64 dh, .int .u64 dl, .int .i64 sp, .int .i64 dp] 26)) 31 #[.int .i64 0, .int .u64 0, .int .i64 0, .slice none 0 0, .slice none 0 0, .int .i64 0, .int .i64 0, .int .i64 0]
    rw [hs1] at this
    rw [hw2]
    exact this
  have bx : Blk w2 w.heap.size 26 #[.int .i64 pr, .bool s6, .int .u64 sh, .int .u64 sl, .bool d6, .int .u64 dh, .int .u64 dl, .int .i64 sp, .int .i64 dp] := by
    rw [hw2]
    exact (Below.heap_alloc _ _ _ (by rw [hs1]; omega)).trans (Blk.new w _ _)
  have hw : Below w.heap.size w w2 := hw2 ▸ ((Below.refl w.heap.size w).alloc (Nat.le_refl _) _).alloc (by simp) _
  have HWW := Lib.hid hw
  have HX := Lib.hid (show ∀ w', Below w2.heap.size w2 w' → Blk w' w.heap.size 26 #[.int .i64 pr, .bool s6, .int .u64 sh, .int .u64 sl, .bool d6, .int .u64 dh, .int .u64 dl, .int .i64 sp, .int .i64 dp] from fun w' hb => (hb.block _ bx.lt).trans bx)
  have HZ := Lib.hid (show ∀ w', Below w2.heap.size w2 w' → Blk w' (w.heap.size + 1) 31 zero8 from fun w' hb => (hb.block _ bz.lt).trans bz)
  have up := fun {w' w'' : World} (hb : Below w2.heap.size w2 w') (h : Below w'.heap.size w' w'') => hb.trans (h.mono hb.size)
  have HGET := Lib.hid (show ∀ w', Below w2.heap.size w2 w' → Calls Try.prog 6 #[.pointer none, .agg #[.int .i64 pr, .bool s6, .int .u64 sh, .int .u64 sl, .bool d6, .int .u64 dh, .int .u64 dl, .int .i64 sp, .int .i64 dp]] w' fun o w'' => o = .returned (.tuple #[.agg #[.int .i64 0, .bool false, .int .u64 0, .int .u64 0, .bool false, .int .u64 0, .int .u64 0, .int .i64 0, .int .i64 0, .int .i64 0, .int .i64 0, .int .i64 0], .bool false]) ∧ Below w2.heap.size w2 w'' from fun w' hb => (get_bare ⟨pr, s6, sh, sl, d6, dh, dl, sp, dp⟩ (Bare.nil w')).mono fun o w'' ⟨a, b⟩ => ⟨a, up hb b⟩)
  have HPUT := Lib.hid (show ∀ w', Below w2.heap.size w2 w' → Calls Try.prog 7 #[.pointer (some ⟨w.heap.size + 1, 0, none⟩), .agg #[.int .i64 pr, .bool s6, .int .u64 sh, .int .u64 sl, .bool d6, .int .u64 dh, .int .u64 dl, .int .i64 sp, .int .i64 dp, .int .i64 0, .int .i64 0, .int .i64 0]] w' fun o w'' => o = .returned (.tuple #[.agg #[.int .i64 0, .bool false, .int .u64 0, .int .u64 0, .bool false, .int .u64 0, .int .u64 0, .int .i64 0, .int .i64 0, .int .i64 0, .int .i64 0, .int .i64 0], .bool false]) ∧ Below w2.heap.size w2 w'' from fun w' hb => (put_zero ⟨⟨pr, s6, sh, sl, d6, dh, dl, sp, dp⟩, 0, 0, 0⟩ (HZ.out w' hb)).mono fun o w'' ⟨a, b⟩ => ⟨a, up hb b⟩)
  have HTOU := Lib.hid (show ∀ w', Below w2.heap.size w2 w' → Calls Try.prog 8 #[.pointer none, .agg #[.int .i64 pr, .bool s6, .int .u64 sh, .int .u64 sl, .bool d6, .int .u64 dh, .int .u64 dl, .int .i64 sp, .int .i64 dp]] w' fun o w'' => o = .returned (.bool false) ∧ Below w2.heap.size w2 w'' from fun w' hb => (touch_bare ⟨pr, s6, sh, sl, d6, dh, dl, sp, dp⟩ (Bare.nil w')).mono fun o w'' ⟨a, b⟩ => ⟨a, up hb b⟩)
  have HREM := Lib.hid (show ∀ w', Below w2.heap.size w2 w' → Calls Try.prog 9 #[.pointer (some ⟨w.heap.size + 1, 0, none⟩), .agg #[.int .i64 pr, .bool s6, .int .u64 sh, .int .u64 sl, .bool d6, .int .u64 dh, .int .u64 dl, .int .i64 sp, .int .i64 dp]] w' fun o w'' => o = .returned (.bool false) ∧ Below w2.heap.size w2 w'' from fun w' hb => (remove_bare ⟨pr, s6, sh, sl, d6, dh, dl, sp, dp⟩ (Bare.zero (HZ.out w' hb))).mono fun o w'' ⟨a, b⟩ => ⟨a, up hb b⟩)
  have HLEN := Lib.hid (show ∀ w', Below w2.heap.size w2 w' → Calls Try.prog 10 #[.pointer none] w' fun o w'' => o = .returned (.int .i64 0) ∧ Below w2.heap.size w2 w'' from fun w' hb => (flowI.len_nil w').mono fun o w'' ⟨a, b⟩ => ⟨a, up hb b⟩)
  have HMOS := Lib.hid (show ∀ w', Below w2.heap.size w2 w' → Calls Try.prog 11 #[.pointer (some ⟨w.heap.size + 1, 0, none⟩)] w' fun o w'' => o = .returned (.int .i64 0) ∧ Below w2.heap.size w2 w'' from fun w' hb => (most_zero (HZ.out w' hb)).mono fun o w'' ⟨a, b⟩ => ⟨a, up hb b⟩)
  have HALL := Lib.hid (show ∀ w', Below w2.heap.size w2 w' → Calls Try.prog 12 #[.pointer none] w' fun o w'' => o = .returned (.slice none 0 0) ∧ Below w2.heap.size w2 w'' from fun w' hb => (all_bare (Bare.nil w')).mono fun o w'' ⟨a, b⟩ => ⟨a, up hb b⟩)
  have HLAT := Lib.hid (show ∀ w', Below w2.heap.size w2 w' → Calls Try.prog 13 #[.pointer (some ⟨w.heap.size + 1, 0, none⟩), .int .i64 5] w' fun o w'' => o = .returned (.slice none 0 0) ∧ Below w2.heap.size w2 w'' from fun w' hb => (late_bare 5 (Bare.zero (HZ.out w' hb))).mono fun o w'' ⟨a, b⟩ => ⟨a, up hb b⟩)
  have HOF := Lib.hid (show ∀ w' A m c, Below w2.heap.size w2 w' → Calls Try.prog 14 #[.pointer none, .slice A m c] w' fun o w'' => o = .returned (.slice none 0 0) ∧ Below w2.heap.size w2 w'' from fun w' A m c hb => (of_bare A m c (Bare.nil w')).mono fun o w'' ⟨a, b⟩ => ⟨a, up hb b⟩)
  have HCLE := Lib.hid (show ∀ w', Below w2.heap.size w2 w' → Calls Try.prog 15 #[.pointer (some ⟨w.heap.size + 1, 0, none⟩)] w' fun o w'' => o = .returned (.slice none 0 0) ∧ Below w2.heap.size w2 w'' from fun w' hb => (clear_bare (Bare.zero (HZ.out w' hb))).mono fun o w'' ⟨a, b⟩ => ⟨a, up hb b⟩)
  have HAWA := Lib.hid (show ∀ w', Below w2.heap.size w2 w' → Calls Try.prog 18 #[] w' fun o w'' => o = .returned (.bool true) ∧ Below w2.heap.size w2 w'' from fun w' hb => (awake_any w').mono fun o w'' ⟨a, b⟩ => ⟨a, up hb b⟩)
  clear bz bx hw up hs1
  cases s6 <;> cases d6
  · have HHAS := Lib.hid (show ∀ w', Calls Try.prog 16 #[.int .u64 seed, .agg #[.int .i64 pr, .bool false, .int .u64 sh, .int .u64 sl, .bool false, .int .u64 dh, .int .u64 dl, .int .i64 sp, .int .i64 dp]] w' fun o w'' => o = .returned (.int .u64 (mixD.ofZ seed [0, IntKind.u64.wrap pr, sh, sl, dh, dl, IntKind.u64.wrap sp, IntKind.u64.wrap dp])) ∧ Below w'.heap.size w' w'' from fun w' => hash_any seed ⟨pr, false, sh, sl, false, dh, dl, sp, dp⟩ w')
    go_enter Try.func3, Try.ntmps3
    go_wp2_with fail
    rw [show (w.alloc (.cells #[.int .i64 pr, .bool false, .int .u64 sh, .int .u64 sl, .bool false, .int .u64 dh, .int .u64 dl, .int .i64 sp, .int .i64 dp] 26)).alloc (.cells #[.int .i64 0, .int .u64 0, .int .i64 0, .slice none 0 0, .slice none 0 0, .int .i64 0, .int .i64 0, .int .i64 0] 31) = w2 from hw2.symm]
    refine (HGET.out _ (Below.refl _ _)).mono ?_
    rintro o w3 ⟨rfl, hb⟩
    have HB := Lib.hid (hb.alloc hb.size (.cells #[.int .i64 0, .bool false, .int .u64 0, .int .u64 0, .bool false, .int .u64 0, .int .u64 0, .int .i64 0, .int .i64 0, .int .i64 0, .int .i64 0, .int .i64 0] 33))
    clear hb hw2
    have b3_0 : (w3.alloc (.cells #[.int .i64 0, .bool false, .int .u64 0, .int .u64 0, .bool false, .int .u64 0, .int .u64 0, .int .i64 0, .int .i64 0, .int .i64 0, .int .i64 0, .int .i64 0] 33)).cell? ⟨w.heap.size, 0, none⟩ = some (.int .i64 pr) := (HX.out _ HB.out).cell 0
    have b3_1 : (w3.alloc (.cells #[.int .i64 0, .bool false, .int .u64 0, .int .u64 0, .bool false, .int .u64 0, .int .u64 0, .int .i64 0, .int .i64 0, .int .i64 0, .int .i64 0, .int .i64 0] 33)).cell? ⟨w.heap.size, 1, none⟩ = some (.bool false) := (HX.out _ HB.out).cell 1
    have b3_2 : (w3.alloc (.cells #[.int .i64 0, .bool false, .int .u64 0, .int .u64 0, .bool false, .int .u64 0, .int .u64 0, .int .i64 0, .int .i64 0, .int .i64 0, .int .i64 0, .int .i64 0] 33)).cell? ⟨w.heap.size, 2, none⟩ = some (.int .u64 sh) := (HX.out _ HB.out).cell 2
    have b3_3 : (w3.alloc (.cells #[.int .i64 0, .bool false, .int .u64 0, .int .u64 0, .bool false, .int .u64 0, .int .u64 0, .int .i64 0, .int .i64 0, .int .i64 0, .int .i64 0, .int .i64 0] 33)).cell? ⟨w.heap.size, 3, none⟩ = some (.int .u64 sl) := (HX.out _ HB.out).cell 3
    have b3_4 : (w3.alloc (.cells #[.int .i64 0, .bool false, .int .u64 0, .int .u64 0, .bool false, .int .u64 0, .int .u64 0, .int .i64 0, .int .i64 0, .int .i64 0, .int .i64 0, .int .i64 0] 33)).cell? ⟨w.heap.size, 4, none⟩ = some (.bool false) := (HX.out _ HB.out).cell 4
    have b3_5 : (w3.alloc (.cells #[.int .i64 0, .bool false, .int .u64 0, .int .u64 0, .bool false, .int .u64 0, .int .u64 0, .int .i64 0, .int .i64 0, .int .i64 0, .int .i64 0, .int .i64 0] 33)).cell? ⟨w.heap.size, 5, none⟩ = some (.int .u64 dh) := (HX.out _ HB.out).cell 5
    have b3_6 : (w3.alloc (.cells #[.int .i64 0, .bool false, .int .u64 0, .int .u64 0, .bool false, .int .u64 0, .int .u64 0, .int .i64 0, .int .i64 0, .int .i64 0, .int .i64 0, .int .i64 0] 33)).cell? ⟨w.heap.size, 6, none⟩ = some (.int .u64 dl) := (HX.out _ HB.out).cell 6
    have b3_7 : (w3.alloc (.cells #[.int .i64 0, .bool false, .int .u64 0, .int .u64 0, .bool false, .int .u64 0, .int .u64 0, .int .i64 0, .int .i64 0, .int .i64 0, .int .i64 0, .int .i64 0] 33)).cell? ⟨w.heap.size, 7, none⟩ = some (.int .i64 sp) := (HX.out _ HB.out).cell 7
    have b3_8 : (w3.alloc (.cells #[.int .i64 0, .bool false, .int .u64 0, .int .u64 0, .bool false, .int .u64 0, .int .u64 0, .int .i64 0, .int .i64 0, .int .i64 0, .int .i64 0, .int .i64 0] 33)).cell? ⟨w.heap.size, 8, none⟩ = some (.int .i64 dp) := (HX.out _ HB.out).cell 8
    go_wp2_with fail
    refine (HPUT.out _ HB.out).mono ?_
    rintro o w4 ⟨rfl, hb⟩
    have HB := Lib.hid (hb.alloc hb.size (.cells #[.int .i64 0, .bool false, .int .u64 0, .int .u64 0, .bool false, .int .u64 0, .int .u64 0, .int .i64 0, .int .i64 0, .int .i64 0, .int .i64 0, .int .i64 0] 33))
    clear hb b3_0 b3_1 b3_2 b3_3 b3_4 b3_5 b3_6 b3_7 b3_8
    have b4_0 : (w4.alloc (.cells #[.int .i64 0, .bool false, .int .u64 0, .int .u64 0, .bool false, .int .u64 0, .int .u64 0, .int .i64 0, .int .i64 0, .int .i64 0, .int .i64 0, .int .i64 0] 33)).cell? ⟨w.heap.size, 0, none⟩ = some (.int .i64 pr) := (HX.out _ HB.out).cell 0
    have b4_1 : (w4.alloc (.cells #[.int .i64 0, .bool false, .int .u64 0, .int .u64 0, .bool false, .int .u64 0, .int .u64 0, .int .i64 0, .int .i64 0, .int .i64 0, .int .i64 0, .int .i64 0] 33)).cell? ⟨w.heap.size, 1, none⟩ = some (.bool false) := (HX.out _ HB.out).cell 1
    have b4_2 : (w4.alloc (.cells #[.int .i64 0, .bool false, .int .u64 0, .int .u64 0, .bool false, .int .u64 0, .int .u64 0, .int .i64 0, .int .i64 0, .int .i64 0, .int .i64 0, .int .i64 0] 33)).cell? ⟨w.heap.size, 2, none⟩ = some (.int .u64 sh) := (HX.out _ HB.out).cell 2
    have b4_3 : (w4.alloc (.cells #[.int .i64 0, .bool false, .int .u64 0, .int .u64 0, .bool false, .int .u64 0, .int .u64 0, .int .i64 0, .int .i64 0, .int .i64 0, .int .i64 0, .int .i64 0] 33)).cell? ⟨w.heap.size, 3, none⟩ = some (.int .u64 sl) := (HX.out _ HB.out).cell 3
    have b4_4 : (w4.alloc (.cells #[.int .i64 0, .bool false, .int .u64 0, .int .u64 0, .bool false, .int .u64 0, .int .u64 0, .int .i64 0, .int .i64 0, .int .i64 0, .int .i64 0, .int .i64 0] 33)).cell? ⟨w.heap.size, 4, none⟩ = some (.bool false) := (HX.out _ HB.out).cell 4
    have b4_5 : (w4.alloc (.cells #[.int .i64 0, .bool false, .int .u64 0, .int .u64 0, .bool false, .int .u64 0, .int .u64 0, .int .i64 0, .int .i64 0, .int .i64 0, .int .i64 0, .int .i64 0] 33)).cell? ⟨w.heap.size, 5, none⟩ = some (.int .u64 dh) := (HX.out _ HB.out).cell 5
    have b4_6 : (w4.alloc (.cells #[.int .i64 0, .bool false, .int .u64 0, .int .u64 0, .bool false, .int .u64 0, .int .u64 0, .int .i64 0, .int .i64 0, .int .i64 0, .int .i64 0, .int .i64 0] 33)).cell? ⟨w.heap.size, 6, none⟩ = some (.int .u64 dl) := (HX.out _ HB.out).cell 6
    have b4_7 : (w4.alloc (.cells #[.int .i64 0, .bool false, .int .u64 0, .int .u64 0, .bool false, .int .u64 0, .int .u64 0, .int .i64 0, .int .i64 0, .int .i64 0, .int .i64 0, .int .i64 0] 33)).cell? ⟨w.heap.size, 7, none⟩ = some (.int .i64 sp) := (HX.out _ HB.out).cell 7
    have b4_8 : (w4.alloc (.cells #[.int .i64 0, .bool false, .int .u64 0, .int .u64 0, .bool false, .int .u64 0, .int .u64 0, .int .i64 0, .int .i64 0, .int .i64 0, .int .i64 0, .int .i64 0] 33)).cell? ⟨w.heap.size, 8, none⟩ = some (.int .i64 dp) := (HX.out _ HB.out).cell 8
    go_wp2_with fail
    refine (HTOU.out _ HB.out).mono ?_
    rintro o w5 ⟨rfl, hb⟩
    have HB := Lib.hid hb
    clear hb b4_0 b4_1 b4_2 b4_3 b4_4 b4_5 b4_6 b4_7 b4_8
    have b5_0 : w5.cell? ⟨w.heap.size, 0, none⟩ = some (.int .i64 pr) := (HX.out _ HB.out).cell 0
    have b5_1 : w5.cell? ⟨w.heap.size, 1, none⟩ = some (.bool false) := (HX.out _ HB.out).cell 1
    have b5_2 : w5.cell? ⟨w.heap.size, 2, none⟩ = some (.int .u64 sh) := (HX.out _ HB.out).cell 2
    have b5_3 : w5.cell? ⟨w.heap.size, 3, none⟩ = some (.int .u64 sl) := (HX.out _ HB.out).cell 3
    have b5_4 : w5.cell? ⟨w.heap.size, 4, none⟩ = some (.bool false) := (HX.out _ HB.out).cell 4
    have b5_5 : w5.cell? ⟨w.heap.size, 5, none⟩ = some (.int .u64 dh) := (HX.out _ HB.out).cell 5
    have b5_6 : w5.cell? ⟨w.heap.size, 6, none⟩ = some (.int .u64 dl) := (HX.out _ HB.out).cell 6
    have b5_7 : w5.cell? ⟨w.heap.size, 7, none⟩ = some (.int .i64 sp) := (HX.out _ HB.out).cell 7
    have b5_8 : w5.cell? ⟨w.heap.size, 8, none⟩ = some (.int .i64 dp) := (HX.out _ HB.out).cell 8
    go_wp2_with fail
    refine (HREM.out _ HB.out).mono ?_
    rintro o w6 ⟨rfl, hb⟩
    have HB := Lib.hid hb
    clear hb b5_0 b5_1 b5_2 b5_3 b5_4 b5_5 b5_6 b5_7 b5_8
    go_wp2_with fail
    refine (HLEN.out _ (by first | exact HB.out | exact HB.out.drew | exact HB.out.alloc HB.out.size _)).mono ?_
    rintro o w7 ⟨rfl, hb⟩
    have HB := Lib.hid hb
    clear hb
    go_wp2_with fail
    refine (HMOS.out _ (by first | exact HB.out | exact HB.out.drew | exact HB.out.alloc HB.out.size _)).mono ?_
    rintro o w8 ⟨rfl, hb⟩
    have HB := Lib.hid hb
    clear hb
    go_wp2_with fail
    refine (HALL.out _ (by first | exact HB.out | exact HB.out.drew | exact HB.out.alloc HB.out.size _)).mono ?_
    rintro o w9 ⟨rfl, hb⟩
    have HB := Lib.hid hb
    clear hb
    go_wp2_with fail
    refine (HLAT.out _ (by first | exact HB.out | exact HB.out.drew | exact HB.out.alloc HB.out.size _)).mono ?_
    rintro o w10 ⟨rfl, hb⟩
    have HB := Lib.hid hb
    clear hb
    go_wp2_with fail
    refine (HOF.out _ _ _ _ (by first | exact HB.out | exact HB.out.drew | exact HB.out.alloc HB.out.size _)).mono ?_
    rintro o w11 ⟨rfl, hb⟩
    have HB := Lib.hid hb
    clear hb
    go_wp2_with fail
    refine (HCLE.out _ (by first | exact HB.out | exact HB.out.drew | exact HB.out.alloc HB.out.size _)).mono ?_
    rintro o w12 ⟨rfl, hb⟩
    have HB := Lib.hid hb
    clear hb
    have b9_0 : w12.cell? ⟨w.heap.size, 0, none⟩ = some (.int .i64 pr) := (HX.out _ HB.out).cell 0
    have b9_1 : w12.cell? ⟨w.heap.size, 1, none⟩ = some (.bool false) := (HX.out _ HB.out).cell 1
    have b9_2 : w12.cell? ⟨w.heap.size, 2, none⟩ = some (.int .u64 sh) := (HX.out _ HB.out).cell 2
    have b9_3 : w12.cell? ⟨w.heap.size, 3, none⟩ = some (.int .u64 sl) := (HX.out _ HB.out).cell 3
    have b9_4 : w12.cell? ⟨w.heap.size, 4, none⟩ = some (.bool false) := (HX.out _ HB.out).cell 4
    have b9_5 : w12.cell? ⟨w.heap.size, 5, none⟩ = some (.int .u64 dh) := (HX.out _ HB.out).cell 5
    have b9_6 : w12.cell? ⟨w.heap.size, 6, none⟩ = some (.int .u64 dl) := (HX.out _ HB.out).cell 6
    have b9_7 : w12.cell? ⟨w.heap.size, 7, none⟩ = some (.int .i64 sp) := (HX.out _ HB.out).cell 7
    have b9_8 : w12.cell? ⟨w.heap.size, 8, none⟩ = some (.int .i64 dp) := (HX.out _ HB.out).cell 8
    have HB2 := Lib.hid (HB.out.alloc HB.out.size (.cells #[.int .u64 0, .int .u64 (IntKind.u64.wrap pr), .int .u64 sh, .int .u64 sl, .int .u64 dh, .int .u64 dl, .int .u64 (IntKind.u64.wrap sp), .int .u64 (IntKind.u64.wrap dp)] 22))
    have b8_0 : (w12.alloc (.cells #[.int .u64 0, .int .u64 (IntKind.u64.wrap pr), .int .u64 sh, .int .u64 sl, .int .u64 dh, .int .u64 dl, .int .u64 (IntKind.u64.wrap sp), .int .u64 (IntKind.u64.wrap dp)] 22)).cell? ⟨w.heap.size, 0, none⟩ = some (.int .i64 pr) := (HX.out _ HB2.out).cell 0
    have b8_1 : (w12.alloc (.cells #[.int .u64 0, .int .u64 (IntKind.u64.wrap pr), .int .u64 sh, .int .u64 sl, .int .u64 dh, .int .u64 dl, .int .u64 (IntKind.u64.wrap sp), .int .u64 (IntKind.u64.wrap dp)] 22)).cell? ⟨w.heap.size, 1, none⟩ = some (.bool false) := (HX.out _ HB2.out).cell 1
    have b8_2 : (w12.alloc (.cells #[.int .u64 0, .int .u64 (IntKind.u64.wrap pr), .int .u64 sh, .int .u64 sl, .int .u64 dh, .int .u64 dl, .int .u64 (IntKind.u64.wrap sp), .int .u64 (IntKind.u64.wrap dp)] 22)).cell? ⟨w.heap.size, 2, none⟩ = some (.int .u64 sh) := (HX.out _ HB2.out).cell 2
    have b8_3 : (w12.alloc (.cells #[.int .u64 0, .int .u64 (IntKind.u64.wrap pr), .int .u64 sh, .int .u64 sl, .int .u64 dh, .int .u64 dl, .int .u64 (IntKind.u64.wrap sp), .int .u64 (IntKind.u64.wrap dp)] 22)).cell? ⟨w.heap.size, 3, none⟩ = some (.int .u64 sl) := (HX.out _ HB2.out).cell 3
    have b8_4 : (w12.alloc (.cells #[.int .u64 0, .int .u64 (IntKind.u64.wrap pr), .int .u64 sh, .int .u64 sl, .int .u64 dh, .int .u64 dl, .int .u64 (IntKind.u64.wrap sp), .int .u64 (IntKind.u64.wrap dp)] 22)).cell? ⟨w.heap.size, 4, none⟩ = some (.bool false) := (HX.out _ HB2.out).cell 4
    have b8_5 : (w12.alloc (.cells #[.int .u64 0, .int .u64 (IntKind.u64.wrap pr), .int .u64 sh, .int .u64 sl, .int .u64 dh, .int .u64 dl, .int .u64 (IntKind.u64.wrap sp), .int .u64 (IntKind.u64.wrap dp)] 22)).cell? ⟨w.heap.size, 5, none⟩ = some (.int .u64 dh) := (HX.out _ HB2.out).cell 5
    have b8_6 : (w12.alloc (.cells #[.int .u64 0, .int .u64 (IntKind.u64.wrap pr), .int .u64 sh, .int .u64 sl, .int .u64 dh, .int .u64 dl, .int .u64 (IntKind.u64.wrap sp), .int .u64 (IntKind.u64.wrap dp)] 22)).cell? ⟨w.heap.size, 6, none⟩ = some (.int .u64 dl) := (HX.out _ HB2.out).cell 6
    have b8_7 : (w12.alloc (.cells #[.int .u64 0, .int .u64 (IntKind.u64.wrap pr), .int .u64 sh, .int .u64 sl, .int .u64 dh, .int .u64 dl, .int .u64 (IntKind.u64.wrap sp), .int .u64 (IntKind.u64.wrap dp)] 22)).cell? ⟨w.heap.size, 7, none⟩ = some (.int .i64 sp) := (HX.out _ HB2.out).cell 7
    have b8_8 : (w12.alloc (.cells #[.int .u64 0, .int .u64 (IntKind.u64.wrap pr), .int .u64 sh, .int .u64 sl, .int .u64 dh, .int .u64 dl, .int .u64 (IntKind.u64.wrap sp), .int .u64 (IntKind.u64.wrap dp)] 22)).cell? ⟨w.heap.size, 8, none⟩ = some (.int .i64 dp) := (HX.out _ HB2.out).cell 8
    have BN := Lib.hid (Blk.new w12 22 #[.int .u64 0, .int .u64 (IntKind.u64.wrap pr), .int .u64 sh, .int .u64 sl, .int .u64 dh, .int .u64 dl, .int .u64 (IntKind.u64.wrap sp), .int .u64 (IntKind.u64.wrap dp)])
    go_wp2_with fail
    refine (HHAS.out _).mono ?_
    rintro o w13 ⟨rfl, hb⟩
    have HB3 := Lib.hid (HB2.out.trans (hb.mono HB2.out.size))
    have HRW := Lib.hid (show Row w13 (w12.heap.size + 1) (some ⟨w12.heap.size, 0, none⟩) ([0, IntKind.u64.wrap pr, sh, sl, dh, dl, IntKind.u64.wrap sp, IntKind.u64.wrap dp].map (.int .u64)) from row_of_blk ((hb.block _ BN.out.lt).trans BN.out) (by omega))
    clear hb
    go_wp2_with fail
    refine (mixD.refof_any seed (some ⟨w12.heap.size, 0, none⟩) 8 8 [0, IntKind.u64.wrap pr, sh, sl, dh, dl, IntKind.u64.wrap sp, IntKind.u64.wrap dp] _ (w12.heap.size + 1) rfl (by omega) HRW.out).mono ?_
    rintro o w14 ⟨rfl, rfl⟩
    go_wp2_with fail
    refine (HAWA.out _ HB3.out).mono ?_
    rintro o w15 ⟨rfl, hb⟩
    have HB := Lib.hid (HWW.out.trans (hb.mono HWW.out.size))
    clear hb
    go_wp2_with fail
    go_ret
    first | exact ⟨rfl, HB.out⟩ | exact ⟨rfl, HB.out.drew⟩
  · have HHAS := Lib.hid (show ∀ w', Calls Try.prog 16 #[.int .u64 seed, .agg #[.int .i64 pr, .bool false, .int .u64 sh, .int .u64 sl, .bool true, .int .u64 dh, .int .u64 dl, .int .i64 sp, .int .i64 dp]] w' fun o w'' => o = .returned (.int .u64 (mixD.ofZ seed [2, IntKind.u64.wrap pr, sh, sl, dh, dl, IntKind.u64.wrap sp, IntKind.u64.wrap dp])) ∧ Below w'.heap.size w' w'' from fun w' => hash_any seed ⟨pr, false, sh, sl, true, dh, dl, sp, dp⟩ w')
    go_enter Try.func3, Try.ntmps3
    go_wp2_with fail
    rw [show (w.alloc (.cells #[.int .i64 pr, .bool false, .int .u64 sh, .int .u64 sl, .bool true, .int .u64 dh, .int .u64 dl, .int .i64 sp, .int .i64 dp] 26)).alloc (.cells #[.int .i64 0, .int .u64 0, .int .i64 0, .slice none 0 0, .slice none 0 0, .int .i64 0, .int .i64 0, .int .i64 0] 31) = w2 from hw2.symm]
    refine (HGET.out _ (Below.refl _ _)).mono ?_
    rintro o w3 ⟨rfl, hb⟩
    have HB := Lib.hid (hb.alloc hb.size (.cells #[.int .i64 0, .bool false, .int .u64 0, .int .u64 0, .bool false, .int .u64 0, .int .u64 0, .int .i64 0, .int .i64 0, .int .i64 0, .int .i64 0, .int .i64 0] 33))
    clear hb hw2
    have b3_0 : (w3.alloc (.cells #[.int .i64 0, .bool false, .int .u64 0, .int .u64 0, .bool false, .int .u64 0, .int .u64 0, .int .i64 0, .int .i64 0, .int .i64 0, .int .i64 0, .int .i64 0] 33)).cell? ⟨w.heap.size, 0, none⟩ = some (.int .i64 pr) := (HX.out _ HB.out).cell 0
    have b3_1 : (w3.alloc (.cells #[.int .i64 0, .bool false, .int .u64 0, .int .u64 0, .bool false, .int .u64 0, .int .u64 0, .int .i64 0, .int .i64 0, .int .i64 0, .int .i64 0, .int .i64 0] 33)).cell? ⟨w.heap.size, 1, none⟩ = some (.bool false) := (HX.out _ HB.out).cell 1
    have b3_2 : (w3.alloc (.cells #[.int .i64 0, .bool false, .int .u64 0, .int .u64 0, .bool false, .int .u64 0, .int .u64 0, .int .i64 0, .int .i64 0, .int .i64 0, .int .i64 0, .int .i64 0] 33)).cell? ⟨w.heap.size, 2, none⟩ = some (.int .u64 sh) := (HX.out _ HB.out).cell 2
    have b3_3 : (w3.alloc (.cells #[.int .i64 0, .bool false, .int .u64 0, .int .u64 0, .bool false, .int .u64 0, .int .u64 0, .int .i64 0, .int .i64 0, .int .i64 0, .int .i64 0, .int .i64 0] 33)).cell? ⟨w.heap.size, 3, none⟩ = some (.int .u64 sl) := (HX.out _ HB.out).cell 3
    have b3_4 : (w3.alloc (.cells #[.int .i64 0, .bool false, .int .u64 0, .int .u64 0, .bool false, .int .u64 0, .int .u64 0, .int .i64 0, .int .i64 0, .int .i64 0, .int .i64 0, .int .i64 0] 33)).cell? ⟨w.heap.size, 4, none⟩ = some (.bool true) := (HX.out _ HB.out).cell 4
    have b3_5 : (w3.alloc (.cells #[.int .i64 0, .bool false, .int .u64 0, .int .u64 0, .bool false, .int .u64 0, .int .u64 0, .int .i64 0, .int .i64 0, .int .i64 0, .int .i64 0, .int .i64 0] 33)).cell? ⟨w.heap.size, 5, none⟩ = some (.int .u64 dh) := (HX.out _ HB.out).cell 5
    have b3_6 : (w3.alloc (.cells #[.int .i64 0, .bool false, .int .u64 0, .int .u64 0, .bool false, .int .u64 0, .int .u64 0, .int .i64 0, .int .i64 0, .int .i64 0, .int .i64 0, .int .i64 0] 33)).cell? ⟨w.heap.size, 6, none⟩ = some (.int .u64 dl) := (HX.out _ HB.out).cell 6
    have b3_7 : (w3.alloc (.cells #[.int .i64 0, .bool false, .int .u64 0, .int .u64 0, .bool false, .int .u64 0, .int .u64 0, .int .i64 0, .int .i64 0, .int .i64 0, .int .i64 0, .int .i64 0] 33)).cell? ⟨w.heap.size, 7, none⟩ = some (.int .i64 sp) := (HX.out _ HB.out).cell 7
    have b3_8 : (w3.alloc (.cells #[.int .i64 0, .bool false, .int .u64 0, .int .u64 0, .bool false, .int .u64 0, .int .u64 0, .int .i64 0, .int .i64 0, .int .i64 0, .int .i64 0, .int .i64 0] 33)).cell? ⟨w.heap.size, 8, none⟩ = some (.int .i64 dp) := (HX.out _ HB.out).cell 8
    go_wp2_with fail
    refine (HPUT.out _ HB.out).mono ?_
    rintro o w4 ⟨rfl, hb⟩
    have HB := Lib.hid (hb.alloc hb.size (.cells #[.int .i64 0, .bool false, .int .u64 0, .int .u64 0, .bool false, .int .u64 0, .int .u64 0, .int .i64 0, .int .i64 0, .int .i64 0, .int .i64 0, .int .i64 0] 33))
    clear hb b3_0 b3_1 b3_2 b3_3 b3_4 b3_5 b3_6 b3_7 b3_8
    have b4_0 : (w4.alloc (.cells #[.int .i64 0, .bool false, .int .u64 0, .int .u64 0, .bool false, .int .u64 0, .int .u64 0, .int .i64 0, .int .i64 0, .int .i64 0, .int .i64 0, .int .i64 0] 33)).cell? ⟨w.heap.size, 0, none⟩ = some (.int .i64 pr) := (HX.out _ HB.out).cell 0
    have b4_1 : (w4.alloc (.cells #[.int .i64 0, .bool false, .int .u64 0, .int .u64 0, .bool false, .int .u64 0, .int .u64 0, .int .i64 0, .int .i64 0, .int .i64 0, .int .i64 0, .int .i64 0] 33)).cell? ⟨w.heap.size, 1, none⟩ = some (.bool false) := (HX.out _ HB.out).cell 1
    have b4_2 : (w4.alloc (.cells #[.int .i64 0, .bool false, .int .u64 0, .int .u64 0, .bool false, .int .u64 0, .int .u64 0, .int .i64 0, .int .i64 0, .int .i64 0, .int .i64 0, .int .i64 0] 33)).cell? ⟨w.heap.size, 2, none⟩ = some (.int .u64 sh) := (HX.out _ HB.out).cell 2
    have b4_3 : (w4.alloc (.cells #[.int .i64 0, .bool false, .int .u64 0, .int .u64 0, .bool false, .int .u64 0, .int .u64 0, .int .i64 0, .int .i64 0, .int .i64 0, .int .i64 0, .int .i64 0] 33)).cell? ⟨w.heap.size, 3, none⟩ = some (.int .u64 sl) := (HX.out _ HB.out).cell 3
    have b4_4 : (w4.alloc (.cells #[.int .i64 0, .bool false, .int .u64 0, .int .u64 0, .bool false, .int .u64 0, .int .u64 0, .int .i64 0, .int .i64 0, .int .i64 0, .int .i64 0, .int .i64 0] 33)).cell? ⟨w.heap.size, 4, none⟩ = some (.bool true) := (HX.out _ HB.out).cell 4
    have b4_5 : (w4.alloc (.cells #[.int .i64 0, .bool false, .int .u64 0, .int .u64 0, .bool false, .int .u64 0, .int .u64 0, .int .i64 0, .int .i64 0, .int .i64 0, .int .i64 0, .int .i64 0] 33)).cell? ⟨w.heap.size, 5, none⟩ = some (.int .u64 dh) := (HX.out _ HB.out).cell 5
    have b4_6 : (w4.alloc (.cells #[.int .i64 0, .bool false, .int .u64 0, .int .u64 0, .bool false, .int .u64 0, .int .u64 0, .int .i64 0, .int .i64 0, .int .i64 0, .int .i64 0, .int .i64 0] 33)).cell? ⟨w.heap.size, 6, none⟩ = some (.int .u64 dl) := (HX.out _ HB.out).cell 6
    have b4_7 : (w4.alloc (.cells #[.int .i64 0, .bool false, .int .u64 0, .int .u64 0, .bool false, .int .u64 0, .int .u64 0, .int .i64 0, .int .i64 0, .int .i64 0, .int .i64 0, .int .i64 0] 33)).cell? ⟨w.heap.size, 7, none⟩ = some (.int .i64 sp) := (HX.out _ HB.out).cell 7
    have b4_8 : (w4.alloc (.cells #[.int .i64 0, .bool false, .int .u64 0, .int .u64 0, .bool false, .int .u64 0, .int .u64 0, .int .i64 0, .int .i64 0, .int .i64 0, .int .i64 0, .int .i64 0] 33)).cell? ⟨w.heap.size, 8, none⟩ = some (.int .i64 dp) := (HX.out _ HB.out).cell 8
    go_wp2_with fail
    refine (HTOU.out _ HB.out).mono ?_
    rintro o w5 ⟨rfl, hb⟩
    have HB := Lib.hid hb
    clear hb b4_0 b4_1 b4_2 b4_3 b4_4 b4_5 b4_6 b4_7 b4_8
    have b5_0 : w5.cell? ⟨w.heap.size, 0, none⟩ = some (.int .i64 pr) := (HX.out _ HB.out).cell 0
    have b5_1 : w5.cell? ⟨w.heap.size, 1, none⟩ = some (.bool false) := (HX.out _ HB.out).cell 1
    have b5_2 : w5.cell? ⟨w.heap.size, 2, none⟩ = some (.int .u64 sh) := (HX.out _ HB.out).cell 2
    have b5_3 : w5.cell? ⟨w.heap.size, 3, none⟩ = some (.int .u64 sl) := (HX.out _ HB.out).cell 3
    have b5_4 : w5.cell? ⟨w.heap.size, 4, none⟩ = some (.bool true) := (HX.out _ HB.out).cell 4
    have b5_5 : w5.cell? ⟨w.heap.size, 5, none⟩ = some (.int .u64 dh) := (HX.out _ HB.out).cell 5
    have b5_6 : w5.cell? ⟨w.heap.size, 6, none⟩ = some (.int .u64 dl) := (HX.out _ HB.out).cell 6
    have b5_7 : w5.cell? ⟨w.heap.size, 7, none⟩ = some (.int .i64 sp) := (HX.out _ HB.out).cell 7
    have b5_8 : w5.cell? ⟨w.heap.size, 8, none⟩ = some (.int .i64 dp) := (HX.out _ HB.out).cell 8
    go_wp2_with fail
    refine (HREM.out _ HB.out).mono ?_
    rintro o w6 ⟨rfl, hb⟩
    have HB := Lib.hid hb
    clear hb b5_0 b5_1 b5_2 b5_3 b5_4 b5_5 b5_6 b5_7 b5_8
    go_wp2_with fail
    refine (HLEN.out _ (by first | exact HB.out | exact HB.out.drew | exact HB.out.alloc HB.out.size _)).mono ?_
    rintro o w7 ⟨rfl, hb⟩
    have HB := Lib.hid hb
    clear hb
    go_wp2_with fail
    refine (HMOS.out _ (by first | exact HB.out | exact HB.out.drew | exact HB.out.alloc HB.out.size _)).mono ?_
    rintro o w8 ⟨rfl, hb⟩
    have HB := Lib.hid hb
    clear hb
    go_wp2_with fail
    refine (HALL.out _ (by first | exact HB.out | exact HB.out.drew | exact HB.out.alloc HB.out.size _)).mono ?_
    rintro o w9 ⟨rfl, hb⟩
    have HB := Lib.hid hb
    clear hb
    go_wp2_with fail
    refine (HLAT.out _ (by first | exact HB.out | exact HB.out.drew | exact HB.out.alloc HB.out.size _)).mono ?_
    rintro o w10 ⟨rfl, hb⟩
    have HB := Lib.hid hb
    clear hb
    go_wp2_with fail
    refine (HOF.out _ _ _ _ (by first | exact HB.out | exact HB.out.drew | exact HB.out.alloc HB.out.size _)).mono ?_
    rintro o w11 ⟨rfl, hb⟩
    have HB := Lib.hid hb
    clear hb
    go_wp2_with fail
    refine (HCLE.out _ (by first | exact HB.out | exact HB.out.drew | exact HB.out.alloc HB.out.size _)).mono ?_
    rintro o w12 ⟨rfl, hb⟩
    have HB := Lib.hid hb
    clear hb
    have b9_0 : w12.cell? ⟨w.heap.size, 0, none⟩ = some (.int .i64 pr) := (HX.out _ HB.out).cell 0
    have b9_1 : w12.cell? ⟨w.heap.size, 1, none⟩ = some (.bool false) := (HX.out _ HB.out).cell 1
    have b9_2 : w12.cell? ⟨w.heap.size, 2, none⟩ = some (.int .u64 sh) := (HX.out _ HB.out).cell 2
    have b9_3 : w12.cell? ⟨w.heap.size, 3, none⟩ = some (.int .u64 sl) := (HX.out _ HB.out).cell 3
    have b9_4 : w12.cell? ⟨w.heap.size, 4, none⟩ = some (.bool true) := (HX.out _ HB.out).cell 4
    have b9_5 : w12.cell? ⟨w.heap.size, 5, none⟩ = some (.int .u64 dh) := (HX.out _ HB.out).cell 5
    have b9_6 : w12.cell? ⟨w.heap.size, 6, none⟩ = some (.int .u64 dl) := (HX.out _ HB.out).cell 6
    have b9_7 : w12.cell? ⟨w.heap.size, 7, none⟩ = some (.int .i64 sp) := (HX.out _ HB.out).cell 7
    have b9_8 : w12.cell? ⟨w.heap.size, 8, none⟩ = some (.int .i64 dp) := (HX.out _ HB.out).cell 8
    have HB2 := Lib.hid (HB.out.alloc HB.out.size (.cells #[.int .u64 2, .int .u64 (IntKind.u64.wrap pr), .int .u64 sh, .int .u64 sl, .int .u64 dh, .int .u64 dl, .int .u64 (IntKind.u64.wrap sp), .int .u64 (IntKind.u64.wrap dp)] 22))
    have b8_0 : (w12.alloc (.cells #[.int .u64 2, .int .u64 (IntKind.u64.wrap pr), .int .u64 sh, .int .u64 sl, .int .u64 dh, .int .u64 dl, .int .u64 (IntKind.u64.wrap sp), .int .u64 (IntKind.u64.wrap dp)] 22)).cell? ⟨w.heap.size, 0, none⟩ = some (.int .i64 pr) := (HX.out _ HB2.out).cell 0
    have b8_1 : (w12.alloc (.cells #[.int .u64 2, .int .u64 (IntKind.u64.wrap pr), .int .u64 sh, .int .u64 sl, .int .u64 dh, .int .u64 dl, .int .u64 (IntKind.u64.wrap sp), .int .u64 (IntKind.u64.wrap dp)] 22)).cell? ⟨w.heap.size, 1, none⟩ = some (.bool false) := (HX.out _ HB2.out).cell 1
    have b8_2 : (w12.alloc (.cells #[.int .u64 2, .int .u64 (IntKind.u64.wrap pr), .int .u64 sh, .int .u64 sl, .int .u64 dh, .int .u64 dl, .int .u64 (IntKind.u64.wrap sp), .int .u64 (IntKind.u64.wrap dp)] 22)).cell? ⟨w.heap.size, 2, none⟩ = some (.int .u64 sh) := (HX.out _ HB2.out).cell 2
    have b8_3 : (w12.alloc (.cells #[.int .u64 2, .int .u64 (IntKind.u64.wrap pr), .int .u64 sh, .int .u64 sl, .int .u64 dh, .int .u64 dl, .int .u64 (IntKind.u64.wrap sp), .int .u64 (IntKind.u64.wrap dp)] 22)).cell? ⟨w.heap.size, 3, none⟩ = some (.int .u64 sl) := (HX.out _ HB2.out).cell 3
    have b8_4 : (w12.alloc (.cells #[.int .u64 2, .int .u64 (IntKind.u64.wrap pr), .int .u64 sh, .int .u64 sl, .int .u64 dh, .int .u64 dl, .int .u64 (IntKind.u64.wrap sp), .int .u64 (IntKind.u64.wrap dp)] 22)).cell? ⟨w.heap.size, 4, none⟩ = some (.bool true) := (HX.out _ HB2.out).cell 4
    have b8_5 : (w12.alloc (.cells #[.int .u64 2, .int .u64 (IntKind.u64.wrap pr), .int .u64 sh, .int .u64 sl, .int .u64 dh, .int .u64 dl, .int .u64 (IntKind.u64.wrap sp), .int .u64 (IntKind.u64.wrap dp)] 22)).cell? ⟨w.heap.size, 5, none⟩ = some (.int .u64 dh) := (HX.out _ HB2.out).cell 5
    have b8_6 : (w12.alloc (.cells #[.int .u64 2, .int .u64 (IntKind.u64.wrap pr), .int .u64 sh, .int .u64 sl, .int .u64 dh, .int .u64 dl, .int .u64 (IntKind.u64.wrap sp), .int .u64 (IntKind.u64.wrap dp)] 22)).cell? ⟨w.heap.size, 6, none⟩ = some (.int .u64 dl) := (HX.out _ HB2.out).cell 6
    have b8_7 : (w12.alloc (.cells #[.int .u64 2, .int .u64 (IntKind.u64.wrap pr), .int .u64 sh, .int .u64 sl, .int .u64 dh, .int .u64 dl, .int .u64 (IntKind.u64.wrap sp), .int .u64 (IntKind.u64.wrap dp)] 22)).cell? ⟨w.heap.size, 7, none⟩ = some (.int .i64 sp) := (HX.out _ HB2.out).cell 7
    have b8_8 : (w12.alloc (.cells #[.int .u64 2, .int .u64 (IntKind.u64.wrap pr), .int .u64 sh, .int .u64 sl, .int .u64 dh, .int .u64 dl, .int .u64 (IntKind.u64.wrap sp), .int .u64 (IntKind.u64.wrap dp)] 22)).cell? ⟨w.heap.size, 8, none⟩ = some (.int .i64 dp) := (HX.out _ HB2.out).cell 8
    have BN := Lib.hid (Blk.new w12 22 #[.int .u64 2, .int .u64 (IntKind.u64.wrap pr), .int .u64 sh, .int .u64 sl, .int .u64 dh, .int .u64 dl, .int .u64 (IntKind.u64.wrap sp), .int .u64 (IntKind.u64.wrap dp)])
    go_wp2_with fail
    refine (HHAS.out _).mono ?_
    rintro o w13 ⟨rfl, hb⟩
    have HB3 := Lib.hid (HB2.out.trans (hb.mono HB2.out.size))
    have HRW := Lib.hid (show Row w13 (w12.heap.size + 1) (some ⟨w12.heap.size, 0, none⟩) ([2, IntKind.u64.wrap pr, sh, sl, dh, dl, IntKind.u64.wrap sp, IntKind.u64.wrap dp].map (.int .u64)) from row_of_blk ((hb.block _ BN.out.lt).trans BN.out) (by omega))
    clear hb
    go_wp2_with fail
    refine (mixD.refof_any seed (some ⟨w12.heap.size, 0, none⟩) 8 8 [2, IntKind.u64.wrap pr, sh, sl, dh, dl, IntKind.u64.wrap sp, IntKind.u64.wrap dp] _ (w12.heap.size + 1) rfl (by omega) HRW.out).mono ?_
    rintro o w14 ⟨rfl, rfl⟩
    go_wp2_with fail
    refine (HAWA.out _ HB3.out).mono ?_
    rintro o w15 ⟨rfl, hb⟩
    have HB := Lib.hid (HWW.out.trans (hb.mono HWW.out.size))
    clear hb
    go_wp2_with fail
    go_ret
    first | exact ⟨rfl, HB.out⟩ | exact ⟨rfl, HB.out.drew⟩
  · have HHAS := Lib.hid (show ∀ w', Calls Try.prog 16 #[.int .u64 seed, .agg #[.int .i64 pr, .bool true, .int .u64 sh, .int .u64 sl, .bool false, .int .u64 dh, .int .u64 dl, .int .i64 sp, .int .i64 dp]] w' fun o w'' => o = .returned (.int .u64 (mixD.ofZ seed [1, IntKind.u64.wrap pr, sh, sl, dh, dl, IntKind.u64.wrap sp, IntKind.u64.wrap dp])) ∧ Below w'.heap.size w' w'' from fun w' => hash_any seed ⟨pr, true, sh, sl, false, dh, dl, sp, dp⟩ w')
    go_enter Try.func3, Try.ntmps3
    go_wp2_with fail
    rw [show (w.alloc (.cells #[.int .i64 pr, .bool true, .int .u64 sh, .int .u64 sl, .bool false, .int .u64 dh, .int .u64 dl, .int .i64 sp, .int .i64 dp] 26)).alloc (.cells #[.int .i64 0, .int .u64 0, .int .i64 0, .slice none 0 0, .slice none 0 0, .int .i64 0, .int .i64 0, .int .i64 0] 31) = w2 from hw2.symm]
    refine (HGET.out _ (Below.refl _ _)).mono ?_
    rintro o w3 ⟨rfl, hb⟩
    have HB := Lib.hid (hb.alloc hb.size (.cells #[.int .i64 0, .bool false, .int .u64 0, .int .u64 0, .bool false, .int .u64 0, .int .u64 0, .int .i64 0, .int .i64 0, .int .i64 0, .int .i64 0, .int .i64 0] 33))
    clear hb hw2
    have b3_0 : (w3.alloc (.cells #[.int .i64 0, .bool false, .int .u64 0, .int .u64 0, .bool false, .int .u64 0, .int .u64 0, .int .i64 0, .int .i64 0, .int .i64 0, .int .i64 0, .int .i64 0] 33)).cell? ⟨w.heap.size, 0, none⟩ = some (.int .i64 pr) := (HX.out _ HB.out).cell 0
    have b3_1 : (w3.alloc (.cells #[.int .i64 0, .bool false, .int .u64 0, .int .u64 0, .bool false, .int .u64 0, .int .u64 0, .int .i64 0, .int .i64 0, .int .i64 0, .int .i64 0, .int .i64 0] 33)).cell? ⟨w.heap.size, 1, none⟩ = some (.bool true) := (HX.out _ HB.out).cell 1
    have b3_2 : (w3.alloc (.cells #[.int .i64 0, .bool false, .int .u64 0, .int .u64 0, .bool false, .int .u64 0, .int .u64 0, .int .i64 0, .int .i64 0, .int .i64 0, .int .i64 0, .int .i64 0] 33)).cell? ⟨w.heap.size, 2, none⟩ = some (.int .u64 sh) := (HX.out _ HB.out).cell 2
    have b3_3 : (w3.alloc (.cells #[.int .i64 0, .bool false, .int .u64 0, .int .u64 0, .bool false, .int .u64 0, .int .u64 0, .int .i64 0, .int .i64 0, .int .i64 0, .int .i64 0, .int .i64 0] 33)).cell? ⟨w.heap.size, 3, none⟩ = some (.int .u64 sl) := (HX.out _ HB.out).cell 3
    have b3_4 : (w3.alloc (.cells #[.int .i64 0, .bool false, .int .u64 0, .int .u64 0, .bool false, .int .u64 0, .int .u64 0, .int .i64 0, .int .i64 0, .int .i64 0, .int .i64 0, .int .i64 0] 33)).cell? ⟨w.heap.size, 4, none⟩ = some (.bool false) := (HX.out _ HB.out).cell 4
    have b3_5 : (w3.alloc (.cells #[.int .i64 0, .bool false, .int .u64 0, .int .u64 0, .bool false, .int .u64 0, .int .u64 0, .int .i64 0, .int .i64 0, .int .i64 0, .int .i64 0, .int .i64 0] 33)).cell? ⟨w.heap.size, 5, none⟩ = some (.int .u64 dh) := (HX.out _ HB.out).cell 5
    have b3_6 : (w3.alloc (.cells #[.int .i64 0, .bool false, .int .u64 0, .int .u64 0, .bool false, .int .u64 0, .int .u64 0, .int .i64 0, .int .i64 0, .int .i64 0, .int .i64 0, .int .i64 0] 33)).cell? ⟨w.heap.size, 6, none⟩ = some (.int .u64 dl) := (HX.out _ HB.out).cell 6
    have b3_7 : (w3.alloc (.cells #[.int .i64 0, .bool false, .int .u64 0, .int .u64 0, .bool false, .int .u64 0, .int .u64 0, .int .i64 0, .int .i64 0, .int .i64 0, .int .i64 0, .int .i64 0] 33)).cell? ⟨w.heap.size, 7, none⟩ = some (.int .i64 sp) := (HX.out _ HB.out).cell 7
    have b3_8 : (w3.alloc (.cells #[.int .i64 0, .bool false, .int .u64 0, .int .u64 0, .bool false, .int .u64 0, .int .u64 0, .int .i64 0, .int .i64 0, .int .i64 0, .int .i64 0, .int .i64 0] 33)).cell? ⟨w.heap.size, 8, none⟩ = some (.int .i64 dp) := (HX.out _ HB.out).cell 8
    go_wp2_with fail
    refine (HPUT.out _ HB.out).mono ?_
    rintro o w4 ⟨rfl, hb⟩
    have HB := Lib.hid (hb.alloc hb.size (.cells #[.int .i64 0, .bool false, .int .u64 0, .int .u64 0, .bool false, .int .u64 0, .int .u64 0, .int .i64 0, .int .i64 0, .int .i64 0, .int .i64 0, .int .i64 0] 33))
    clear hb b3_0 b3_1 b3_2 b3_3 b3_4 b3_5 b3_6 b3_7 b3_8
    have b4_0 : (w4.alloc (.cells #[.int .i64 0, .bool false, .int .u64 0, .int .u64 0, .bool false, .int .u64 0, .int .u64 0, .int .i64 0, .int .i64 0, .int .i64 0, .int .i64 0, .int .i64 0] 33)).cell? ⟨w.heap.size, 0, none⟩ = some (.int .i64 pr) := (HX.out _ HB.out).cell 0
    have b4_1 : (w4.alloc (.cells #[.int .i64 0, .bool false, .int .u64 0, .int .u64 0, .bool false, .int .u64 0, .int .u64 0, .int .i64 0, .int .i64 0, .int .i64 0, .int .i64 0, .int .i64 0] 33)).cell? ⟨w.heap.size, 1, none⟩ = some (.bool true) := (HX.out _ HB.out).cell 1
    have b4_2 : (w4.alloc (.cells #[.int .i64 0, .bool false, .int .u64 0, .int .u64 0, .bool false, .int .u64 0, .int .u64 0, .int .i64 0, .int .i64 0, .int .i64 0, .int .i64 0, .int .i64 0] 33)).cell? ⟨w.heap.size, 2, none⟩ = some (.int .u64 sh) := (HX.out _ HB.out).cell 2
    have b4_3 : (w4.alloc (.cells #[.int .i64 0, .bool false, .int .u64 0, .int .u64 0, .bool false, .int .u64 0, .int .u64 0, .int .i64 0, .int .i64 0, .int .i64 0, .int .i64 0, .int .i64 0] 33)).cell? ⟨w.heap.size, 3, none⟩ = some (.int .u64 sl) := (HX.out _ HB.out).cell 3
    have b4_4 : (w4.alloc (.cells #[.int .i64 0, .bool false, .int .u64 0, .int .u64 0, .bool false, .int .u64 0, .int .u64 0, .int .i64 0, .int .i64 0, .int .i64 0, .int .i64 0, .int .i64 0] 33)).cell? ⟨w.heap.size, 4, none⟩ = some (.bool false) := (HX.out _ HB.out).cell 4
    have b4_5 : (w4.alloc (.cells #[.int .i64 0, .bool false, .int .u64 0, .int .u64 0, .bool false, .int .u64 0, .int .u64 0, .int .i64 0, .int .i64 0, .int .i64 0, .int .i64 0, .int .i64 0] 33)).cell? ⟨w.heap.size, 5, none⟩ = some (.int .u64 dh) := (HX.out _ HB.out).cell 5
    have b4_6 : (w4.alloc (.cells #[.int .i64 0, .bool false, .int .u64 0, .int .u64 0, .bool false, .int .u64 0, .int .u64 0, .int .i64 0, .int .i64 0, .int .i64 0, .int .i64 0, .int .i64 0] 33)).cell? ⟨w.heap.size, 6, none⟩ = some (.int .u64 dl) := (HX.out _ HB.out).cell 6
    have b4_7 : (w4.alloc (.cells #[.int .i64 0, .bool false, .int .u64 0, .int .u64 0, .bool false, .int .u64 0, .int .u64 0, .int .i64 0, .int .i64 0, .int .i64 0, .int .i64 0, .int .i64 0] 33)).cell? ⟨w.heap.size, 7, none⟩ = some (.int .i64 sp) := (HX.out _ HB.out).cell 7
    have b4_8 : (w4.alloc (.cells #[.int .i64 0, .bool false, .int .u64 0, .int .u64 0, .bool false, .int .u64 0, .int .u64 0, .int .i64 0, .int .i64 0, .int .i64 0, .int .i64 0, .int .i64 0] 33)).cell? ⟨w.heap.size, 8, none⟩ = some (.int .i64 dp) := (HX.out _ HB.out).cell 8
    go_wp2_with fail
    refine (HTOU.out _ HB.out).mono ?_
    rintro o w5 ⟨rfl, hb⟩
    have HB := Lib.hid hb
    clear hb b4_0 b4_1 b4_2 b4_3 b4_4 b4_5 b4_6 b4_7 b4_8
    have b5_0 : w5.cell? ⟨w.heap.size, 0, none⟩ = some (.int .i64 pr) := (HX.out _ HB.out).cell 0
    have b5_1 : w5.cell? ⟨w.heap.size, 1, none⟩ = some (.bool true) := (HX.out _ HB.out).cell 1
    have b5_2 : w5.cell? ⟨w.heap.size, 2, none⟩ = some (.int .u64 sh) := (HX.out _ HB.out).cell 2
    have b5_3 : w5.cell? ⟨w.heap.size, 3, none⟩ = some (.int .u64 sl) := (HX.out _ HB.out).cell 3
    have b5_4 : w5.cell? ⟨w.heap.size, 4, none⟩ = some (.bool false) := (HX.out _ HB.out).cell 4
    have b5_5 : w5.cell? ⟨w.heap.size, 5, none⟩ = some (.int .u64 dh) := (HX.out _ HB.out).cell 5
    have b5_6 : w5.cell? ⟨w.heap.size, 6, none⟩ = some (.int .u64 dl) := (HX.out _ HB.out).cell 6
    have b5_7 : w5.cell? ⟨w.heap.size, 7, none⟩ = some (.int .i64 sp) := (HX.out _ HB.out).cell 7
    have b5_8 : w5.cell? ⟨w.heap.size, 8, none⟩ = some (.int .i64 dp) := (HX.out _ HB.out).cell 8
    go_wp2_with fail
    refine (HREM.out _ HB.out).mono ?_
    rintro o w6 ⟨rfl, hb⟩
    have HB := Lib.hid hb
    clear hb b5_0 b5_1 b5_2 b5_3 b5_4 b5_5 b5_6 b5_7 b5_8
    go_wp2_with fail
    refine (HLEN.out _ (by first | exact HB.out | exact HB.out.drew | exact HB.out.alloc HB.out.size _)).mono ?_
    rintro o w7 ⟨rfl, hb⟩
    have HB := Lib.hid hb
    clear hb
    go_wp2_with fail
    refine (HMOS.out _ (by first | exact HB.out | exact HB.out.drew | exact HB.out.alloc HB.out.size _)).mono ?_
    rintro o w8 ⟨rfl, hb⟩
    have HB := Lib.hid hb
    clear hb
    go_wp2_with fail
    refine (HALL.out _ (by first | exact HB.out | exact HB.out.drew | exact HB.out.alloc HB.out.size _)).mono ?_
    rintro o w9 ⟨rfl, hb⟩
    have HB := Lib.hid hb
    clear hb
    go_wp2_with fail
    refine (HLAT.out _ (by first | exact HB.out | exact HB.out.drew | exact HB.out.alloc HB.out.size _)).mono ?_
    rintro o w10 ⟨rfl, hb⟩
    have HB := Lib.hid hb
    clear hb
    go_wp2_with fail
    refine (HOF.out _ _ _ _ (by first | exact HB.out | exact HB.out.drew | exact HB.out.alloc HB.out.size _)).mono ?_
    rintro o w11 ⟨rfl, hb⟩
    have HB := Lib.hid hb
    clear hb
    go_wp2_with fail
    refine (HCLE.out _ (by first | exact HB.out | exact HB.out.drew | exact HB.out.alloc HB.out.size _)).mono ?_
    rintro o w12 ⟨rfl, hb⟩
    have HB := Lib.hid hb
    clear hb
    have b9_0 : w12.cell? ⟨w.heap.size, 0, none⟩ = some (.int .i64 pr) := (HX.out _ HB.out).cell 0
    have b9_1 : w12.cell? ⟨w.heap.size, 1, none⟩ = some (.bool true) := (HX.out _ HB.out).cell 1
    have b9_2 : w12.cell? ⟨w.heap.size, 2, none⟩ = some (.int .u64 sh) := (HX.out _ HB.out).cell 2
    have b9_3 : w12.cell? ⟨w.heap.size, 3, none⟩ = some (.int .u64 sl) := (HX.out _ HB.out).cell 3
    have b9_4 : w12.cell? ⟨w.heap.size, 4, none⟩ = some (.bool false) := (HX.out _ HB.out).cell 4
    have b9_5 : w12.cell? ⟨w.heap.size, 5, none⟩ = some (.int .u64 dh) := (HX.out _ HB.out).cell 5
    have b9_6 : w12.cell? ⟨w.heap.size, 6, none⟩ = some (.int .u64 dl) := (HX.out _ HB.out).cell 6
    have b9_7 : w12.cell? ⟨w.heap.size, 7, none⟩ = some (.int .i64 sp) := (HX.out _ HB.out).cell 7
    have b9_8 : w12.cell? ⟨w.heap.size, 8, none⟩ = some (.int .i64 dp) := (HX.out _ HB.out).cell 8
    have HB2 := Lib.hid (HB.out.alloc HB.out.size (.cells #[.int .u64 1, .int .u64 (IntKind.u64.wrap pr), .int .u64 sh, .int .u64 sl, .int .u64 dh, .int .u64 dl, .int .u64 (IntKind.u64.wrap sp), .int .u64 (IntKind.u64.wrap dp)] 22))
    have b8_0 : (w12.alloc (.cells #[.int .u64 1, .int .u64 (IntKind.u64.wrap pr), .int .u64 sh, .int .u64 sl, .int .u64 dh, .int .u64 dl, .int .u64 (IntKind.u64.wrap sp), .int .u64 (IntKind.u64.wrap dp)] 22)).cell? ⟨w.heap.size, 0, none⟩ = some (.int .i64 pr) := (HX.out _ HB2.out).cell 0
    have b8_1 : (w12.alloc (.cells #[.int .u64 1, .int .u64 (IntKind.u64.wrap pr), .int .u64 sh, .int .u64 sl, .int .u64 dh, .int .u64 dl, .int .u64 (IntKind.u64.wrap sp), .int .u64 (IntKind.u64.wrap dp)] 22)).cell? ⟨w.heap.size, 1, none⟩ = some (.bool true) := (HX.out _ HB2.out).cell 1
    have b8_2 : (w12.alloc (.cells #[.int .u64 1, .int .u64 (IntKind.u64.wrap pr), .int .u64 sh, .int .u64 sl, .int .u64 dh, .int .u64 dl, .int .u64 (IntKind.u64.wrap sp), .int .u64 (IntKind.u64.wrap dp)] 22)).cell? ⟨w.heap.size, 2, none⟩ = some (.int .u64 sh) := (HX.out _ HB2.out).cell 2
    have b8_3 : (w12.alloc (.cells #[.int .u64 1, .int .u64 (IntKind.u64.wrap pr), .int .u64 sh, .int .u64 sl, .int .u64 dh, .int .u64 dl, .int .u64 (IntKind.u64.wrap sp), .int .u64 (IntKind.u64.wrap dp)] 22)).cell? ⟨w.heap.size, 3, none⟩ = some (.int .u64 sl) := (HX.out _ HB2.out).cell 3
    have b8_4 : (w12.alloc (.cells #[.int .u64 1, .int .u64 (IntKind.u64.wrap pr), .int .u64 sh, .int .u64 sl, .int .u64 dh, .int .u64 dl, .int .u64 (IntKind.u64.wrap sp), .int .u64 (IntKind.u64.wrap dp)] 22)).cell? ⟨w.heap.size, 4, none⟩ = some (.bool false) := (HX.out _ HB2.out).cell 4
    have b8_5 : (w12.alloc (.cells #[.int .u64 1, .int .u64 (IntKind.u64.wrap pr), .int .u64 sh, .int .u64 sl, .int .u64 dh, .int .u64 dl, .int .u64 (IntKind.u64.wrap sp), .int .u64 (IntKind.u64.wrap dp)] 22)).cell? ⟨w.heap.size, 5, none⟩ = some (.int .u64 dh) := (HX.out _ HB2.out).cell 5
    have b8_6 : (w12.alloc (.cells #[.int .u64 1, .int .u64 (IntKind.u64.wrap pr), .int .u64 sh, .int .u64 sl, .int .u64 dh, .int .u64 dl, .int .u64 (IntKind.u64.wrap sp), .int .u64 (IntKind.u64.wrap dp)] 22)).cell? ⟨w.heap.size, 6, none⟩ = some (.int .u64 dl) := (HX.out _ HB2.out).cell 6
    have b8_7 : (w12.alloc (.cells #[.int .u64 1, .int .u64 (IntKind.u64.wrap pr), .int .u64 sh, .int .u64 sl, .int .u64 dh, .int .u64 dl, .int .u64 (IntKind.u64.wrap sp), .int .u64 (IntKind.u64.wrap dp)] 22)).cell? ⟨w.heap.size, 7, none⟩ = some (.int .i64 sp) := (HX.out _ HB2.out).cell 7
    have b8_8 : (w12.alloc (.cells #[.int .u64 1, .int .u64 (IntKind.u64.wrap pr), .int .u64 sh, .int .u64 sl, .int .u64 dh, .int .u64 dl, .int .u64 (IntKind.u64.wrap sp), .int .u64 (IntKind.u64.wrap dp)] 22)).cell? ⟨w.heap.size, 8, none⟩ = some (.int .i64 dp) := (HX.out _ HB2.out).cell 8
    have BN := Lib.hid (Blk.new w12 22 #[.int .u64 1, .int .u64 (IntKind.u64.wrap pr), .int .u64 sh, .int .u64 sl, .int .u64 dh, .int .u64 dl, .int .u64 (IntKind.u64.wrap sp), .int .u64 (IntKind.u64.wrap dp)])
    go_wp2_with fail
    refine (HHAS.out _).mono ?_
    rintro o w13 ⟨rfl, hb⟩
    have HB3 := Lib.hid (HB2.out.trans (hb.mono HB2.out.size))
    have HRW := Lib.hid (show Row w13 (w12.heap.size + 1) (some ⟨w12.heap.size, 0, none⟩) ([1, IntKind.u64.wrap pr, sh, sl, dh, dl, IntKind.u64.wrap sp, IntKind.u64.wrap dp].map (.int .u64)) from row_of_blk ((hb.block _ BN.out.lt).trans BN.out) (by omega))
    clear hb
    go_wp2_with fail
    refine (mixD.refof_any seed (some ⟨w12.heap.size, 0, none⟩) 8 8 [1, IntKind.u64.wrap pr, sh, sl, dh, dl, IntKind.u64.wrap sp, IntKind.u64.wrap dp] _ (w12.heap.size + 1) rfl (by omega) HRW.out).mono ?_
    rintro o w14 ⟨rfl, rfl⟩
    go_wp2_with fail
    refine (HAWA.out _ HB3.out).mono ?_
    rintro o w15 ⟨rfl, hb⟩
    have HB := Lib.hid (HWW.out.trans (hb.mono HWW.out.size))
    clear hb
    go_wp2_with fail
    go_ret
    first | exact ⟨rfl, HB.out⟩ | exact ⟨rfl, HB.out.drew⟩
  · have HHAS := Lib.hid (show ∀ w', Calls Try.prog 16 #[.int .u64 seed, .agg #[.int .i64 pr, .bool true, .int .u64 sh, .int .u64 sl, .bool true, .int .u64 dh, .int .u64 dl, .int .i64 sp, .int .i64 dp]] w' fun o w'' => o = .returned (.int .u64 (mixD.ofZ seed [3, IntKind.u64.wrap pr, sh, sl, dh, dl, IntKind.u64.wrap sp, IntKind.u64.wrap dp])) ∧ Below w'.heap.size w' w'' from fun w' => hash_any seed ⟨pr, true, sh, sl, true, dh, dl, sp, dp⟩ w')
    go_enter Try.func3, Try.ntmps3
    go_wp2_with fail
    rw [show (w.alloc (.cells #[.int .i64 pr, .bool true, .int .u64 sh, .int .u64 sl, .bool true, .int .u64 dh, .int .u64 dl, .int .i64 sp, .int .i64 dp] 26)).alloc (.cells #[.int .i64 0, .int .u64 0, .int .i64 0, .slice none 0 0, .slice none 0 0, .int .i64 0, .int .i64 0, .int .i64 0] 31) = w2 from hw2.symm]
    refine (HGET.out _ (Below.refl _ _)).mono ?_
    rintro o w3 ⟨rfl, hb⟩
    have HB := Lib.hid (hb.alloc hb.size (.cells #[.int .i64 0, .bool false, .int .u64 0, .int .u64 0, .bool false, .int .u64 0, .int .u64 0, .int .i64 0, .int .i64 0, .int .i64 0, .int .i64 0, .int .i64 0] 33))
    clear hb hw2
    have b3_0 : (w3.alloc (.cells #[.int .i64 0, .bool false, .int .u64 0, .int .u64 0, .bool false, .int .u64 0, .int .u64 0, .int .i64 0, .int .i64 0, .int .i64 0, .int .i64 0, .int .i64 0] 33)).cell? ⟨w.heap.size, 0, none⟩ = some (.int .i64 pr) := (HX.out _ HB.out).cell 0
    have b3_1 : (w3.alloc (.cells #[.int .i64 0, .bool false, .int .u64 0, .int .u64 0, .bool false, .int .u64 0, .int .u64 0, .int .i64 0, .int .i64 0, .int .i64 0, .int .i64 0, .int .i64 0] 33)).cell? ⟨w.heap.size, 1, none⟩ = some (.bool true) := (HX.out _ HB.out).cell 1
    have b3_2 : (w3.alloc (.cells #[.int .i64 0, .bool false, .int .u64 0, .int .u64 0, .bool false, .int .u64 0, .int .u64 0, .int .i64 0, .int .i64 0, .int .i64 0, .int .i64 0, .int .i64 0] 33)).cell? ⟨w.heap.size, 2, none⟩ = some (.int .u64 sh) := (HX.out _ HB.out).cell 2
    have b3_3 : (w3.alloc (.cells #[.int .i64 0, .bool false, .int .u64 0, .int .u64 0, .bool false, .int .u64 0, .int .u64 0, .int .i64 0, .int .i64 0, .int .i64 0, .int .i64 0, .int .i64 0] 33)).cell? ⟨w.heap.size, 3, none⟩ = some (.int .u64 sl) := (HX.out _ HB.out).cell 3
    have b3_4 : (w3.alloc (.cells #[.int .i64 0, .bool false, .int .u64 0, .int .u64 0, .bool false, .int .u64 0, .int .u64 0, .int .i64 0, .int .i64 0, .int .i64 0, .int .i64 0, .int .i64 0] 33)).cell? ⟨w.heap.size, 4, none⟩ = some (.bool true) := (HX.out _ HB.out).cell 4
    have b3_5 : (w3.alloc (.cells #[.int .i64 0, .bool false, .int .u64 0, .int .u64 0, .bool false, .int .u64 0, .int .u64 0, .int .i64 0, .int .i64 0, .int .i64 0, .int .i64 0, .int .i64 0] 33)).cell? ⟨w.heap.size, 5, none⟩ = some (.int .u64 dh) := (HX.out _ HB.out).cell 5
    have b3_6 : (w3.alloc (.cells #[.int .i64 0, .bool false, .int .u64 0, .int .u64 0, .bool false, .int .u64 0, .int .u64 0, .int .i64 0, .int .i64 0, .int .i64 0, .int .i64 0, .int .i64 0] 33)).cell? ⟨w.heap.size, 6, none⟩ = some (.int .u64 dl) := (HX.out _ HB.out).cell 6
    have b3_7 : (w3.alloc (.cells #[.int .i64 0, .bool false, .int .u64 0, .int .u64 0, .bool false, .int .u64 0, .int .u64 0, .int .i64 0, .int .i64 0, .int .i64 0, .int .i64 0, .int .i64 0] 33)).cell? ⟨w.heap.size, 7, none⟩ = some (.int .i64 sp) := (HX.out _ HB.out).cell 7
    have b3_8 : (w3.alloc (.cells #[.int .i64 0, .bool false, .int .u64 0, .int .u64 0, .bool false, .int .u64 0, .int .u64 0, .int .i64 0, .int .i64 0, .int .i64 0, .int .i64 0, .int .i64 0] 33)).cell? ⟨w.heap.size, 8, none⟩ = some (.int .i64 dp) := (HX.out _ HB.out).cell 8
    go_wp2_with fail
    refine (HPUT.out _ HB.out).mono ?_
    rintro o w4 ⟨rfl, hb⟩
    have HB := Lib.hid (hb.alloc hb.size (.cells #[.int .i64 0, .bool false, .int .u64 0, .int .u64 0, .bool false, .int .u64 0, .int .u64 0, .int .i64 0, .int .i64 0, .int .i64 0, .int .i64 0, .int .i64 0] 33))
    clear hb b3_0 b3_1 b3_2 b3_3 b3_4 b3_5 b3_6 b3_7 b3_8
    have b4_0 : (w4.alloc (.cells #[.int .i64 0, .bool false, .int .u64 0, .int .u64 0, .bool false, .int .u64 0, .int .u64 0, .int .i64 0, .int .i64 0, .int .i64 0, .int .i64 0, .int .i64 0] 33)).cell? ⟨w.heap.size, 0, none⟩ = some (.int .i64 pr) := (HX.out _ HB.out).cell 0
    have b4_1 : (w4.alloc (.cells #[.int .i64 0, .bool false, .int .u64 0, .int .u64 0, .bool false, .int .u64 0, .int .u64 0, .int .i64 0, .int .i64 0, .int .i64 0, .int .i64 0, .int .i64 0] 33)).cell? ⟨w.heap.size, 1, none⟩ = some (.bool true) := (HX.out _ HB.out).cell 1
    have b4_2 : (w4.alloc (.cells #[.int .i64 0, .bool false, .int .u64 0, .int .u64 0, .bool false, .int .u64 0, .int .u64 0, .int .i64 0, .int .i64 0, .int .i64 0, .int .i64 0, .int .i64 0] 33)).cell? ⟨w.heap.size, 2, none⟩ = some (.int .u64 sh) := (HX.out _ HB.out).cell 2
    have b4_3 : (w4.alloc (.cells #[.int .i64 0, .bool false, .int .u64 0, .int .u64 0, .bool false, .int .u64 0, .int .u64 0, .int .i64 0, .int .i64 0, .int .i64 0, .int .i64 0, .int .i64 0] 33)).cell? ⟨w.heap.size, 3, none⟩ = some (.int .u64 sl) := (HX.out _ HB.out).cell 3
    have b4_4 : (w4.alloc (.cells #[.int .i64 0, .bool false, .int .u64 0, .int .u64 0, .bool false, .int .u64 0, .int .u64 0, .int .i64 0, .int .i64 0, .int .i64 0, .int .i64 0, .int .i64 0] 33)).cell? ⟨w.heap.size, 4, none⟩ = some (.bool true) := (HX.out _ HB.out).cell 4
    have b4_5 : (w4.alloc (.cells #[.int .i64 0, .bool false, .int .u64 0, .int .u64 0, .bool false, .int .u64 0, .int .u64 0, .int .i64 0, .int .i64 0, .int .i64 0, .int .i64 0, .int .i64 0] 33)).cell? ⟨w.heap.size, 5, none⟩ = some (.int .u64 dh) := (HX.out _ HB.out).cell 5
    have b4_6 : (w4.alloc (.cells #[.int .i64 0, .bool false, .int .u64 0, .int .u64 0, .bool false, .int .u64 0, .int .u64 0, .int .i64 0, .int .i64 0, .int .i64 0, .int .i64 0, .int .i64 0] 33)).cell? ⟨w.heap.size, 6, none⟩ = some (.int .u64 dl) := (HX.out _ HB.out).cell 6
    have b4_7 : (w4.alloc (.cells #[.int .i64 0, .bool false, .int .u64 0, .int .u64 0, .bool false, .int .u64 0, .int .u64 0, .int .i64 0, .int .i64 0, .int .i64 0, .int .i64 0, .int .i64 0] 33)).cell? ⟨w.heap.size, 7, none⟩ = some (.int .i64 sp) := (HX.out _ HB.out).cell 7
    have b4_8 : (w4.alloc (.cells #[.int .i64 0, .bool false, .int .u64 0, .int .u64 0, .bool false, .int .u64 0, .int .u64 0, .int .i64 0, .int .i64 0, .int .i64 0, .int .i64 0, .int .i64 0] 33)).cell? ⟨w.heap.size, 8, none⟩ = some (.int .i64 dp) := (HX.out _ HB.out).cell 8
    go_wp2_with fail
    refine (HTOU.out _ HB.out).mono ?_
    rintro o w5 ⟨rfl, hb⟩
    have HB := Lib.hid hb
    clear hb b4_0 b4_1 b4_2 b4_3 b4_4 b4_5 b4_6 b4_7 b4_8
    have b5_0 : w5.cell? ⟨w.heap.size, 0, none⟩ = some (.int .i64 pr) := (HX.out _ HB.out).cell 0
    have b5_1 : w5.cell? ⟨w.heap.size, 1, none⟩ = some (.bool true) := (HX.out _ HB.out).cell 1
    have b5_2 : w5.cell? ⟨w.heap.size, 2, none⟩ = some (.int .u64 sh) := (HX.out _ HB.out).cell 2
    have b5_3 : w5.cell? ⟨w.heap.size, 3, none⟩ = some (.int .u64 sl) := (HX.out _ HB.out).cell 3
    have b5_4 : w5.cell? ⟨w.heap.size, 4, none⟩ = some (.bool true) := (HX.out _ HB.out).cell 4
    have b5_5 : w5.cell? ⟨w.heap.size, 5, none⟩ = some (.int .u64 dh) := (HX.out _ HB.out).cell 5
    have b5_6 : w5.cell? ⟨w.heap.size, 6, none⟩ = some (.int .u64 dl) := (HX.out _ HB.out).cell 6
    have b5_7 : w5.cell? ⟨w.heap.size, 7, none⟩ = some (.int .i64 sp) := (HX.out _ HB.out).cell 7
    have b5_8 : w5.cell? ⟨w.heap.size, 8, none⟩ = some (.int .i64 dp) := (HX.out _ HB.out).cell 8
    go_wp2_with fail
    refine (HREM.out _ HB.out).mono ?_
    rintro o w6 ⟨rfl, hb⟩
    have HB := Lib.hid hb
    clear hb b5_0 b5_1 b5_2 b5_3 b5_4 b5_5 b5_6 b5_7 b5_8
    go_wp2_with fail
    refine (HLEN.out _ (by first | exact HB.out | exact HB.out.drew | exact HB.out.alloc HB.out.size _)).mono ?_
    rintro o w7 ⟨rfl, hb⟩
    have HB := Lib.hid hb
    clear hb
    go_wp2_with fail
    refine (HMOS.out _ (by first | exact HB.out | exact HB.out.drew | exact HB.out.alloc HB.out.size _)).mono ?_
    rintro o w8 ⟨rfl, hb⟩
    have HB := Lib.hid hb
    clear hb
    go_wp2_with fail
    refine (HALL.out _ (by first | exact HB.out | exact HB.out.drew | exact HB.out.alloc HB.out.size _)).mono ?_
    rintro o w9 ⟨rfl, hb⟩
    have HB := Lib.hid hb
    clear hb
    go_wp2_with fail
    refine (HLAT.out _ (by first | exact HB.out | exact HB.out.drew | exact HB.out.alloc HB.out.size _)).mono ?_
    rintro o w10 ⟨rfl, hb⟩
    have HB := Lib.hid hb
    clear hb
    go_wp2_with fail
    refine (HOF.out _ _ _ _ (by first | exact HB.out | exact HB.out.drew | exact HB.out.alloc HB.out.size _)).mono ?_
    rintro o w11 ⟨rfl, hb⟩
    have HB := Lib.hid hb
    clear hb
    go_wp2_with fail
    refine (HCLE.out _ (by first | exact HB.out | exact HB.out.drew | exact HB.out.alloc HB.out.size _)).mono ?_
    rintro o w12 ⟨rfl, hb⟩
    have HB := Lib.hid hb
    clear hb
    have b9_0 : w12.cell? ⟨w.heap.size, 0, none⟩ = some (.int .i64 pr) := (HX.out _ HB.out).cell 0
    have b9_1 : w12.cell? ⟨w.heap.size, 1, none⟩ = some (.bool true) := (HX.out _ HB.out).cell 1
    have b9_2 : w12.cell? ⟨w.heap.size, 2, none⟩ = some (.int .u64 sh) := (HX.out _ HB.out).cell 2
    have b9_3 : w12.cell? ⟨w.heap.size, 3, none⟩ = some (.int .u64 sl) := (HX.out _ HB.out).cell 3
    have b9_4 : w12.cell? ⟨w.heap.size, 4, none⟩ = some (.bool true) := (HX.out _ HB.out).cell 4
    have b9_5 : w12.cell? ⟨w.heap.size, 5, none⟩ = some (.int .u64 dh) := (HX.out _ HB.out).cell 5
    have b9_6 : w12.cell? ⟨w.heap.size, 6, none⟩ = some (.int .u64 dl) := (HX.out _ HB.out).cell 6
    have b9_7 : w12.cell? ⟨w.heap.size, 7, none⟩ = some (.int .i64 sp) := (HX.out _ HB.out).cell 7
    have b9_8 : w12.cell? ⟨w.heap.size, 8, none⟩ = some (.int .i64 dp) := (HX.out _ HB.out).cell 8
    have HB2 := Lib.hid (HB.out.alloc HB.out.size (.cells #[.int .u64 3, .int .u64 (IntKind.u64.wrap pr), .int .u64 sh, .int .u64 sl, .int .u64 dh, .int .u64 dl, .int .u64 (IntKind.u64.wrap sp), .int .u64 (IntKind.u64.wrap dp)] 22))
    have b8_0 : (w12.alloc (.cells #[.int .u64 3, .int .u64 (IntKind.u64.wrap pr), .int .u64 sh, .int .u64 sl, .int .u64 dh, .int .u64 dl, .int .u64 (IntKind.u64.wrap sp), .int .u64 (IntKind.u64.wrap dp)] 22)).cell? ⟨w.heap.size, 0, none⟩ = some (.int .i64 pr) := (HX.out _ HB2.out).cell 0
    have b8_1 : (w12.alloc (.cells #[.int .u64 3, .int .u64 (IntKind.u64.wrap pr), .int .u64 sh, .int .u64 sl, .int .u64 dh, .int .u64 dl, .int .u64 (IntKind.u64.wrap sp), .int .u64 (IntKind.u64.wrap dp)] 22)).cell? ⟨w.heap.size, 1, none⟩ = some (.bool true) := (HX.out _ HB2.out).cell 1
    have b8_2 : (w12.alloc (.cells #[.int .u64 3, .int .u64 (IntKind.u64.wrap pr), .int .u64 sh, .int .u64 sl, .int .u64 dh, .int .u64 dl, .int .u64 (IntKind.u64.wrap sp), .int .u64 (IntKind.u64.wrap dp)] 22)).cell? ⟨w.heap.size, 2, none⟩ = some (.int .u64 sh) := (HX.out _ HB2.out).cell 2
    have b8_3 : (w12.alloc (.cells #[.int .u64 3, .int .u64 (IntKind.u64.wrap pr), .int .u64 sh, .int .u64 sl, .int .u64 dh, .int .u64 dl, .int .u64 (IntKind.u64.wrap sp), .int .u64 (IntKind.u64.wrap dp)] 22)).cell? ⟨w.heap.size, 3, none⟩ = some (.int .u64 sl) := (HX.out _ HB2.out).cell 3
    have b8_4 : (w12.alloc (.cells #[.int .u64 3, .int .u64 (IntKind.u64.wrap pr), .int .u64 sh, .int .u64 sl, .int .u64 dh, .int .u64 dl, .int .u64 (IntKind.u64.wrap sp), .int .u64 (IntKind.u64.wrap dp)] 22)).cell? ⟨w.heap.size, 4, none⟩ = some (.bool true) := (HX.out _ HB2.out).cell 4
    have b8_5 : (w12.alloc (.cells #[.int .u64 3, .int .u64 (IntKind.u64.wrap pr), .int .u64 sh, .int .u64 sl, .int .u64 dh, .int .u64 dl, .int .u64 (IntKind.u64.wrap sp), .int .u64 (IntKind.u64.wrap dp)] 22)).cell? ⟨w.heap.size, 5, none⟩ = some (.int .u64 dh) := (HX.out _ HB2.out).cell 5
    have b8_6 : (w12.alloc (.cells #[.int .u64 3, .int .u64 (IntKind.u64.wrap pr), .int .u64 sh, .int .u64 sl, .int .u64 dh, .int .u64 dl, .int .u64 (IntKind.u64.wrap sp), .int .u64 (IntKind.u64.wrap dp)] 22)).cell? ⟨w.heap.size, 6, none⟩ = some (.int .u64 dl) := (HX.out _ HB2.out).cell 6
    have b8_7 : (w12.alloc (.cells #[.int .u64 3, .int .u64 (IntKind.u64.wrap pr), .int .u64 sh, .int .u64 sl, .int .u64 dh, .int .u64 dl, .int .u64 (IntKind.u64.wrap sp), .int .u64 (IntKind.u64.wrap dp)] 22)).cell? ⟨w.heap.size, 7, none⟩ = some (.int .i64 sp) := (HX.out _ HB2.out).cell 7
    have b8_8 : (w12.alloc (.cells #[.int .u64 3, .int .u64 (IntKind.u64.wrap pr), .int .u64 sh, .int .u64 sl, .int .u64 dh, .int .u64 dl, .int .u64 (IntKind.u64.wrap sp), .int .u64 (IntKind.u64.wrap dp)] 22)).cell? ⟨w.heap.size, 8, none⟩ = some (.int .i64 dp) := (HX.out _ HB2.out).cell 8
    have BN := Lib.hid (Blk.new w12 22 #[.int .u64 3, .int .u64 (IntKind.u64.wrap pr), .int .u64 sh, .int .u64 sl, .int .u64 dh, .int .u64 dl, .int .u64 (IntKind.u64.wrap sp), .int .u64 (IntKind.u64.wrap dp)])
    go_wp2_with fail
    refine (HHAS.out _).mono ?_
    rintro o w13 ⟨rfl, hb⟩
    have HB3 := Lib.hid (HB2.out.trans (hb.mono HB2.out.size))
    have HRW := Lib.hid (show Row w13 (w12.heap.size + 1) (some ⟨w12.heap.size, 0, none⟩) ([3, IntKind.u64.wrap pr, sh, sl, dh, dl, IntKind.u64.wrap sp, IntKind.u64.wrap dp].map (.int .u64)) from row_of_blk ((hb.block _ BN.out.lt).trans BN.out) (by omega))
    clear hb
    go_wp2_with fail
    refine (mixD.refof_any seed (some ⟨w12.heap.size, 0, none⟩) 8 8 [3, IntKind.u64.wrap pr, sh, sl, dh, dl, IntKind.u64.wrap sp, IntKind.u64.wrap dp] _ (w12.heap.size + 1) rfl (by omega) HRW.out).mono ?_
    rintro o w14 ⟨rfl, rfl⟩
    go_wp2_with fail
    refine (HAWA.out _ HB3.out).mono ?_
    rintro o w15 ⟨rfl, hb⟩
    have HB := Lib.hid (HWW.out.trans (hb.mono HWW.out.size))
    clear hb
    go_wp2_with fail
    go_ret
    first | exact ⟨rfl, HB.out⟩ | exact ⟨rfl, HB.out.drew⟩
end Go.Proofs.Ytmlfpfmpoigfiaa.flowHa
