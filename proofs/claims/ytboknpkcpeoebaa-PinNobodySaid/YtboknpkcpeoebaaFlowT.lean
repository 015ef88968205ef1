/- Layer 27: what is known of a flow; where there is no table. -/
import Derived.Test.YtboknpkcpeoebaaFlowS
import Derived.Laws.ResultCell
namespace Go.Proofs.Ytboknpkcpeoebaa.flowT
open Go.ChangeShapes Go.WideShapes Go.ChangeAt Go.RowKit
open Go.Proofs.Ytboknpkcpeoebaa.base Go.Proofs.Ytboknpkcpeoebaa.flowA Go.Proofs.Ytboknpkcpeoebaa.flowB Go.Proofs.Ytboknpkcpeoebaa.flowC Go.Proofs.Ytboknpkcpeoebaa.flowD Go.Proofs.Ytboknpkcpeoebaa.flowE Go.Proofs.Ytboknpkcpeoebaa.flowF Go.Proofs.Ytboknpkcpeoebaa.flowG Go.Proofs.Ytboknpkcpeoebaa.flowH Go.Proofs.Ytboknpkcpeoebaa.flowI Go.Proofs.Ytboknpkcpeoebaa.flowL Go.Proofs.Ytboknpkcpeoebaa.flowM Go.Proofs.Ytboknpkcpeoebaa.flowN Go.Proofs.Ytboknpkcpeoebaa.flowO Go.Proofs.Ytboknpkcpeoebaa.flowP Go.Proofs.Ytboknpkcpeoebaa.flowQ Go.Proofs.Ytboknpkcpeoebaa.flowR Go.Proofs.Ytboknpkcpeoebaa.flowS
set_option linter.unusedVariables false

theorem results_entry {fn : Func} {p u : Tmp} (h : fn.results = #[.cell p 28, .tmp u]) (tmps : Array Value) (w : World) (g : Nat) (cs : Array Value) (hp : tmps.getD p undef = .pointer (some ⟨g, 0, none⟩)) (hg : Blk w g 28 cs) (hs : cs.size = 12) :
    (results fn tmps).run Try.prog w = .ok (.tuple #[.agg cs, tmps.getD u undef]) w := by
  rw [results_cell_tmp h, hp]
  simp only [asAddr, Sem.run_pure, Result.andThen_ok]
  rw [run_loadVar_row w g 28 28 cs (0, 0) _ hg Try.underlying28 rfl (by rw [hs]; exact size_e)]
  rfl
/-- A pointer to no table, or to one that is empty. -/
def Bare (P0 : Value) (w : World) : Prop := ∀ w', Below w.heap.size w w' → Calls Try.prog 56 #[P0] w' fun e w2 => e = .returned (.bool true) ∧ Below w'.heap.size w' w2
theorem Bare.nil (w : World) : Bare (.pointer none) w := fun w' _ => flowI.empty_nil w'
theorem Bare.far {P0 : Value} {w w' : World} (h : Bare P0 w) (hb : Below w.heap.size w w') : Bare P0 w' := fun w2 h2 => h w2 (hb.trans (h2.mono hb.size))
theorem find_bare {P0 : Value} {w : World} (x : Tup) (h : Bare P0 w) : Calls Try.prog 50 #[P0, .agg x.cells] w fun e w' => e = .returned (.int .i64 (-1)) ∧ Below w.heap.size w w' := by
  have HW := Lib.hid ((Below.refl w.heap.size w).alloc (Nat.le_refl _) (.cells #[.int .i64 x.pr, .bool x.s6, .int .u64 x.sh, .int .u64 x.sl, .bool x.d6, .int .u64 x.dh, .int .u64 x.dl, .int .i64 x.sp, .int .i64 x.dp] 26))
  have HE := Lib.hid (h _ HW.out)
  unfold Tup.cells
  clear h
  go_enter Try.func50, Try.ntmps50
  go_wp2_with fail
  refine (HE.out).mono ?_
  rintro e w9 ⟨rfl, hb⟩
  have HB := Lib.hid (HW.out.trans (hb.mono HW.out.size))
  clear hb
  go_wp2_with fail
  go_ret
  first | exact ⟨rfl, HB.out⟩ | exact ⟨rfl, HB.out.drew⟩ | exact ⟨rfl, HB.out.drew.drew⟩
theorem touch_bare {P0 : Value} {w : World} (x : Tup) (h : Bare P0 w) : Calls Try.prog 45 #[P0, .agg x.cells] w fun e w' => e = .returned (.bool false) ∧ Below w.heap.size w w' := by
  have HW := Lib.hid ((Below.refl w.heap.size w).alloc (Nat.le_refl _) (.cells #[.int .i64 x.pr, .bool x.s6, .int .u64 x.sh, .int .u64 x.sl, .bool x.d6, .int .u64 x.dh, .int .u64 x.dl, .int .i64 x.sp, .int .i64 x.dp] 26))
  have HE := Lib.hid (show Calls Try.prog 50 #[P0, .agg #[.int .i64 x.pr, .bool x.s6, .int .u64 x.sh, .int .u64 x.sl, .bool x.d6, .int .u64 x.dh, .int .u64 x.dl, .int .i64 x.sp, .int .i64 x.dp]] (w.alloc (.cells #[.int .i64 x.pr, .bool x.s6, .int .u64 x.sh, .int .u64 x.sl, .bool x.d6, .int .u64 x.dh, .int .u64 x.dl, .int .i64 x.sp, .int .i64 x.dp] 26)) _ from find_bare x (h.far HW.out))
  unfold Tup.cells
  clear h
  go_enter Try.func45, Try.ntmps45
  go_wp2_with fail
  refine (HE.out).mono ?_
  rintro e w9 ⟨rfl, hb⟩
  have HB := Lib.hid (HW.out.trans (hb.mono HW.out.size))
  clear hb
  go_wp2_with fail
  go_ret
  first | exact ⟨rfl, HB.out⟩ | exact ⟨rfl, HB.out.drew⟩ | exact ⟨rfl, HB.out.drew.drew⟩
theorem remove_bare {P0 : Value} {w : World} (x : Tup) (h : Bare P0 w) : Calls Try.prog 27 #[P0, .agg x.cells] w fun e w' => e = .returned (.bool false) ∧ Below w.heap.size w w' := by
  have HW := Lib.hid ((Below.refl w.heap.size w).alloc (Nat.le_refl _) (.cells #[.int .i64 x.pr, .bool x.s6, .int .u64 x.sh, .int .u64 x.sl, .bool x.d6, .int .u64 x.dh, .int .u64 x.dl, .int .i64 x.sp, .int .i64 x.dp] 26))
  have HE := Lib.hid (show Calls Try.prog 50 #[P0, .agg #[.int .i64 x.pr, .bool x.s6, .int .u64 x.sh, .int .u64 x.sl, .bool x.d6, .int .u64 x.dh, .int .u64 x.dl, .int .i64 x.sp, .int .i64 x.dp]] (w.alloc (.cells #[.int .i64 x.pr, .bool x.s6, .int .u64 x.sh, .int .u64 x.sl, .bool x.d6, .int .u64 x.dh, .int .u64 x.dl, .int .i64 x.sp, .int .i64 x.dp] 26)) _ from find_bare x (h.far HW.out))
  unfold Tup.cells
  clear h
  go_enter Try.func27, Try.ntmps27
  go_wp2_with fail
  refine (HE.out).mono ?_
  rintro e w9 ⟨rfl, hb⟩
  have HB := Lib.hid (HW.out.trans (hb.mono HW.out.size))
  clear hb
  go_wp2_with fail
  go_ret
  first | exact ⟨rfl, HB.out⟩ | exact ⟨rfl, HB.out.drew⟩ | exact ⟨rfl, HB.out.drew.drew⟩
theorem all_bare {P0 : Value} {w : World} (h : Bare P0 w) : Calls Try.prog 32 #[P0] w fun e w' => e = .returned (.slice none 0 0) ∧ Below w.heap.size w w' := by
  have HE := Lib.hid (h _ (Below.refl _ _))
  clear h
  go_enter Try.func32, Try.ntmps32
  go_wp2_with fail
  refine (HE.out).mono ?_
  rintro e w9 ⟨rfl, hb⟩
  have HB := Lib.hid hb
  clear hb
  go_wp2_with fail
  go_ret
  first | exact ⟨rfl, HB.out⟩ | exact ⟨rfl, HB.out.drew⟩ | exact ⟨rfl, HB.out.drew.drew⟩
theorem goes_bare {P0 : Value} {w : World} (W : Value) (h : Bare P0 w) : Calls Try.prog 52 #[P0, W] w fun e w' => e = .returned (.slice none 0 0) ∧ Below w.heap.size w w' := by
  have HE := Lib.hid (h _ (Below.refl _ _))
  clear h
  go_enter Try.func52, Try.ntmps52
  go_wp2_with fail
  refine (HE.out).mono ?_
  rintro e w9 ⟨rfl, hb⟩
  have HB := Lib.hid hb
  clear hb
  go_wp2_with fail
  go_ret
  first | exact ⟨rfl, HB.out⟩ | exact ⟨rfl, HB.out.drew⟩ | exact ⟨rfl, HB.out.drew.drew⟩
theorem late_bare {P0 : Value} {w : World} (x : Int) (h : Bare P0 w) : Calls Try.prog 29 #[P0, .int .i64 x] w fun e w' => e = .returned (.slice none 0 0) ∧ Below w.heap.size w w' := by
  have HW := Lib.hid ((Below.refl w.heap.size w).alloc (Nat.le_refl _) (.cells #[.int .i64 x] 2))
  have HE := Lib.hid (fun W => goes_bare W (h.far HW.out))
  clear h
  have hmf : ∀ (fn : Fn) (first cap : Array Value) (w : World), (Instr.makeFunc fn first cap).run Try.prog w = .ok (.func fn first cap) w := fun _ _ _ _ => rfl
  go_enter Try.func29, Try.ntmps29
  go_wp2_with fail
  refine (HE.out _).mono ?_
  rintro e w9 ⟨rfl, hb⟩
  have HB := Lib.hid (HW.out.trans (hb.mono HW.out.size))
  clear hb
  go_wp2_with fail
  go_ret
  first | exact ⟨rfl, HB.out⟩ | exact ⟨rfl, HB.out.drew⟩ | exact ⟨rfl, HB.out.drew.drew⟩
theorem of_bare {P0 : Value} {w : World} (A0 : Option Addr) (m c : Nat) (h : Bare P0 w) : Calls Try.prog 30 #[P0, .slice A0 m c] w fun e w' => e = .returned (.slice none 0 0) ∧ Below w.heap.size w w' := by
  have HW := Lib.hid ((Below.refl w.heap.size w).alloc (Nat.le_refl _) (.cells #[.slice A0 m c] 59))
  have HE := Lib.hid (fun W => goes_bare W (h.far HW.out))
  clear h
  have hmf : ∀ (fn : Fn) (first cap : Array Value) (w : World), (Instr.makeFunc fn first cap).run Try.prog w = .ok (.func fn first cap) w := fun _ _ _ _ => rfl
  go_enter Try.func30, Try.ntmps30
  go_wp2_with fail
  refine (HE.out _).mono ?_
  rintro e w9 ⟨rfl, hb⟩
  have HB := Lib.hid (HW.out.trans (hb.mono HW.out.size))
  clear hb
  go_wp2_with fail
  go_ret
  first | exact ⟨rfl, HB.out⟩ | exact ⟨rfl, HB.out.drew⟩ | exact ⟨rfl, HB.out.drew.drew⟩
theorem clear_bare {P0 : Value} {w : World} (h : Bare P0 w) : Calls Try.prog 31 #[P0] w fun e w' => e = .returned (.slice none 0 0) ∧ Below w.heap.size w w' := by
  have HW := Lib.hid (Below.refl w.heap.size w)
  have HE := Lib.hid (fun W => goes_bare W (h.far HW.out))
  clear h
  have hmf : ∀ (fn : Fn) (first cap : Array Value) (w : World), (Instr.makeFunc fn first cap).run Try.prog w = .ok (.func fn first cap) w := fun _ _ _ _ => rfl
  go_enter Try.func31, Try.ntmps31
  go_wp2_with fail
  refine (HE.out _).mono ?_
  rintro e w9 ⟨rfl, hb⟩
  have HB := Lib.hid (HW.out.trans (hb.mono HW.out.size))
  clear hb
  go_wp2_with fail
  go_ret
  first | exact ⟨rfl, HB.out⟩ | exact ⟨rfl, HB.out.drew⟩ | exact ⟨rfl, HB.out.drew.drew⟩
set_option maxHeartbeats 1000000 in
theorem get_mem {w : World} {ta r : Nat} {v : Value} {n : Nat} {seed : Int} {t : Tb Ent} {L F : List Nat} {C : Nat → List Nat} (x : Tup) (h : MemF w ta r v n seed t) (g0 : GoodF n seed t L F C) (hn : 1 ≤ n) (hn2 : n ≤ 4096) :
    Calls Try.prog 25 #[.pointer (some ⟨ta, 0, none⟩), .agg x.cells] w fun e w' => Below w.heap.size w w' ∧ ((e = .returned (.tuple #[.agg zeroE.cells, .bool false]) ∧ ∀ p, p ∈ L → (t.ent p).x ≠ x) ∨ ∃ a, a ∈ L ∧ (t.ent a).x = x ∧ e = .returned (.tuple #[.agg (t.ent a).cells, .bool true])) := by
  have HG := Lib.hid g0
  have HM1 := Lib.hid ((h.alloc (.cells #[.int .i64 x.pr, .bool x.s6, .int .u64 x.sh, .int .u64 x.sl, .bool x.d6, .int .u64 x.dh, .int .u64 x.dl, .int .i64 x.sp, .int .i64 x.dp] 26)).alloc (.cells #[.int .i64 0, .bool false, .int .u64 0, .int .u64 0, .bool false, .int .u64 0, .int .u64 0, .int .i64 0, .int .i64 0, .int .i64 0, .int .i64 0, .int .i64 0] 28))
  obtain ⟨w1, hw1⟩ : ∃ w1, w1 = (w.alloc (.cells #[.int .i64 x.pr, .bool x.s6, .int .u64 x.sh, .int .u64 x.sl, .bool x.d6, .int .u64 x.dh, .int .u64 x.dl, .int .i64 x.sp, .int .i64 x.dp] 26)).alloc (.cells #[.int .i64 0, .bool false, .int .u64 0, .int .u64 0, .bool false, .int .u64 0, .int .u64 0, .int .i64 0, .int .i64 0, .int .i64 0, .int .i64 0, .int .i64 0] 28) := ⟨_, rfl⟩
  rw [← hw1] at HM1
  have HW := Lib.hid (show Below w.heap.size w w1 from hw1 ▸ ((Below.refl w.heap.size w).alloc (Nat.le_refl _) _).alloc (by simp) _)
  have HB1 := Lib.hid (show Blk w1 (w.heap.size + 1) 28 zeroE.cells from hw1 ▸ (by
    have := Blk.new (w.alloc (.cells #[.int .i64 x.pr, .bool x.s6, .int .u64 x.sh, .int .u64 x.sl, .bool x.d6, .int .u64 x.dh, .int .u64 x.dl, .int .i64 x.sp, .int .i64 x.dp] 26)) 28 #[.int .i64 0, .bool false, .int .u64 0, .int .u64 0, .bool false, .int .u64 0, .int .u64 0, .int .i64 0, .int .i64 0, .int .i64 0, .int .i64 0, .int .i64 0]
    rw [show (w.alloc (.cells #[.int .i64 x.pr, .bool x.s6, .int .u64 x.sh, .int .u64 x.sl, .bool x.d6, .int .u64 x.dh, .int .u64 x.dl, .int .i64 x.sp, .int .i64 x.dp] 26)).heap.size = w.heap.size + 1 by simp] at this
    exact this))
  have HFI := Lib.hid (show Calls Try.prog 50 #[.pointer (some ⟨ta, 0, none⟩), .agg #[.int .i64 x.pr, .bool x.s6, .int .u64 x.sh, .int .u64 x.sl, .bool x.d6, .int .u64 x.dh, .int .u64 x.dl, .int .i64 x.sp, .int .i64 x.dp]] w1 fun e w' => ∃ at' : Int, e = .returned (.int .i64 at') ∧ flowN.Found t L x at' ∧ Below w1.heap.size w1 w' from find_any x HM1.out g0 hn hn2)
  unfold Tup.cells
  clear h g0
  go_enter Try.func25, Try.ntmps25
  go_wp2_with fail
  rw [← hw1]
  refine (HFI.out).mono ?_
  rintro e w2 ⟨at', rfl, hfd, hb⟩
  have M2 := Lib.hid (HM1.out.below hb)
  have B2 := Lib.hid (HW.out.trans (hb.mono HW.out.size))
  have K2 := Lib.hid (show Blk w2 (w.heap.size + 1) 28 zeroE.cells from (hb.block _ HB1.out.lt).trans HB1.out)
  clear hb hw1 HFI
  rcases hfd with ⟨rfl, hno⟩ | ⟨a, rfl, haL, hax⟩
  · have HN := Lib.hid hno
    have HBL := Lib.hid (setRow_heap _ (w.heap.size + 1) _ zeroE.cells _ (0, 0) K2.out)
    have BZ := Lib.hid (show Below w.heap.size w (w2.setRow (w.heap.size + 1) zeroE.cells) from ⟨B2.out.os, B2.out.tape, B2.out.output, Nat.le_trans B2.out.size (by unfold World.setRow; simp), fun k hk => (setRow_other _ _ _ _ (by omega)).trans (B2.out.block k hk)⟩)
    clear hno
    go_wp2_with (refine wpList_store_row rfl 28 _ _ rfl (w.heap.size + 1) zeroE.cells rfl rfl 28 zeroE.cells K2.out size_e rfl (one_e _) ?_)
    refine bodyPost_ret (results_entry rfl _ _ (w.heap.size + 1) zeroE.cells rfl HBL.out rfl) rfl ⟨BZ.out, .inl ⟨rfl, HN.out⟩⟩
  · have ha : a < t.np := HG.out.lt a (.inl haL)
    obtain ⟨g, cap, hv, g1, g2, hcp, hm, hc, hfz⟩ := M2.out.place a ha
    subst hv
    unfold maxLen at hm
    have c3 := M2.out.cells.2.2.2.1
    have d0 : w2.cell? ⟨g, a * 15, none⟩ = some (.int .i64 (t.ent a).x.pr) := hc 0 (by omega)
    have d1 : w2.cell? ⟨g, a * 15 + 1, none⟩ = some (.bool (t.ent a).x.s6) := hc 1 (by omega)
    have d2 : w2.cell? ⟨g, a * 15 + 2, none⟩ = some (.int .u64 (t.ent a).x.sh) := hc 2 (by omega)
    have d3 : w2.cell? ⟨g, a * 15 + 3, none⟩ = some (.int .u64 (t.ent a).x.sl) := hc 3 (by omega)
    have d4 : w2.cell? ⟨g, a * 15 + 4, none⟩ = some (.bool (t.ent a).x.d6) := hc 4 (by omega)
    have d5 : w2.cell? ⟨g, a * 15 + 5, none⟩ = some (.int .u64 (t.ent a).x.dh) := hc 5 (by omega)
    have d6 : w2.cell? ⟨g, a * 15 + 6, none⟩ = some (.int .u64 (t.ent a).x.dl) := hc 6 (by omega)
    have d7 : w2.cell? ⟨g, a * 15 + 7, none⟩ = some (.int .i64 (t.ent a).x.sp) := hc 7 (by omega)
    have d8 : w2.cell? ⟨g, a * 15 + 8, none⟩ = some (.int .i64 (t.ent a).x.dp) := hc 8 (by omega)
    have d9 : w2.cell? ⟨g, a * 15 + 9, none⟩ = some (.int .i64 (t.ent a).host) := hc 9 (by omega)
    have d10 : w2.cell? ⟨g, a * 15 + 10, none⟩ = some (.int .i64 (t.ent a).state) := hc 10 (by omega)
    have d11 : w2.cell? ⟨g, a * 15 + 11, none⟩ = some (.int .i64 (t.ent a).till) := hc 11 (by omega)
    have HBL := Lib.hid (setRow_heap _ (w.heap.size + 1) _ (t.ent a).cells _ (0, 0) K2.out)
    have BZ := Lib.hid (show Below w.heap.size w (w2.setRow (w.heap.size + 1) (t.ent a).cells) from ⟨B2.out.os, B2.out.tape, B2.out.output, Nat.le_trans B2.out.size (by unfold World.setRow; simp), fun k hk => (setRow_other _ _ _ _ (by omega)).trans (B2.out.block k hk)⟩)
    have HX := Lib.hid (show a ∈ L ∧ (t.ent a).x = x from ⟨haL, hax⟩)
    have q0 : ((a : Int) == -1) = false := by simp
    have q1 : (0 : Int) ≤ a := by omega
    have q2 : (a : Int) < t.np := by omega
    clear haL hax hc hfz
    go_wp2_with (refine wpList_store_row rfl 28 _ _ rfl (w.heap.size + 1) (t.ent a).cells rfl rfl 28 zeroE.cells K2.out size_e rfl (one_e _) ?_)
    refine bodyPost_ret (results_entry rfl _ _ (w.heap.size + 1) (t.ent a).cells rfl HBL.out rfl) rfl ⟨BZ.out, .inr ⟨a, HX.out.1, HX.out.2, rfl⟩⟩
theorem get_bare {P0 : Value} {w : World} (x : Tup) (h : Bare P0 w) : Calls Try.prog 25 #[P0, .agg x.cells] w fun e w' => e = .returned (.tuple #[.agg zeroE.cells, .bool false]) ∧ Below w.heap.size w w' := by
  obtain ⟨w1, hw1⟩ : ∃ w1, w1 = (w.alloc (.cells #[.int .i64 x.pr, .bool x.s6, .int .u64 x.sh, .int .u64 x.sl, .bool x.d6, .int .u64 x.dh, .int .u64 x.dl, .int .i64 x.sp, .int .i64 x.dp] 26)).alloc (.cells #[.int .i64 0, .bool false, .int .u64 0, .int .u64 0, .bool false, .int .u64 0, .int .u64 0, .int .i64 0, .int .i64 0, .int .i64 0, .int .i64 0, .int .i64 0] 28) := ⟨_, rfl⟩
  have HW := Lib.hid (show Below w.heap.size w w1 from hw1 ▸ ((Below.refl w.heap.size w).alloc (Nat.le_refl _) _).alloc (by simp) _)
  have HB1 := Lib.hid (show Blk w1 (w.heap.size + 1) 28 zeroE.cells from hw1 ▸ (by
    have := Blk.new (w.alloc (.cells #[.int .i64 x.pr, .bool x.s6, .int .u64 x.sh, .int .u64 x.sl, .bool x.d6, .int .u64 x.dh, .int .u64 x.dl, .int .i64 x.sp, .int .i64 x.dp] 26)) 28 #[.int .i64 0, .bool false, .int .u64 0, .int .u64 0, .bool false, .int .u64 0, .int .u64 0, .int .i64 0, .int .i64 0, .int .i64 0, .int .i64 0, .int .i64 0]
    rw [show (w.alloc (.cells #[.int .i64 x.pr, .bool x.s6, .int .u64 x.sh, .int .u64 x.sl, .bool x.d6, .int .u64 x.dh, .int .u64 x.dl, .int .i64 x.sp, .int .i64 x.dp] 26)).heap.size = w.heap.size + 1 by simp] at this
    exact this))
  have HE := Lib.hid (show Calls Try.prog 50 #[P0, .agg #[.int .i64 x.pr, .bool x.s6, .int .u64 x.sh, .int .u64 x.sl, .bool x.d6, .int .u64 x.dh, .int .u64 x.dl, .int .i64 x.sp, .int .i64 x.dp]] w1 fun e w' => e = .returned (.int .i64 (-1)) ∧ Below w1.heap.size w1 w' from find_bare x (h.far HW.out))
  unfold Tup.cells
  clear h
  go_enter Try.func25, Try.ntmps25
  go_wp2_with fail
  rw [← hw1]
  refine (HE.out).mono ?_
  rintro e w2 ⟨rfl, hb⟩
  have B2 := Lib.hid (HW.out.trans (hb.mono HW.out.size))
  have K2 := Lib.hid (show Blk w2 (w.heap.size + 1) 28 zeroE.cells from (hb.block _ HB1.out.lt).trans HB1.out)
  clear hb hw1
  have HBL := Lib.hid (setRow_heap _ (w.heap.size + 1) _ zeroE.cells _ (0, 0) K2.out)
  have BZ := Lib.hid (show Below w.heap.size w (w2.setRow (w.heap.size + 1) zeroE.cells) from ⟨B2.out.os, B2.out.tape, B2.out.output, Nat.le_trans B2.out.size (by unfold World.setRow; simp), fun k hk => (setRow_other _ _ _ _ (by omega)).trans (B2.out.block k hk)⟩)
  go_wp2_with (refine wpList_store_row rfl 28 _ _ rfl (w.heap.size + 1) zeroE.cells rfl rfl 28 zeroE.cells K2.out size_e rfl (one_e _) ?_)
  refine bodyPost_ret (results_entry rfl _ _ (w.heap.size + 1) zeroE.cells rfl HBL.out rfl) rfl ⟨rfl, BZ.out⟩
end Go.Proofs.Ytboknpkcpeoebaa.flowT
