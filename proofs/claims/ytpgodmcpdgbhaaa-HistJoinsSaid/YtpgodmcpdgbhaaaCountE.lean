/- Layer 31: boards. -/
import Derived.Test.YtpgodmcpdgbhaaaCountD
import Derived.Deep.RegionWith
namespace Go.Proofs.Ytpgodmcpdgbhaaa.countE
open Go.ChangeShapes Go.WideShapes Go.ChangeAt Go.RowKit
open Go.Proofs.Ytpgodmcpdgbhaaa.base Go.Proofs.Ytpgodmcpdgbhaaa.countA Go.Proofs.Ytpgodmcpdgbhaaa.countC Go.Proofs.Ytpgodmcpdgbhaaa.countD
set_option linter.unusedVariables false

theorem run_call_swap {P : Program} {f : FuncId} {fn : Func} (hf : P.funcs[f]? = some fn) (hname : (fn.name == "runtime.NumGoroutine") = false) (hb : fn.body.isNone = true) (hn : Extern.findNext fn = none) (k : IntKind)
    (he : Extern.find fn = some (Extern.Atomic.swapT (.int k))) {a : Addr} {x y : Int} {w : World} (hc : w.cell? a = some (.int k x)) (hz : w.frozen? a = false) :
    (callFunc f #[.pointer (some a), .int k y]).run P w = .ok (.value (.int k x)) (w.setCell a (.int k y)) := by
  rw [run_callFunc_extern hf hname hb hn he]
  change (Sem.run P (do
    let a' ← asAddr (.pointer (some a))
    let old ← Extern.Atomic.read (.int k) a'
    store a' (.int k y) .atomic
    pure old) w).andThen _ = _
  simp [Extern.Atomic.read, asAddr, hc, hz, run_store P w a (.int k y) .atomic rfl, Result.andThen]
theorem swap_any (g o : Nat) (x y : Int) (w : World) (hc : w.cell? ⟨g, o, none⟩ = some (.int .i64 x)) (hz : w.frozen? ⟨g, o, none⟩ = false) :
    Calls Try.prog 27 #[.pointer (some ⟨g, o, none⟩), .int .i64 y] w fun e w' => e = .returned (.int .i64 x) ∧ w.setCell ⟨g, o, none⟩ (.int .i64 y) = w' := by
  have hl := run_call_swap (P := Try.prog) Try.func43 (by kernel_rfl) (by kernel_rfl) (by kernel_rfl) .i64 (by kernel_rfl) (y := y) hc hz
  go_enter Try.func27, Try.ntmps27
  go_wp2
  go_ret
  exact ⟨rfl, rfl⟩
theorem add_any (g o : Nat) (x y : Int) (w : World) (hc : w.cell? ⟨g, o, none⟩ = some (.int .i64 x)) (hz : w.frozen? ⟨g, o, none⟩ = false) :
    Calls Try.prog 24 #[.pointer (some ⟨g, o, none⟩), .int .i64 y] w fun e w' => e = .returned (.int .i64 (wrap64 (x + y))) ∧ w.setCell ⟨g, o, none⟩ (.int .i64 (wrap64 (x + y))) = w' := by
  have hl := run_call_add (P := Try.prog) Try.func41 (by kernel_rfl) (by kernel_rfl) (by kernel_rfl) .i64 (by kernel_rfl) (y := y) (s := wrap64 (x + y)) hc hz (by simp [Op.intArith, IntWalk.i64_left])
  go_enter Try.func24, Try.ntmps24
  go_wp2
  go_ret
  exact ⟨rfl, rfl⟩
theorem counted_yes (n : Int) (w : World) (h0 : 0 ≤ n) (h1 : n < 26) :
    Calls Try.prog 25 #[.int .i64 n] w fun e w' => e = .returned (.bool true) ∧ w = w' := by
  go_enter Try.func25, Try.ntmps25
  go_wp2
  go_ret
  exact ⟨rfl, rfl⟩
theorem counted_no (n : Int) (w : World) (h : ¬ (0 ≤ n ∧ n < 26)) :
    Calls Try.prog 25 #[.int .i64 n] w fun e w' => e = .returned (.bool false) ∧ w = w' := by
  by_cases h0 : 0 ≤ n
  · have q0 : decide (0 ≤ n) = true := decide_eq_true h0
    have q1 : decide (n < 26) = false := decide_eq_false (by omega)
    clear h h0
    go_enter Try.func25, Try.ntmps25
    go_wp2
    go_ret
    exact ⟨rfl, rfl⟩
  · have q0 : decide (0 ≤ n) = false := decide_eq_false h0
    clear h h0
    go_enter Try.func25, Try.ntmps25
    go_wp2
    go_ret
    exact ⟨rfl, rfl⟩
/-- Only block g has changed. -/
structure OnlyB (g : Nat) (w w' : World) : Prop where
  os : w'.os = w.os
  tape : w'.tape = w.tape
  output : w'.output = w.output
  size : w'.heap.size = w.heap.size
  block : ∀ k, k ≠ g → w'.heap[k]? = w.heap[k]?
theorem OnlyB.set {g : Nat} {a w : World} (h : OnlyB g a w) (o : Nat) (v : Value) : OnlyB g a (w.setCell ⟨g, o, none⟩ v) :=
  ⟨h.os, h.tape, h.output, by rw [← h.size]; simp, fun k hk => (Below.heap_setCell w ⟨g, o, none⟩ v k hk).trans (h.block k hk)⟩
theorem OnlyB.refl (g : Nat) (w : World) : OnlyB g w w := ⟨rfl, rfl, rfl, rfl, fun _ _ => rfl⟩
theorem OnlyB.blk {g : Nat} {w w' : World} (h : OnlyB g w w') {k : Nat} {t : TypeId} {cs : Array Value} (hb : Blk w k t cs) (hk : k ≠ g) : Blk w' k t cs := (h.block k hk).trans hb
theorem OnlyB.below {g B : Nat} {a w w' : World} (h : OnlyB g w w') (hb : Below B a w) (hB : B ≤ g) : Below B a w' :=
  hb.trans ⟨h.os, h.tape, h.output, Nat.le_of_eq h.size.symm, fun k hk => h.block k (by omega)⟩
def up (f : Nat → Int) (k : Nat) (d : Int) : Nat → Int := fun i => if i = k then wrap64 (f k + d) else f i
theorem up_other (f : Nat → Int) (k i : Nat) (d : Int) (h : i ≠ k) : up f k d i = f i := by unfold up; rw [if_neg h]
theorem at_up {cs : Array Value} {f : Nat → Int} (h : At cs f) (k : Nat) (hk : k < 29) (d : Int) : At (cs.setIfInBounds k (.int .i64 (wrap64 (f k + d)))) (up f k d) := h.set k hk _
def InPost (g : Nat) (f : Nat → Int) (w : World) (e : Ending) (w' : World) : Prop := ∃ cs, e = .returned (.tuple #[]) ∧ Blk w' g 44 cs ∧ At cs f ∧ OnlyB g w w'
theorem in_yes (g m : Nat) (cs : Array Value) (f : Nat → Int) (w : World) (hm : m < 26) (hB : Blk w g 44 cs) (hA : At cs f) :
    Calls Try.prog 8 #[.pointer (some ⟨g, 0, none⟩), .int .i64 (m : Int)] w (InPost g (up (up f 0 1) (3 + m) 1) w) := by
  have h0 := (hB.cell 0).trans (hA.2 0 (by omega))
  have z0 := hB.frozen 0
  have hB1 := Lib.hid (hB.set_ 0 (.int .i64 (wrap64 (f 0 + 1))))
  have c1 := (hB1.out.cell (3 + m)).trans ((at_up hA 0 (by omega) 1).2 (3 + m) (by omega))
  rw [up_other f 0 (3 + m) 1 (by omega)] at c1
  have f1 := hB1.out.frozen (3 + m)
  have HP := Lib.hid (show InPost g (up (up f 0 1) (3 + m) 1) w (.returned (.tuple #[])) ((w.setCell ⟨g, 0, none⟩ (.int .i64 (wrap64 (f 0 + 1)))).setCell ⟨g, 3 + m, none⟩ (.int .i64 (wrap64 (f (3 + m) + 1)))) from by
    refine ⟨_, rfl, hB1.out.set_ (3 + m) _, ?_, ((OnlyB.refl g w).set _ _).set _ _⟩
    have := at_up (at_up hA 0 (by omega) 1) (3 + m) (by omega) 1
    rwa [up_other f 0 (3 + m) 1 (by omega)] at this)
  have C1 := Lib.hid c1
  have F1 := Lib.hid f1
  clear hB hA c1 f1
  go_enter Try.func8, Try.ntmps8
  go_wp2_with fail
  refine (add_any g 0 (f 0) 1 _ h0 z0).mono ?_
  rintro e w' ⟨rfl, rfl⟩
  go_wp2_with fail
  refine (counted_yes m _ (by omega) (by omega)).mono ?_
  rintro e w' ⟨rfl, rfl⟩
  go_wp2_with fail
  refine (add_any g (3 + m) (f (3 + m)) 1 _ C1.out F1.out).mono ?_
  rintro e w' ⟨rfl, rfl⟩
  go_wp2_with fail
  exact bodyPost_end (v := .tuple #[]) (by simp [results, Try.results8, go_sem]) rfl HP.out
theorem in_no (g : Nat) (n : Int) (cs : Array Value) (f : Nat → Int) (w : World) (hn : ¬ (0 ≤ n ∧ n < 26)) (hB : Blk w g 44 cs) (hA : At cs f) :
    Calls Try.prog 8 #[.pointer (some ⟨g, 0, none⟩), .int .i64 n] w (InPost g (up f 0 1) w) := by
  have h0 := (hB.cell 0).trans (hA.2 0 (by omega))
  have z0 := hB.frozen 0
  have HP := Lib.hid (show InPost g (up f 0 1) w (.returned (.tuple #[])) (w.setCell ⟨g, 0, none⟩ (.int .i64 (wrap64 (f 0 + 1)))) from ⟨_, rfl, hB.set_ 0 _, at_up hA 0 (by omega) 1, (OnlyB.refl g w).set _ _⟩)
  have HNO := Lib.hid (fun w => counted_no n w hn)
  clear hn hB hA
  go_enter Try.func8, Try.ntmps8
  go_wp2_with fail
  refine (add_any g 0 (f 0) 1 _ h0 z0).mono ?_
  rintro e w' ⟨rfl, rfl⟩
  go_wp2_with fail
  refine (HNO.out _).mono ?_
  rintro e w' ⟨rfl, rfl⟩
  go_wp2_with fail
  exact bodyPost_end (v := .tuple #[]) (by simp [results, Try.results8, go_sem]) rfl HP.out
theorem of_no (g : Nat) (n : Int) (w : World) (hn : ¬ (0 ≤ n ∧ n < 26)) :
    Calls Try.prog 12 #[.pointer (some ⟨g, 0, none⟩), .int .i64 n] w fun e w' => e = .returned (.int .i64 0) ∧ w = w' := by
  have HNO := Lib.hid (fun w => counted_no n w hn)
  clear hn
  go_enter Try.func12, Try.ntmps12
  go_wp2_with fail
  refine (HNO.out _).mono ?_
  rintro e w' ⟨rfl, rfl⟩
  go_wp2_with fail
  go_ret
  exact ⟨rfl, rfl⟩
theorem of_yes (g m : Nat) (y : Int) (w : World) (hm : m < 26) (h1 : w.cell? ⟨g, 3 + m, none⟩ = some (.int .i64 y)) :
    Calls Try.prog 12 #[.pointer (some ⟨g, 0, none⟩), .int .i64 (m : Int)] w fun e w' => e = .returned (.int .i64 y) ∧ w = w' := by
  go_enter Try.func12, Try.ntmps12
  go_wp2_with fail
  refine (counted_yes m _ (by omega) (by omega)).mono ?_
  rintro e w' ⟨rfl, rfl⟩
  go_wp2_with fail
  refine (load_any g (3 + m) y _ h1).mono ?_
  rintro e w' ⟨rfl, rfl⟩
  go_wp2_with fail
  go_ret
  exact ⟨rfl, rfl⟩
theorem out_any (g : Nat) (n q : Int) (cs : Array Value) (f : Nat → Int) (w : World) (hq : (n < 0 ∧ q = 0) ∨ (0 ≤ n ∧ q = n)) (hB : Blk w g 44 cs) (hA : At cs f) :
    Calls Try.prog 9 #[.pointer (some ⟨g, 0, none⟩), .int .i64 n] w (InPost g (up (up f 1 1) 2 q) w) := by
  have h0 := (hB.cell 1).trans (hA.2 1 (by omega))
  have z0 := hB.frozen 1
  have hB1 := Lib.hid (hB.set_ 1 (.int .i64 (wrap64 (f 1 + 1))))
  have c1 := (hB1.out.cell 2).trans ((at_up hA 1 (by omega) 1).2 2 (by omega))
  rw [up_other f 1 2 1 (by omega)] at c1
  have f1 := hB1.out.frozen 2
  have HP := Lib.hid (show InPost g (up (up f 1 1) 2 q) w (.returned (.tuple #[])) ((w.setCell ⟨g, 1, none⟩ (.int .i64 (wrap64 (f 1 + 1)))).setCell ⟨g, 2, none⟩ (.int .i64 (wrap64 (f 2 + q)))) from by
    refine ⟨_, rfl, hB1.out.set_ 2 _, ?_, ((OnlyB.refl g w).set _ _).set _ _⟩
    have := at_up (at_up hA 1 (by omega) 1) 2 (by omega) q
    rwa [up_other f 1 2 1 (by omega)] at this)
  have C1 := Lib.hid c1
  have F1 := Lib.hid f1
  clear hB hA c1 f1
  have HQ := Lib.hid hq
  rcases hq with ⟨hn, hq0⟩ | ⟨hn, hq0⟩
  · subst hq0
    rw [Int.add_zero] at HP
    have q0 : max n 0 = 0 := by omega
    go_enter Try.func9, Try.ntmps9
    go_wp2_with fail
    refine (add_any g 1 (f 1) 1 _ h0 z0).mono ?_
    rintro e w' ⟨rfl, rfl⟩
    go_wp2_with fail
    refine (add_any g 2 (f 2) _ _ C1.out F1.out).mono ?_
    rintro e w' ⟨rfl, rfl⟩
    go_wp2_with fail
    exact bodyPost_end (v := .tuple #[]) (by simp [results, Try.results9, go_sem]) rfl HP.out
  · subst hq0
    have q0 : max q 0 = q := by omega
    clear HQ
    go_enter Try.func9, Try.ntmps9
    go_wp2_with fail
    refine (add_any g 1 (f 1) 1 _ h0 z0).mono ?_
    rintro e w' ⟨rfl, rfl⟩
    go_wp2_with fail
    refine (add_any g 2 (f 2) _ _ C1.out F1.out).mono ?_
    rintro e w' ⟨rfl, rfl⟩
    go_wp2_with fail
    exact bodyPost_end (v := .tuple #[]) (by simp [results, Try.results9, go_sem]) rfl HP.out
end Go.Proofs.Ytpgodmcpdgbhaaa.countE
