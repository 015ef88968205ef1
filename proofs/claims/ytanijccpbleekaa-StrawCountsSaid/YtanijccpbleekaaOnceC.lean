/- Layer 3: a table of draws, asked. -/
import Derived.Test.YtanijccpbleekaaOnceB
import Derived.Deep.QuietTactic
import Derived.BigQuiet
import Derived.IntWalk
namespace Go.Proofs.Ytanijccpbleekaa.onceC
open Go.ChangeShapes Go.WideShapes Go.ChangeAt Go.RowKit
open Go.Proofs.Ytanijccpbleekaa.base Go.Proofs.Ytanijccpbleekaa.onceA Go.Proofs.Ytanijccpbleekaa.onceB Go.Proofs.Ytanijccpbleekaa.logC
set_option linter.unusedVariables false

/-- A table that is filled. -/
def Full (g : Nat) (T : TypeId) (w : World) : Prop := ∃ h, h ≠ g ∧ Blk w g T (TabC 1 0 (.slice (some ⟨h, 0, none⟩) 65536 65536)) ∧ FillTo w h 65536
/-- A table, filled or not yet. -/
def Tab (g : Nat) (T : TypeId) (w : World) : Prop := Blk w g T (TabC 0 0 (.slice none 0 0)) ∨ Full g T w
def DonePost (g : Nat) (T : TypeId) (w : World) (e : Ending) (w' : World) : Prop := e = .returned (.tuple #[]) ∧ Full g T w' ∧ Aside g w w'
set_option maxRecDepth 100000 in
set_option maxHeartbeats 4000000 in
theorem slow_any (g : Nat) (T : TypeId) (w : World) (hb : Blk w g T (TabC 0 0 (.slice none 0 0))) :
    Calls Try.prog 30 #[.pointer (some ⟨g, 0, none⟩), .func (.func 22) #[.pointer (some ⟨g, 0, none⟩)] #[]] w (DonePost g T w) := by
  have l0 : w.cell? ⟨g, 1, none⟩ = some (.int .i32 0) := hb.cell 1
  have z0 : w.frozen? ⟨g, 1, none⟩ = false := hb.frozen 1
  have HG := Lib.hid hb.lt
  obtain ⟨w1, hw1⟩ : ∃ w1, w1 = w.setCell ⟨g, 1, none⟩ (.int .i32 1) := ⟨_, rfl⟩
  have HW1 := Lib.hid hw1
  have HB1 := Lib.hid (show Blk w1 g T (TabC 0 1 (.slice none 0 0)) from hw1 ▸ hb.set_ 1 _)
  have HA1 := Lib.hid (show Aside g w w1 from hw1 ▸ (Aside.refl g w).set 1 _)
  have HL := Lib.hid (lock_free ⟨g, 1, none⟩ w l0 z0)
  have HF := Lib.hid (fill_any g T w1 HB1.out)
  have HD := Lib.hid (loadBool ⟨g, 0, none⟩ 0 w1 (HB1.out.cell 0))
  have hnot : ∀ (x : Bool) (w : World), (Op.unary .not (.bool x)).run Try.prog w = .ok (.bool (!x)) w := fun _ _ => rfl
  clear hb hw1 l0 z0
  go_enter_defers Try.func30, Try.ntmps30
  go_wp2_with fail
  refine HL.out.mono ?_
  rintro e w' ⟨rfl, rfl⟩
  rw [← HW1.out]
  go_wp2_with fail
  refine HD.out.mono ?_
  rintro e w' ⟨rfl, rfl⟩
  go_wp2_with fail
  refine HF.out.mono ?_
  rintro e w3 ⟨rfl, h, hh, hb3, hf3, ha3⟩
  have HB3 := Lib.hid hb3
  have HF3 := Lib.hid hf3
  have HA3 := Lib.hid (HA1.out.trans ha3)
  have HH := Lib.hid (show h ≠ g by have := HG.out; have := HA1.out.size; omega)
  clear hh hb3 hf3 ha3
  go_wp2_with fail
  have c0 : w3.cell? ⟨g, 0, none⟩ = some (.int .u32 0) := HB3.out.cell 0
  have f0 : w3.frozen? ⟨g, 0, none⟩ = false := HB3.out.frozen 0
  have HB4 : Blk (w3.drew.setCell ⟨g, 0, none⟩ (.int .u32 1)) g T (TabC 1 1 (.slice (some ⟨h, 0, none⟩) 65536 65536)) := HB3.out.drew.set_ 0 _
  have HF4 : FillTo (w3.drew.setCell ⟨g, 0, none⟩ (.int .u32 1)) h 65536 := HF3.out.blk (Below.heap_setCell w3.drew ⟨g, 0, none⟩ (.int .u32 1) h HH.out)
  have HA4 : Aside g w (w3.drew.setCell ⟨g, 0, none⟩ (.int .u32 1)) := HA3.out.drew.set 0 _
  refine leaves_cons (f := 39) (args := #[.pointer (some ⟨g, 0, none⟩), .bool true]) (by simp) (by simp [go_sem]) ?_
  refine (store_deferred ⟨g, 0, none⟩ (.int .u32 0) .returning _ c0 f0).mono ?_
  rintro e u' w'' ⟨rfl, rfl, rfl⟩
  have c1 : (w3.drew.setCell ⟨g, 0, none⟩ (.int .u32 1)).cell? ⟨g, 1, none⟩ = some (.int .i32 1) := HB4.cell 1
  have f1 : (w3.drew.setCell ⟨g, 0, none⟩ (.int .u32 1)).frozen? ⟨g, 1, none⟩ = false := HB4.frozen 1
  refine leaves_cons (f := 38) (args := #[.pointer (some ⟨g, 1, none⟩)]) (by simp [settle]) (by simp [go_sem]) ?_
  refine (unlock_deferred ⟨g, 1, none⟩ _ _ c1 f1).mono ?_
  rintro e u' w'' ⟨rfl, rfl, rfl⟩
  have HP : DonePost g T w (.returned (.tuple #[])) ((w3.drew.setCell ⟨g, 0, none⟩ (.int .u32 1)).setCell ⟨g, 1, none⟩ (.int .i32 0)) :=
    ⟨rfl, ⟨h, HH.out, HB4.set_ 1 _, HF4.blk (Below.heap_setCell _ ⟨g, 1, none⟩ (.int .i32 0) h HH.out)⟩, HA4.set 1 _⟩
  simp [Leaves, settle, results, Try.results30]
  exact HP
set_option maxRecDepth 100000 in
set_option maxHeartbeats 4000000 in
theorem do_any (g : Nat) (T : TypeId) (w : World) (hb : Tab g T w) :
    Calls Try.prog 21 #[.pointer (some ⟨g, 0, none⟩), .func (.func 22) #[.pointer (some ⟨g, 0, none⟩)] #[]] w (DonePost g T w) := by
  have hnot : ∀ (x : Bool) (w : World), (Op.unary .not (.bool x)).run Try.prog w = .ok (.bool (!x)) w := fun _ _ => rfl
  rcases hb with hb | hb
  · have HD := Lib.hid (loadBool ⟨g, 0, none⟩ 0 w (hb.cell 0))
    have HS := Lib.hid (slow_any g T w hb)
    clear hb
    go_enter Try.func21, Try.ntmps21
    go_wp2_with fail
    refine HD.out.mono ?_
    rintro e w' ⟨rfl, rfl⟩
    go_wp2_with fail
    refine HS.out.mono ?_
    rintro e w' ⟨rfl, h2, h3⟩
    have HP := Lib.hid (show DonePost g T w (.returned (.tuple #[])) w' from ⟨rfl, h2, h3⟩)
    clear h2 h3
    go_wp2_with fail
    go_end0
    exact HP.out
  · obtain ⟨h, h1, h2, h3⟩ := hb
    have HD := Lib.hid (loadBool ⟨g, 0, none⟩ 1 w (h2.cell 0))
    have HP := Lib.hid (show DonePost g T w (.returned (.tuple #[])) w from ⟨rfl, ⟨h, h1, h2, h3⟩, Aside.refl g w⟩)
    clear h1 h2 h3
    go_enter Try.func21, Try.ntmps21
    go_wp2_with fail
    refine HD.out.mono ?_
    rintro e w' ⟨rfl, rfl⟩
    go_wp2_with fail
    go_end0
    exact HP.out
def AtPost (g : Nat) (T : TypeId) (x : Int) (w : World) (e : Ending) (w' : World) : Prop := e = .returned (.int .u64 x) ∧ Full g T w' ∧ Aside g w w'
theorem Full.drewN {g : Nat} {T : TypeId} {w : World} (h : Full g T w) (n : Nat) : Full g T (w.drewN n) := h
theorem asideN {g : Nat} {a b : World} (h : Aside g a b) (n : Nat) : Aside g a (b.drewN n) := ⟨h.os, h.tape, h.output, h.size, h.block⟩
set_option maxRecDepth 100000 in
set_option maxHeartbeats 4000000 in
theorem at_any (g : Nat) (T : TypeId) (d : Int) (w : World) (hb : Tab g T w) :
    Calls Try.prog 9 #[.pointer (some ⟨g, 0, none⟩), .int .i64 d] w (AtPost g T (ofZ d) w) := by
  have HD := Lib.hid (do_any g T w hb)
  have hd := heldN_bd d
  have HZ : ofZ d = ofZ (((heldN d - 1 : Nat) : Int) + 1) := by
    have e : heldN (((heldN d - 1 : Nat) : Int) + 1) = heldN d := by
      rw [show (((heldN d - 1 : Nat) : Int) + 1) = (heldN d : Int) by omega]
      have h2 := heldN_bd d
      generalize heldN d = n at *
      unfold heldN
      rw [if_neg (by omega), if_neg (by omega), Int.toNat_natCast]
    unfold ofZ
    rw [e]
  rw [HZ]
  have HH := Lib.hid (fun W => held_any d W)
  obtain ⟨k, hk⟩ : ∃ k, heldN d = k + 1 := ⟨heldN d - 1, by omega⟩
  rw [hk] at HH
  rw [show heldN d - 1 = k by omega]
  have hk2 : k < 65536 := by omega
  have k0 : (0 : Int) ≤ k := by omega
  have k1 : (k : Int) < 65536 := by omega
  clear hd HZ hk hb
  go_enter Try.func9, Try.ntmps9
  go_wp2_with fail
  refine HD.out.mono ?_
  rintro e w3 ⟨rfl, hf, ha⟩
  have HFU := Lib.hid hf
  have HAS := Lib.hid ha
  obtain ⟨h, hh, hb3, hf3⟩ := hf
  have c3 : w3.cell? ⟨g, 3, none⟩ = some (.slice (some ⟨h, 0, none⟩) 65536 65536) := hb3.cell 3
  have ck : w3.cell? ⟨h, k, none⟩ = some (.int .u64 (ofZ ((k : Int) + 1))) := hf3.cell k hk2
  have wk : IntKind.i64.wrap (((k + 1 : Nat) : Int) - 1) = (k : Int) := by
    rw [IntWalk.i64_in _ (by omega)]
    omega
  clear ha hh hb3 hf3
  go_wp2_with fail
  go_quiet ((go_at_call 19; exact Calls.quiet_of_same ((HH.out _).mono fun e w' ⟨x, y⟩ => ⟨x, y.symm⟩)))
  have HP := Lib.hid (show AtPost g T (ofZ ((k : Int) + 1)) w (.returned (.int .u64 (ofZ ((k : Int) + 1)))) (w3.drewN nq) from ⟨rfl, HFU.out.drewN nq, asideN HAS.out nq⟩)
  clear c3 ck wk
  go_wp2_with fail
  go_ret
  exact HP.out
end Go.Proofs.Ytanijccpbleekaa.onceC
