/- 14 texts in one. -/
import Derived.Deep.QuietTactic
import Derived.BigQuiet
import Derived.IntWalk
import Derived.Test.YtoaboklckkcjcaaGreatRows
import Derived.WalkKit
import Derived.ProofKit
import Derived.OpenShut
import Derived.Lib.Hide
import Derived.Handy
import Derived.Deep.RegionHeld3
import Derived.Test.YtoaboklckkcjcaaGreatPk01
/- Layer 3: a table of draws, asked. -/
namespace Go.Proofs.YtoaboklckkcjcaaGreat.onceC
open Go.ChangeShapes Go.WideShapes Go.ChangeAt Go.RowKit
open Go.Proofs.YtoaboklckkcjcaaGreat.base Go.Proofs.YtoaboklckkcjcaaGreat.onceA Go.Proofs.YtoaboklckkcjcaaGreat.onceB Go.Proofs.YtoaboklckkcjcaaGreat.logC
set_option linter.unusedVariables false

/-- A table that is filled. -/
def Full (g : Nat) (T : TypeId) (w : World) : Prop := ∃ h, h ≠ g ∧ Blk w g T (TabC 1 0 (.slice (some ⟨h, 0, none⟩) 65536 65536)) ∧ FillTo w h 65536
/-- A table, filled or not yet. -/
def Tab (g : Nat) (T : TypeId) (w : World) : Prop := Blk w g T (TabC 0 0 (.slice none 0 0)) ∨ Full g T w
def DonePost (g : Nat) (T : TypeId) (w : World) (e : Ending) (w' : World) : Prop := e = .returned (.tuple #[]) ∧ Full g T w' ∧ AsideG g w w'
set_option maxRecDepth 100000 in
set_option maxHeartbeats 4000000 in
theorem slow_any (g : Nat) (T : TypeId) (w : World) (hb : Blk w g T (TabC 0 0 (.slice none 0 0))) :
    Calls Tryz.prog 112 #[.pointer (some ⟨g, 0, none⟩), .func (.func 108) #[.pointer (some ⟨g, 0, none⟩)] #[]] w (DonePost g T w) := by
  have l0 : w.cell? ⟨g, 1, none⟩ = some (.int .i32 0) := hb.cell 1
  have z0 : w.frozen? ⟨g, 1, none⟩ = false := hb.frozen 1
  have HG := Lib.hid hb.lt
  obtain ⟨w1, hw1⟩ : ∃ w1, w1 = w.setCell ⟨g, 1, none⟩ (.int .i32 1) := ⟨_, rfl⟩
  have HW1 := Lib.hid hw1
  have HB1 := Lib.hid (show Blk w1 g T (TabC 0 1 (.slice none 0 0)) from hw1 ▸ hb.set_ 1 _)
  have HA1 := Lib.hid (show AsideG g w w1 from hw1 ▸ (AsideG.refl g w).set 1 _)
  have HL := Lib.hid (lock_free ⟨g, 1, none⟩ w l0 z0)
  have HF := Lib.hid (fill_any g T w1 HB1.out)
  have HD := Lib.hid (loadBool ⟨g, 0, none⟩ 0 w1 (HB1.out.cell 0))
  have hnot : ∀ (x : Bool) (w : World), (Op.unary .not (.bool x)).run Tryz.prog w = .ok (.bool (!x)) w := fun _ _ => rfl
  clear hb hw1 l0 z0
  go_enter_defers Tryz.func112, Tryz.ntmps112
  go_wp2_with fail
  refine HL.out.mono ?_
  rintro e w' ⟨rfl, rfl⟩
  rw [← HW1.out]
  go_wp2_with fail
  refine HD.out.mono ?_
  rintro e w' ⟨rfl, rfl⟩
  go_wp2_with fail
  refine HF.out.mono ?_
  rintro e w3 ⟨rfl, h, hh, hb3, hf3, ha3⟩
  have HB3 := Lib.hid hb3
  have HF3 := Lib.hid hf3
  have HA3 := Lib.hid (HA1.out.trans ha3)
  have HH := Lib.hid (show h ≠ g by have := HG.out; have := HA1.out.size; omega)
  clear hh hb3 hf3 ha3
  go_wp2_with fail
  have c0 : w3.cell? ⟨g, 0, none⟩ = some (.int .u32 0) := HB3.out.cell 0
  have f0 : w3.frozen? ⟨g, 0, none⟩ = false := HB3.out.frozen 0
  have HB4 : Blk (w3.drew.setCell ⟨g, 0, none⟩ (.int .u32 1)) g T (TabC 1 1 (.slice (some ⟨h, 0, none⟩) 65536 65536)) := HB3.out.drew.set_ 0 _
  have HF4 : FillTo (w3.drew.setCell ⟨g, 0, none⟩ (.int .u32 1)) h 65536 := HF3.out.blk (Below.heap_setCell w3.drew ⟨g, 0, none⟩ (.int .u32 1) h HH.out)
  have HA4 : AsideG g w (w3.drew.setCell ⟨g, 0, none⟩ (.int .u32 1)) := HA3.out.drew.set 0 _
  refine leaves_cons (f := 118) (args := #[.pointer (some ⟨g, 0, none⟩), .bool true]) (by simp) (by simp [go_sem]) ?_
  refine (store_deferred ⟨g, 0, none⟩ (.int .u32 0) .returning _ c0 f0).mono ?_
  rintro e u' w'' ⟨rfl, rfl, rfl⟩
  have c1 : (w3.drew.setCell ⟨g, 0, none⟩ (.int .u32 1)).cell? ⟨g, 1, none⟩ = some (.int .i32 1) := HB4.cell 1
  have f1 : (w3.drew.setCell ⟨g, 0, none⟩ (.int .u32 1)).frozen? ⟨g, 1, none⟩ = false := HB4.frozen 1
  refine leaves_cons (f := 117) (args := #[.pointer (some ⟨g, 1, none⟩)]) (by simp [settle]) (by simp [go_sem]) ?_
  refine (unlock_deferred ⟨g, 1, none⟩ _ _ c1 f1).mono ?_
  rintro e u' w'' ⟨rfl, rfl, rfl⟩
  have HP : DonePost g T w (.returned (.tuple #[])) ((w3.drew.setCell ⟨g, 0, none⟩ (.int .u32 1)).setCell ⟨g, 1, none⟩ (.int .i32 0)) :=
    ⟨rfl, ⟨h, HH.out, HB4.set_ 1 _, HF4.blk (Below.heap_setCell _ ⟨g, 1, none⟩ (.int .i32 0) h HH.out)⟩, HA4.set 1 _⟩
  simp [Leaves, settle, results, Tryz.results112]
  exact HP
set_option maxRecDepth 100000 in
set_option maxHeartbeats 4000000 in
theorem do_any (g : Nat) (T : TypeId) (w : World) (hb : Tab g T w) :
    Calls Tryz.prog 107 #[.pointer (some ⟨g, 0, none⟩), .func (.func 108) #[.pointer (some ⟨g, 0, none⟩)] #[]] w (DonePost g T w) := by
  have hnot : ∀ (x : Bool) (w : World), (Op.unary .not (.bool x)).run Tryz.prog w = .ok (.bool (!x)) w := fun _ _ => rfl
  rcases hb with hb | hb
  · have HD := Lib.hid (loadBool ⟨g, 0, none⟩ 0 w (hb.cell 0))
    have HS := Lib.hid (slow_any g T w hb)
    clear hb
    go_enter Tryz.func107, Tryz.ntmps107
    go_wp2_with fail
    refine HD.out.mono ?_
    rintro e w' ⟨rfl, rfl⟩
    go_wp2_with fail
    refine HS.out.mono ?_
    rintro e w' ⟨rfl, h2, h3⟩
    have HP := Lib.hid (show DonePost g T w (.returned (.tuple #[])) w' from ⟨rfl, h2, h3⟩)
    clear h2 h3
    go_wp2_with fail
    go_end0
    exact HP.out
  · obtain ⟨h, h1, h2, h3⟩ := hb
    have HD := Lib.hid (loadBool ⟨g, 0, none⟩ 1 w (h2.cell 0))
    have HP := Lib.hid (show DonePost g T w (.returned (.tuple #[])) w from ⟨rfl, ⟨h, h1, h2, h3⟩, AsideG.refl g w⟩)
    clear h1 h2 h3
    go_enter Tryz.func107, Tryz.ntmps107
    go_wp2_with fail
    refine HD.out.mono ?_
    rintro e w' ⟨rfl, rfl⟩
    go_wp2_with fail
    go_end0
    exact HP.out
def AtPost (g : Nat) (T : TypeId) (x : Int) (w : World) (e : Ending) (w' : World) : Prop := e = .returned (.int .u64 x) ∧ Full g T w' ∧ AsideG g w w'
theorem Full.drewN {g : Nat} {T : TypeId} {w : World} (h : Full g T w) (n : Nat) : Full g T (w.drewN n) := h
theorem asideN {g : Nat} {a b : World} (h : AsideG g a b) (n : Nat) : AsideG g a (b.drewN n) := ⟨h.os, h.tape, h.output, h.size, h.block⟩
set_option maxRecDepth 100000 in
set_option maxHeartbeats 4000000 in
theorem at_any (g : Nat) (T : TypeId) (d : Int) (w : World) (hb : Tab g T w) :
    Calls Tryz.prog 97 #[.pointer (some ⟨g, 0, none⟩), .int .i64 d] w (AtPost g T (ofZ d) w) := by
  have HD := Lib.hid (do_any g T w hb)
  have hd := heldN_bd d
  have HZ : ofZ d = ofZ (((heldN d - 1 : Nat) : Int) + 1) := by
    have e : heldN (((heldN d - 1 : Nat) : Int) + 1) = heldN d := by
      rw [show (((heldN d - 1 : Nat) : Int) + 1) = (heldN d : Int) by omega]
      have h2 := heldN_bd d
      generalize heldN d = n at *
      unfold heldN
      rw [if_neg (by omega), if_neg (by omega), Int.toNat_natCast]
    unfold ofZ
    rw [e]
  rw [HZ]
  have HH := Lib.hid (fun W => held_any d W)
  obtain ⟨k, hk⟩ : ∃ k, heldN d = k + 1 := ⟨heldN d - 1, by omega⟩
  rw [hk] at HH
  rw [show heldN d - 1 = k by omega]
  have hk2 : k < 65536 := by omega
  have k0 : (0 : Int) ≤ k := by omega
  have k1 : (k : Int) < 65536 := by omega
  clear hd HZ hk hb
  go_enter Tryz.func97, Tryz.ntmps97
  go_wp2_with fail
  refine HD.out.mono ?_
  rintro e w3 ⟨rfl, hf, ha⟩
  have HFU := Lib.hid hf
  have HAS := Lib.hid ha
  obtain ⟨h, hh, hb3, hf3⟩ := hf
  have c3 : w3.cell? ⟨g, 3, none⟩ = some (.slice (some ⟨h, 0, none⟩) 65536 65536) := hb3.cell 3
  have ck : w3.cell? ⟨h, k, none⟩ = some (.int .u64 (ofZ ((k : Int) + 1))) := hf3.cell k hk2
  have wk : IntKind.i64.wrap (((k + 1 : Nat) : Int) - 1) = (k : Int) := by
    rw [IntWalk.i64_in _ (by omega)]
    omega
  clear ha hh hb3 hf3
  go_wp2_with fail
  go_quiet ((go_at_call 109; exact Calls.quiet_of_same ((HH.out _).mono fun e w' ⟨x, y⟩ => ⟨x, y.symm⟩)))
  have HP := Lib.hid (show AtPost g T (ofZ ((k : Int) + 1)) w (.returned (.int .u64 (ofZ ((k : Int) + 1)))) (w3.drewN nq) from ⟨rfl, HFU.out.drewN nq, asideN HAS.out nq⟩)
  clear c3 ck wk
  go_wp2_with fail
  go_ret
  exact HP.out
end Go.Proofs.YtoaboklckkcjcaaGreat.onceC
/- Layer 3: the document's own logarithm. -/
namespace Go.Proofs.YtoaboklckkcjcaaGreat.logD
open Go.ChangeShapes Go.WideShapes Go.ChangeAt Go.RowKit
open Go.Proofs.YtoaboklckkcjcaaGreat.base Go.Proofs.YtoaboklckkcjcaaGreat.logA Go.Proofs.YtoaboklckkcjcaaGreat.logB Go.Proofs.YtoaboklckkcjcaaGreat.logC
set_option linter.unusedVariables false

/-- The least power of 2 that k halvings leave. -/
theorem log2_test {n k : Nat} (h0 : 0 < n) : 0 < n / 2 ^ k ↔ k ≤ n.log2 := by
  rw [Nat.div_pos_iff]
  constructor
  · rintro ⟨_, h⟩
    exact (Nat.le_log2 (by omega)).2 h
  · intro h
    exact ⟨Nat.two_pow_pos _, (Nat.le_log2 (by omega)).1 h⟩
theorem norm_down {n : Nat} (h : 31 ≤ n.log2) (h2 : n.log2 ≤ 63) : n / 2 ^ (n.log2 - 31) = norm n := by
  unfold norm
  have e : (4294967296 : Nat) = 2 ^ (n.log2 - 31) * 2 ^ (63 - n.log2) := by rw [← Nat.pow_add, show n.log2 - 31 + (63 - n.log2) = 32 by omega]
  rw [e, Nat.mul_div_mul_right _ _ (Nat.two_pow_pos _)]
theorem norm_up {n : Nat} (h : n.log2 ≤ 31) : n * 2 ^ (31 - n.log2) = norm n := by
  unfold norm
  have e : 2 ^ (63 - n.log2) = 2 ^ (31 - n.log2) * 4294967296 := by
    rw [show (4294967296 : Nat) = 2 ^ 32 by decide, ← Nat.pow_add, show 31 - n.log2 + 32 = 63 - n.log2 by omega]
  rw [e, ← Nat.mul_assoc, Nat.mul_div_cancel _ (by omega)]
theorem div_step (n k : Nat) : n / 2 ^ k / 2 = n / 2 ^ (k + 1) := by rw [Nat.div_div_eq_div_mul, Nat.pow_succ]
theorem mul_step (n k : Nat) : n * 2 ^ k * 2 = n * 2 ^ (k + 1) := by rw [Nat.mul_assoc, Nat.pow_succ]

theorem reflog2_any (n : Nat) (h1 : n < 18446744073709551616) (w : World) :
    Calls Tryz.prog 77 #[.int .u64 n] w fun e w' => e = .returned (.int .u64 (logZ n)) ∧ w = w' := by
  rcases Nat.eq_zero_or_pos n with rfl | h0
  · go_enter Tryz.func77, Tryz.ntmps77
    go_wp2
    go_ret
    exact ⟨rfl, rfl⟩
  · have hn0 : (((n : Int)) == 0) = false := by simp; omega
    have hL := log2_lt h1
    have hk := norm_ok h0 h1
    have hx : okx (norm n : Nat) := ⟨by omega, by omega⟩
    have hz : logZ n = (iter 24 ((norm n : Nat), (n.log2 : Nat))).2 := by unfold logZ; rw [if_neg (by omega)]
    have htest := fun k => log2_test (n := n) (k := k) h0
    have hdn := fun h => norm_down (n := n) h hL
    have hup := fun h => norm_up (n := n) h
    have hk1 := hk.2.1
    generalize hnn : norm n = x0 at *
    generalize hLL : n.log2 = L at *
    have HX := Lib.hid hx
    have HZ := Lib.hid hz
    have HT := Lib.hid htest
    have HD := Lib.hid hdn
    have HU := Lib.hid hup
    clear hx hz htest hdn hup hnn hLL hk
    go_enter Tryz.func77, Tryz.ntmps77
    go_wp2_with fail
    go_loop [3, 4] (fun s i => ∃ k m : Nat, 1 ≤ k ∧ k ≤ 64 ∧ i = .int .u64 k ∧ s = .int .u64 m ∧ Hid (m = min (k - 1) L)) (fun _ i => 64 - (intOf i).toNat)
    case atStart => exact ⟨1, 0, by omega, by omega, rfl, rfl, by show 0 = min (1 - 1) L; omega⟩
    case round =>
      obtain ⟨k, m, hk0, hk, rfl, rfl, HM⟩ := hrel
      by_cases hlt : k < 64
      · by_cases hkl : k ≤ L
        · have hd : decide ((0 : Int) < (n : Int) / 2 ^ k) = true := by
            have := (HT.out k).2 hkl
            rw [decide_eq_true_iff]
            have e : (n : Int) / 2 ^ k = ((n / 2 ^ k : Nat) : Int) := by rw [Int.natCast_ediv, Int.natCast_pow]; rfl
            rw [e]; omega
          go_wp2_with fail
          go_round
          case rel => exact ⟨k + 1, k, by omega, by omega, by go_num, rfl, by show k = min (k + 1 - 1) L; omega⟩
          case measure => simp [intOf]; omega
        · have hd : decide ((0 : Int) < (n : Int) / 2 ^ k) = false := by
            have h3 := (HT.out k)
            have e : (n : Int) / 2 ^ k = ((n / 2 ^ k : Nat) : Int) := by rw [Int.natCast_ediv, Int.natCast_pow]; rfl
            rw [decide_eq_false_iff_not, e]
            intro h4
            exact hkl (h3.1 (by omega))
          go_wp2_with fail
          go_round
          case rel => exact ⟨k + 1, m, by omega, by omega, by go_num, rfl, by have := HM.out; show m = min (k + 1 - 1) L; omega⟩
          case measure => simp [intOf]; omega
      · obtain rfl : L = m := by have := HM.out; omega
        clear HM
        by_cases hL31 : 31 ≤ L
        · go_wp2_with fail
          go_loop [5, 6] (fun x i => ∃ j : Nat, j ≤ L - 31 ∧ i = .int .u64 ((L - j : Nat) : Int) ∧ x = .int .u64 ((n / 2 ^ j : Nat) : Int)) (fun _ i => (intOf i).toNat)
          case atStart => exact ⟨0, by omega, rfl, by simp⟩
          case round =>
            obtain ⟨j, hj, rfl, rfl⟩ := hrel
            by_cases hj2 : j < L - 31
            · have hds := div_step n j
              have HDS := Lib.hid hds
              have hdl : n / 2 ^ j ≤ n := Nat.div_le_self _ _
              clear hds
              generalize n / 2 ^ j = y at *
              go_wp2_with fail
              go_round
              case rel => exact ⟨j + 1, by omega, by congr 1; omega, by rw [← HDS.out]; go_num⟩
              case measure => simp [intOf]; omega
            · have e0 : n / 2 ^ j = x0 := by
                have : j = L - 31 := by omega
                rw [this]; exact HD.out hL31
              have e1 : L - j = 31 := by omega
              rw [e0, e1]
              clear e0 e1
              go_wp2_with fail
              go_loop [5, 7] (fun x i => x = .int .u64 (x0 : Nat) ∧ i = .int .u64 (L : Nat)) (fun _ _ => 0)
              case atStart => exact ⟨rfl, rfl⟩
              case round =>
                obtain ⟨rfl, rfl⟩ := hrel
                go_wp2_with fail
                go_loop [5, 8, 9] (fun x o i => ∃ k : Nat, k ≤ 24 ∧ i = .int .i64 k ∧ x = .int .u64 (iter k ((x0 : Nat), (L : Nat))).1 ∧ o = .int .u64 (iter k ((x0 : Nat), (L : Nat))).2) (fun _ _ i => 24 - (intOf i).toNat)
                case atStart => exact ⟨0, by omega, rfl, rfl, rfl⟩
                case round =>
                  obtain ⟨k, hk, rfl, rfl, rfl⟩ := hrel
                  by_cases hlt : k < 24
                  · have hok := iter_ok (p := ((x0 : Nat), (L : Nat))) HX.out k
                    have hbd := iter_bd (p := ((x0 : Nat), (L : Nat))) (by dsimp only; omega) (by dsimp only; omega) k
                    have h24 : (2 : Int) ^ k ≤ 2 ^ 23 := by
                      have := Nat.pow_le_pow_right (n := 2) (by omega) (show k ≤ 23 by omega)
                      exact_mod_cast this
                    have e23 : (2 : Int) ^ 23 = 8388608 := by decide
                    have ob : (iter k ((x0 : Nat), (L : Nat))).2 < 536870912 := by omega
                    have o0 := hbd.1
                    have hsq := sq_bd hok
                    have hst : iter (k + 1) ((x0 : Nat), (L : Nat)) = stp (iter k ((x0 : Nat), (L : Nat))) := rfl
                    have HST := Lib.hid hst
                    clear hbd h24 e23 hst hok
                    generalize iter k ((x0 : Nat), (L : Nat)) = p at *
                    obtain ⟨x, o⟩ := p
                    dsimp only at *
                    have hw : IntKind.u64.wrap (x * x) = x * x := by rw [IntKind.wrap_u64]; omega
                    have hst : stp (x, o) = if 4294967296 ≤ x * x / 2147483648 then (x * x / 2147483648 / 2, 2 * o + 1) else (x * x / 2147483648, 2 * o) := rfl
                    have HS2 := Lib.hid hst
                    clear hst
                    generalize hxy : x * x = y at *
                    by_cases hb : 4294967296 ≤ y / 2147483648
                    · have HS3 := Lib.hid (HS2.out.trans (if_pos hb))
                      go_wp2_with fail
                      go_round
                      case rel => exact ⟨k + 1, by omega, by go_num, by rw [HST.out, HS3.out], by rw [HST.out, HS3.out]⟩
                      case measure => simp [intOf]; omega
                    · have HS3 := Lib.hid (HS2.out.trans (if_neg hb))
                      go_wp2_with fail
                      go_round
                      case rel => exact ⟨k + 1, by omega, by go_num, by rw [HST.out, HS3.out], by rw [HST.out, HS3.out]⟩
                      case measure => simp [intOf]; omega
                  · obtain rfl : k = 24 := by omega
                    go_wp2
                    go_ret
                    exact ⟨by rw [HZ.out]; rfl, rfl⟩
        · go_wp2_with fail
          go_loop [5, 6] (fun x i => x = .int .u64 (n : Nat) ∧ i = .int .u64 (L : Nat)) (fun _ _ => 0)
          case atStart => exact ⟨rfl, rfl⟩
          case round =>
            obtain ⟨rfl, rfl⟩ := hrel
            go_wp2_with fail
            go_loop [5, 7] (fun x i => ∃ j : Nat, j ≤ 31 - L ∧ i = .int .u64 ((L + j : Nat) : Int) ∧ x = .int .u64 ((n * 2 ^ j : Nat) : Int)) (fun _ i => 31 - (intOf i).toNat)
            case atStart => exact ⟨0, by omega, rfl, by simp⟩
            case round =>
              obtain ⟨j, hj, rfl, rfl⟩ := hrel
              by_cases hj2 : j < 31 - L
              · have hms := mul_step n j
                have HMS := Lib.hid hms
                have hbd : n * 2 ^ (j + 1) ≤ x0 := by
                  rw [← HU.out (by omega)]
                  exact Nat.mul_le_mul_left _ (Nat.pow_le_pow_right (by omega) (by omega))
                rw [← hms] at hbd
                clear hms
                generalize n * 2 ^ j = y at *
                go_wp2_with fail
                go_round
                case rel => exact ⟨j + 1, by omega, by go_num, by rw [← HMS.out]; go_num⟩
                case measure => simp [intOf]; omega
              · have e0 : n * 2 ^ j = x0 := by
                  have : j = 31 - L := by omega
                  rw [this]; exact HU.out (by omega)
                have e1 : L + j = 31 := by omega
                rw [e0, e1]
                clear e0 e1
                go_wp2_with fail
                go_loop [5, 8, 9] (fun x o i => ∃ k : Nat, k ≤ 24 ∧ i = .int .i64 k ∧ x = .int .u64 (iter k ((x0 : Nat), (L : Nat))).1 ∧ o = .int .u64 (iter k ((x0 : Nat), (L : Nat))).2) (fun _ _ i => 24 - (intOf i).toNat)
                case atStart => exact ⟨0, by omega, rfl, rfl, rfl⟩
                case round =>
                  obtain ⟨k, hk, rfl, rfl, rfl⟩ := hrel
                  by_cases hlt : k < 24
                  · have hok := iter_ok (p := ((x0 : Nat), (L : Nat))) HX.out k
                    have hbd := iter_bd (p := ((x0 : Nat), (L : Nat))) (by dsimp only; omega) (by dsimp only; omega) k
                    have h24 : (2 : Int) ^ k ≤ 2 ^ 23 := by
                      have := Nat.pow_le_pow_right (n := 2) (by omega) (show k ≤ 23 by omega)
                      exact_mod_cast this
                    have e23 : (2 : Int) ^ 23 = 8388608 := by decide
                    have ob : (iter k ((x0 : Nat), (L : Nat))).2 < 536870912 := by omega
                    have o0 := hbd.1
                    have hsq := sq_bd hok
                    have hst : iter (k + 1) ((x0 : Nat), (L : Nat)) = stp (iter k ((x0 : Nat), (L : Nat))) := rfl
                    have HST := Lib.hid hst
                    clear hbd h24 e23 hst hok
                    generalize iter k ((x0 : Nat), (L : Nat)) = p at *
                    obtain ⟨x, o⟩ := p
                    dsimp only at *
                    have hw : IntKind.u64.wrap (x * x) = x * x := by rw [IntKind.wrap_u64]; omega
                    have hst : stp (x, o) = if 4294967296 ≤ x * x / 2147483648 then (x * x / 2147483648 / 2, 2 * o + 1) else (x * x / 2147483648, 2 * o) := rfl
                    have HS2 := Lib.hid hst
                    clear hst
                    generalize hxy : x * x = y at *
                    by_cases hb : 4294967296 ≤ y / 2147483648
                    · have HS3 := Lib.hid (HS2.out.trans (if_pos hb))
                      go_wp2_with fail
                      go_round
                      case rel => exact ⟨k + 1, by omega, by go_num, by rw [HST.out, HS3.out], by rw [HST.out, HS3.out]⟩
                      case measure => simp [intOf]; omega
                    · have HS3 := Lib.hid (HS2.out.trans (if_neg hb))
                      go_wp2_with fail
                      go_round
                      case rel => exact ⟨k + 1, by omega, by go_num, by rw [HST.out, HS3.out], by rw [HST.out, HS3.out]⟩
                      case measure => simp [intOf]; omega
                  · obtain rfl : k = 24 := by omega
                    go_wp2
                    go_ret
                    exact ⟨by rw [HZ.out]; rfl, rfl⟩

end Go.Proofs.YtoaboklckkcjcaaGreat.logD
/- Layer 3: what any draw is, with a table and without. -/
namespace Go.Proofs.YtoaboklckkcjcaaGreat.onceD
open Go.ChangeShapes Go.WideShapes Go.ChangeAt Go.RowKit
open Go.Proofs.YtoaboklckkcjcaaGreat.base Go.Proofs.YtoaboklckkcjcaaGreat.onceB Go.Proofs.YtoaboklckkcjcaaGreat.onceC Go.Proofs.YtoaboklckkcjcaaGreat.logA Go.Proofs.YtoaboklckkcjcaaGreat.logC Go.Proofs.YtoaboklckkcjcaaGreat.logD
set_option linter.unusedVariables false

theorem refof_any (d : Int) (w : World) : Calls Tryz.prog 49 #[.int .i64 d] w fun e w' => e = .returned (.int .u64 (ofZ d)) ∧ w = w' := by
  have hb := heldN_bd d
  have hl := logZ_top hb.1 hb.2
  have he : 268435456 - logZ (heldN d) = ofZ d := rfl
  have hn : heldN d = if d < 1 then 1 else if 65536 < d then 65536 else d.toNat := rfl
  generalize heldN d = n at *
  have HR := Lib.hid (fun W => reflog2_any n (by omega) W)
  have HE := Lib.hid he
  by_cases h1 : d < 1
  · rw [if_pos h1] at hn
    subst hn
    have t1 : decide (d < 1) = true := decide_eq_true h1
    clear he h1
    go_enter Tryz.func49, Tryz.ntmps49
    go_wp2_with (go_at_call 77; refine (HR.out _).mono ?_; rintro e w' ⟨rfl, rfl⟩)
    go_ret
    exact ⟨by rw [← HE.out]; rfl, rfl⟩
  · rw [if_neg h1] at hn
    have t1 : decide (d < 1) = false := decide_eq_false h1
    by_cases h2 : 65536 < d
    · rw [if_pos h2] at hn
      subst hn
      have t2 : decide (65536 < d) = true := decide_eq_true h2
      clear he h1 h2
      go_enter Tryz.func49, Tryz.ntmps49
      go_wp2_with (go_at_call 77; refine (HR.out _).mono ?_; rintro e w' ⟨rfl, rfl⟩)
      go_ret
      exact ⟨by rw [← HE.out]; rfl, rfl⟩
    · rw [if_neg h2] at hn
      have hd : d = (n : Int) := by omega
      subst hd
      have t2 : decide (65536 < (n : Int)) = false := decide_eq_false h2
      clear he h1 h2 hn
      go_enter Tryz.func49, Tryz.ntmps49
      go_wp2_with (go_at_call 77; refine (HR.out _).mono ?_; rintro e w' ⟨rfl, rfl⟩)
      go_ret
      exact ⟨by rw [← HE.out]; rfl, rfl⟩
theorem at_nil (d : Int) (w : World) : Calls Tryz.prog 97 #[.pointer none, .int .i64 d] w fun e w' => e = .returned (.int .u64 0) ∧ w = w' := by
  go_enter Tryz.func97, Tryz.ntmps97
  go_wp2
  go_ret
  exact ⟨rfl, rfl⟩
end Go.Proofs.YtoaboklckkcjcaaGreat.onceD
/- Layer 2, the mixer: contracts of One, its document's answer, and what turns it back. -/
namespace Go.Proofs.YtoaboklckkcjcaaGreat.mixA
open Go.ChangeShapes Go.WideShapes Go.ChangeAt Go.RowKit
set_option linter.unusedVariables false

def xs (x : Nat) : Nat := x ^^^ x / 8589934592
theorem xs_lt {x : Nat} (h : x < 18446744073709551616) : xs x < 18446744073709551616 := by
  unfold xs
  exact Nat.xor_lt_two_pow (n := 64) h (Nat.lt_of_le_of_lt (Nat.div_le_self _ _) h)
theorem xs_xs {x : Nat} (h : x < 18446744073709551616) : xs (xs x) = x := by
  have e : ∀ y : Nat, y / 8589934592 = y >>> 33 := fun y => by rw [Nat.shiftRight_eq_div_pow]
  have z : x >>> 66 = 0 := by rw [Nat.shiftRight_eq_div_pow]; exact Nat.div_eq_of_lt (by omega)
  unfold xs
  rw [e, e, Nat.shiftRight_xor_distrib, ← Nat.shiftRight_add, z, Nat.xor_zero, Nat.xor_assoc, Nat.xor_self, Nat.xor_zero]
theorem mul_back {x c d : Nat} (h : x < 18446744073709551616) (e : c * d % 18446744073709551616 = 1) : (x * c % 18446744073709551616) * d % 18446744073709551616 = x := by
  rw [Nat.mod_mul_mod, Nat.mul_assoc, Nat.mul_mod, e, Nat.mul_one, Nat.mod_mod, Nat.mod_eq_of_lt h]
def one (x : Nat) : Nat := xs (xs (xs x * 18397679294719823053 % 18446744073709551616) * 14181476777654086739 % 18446744073709551616)
def back (x : Nat) : Nat := xs (xs (xs x * 11291846944257947611 % 18446744073709551616) * 5725274745694666757 % 18446744073709551616)
theorem mod_lt64 (y : Nat) : y % 18446744073709551616 < 18446744073709551616 := Nat.mod_lt _ (by decide)
theorem one_lt (x : Nat) : one x < 18446744073709551616 := xs_lt (mod_lt64 _)
theorem back_one {x : Nat} (h : x < 18446744073709551616) : back (one x) = x := by
  have h1 : xs (one x) = xs (xs x * 18397679294719823053 % 18446744073709551616) * 14181476777654086739 % 18446744073709551616 := xs_xs (mod_lt64 _)
  unfold back
  rw [h1, mul_back (xs_lt (mod_lt64 _)) (by decide), xs_xs (mod_lt64 _), mul_back (xs_lt h) (by decide), xs_xs h]

theorem xsI {x : Nat} (h : x < 18446744073709551616) : bits .xor .u64 (x : Int) ((x : Int) / 8589934592) = ((xs x : Nat) : Int) := by
  have := xorShift_u64 x 8589934592 h
  simpa [xs] using this
theorem mul1 (x : Nat) : IntKind.u64.wrap ((x : Int) * 18397679294719823053) = ((x * 18397679294719823053 % 18446744073709551616 : Nat) : Int) := by
  rw [IntKind.wrap_u64]; omega
theorem mul2 (x : Nat) : IntKind.u64.wrap ((x : Int) * 14181476777654086739) = ((x * 14181476777654086739 % 18446744073709551616 : Nat) : Int) := by
  rw [IntKind.wrap_u64]; omega
theorem mul3 (x : Nat) : IntKind.u64.wrap ((x : Int) * 11291846944257947611) = ((x * 11291846944257947611 % 18446744073709551616 : Nat) : Int) := by
  rw [IntKind.wrap_u64]; omega
theorem mul4 (x : Nat) : IntKind.u64.wrap ((x : Int) * 5725274745694666757) = ((x * 5725274745694666757 % 18446744073709551616 : Nat) : Int) := by
  rw [IntKind.wrap_u64]; omega
def xsZ (x : Int) : Int := bits .xor .u64 x (x / 8589934592)
def oneZ (x : Int) : Int := xsZ (IntKind.u64.wrap (xsZ (IntKind.u64.wrap (xsZ x * 18397679294719823053)) * 14181476777654086739))
theorem oneZ_eq {x : Nat} (h : x < 18446744073709551616) : oneZ (x : Int) = ((one x : Nat) : Int) := by
  have e : ∀ {y : Nat}, y < 18446744073709551616 → xsZ (y : Int) = ((xs y : Nat) : Int) := fun h => xsI h
  unfold oneZ one
  rw [e h, mul1, e (mod_lt64 _), mul2, e (mod_lt64 _)]
theorem ret_int {k : IntKind} {a b : Int} (h : a = b) : Ending.returned (.int k a) = .returned (.int k b) := by rw [h]

def backZ (x : Int) : Int := xsZ (IntKind.u64.wrap (xsZ (IntKind.u64.wrap (xsZ x * 11291846944257947611)) * 5725274745694666757))
theorem backZ_eq {x : Nat} (h : x < 18446744073709551616) : backZ (x : Int) = ((back x : Nat) : Int) := by
  have e : ∀ {y : Nat}, y < 18446744073709551616 → xsZ (y : Int) = ((xs y : Nat) : Int) := fun h => xsI h
  unfold backZ back
  rw [e h, mul3, e (mod_lt64 _), mul4, e (mod_lt64 _)]
theorem backZ_oneZ {x : Nat} (h : x < 18446744073709551616) : backZ (oneZ (x : Int)) = (x : Int) := by
  rw [oneZ_eq h, backZ_eq (one_lt x), back_one h]

theorem one_any (x : Int) (w : World) :
    Calls Tryz.prog 74 #[.int .u64 x] w fun e w' => e = .returned (.int .u64 (oneZ x)) ∧ w = w' := by
  go_enter Tryz.func74, Tryz.ntmps74
  go_wp2
  go_ret
  exact ⟨rfl, rfl⟩

theorem refone_any (x : Int) (w : World) :
    Calls Tryz.prog 76 #[.int .u64 x] w fun e w' => e = .returned (.int .u64 (oneZ x)) ∧ w = w' := by
  go_enter Tryz.func76, Tryz.ntmps76
  go_wp2
  go_ret
  exact ⟨rfl, rfl⟩

theorem draw_any (x : Int) (w : World) :
    Calls Tryz.prog 98 #[.int .u64 x] w fun e w' => e = .returned (.int .i64 (wrap64 (wrap64 (x / 281474976710656) + 1))) ∧ w = w' := by
  go_enter Tryz.func98, Tryz.ntmps98
  go_wp2
  go_ret
  exact ⟨rfl, rfl⟩

end Go.Proofs.YtoaboklckkcjcaaGreat.mixA
/- Layer 2: numbers below another one, draws, numbers one by one. -/
namespace Go.Proofs.YtoaboklckkcjcaaGreat.mixB
open Go.ChangeShapes Go.WideShapes Go.ChangeAt Go.RowKit
open Go.Proofs.YtoaboklckkcjcaaGreat.mixA
set_option linter.unusedVariables false

theorem ret2_u64 {k : IntKind} {a b c d : Int} (h : a = b) (h' : c = d) : Ending.returned (.tuple #[.int k a, .int k c]) = .returned (.tuple #[.int k b, .int k d]) := by rw [h, h']

theorem low_wrap (n : Int) : bits .and .u64 (IntKind.u64.wrap n) 4294967295 = IntKind.u64.wrap n % 4294967296 := by
  rw [IntKind.wrap_u64]; exact and_low32 _ (by omega) (by omega)
/-- the high word of a product, by halves, as the code has it -/
def hiZ (x y : Int) : Int := IntKind.u64.wrap (IntKind.u64.wrap (IntKind.u64.wrap (x / 4294967296 * (y / 4294967296)) + IntKind.u64.wrap (IntKind.u64.wrap (x / 4294967296 * bits BinOp.and IntKind.u64 y 4294967295) + IntKind.u64.wrap (bits BinOp.and IntKind.u64 x 4294967295 * bits BinOp.and IntKind.u64 y 4294967295) / 4294967296) / 4294967296) + IntKind.u64.wrap (bits BinOp.and IntKind.u64 (IntKind.u64.wrap (IntKind.u64.wrap (x / 4294967296 * bits BinOp.and IntKind.u64 y 4294967295) + IntKind.u64.wrap (bits BinOp.and IntKind.u64 x 4294967295 * bits BinOp.and IntKind.u64 y 4294967295) / 4294967296)) 4294967295 + IntKind.u64.wrap (bits BinOp.and IntKind.u64 x 4294967295 * (y / 4294967296))) / 4294967296)
theorem hiZ_eq {x y : Int} (hx0 : 0 ≤ x) (hx : x < 18446744073709551616) (hy0 : 0 ≤ y) (hy : y < 18446744073709551616) : hiZ x y = x * y / 18446744073709551616 := by
  unfold hiZ
  rw [low_wrap, and_low32 x hx0 hx, and_low32 y hy0 hy]
  simp only [IntKind.wrap_u64]
  exact mul64_arith x y hx0 hx hy0 hy
/-- the same, as the laws' texts have it -/
def hiY (x y : Int) : Int := IntKind.u64.wrap (IntKind.u64.wrap (IntKind.u64.wrap (x / 4294967296 * (y / 4294967296)) + IntKind.u64.wrap (IntKind.u64.wrap (x / 4294967296 * bits BinOp.and IntKind.u64 y 4294967295) + IntKind.u64.wrap (bits BinOp.and IntKind.u64 x 4294967295 * bits BinOp.and IntKind.u64 y 4294967295) / 4294967296) / 4294967296) + IntKind.u64.wrap (IntKind.u64.wrap (bits BinOp.and IntKind.u64 x 4294967295 * (y / 4294967296)) + bits BinOp.and IntKind.u64 (IntKind.u64.wrap (IntKind.u64.wrap (x / 4294967296 * bits BinOp.and IntKind.u64 y 4294967295) + IntKind.u64.wrap (bits BinOp.and IntKind.u64 x 4294967295 * bits BinOp.and IntKind.u64 y 4294967295) / 4294967296)) 4294967295) / 4294967296)
theorem hiY_eq {x y : Int} (hx0 : 0 ≤ x) (hx : x < 18446744073709551616) (hy0 : 0 ≤ y) (hy : y < 18446744073709551616) : hiY x y = x * y / 18446744073709551616 := by
  have h := hiZ_eq hx0 hx hy0 hy
  unfold hiZ at h
  unfold hiY
  rw [Int.add_comm (IntKind.u64.wrap (bits BinOp.and IntKind.u64 x 4294967295 * (y / 4294967296)))]
  exact h

theorem mul64_any (x y : Int) (hx0 : 0 ≤ x) (hx : x < 18446744073709551616) (hy0 : 0 ≤ y) (hy : y < 18446744073709551616) (w : World) :
    Calls Tryz.prog 78 #[.int .u64 x, .int .u64 y] w fun e w' => e = .returned (.tuple #[.int .u64 (x * y / 18446744073709551616), .int .u64 (x * y % 18446744073709551616)]) ∧ w = w' := by
  go_enter Tryz.func78, Tryz.ntmps78
  go_wp2
  go_ret2
  exact ⟨ret2_u64 (hiZ_eq hx0 hx hy0 hy) (IntKind.wrap_u64 _), rfl⟩

/-- what Below gives -/
def below (h n : Int) : Int := if n < 1 then 0 else h * n / 18446744073709551616
theorem mul_lt {h n : Int} (h0 : 0 ≤ h) (h1 : h < 18446744073709551616) (hn : 1 ≤ n) : 0 ≤ h * n / 18446744073709551616 ∧ h * n / 18446744073709551616 < n := by
  have a : 0 ≤ h * n := Int.mul_nonneg h0 (by omega)
  have b : h * n < 18446744073709551616 * n := Int.mul_lt_mul_of_pos_right h1 (by omega)
  constructor
  · omega
  · exact Int.ediv_lt_of_lt_mul (by omega) (by rw [Int.mul_comm n]; exact b)

theorem below_any (h n : Int) (h0 : 0 ≤ h) (h1 : h < 18446744073709551616) (n0 : -9223372036854775808 ≤ n) (n1 : n < 9223372036854775808) (w : World) :
    Calls Tryz.prog 58 #[.int .u64 h, .int .i64 n] w fun e w' => e = .returned (.int .i64 (below h n)) ∧ w = w' := by
  by_cases hn : n < 1
  · go_enter Tryz.func58, Tryz.ntmps58
    go_wp2
    go_ret
    exact ⟨ret_int (by simp [below, hn]), rfl⟩
  · obtain ⟨b0, b1⟩ := mul_lt h0 h1 (by omega : 1 ≤ n)
    have hv : h * n / 18446744073709551616 = below h n := by simp [below, hn]
    go_enter Tryz.func58, Tryz.ntmps58
    go_wp2_with (go_at_call 78; refine (mul64_any _ _ (by omega) (by omega) (by omega) (by omega) _).mono ?_; rintro e w' ⟨rfl, rfl⟩)
    go_ret
    exact ⟨rfl, rfl⟩

theorem refbelow_any (h n : Int) (h0 : 0 ≤ h) (h1 : h < 18446744073709551616) (n0 : -9223372036854775808 ≤ n) (n1 : n < 9223372036854775808) (w : World) :
    Calls Tryz.prog 56 #[.int .u64 h, .int .i64 n] w fun e w' => e = .returned (.int .i64 (below h n)) ∧ w = w' := by
  by_cases hn : n < 1
  · go_enter Tryz.func56, Tryz.ntmps56
    go_wp2
    go_ret
    exact ⟨ret_int (by simp [below, hn]), rfl⟩
  · obtain ⟨b0, b1⟩ := mul_lt h0 h1 (by omega : 1 ≤ n)
    have hv : h * n / 18446744073709551616 = below h n := by simp [below, hn]
    have hy := hiY_eq h0 h1 (by omega : 0 ≤ n) (by omega : n < 18446744073709551616)
    rw [hv] at hy b0 b1
    have H := Lib.hid hy
    have hw : wrap64 (below h n) = below h n := IntWalk.wrap64_in _ (by omega)
    have HW := Lib.hid hw
    clear hy hv hw
    go_enter Tryz.func56, Tryz.ntmps56
    go_wp2
    go_ret
    exact ⟨ret_int ((congrArg wrap64 H.out).trans HW.out), rfl⟩

theorem draw_in (x : Int) (h0 : 0 ≤ x) (h1 : x < 18446744073709551616) (w : World) :
    Calls Tryz.prog 98 #[.int .u64 x] w fun e w' => e = .returned (.int .i64 (x / 281474976710656 + 1)) ∧ w = w' := by
  go_enter Tryz.func98, Tryz.ntmps98
  go_wp2
  go_ret
  exact ⟨rfl, rfl⟩

end Go.Proofs.YtoaboklckkcjcaaGreat.mixB
/- Layer 2: numbers of a generator, one by one. -/
namespace Go.Proofs.YtoaboklckkcjcaaGreat.mixC
open Go.ChangeShapes Go.WideShapes Go.ChangeAt Go.RowKit
open Go.Proofs.YtoaboklckkcjcaaGreat.mixA Go.Proofs.YtoaboklckkcjcaaGreat.base
set_option linter.unusedVariables false

end Go.Proofs.YtoaboklckkcjcaaGreat.mixC
/- Layer 2: numbers mixed under a key. -/
namespace Go.Proofs.YtoaboklckkcjcaaGreat.mixD
open Go.ChangeShapes Go.WideShapes Go.ChangeAt Go.RowKit
open Go.Proofs.YtoaboklckkcjcaaGreat.mixA Go.Proofs.YtoaboklckkcjcaaGreat.base
set_option linter.unusedVariables false

def rot (h : Int) : Int := bits .or .u64 (IntKind.u64.wrap (h * 8388608)) (h / 2199023255552)
def stepZ (h x : Int) : Int := oneZ (bits .xor .u64 (rot h) (oneZ (IntKind.u64.wrap (x + 11400714819323198485))))
def ofZ (key : Int) (l : List Int) : Int := l.foldl stepZ (oneZ (bits .xor .u64 key 11400714819323198485))
theorem ofZ_snoc (key : Int) (l : List Int) (x : Int) : ofZ key (l ++ [x]) = stepZ (ofZ key l) x := by simp [ofZ]
theorem take_snoc {α : Type} (l : List α) (k : Nat) (h : k < l.length) : l.take (k + 1) = l.take k ++ [l[k]] := by
  rw [List.take_succ_eq_append_getElem h]

theorem rot_any (h : Int) (w : World) :
    Calls Tryz.prog 75 #[.int .u64 h, .int .i64 23] w fun e w' => e = .returned (.int .u64 (rot h)) ∧ w = w' := by
  have e1 : bits .and .u64 23 63 = 23 := by decide
  go_enter Tryz.func75, Tryz.ntmps75
  go_wp2
  go_ret
  exact ⟨rfl, rfl⟩

theorem of_any (key : Int) (A : Option Addr) (n c : Nat) (l : List Int) (w : World) (B : Nat) (hn : l.length = n) (hl : n ≤ 140737488355328) (hr : Row w B A (l.map (.int .u64))) :
    Calls Tryz.prog 46 #[.int .u64 key, .slice A n c] w fun e w' => e = .returned (.int .u64 (ofZ key l)) ∧ w = w' := by
  have HR := Lib.hid hr
  clear hr
  have HN := Lib.hid hn
  clear hn
  go_enter Tryz.func46, Tryz.ntmps46
  go_wp2_with (go_at_call 74; refine (one_any _ _).mono ?_; rintro e w' ⟨rfl, rfl⟩)
  go_loop [5, 13] (fun h i => ∃ k : Nat, k ≤ n ∧ i = .int .i64 k ∧ h = .int .u64 (ofZ key (l.take k))) (fun _ i => n - (intOf i).toNat)
  case atStart => exact ⟨0, by omega, rfl, rfl⟩
  case round =>
    obtain ⟨k, hk, rfl, rfl⟩ := hrel
    by_cases hlt : k < n
    · have hkl : k < l.length := by rw [HN.out]; exact hlt
      obtain ⟨b, off, rfl, _, hc⟩ := HR.out.at_ (by intro h; simp at h; rw [h] at hkl; simp at hkl)
      have hcell : w.cell? ⟨b, off + k, none⟩ = some (.int .u64 (l[k])) := hc k _ (by simp [hkl])
      have hs : ofZ key (l.take (k + 1)) = stepZ (ofZ key (l.take k)) l[k] := by rw [take_snoc l k hkl, ofZ_snoc]
      have HS := Lib.hid hs
      clear hs hc
      generalize ofZ key (l.take k) = h at *
      generalize l[k] = x at *
      go_wp2_with (first | (go_at_call 74; refine (one_any _ _).mono ?_; rintro e w' ⟨rfl, rfl⟩) | (go_at_call 75; refine (rot_any _ _).mono ?_; rintro e w' ⟨rfl, rfl⟩))
      go_round
      case rel => exact ⟨k + 1, by omega, by go_num, by rw [HS.out]; rfl⟩
      case measure => simp [intOf]; omega
    · go_wp2
      go_ret
      exact ⟨by rw [List.take_of_length_le (by rw [HN.out]; omega)]; rfl, rfl⟩
theorem refof_any (key : Int) (A : Option Addr) (n c : Nat) (l : List Int) (w : World) (B : Nat) (hn : l.length = n) (hl : n ≤ 140737488355328) (hr : Row w B A (l.map (.int .u64))) :
    Calls Tryz.prog 48 #[.int .u64 key, .slice A n c] w fun e w' => e = .returned (.int .u64 (ofZ key l)) ∧ w = w' := by
  have HR := Lib.hid hr
  clear hr
  have HN := Lib.hid hn
  clear hn
  go_enter Tryz.func48, Tryz.ntmps48
  go_wp2_with (go_at_call 76; refine (refone_any _ _).mono ?_; rintro e w' ⟨rfl, rfl⟩)
  go_loop [5, 6] (fun h i => ∃ k : Nat, k ≤ n ∧ i = .int .i64 k ∧ h = .int .u64 (ofZ key (l.take k))) (fun _ i => n - (intOf i).toNat)
  case atStart => exact ⟨0, by omega, rfl, rfl⟩
  case round =>
    obtain ⟨k, hk, rfl, rfl⟩ := hrel
    by_cases hlt : k < n
    · have hkl : k < l.length := by rw [HN.out]; exact hlt
      obtain ⟨b, off, rfl, _, hc⟩ := HR.out.at_ (by intro h; simp at h; rw [h] at hkl; simp at hkl)
      have hcell : w.cell? ⟨b, off + k, none⟩ = some (.int .u64 (l[k])) := hc k _ (by simp [hkl])
      have hs : ofZ key (l.take (k + 1)) = stepZ (ofZ key (l.take k)) l[k] := by rw [take_snoc l k hkl, ofZ_snoc]
      have HS := Lib.hid hs
      clear hs hc
      generalize ofZ key (l.take k) = h at *
      generalize l[k] = x at *
      go_wp2_with (go_at_call 76; refine (refone_any _ _).mono ?_; rintro e w' ⟨rfl, rfl⟩)
      go_round
      case rel => exact ⟨k + 1, by omega, by go_num, by rw [HS.out]; rfl⟩
      case measure => simp [intOf]; omega
    · go_wp2
      go_ret
      exact ⟨by rw [List.take_of_length_le (by rw [HN.out]; omega)]; rfl, rfl⟩
end Go.Proofs.YtoaboklckkcjcaaGreat.mixD
/- Layer 1: numbers of 128 bits. -/
namespace Go.Proofs.YtoaboklckkcjcaaGreat.wideA
open Go.ChangeShapes Go.WideShapes Go.ChangeAt Go.RowKit
open Go.Proofs.YtoaboklckkcjcaaGreat.base
set_option linter.unusedVariables false

end Go.Proofs.YtoaboklckkcjcaaGreat.wideA
/- Layer 1: products of 128 bits. -/
namespace Go.Proofs.YtoaboklckkcjcaaGreat.wideB
open Go.ChangeShapes Go.WideShapes Go.ChangeAt Go.RowKit
open Go.Proofs.YtoaboklckkcjcaaGreat.base Go.Proofs.YtoaboklckkcjcaaGreat.wideA Go.Proofs.YtoaboklckkcjcaaGreat.mixB
set_option linter.unusedVariables false

theorem or_high (n b : Int) (hn : 0 ≤ n) (hb0 : 0 ≤ b) (hb : b < 4294967296) : bits .or .u64 (IntKind.u64.wrap (n * 4294967296)) b = n % 4294967296 * 4294967296 + b := by
  have e : IntKind.u64.wrap (n * 4294967296) = n % 4294967296 * 4294967296 := by rw [IntKind.wrap_u64]; omega
  rw [e, u64_or _ _ (by omega) (by omega) hb0 (by omega)]
  obtain ⟨m, hm⟩ := Int.eq_ofNat_of_zero_le (by omega : 0 ≤ n % 4294967296)
  obtain ⟨c, rfl⟩ := Int.eq_ofNat_of_zero_le hb0
  have e1 : (n % 4294967296 * 4294967296).toNat = m <<< 32 := by rw [hm, Nat.shiftLeft_eq]; omega
  rw [e1, Int.toNat_natCast, ← Nat.shiftLeft_add_eq_or_of_lt (by omega : c < 2 ^ 32), Nat.shiftLeft_eq, hm]
  omega
def midZ (x y : Int) : Int := IntKind.u64.wrap (IntKind.u64.wrap (x / 4294967296 * bits BinOp.and IntKind.u64 y 4294967295) + IntKind.u64.wrap (bits BinOp.and IntKind.u64 x 4294967295 * bits BinOp.and IntKind.u64 y 4294967295) / 4294967296)
def moreZ (x y : Int) : Int := IntKind.u64.wrap (IntKind.u64.wrap (bits BinOp.and IntKind.u64 x 4294967295 * (y / 4294967296)) + bits BinOp.and IntKind.u64 (midZ x y) 4294967295)
def loZ (x y : Int) : Int := bits BinOp.or IntKind.u64 (IntKind.u64.wrap (moreZ x y * 4294967296)) (bits BinOp.and IntKind.u64 (IntKind.u64.wrap (bits BinOp.and IntKind.u64 x 4294967295 * bits BinOp.and IntKind.u64 y 4294967295)) 4294967295)
theorem loZ_eq {x y : Int} (hx0 : 0 ≤ x) (hx : x < 18446744073709551616) (hy0 : 0 ≤ y) (hy : y < 18446744073709551616) : loZ x y = x * y % 18446744073709551616 := by
  have hm : moreZ x y = ((x % 4294967296 * (y / 4294967296)) % 18446744073709551616 + (((x / 4294967296 * (y % 4294967296)) % 18446744073709551616 + ((x % 4294967296 * (y % 4294967296)) % 18446744073709551616) / 4294967296) % 18446744073709551616) % 4294967296) % 18446744073709551616 := by
    unfold moreZ midZ
    rw [low_wrap, and_low32 x hx0 hx, and_low32 y hy0 hy]
    simp only [IntKind.wrap_u64]
  unfold loZ
  rw [low_wrap, and_low32 x hx0 hx, and_low32 y hy0 hy, IntKind.wrap_u64 (x % 4294967296 * (y % 4294967296)), or_high _ _ (by rw [hm]; omega) (by omega) (by omega), hm]
  clear hm
  have ex : x = x / 4294967296 * 4294967296 + x % 4294967296 := by omega
  have ey : y = y / 4294967296 * 4294967296 + y % 4294967296 := by omega
  generalize hx1 : x / 4294967296 = x1 at *
  generalize hx0' : x % 4294967296 = x0 at *
  generalize hy1 : y / 4294967296 = y1 at *
  generalize hy0' : y % 4294967296 = y0 at *
  have b1 : 0 ≤ x1 ∧ x1 ≤ 4294967295 := by omega
  have b2 : 0 ≤ x0 ∧ x0 ≤ 4294967295 := by omega
  have b3 : 0 ≤ y1 ∧ y1 ≤ 4294967295 := by omega
  have b4 : 0 ≤ y0 ∧ y0 ≤ 4294967295 := by omega
  have pB := prod_bound x1 y0 b1.1 b1.2 b4.1 b4.2
  have pC := prod_bound x0 y0 b2.1 b2.2 b4.1 b4.2
  have pD := prod_bound x0 y1 b2.1 b2.2 b3.1 b3.2
  have hxy : x * y = x1 * y1 * 18446744073709551616 + (x1 * y0 + x0 * y1) * 4294967296 + x0 * y0 := by rw [ex, ey]; exact split_mul x1 x0 y1 y0
  rw [hxy]
  generalize x1 * y1 = A at *
  generalize x1 * y0 = B at *
  generalize x0 * y0 = C at *
  generalize x0 * y1 = D at *
  omega

theorem mul_any (x y : Int) (hx0 : 0 ≤ x) (hx : x < 18446744073709551616) (hy0 : 0 ≤ y) (hy : y < 18446744073709551616) (w : World) :
    Calls Tryz.prog 50 #[.int .u64 x, .int .u64 y] w fun e w' => e = .returned (.agg #[.int .u64 (x * y / 18446744073709551616), .int .u64 (x * y % 18446744073709551616)]) ∧ Below w.heap.size w w' := by
  go_enter Tryz.func50, Tryz.ntmps50
  go_wp2_with (go_at_call 78; refine (mul64_any _ _ hx0 hx hy0 hy _).mono ?_; rintro e w' ⟨rfl, rfl⟩)
  go_returns
  exact ⟨rfl, by go_grown⟩

theorem agg2 {a b c d : Int} (h : a = b) (h' : c = d) : Ending.returned (.agg #[.int .u64 a, .int .u64 c]) = .returned (.agg #[.int .u64 b, .int .u64 d]) := by rw [h, h']
end Go.Proofs.YtoaboklckkcjcaaGreat.wideB
/- Layer 1: numbers of 128 bits compared. -/
namespace Go.Proofs.YtoaboklckkcjcaaGreat.wideC
open Go.ChangeShapes Go.WideShapes Go.ChangeAt Go.RowKit
open Go.Proofs.YtoaboklckkcjcaaGreat.base
set_option linter.unusedVariables false

def cmpI (x y : Int) : Int := if x < y then -1 else if y < x then 1 else 0
theorem compare_any (x y : Int) (w : World) :
    Calls Tryz.prog 79 #[.int .u64 x, .int .u64 y] w fun e w' => e = .returned (.int .i64 (cmpI x y)) ∧ w = w' := by
  by_cases h : x < y
  · go_enter Tryz.func79, Tryz.ntmps79
    go_wp2
    go_ret
    exact ⟨ret_int (by simp [cmpI, h]), rfl⟩
  · by_cases h2 : y < x
    · go_enter Tryz.func79, Tryz.ntmps79
      go_wp2
      go_ret
      exact ⟨ret_int (by simp [cmpI, h2]; omega), rfl⟩
    · go_enter Tryz.func79, Tryz.ntmps79
      go_wp2
      go_ret
      exact ⟨ret_int (by simp [cmpI]; omega), rfl⟩

def cmp128 (xh xl yh yl : Int) : Int := if xh = yh then cmpI xl yl else cmpI xh yh
theorem numCmp_any (xh xl yh yl : Int) (w : World) :
    Calls Tryz.prog 51 #[.agg #[.int .u64 xh, .int .u64 xl], .agg #[.int .u64 yh, .int .u64 yl]] w fun e w' => e = .returned (.int .i64 (cmp128 xh xl yh yl)) ∧ Below w.heap.size w w' := by
  by_cases h : xh = yh
  · subst h
    have e : cmpI xl yl = cmp128 xh xl xh yl := by simp [cmp128]
    go_enter Tryz.func51, Tryz.ntmps51
    go_wp2_with (go_at_call 79; refine (compare_any _ _ _).mono ?_; rintro e w' ⟨rfl, rfl⟩)
    go_ret
    exact ⟨rfl, by go_grown⟩
  · have e : cmpI xh yh = cmp128 xh xl yh yl := by simp [cmp128, h]
    have hb : (xh != yh) = true := by simpa using h
    go_enter Tryz.func51, Tryz.ntmps51
    go_wp2_with (go_at_call 79; refine (compare_any _ _ _).mono ?_; rintro e w' ⟨rfl, rfl⟩)
    go_ret
    exact ⟨rfl, by go_grown⟩

def less128 (xh xl yh yl : Int) : Bool := decide (xh < yh) || ((xh == yh) && decide (xl < yl))
end Go.Proofs.YtoaboklckkcjcaaGreat.wideC
/- Layer 1: the law on products. -/
namespace Go.Proofs.YtoaboklckkcjcaaGreat.wideD
open Go.ChangeShapes Go.WideShapes Go.ChangeAt Go.RowKit
open Go.Proofs.YtoaboklckkcjcaaGreat.base Go.Proofs.YtoaboklckkcjcaaGreat.wideA Go.Proofs.YtoaboklckkcjcaaGreat.wideB Go.Proofs.YtoaboklckkcjcaaGreat.wideC
set_option linter.unusedVariables false

theorem bcell {W w1 : World} (hb : Below W.heap.size W w1) : (∀ b o, b < W.heap.size → w1.cell? ⟨b, o, none⟩ = W.cell? ⟨b, o, none⟩) ∧ (∀ b o, b < W.heap.size → w1.frozen? ⟨b, o, none⟩ = W.frozen? ⟨b, o, none⟩) :=
  ⟨fun b o h => hb.cell (p := ⟨b, o, none⟩) h, fun b o h => hb.frozen (p := ⟨b, o, none⟩) h⟩

theorem keep1 {w w' : World} {p : Addr} {v : Value} (h : w.cell? p = some v) (hb : Below w.heap.size w w') : w'.cell? p = some v :=
  (hb.cell (World.block_lt_of_cell? w p h)).trans h
theorem keep8 {W w w' : World} {p1 p2 p3 p4 p5 p6 p7 p8 : Addr} {v1 v2 v3 v4 v5 v6 v7 v8 : Value}
    (h : Below W.heap.size W w ∧ w.cell? p1 = some v1 ∧ w.cell? p2 = some v2 ∧ w.cell? p3 = some v3 ∧ w.cell? p4 = some v4 ∧ w.cell? p5 = some v5 ∧ w.cell? p6 = some v6 ∧ w.cell? p7 = some v7 ∧ w.cell? p8 = some v8) (hb : Below w.heap.size w w') :
    Below W.heap.size W w' ∧ w'.cell? p1 = some v1 ∧ w'.cell? p2 = some v2 ∧ w'.cell? p3 = some v3 ∧ w'.cell? p4 = some v4 ∧ w'.cell? p5 = some v5 ∧ w'.cell? p6 = some v6 ∧ w'.cell? p7 = some v7 ∧ w'.cell? p8 = some v8 := by
  obtain ⟨h0, h1, h2, h3, h4, h5, h6, h7, h8⟩ := h
  exact ⟨h0.trans (hb.mono h0.size), keep1 h1 hb, keep1 h2 hb, keep1 h3 hb, keep1 h4 hb, keep1 h5 hb, keep1 h6 hb, keep1 h7 hb, keep1 h8 hb⟩

end Go.Proofs.YtoaboklckkcjcaaGreat.wideD
/- Worlds that have only grown, step by step. -/
namespace Go.Proofs.YtoaboklckkcjcaaGreat.base
open Go.RowKit Go.WideShapes Go.ChangeShapes
set_option linter.unusedVariables false
section
variable {W w w' : World}
theorem kept {p : Addr} {v : Value} (h : W.cell? p = some v) (hb : Below W.heap.size W w) : w.cell? p = some v :=
  (hb.cell (World.block_lt_of_cell? W p h)).trans h
theorem bel_call (h : Below W.heap.size W w) (hb : Below w.heap.size w w') : Below W.heap.size W w' := h.trans (hb.mono h.size)
theorem bel_alloc (h : Below W.heap.size W w) (o : Obj) : Below W.heap.size W (w.alloc o) := h.alloc h.size o
theorem bel_drew (h : Below W.heap.size W w) : Below W.heap.size W w.drew := h.drew
theorem bel_set (h : Below W.heap.size W w) {p : Addr} (hp : W.heap.size ≤ p.block) (v : Value) : Below W.heap.size W (w.setCell p v) := h.setCell hp v
end
end Go.Proofs.YtoaboklckkcjcaaGreat.base
/- Layer 1: sums. -/
namespace Go.Proofs.YtoaboklckkcjcaaGreat.wideE
open Go.ChangeShapes Go.WideShapes Go.ChangeAt Go.RowKit
open Go.Proofs.YtoaboklckkcjcaaGreat.base Go.Proofs.YtoaboklckkcjcaaGreat.wideA Go.Proofs.YtoaboklckkcjcaaGreat.wideB Go.Proofs.YtoaboklckkcjcaaGreat.wideC Go.Proofs.YtoaboklckkcjcaaGreat.wideD
set_option linter.unusedVariables false

theorem sum_snoc (l : List Int) (x : Int) : (l ++ [x]).sum = l.sum + x := by simp
theorem sum_bound (l : List Int) (h : ∀ x ∈ l, 0 ≤ x ∧ x < 18446744073709551616) : 0 ≤ l.sum ∧ l.sum ≤ l.length * 18446744073709551615 := by
  induction l with
  | nil => simp
  | cons a l ih =>
    have h1 := h a (by simp)
    have h2 := ih (fun x hx => h x (by simp [hx]))
    simp only [List.sum_cons, List.length_cons]
    omega

end Go.Proofs.YtoaboklckkcjcaaGreat.wideE
/- Layer 1: how fractions compare. -/
namespace Go.Proofs.YtoaboklckkcjcaaGreat.wideF
open Go.ChangeShapes Go.WideShapes Go.ChangeAt Go.RowKit
open Go.Proofs.YtoaboklckkcjcaaGreat.base Go.Proofs.YtoaboklckkcjcaaGreat.wideA Go.Proofs.YtoaboklckkcjcaaGreat.wideB Go.Proofs.YtoaboklckkcjcaaGreat.wideC Go.Proofs.YtoaboklckkcjcaaGreat.wideD
set_option linter.unusedVariables false

/-- How two fractions compare. -/
def cmpF (au ad bu bd : Int) : Int := if ad = 0 ∨ bd = 0 then (if ad = bd then 0 else if ad = 0 then 1 else -1) else cmpI (au * bd) (bu * ad)
theorem cmp128_div (p q : Int) : cmp128 (p / 18446744073709551616) (p % 18446744073709551616) (q / 18446744073709551616) (q % 18446744073709551616) = cmpI p q := by
  unfold cmp128 cmpI
  rcases Int.lt_trichotomy p q with h | h | h
  · have h1 : p / 18446744073709551616 < q / 18446744073709551616 ∨ (p / 18446744073709551616 = q / 18446744073709551616 ∧ p % 18446744073709551616 < q % 18446744073709551616) := by omega
    rcases h1 with h1 | ⟨h1, h2⟩
    · have h3 : ¬ p / 18446744073709551616 = q / 18446744073709551616 := by omega
      rw [if_neg h3, if_pos h1, if_pos h]
    · rw [if_pos h1, if_pos h2, if_pos h]
  · subst h
    simp
  · have h1 : q / 18446744073709551616 < p / 18446744073709551616 ∨ (p / 18446744073709551616 = q / 18446744073709551616 ∧ q % 18446744073709551616 < p % 18446744073709551616) := by omega
    have h4 : ¬ p < q := by omega
    rcases h1 with h1 | ⟨h1, h2⟩
    · have h3 : ¬ p / 18446744073709551616 = q / 18446744073709551616 := by omega
      have h5 : ¬ p / 18446744073709551616 < q / 18446744073709551616 := by omega
      rw [if_neg h3, if_neg h5, if_pos h1, if_neg h4, if_pos h]
    · have h5 : ¬ p % 18446744073709551616 < q % 18446744073709551616 := by omega
      rw [if_pos h1, if_neg h5, if_pos h2, if_neg h4, if_pos h]
theorem cmpF_bd (au ad bu bd : Int) : -1 ≤ cmpF au ad bu bd ∧ cmpF au ad bu bd ≤ 1 := by
  unfold cmpF cmpI
  split <;> (split <;> (try split)) <;> omega
theorem cmpF_neg (au ad bu bd : Int) : cmpF bu bd au ad = - cmpF au ad bu bd := by
  unfold cmpF cmpI
  by_cases h : ad = 0 <;> by_cases h2 : bd = 0
  · simp [h, h2]
  · have h3 : ¬ (0 = bd) := fun e => h2 e.symm
    simp [h, h2, h3]
  · have h3 : ¬ (0 = ad) := fun e => h e.symm
    simp [h, h2, h3]
  · simp only [h, h2, or_self, if_false]
    generalize au * bd = p
    generalize bu * ad = q
    split <;> split <;> (try split) <;> omega

theorem keep4 {W w w' : World} {p1 p2 p3 p4 : Addr} {v1 v2 v3 v4 : Value}
    (h : Below W.heap.size W w ∧ w.cell? p1 = some v1 ∧ w.cell? p2 = some v2 ∧ w.cell? p3 = some v3 ∧ w.cell? p4 = some v4) (hb : Below w.heap.size w w') :
    Below W.heap.size W w' ∧ w'.cell? p1 = some v1 ∧ w'.cell? p2 = some v2 ∧ w'.cell? p3 = some v3 ∧ w'.cell? p4 = some v4 := by
  obtain ⟨h0, h1, h2, h3, h4⟩ := h
  exact ⟨h0.trans (hb.mono h0.size), keep1 h1 hb, keep1 h2 hb, keep1 h3 hb, keep1 h4 hb⟩
theorem boxes {w : World} {a b c d : Value} (t : TypeId) (W : World) (hW : W = (w.alloc (.cells #[a, b] t)).alloc (.cells #[c, d] t)) :
    Below W.heap.size W W.drew ∧ W.drew.cell? ⟨w.heap.size, 0, none⟩ = some a ∧ W.drew.cell? ⟨w.heap.size, 1, none⟩ = some b ∧ W.drew.cell? ⟨w.heap.size + 1, 0, none⟩ = some c ∧ W.drew.cell? ⟨w.heap.size + 1, 1, none⟩ = some d := by
  subst hW
  refine ⟨(Below.refl _ _).drew, ?_, ?_, ?_, ?_⟩ <;> simp [go_sem]

theorem fracCmp_any (au ad bu bd : Int) (a1 : 0 ≤ au) (a2 : au < 18446744073709551616) (b1 : 0 ≤ ad) (b2 : ad < 18446744073709551616) (c1 : 0 ≤ bu) (c2 : bu < 18446744073709551616) (d1 : 0 ≤ bd) (d2 : bd < 18446744073709551616) (w : World) :
    Calls Tryz.prog 73 #[.agg #[.int .u64 au, .int .u64 ad], .agg #[.int .u64 bu, .int .u64 bd]] w fun e w' => e = .returned (.int .i64 (cmpF au ad bu bd)) ∧ Below w.heap.size w w' := by
  by_cases h : ad = 0
  · by_cases h2 : bd = 0
    · have e : cmpF au ad bu bd = 0 := by simp [cmpF, h, h2]
      rw [e]
      subst h h2
      clear e
      go_enter Tryz.func73, Tryz.ntmps73
      go_wp2
      go_ret
      exact ⟨rfl, by go_grown⟩
    · have h3 : ¬ (0 = bd) := fun e => h2 e.symm
      have e : cmpF au ad bu bd = 1 := by simp [cmpF, h, h3]
      rw [e]
      subst h
      have f1 : (bd == 0) = false := by simpa using h2
      have f2 : (0 == bd) = false := by simpa using h3
      clear e h2 h3
      go_enter Tryz.func73, Tryz.ntmps73
      go_wp2
      go_ret
      exact ⟨rfl, by go_grown⟩
  · have f1 : (ad == 0) = false := by simpa using h
    by_cases h2 : bd = 0
    · have e : cmpF au ad bu bd = -1 := by simp [cmpF, h, h2]
      rw [e]
      subst h2
      clear e h
      go_enter Tryz.func73, Tryz.ntmps73
      go_wp2
      go_ret
      exact ⟨rfl, by go_grown⟩
    · have f2 : (bd == 0) = false := by simpa using h2
      have e : cmpF au ad bu bd = cmpI (au * bd) (bu * ad) := by simp [cmpF, h, h2]
      rw [e]
      have E := Lib.hid (cmp128_div (au * bd) (bu * ad))
      clear e h h2
      go_enter Tryz.func73, Tryz.ntmps73
      go_wp2_with fail
      have hbel : Below w.heap.size w ((w.alloc (.cells #[.int .u64 au, .int .u64 ad] 126)).alloc (.cells #[.int .u64 bu, .int .u64 bd] 126)) := (((Below.refl _ _).alloc (Nat.le_refl _) _).alloc (by simp) _)
      have k := boxes (w := w) (a := .int .u64 au) (b := .int .u64 ad) (c := .int .u64 bu) (d := .int .u64 bd) 126 _ rfl
      generalize (w.alloc (.cells #[.int .u64 au, .int .u64 ad] 126)).alloc (.cells #[.int .u64 bu, .int .u64 bd] 126) = W at *
      have h0 := k
      clear k
      have HBel := Lib.hid hbel
      clear hbel
      go_region_held3 (fun w' => Below W.heap.size W w' ∧ w'.cell? ⟨w.heap.size, 0, none⟩ = some (.int .u64 au) ∧ w'.cell? ⟨w.heap.size, 1, none⟩ = some (.int .u64 ad) ∧ w'.cell? ⟨w.heap.size + 1, 0, none⟩ = some (.int .u64 bu) ∧ w'.cell? ⟨w.heap.size + 1, 1, none⟩ = some (.int .u64 bd))
        (first | exact h0 | (refine keep4 ?_ hb; assumption))
        (first
          | (go_at_call 50; refine (mul_any _ _ (by omega) (by omega) (by omega) (by omega) _).mono ?_; rintro e w' ⟨rfl, hb⟩)
          | (go_at_call 51; refine (numCmp_any _ _ _ _ _).mono ?_; rintro e w' ⟨rfl, hb⟩))
      go_wp2
      go_ret
      refine ⟨ret_int E.out, HBel.out.trans (Below.mono (B := W.heap.size) ?_ HBel.out.size)⟩
      rename_i hH
      exact hH.1

end Go.Proofs.YtoaboklckkcjcaaGreat.wideF
