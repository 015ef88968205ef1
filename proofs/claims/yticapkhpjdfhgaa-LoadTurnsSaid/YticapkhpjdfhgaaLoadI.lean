/- Layer 24: lists put together. -/
import Derived.Test.YticapkhpjdfhgaaLoadH
import Derived.Lib.AppendZerosOnto
namespace Go.Proofs.Yticapkhpjdfhgaa.loadI
open Go.ChangeShapes Go.WideShapes Go.ChangeAt Go.RowKit
open Go.Proofs.Yticapkhpjdfhgaa.base Go.Proofs.Yticapkhpjdfhgaa.loadC Go.Proofs.Yticapkhpjdfhgaa.loadH
set_option linter.unusedVariables false

def GrowPost (w : World) (e : Ending) (w' : World) : Prop :=
  ∃ v', e = .returned v' ∧ w'.ownsRow w.heap.size 3 1 v' 0 [] ∧ Below w.heap.size w w' ∧ w.heap.size ≤ w'.heap.size
set_option maxRecDepth 100000 in
set_option maxHeartbeats 1000000 in
theorem grow_nil (n : Nat) (w : World) (h0 : 0 < n) (hn : n ≤ 1000) :
    Calls Try.prog 70 #[.slice none 0 0, .int .i64 n] w (GrowPost w) := by
  obtain ⟨i0, hi0, hz0, hz1, hz2⟩ := info_parts info_int
  have hold : (Builtin.firstCells i0.size 0 (.slice none 0 0)).run Try.prog w.drew = .ok (List.toArray []) w.drew := run_firstCells_none w.drew i0.size 0 0 0
  have hfit := Lib.run_append_grow_zeros (P := Try.prog) w 25 3 25 3 i0 (.int .i64 0) .i64 .i64 Try.underlying25 Try.underlying3 hi0 hz0 none 0 0 [] hold n h0 (by omega) (by omega) (by omega) (by rw [hz2]; omega) (growslice_fits (by omega) (by rw [hz2]; omega))
  have hle := grownCap_le_maxLen w (0 + n) 0 3 (by unfold maxLen; omega)
  rw [Nat.zero_add] at hfit hle
  have hge := grownCap_ge w n 0 3
  generalize grownCap w n 0 3 = G at *
  have HLE := Lib.hid hle
  have hG : G ≤ 9223372036854775807 := by unfold maxLen at hle; exact hle
  clear hold hle
  go_enter Try.func70, Try.ntmps70
  go_wp2_with (at_builtin; refine Lib.wpList_append_run _ rfl _ _ _ _ rfl _ _ rfl rfl _ _ hfit ?_)
  go_ret
  refine ⟨_, rfl, ?_, ((Below.refl _ w).drew.alloc (Nat.le_refl _) _), by simp⟩
  refine World.ownsRow_made (base := w.heap.size) w.drew _ G (Nat.le_refl _) HLE.out ?_
  simp [Builtin.zeroCells]
  omega
def szn (a b : Nat) (j : Nat) : Nat := if j = 0 then 0 else if j = 1 then a else a + b
def prn (l1 l2 : List Int) (j : Nat) : List Int := if j = 0 then [] else if j = 1 then l1 else l1 ++ l2
theorem one_i64 (l : List Int) : ∀ u ∈ l.map (Value.int .i64), u.oneCell' = true := by
  intro u hu
  rw [List.mem_map] at hu
  obtain ⟨x, _, rfl⟩ := hu
  rfl
set_option maxRecDepth 100000 in
set_option maxHeartbeats 1000000 in
theorem concat_any (g c0 : Nat) (A1 : Option Addr) (n1 c1 : Nat) (l1 : List Int) (A2 : Option Addr) (n2 c2 : Nat) (l2 : List Int) (w : World)
    (h0 : w.cell? ⟨g, 0, none⟩ = some (.slice A1 n1 c1)) (h1 : w.cell? ⟨g, 1, none⟩ = some (.slice A2 n2 c2)) (hg : g < w.heap.size)
    (hl1 : l1.length = n1) (hl2 : l2.length = n2) (hz1 : A1 = none → c1 = 0) (hz2 : A2 = none → c2 = 0) (r1 : Row w w.heap.size A1 (l1.map (.int .i64))) (r2 : Row w w.heap.size A2 (l2.map (.int .i64))) (hp : 0 < n1 + n2) (hn : n1 + n2 ≤ 1000) :
    Calls Try.prog 56 #[.slice (some ⟨g, 0, none⟩) 2 c0] w (ClonePost w (n1 + n2) (l1 ++ l2)) := by
  obtain ⟨i0, hi0, hq0, hq1, hq2⟩ := info_parts info_int
  have HI0 := Lib.hid hi0
  have HZ0 := Lib.hid hq0
  have HZ1 := Lib.hid hq1
  have HZ2 := Lib.hid hq2
  have R1 := Lib.hid r1
  have R2 := Lib.hid r2
  have L1 := Lib.hid hl1
  have L2 := Lib.hid hl2
  have Y1 := Lib.hid hz1
  have Y2 := Lib.hid hz2
  have HG := Lib.hid (grow_nil (n1 + n2) w hp hn)
  clear hi0 hq0 hq1 hq2 r1 r2 hl1 hl2 hz1 hz2
  go_enter Try.func56, Try.ntmps56
  go_wp2_with fail
  go_loop [3, 11] (fun s i => ∃ j : Nat, j ≤ 2 ∧ i = .int .i64 j ∧ s = .int .i64 (szn n1 n2 j : Nat)) (fun _ i => 2 - (intOf i).toNat)
  case atStart => exact ⟨0, by omega, rfl, rfl⟩
  case round =>
    obtain ⟨j, hj, rfl, rfl⟩ := hrel
    obtain rfl | rfl | rfl : j = 0 ∨ j = 1 ∨ j = 2 := by omega
    · rw [show szn n1 n2 0 = 0 from rfl]
      go_wp2_with fail
      go_round
      case rel => exact ⟨1, by omega, by go_num, by simp [szn]⟩
      case measure => simp [intOf]
    · rw [show szn n1 n2 1 = n1 from rfl]
      have e1 : IntKind.i64.wrap ((n1 : Int) + (n2 : Int)) = ((n1 + n2 : Nat) : Int) := by rw [show (n1 : Int) + (n2 : Int) = ((n1 + n2 : Nat) : Int) by omega]; exact IntWalk.i64_in _ (by omega)
      go_wp2_with fail
      go_round
      case rel => exact ⟨2, by omega, by go_num, by simp [szn]⟩
      case measure => simp [intOf]
    · rw [show szn n1 n2 2 = n1 + n2 from rfl]
      go_wp2_with fail
      refine HG.out.mono ?_
      rintro e w1 ⟨v1, rfl, hown, hbel, hsz⟩
      have HO := Lib.hid hown
      have HB := Lib.hid hbel
      clear hown hbel
      go_wp2_with fail
      go_loopw [6, 27] (fun v i wr => ∃ j : Nat, j ≤ 2 ∧ i = .int .i64 j ∧ wr.ownsRow w.heap.size 3 1 v (szn n1 n2 j) ((prn l1 l2 j).map (.int .i64)) ∧ Below w.heap.size w wr ∧ w.heap.size ≤ wr.heap.size) (fun _ i _ => 2 - (intOf i).toNat)
      case atStart => exact ⟨0, by omega, rfl, HO.out, HB.out, hsz⟩
      case round =>
        obtain ⟨j, hj, rfl, hown, hbel, hbs⟩ := hrel
        have HO2 := Lib.hid hown
        have HB2 := Lib.hid hbel
        have k0 := kept h0 hbel
        have k1 := kept h1 hbel
        clear hown hbel
        obtain rfl | rfl | rfl : j = 0 ∨ j = 1 ∨ j = 2 := by omega
        · go_wp2_with (at_builtin; refine wpList_append_row rfl (.tmp 31) (.tmp 32) _ rfl w.heap.size 3 i0 _ 8 Try.underlying25 HI0.out HZ0.out HZ1.out HZ2.out rfl _ (szn n1 n2 0) _ rfl HO2.out A1 n1 c1 w.heap.size (l1.map (.int .i64)) rfl Y1.out (by simp; exact L1.out) (R1.out.below HB2.out) (one_i64 l1) (by unfold maxLen szn; simp; omega) (by unfold szn; simp; omega) hbs ?_; intro va wa owna ga; have HOa := Lib.hid owna; have HBa := Lib.hid (below_grown HB2.out HO2.out (Nat.le_refl _) hbs ga); clear owna ga)
          go_roundw
          case rel => exact ⟨1, by omega, by go_num, by simpa [szn, prn] using HOa.out, HBa.out, HBa.out.size⟩
          case measure => simp [intOf]
        · go_wp2_with (at_builtin; refine wpList_append_row rfl (.tmp 31) (.tmp 32) _ rfl w.heap.size 3 i0 _ 8 Try.underlying25 HI0.out HZ0.out HZ1.out HZ2.out rfl _ (szn n1 n2 1) _ rfl HO2.out A2 n2 c2 w.heap.size (l2.map (.int .i64)) rfl Y2.out (by simp; exact L2.out) (R2.out.below HB2.out) (one_i64 l2) (by unfold maxLen szn; simp; omega) (by unfold szn; simp; omega) hbs ?_; intro va wa owna ga; have HOa := Lib.hid owna; have HBa := Lib.hid (below_grown HB2.out HO2.out (Nat.le_refl _) hbs ga); clear owna ga)
          go_roundw
          case rel => exact ⟨2, by omega, by go_num, by simpa [szn, prn] using HOa.out, HBa.out, HBa.out.size⟩
          case measure => simp [intOf]
        · go_wp2_with fail
          go_ret
          exact ⟨_, rfl, HO2.out, HB2.out, hbs⟩
end Go.Proofs.Yticapkhpjdfhgaa.loadI
