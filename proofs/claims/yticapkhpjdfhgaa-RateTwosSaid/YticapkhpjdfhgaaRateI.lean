/- Layer 37: two buckets; those that are none. -/
import Derived.Test.YticapkhpjdfhgaaRateE
import Derived.Test.YticapkhpjdfhgaaQuiet
namespace Go.Proofs.Yticapkhpjdfhgaa.rateI
open Go.ChangeShapes Go.WideShapes Go.ChangeAt Go.RowKit
open Go.Proofs.Yticapkhpjdfhgaa.base Go.Proofs.Yticapkhpjdfhgaa.rateA Go.Proofs.Yticapkhpjdfhgaa.rateB Go.Proofs.Yticapkhpjdfhgaa.rateC Go.Proofs.Yticapkhpjdfhgaa.rateD Go.Proofs.Yticapkhpjdfhgaa.rateE
set_option linter.unusedVariables false

theorem ok_not (g : Nat) (w : World) (h4 : w.cell? ⟨g, 4, none⟩ = some (.bool false)) :
    Calls Try.prog 58 #[.pointer (some ⟨g, 0, none⟩)] w fun e w' => e = .returned (.bool false) ∧ w = w' := by
  go_enter Try.func58, Try.ntmps58
  go_wp2
  go_ret
  exact ⟨rfl, rfl⟩
theorem have_nil (w : World) :
    Calls Try.prog 29 #[.pointer none] w fun e w' => e = .returned (.int .i64 0) ∧ w = w' := by
  go_enter Try.func29, Try.ntmps29
  go_wp2_with (go_at_call 58; refine (ok_nil _).mono ?_; rintro e w' ⟨rfl, rfl⟩)
  go_ret
  exact ⟨rfl, rfl⟩
theorem now_not (g : Nat) (w : World) (h4 : w.cell? ⟨g, 4, none⟩ = some (.bool false)) :
    Calls Try.prog 30 #[.pointer (some ⟨g, 0, none⟩)] w fun e w' => e = .returned (.int .i64 0) ∧ w = w' := by
  have H4 := Lib.hid h4
  clear h4
  go_enter Try.func30, Try.ntmps30
  go_wp2_with (go_at_call 58; refine (ok_not _ _ H4.out).mono ?_; rintro e w' ⟨rfl, rfl⟩)
  go_ret
  exact ⟨rfl, rfl⟩
theorem go_nil (t : Int) (w : World) :
    Calls Try.prog 32 #[.pointer none, .int .i64 t] w fun e w' => e = .returned (.int .i64 9) ∧ w = w' := by
  go_enter Try.func32, Try.ntmps32
  go_wp2_with (go_at_call 58; refine (ok_nil _).mono ?_; rintro e w' ⟨rfl, rfl⟩)
  go_ret
  exact ⟨rfl, rfl⟩
theorem wait_nil (n : Int) (w : World) :
    Calls Try.prog 31 #[.pointer none, .int .i64 n] w fun e w' => e = .returned (.int .i64 (-1)) ∧ w = w' := by
  go_enter Try.func31, Try.ntmps31
  go_wp2_with (go_at_call 58; refine (ok_nil _).mono ?_; rintro e w' ⟨rfl, rfl⟩)
  go_ret
  exact ⟨rfl, rfl⟩
theorem can_nil (n : Int) (w : World) :
    Calls Try.prog 61 #[.pointer none, .int .i64 n] w fun e w' => e = .returned (.bool false) ∧ w = w' := by
  go_enter Try.func61, Try.ntmps61
  go_wp2_with (go_at_call 58; refine (ok_nil _).mono ?_; rintro e w' ⟨rfl, rfl⟩)
  go_ret
  exact ⟨rfl, rfl⟩
theorem can_not (g : Nat) (n : Int) (w : World) (h4 : w.cell? ⟨g, 4, none⟩ = some (.bool false)) :
    Calls Try.prog 61 #[.pointer (some ⟨g, 0, none⟩), .int .i64 n] w fun e w' => e = .returned (.bool false) ∧ w = w' := by
  have H4 := Lib.hid h4
  clear h4
  go_enter Try.func61, Try.ntmps61
  go_wp2_with (go_at_call 58; refine (ok_not _ _ H4.out).mono ?_; rintro e w' ⟨rfl, rfl⟩)
  go_ret
  exact ⟨rfl, rfl⟩
theorem take_not (g : Nat) (n : Int) (w : World) (h4 : w.cell? ⟨g, 4, none⟩ = some (.bool false)) :
    Calls Try.prog 33 #[.pointer (some ⟨g, 0, none⟩), .int .i64 n] w fun e w' => e = .returned (.bool false) ∧ w = w' := by
  have H4 := Lib.hid h4
  clear h4
  go_enter Try.func33, Try.ntmps33
  go_wp2_with (go_at_call 61; refine (can_not _ _ _ H4.out).mono ?_; rintro e w' ⟨rfl, rfl⟩)
  go_ret
  exact ⟨rfl, rfl⟩
theorem pass_nil (n : Int) (w : World) :
    Calls Try.prog 34 #[.agg #[.pointer none, .pointer none], .int .i64 n] w fun e w' => e = .returned (.bool false) ∧ Below w.heap.size w w' := by
  go_enter Try.func34, Try.ntmps34
  go_wp2_with (go_at_call 61; refine (can_nil _ _).mono ?_; rintro e w' ⟨rfl, rfl⟩)
  go_ret
  exact ⟨rfl, (Below.refl _ _).alloc (Nat.le_refl _) _⟩
def TwoPost (B : Nat) (w : World) (ga gb : Nat) (Ea Ma Ha Ta Eb Mb Hb Tb : Int) (r : Bool) (e : Ending) (w' : World) : Prop := e = .returned (.bool r) ∧ Bk w' ga Ea Ma Ha Ta ∧ Bk w' gb Eb Mb Hb Tb ∧ Below B w w'
theorem pass_no (B ga gb : Nat) (Ea Ma Ha Ta Eb Mb Hb Tb n : Int) (w : World) (hB : B ≤ w.heap.size) (ha : Bk w ga Ea Ma Ha Ta) (hb : Bk w gb Eb Mb Hb Tb) (hno : ¬ (0 ≤ n ∧ n ≤ Ha ∧ n ≤ Hb)) :
    Calls Try.prog 34 #[.agg #[.pointer (some ⟨ga, 0, none⟩), .pointer (some ⟨gb, 0, none⟩)], .int .i64 n] w (TwoPost B w ga gb Ea Ma Ha Ta Eb Mb Hb Tb false) := by
  have HA := Lib.hid (Blk.alloc ha (.cells #[.pointer (some ⟨ga, 0, none⟩), .pointer (some ⟨gb, 0, none⟩)] 55))
  have HBB := Lib.hid (Blk.alloc hb (.cells #[.pointer (some ⟨ga, 0, none⟩), .pointer (some ⟨gb, 0, none⟩)] 55))
  have hbel : Below B w (w.alloc (.cells #[.pointer (some ⟨ga, 0, none⟩), .pointer (some ⟨gb, 0, none⟩)] 55)) := (Below.refl _ _).alloc hB _
  have HL := Lib.hid hbel
  clear ha hb hbel
  by_cases h1 : 0 ≤ n ∧ n ≤ Ha
  · have h2 : ¬ (0 ≤ n ∧ n ≤ Hb) := by omega
    go_enter Try.func34, Try.ntmps34
    go_wp2_with fail
    refine (can_any ga Ea Ma Ha Ta n true _ HA.out (by symm; simpa using h1)).mono ?_
    rintro e w' ⟨rfl, rfl⟩
    go_wp2_with fail
    refine (can_any gb Eb Mb Hb Tb n false _ HBB.out (by symm; simpa using h2)).mono ?_
    rintro e w' ⟨rfl, rfl⟩
    go_wp2_with fail
    go_ret
    exact ⟨rfl, HA.out, HBB.out, HL.out⟩
  · go_enter Try.func34, Try.ntmps34
    go_wp2_with fail
    refine (can_any ga Ea Ma Ha Ta n false _ HA.out (by symm; simpa using h1)).mono ?_
    rintro e w' ⟨rfl, rfl⟩
    go_wp2_with fail
    go_ret
    exact ⟨rfl, HA.out, HBB.out, HL.out⟩
theorem pass_yes (B ga gb : Nat) (Ea Ma Ha Ta Eb Mb Hb Tb n : Int) (w : World) (hB : B ≤ w.heap.size) (hga : B ≤ ga) (hgb : B ≤ gb) (hne : ga ≠ gb) (ha : Bk w ga Ea Ma Ha Ta) (hb : Bk w gb Eb Mb Hb Tb) (n0 : 0 ≤ n) (na : n ≤ Ha) (nb : n ≤ Hb) (ba : Ha < 9223372036854775808) (bb : Hb < 9223372036854775808) :
    Calls Try.prog 34 #[.agg #[.pointer (some ⟨ga, 0, none⟩), .pointer (some ⟨gb, 0, none⟩)], .int .i64 n] w (TwoPost B w ga gb Ea Ma (Ha - n) Ta Eb Mb (Hb - n) Tb true) := by
  have hla := ha.lt
  have hlb := hb.lt
  have hbx := Blk.new w 55 #[.pointer (some ⟨ga, 0, none⟩), .pointer (some ⟨gb, 0, none⟩)]
  have HA := Lib.hid (Blk.alloc ha (.cells #[.pointer (some ⟨ga, 0, none⟩), .pointer (some ⟨gb, 0, none⟩)] 55))
  have HBB := Lib.hid (Blk.alloc hb (.cells #[.pointer (some ⟨ga, 0, none⟩), .pointer (some ⟨gb, 0, none⟩)] 55))
  have hbel : Below B w (w.alloc (.cells #[.pointer (some ⟨ga, 0, none⟩), .pointer (some ⟨gb, 0, none⟩)] 55)) := (Below.refl _ _).alloc hB _
  have HL := Lib.hid hbel
  have HX := Lib.hid hbx
  have hne2 : gb ≠ ga := fun e => hne e.symm
  clear ha hb hbel hbx
  go_enter Try.func34, Try.ntmps34
  go_wp2_with fail
  refine (can_any ga Ea Ma Ha Ta n true _ HA.out (by symm; simp; omega)).mono ?_
  rintro e w' ⟨rfl, rfl⟩
  go_wp2_with fail
  refine (can_any gb Eb Mb Hb Tb n true _ HBB.out (by symm; simp; omega)).mono ?_
  rintro e w' ⟨rfl, rfl⟩
  go_wp2_with fail
  refine (take_yes ga Ea Ma Ha Ta n _ HA.out n0 na ba).mono ?_
  rintro e w' ⟨rfl, rfl⟩
  have ha3 := Bk.take HA.out (Ha - n)
  have hb3 : Bk ((w.alloc (.cells #[.pointer (some ⟨ga, 0, none⟩), .pointer (some ⟨gb, 0, none⟩)] 55)).setCell ⟨ga, 2, none⟩ (.int .i64 (Ha - n))) gb Eb Mb Hb Tb := Blk.far (p := ⟨ga, 2, none⟩) HBB.out hne2 (.int .i64 (Ha - n))
  have hx3 := HX.out.far (p := ⟨ga, 2, none⟩) (by simp; omega) (.int .i64 (Ha - n))
  have hl3 := HL.out.setCell (p := ⟨ga, 2, none⟩) hga (.int .i64 (Ha - n))
  have y1 := hx3.cell 1
  simp only [List.getElem?_toArray, List.getElem?_cons_zero, List.getElem?_cons_succ] at y1
  have HA3 := Lib.hid ha3
  have HB3 := Lib.hid hb3
  have HL3 := Lib.hid hl3
  clear ha3 hb3 hx3 hl3
  generalize (w.alloc (.cells #[.pointer (some ⟨ga, 0, none⟩), .pointer (some ⟨gb, 0, none⟩)] 55)).setCell ⟨ga, 2, none⟩ (.int .i64 (Ha - n)) = w3 at *
  go_wp2_with fail
  refine (take_yes gb Eb Mb Hb Tb n _ HB3.out n0 nb bb).mono ?_
  rintro e w' ⟨rfl, rfl⟩
  go_wp2_with fail
  go_ret
  exact ⟨rfl, Blk.far (p := ⟨gb, 2, none⟩) HA3.out hne _, Bk.take HB3.out _, HL3.out.setCell (p := ⟨gb, 2, none⟩) hgb _⟩
end Go.Proofs.Yticapkhpjdfhgaa.rateI
