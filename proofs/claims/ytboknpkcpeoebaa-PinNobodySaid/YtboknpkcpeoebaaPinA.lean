/- Layer 29: pins that New did not give. -/
import Derived.Test.YtboknpkcpeoebaaFlowX
import Derived.Test.YtboknpkcpeoebaaFlowT
import Derived.Test.YtboknpkcpeoebaaConnD
import Derived.Test.YtboknpkcpeoebaaConnB
namespace Go.Proofs.Ytboknpkcpeoebaa.pinA
open Go.ChangeShapes Go.WideShapes Go.ChangeAt Go.RowKit
open Go.Proofs.Ytboknpkcpeoebaa.base Go.Proofs.Ytboknpkcpeoebaa.flowE Go.Proofs.Ytboknpkcpeoebaa.flowG Go.Proofs.Ytboknpkcpeoebaa.flowP Go.Proofs.Ytboknpkcpeoebaa.connD
set_option linter.unusedVariables false

/-- A pointer to pins that are not made. -/
def Unmade (P0 : Value) (w : World) : Prop := ∀ w', Below w.heap.size w w' → Calls Try.prog 21 #[P0] w' fun e w2 => e = .returned (.bool false) ∧ Below w'.heap.size w' w2
theorem Unmade.far {P0 : Value} {w w' : World} (h : Unmade P0 w) (hb : Below w.heap.size w w') : Unmade P0 w' := fun w2 h2 => h w2 (hb.trans (h2.mono hb.size))
theorem made_nil (w : World) : Calls Try.prog 21 #[.pointer none] w fun e w' => e = .returned (.bool false) ∧ Below w.heap.size w w' := by
  have HB := Lib.hid (Below.refl w.heap.size w)
  go_enter Try.func21, Try.ntmps21
  go_wp2_with fail
  go_ret
  exact ⟨rfl, HB.out⟩
theorem made_any (g : Nat) (a b c d : Int) (w : World) (h1 : w.cell? ⟨g, 1, none⟩ = some (.int .i64 a)) (h2 : w.cell? ⟨g, 2, none⟩ = some (.int .i64 b)) (h3 : w.cell? ⟨g, 3, none⟩ = some (.int .i64 c)) (h4 : w.cell? ⟨g, 4, none⟩ = some (.int .i64 d)) :
    Calls Try.prog 21 #[.pointer (some ⟨g, 0, none⟩)] w fun e w' => e = .returned (.bool (rightB a b c d)) ∧ Below w.heap.size w w' := by
  have HR := Lib.hid (right_any a b c d w)
  generalize rightB a b c d = q at *
  go_enter Try.func21, Try.ntmps21
  go_wp2_with fail
  refine HR.out.mono ?_
  rintro e w9 ⟨rfl, hb⟩
  have HB := Lib.hid hb
  clear hb
  cases q
  · go_wp2_with fail
    go_ret
    exact ⟨rfl, HB.out⟩
  · go_wp2_with fail
    go_ret
    exact ⟨rfl, HB.out⟩
theorem unmade_nil (w : World) : Unmade (.pointer none) w := fun w' _ => made_nil w'
theorem unmade_zero {w : World} {g : Nat} {v n : Value} (h : Blk w g 34 #[v, .int .i64 0, .int .i64 0, .int .i64 0, .int .i64 0, n]) : Unmade (.pointer (some ⟨g, 0, none⟩)) w := fun w' hb => by
  have hk := h.below hb h.lt
  exact made_any g 0 0 0 0 w' (hk.cell 1) (hk.cell 2) (hk.cell 3) (hk.cell 4)
section
variable {P0 : Value} {w : World}
theorem now_un (h : Unmade P0 w) : Calls Try.prog 10 #[P0] w fun e w' => e = .returned (.int .i64 0) ∧ Below w.heap.size w w' := by
  have HE := Lib.hid (h w (Below.refl _ _))
  clear h
  go_enter Try.func10, Try.ntmps10
  go_wp2_with fail
  refine HE.out.mono ?_
  rintro e w9 ⟨rfl, hb⟩
  have HB := Lib.hid hb
  clear hb
  go_wp2_with fail
  go_ret
  exact ⟨rfl, HB.out⟩
theorem go_un (x : Int) (h : Unmade P0 w) : Calls Try.prog 8 #[P0, .int .i64 x] w fun e w' => e = .returned (.tuple #[.slice none 0 0, .int .i64 9]) ∧ Below w.heap.size w w' := by
  have HE := Lib.hid (h w (Below.refl _ _))
  clear h
  go_enter Try.func8, Try.ntmps8
  go_wp2_with fail
  refine HE.out.mono ?_
  rintro e w9 ⟨rfl, hb⟩
  have HB := Lib.hid hb
  clear hb
  go_wp2_with fail
  go_ret2
  exact ⟨rfl, HB.out⟩
theorem lose_un (v : Value) (h : Unmade P0 w) : Calls Try.prog 11 #[P0, v] w fun e w' => e = .returned (.slice none 0 0) ∧ Below w.heap.size w w' := by
  have HE := Lib.hid (h w (Below.refl _ _))
  clear h
  go_enter Try.func11, Try.ntmps11
  go_wp2_with fail
  refine HE.out.mono ?_
  rintro e w9 ⟨rfl, hb⟩
  have HB := Lib.hid hb
  clear hb
  go_wp2_with fail
  go_ret
  exact ⟨rfl, HB.out⟩
theorem forget_un (h : Unmade P0 w) : Calls Try.prog 12 #[P0] w fun e w' => e = .returned (.slice none 0 0) ∧ Below w.heap.size w w' := by
  have HE := Lib.hid (h w (Below.refl _ _))
  clear h
  go_enter Try.func12, Try.ntmps12
  go_wp2_with fail
  refine HE.out.mono ?_
  rintro e w9 ⟨rfl, hb⟩
  have HB := Lib.hid hb
  clear hb
  go_wp2_with fail
  go_ret
  exact ⟨rfl, HB.out⟩
theorem rename_un (q : Option Addr) (h : Unmade (.pointer q) w) : Calls Try.prog 13 #[.pointer q, .map none] w fun e w' => e = .returned (.slice none 0 0) ∧ Below w.heap.size w w' := by
  have hba := ((Below.refl w.heap.size w).alloc (Nat.le_refl _) (.cells #[.pointer q] 29)).alloc (by simp) (.cells #[.map none] 79)
  have HW := Lib.hid hba
  have HE := Lib.hid (h _ hba)
  clear h hba
  go_enter Try.func13, Try.ntmps13
  go_wp2_with fail
  refine HE.out.mono ?_
  rintro e w9 ⟨rfl, hb⟩
  have HB := Lib.hid (HW.out.trans (hb.mono HW.out.size))
  clear hb
  go_wp2_with fail
  go_ret
  exact ⟨rfl, HB.out⟩
theorem host_un (x : Tup) (h : Unmade P0 w) : Calls Try.prog 9 #[P0, .agg x.cells] w fun e w' => e = .returned (.int .i64 (-1)) ∧ Below w.heap.size w w' := by
  have hba := (Below.refl w.heap.size w).alloc (Nat.le_refl _) (.cells #[.int .i64 x.pr, .bool x.s6, .int .u64 x.sh, .int .u64 x.sl, .bool x.d6, .int .u64 x.dh, .int .u64 x.dl, .int .i64 x.sp, .int .i64 x.dp] 26)
  have HW := Lib.hid hba
  have HE := Lib.hid (h _ hba)
  unfold Tup.cells
  clear h hba
  go_enter Try.func9, Try.ntmps9
  go_wp2_with fail
  refine HE.out.mono ?_
  rintro e w9 ⟨rfl, hb⟩
  have HB := Lib.hid (HW.out.trans (hb.mono HW.out.size))
  clear hb
  go_wp2_with fail
  go_ret
  exact ⟨rfl, HB.out⟩
end
end Go.Proofs.Ytboknpkcpeoebaa.pinA
