/- Layer 10: the law on flags. -/
import Derived.Test.YtjgeknkfinaimaaTcpA
namespace Go.Proofs.Ytjgeknkfinaimaa.tcpB
open Go.ChangeShapes Go.WideShapes Go.ChangeAt Go.RowKit
open Go.Proofs.Ytjgeknkfinaimaa.base Go.Proofs.Ytjgeknkfinaimaa.connA Go.Proofs.Ytjgeknkfinaimaa.tcpA
set_option linter.unusedVariables false

def opensB (f : Int) : Bool := hasB f 2 && (bits .and .i64 f 21 == 0)
theorem opens_any (a b c d f g h : Int) (A : Option Addr) (n cp : Nat) (w : World) :
    Calls Try.prog 35 #[.agg #[.int .i64 a, .int .i64 b, .int .u32 c, .int .u32 d, .int .i64 f, .int .i64 g, .int .i64 h, .slice A n cp]] w fun e w' => e = .returned (.bool (opensB f)) ∧ Below w.heap.size w w' := by
  cases b2 : hasB f 2
  · have hv : opensB f = false := by simp [opensB, b2]
    rw [hv]
    have H2 := Lib.hid b2
    clear b2 hv
    go_enter Try.func35, Try.ntmps35
    go_wp2_with fail
    refine (has_any _ _ _ _ _ _ _ _ _ _ _ _).mono ?_
    rintro e w1 ⟨rfl, hb⟩
    rw [H2.out]
    go_wp2_with fail
    go_ret
    exact ⟨rfl, ((Below.refl _ _).alloc (Nat.le_refl _) _).trans (hb.mono (by simp))⟩
  · have hv : opensB f = (bits .and .i64 f 21 == 0) := by simp [opensB, b2]
    rw [hv]
    have H2 := Lib.hid b2
    clear b2 hv
    go_enter Try.func35, Try.ntmps35
    go_wp2_with fail
    refine (has_any _ _ _ _ _ _ _ _ _ _ _ _).mono ?_
    rintro e w1 ⟨rfl, hb⟩
    rw [H2.out]
    obtain ⟨hc, hf⟩ := bcell hb
    have HB := Lib.hid hb
    clear hb
    go_wp2_with fail
    go_ret
    exact ⟨rfl, ((Below.refl _ _).alloc (Nat.le_refl _) _).trans (HB.out.mono (by simp))⟩
theorem awake_any (w : World) :
    Calls Try.prog 20 #[] w fun e w' => e = .returned (.bool true) ∧ Below w.heap.size w w' := by
  have o1 : opensB 2 = true := by decide
  have o2 : opensB 18 = false := by decide
  have H1 := Lib.hid o1
  have H2 := Lib.hid o2
  clear o1 o2
  go_enter Try.func20, Try.ntmps20
  go_wp2_with fail
  refine (opens_any _ _ _ _ _ _ _ _ _ _ _).mono ?_
  rintro e w1 ⟨rfl, hb⟩
  rw [H1.out]
  go_wp2_with fail
  refine (opens_any _ _ _ _ _ _ _ _ _ _ _).mono ?_
  rintro e w2 ⟨rfl, hb2⟩
  rw [H2.out]
  go_wp2_with fail
  go_ret
  exact ⟨rfl, bel_call hb hb2⟩
end Go.Proofs.Ytjgeknkfinaimaa.tcpB
