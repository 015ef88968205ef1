/- Layer 4: checks, and the law on sums of two words. -/
import Derived.Test.YtlipemjidjjenaaSumB
import Derived.Test.YtlipemjidjjenaaKeep
namespace Go.Proofs.Ytlipemjidjjenaa.sumC
open Go.ChangeShapes Go.WideShapes Go.ChangeAt Go.RowKit
open Go.Proofs.Ytlipemjidjjenaa.base Go.Proofs.Ytlipemjidjjenaa.sumA Go.Proofs.Ytlipemjidjjenaa.sumB
set_option linter.unusedVariables false

theorem row_blk {w : World} {g : Nat} {t : TypeId} {cs : Array Value} (h : Blk w g t cs) : Row w w.heap.size (some ⟨g, 0, none⟩) cs.toList :=
  .inr ⟨g, 0, rfl, h.lt, fun i u hu => by rw [Nat.zero_add, h.cell i]; simpa using hu⟩

theorem awake_any (w : World) :
    Calls Try.prog 54 #[] w fun e w' => e = .returned (.bool true) ∧ Below w.heap.size w w' := by
  have e1 : fo (wsum (flat [⟨some ⟨w.heap.size, 0, none⟩, 4, [0, 1, 242, 3]⟩])) = 61956 := by simp [flat, wsum, fo]
  have E1 := Lib.hid e1
  clear e1
  go_enter Try.func54, Try.ntmps54
  go_wp2_with fail
  have h1 := Blk.new w 5 #[.int .u8 0, .int .u8 1, .int .u8 242, .int .u8 3]
  have h2 := Blk.new (w.alloc (.cells #[.int .u8 0, .int .u8 1, .int .u8 242, .int .u8 3] 5)) 63 #[.slice (some ⟨w.heap.size, 0, none⟩) 4 4]
  have h3 := h1.alloc (.cells #[.slice (some ⟨w.heap.size, 0, none⟩) 4 4] 63)
  have r2 := row_blk h2
  have r3 := row_blk h3
  refine (of_any _ 1 1 [⟨some ⟨w.heap.size, 0, none⟩, 4, [0, 1, 242, 3]⟩] _ (w.heap.size + 1 + 1) rfl (by omega) (by simp [flat]) ?_ ?_).mono ?_
  · simpa [Part.val] using r2
  · intro p hp
    simp at hp
    subst hp
    exact ⟨by simpa using r3, by simp⟩
  rintro e w' ⟨rfl, rfl⟩
  rw [E1.out]
  clear h1 h2 h3 r2 r3
  go_wp2
  go_ret
  exact ⟨rfl, ((Below.refl _ _).alloc (Nat.le_refl _) _).alloc (by simp) _⟩

theorem check_any (A : Option Addr) (n c : Nat) (ps : List Part) (w : World) (B : Nat) (hn : ps.length = n) (hn2 : n ≤ 1000) (hlen : (flat ps).length ≤ 1099511627776)
    (hr : Row w B A (ps.map Part.val)) (hp : ∀ p ∈ ps, p.ok w B) :
    Calls Try.prog 52 #[.slice A n c] w fun e w' => e = .returned (.int .u16 (65535 - fo (wsum (flat ps)))) ∧ w = w' := by
  have H := Lib.hid (of_any A n c ps w B hn hn2 hlen hr hp)
  have b := fo_bd (wsum (flat ps)) (wsum_bd _ (flat_mem hp)).1
  have hsg : IntKind.u16.signed = false := rfl
  have n3 := not16 _ b.1 b.2
  clear hr hp hn hlen
  go_enter Try.func52, Try.ntmps52
  go_wp2_with fail
  refine H.out.mono ?_
  rintro e w' ⟨rfl, rfl⟩
  go_wp2
  go_ret
  exact ⟨rfl, rfl⟩

theorem right_any (A : Option Addr) (n c : Nat) (ps : List Part) (w : World) (B : Nat) (hn : ps.length = n) (hn2 : n ≤ 1000) (hlen : (flat ps).length ≤ 1099511627776)
    (hr : Row w B A (ps.map Part.val)) (hp : ∀ p ∈ ps, p.ok w B) :
    Calls Try.prog 53 #[.slice A n c] w fun e w' => e = .returned (.bool (fo (wsum (flat ps)) == 65535)) ∧ w = w' := by
  have H := Lib.hid (of_any A n c ps w B hn hn2 hlen hr hp)
  clear hr hp hn hlen
  go_enter Try.func53, Try.ntmps53
  go_wp2_with fail
  refine H.out.mono ?_
  rintro e w' ⟨rfl, rfl⟩
  go_wp2
  go_ret
  exact ⟨rfl, rfl⟩

theorem sumAdds_any (a b : Int) (a0 : 0 ≤ a) (a1 : a ≤ 65535) (b0 : 0 ≤ b) (b1 : b ≤ 65535) (w : World) :
    Calls Try.prog 16 #[.int .u16 a, .int .u16 b] w fun e w' => e = .returned (.bool true) ∧ Below w.heap.size w w' := by
  have h1 := fo_bd (a + b) (by omega)
  have e1 : fo (b + a) = fo (a + b) := by rw [Int.add_comm]
  have e2 : fo a = a := fo_small a0 a1
  have q1 : (fo (a + b) == fo (a + b)) = true := by simp
  have q2 : (a == a) = true := by simp
  go_enter Try.func16, Try.ntmps16
  go_wp2_with (first
    | (go_at_call 60; refine (add_any _ _ (by omega) (by omega) (by omega) (by omega) _).mono ?_; rintro e w' ⟨rfl, rfl⟩)
    | (go_at_call 55; refine (refFold_any _ (by omega) (by omega) _).mono ?_; rintro e w' ⟨rfl, rfl⟩)
    | (go_at_call 54; refine (awake_any _).mono ?_; rintro e w' ⟨rfl, hb⟩; have HB := Lib.hid hb; clear hb))
  go_ret
  exact ⟨rfl, HB.out⟩
end Go.Proofs.Ytlipemjidjjenaa.sumC
