/- Layer 2: numbers mixed under a key. -/
import Derived.Test.YtboknpkcpeoebaaMixC
import Derived.Test.YtboknpkcpeoebaaRow
namespace Go.Proofs.Ytboknpkcpeoebaa.mixD
open Go.ChangeShapes Go.WideShapes Go.ChangeAt Go.RowKit
open Go.Proofs.Ytboknpkcpeoebaa.mixA Go.Proofs.Ytboknpkcpeoebaa.base
set_option linter.unusedVariables false

def rot (h : Int) : Int := bits .or .u64 (IntKind.u64.wrap (h * 8388608)) (h / 2199023255552)
def stepZ (h x : Int) : Int := oneZ (bits .xor .u64 (rot h) (oneZ (IntKind.u64.wrap (x + 11400714819323198485))))
def ofZ (key : Int) (l : List Int) : Int := l.foldl stepZ (oneZ (bits .xor .u64 key 11400714819323198485))
theorem ofZ_snoc (key : Int) (l : List Int) (x : Int) : ofZ key (l ++ [x]) = stepZ (ofZ key l) x := by simp [ofZ]
theorem take_snoc {α : Type} (l : List α) (k : Nat) (h : k < l.length) : l.take (k + 1) = l.take k ++ [l[k]] := by
  rw [List.take_succ_eq_append_getElem h]

theorem rot_any (h : Int) (w : World) :
    Calls Try.prog 69 #[.int .u64 h, .int .i64 23] w fun e w' => e = .returned (.int .u64 (rot h)) ∧ w = w' := by
  have e1 : bits .and .u64 23 63 = 23 := by decide
  go_enter Try.func69, Try.ntmps69
  go_wp2
  go_ret
  exact ⟨rfl, rfl⟩

theorem of_any (key : Int) (A : Option Addr) (n c : Nat) (l : List Int) (w : World) (B : Nat) (hn : l.length = n) (hl : n ≤ 140737488355328) (hr : Row w B A (l.map (.int .u64))) :
    Calls Try.prog 66 #[.int .u64 key, .slice A n c] w fun e w' => e = .returned (.int .u64 (ofZ key l)) ∧ w = w' := by
  have HR := Lib.hid hr
  clear hr
  have HN := Lib.hid hn
  clear hn
  go_enter Try.func66, Try.ntmps66
  go_wp2_with (go_at_call 68; refine (one_any _ _).mono ?_; rintro e w' ⟨rfl, rfl⟩)
  go_loop [5, 13] (fun h i => ∃ k : Nat, k ≤ n ∧ i = .int .i64 k ∧ h = .int .u64 (ofZ key (l.take k))) (fun _ i => n - (intOf i).toNat)
  case atStart => exact ⟨0, by omega, rfl, rfl⟩
  case round =>
    obtain ⟨k, hk, rfl, rfl⟩ := hrel
    by_cases hlt : k < n
    · have hkl : k < l.length := by rw [HN.out]; exact hlt
      obtain ⟨b, off, rfl, _, hc⟩ := HR.out.at_ (by intro h; simp at h; rw [h] at hkl; simp at hkl)
      have hcell : w.cell? ⟨b, off + k, none⟩ = some (.int .u64 (l[k])) := hc k _ (by simp [hkl])
      have hs : ofZ key (l.take (k + 1)) = stepZ (ofZ key (l.take k)) l[k] := by rw [take_snoc l k hkl, ofZ_snoc]
      have HS := Lib.hid hs
      clear hs hc
      generalize ofZ key (l.take k) = h at *
      generalize l[k] = x at *
      go_wp2_with (first | (go_at_call 68; refine (one_any _ _).mono ?_; rintro e w' ⟨rfl, rfl⟩) | (go_at_call 69; refine (rot_any _ _).mono ?_; rintro e w' ⟨rfl, rfl⟩))
      go_round
      case rel => exact ⟨k + 1, by omega, by go_num, by rw [HS.out]; rfl⟩
      case measure => simp [intOf]; omega
    · go_wp2
      go_ret
      exact ⟨by rw [List.take_of_length_le (by rw [HN.out]; omega)]; rfl, rfl⟩
end Go.Proofs.Ytboknpkcpeoebaa.mixD
