/- A slice of ints that came in, as a list of numbers. -/
import Derived.Test.YtlihgiannfpjfaaOpenRows
import Derived.Test.YtlihgiannfpjfaaTreM
import Derived.Test.YtlihgiannfpjfaaEliC
namespace Go.Proofs.Ytlihgiannfpjfaa.openIntR
open Go.RowKit Go.WideShapes Go.ChangeShapes Go.Joins Go.Deep
open Go.Proofs.Ytlihgiannfpjfaa.base Go.Proofs.Ytlihgiannfpjfaa.treM Go.Proofs.Ytlihgiannfpjfaa.eliC
set_option linter.unusedVariables false
section
variable {H : Type} {enc : TypeId × Value → H} {w : World} {base b0 : Nat} {held : Bool}
/-- At most thirty of them, as the law's Few has it. -/
theorem open_few {r : Reach} {v : Value} {d : DataW H} {p : List MemPlace} (hv : Value.okWide Try.prog w r b0 23 v) (h : DataW.Trod enc Try.prog w base (fun _ => true) held 23 v d p) :
    ∃ (A : Option Addr) (n c : Nat) (l : List Int), v = .slice A n c ∧ RdI w A l ∧ l.length ≤ 30 ∧ l.length ≤ c ∧ c ≤ 9223372036854775807 ∧
      ∀ W', Calls Try.prog 8 #[.slice A n c] W' fun o w' => o = .returned (.slice A l.length c) ∧ w' = W' := by
  obtain ⟨A, n, c, f, rfl, h1, h2, h3, hL, hr⟩ := open_rows 4 1 [.int .i64] Try.underlying23 (by kernel_rfl) (by kernel_rfl) (by omega) hv h
  unfold maxLen at h2
  have hz : ∀ j, j < n → ∃ z : Int, f j = [.int .i64 z] := fun j hj => by
    obtain ⟨⟨_, cs2, e, ⟨x, rfl, wx⟩, hl2⟩, hlen⟩ := hL j hj
    have h0 : cs2 = [] := by
      rw [e] at hlen
      exact List.eq_nil_of_length_eq_zero (by simpa using hlen)
    subst h0
    exact ⟨x, e⟩
  have hzz : ∃ Z : Nat → Int, ∀ j, j < n → f j = [.int .i64 (Z j)] := by
    refine ⟨fun j => if hj : j < n then (hz j hj).choose else 0, fun j hj => ?_⟩
    dsimp only
    rw [dif_pos hj]
    exact (hz j hj).choose_spec
  obtain ⟨Z, hZ⟩ := hzz
  have rd : ∀ k, k ≤ n → RdI w A ((List.range k).map Z) := fun k hk => by
    rcases hr with h0 | ⟨b, off, hA, hb, hc⟩
    · have : k = 0 := by omega
      subst this
      exact .inl rfl
    · refine .inr ⟨b, off, hA, hb, fun j x hx => ?_⟩
      have hj : j < k := by have := (List.getElem?_eq_some_iff.mp hx).1; simpa using this
      have h4 := hc j (by omega) 0 (by omega)
      rw [hZ j (by omega)] at h4
      simp [hj] at hx
      subst hx
      simpa using h4
  by_cases hn : n ≤ 30
  · refine ⟨A, n, c, (List.range n).map Z, rfl, rd n (Nat.le_refl _), by simpa using hn, by simpa using h1, by omega, fun W' => ?_⟩
    rw [List.length_map, List.length_range]
    exact few_small A n c W' hn
  · refine ⟨A, n, c, (List.range 30).map Z, rfl, rd 30 (by omega), by simp, by simp; omega, by omega, fun W' => ?_⟩
    rw [List.length_map, List.length_range]
    rcases hr with h0 | ⟨b, off, hA, _, _⟩
    · omega
    · subst hA
      exact few_big b off n c W' (by omega) h1 (by omega)
end
end Go.Proofs.Ytlihgiannfpjfaa.openIntR
