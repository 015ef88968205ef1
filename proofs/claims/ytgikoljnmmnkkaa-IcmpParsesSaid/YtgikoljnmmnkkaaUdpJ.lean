/- Layer 11: what bytes that were put say. -/
import Derived.Test.YtgikoljnmmnkkaaUdpE
namespace Go.Proofs.Ytgikoljnmmnkkaa.udpJ
open Go.ChangeShapes Go.WideShapes Go.ChangeAt Go.RowKit
open Go.Proofs.Ytgikoljnmmnkkaa.base Go.Proofs.Ytgikoljnmmnkkaa.sumA Go.Proofs.Ytgikoljnmmnkkaa.sumB Go.Proofs.Ytgikoljnmmnkkaa.octA Go.Proofs.Ytgikoljnmmnkkaa.octB Go.Proofs.Ytgikoljnmmnkkaa.octC Go.Proofs.Ytgikoljnmmnkkaa.octE Go.Proofs.Ytgikoljnmmnkkaa.octF Go.Proofs.Ytgikoljnmmnkkaa.rdrA Go.Proofs.Ytgikoljnmmnkkaa.udpA Go.Proofs.Ytgikoljnmmnkkaa.udpB Go.Proofs.Ytgikoljnmmnkkaa.udpD Go.Proofs.Ytgikoljnmmnkkaa.udpE
set_option linter.unusedVariables false

theorem ub_all (sp dp : Int) (pl : List Int) (ck : Int) (h : ports sp dp) (hn : pl.length ≤ 65527) (c0 : 0 ≤ ck) (c1 : ck ≤ 65535) : ub sp dp pl ck = [sp / 256, sp % 256, dp / 256, dp % 256, ((8 + pl.length : Nat) : Int) / 256, ((8 + pl.length : Nat) : Int) % 256, ck / 256, ck % 256] ++ pl := by
  obtain ⟨h1, h2, h3, h4⟩ := h
  unfold ub
  simp only [allb, List.flatMap_cons, List.flatMap_nil]
  rw [pb_two sp h1 h2, pb_two dp h3 h4, pb_two _ (by omega) (by omega), pb_two ck c0 c1]
  rfl
theorem ub_says (sp dp : Int) (pl : List Int) (ck : Int) (h : ports sp dp) (hn : pl.length ≤ 65527) (c0 : 0 ≤ ck) (c1 : ck ≤ 65535) :
    w16 (ub sp dp pl ck) 0 = sp ∧ w16 (ub sp dp pl ck) 2 = dp ∧ w16 (ub sp dp pl ck) 4 = (ub sp dp pl ck).length ∧ w16 (ub sp dp pl ck) 6 = ck ∧ (ub sp dp pl ck).drop 8 = pl := by
  rw [ub_len]
  rw [ub_all sp dp pl ck h hn c0 c1]
  refine ⟨?_, ?_, ?_, ?_, rfl⟩
  · show sp / 256 * 256 + sp % 256 = sp; omega
  · show dp / 256 * 256 + dp % 256 = dp; omega
  · show ((8 + pl.length : Nat) : Int) / 256 * 256 + ((8 + pl.length : Nat) : Int) % 256 = _; omega
  · show ck / 256 * 256 + ck % 256 = ck; omega
theorem ub_set (sp dp : Int) (pl : List Int) (ck : Int) (h : ports sp dp) (hn : pl.length ≤ 65527) (c0 : 0 ≤ ck) (c1 : ck ≤ 65535) : ((ub sp dp pl 0).set 6 (ck / 256)).set 7 (ck % 256) = ub sp dp pl ck := by
  rw [ub_all sp dp pl ck h hn c0 c1, ub_all sp dp pl 0 h hn (by omega) (by omega)]
  rfl
theorem wsum_app : ∀ (n : Nat) (a b : List Int), a.length = 2 * n → wsum (a ++ b) = wsum a + wsum b := by
  intro n
  induction n with
  | zero => intro a b h; have e : a = [] := List.eq_nil_of_length_eq_zero (by omega); subst e; simp [wsum]
  | succ n ih =>
    intro a b h
    match a, h with
    | x :: y :: a, h =>
      have := ih a b (by simp at h; omega)
      show wsum (x :: y :: (a ++ b)) = wsum (x :: y :: a) + wsum b
      simp only [wsum]
      rw [this]
      omega
theorem wsum_ub (sp dp : Int) (pl : List Int) (ck : Int) (h : ports sp dp) (hn : pl.length ≤ 65527) (c0 : 0 ≤ ck) (c1 : ck ≤ 65535) : wsum (ub sp dp pl ck) = wsum (ub sp dp pl 0) + ck := by
  rw [ub_all sp dp pl ck h hn c0 c1, ub_all sp dp pl 0 h hn (by omega) (by omega)]
  rw [wsum_app 4 _ pl rfl, wsum_app 4 _ pl rfl]
  simp only [wsum]
  omega
theorem fo_full (s : Int) (h : 0 ≤ s) : fo (s + (if 65535 - fo s = 0 then 65535 else 65535 - fo s)) = 65535 := by
  have a := fo_bd s h
  have b := fo_add (x := s) (t := if 65535 - fo s = 0 then 65535 else 65535 - fo s) h (by split <;> omega)
  rw [← b]
  split
  · rename_i h0
    rw [show fo s = 65535 by omega]
    rfl
  · rw [show fo s + (65535 - fo s) = 65535 by omega]
    rfl
theorem chk_right (sp dp : Int) (pl ps : List Int) (h : ports sp dp) (hn : pl.length ≤ 65527) (hp : ∀ x ∈ pl, 0 ≤ x ∧ x ≤ 255) (hq : ∀ x ∈ ps, 0 ≤ x ∧ x ≤ 255) (he : ps.length % 2 = 0) :
    fo (wsum (ps ++ ub sp dp pl (chkZ (ps ++ ub sp dp pl 0)))) = 65535 := by
  have hin : ∀ x ∈ ps ++ ub sp dp pl 0, 0 ≤ x ∧ x ≤ 255 := fun x hx => (List.mem_append.1 hx).elim (hq x) (ub_in sp dp pl 0 hp x)
  have c := chkZ_in _ hin
  have e : ps.length = 2 * (ps.length / 2) := by omega
  rw [wsum_app _ _ _ e, wsum_ub sp dp pl _ h hn c.1 c.2, ← Int.add_assoc, ← wsum_app _ _ _ e]
  exact fo_full _ (wsum_bd _ hin).1
theorem chk_pos (l : List Int) (hb : ∀ x ∈ l, 0 ≤ x ∧ x ≤ 255) : chkZ l ≠ 0 := by
  unfold chkZ
  split <;> omega
theorem refcheck_any (A : Option Addr) (n c : Nat) (l : List Int) (w : World) (hl : l.length = n) (hn : n ≤ 1000000) (hr : Row w w.heap.size A (l.map (.int .u8))) (hb : ∀ x ∈ l, 0 ≤ x ∧ x ≤ 255) :
    Calls Try.prog 18 #[.slice A n c] w fun e w' => e = .returned (.int .i64 (65535 - fo (wsum l))) ∧ Below w.heap.size w w' := by
  have H := Lib.hid (Go.Proofs.Ytgikoljnmmnkkaa.sumH.refOf_any A n c l w hl hn hr hb)
  have b := fo_bd (wsum l) (wsum_bd l hb).1
  clear hr hb hl
  obtain ⟨b0, b1⟩ := b
  generalize fo (wsum l) = s at *
  go_enter Try.func18, Try.ntmps18
  go_wp2_with fail
  refine H.out.mono ?_
  rintro e w1 ⟨rfl, hb⟩
  go_wp2_with fail
  go_ret
  exact ⟨rfl, hb⟩
end Go.Proofs.Ytgikoljnmmnkkaa.udpJ
