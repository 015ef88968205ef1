/- Layer 36: what is read has just these bytes, in plain words. -/
import Derived.Test.YtmchedjeohhpcaaPcapT
namespace Go.Proofs.Ytmchedjeohhpcaa.pcapV
open Go.ChangeShapes Go.WideShapes Go.ChangeAt Go.RowKit
open Go.Proofs.Ytmchedjeohhpcaa.base Go.Proofs.Ytmchedjeohhpcaa.pcapA Go.Proofs.Ytmchedjeohhpcaa.pcapB Go.Proofs.Ytmchedjeohhpcaa.pcapC Go.Proofs.Ytmchedjeohhpcaa.pcapD Go.Proofs.Ytmchedjeohhpcaa.pcapE Go.Proofs.Ytmchedjeohhpcaa.pcapF Go.Proofs.Ytmchedjeohhpcaa.pcapG Go.Proofs.Ytmchedjeohhpcaa.pcapI Go.Proofs.Ytmchedjeohhpcaa.pcapJ Go.Proofs.Ytmchedjeohhpcaa.pcapK Go.Proofs.Ytmchedjeohhpcaa.pcapL Go.Proofs.Ytmchedjeohhpcaa.pcapM Go.Proofs.Ytmchedjeohhpcaa.pcapN Go.Proofs.Ytmchedjeohhpcaa.pcapQ Go.Proofs.Ytmchedjeohhpcaa.pcapT
set_option linter.unusedVariables false

theorem four_lit {a b c d : Int} (ha : 0 ≤ a ∧ a < 256) (hb : 0 ≤ b ∧ b < 256) (hc : 0 ≤ c ∧ c < 256) (hd : 0 ≤ d ∧ d < 256) : fourZ (wordN a.toNat b.toNat c.toNat d.toNat) = [a, b, c, d] := by
  obtain ⟨a, rfl⟩ := Int.eq_ofNat_of_zero_le ha.1
  obtain ⟨b, rfl⟩ := Int.eq_ofNat_of_zero_le hb.1
  obtain ⟨c, rfl⟩ := Int.eq_ofNat_of_zero_le hc.1
  obtain ⟨d, rfl⟩ := Int.eq_ofNat_of_zero_le hd.1
  simp only [Int.toNat_natCast]
  unfold fourZ wordN
  have j1 : ((a * 16777216 + b * 65536 + c * 256 + d : Nat) : Int) / 16777216 % 256 = (a : Int) := by omega
  have j2 : ((a * 16777216 + b * 65536 + c * 256 + d : Nat) : Int) / 65536 % 256 = (b : Int) := by omega
  have j3 : ((a * 16777216 + b * 65536 + c * 256 + d : Nat) : Int) / 256 % 256 = (c : Int) := by omega
  have j4 : ((a * 16777216 + b * 65536 + c * 256 + d : Nat) : Int) % 256 = (d : Int) := by omega
  rw [j1, j2, j3, j4]
theorem wAt_drop (l : List Int) (k i : Nat) : wAt (l.drop k) i = wAt l (k + i) := by
  unfold wAt
  simp only [List.getD_eq_getElem?_getD, List.getElem?_drop, Nat.add_assoc]
theorem four_take (l : List Int) (hb : Byte l) (h : 4 ≤ l.length) : l.take 4 = fourZ (wAt l 0) := by
  match l, h with
  | a :: b :: c :: d :: r, _ =>
    have e : wAt (a :: b :: c :: d :: r) 0 = wordN a.toNat b.toNat c.toNat d.toNat := rfl
    rw [e, four_lit (hb a (by simp)) (hb b (by simp)) (hb c (by simp)) (hb d (by simp))]
    rfl
theorem four_split (l : List Int) (hb : Byte l) (h : 4 ≤ l.length) : l = fourZ (wAt l 0) ++ l.drop 4 := by
  rw [← four_take l hb h, List.take_append_drop]
theorem four_inj {a b : Nat} (ha : a < 4294967296) (hb : b < 4294967296) (h : fourZ a = fourZ b) : a = b := by
  rw [← wAt_four ha [], ← wAt_four hb [], h]
theorem enc_dec (big : Bool) : ∀ (k : Nat) (x : List Int) (m : List Rc), x.length ≤ k → Byte x → dec big x = some (m.map Rc.re) → (∀ e ∈ m, e.bs.length = e.n) → bodyB big m = x := by
  intro k
  induction k with
  | zero =>
    intro x m hk hb hd hm
    obtain rfl : x = [] := List.eq_nil_of_length_eq_zero (by omega)
    rw [dec_nil] at hd
    injection hd with hd
    cases m with
    | nil => rfl
    | cons e m => simp at hd
  | succ k ih =>
    intro x m hk hb hd hm
    by_cases hx : x = []
    · subst hx
      rw [dec_nil] at hd
      injection hd with hd
      cases m with
      | nil => rfl
      | cons e m => simp at hd
    · by_cases hs : shortB big x
      · rw [dec_short big x hx hs] at hd
        cases hd
      · rw [dec_step big x hx hs] at hd
        have hs2 : 16 ≤ x.length ∧ payN big x + 16 ≤ x.length := by
          unfold shortB at hs
          unfold payN
          omega
        rcases hr : dec big (x.drop (payN big x + 16)) with _ | rs
        · rw [hr] at hd; cases hd
        · rw [hr] at hd
          injection hd with hd
          cases m with
          | nil => simp at hd
          | cons e m =>
            rw [List.map_cons] at hd
            injection hd with he hm2
            have hi := ih (x.drop (payN big x + 16)) m (by rw [List.length_drop]; omega) (hb.drop _) (by rw [hr, hm2]) (fun y hy => hm y (List.mem_cons_of_mem _ hy))
            have hlen := hm e (List.mem_cons_self ..)
            unfold reOf Rc.re at he
            injection he with x1 x2 x3 x4
            have hen : e.n = payN big x := by
              rw [← hlen, ← x4, List.length_take, List.length_drop]
              omega
            rw [body_cons, ← x1, ← x2, ← x3, ← x4, hen, hi]
            unfold payN at *
            rw [ordN_twice big (wAt_lt hb 0), ordN_twice big (wAt_lt hb 4), ordN_twice big (wAt_lt hb 8), ordN_twice big (wAt_lt hb 12)]
            have s0 := four_split x hb (by omega)
            have s4 := four_split (x.drop 4) (hb.drop 4) (by rw [List.length_drop]; omega)
            have s8 := four_split (x.drop 8) (hb.drop 8) (by rw [List.length_drop]; omega)
            have s12 := four_split (x.drop 12) (hb.drop 12) (by rw [List.length_drop]; omega)
            rw [wAt_drop, List.drop_drop] at s4 s8 s12
            have e16 : (x.drop 16).take (ordN big (wAt x 8)) ++ x.drop (ordN big (wAt x 8) + 16) = x.drop 16 := by
              rw [Nat.add_comm, ← List.drop_drop, List.take_append_drop]
            rw [e16]
            rw [← s12, ← s8, ← s4, ← s0]
theorem head24 (big : Bool) (l : List Int) (hb : Byte l) (h24 : 24 ≤ l.length) (h16 : l.take 16 = headZ big) : headB big (ordN big (wAt l 16)) (ordN big (wAt l 20)) ++ l.drop 24 = l := by
  rw [head_cons, ← h16, ordN_twice big (wAt_lt hb 16), ordN_twice big (wAt_lt hb 20)]
  have s16 := four_split (l.drop 16) (hb.drop 16) (by rw [List.length_drop]; omega)
  have s20 := four_split (l.drop 20) (hb.drop 20) (by rw [List.length_drop]; omega)
  rw [wAt_drop, List.drop_drop] at s16 s20
  rw [List.append_assoc, List.append_assoc, ← s20, ← s16, List.take_append_drop]
theorem low_word {a b c d : Nat} (ha : a < 256) (hb : b < 256) (hc : c < 256) (hd : d < 256) : rev32 (wordN a b c d) = a + 256 * b + 65536 * c + 16777216 * d := by
  have := rev32_digits d c b a hd hc hb ha
  unfold wordN
  rw [this]
  omega
theorem magic_true (l : List Int) (hb : Byte l) (h : 4 ≤ l.length) : (l.take 4 = [161, 178, 195, 212]) ↔ wAt l 0 = 2712847316 := by
  have e : ([161, 178, 195, 212] : List Int) = fourZ 2712847316 := by decide
  rw [four_take l hb h, e]
  exact ⟨fun h => four_inj (wAt_lt hb 0) (by decide) h, fun h => by rw [h]⟩
theorem magic_false (l : List Int) (hb : Byte l) (h : 4 ≤ l.length) : (l.take 4 = [212, 195, 178, 161]) ↔ ordN false (wAt l 0) = 2712847316 := by
  have e : ([212, 195, 178, 161] : List Int) = fourZ (rev32 2712847316) := by decide
  rw [four_take l hb h, e]
  constructor
  · intro h
    rw [four_inj (wAt_lt hb 0) (rev32_lt _) h]
    decide
  · intro h2
    have h3 := ordN_twice false (wAt_lt hb 0)
    rw [h2] at h3
    rw [← h3]
    rfl
end Go.Proofs.Ytmchedjeohhpcaa.pcapV
