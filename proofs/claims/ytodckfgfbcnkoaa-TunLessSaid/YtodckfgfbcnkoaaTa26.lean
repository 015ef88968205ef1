/- 2 texts in one. -/
import Derived.Test.YtodckfgfbcnkoaaTa22
import Derived.Test.YtodckfgfbcnkoaaTa24
import Derived.Test.YtodckfgfbcnkoaaTa25
/- Words put into bytes; a time to live that is one less: plain words. -/
namespace Go.Proofs.Ytodckfgfbcnkoaa.tunV
open Go.ChangeShapes Go.WideShapes Go.ChangeAt Go.RowKit
open Go.Proofs.Ytodckfgfbcnkoaa.base Go.Proofs.Ytodckfgfbcnkoaa.sumA Go.Proofs.Ytodckfgfbcnkoaa.sumB Go.Proofs.Ytodckfgfbcnkoaa.sixW Go.Proofs.Ytodckfgfbcnkoaa.sixM Go.Proofs.Ytodckfgfbcnkoaa.pktA Go.Proofs.Ytodckfgfbcnkoaa.pktC Go.Proofs.Ytodckfgfbcnkoaa.pktE Go.Proofs.Ytodckfgfbcnkoaa.sixE Go.Proofs.Ytodckfgfbcnkoaa.sixF Go.Proofs.Ytodckfgfbcnkoaa.pktG
set_option linter.unusedVariables false

def setw (l : List Int) (p : Nat) (v : Int) : List Int := (l.set p (v / 256)).set (p + 1) (v % 256)
theorem setw_len (l : List Int) (p : Nat) (v : Int) : (setw l p v).length = l.length := by simp [setw]
theorem set_get (l : List Int) (p : Nat) (v : Int) (i : Nat) (h : p < l.length) : (l.set p v).getD i 0 = if i = p then v else l.getD i 0 := by
  rw [List.getD_eq_getElem?_getD, List.getD_eq_getElem?_getD]
  by_cases e : i = p
  · rw [if_pos e, e, List.getElem?_set_self h]; rfl
  · rw [if_neg e, List.getElem?_set_ne (fun k => e k.symm)]
theorem setw_get (l : List Int) (p : Nat) (v : Int) (i : Nat) (h : p + 1 < l.length) : (setw l p v).getD i 0 = if i = p + 1 then v % 256 else if i = p then v / 256 else l.getD i 0 := by
  unfold setw
  rw [set_get _ _ _ _ (by rw [List.length_set]; exact h)]
  by_cases e : i = p + 1
  · rw [if_pos e, if_pos e]
  · rw [if_neg e, if_neg e, set_get _ _ _ _ (by omega)]
theorem set_u8 {l : List Int} (h : U8 l) (p : Nat) (v : Int) (v0 : 0 ≤ v) (v9 : v ≤ 255) : U8 (l.set p v) := by
  intro x hx
  rcases List.mem_or_eq_of_mem_set hx with hx | rfl
  · exact h x hx
  · omega
theorem setw_u8 {l : List Int} (h : U8 l) (p : Nat) (v : Int) (v0 : 0 ≤ v) (v9 : v ≤ 65535) : U8 (setw l p v) := set_u8 (set_u8 h p _ (by omega) (by omega)) (p + 1) _ (by omega) (by omega)
theorem set_take (l : List Int) (p n : Nat) (v : Int) : (l.set p v).take n = (l.take n).set p v := by
  apply List.ext_getElem?
  intro i
  rw [List.getElem?_take, List.getElem?_set, List.getElem?_set, List.getElem?_take, List.length_take]
  by_cases e : p = i
  · subst e
    simp only [if_true]
    by_cases a : p < n
    · rw [if_pos a]
      by_cases b : p < l.length
      · rw [if_pos b, if_pos (by omega)]
      · rw [if_neg b, if_neg (by omega)]
    · rw [if_neg a, if_neg (by omega)]
  · rw [if_neg e, if_neg e]
theorem setw_take (l : List Int) (p n : Nat) (v : Int) : (setw l p v).take n = setw (l.take n) p v := by
  unfold setw
  rw [set_take, set_take]
theorem set_drop (l : List Int) (p n : Nat) (v : Int) (h : p < n) : (l.set p v).drop n = l.drop n := by
  apply List.ext_getElem?
  intro i
  rw [List.getElem?_drop, List.getElem?_drop, List.getElem?_set_ne (by omega)]
theorem setw_drop (l : List Int) (p n : Nat) (v : Int) (h : p + 1 < n) : (setw l p v).drop n = l.drop n := by
  unfold setw
  rw [set_drop _ _ _ _ h, set_drop _ _ _ _ (by omega)]
theorem wsum_setw : ∀ (l : List Int) (k : Nat) (v : Int), 2 * k + 1 < l.length → wsum (setw l (2 * k) v) = wsum l - udpA.w16 l (2 * k) + v
  | [], k, v, h => by simp at h
  | [a], k, v, h => by simp at h
  | a :: b :: r, 0, v, h => by
    show 256 * (v / 256) + v % 256 + wsum r = 256 * a + b + wsum r - (a * 256 + b) + v
    omega
  | a :: b :: r, k + 1, v, h => by
    have ih := wsum_setw r k v (by simp only [List.length_cons] at h; omega)
    have e : setw (a :: b :: r) (2 * (k + 1)) v = a :: b :: setw r (2 * k) v := rfl
    have e2 : udpA.w16 (a :: b :: r) (2 * (k + 1)) = udpA.w16 r (2 * k) := rfl
    rw [e, e2]
    show 256 * a + b + wsum (setw r (2 * k) v) = 256 * a + b + wsum r - udpA.w16 r (2 * k) + v
    rw [ih]
    omega
theorem wsum_low (l : List Int) (hu : U8 l) (h : 2 ≤ l.length) : 256 * l.getD 0 0 ≤ wsum l := by
  match l, hu, h with
  | a :: b :: r, hu, _ =>
    have hb := hu b (by simp)
    have hr : 0 ≤ wsum r := (wsum_bd r fun x hx => hu x (by simp [hx])).1
    show 256 * a ≤ 256 * a + b + wsum r
    omega
theorem turn_right {W f t c : Int} (hW : fo W = 65535) (h0 : 0 ≤ W) (c0 : 0 ≤ c) (c9 : c ≤ 65535) (f0 : 0 ≤ f) (f9 : f ≤ 65535) (t0 : 0 ≤ t) (t9 : t ≤ 65535) (hp : 0 < W - f + t - c + (65535 - fo (65535 - c + (65535 - f) + t))) :
    fo (W - f + t - c + (65535 - fo (65535 - c + (65535 - f) + t))) = 65535 := by
  have h1 := fo_mod h0
  have h2 := fo_mod (n := 65535 - c + (65535 - f) + t) (by omega)
  generalize fo (65535 - c + (65535 - f) + t) = k at *
  have h3 : (W - f + t - c + (65535 - k)) % 65535 = 0 := by omega
  unfold fo
  rw [if_neg (by omega)]
  omega
theorem w16_set (l : List Int) (p : Nat) (v : Int) (i : Nat) (h : p + 1 < l.length) (e : i + 1 < p ∨ p + 1 < i) : udpA.w16 (setw l p v) i = udpA.w16 l i := by
  unfold udpA.w16
  rw [setw_get _ _ _ _ h, setw_get _ _ _ _ h, if_neg (by omega), if_neg (by omega), if_neg (by omega), if_neg (by omega)]
def out4 (l : List Int) : List Int := setw (setw (l.take (udpA.w16 l 2).toNat) 8 (udpA.w16 l 8 - 256)) 10 (65535 - fo (65535 - udpA.w16 l 10 + (65535 - udpA.w16 l 8) + (udpA.w16 l 8 - 256)))
def out6 (l : List Int) : List Int := (l.take (40 + sizeP l)).set 7 (l.getD 7 0 - 1)
theorem four_sizes (l : List Int) (hu : U8 l) (he : fourE l = 0) : l.getD 0 0 / 16 = 4 ∧ 20 ≤ fourS l ∧ fourS l ≤ 60 ∧ (fourS l : Int) = fourA.hl l ∧ ((udpA.w16 l 2).toNat : Int) = udpA.w16 l 2 ∧ fourS l ≤ (udpA.w16 l 2).toNat ∧ (udpA.w16 l 2).toNat ≤ l.length ∧ fourS l + (fourR l).length = (udpA.w16 l 2).toNat ∧ udpA.w16 l 6 < 32768 ∧ fo (wsum (l.take (fourS l))) = 65535 := by
  have k0 := hu.get 0
  have hs : 0 ≤ fourA.hl l ∧ fourA.hl l ≤ 60 := by unfold fourA.hl; omega
  have k2 := udpA.w16_in l hu 2
  unfold fourE at he
  split at he
  · omega
  · split at he
    · omega
    · split at he
      · omega
      · split at he
        · omega
        · split at he
          · omega
          · split at he
            · omega
            · have e1 : (fourS l : Int) = fourA.hl l := by unfold fourS; omega
              have e2 : fo (wsum (l.take (fourS l))) = 65535 := by
                unfold fourS
                omega
              refine ⟨by omega, by omega, by omega, e1, by omega, by omega, by omega, ?_, by omega, e2⟩
              unfold fourR
              rw [List.length_take, List.length_drop]
              omega
theorem out4_says (l : List Int) (hu : U8 l) (he : fourE l = 0) (ht : 2 ≤ l.getD 8 0) :
    (out4 l).length = (udpA.w16 l 2).toNat ∧ U8 (out4 l) ∧ (∀ i, i < (udpA.w16 l 2).toNat → i ≠ 8 → i ≠ 10 → i ≠ 11 → (out4 l).getD i 0 = l.getD i 0) ∧ (out4 l).getD 8 0 = l.getD 8 0 - 1 ∧ (out4 l).take 0 = [] ∧ fourE (out4 l) = 0 ∧ fourS (out4 l) = fourS l ∧ fourR (out4 l) = fourR l := by
  obtain ⟨h4, s20, s60, es, ew, sw, wl, sr, hf, hfo⟩ := four_sizes l hu he
  have k8 := hu.get 8; have k9 := hu.get 9; have k10 := hu.get 10; have k11 := hu.get 11
  have w8 : udpA.w16 l 8 = l.getD 8 0 * 256 + l.getD 9 0 := rfl
  have w10 : udpA.w16 l 10 = l.getD 10 0 * 256 + l.getD 11 0 := rfl
  obtain ⟨C, hC⟩ : ∃ C, C = 65535 - fo (65535 - udpA.w16 l 10 + (65535 - udpA.w16 l 8) + (udpA.w16 l 8 - 256)) := ⟨_, rfl⟩
  have cb := fo_bd (65535 - udpA.w16 l 10 + (65535 - udpA.w16 l 8) + (udpA.w16 l 8 - 256)) (by omega)
  have c0 : 0 ≤ C := by omega
  have c9 : C ≤ 65535 := by omega
  obtain ⟨N, hN⟩ : ∃ N, N = (udpA.w16 l 2).toNat := ⟨_, rfl⟩
  have ex : out4 l = setw (setw (l.take N) 8 (udpA.w16 l 8 - 256)) 10 C := by rw [hC, hN]; rfl
  rw [← hN] at ew sw wl sr ⊢
  have hL : (l.take N).length = N := by rw [List.length_take]; omega
  have hlen : (out4 l).length = N := by rw [ex, setw_len, setw_len, hL]
  have h8 : 8 + 1 < (l.take N).length := by omega
  have h10 : 10 + 1 < (setw (l.take N) 8 (udpA.w16 l 8 - 256)).length := by rw [setw_len]; omega
  have hu' : U8 (out4 l) := by rw [ex]; exact setw_u8 (setw_u8 (hu.take N) 8 _ (by omega) (by omega)) 10 _ c0 c9
  have hg : ∀ i, i < N → i ≠ 8 → i ≠ 10 → i ≠ 11 → (out4 l).getD i 0 = l.getD i 0 := by
    intro i hi a b c
    rw [ex, setw_get _ _ _ _ h10, if_neg (by omega), if_neg (by omega), setw_get _ _ _ _ h8]
    by_cases e : i = 8 + 1
    · rw [if_pos e, e]
      show (udpA.w16 l 8 - 256) % 256 = l.getD 9 0
      omega
    · rw [if_neg e, if_neg (by omega), fourB.getD_take l N i hi]
  have h8' : (out4 l).getD 8 0 = l.getD 8 0 - 1 := by
    rw [ex, setw_get _ _ _ _ h10, if_neg (by omega), if_neg (by omega), setw_get _ _ _ _ h8, if_neg (by omega), if_pos rfl]
    omega
  have g16 : ∀ i, i + 1 < 8 → udpA.w16 (out4 l) i = udpA.w16 l i := fun i hi => by
    unfold udpA.w16
    rw [hg i (by omega) (by omega) (by omega) (by omega), hg (i + 1) (by omega) (by omega) (by omega) (by omega)]
  have g0 := hg 0 (by omega) (by omega) (by omega) (by omega)
  have ghl : fourA.hl (out4 l) = fourA.hl l := by unfold fourA.hl; rw [g0]
  have gS : fourS (out4 l) = fourS l := by unfold fourS; rw [ghl]
  have hsum : fo (wsum ((out4 l).take (fourA.hl (out4 l)).toNat)) = 65535 := by
    have eS : (fourA.hl (out4 l)).toNat = fourS l := by rw [ghl]; rfl
    have et : (out4 l).take (fourS l) = setw (setw (l.take (fourS l)) 8 (udpA.w16 l 8 - 256)) 10 C := by
      rw [ex, setw_take, setw_take, List.take_take, Nat.min_eq_left sw]
    have hLS : (l.take (fourS l)).length = fourS l := by rw [List.length_take]; omega
    have q8 : udpA.w16 (l.take (fourS l)) 8 = udpA.w16 l 8 := fourB.w16_take l (fourS l) 8 (by omega)
    have q10 : udpA.w16 (l.take (fourS l)) 10 = udpA.w16 l 10 := fourB.w16_take l (fourS l) 10 (by omega)
    have ws : wsum ((out4 l).take (fourS l)) = wsum (l.take (fourS l)) - udpA.w16 l 8 + (udpA.w16 l 8 - 256) - udpA.w16 l 10 + C := by
      rw [et, show (10 : Nat) = 2 * 5 from rfl, wsum_setw _ 5 _ (by rw [setw_len]; omega), show 2 * 5 = 10 from rfl, w16_set _ 8 _ 10 (by omega) (by omega), q10, show (8 : Nat) = 2 * 4 from rfl, wsum_setw _ 4 _ (by omega), show 2 * 4 = 8 from rfl, q8]
    have wlow := wsum_low ((out4 l).take (fourS l)) (hu'.take _) (by rw [List.length_take]; omega)
    rw [fourB.getD_take _ _ _ (by omega), g0] at wlow
    have wn := (wsum_bd (l.take (fourS l)) (hu.take _)).1
    rw [eS, ws, hC]
    refine turn_right hfo wn (by omega) (by omega) (by omega) (by omega) (by omega) (by omega) ?_
    rw [← hC, ← ws]
    omega
  have gR : fourR (out4 l) = fourR l := by
    unfold fourR
    rw [gS, g16 2 (by omega), ex, setw_drop _ _ _ _ (by omega), setw_drop _ _ _ _ (by omega), List.drop_take, List.take_take, ← hN, Nat.min_self]
  refine ⟨hlen, hu', hg, h8', List.take_zero .., ?_, gS, gR⟩
  have e2 := g16 2 (by omega)
  have e6 := g16 6 (by omega)
  unfold fourE
  rw [if_neg (by omega), g0, if_neg (by omega), if_neg (by rw [ghl]; omega), e6, if_neg (by omega), e2, if_neg (by rw [ghl]; omega), hsum, if_neg (by omega)]
theorem with_ttl (v6 : Bool) (t : Tp) (a b sz : Int) (l : List Int) : (withP v6 t a sz l).2 = (withP v6 t b sz l).2 ∧ ((withP v6 t a sz l).2 = 0 → (withP v6 t b sz l).1.ttl = b ∧ (withP v6 t a sz l).1 = { (withP v6 t b sz l).1 with ttl := a }) := by
  unfold withP
  split
  · split
    · exact ⟨rfl, fun h => absurd h ‹_›⟩
    · exact ⟨rfl, fun _ => ⟨rfl, rfl⟩⟩
  · split
    · split
      · exact ⟨rfl, fun h => absurd h ‹_›⟩
      · exact ⟨rfl, fun _ => ⟨rfl, rfl⟩⟩
    · split
      · split
        · exact ⟨rfl, fun h => absurd h ‹_›⟩
        · exact ⟨rfl, fun _ => ⟨rfl, rfl⟩⟩
      · exact ⟨rfl, fun h => absurd h (by decide)⟩
def LessP (x l : List Int) (ttl : Int) : Prop := (pkP x).2 = (pkP l).2 ∧ ((pkP l).2 = 0 → (pkP l).1.ttl = ttl ∧ (pkP x).1 = { (pkP l).1 with ttl := ttl - 1 })
theorem less4_pk (l : List Int) (hu : U8 l) (hn : l.length ≤ 1000) (he : fourE l = 0) (ht : 2 ≤ l.getD 8 0) : LessP (out4 l) l (l.getD 8 0) := by
  obtain ⟨h4, s20, s60, es, ew, sw, wl, sr, hf, hfo⟩ := four_sizes l hu he
  obtain ⟨a1, a2, a3, a4, _, a6, a7, a8⟩ := out4_says l hu he ht
  have g : ∀ i, i < 20 → i ≠ 8 → i ≠ 10 → i ≠ 11 → (out4 l).getD i 0 = l.getD i 0 := fun i hi a b c => a3 i (by omega) a b c
  have g0 := g 0 (by omega) (by omega) (by omega) (by omega)
  have g9 := g 9 (by omega) (by omega) (by omega) (by omega)
  have g6 : udpA.w16 (out4 l) 6 = udpA.w16 l 6 := by unfold udpA.w16; rw [g 6 (by omega) (by omega) (by omega) (by omega), g (6 + 1) (by omega) (by omega) (by omega) (by omega)]
  have g12 : tcpC.w32 (out4 l) 12 = tcpC.w32 l 12 := by unfold tcpC.w32 udpA.w16; rw [g 12 (by omega) (by omega) (by omega) (by omega), g (12 + 1) (by omega) (by omega) (by omega) (by omega), g (12 + 2) (by omega) (by omega) (by omega) (by omega), g (12 + 2 + 1) (by omega) (by omega) (by omega) (by omega)]
  have g16 : tcpC.w32 (out4 l) 16 = tcpC.w32 l 16 := by unfold tcpC.w32 udpA.w16; rw [g 16 (by omega) (by omega) (by omega) (by omega), g (16 + 1) (by omega) (by omega) (by omega) (by omega), g (16 + 2) (by omega) (by omega) (by omega) (by omega), g (16 + 2 + 1) (by omega) (by omega) (by omega) (by omega)]
  have ex : pkP (out4 l) = p4 (out4 l) := by unfold pkP; rw [if_neg (by omega), if_neg (by omega), g0, if_pos h4]
  have el : pkP l = p4 l := by unfold pkP; rw [if_neg (by omega), if_neg (by omega), if_pos h4]
  unfold LessP
  rw [ex, el]
  unfold p4
  rw [if_neg (show ¬ fourE (out4 l) ≠ 0 by omega), if_neg (show ¬ fourE l ≠ 0 by omega), g6]
  by_cases hk : udpA.w16 l 6 % 8192 ≠ 0 ∨ decide (udpA.w16 l 6 / 8192 % 2 = 1) = true
  · rw [if_pos hk, if_pos hk]
    exact ⟨rfl, fun h => absurd h (by decide)⟩
  · rw [if_neg hk, if_neg hk, g9, g12, g16, a4, a7, a8]
    obtain ⟨b1, b2⟩ := with_ttl false ⟨l.getD 9 0, false, 0, tcpC.w32 l 12, false, 0, tcpC.w32 l 16, 0, 0⟩ (l.getD 8 0 - 1) (l.getD 8 0) (20 + ((fourS l - 20 : Nat) : Int) + ((fourR l).length : Int)) (fourR l)
    exact ⟨b1, fun h => b2 (b1.trans h)⟩
theorem six_sizes (l : List Int) (hu : U8 l) {ys : List XP} {q : Int} {r : List Int} (he : sixP l = .inr (ys, q, r)) : l.getD 0 0 / 16 = 6 ∧ 40 + sizeP l ≤ l.length ∧ extL ys + r.length = sizeP l ∧ U8 r ∧ 0 ≤ q ∧ q ≤ 255 := by
  unfold sixP at he
  split at he
  · cases he
  · split at he
    · cases he
    · split at he
      · cases he
      · have hL : ((l.take (40 + sizeP l)).drop 40).length = sizeP l := by rw [List.length_drop, List.length_take]; omega
        cases hc : chn 9 [] (l.getD 6 0) ((l.take (40 + sizeP l)).drop 40) with
        | none => rw [hc] at he; cases he
        | some k =>
          obtain ⟨ys', q', r'⟩ := k
          rw [hc] at he
          obtain ⟨rfl, rfl, rfl⟩ : ys' = ys ∧ q' = q ∧ r' = r := by
            have e : (Sum.inr (ys', q', r') : Res) = .inr (ys, q, r) := he
            injection e with e
            injection e with e1 e2
            injection e2 with e2 e3
            exact ⟨e1, e2, e3⟩
          obtain ⟨zs, e1, e2, e3, e4, e5, e6, e7, e8, e9, e10⟩ := chn_sound 9 [] _ _ ((hu.take _).drop _) (hu.get 6) RightE.nil (fun x hx => by cases hx) hc
          refine ⟨by omega, by omega, ?_, e9, e6, e7⟩
          have e : extL zs + r'.length = sizeP l := by rw [← hL, e3, List.length_append, extB_len]
          rw [List.nil_append] at e1
          rw [e1]
          exact e
theorem out6_says (l : List Int) (hu : U8 l) {ys : List XP} {q : Int} {r : List Int} (he : sixP l = .inr (ys, q, r)) (ht : 2 ≤ l.getD 7 0) :
    (out6 l).length = 40 + sizeP l ∧ U8 (out6 l) ∧ (∀ i, i < 40 + sizeP l → i ≠ 7 → (out6 l).getD i 0 = l.getD i 0) ∧ (out6 l).getD 7 0 = l.getD 7 0 - 1 ∧ sixP (out6 l) = .inr (ys, q, r) ∧ (∀ q, (hdOf (out6 l) q).sh = (hdOf l q).sh ∧ (hdOf (out6 l) q).sl = (hdOf l q).sl ∧ (hdOf (out6 l) q).dh = (hdOf l q).dh ∧ (hdOf (out6 l) q).dl = (hdOf l q).dl) := by
  obtain ⟨h6, hlen, _, _, _, _⟩ := six_sizes l hu he
  have k7 := hu.get 7
  obtain ⟨N, hN⟩ : ∃ N, N = 40 + sizeP l := ⟨_, rfl⟩
  have ex : out6 l = (l.take N).set 7 (l.getD 7 0 - 1) := by rw [hN]; rfl
  rw [← hN] at hlen ⊢
  have hL : (l.take N).length = N := by rw [List.length_take]; omega
  have hxl : (out6 l).length = N := by rw [ex, List.length_set, hL]
  have hg : ∀ i, i < N → i ≠ 7 → (out6 l).getD i 0 = l.getD i 0 := fun i hi a => by
    rw [ex, set_get _ _ _ _ (by omega), if_neg a, fourB.getD_take l N i hi]
  have h7 : (out6 l).getD 7 0 = l.getD 7 0 - 1 := by rw [ex, set_get _ _ _ _ (by omega), if_pos rfl]
  have eS : sizeP (out6 l) = sizeP l := by unfold sizeP; rw [hg 4 (by omega) (by omega), hg 5 (by omega) (by omega)]
  have d8 : (out6 l).drop 8 = (l.take N).drop 8 := by rw [ex, set_drop _ _ _ _ (by omega)]
  have d24 : (out6 l).drop 24 = (l.take N).drop 24 := by rw [ex, set_drop _ _ _ _ (by omega)]
  refine ⟨hxl, by rw [ex]; exact set_u8 (hu.take N) 7 _ (by omega) (by omega), hg, h7, ?_, fun q => ?_⟩
  · rw [← he]
    have g0 := hg 0 (by omega) (by omega)
    unfold sixP
    rw [eS, g0, hg 6 (by omega) (by omega), if_neg (show ¬ (out6 l).length < 40 by omega), if_neg (show ¬ l.getD 0 0 / 16 ≠ 6 by omega), if_neg (show ¬ (out6 l).length - 40 < sizeP l by omega), if_neg (show ¬ l.length < 40 by omega), if_neg (show ¬ l.getD 0 0 / 16 ≠ 6 by omega), if_neg (show ¬ l.length - 40 < sizeP l by omega), ex, set_take, set_drop _ _ _ _ (by omega), List.take_take, hN, Nat.min_self]
  · have e := hdOf_take l N (by omega) q
    refine ⟨?_, ?_, ?_, ?_⟩
    · show octB.atN ((out6 l).drop 8) 0 8 = _
      rw [d8]
      exact congrArg Hs.sh e
    · show octB.atN ((out6 l).drop 8) 8 8 = _
      rw [d8]
      exact congrArg Hs.sl e
    · show octB.atN ((out6 l).drop 24) 0 8 = _
      rw [d24]
      exact congrArg Hs.dh e
    · show octB.atN ((out6 l).drop 24) 8 8 = _
      rw [d24]
      exact congrArg Hs.dl e
theorem less6_pk (l : List Int) (hu : U8 l) (hn : l.length ≤ 1000) {ys : List XP} {q : Int} {r : List Int} (he : sixP l = .inr (ys, q, r)) (ht : 2 ≤ l.getD 7 0) : LessP (out6 l) l (l.getD 7 0) := by
  obtain ⟨h6, hlen, _, _, _, _⟩ := six_sizes l hu he
  obtain ⟨a1, a2, a3, a4, a5, a6⟩ := out6_says l hu he ht
  obtain ⟨b1, b2, b3, b4⟩ := a6 q
  have g0 := a3 0 (by omega) (by omega)
  have ex : pkP (out6 l) = p6 (out6 l) := by unfold pkP; rw [if_neg (by omega), if_neg (by omega), g0, if_neg (by omega), if_pos h6]
  have el : pkP l = p6 l := by unfold pkP; rw [if_neg (by omega), if_neg (by omega), if_neg (by omega), if_pos h6]
  unfold LessP
  rw [ex, el]
  unfold p6
  rw [a5, he]
  simp only
  rw [b1, b2, b3, b4, a4]
  by_cases hk : lies ys / 8 ≠ 0 ∨ decide (lies ys % 2 = 1) = true
  · rw [if_pos hk, if_pos hk]
    exact ⟨rfl, fun h => absurd h (by decide)⟩
  · rw [if_neg hk, if_neg hk]
    obtain ⟨c1, c2⟩ := with_ttl true ⟨q, true, (hdOf l q).sh, (hdOf l q).sl, true, (hdOf l q).dh, (hdOf l q).dl, 0, 0⟩ (l.getD 7 0 - 1) (l.getD 7 0) (((40 + extL ys : Nat) : Int) + (r.length : Int)) r
    exact ⟨c1, fun h => c2 (c1.trans h)⟩
end Go.Proofs.Ytodckfgfbcnkoaa.tunV
/- Layer 14: open4, open6 of any bytes. -/
namespace Go.Proofs.Ytodckfgfbcnkoaa.tunC
open Go.ChangeShapes Go.WideShapes Go.ChangeAt Go.RowKit
open Go.Proofs.Ytodckfgfbcnkoaa.base Go.Proofs.Ytodckfgfbcnkoaa.octA Go.Proofs.Ytodckfgfbcnkoaa.rdrA Go.Proofs.Ytodckfgfbcnkoaa.rdrG Go.Proofs.Ytodckfgfbcnkoaa.sixW Go.Proofs.Ytodckfgfbcnkoaa.sixM Go.Proofs.Ytodckfgfbcnkoaa.pktA Go.Proofs.Ytodckfgfbcnkoaa.pktB Go.Proofs.Ytodckfgfbcnkoaa.sixA Go.Proofs.Ytodckfgfbcnkoaa.sixE Go.Proofs.Ytodckfgfbcnkoaa.sixF Go.Proofs.Ytodckfgfbcnkoaa.sixO Go.Proofs.Ytodckfgfbcnkoaa.tunW Go.Proofs.Ytodckfgfbcnkoaa.tunB
set_option linter.unusedVariables false

def SixG (l : List Int) (ys : List XP) (q : Int) (r : List Int) (w : World) (o : Ending) (w' : World) : Prop := Below w.heap.size w w' ∧ ∃ (AX : Option Addr) (nx cx : Nat) (cls lab : Int) (AR : Option Addr) (cr : Nat), o = .returned (.tuple #[.agg #[.int .i64 cls, .int .i64 lab, .int .i64 (l.getD 7 0), .bool true, .int .u64 (hdOf l q).sh, .int .u64 (hdOf l q).sl, .bool true, .int .u64 (hdOf l q).dh, .int .u64 (hdOf l q).dl, .slice AX nx cx, .int .i64 q], .slice AR r.length cr, .int .i64 0]) ∧ Sl w' AR r.length cr r
      ∧ (∀ V2, Below w'.heap.size w' V2 → Calls Try.prog 20 #[.agg #[.int .i64 cls, .int .i64 lab, .int .i64 (l.getD 7 0), .bool true, .int .u64 (hdOf l q).sh, .int .u64 (hdOf l q).sl, .bool true, .int .u64 (hdOf l q).dh, .int .u64 (hdOf l q).dl, .slice AX nx cx, .int .i64 q]] V2 fun o w' => o = .returned (.int .i64 (lies ys / 8)) ∧ Below V2.heap.size V2 w')
      ∧ (∀ V2, Below w'.heap.size w' V2 → Calls Try.prog 33 #[.agg #[.int .i64 cls, .int .i64 lab, .int .i64 (l.getD 7 0), .bool true, .int .u64 (hdOf l q).sh, .int .u64 (hdOf l q).sl, .bool true, .int .u64 (hdOf l q).dh, .int .u64 (hdOf l q).dl, .slice AX nx cx, .int .i64 q]] V2 fun o w' => o = .returned (.int .i64 (40 + extL ys : Nat)) ∧ Below V2.heap.size V2 w')
theorem six_any (A : Option Addr) (n c : Nat) (l : List Int) (w : World) (h : Sl w A n c l) (hn : n ≤ 1000) (hv : l.getD 0 0 / 16 = 6) : Calls Try.prog 19 #[.slice A n c] w (HeadP w l (sixP l)) := by
  have hl := h.len
  by_cases h40 : n < 40
  · exact sixF.parse_short A n c l w hl h40
  obtain ⟨b, off, rfl, hb, hs⟩ := lies_of h.row (by omega)
  exact sixF.parse_ok b off n c l w hl (by omega) (by omega) h.nc h.mx hb hs h.u8 hv
theorem sixP_ne {l : List Int} {e : Int} (h : sixP l = .inl e) : e ≠ 0 := by
  unfold sixP at h
  split at h
  · injection h with h; omega
  · split at h
    · injection h with h; omega
    · split at h
      · injection h with h; omega
      · unfold ofC at h
        split at h
        · injection h with h; omega
        · cases h
theorem six_bad (A : Option Addr) (n c : Nat) (l : List Int) (w : World) (h : Sl w A n c l) (hn : n ≤ 1000) (hv : l.getD 0 0 / 16 = 6) {e : Int} (he : sixP l = .inl e) : Calls Try.prog 19 #[.slice A n c] w fun o w' => o = .returned (.tuple #[.agg #[.int .i64 0, .int .i64 0, .int .i64 0, .bool false, .int .u64 0, .int .u64 0, .bool false, .int .u64 0, .int .u64 0, .slice none 0 0, .int .i64 0], .slice none 0 0, .int .i64 e]) ∧ Below w.heap.size w w' := by
  have h9 := six_any A n c l w h hn hv
  rw [he] at h9
  exact h9.mono fun o w' k => sixS.headP_fail k
theorem six_good (A : Option Addr) (n c : Nat) (l : List Int) (w : World) (h : Sl w A n c l) (hn : n ≤ 1000) (hv : l.getD 0 0 / 16 = 6) {ys : List XP} {q : Int} {r : List Int} (e1 : sixP l = .inr (ys, q, r)) : Calls Try.prog 19 #[.slice A n c] w (SixG l ys q r w) := by
  have hl := h.len
  have h9 := six_any A n c l w h hn hv
  obtain ⟨_, hlen, hsz, hru, q0, q9⟩ := tunV.six_sizes l h.u8 e1
  have hC : chn 9 [] (l.getD 6 0) ((l.take (40 + sizeP l)).drop 40) = some (ys, q, r) := by
    have e := e1
    unfold sixP at e
    rw [if_neg (by omega), if_neg (by omega), if_neg (by omega)] at e
    unfold ofC at e
    split at e
    · cases e
    · rename_i k
      injection e with e
      rw [k, e]
  obtain ⟨g1, g2, g3, g4, g5⟩ := sixT.put_back l h.u8 (by omega) hv (by omega) hC
  rw [e1] at h9
  refine h9.mono fun o w' k => ?_
  obtain ⟨hb9, L, A9, c9, B9, d9, k1, k2, k3, k4⟩ := sixS.headP_good k
  have hU : ∀ x ∈ L, U8 x.d := fun x hx => g3 x.re (by rw [← k2]; exact List.mem_map_of_mem hx)
  have hLn : L.length = ys.length := by rw [← k2, List.length_map]
  have h8 := g2.e.most
  have hd7 : ∀ x ∈ L, x.d.length ≤ 2047 := fun x hx => sixU.le2047 g2.e x.re (by rw [← k2]; exact List.mem_map_of_mem hx)
  refine ⟨hb9, A9, ys.length, c9, _, _, B9, d9, k1, Sl.own k4 rfl g4, fun V2 hV2 => ?_, fun V2 hV2 => ?_⟩
  · have h7 := sixA.frag_any (hdOf l q) A9 ys.length c9 L V2 hLn ((k3.below hV2).rd hU) (by omega)
    rw [k2] at h7
    exact h7
  · have h7 := sixO.len_any (hdOf l q) A9 ys.length c9 L V2 hLn ((k3.below hV2).rd hU) (by omega) hd7
    rw [k2] at h7
    exact h7
theorem open4_any (A : Option Addr) (n c : Nat) (l : List Int) (w : World) (h : Sl w A n c l) (hn : n ≤ 1000) : Calls Try.prog 39 #[.slice A n c] w (OpnP (rd4 l) w) := by
  have HF := fun V (hV : Below w.heap.size w V) => four_any A n c l V (h.below hV) hn
  unfold rd4
  by_cases he : fourE l = 0
  · rw [if_neg (by omega)]
    have HG : ∀ V, Below w.heap.size w V → Calls Try.prog 21 #[.slice A n c] V fun o w' => Below V.heap.size V w' ∧ (20 ≤ fourS l ∧ fourS l ≤ 60 ∧ (fourR l).length ≤ l.length ∧ ∃ (tos id : Int) (df : Bool) (AO : Option Addr) (co : Nat) (AR : Option Addr) (cr : Nat), o = .returned (.tuple #[.agg #[.int .i64 tos, .int .i64 id, .bool df, .bool (decide (udpA.w16 l 6 / 8192 % 2 = 1)), .int .i64 (udpA.w16 l 6 % 8192), .int .i64 (l.getD 8 0), .int .i64 (l.getD 9 0), .bool false, .int .u64 0, .int .u64 (tcpC.w32 l 12), .bool false, .int .u64 0, .int .u64 (tcpC.w32 l 16), .slice AO (fourS l - 20) co], .slice AR (fourR l).length cr, .int .i64 0]) ∧ Sl w' AR (fourR l).length cr (fourR l)) := fun V hV => (HF V hV).mono fun o w' k => by
      obtain ⟨hb, k⟩ := k
      rcases k with ⟨k1, _⟩ | ⟨_, k2⟩
      · exact absurd he k1
      · exact ⟨hb, k2⟩
    have key : ∀ (mf : Bool) (fr : Int), decide (udpA.w16 l 6 / 8192 % 2 = 1) = mf → udpA.w16 l 6 % 8192 = fr → Calls Try.prog 39 #[.slice A n c] w (OpnP ⟨fourR l, false, 0, tcpC.w32 l 12, false, 0, tcpC.w32 l 16, l.getD 9 0, if fr ≠ 0 ∨ mf = true then 21 else 0⟩ w) := by
      intro mf fr hm hf
      rw [hm, hf] at HG
      by_cases h0 : fr = 0
      · subst h0
        cases mf with
        | true =>
          rw [if_pos (.inr rfl)]
          exact open4_m A n c _ _ _ _ _ _ _ _ w (Lib.hid fun V hV => (HG V hV).mono fun o w' k => by
            obtain ⟨hb, _, _, _, tos, id, df, AO, co, AR, cr, e, hs⟩ := k
            exact ⟨hb, tos, id, df, _, AO, _, co, AR, cr, e, hs⟩)
        | false =>
          rw [if_neg (by simp)]
          exact open4_g A n c _ _ _ _ _ _ _ _ w (Lib.hid fun V hV => (HG V hV).mono fun o w' k => by
            obtain ⟨hb, _, _, _, tos, id, df, AO, co, AR, cr, e, hs⟩ := k
            exact ⟨hb, tos, id, df, _, AO, _, co, AR, cr, e, hs⟩)
      · rw [if_pos (.inl h0)]
        exact open4_f A n c mf fr _ _ _ _ _ _ _ _ h0 w (Lib.hid fun V hV => (HG V hV).mono fun o w' k => by
          obtain ⟨hb, _, _, _, tos, id, df, AO, co, AR, cr, e, hs⟩ := k
          exact ⟨hb, tos, id, df, _, AO, _, co, AR, cr, e, hs⟩)
    exact key _ _ rfl rfl
  · rw [if_pos he]
    exact open4_e A n c false 0 0 (fourE l) false 0 0 false 0 0 [] he w (Lib.hid fun V hV => (HF V hV).mono fun o w' k => by
      obtain ⟨hb, k⟩ := k
      rcases k with ⟨_, k2⟩ | ⟨k1, _⟩
      · exact ⟨hb, 0, 0, false, 0, none, 0, 0, none, 0, k2, Sl.none_ w'⟩
      · exact absurd k1 he)
theorem open6_any (A : Option Addr) (n c : Nat) (l : List Int) (w : World) (h : Sl w A n c l) (hn : n ≤ 1000) (hv : l.getD 0 0 / 16 = 6) : Calls Try.prog 40 #[.slice A n c] w (OpnP (rd6 l) w) := by
  unfold rd6
  cases hc : sixP l with
  | inl e =>
    simp only
    exact open6_e A n c 0 e false 0 0 false 0 0 [] (sixP_ne hc) w (Lib.hid fun V hV => (six_bad A n c l V (h.below hV) hn hv hc).mono fun o w' k => ⟨k.2, 0, 0, 0, none, 0, 0, none, 0, k.1, Sl.none_ w'⟩)
  | inr k =>
    obtain ⟨ys, q, r⟩ := k
    simp only
    have HG := fun V (hV : Below w.heap.size w V) => six_good A n c l V (h.below hV) hn hv hc
    have key : ∀ fr : Int, lies ys / 8 = fr → Calls Try.prog 40 #[.slice A n c] w (OpnP ⟨r, true, (hdOf l q).sh, (hdOf l q).sl, true, (hdOf l q).dh, (hdOf l q).dl, q, if fr ≠ 0 then 21 else 0⟩ w) := by
      intro fr hf
      by_cases h0 : fr = 0
      · subst h0
        rw [if_neg (by omega)]
        exact open6_g A n c q true _ _ true _ _ r w (Lib.hid fun V hV => (HG V hV).mono fun o w' k => by
          obtain ⟨hb, AX, nx, cx, cls, lab, AR, cr, e, hs, hfr, _⟩ := k
          rw [hf] at hfr
          exact ⟨hb, cls, lab, _, AX, nx, cx, AR, cr, e, hs, hfr⟩)
      · rw [if_pos h0]
        exact open6_f A n c fr q true _ _ true _ _ r h0 w (Lib.hid fun V hV => (HG V hV).mono fun o w' k => by
          obtain ⟨hb, AX, nx, cx, cls, lab, AR, cr, e, hs, hfr, _⟩ := k
          rw [hf] at hfr
          exact ⟨hb, cls, lab, _, AX, nx, cx, AR, cr, e, hs, hfr⟩)
    exact key _ rfl
end Go.Proofs.Ytodckfgfbcnkoaa.tunC
