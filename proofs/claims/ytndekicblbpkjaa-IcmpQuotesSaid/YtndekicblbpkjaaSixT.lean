/- Layer 9: what is parsed, put again. -/
import Derived.Test.YtndekicblbpkjaaSixS
namespace Go.Proofs.Ytndekicblbpkjaa.sixT
open Go.ChangeShapes Go.WideShapes Go.ChangeAt Go.RowKit
open Go.Proofs.Ytndekicblbpkjaa.base Go.Proofs.Ytndekicblbpkjaa.octA Go.Proofs.Ytndekicblbpkjaa.octB Go.Proofs.Ytndekicblbpkjaa.octC Go.Proofs.Ytndekicblbpkjaa.octF Go.Proofs.Ytndekicblbpkjaa.octK Go.Proofs.Ytndekicblbpkjaa.net Go.Proofs.Ytndekicblbpkjaa.rdrA Go.Proofs.Ytndekicblbpkjaa.rdrG Go.Proofs.Ytndekicblbpkjaa.sumA Go.Proofs.Ytndekicblbpkjaa.sumB Go.Proofs.Ytndekicblbpkjaa.udpA Go.Proofs.Ytndekicblbpkjaa.tcpC Go.Proofs.Ytndekicblbpkjaa.sixW Go.Proofs.Ytndekicblbpkjaa.sixM Go.Proofs.Ytndekicblbpkjaa.snK Go.Proofs.Ytndekicblbpkjaa.sixA Go.Proofs.Ytndekicblbpkjaa.sixB Go.Proofs.Ytndekicblbpkjaa.sixC Go.Proofs.Ytndekicblbpkjaa.sixD Go.Proofs.Ytndekicblbpkjaa.sixE Go.Proofs.Ytndekicblbpkjaa.sixF Go.Proofs.Ytndekicblbpkjaa.sixG Go.Proofs.Ytndekicblbpkjaa.sixH Go.Proofs.Ytndekicblbpkjaa.sixI Go.Proofs.Ytndekicblbpkjaa.sixK Go.Proofs.Ytndekicblbpkjaa.sixL Go.Proofs.Ytndekicblbpkjaa.sixN Go.Proofs.Ytndekicblbpkjaa.sixO Go.Proofs.Ytndekicblbpkjaa.sixQ Go.Proofs.Ytndekicblbpkjaa.sixR Go.Proofs.Ytndekicblbpkjaa.sixS
set_option linter.unusedVariables false

theorem byteZ_snoc (a x : Int) (i : Nat) (h0 : 0 ≤ x) (h1 : x ≤ 255) : byteZ (a * 256 + x) (i + 1) = byteZ a i := by
  unfold byteZ
  have e : (2 : Int) ^ (8 * (i + 1)) = 256 * 2 ^ (8 * i) := by
    rw [show 8 * (i + 1) = 8 + 8 * i by omega, Int.pow_add]
    rfl
  have k : (a * 256 + x) / 256 = a := by omega
  have d := @Int.ediv_ediv (a * 256 + x) 256 (2 ^ (8 * i))
  rw [if_neg (by omega), Int.sub_zero] at d
  rw [e, ← d, k]
theorem byteZ_last (a x : Int) (h0 : 0 ≤ x) (h1 : x ≤ 255) : byteZ (a * 256 + x) 0 = x := by
  unfold byteZ
  show (a * 256 + x) / 1 % 256 = x
  omega
theorem atN_byte (l : List Int) (hu : U8 l) : ∀ (k : Nat) (t : Nat), t < k → byteZ (atN l 0 k) (k - 1 - t) = l.getD t 0
  | 0, t, h => by omega
  | k + 1, t, h => by
    have hx := hu.get k
    show byteZ (atN l 0 k * 256 + l.getD (0 + k) 0) (k + 1 - 1 - t) = _
    rw [Nat.zero_add]
    rcases Nat.lt_or_ge t k with h1 | h1
    · rw [show k + 1 - 1 - t = (k - 1 - t) + 1 by omega, byteZ_snoc _ _ _ hx.1 hx.2]
      exact atN_byte l hu k t h1
    · obtain rfl : t = k := by omega
      rw [show t + 1 - 1 - t = 0 by omega]
      exact byteZ_last _ _ hx.1 hx.2
theorem atN_pb (l : List Int) (hu : U8 l) (k : Nat) (hk : k ≤ l.length) : pb (atN l 0 k) k k = l.take k := by
  refine List.ext_getElem (by rw [pb_len, List.length_take]; omega) fun i h1 h2 => ?_
  rw [pb_len] at h1
  have := atN_byte l hu k i h1
  rw [List.getD_eq_getElem?_getD, List.getElem?_eq_getElem (by omega)] at this
  simp only [pb, List.getElem_map, List.getElem_range, List.getElem_take]
  exact this
theorem atN_drop (l : List Int) (f : Nat) : ∀ k, atN l f k = atN (l.drop f) 0 k
  | 0 => rfl
  | k + 1 => by
    show atN l f k * 256 + l.getD (f + k) 0 = atN (l.drop f) 0 k * 256 + (l.drop f).getD (0 + k) 0
    rw [atN_drop l f k, Nat.zero_add, List.getD_eq_getElem?_getD, List.getD_eq_getElem?_getD, List.getElem?_drop]
theorem atN_in (l : List Int) (hu : U8 l) (f : Nat) : ∀ k, 0 ≤ atN l f k ∧ atN l f k < 256 ^ k
  | 0 => ⟨Int.le_refl _, by show (0 : Int) < 1; omega⟩
  | k + 1 => by
    obtain ⟨h1, h2⟩ := atN_in l hu f k
    have hx := hu.get (f + k)
    show 0 ≤ atN l f k * 256 + l.getD (f + k) 0 ∧ atN l f k * 256 + l.getD (f + k) 0 < 256 ^ (k + 1)
    rw [Int.pow_succ]
    omega
theorem atN_in8 (l : List Int) (hu : U8 l) (f : Nat) : 0 ≤ atN l f 8 ∧ atN l f 8 < 18446744073709551616 := atN_in l hu f 8
theorem first_eq (x0 x1 x2 x3 : Int) (h0 : 0 ≤ x0 ∧ x0 ≤ 255) (h1 : 0 ≤ x1 ∧ x1 ≤ 255) (h2 : 0 ≤ x2 ∧ x2 ≤ 255) (h3 : 0 ≤ x3 ∧ x3 ≤ 255) (hv : x0 / 16 = 6) (W : Int) (hW : W = (x0 * 256 + x1) * 65536 + (x2 * 256 + x3)) :
    96 + W / 1048576 % 256 / 16 = x0 ∧ W / 1048576 % 256 % 16 * 16 + W % 1048576 / 65536 = x1 ∧ W % 1048576 / 256 % 256 = x2 ∧ W % 1048576 % 256 = x3 := by
  have e1 : W / 1048576 % 256 = x0 % 16 * 16 + x1 / 16 := by omega
  have e2 : W % 1048576 = x1 % 16 * 65536 + x2 * 256 + x3 := by omega
  rw [e1, e2]
  clear e1 e2 hW
  refine ⟨by omega, by omega, by omega, by omega⟩
theorem eight (l : List Int) (h : 8 ≤ l.length) : l.take 8 = [l.getD 0 0, l.getD 1 0, l.getD 2 0, l.getD 3 0, l.getD 4 0, l.getD 5 0, l.getD 6 0, l.getD 7 0] := by
  match l, h with
  | a :: b :: c :: d :: e :: f :: g :: i :: t, _ => rfl
theorem forty (l : List Int) (h : 40 ≤ l.length) : l.take 40 = l.take 8 ++ (((l.drop 8).drop 0).take 8 ++ ((l.drop 8).drop 8).take 8) ++ (((l.drop 24).drop 0).take 8 ++ ((l.drop 24).drop 8).take 8) := by
  have t1 : l.take (8 + 32) = l.take 8 ++ (l.drop 8).take 32 := List.take_add
  have t2 : (l.drop 8).take (8 + 24) = (l.drop 8).take 8 ++ ((l.drop 8).drop 8).take 24 := List.take_add
  have t3 : ((l.drop 8).drop 8).take (8 + 16) = ((l.drop 8).drop 8).take 8 ++ (((l.drop 8).drop 8).drop 8).take 16 := List.take_add
  have t4 : (l.drop 24).take (8 + 8) = (l.drop 24).take 8 ++ ((l.drop 24).drop 8).take 8 := List.take_add
  have d : ((l.drop 8).drop 8).drop 8 = l.drop 24 := by simp only [List.drop_drop]
  rw [d] at t3
  rw [List.drop_zero, List.drop_zero]
  refine t1.trans ?_
  rw [show 32 = 8 + 24 from rfl, t2, show 24 = 8 + 16 from rfl, t3]
  rw [show 16 = 8 + 8 from rfl]
  show l.take 8 ++ ((l.drop 8).take 8 ++ (((l.drop 8).drop 8).take 8 ++ (l.drop 24).take (8 + 8))) = _
  rw [t4]
  simp only [List.append_assoc]
/-- What is parsed, put again. -/
theorem put_back (l : List Int) (hu : U8 l) (hn : 40 ≤ l.length) (hv : l.getD 0 0 / 16 = 6) (hs : sizeP l ≤ l.length - 40) {ys : List XP} {q : Int} {r : List Int} (hc : chn 9 [] (l.getD 6 0) ((l.take (40 + sizeP l)).drop 40) = some (ys, q, r)) :
    sixB (hdOf l q) ys r = l.take (40 + sizeP l) ∧ RightH (hdOf l q) ys ∧ (∀ x ∈ ys, U8 x.2) ∧ U8 r ∧ r.length ≤ l.length := by
  have hut : U8 ((l.take (40 + sizeP l)).drop 40) := (hu.take _).drop _
  obtain ⟨zs, h1, h2, h3, h4, h5, h6, h7, h8, h9, h10⟩ := chn_sound 9 [] _ _ hut (hu.get 6) RightE.nil (fun x hx => by cases hx) hc
  rw [List.nil_append] at h1
  subst h1
  have x0 := hu.get 0; have x1 := hu.get 1; have x2 := hu.get 2; have x3 := hu.get 3; have x4 := hu.get 4; have x5 := hu.get 5; have x7 := hu.get 7
  have hw : w32 l 0 = (l.getD 0 0 * 256 + l.getD 1 0) * 65536 + (l.getD 2 0 * 256 + l.getD 3 0) := rfl
  obtain ⟨f0, f1, f2, f3⟩ := first_eq _ _ _ _ x0 x1 x2 x3 hv _ hw
  have hsz : ((sizeP l : Nat) : Int) = 256 * l.getD 4 0 + l.getD 5 0 := by unfold sizeP; omega
  have hlen : extL ys + r.length = sizeP l := by
    have := congrArg List.length h3
    rw [List.length_append, extB_len, List.length_drop, List.length_take] at this
    omega
  have hp := h10
  rw [List.length_drop, List.length_take] at hp
  refine ⟨?_, ⟨?_, ?_, x7.1, x7.2, ?_, ?_, rfl, rfl, h6, h7, h5, h4⟩, h8, h9, by omega⟩
  · show hdB (hdOf l q) (nextK ys q) (extL ys + r.length) ++ (extB ys q ++ r) = _
    have e40 : hdB (hdOf l q) (nextK ys q) (extL ys + r.length) = l.take 40 := by
      rw [hlen, h2, forty l hn, eight l (by omega)]
      show [96 + w32 l 0 / 1048576 % 256 / 16, w32 l 0 / 1048576 % 256 % 16 * 16 + w32 l 0 % 1048576 / 65536, w32 l 0 % 1048576 / 256 % 256, w32 l 0 % 1048576 % 256, ((sizeP l : Nat) : Int) / 256 % 256, ((sizeP l : Nat) : Int) % 256, l.getD 6 0, l.getD 7 0] ++ (pb (atN (l.drop 8) 0 8) 8 8 ++ pb (atN (l.drop 8) 8 8) 8 8) ++ (pb (atN (l.drop 24) 0 8) 8 8 ++ pb (atN (l.drop 24) 8 8) 8 8) = _
      have g4 : ((sizeP l : Nat) : Int) / 256 % 256 = l.getD 4 0 := by omega
      have g5 : ((sizeP l : Nat) : Int) % 256 = l.getD 5 0 := by omega
      rw [f0, f1, f2, f3, g4, g5, atN_drop (l.drop 8) 0, atN_drop (l.drop 8) 8, atN_drop (l.drop 24) 0, atN_drop (l.drop 24) 8]
      rw [atN_pb _ ((hu.drop 8).drop 0) 8 (by simp only [List.length_drop]; omega), atN_pb _ ((hu.drop 8).drop 8) 8 (by simp only [List.length_drop]; omega), atN_pb _ ((hu.drop 24).drop 0) 8 (by simp only [List.length_drop]; omega), atN_pb _ ((hu.drop 24).drop 8) 8 (by simp only [List.length_drop]; omega)]
    rw [e40, ← h3]
    have := List.take_append_drop 40 (l.take (40 + sizeP l))
    rw [List.take_take, Nat.min_eq_left (by omega)] at this
    exact this
  · show 0 ≤ w32 l 0 / 1048576 % 256; omega
  · show w32 l 0 / 1048576 % 256 ≤ 255; omega
  · show 0 ≤ w32 l 0 % 1048576; omega
  · show w32 l 0 % 1048576 ≤ 1048575; omega
theorem slice_two (b off n c s t : Nat) (si ti : Int) (hsi : si = (s : Int)) (hti : ti = (t : Int)) (hst : s ≤ t) (htn : t ≤ n) (hnc : n ≤ c) : ∃ AX : Option Addr,
    (∀ W : World, (Instr.slice 22 (.slice (some ⟨b, off, none⟩) n c) (some (.int .i64 si)) (some (.int .i64 ti)) none).run Try.prog W = .ok (.slice AX (t - s) (c - s)) W) ∧
    (∀ W : World, (Instr.sliceAt 22 (.slice (some ⟨b, off, none⟩) n c) (some (.int .i64 si)) (some (.int .i64 ti)) none).run Try.prog W = .ok (.slice AX (t - s) (c - s)) W) ∧ AX ≠ none ∧
    ∀ (w : World) (B : Nat) (l : List Int), b < B → l.length = n → Lies w b off l → Row w B AX (((l.take t).drop s).map (.int .u8)) := by
  subst hsi hti
  have hu : Try.prog.underlying 22 = some (.slice (Try.prog.elem 22)) := by kernel_rfl
  have hz : ∀ W : World, (sizeOf (Try.prog.elem 22)).run Try.prog W = .ok 1 W := fun _ => by kernel_rfl
  have key : ∀ W : World, (Instr.slice 22 (.slice (some ⟨b, off, none⟩) n c) (some (.int .i64 (s : Int))) (some (.int .i64 (t : Int))) none).run Try.prog W = .ok (.slice (if c = s then some ⟨b, off, none⟩ else some ⟨b, off + s, none⟩) (t - s) (c - s)) W := by
    intro W
    rw [run_slice_lh W 22 (some ⟨b, off, none⟩) n c hu .i64 .i64 (s : Int) (t : Int) (by omega) (by omega) (by omega), hz]
    simp only [Result.andThen, sliced, Int.toNat_natCast, Nat.mul_one, Option.map_some, Addr.add_lit]
  refine ⟨if c = s then some ⟨b, off, none⟩ else some ⟨b, off + s, none⟩, key, fun W => ?_, by split <;> (intro h; cases h), ?_⟩
  · rw [run_sliceAt_slice W 22 _ _ _ _ hu, key]
  · intro w B l hb hl hL
    by_cases e : c = s
    · have : (l.take t).drop s = [] := List.drop_eq_nil_of_le (by rw [List.length_take]; omega)
      rw [this]
      exact .inl rfl
    · rw [if_neg e]
      exact ((hL.take t).drop s).row hb
end Go.Proofs.Ytndekicblbpkjaa.sixT
