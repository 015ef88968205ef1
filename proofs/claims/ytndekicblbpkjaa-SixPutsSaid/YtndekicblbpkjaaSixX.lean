/- Layer 9: SixParses. -/
import Derived.Test.YtndekicblbpkjaaSixU
import Derived.Test.YtndekicblbpkjaaSixV
namespace Go.Proofs.Ytndekicblbpkjaa.sixX
open Go.ChangeShapes Go.WideShapes Go.ChangeAt Go.RowKit
open Go.Proofs.Ytndekicblbpkjaa.base Go.Proofs.Ytndekicblbpkjaa.octA Go.Proofs.Ytndekicblbpkjaa.octB Go.Proofs.Ytndekicblbpkjaa.octC Go.Proofs.Ytndekicblbpkjaa.octF Go.Proofs.Ytndekicblbpkjaa.octK Go.Proofs.Ytndekicblbpkjaa.net Go.Proofs.Ytndekicblbpkjaa.rdrA Go.Proofs.Ytndekicblbpkjaa.rdrG Go.Proofs.Ytndekicblbpkjaa.sumA Go.Proofs.Ytndekicblbpkjaa.sumB Go.Proofs.Ytndekicblbpkjaa.udpA Go.Proofs.Ytndekicblbpkjaa.tcpC Go.Proofs.Ytndekicblbpkjaa.sixW Go.Proofs.Ytndekicblbpkjaa.sixM Go.Proofs.Ytndekicblbpkjaa.snK Go.Proofs.Ytndekicblbpkjaa.sixA Go.Proofs.Ytndekicblbpkjaa.sixB Go.Proofs.Ytndekicblbpkjaa.sixC Go.Proofs.Ytndekicblbpkjaa.sixD Go.Proofs.Ytndekicblbpkjaa.sixE Go.Proofs.Ytndekicblbpkjaa.sixF Go.Proofs.Ytndekicblbpkjaa.sixG Go.Proofs.Ytndekicblbpkjaa.sixH Go.Proofs.Ytndekicblbpkjaa.sixI Go.Proofs.Ytndekicblbpkjaa.sixK Go.Proofs.Ytndekicblbpkjaa.sixL Go.Proofs.Ytndekicblbpkjaa.sixN Go.Proofs.Ytndekicblbpkjaa.sixO Go.Proofs.Ytndekicblbpkjaa.sixQ Go.Proofs.Ytndekicblbpkjaa.sixR Go.Proofs.Ytndekicblbpkjaa.sixS Go.Proofs.Ytndekicblbpkjaa.sixT Go.Proofs.Ytndekicblbpkjaa.sixU Go.Proofs.Ytndekicblbpkjaa.sixV
set_option linter.unusedVariables false

theorem cut_hid {A : Option Addr} {n0 c0 : Nat} {w : World} {l0 : List Int} {B : Nat} (hl0 : l0.length = n0) (hr : Row w B A (l0.map (.int .u8))) (hnc : n0 ≤ c0) (hc : c0 ≤ 9223372036854775807) : Hid (∀ W, Calls Try.prog 10 #[.slice A n0 c0] W fun o w' => o = .returned (.slice A (min n0 500) c0) ∧ W = w') :=
  Lib.hid fun W => cut_any A n0 c0 W (fun h => by
    obtain ⟨b, off, hA, _, _⟩ := lies_of hr (by omega)
    exact ⟨b, off, hA⟩) hnc hc
theorem parses_any (A : Option Addr) (n0 c0 : Nat) (l0 : List Int) (w : World) (hl0 : l0.length = n0) (hr0 : Row w w.heap.size A (l0.map (.int .u8))) (hu0 : U8 l0) (hnc0 : n0 ≤ c0) (hc : c0 ≤ 9223372036854775807) (hnil : A = none → c0 = 0) :
    Calls Try.prog 3 #[.slice A n0 c0] w fun o w' => o = .returned (.bool true) ∧ Below w.heap.size w w' := by
  have HC := cut_hid hl0 hr0 hnc0 hc
  obtain ⟨n, hn⟩ : ∃ n, n = min n0 500 := ⟨_, rfl⟩
  obtain ⟨l, hll⟩ : ∃ l, l = l0.take n := ⟨_, rfl⟩
  have hl : l.length = n := by rw [hll, List.length_take]; omega
  have hu : U8 l := by rw [hll]; exact hu0.take n
  have hr : Row w w.heap.size A (l.map (.int .u8)) := by
    have := hr0.take n
    rw [← List.map_take, ← hll] at this
    exact this
  have hnc : n ≤ c0 := by omega
  rw [← hn] at HC
  clear hll hl0 hr0 hu0
  by_cases h40 : n < 40
  · have e1 : sixP l = .inl 2 := by unfold sixP; rw [if_pos (by omega)]
    have e2 : sixQ l = .inl 2 := by unfold sixQ; rw [if_pos (by omega)]
    exact law_short A n0 n c0 w (by omega) h40 HC (Lib.hid fun W hW => by
      have h9 := parse_short A n c0 l W hl h40
      rw [e1] at h9
      exact h9.mono fun o w' h => headP_fail h) (Lib.hid fun W hW => by
      have h9 := quote_short A n c0 l W hl h40
      rw [e2] at h9
      exact h9.mono fun o w' h => headP_fail h)
  have hn : 40 ≤ n := by omega
  obtain ⟨b, off, rfl, hb, hs⟩ := lies_of hr (by omega)
  have hbW : ∀ W : World, Below w.heap.size w W → b < W.heap.size := fun W hW => Nat.lt_of_lt_of_le hb hW.size
  by_cases hv : l.getD 0 0 / 16 = 6
  · obtain ⟨AX, a1, a2, a3, a4⟩ := slice_fr b off n c0 40 40 rfl hn hnc
    have HS1 := Lib.hid (And.intro a1 a2)
    have HC1 := Lib.hid (show ∀ W, Below w.heap.size w W → Calls Try.prog 15 #[.int .i64 (l.getD 6 0), .slice AX (n - 40) (c0 - 40)] W (ChnP W (chn 9 [] (l.getD 6 0) (l.drop 40))) from fun W hW => chain_any (l.getD 6 0) AX (n - 40) (c0 - 40) (l.drop 40) W (hu.get 6) (by rw [List.length_drop, hl]) (a4 W W.heap.size l (hbW W hW) hl (hs.below hW hb)) (hu.drop 40) (by omega) (by omega) (by omega) (fun h => absurd h a3))
    have HP := Lib.hid (show ∀ W, Below w.heap.size w W → Calls Try.prog 11 #[.slice (some ⟨b, off, none⟩) n c0] W (HeadP W l (sixP l)) from fun W hW => parse_ok b off n c0 l W hl hn (by omega) hnc hc (hbW W hW) (hs.below hW hb) hu hv)
    have HQ := Lib.hid (show ∀ W, Below w.heap.size w W → Calls Try.prog 12 #[.slice (some ⟨b, off, none⟩) n c0] W (HeadP W l (ofC (chn 9 [] (l.getD 6 0) (l.drop 40)))) from fun W hW => by
      have h9 := quote_ok b off n c0 l W hl hn (by omega) hnc hc (hbW W hW) (hs.below hW hb) hu hv
      have e : sixQ l = ofC (chn 9 [] (l.getD 6 0) (l.drop 40)) := by unfold sixQ; rw [if_neg (by omega), if_neg (by omega)]
      rw [e] at h9
      exact h9)
    by_cases hz : n - 40 < sizeP l
    · have EP : sixP l = .inl 12 := by unfold sixP; rw [if_neg (by omega), if_neg (by omega), if_pos (by omega)]
      rcases E1 : chn 9 [] (l.getD 6 0) (l.drop 40) with _ | ⟨yq, qq, rq⟩
      · exact law_n_len b off n0 n c0 AX l w (by omega) hn hnc hc hb hs hu hl hv (by omega) HC (Lib.hid fun W hW => by
                have h9 := HP.out W hW
                rw [EP] at h9
                exact h9.mono fun o w' h => headP_fail h) (Lib.hid fun W hW => by
                have h9 := HQ.out W hW
                rw [E1] at h9
                exact h9.mono fun o w' h => quoP h) (Lib.hid fun W hW => by
                have h9 := HC1.out W hW
                rw [E1] at h9
                exact h9) HS1
      · exact law_y_len b off n0 n c0 AX l yq qq rq w (by omega) hn hnc hc hb hs hu hl hv (by omega) HC (Lib.hid fun W hW => by
                have h9 := HP.out W hW
                rw [EP] at h9
                exact h9.mono fun o w' h => headP_fail h) (Lib.hid fun W hW => by
                have h9 := HQ.out W hW
                rw [E1] at h9
                exact h9.mono fun o w' h => quoP h) (Lib.hid fun W hW => by
                have h9 := HC1.out W hW
                rw [E1] at h9
                exact h9) HS1
    · have EP : sixP l = ofC (chn 9 [] (l.getD 6 0) ((l.take (40 + sizeP l)).drop 40)) := by unfold sixP; rw [if_neg (by omega), if_neg (by omega), if_neg (by omega)]
      obtain ⟨AY, b1, b2, b3, b4⟩ := slice_two b off n c0 40 (40 + sizeP l) 40 (40 + (sizeP l : Int)) rfl (by omega) (by omega) (by omega) hnc
      rw [show 40 + sizeP l - 40 = sizeP l by omega] at b1 b2
      have HS2 := Lib.hid (And.intro b1 b2)
      have HC2 := Lib.hid (show ∀ W, Below w.heap.size w W → Calls Try.prog 15 #[.int .i64 (l.getD 6 0), .slice AY (sizeP l) (c0 - 40)] W (ChnP W (chn 9 [] (l.getD 6 0) ((l.take (40 + sizeP l)).drop 40))) from fun W hW => chain_any (l.getD 6 0) AY (sizeP l) (c0 - 40) ((l.take (40 + sizeP l)).drop 40) W (hu.get 6) (by rw [List.length_drop, List.length_take, hl]; omega) (b4 W W.heap.size l (hbW W hW) hl (hs.below hW hb)) ((hu.take _).drop 40) (by omega) (by omega) (by omega) (fun h => absurd h b3))
      rcases E2 : chn 9 [] (l.getD 6 0) ((l.take (40 + sizeP l)).drop 40) with _ | ⟨ys, q, r⟩
      · rcases E1 : chn 9 [] (l.getD 6 0) (l.drop 40) with _ | ⟨yq, qq, rq⟩
        · exact law_n_hdr b off n0 n c0 AX AY l w (by omega) hn hnc hc hb hs hu hl hv (by omega) HC (Lib.hid fun W hW => by
                  have h9 := HP.out W hW
                  rw [EP, E2] at h9
                  exact h9.mono fun o w' h => headP_fail h) (Lib.hid fun W hW => by
                  have h9 := HQ.out W hW
                  rw [E1] at h9
                  exact h9.mono fun o w' h => quoP h) (Lib.hid fun W hW => by
                  have h9 := HC1.out W hW
                  rw [E1] at h9
                  exact h9) HS1 (Lib.hid fun W hW => by
                  have h9 := HC2.out W hW
                  rw [E2] at h9
                  exact h9) HS2
        · exact law_y_hdr b off n0 n c0 AX AY l yq qq rq w (by omega) hn hnc hc hb hs hu hl hv (by omega) HC (Lib.hid fun W hW => by
                  have h9 := HP.out W hW
                  rw [EP, E2] at h9
                  exact h9.mono fun o w' h => headP_fail h) (Lib.hid fun W hW => by
                  have h9 := HQ.out W hW
                  rw [E1] at h9
                  exact h9.mono fun o w' h => quoP h) (Lib.hid fun W hW => by
                  have h9 := HC1.out W hW
                  rw [E1] at h9
                  exact h9) HS1 (Lib.hid fun W hW => by
                  have h9 := HC2.out W hW
                  rw [E2] at h9
                  exact h9) HS2
      · rcases E1 : chn 9 [] (l.getD 6 0) (l.drop 40) with _ | ⟨yq, qq, rq⟩
        · exact law_n_ok b off n0 n c0 AX AY l ys q r w (by omega) hn hnc hc hb hs hu hl hv (by omega) HC (Lib.hid fun W hW => by
                  have h9 := HP.out W hW
                  rw [EP, E2] at h9
                  exact h9.mono fun o w' h => headP_good h) (Lib.hid fun W hW => by
                  have h9 := HQ.out W hW
                  rw [E1] at h9
                  exact h9.mono fun o w' h => quoP h) (Lib.hid fun W hW => by
                  have h9 := HC1.out W hW
                  rw [E1] at h9
                  exact h9) HS1 (Lib.hid fun W hW => by
                  have h9 := HC2.out W hW
                  rw [E2] at h9
                  exact h9) HS2 (Lib.hid (put_back l hu (by omega) hv (by omega) E2))
        · exact law_y_ok b off n0 n c0 AX AY l yq qq rq ys q r w (by omega) hn hnc hc hb hs hu hl hv (by omega) HC (Lib.hid fun W hW => by
                  have h9 := HP.out W hW
                  rw [EP, E2] at h9
                  exact h9.mono fun o w' h => headP_good h) (Lib.hid fun W hW => by
                  have h9 := HQ.out W hW
                  rw [E1] at h9
                  exact h9.mono fun o w' h => quoP h) (Lib.hid fun W hW => by
                  have h9 := HC1.out W hW
                  rw [E1] at h9
                  exact h9) HS1 (Lib.hid fun W hW => by
                  have h9 := HC2.out W hW
                  rw [E2] at h9
                  exact h9) HS2 (Lib.hid (put_back l hu (by omega) hv (by omega) E2))
  · have e1 : sixP l = .inl 10 := by unfold sixP; rw [if_neg (by omega), if_pos hv]
    have e2 : sixQ l = .inl 10 := by unfold sixQ; rw [if_neg (by omega), if_pos hv]
    exact law_vers _ n0 n c0 w (by omega) b off (l.getD 0 0) rfl hn hb (hs 0 (by omega)) (hu.get 0) hv HC (Lib.hid fun W hW => by
      have h9 := parse_vers b off n c0 l W hl hn (hbW W hW) (hs.below hW hb) hu hv
      rw [e1] at h9
      exact h9.mono fun o w' h => headP_fail h) (Lib.hid fun W hW => by
      have h9 := quote_vers b off n c0 l W hl hn (hbW W hW) (hs.below hW hb) hu hv
      rw [e2] at h9
      exact h9.mono fun o w' h => headP_fail h)
end Go.Proofs.Ytndekicblbpkjaa.sixX
