/- Layer 38: one histogram is joined to another one. -/
import Derived.Test.YtpgodmcpdgbhaaaHistB
import Derived.Test.YtpgodmcpdgbhaaaCountG
import Derived.Test.YtpgodmcpdgbhaaaWideA
import Derived.Deep.DeepCutAuto
import Derived.Deep.QuietTactic
import Derived.BigQuiet
import Derived.Deep.MidRow
namespace Go.Proofs.Ytpgodmcpdgbhaaa.histD
open Go.ChangeShapes Go.WideShapes Go.ChangeAt Go.RowKit
open Go.Proofs.Ytpgodmcpdgbhaaa.base Go.Proofs.Ytpgodmcpdgbhaaa.wideA Go.Proofs.Ytpgodmcpdgbhaaa.countE Go.Proofs.Ytpgodmcpdgbhaaa.countG
set_option linter.unusedVariables false

/-- The cells of a histogram: 65 counts, how many, their sum in two words, the least, the greatest. -/
def At70 (cs : Array Value) (f : Nat → Int) : Prop := cs.size = 70 ∧ ∀ i, i < 70 → cs[i]? = some (.int .u64 (f i))
def put (f : Nat → Int) (k : Nat) (x : Int) : Nat → Int := fun i => if i = k then x else f i
theorem at_put {cs : Array Value} {f : Nat → Int} (h : At70 cs f) (k : Nat) (hk : k < 70) (x : Int) : At70 (cs.setIfInBounds k (.int .u64 x)) (put f k x) := by
  refine ⟨by simp [h.1], fun i hi => ?_⟩
  rw [Array.getElem?_setIfInBounds]
  unfold put
  by_cases e : k = i
  · subst e
    rw [if_pos rfl, if_pos (by have := h.1; omega)]
    simp
  · rw [if_neg e, h.2 i hi]
    simp [Ne.symm e]
theorem put_far {f : Nat → Int} {k i : Nat} {x : Int} (h : i ≠ k) : put f k x i = f i := by unfold put; rw [if_neg h]
theorem put_here {f : Nat → Int} {k : Nat} {x : Int} : put f k x k = x := by unfold put; rw [if_pos rfl]
/-- A world with a histogram at g and another one at a. -/
def Two (g a B : Nat) (f x : Nat → Int) (w0 w : World) : Prop := ∃ cs xs, Blk w g 56 cs ∧ At70 cs f ∧ Blk w a 56 xs ∧ At70 xs x ∧ But g B w0 w
theorem Two.set {g a B : Nat} {f x : Nat → Int} {w0 w : World} (h : Two g a B f x w0 w) (hne : a ≠ g) (k : Nat) (hk : k < 70) (v : Int) : Two g a B (put f k v) x w0 (w.setCell ⟨g, k, none⟩ (.int .u64 v)) := by
  obtain ⟨cs, xs, h1, h2, h3, h4, h5⟩ := h
  exact ⟨_, xs, h1.set_ k _, at_put h2 k hk v, h3.far (by show a ≠ g; exact hne) _, h4, h5.only ((OnlyB.refl g w).set k _)⟩
theorem Two.drew {g a B : Nat} {f x : Nat → Int} {w0 w : World} (h : Two g a B f x w0 w) : Two g a B f x w0 w.drew := by
  obtain ⟨cs, xs, h1, h2, h3, h4, h5⟩ := h
  exact ⟨cs, xs, h1.drew, h2, h3.drew, h4, h5.below (Below.refl _ w).drew⟩
theorem Two.drewN {g a B : Nat} {f x : Nat → Int} {w0 w : World} (h : Two g a B f x w0 w) (n : Nat) : Two g a B f x w0 (w.drewN n) := by
  obtain ⟨cs, xs, h1, h2, h3, h4, h5⟩ := h
  exact ⟨cs, xs, h1.drewN n, h2, h3.drewN n, h4, h5.below ⟨rfl, rfl, rfl, Nat.le_refl _, fun _ _ => rfl⟩⟩
theorem Two.below {g a B : Nat} {f x : Nat → Int} {w0 w w' : World} (h : Two g a B f x w0 w) (hb : Below w.heap.size w w') (hB : B ≤ w.heap.size) : Two g a B f x w0 w' := by
  obtain ⟨cs, xs, h1, h2, h3, h4, h5⟩ := h
  exact ⟨cs, xs, h1.below hb h1.lt, h2, h3.below hb h3.lt, h4, h5.below (hb.mono hB)⟩
theorem Two.one {g a B : Nat} {f x : Nat → Int} {w0 w : World} (h : Two g a B f x w0 w) (i : Nat) (hi : i < 70) : w.cell? ⟨g, i, none⟩ = some (.int .u64 (f i)) := by
  obtain ⟨cs, xs, h1, h2, h3, h4, h5⟩ := h
  exact (h1.cell i).trans (h2.2 i hi)
theorem Two.two {g a B : Nat} {f x : Nat → Int} {w0 w : World} (h : Two g a B f x w0 w) (i : Nat) (hi : i < 70) : w.cell? ⟨a, i, none⟩ = some (.int .u64 (x i)) := by
  obtain ⟨cs, xs, h1, h2, h3, h4, h5⟩ := h
  exact (h3.cell i).trans (h4.2 i hi)
theorem Two.free {g a B : Nat} {f x : Nat → Int} {w0 w : World} (h : Two g a B f x w0 w) (i : Nat) : w.frozen? ⟨g, i, none⟩ = false := by
  obtain ⟨cs, xs, h1, h2, h3, h4, h5⟩ := h
  exact h1.frozen i
theorem Two.size {g a B : Nat} {f x : Nat → Int} {w0 w : World} (h : Two g a B f x w0 w) : w0.heap.size ≤ w.heap.size := by
  obtain ⟨cs, xs, h1, h2, h3, h4, h5⟩ := h
  exact h5.size
theorem Two.range {g a B : Nat} {f x : Nat → Int} {w0 w : World} (h : Two g a B f x w0 w) (XS : List Value) (hl : XS.length = 65) (hx : ∀ i, i < 65 → XS[i]? = some (.int .u64 (x i))) : w.rangeAt a 0 XS := fun j v hv => by
  have hj : j < 65 := by
    have := (List.getElem?_eq_some_iff.mp hv).1
    omega
  rw [Nat.zero_add, h.two j (by omega), ← hv, hx j hj]
theorem index_row (XS : List Value) (x : Nat → Int) (hl : XS.length = 65) (hx : ∀ i, i < 65 → XS[i]? = some (.int .u64 (x i))) (k : Nat) (hk : k < 65) (W : World) :
    (Instr.index 52 (.agg XS.toArray) (.int .i64 (k : Int))).run Try.prog W = .ok (.int .u64 (x k)) W := by
  have hu := Try.underlying52
  have hb : (0 : Int) ≤ (k : Int) ∧ (k : Int) < 65 := by omega
  simp [Instr.index, run_underlying hu, asIntOf, go_sem, hb, hk, hx k hk]
/-- The least of both, where the first one may have none. -/
def leastZ (n h x : Int) : Int := if n = 0 then x else if x < h then x else h
def maxZ (h x : Int) : Int := if h < x then x else h
theorem join_zero (v : Value) (a : Nat) (w : World) (h : w.cell? ⟨a, 65, none⟩ = some (.int .u64 0)) :
    Calls Try.prog 31 #[v, .pointer (some ⟨a, 0, none⟩)] w fun e w' => e = .returned (.tuple #[]) ∧ w = w' := by
  go_enter Try.func31, Try.ntmps31
  go_wp2
  exact bodyPost_ret (v := .tuple #[]) (by simp [results, Try.results31, go_sem]) rfl ⟨rfl, rfl⟩
def joinZ (h x : Nat → Int) : Nat → Int := fun q => if q < 65 then h q + x q else if q = 65 then h 65 + x 65 else if q = 66 then (h 66 + x 66 + (h 67 + x 67) / 18446744073709551616) else if q = 67 then ((h 67 + x 67) % 18446744073709551616) else if q = 68 then leastZ (h 65) (h 68) (x 68) else if q = 69 then max (h 69) (x 69) else h q
def cnt (h x : Nat → Int) (j : Nat) : Nat → Int := fun q => if q < j then h q + x q else h q
theorem cnt_zero (h x : Nat → Int) : cnt h x 0 = h := by
  funext q
  unfold cnt
  rw [if_neg (by omega)]
theorem cnt_next (h x : Nat → Int) (j : Nat) : put (cnt h x j) j (h j + x j) = cnt h x (j + 1) := by
  funext q
  unfold put cnt
  by_cases e : q = j
  · subst e
    rw [if_pos rfl, if_pos (by omega)]
  · rw [if_neg e]
    by_cases e2 : q < j
    · rw [if_pos e2, if_pos (by omega)]
    · rw [if_neg e2, if_neg (by omega)]
theorem put_same (f : Nat → Int) (k : Nat) : put f k (f k) = f := by
  funext i
  unfold put
  split
  · rename_i e
    rw [e]
  · rfl
set_option maxRecDepth 100000 in
set_option maxHeartbeats 4000000 in
theorem join_at (g a : Nat) (h x : Nat → Int) (w : World) (ne : a ≠ g) (hT : Two g a w.heap.size h x w w) (hx0 : x 65 ≠ 0) (hs : 0 ≤ h 65 + x 65 ∧ h 65 + x 65 < 18446744073709551616)
    (hn : (0 ≤ h 66 ∧ h 66 < 18446744073709551616) ∧ (0 ≤ h 67 ∧ h 67 < 18446744073709551616) ∧ (0 ≤ x 66 ∧ x 66 < 18446744073709551616) ∧ (0 ≤ x 67 ∧ x 67 < 18446744073709551616) ∧ h 66 + x 66 + (h 67 + x 67) / 18446744073709551616 < 18446744073709551616) (hcn : ∀ q, q < 65 → 0 ≤ h q + x q ∧ h q + x q < 18446744073709551616) :
    Calls Try.prog 31 #[.pointer (some ⟨g, 0, none⟩), .pointer (some ⟨a, 0, none⟩)] w fun e w' => e = .returned (.tuple #[]) ∧ Two g a w.heap.size (joinZ h x) x w w' := by
  have t0 : (x 65 == 0) = false := by simpa using hx0
  have HT := Lib.hid hT
  have c65 := hT.two 65 (by omega)
  have HS := Lib.hid hs
  have HADD := Lib.hid (numAdd_ok (h 66) (h 67) (x 66) (x 67) hn.1.1 hn.1.2 hn.2.1.1 hn.2.1.2 hn.2.2.1.1 hn.2.2.1.2 hn.2.2.2.1.1 hn.2.2.2.1.2 hn.2.2.2.2)
  have HCN := Lib.hid hcn
  obtain ⟨XS, xl, xh⟩ : ∃ XS : List Value, XS.length = 65 ∧ ∀ i, i < 65 → XS[i]? = some (.int .u64 (x i)) := ⟨(List.range 65).map fun i => .int .u64 (x i), by simp, fun i hi => by simp [hi]⟩
  have XL := Lib.hid xl
  have XH := Lib.hid xh
  clear hT hx0 hs hn hcn xl xh
  go_enter Try.func31, Try.ntmps31
  go_wp2_with fail
  go_cut [27] (fun s27 wx => ∃ b : Bool, s27 = .bool b ∧ (b = false → h 65 ≠ 0 ∧ ¬ x 68 < h 68) ∧ (b = true → h 65 = 0 ∨ x 68 < h 68) ∧ Two g a w.heap.size h x w wx)
  case first =>
    have d65 := HT.out.one 65 (by omega)
    have d68 := HT.out.one 68 (by omega)
    have c68 := HT.out.two 68 (by omega)
    by_cases h0 : h 65 = 0
    · have t1 : (h 65 == 0) = true := by simpa using h0
      have H0 := Lib.hid h0
      clear h0
      go_quiet (fail)
      go_wp2_with fail
      go_meet
      exact ⟨true, rfl, fun h => (by cases h), fun _ => .inl H0.out, HT.out.drewN _⟩
    · have t1 : (h 65 == 0) = false := by simpa using h0
      have H0 := Lib.hid h0
      clear h0
      by_cases h1 : x 68 < h 68
      · have t2 : decide (x 68 < h 68) = true := decide_eq_true h1
        have H1 := Lib.hid h1
        clear h1
        go_quiet (fail)
        go_wp2_with fail
        go_meet
        exact ⟨true, rfl, fun h => (by cases h), fun _ => .inr H1.out, HT.out.drewN _⟩
      · have t2 : decide (x 68 < h 68) = false := decide_eq_false h1
        have H1 := Lib.hid h1
        clear h1
        go_quiet (fail)
        go_wp2_with fail
        go_meet
        exact ⟨false, rfl, fun _ => ⟨H0.out, H1.out⟩, fun h => (by cases h), HT.out.drewN _⟩
  case rest =>
    obtain ⟨b, rfl, hb0, hb1, hT1⟩ := hcut
    have HT1 := Lib.hid hT1
    have HB0 := Lib.hid hb0
    have HB1 := Lib.hid hb1
    clear hT1 hb0 hb1 HT c65 t0
    go_upto_if 27 with fail
    go_cut [34] (fun s34 wx => Two g a w.heap.size (put h 68 (leastZ (h 65) (h 68) (x 68))) x w wx)
    case first =>
      cases b
      · have e : leastZ (h 65) (h 68) (x 68) = h 68 := by unfold leastZ; rw [if_neg (HB0.out rfl).1, if_neg (HB0.out rfl).2]
        have HF := Lib.hid (show Two g a w.heap.size (put h 68 (leastZ (h 65) (h 68) (x 68))) x w wc by rw [e, put_same]; exact HT1.out)
        clear e
        go_wp2_with fail
        go_meet
        exact HF.out
      · have e : leastZ (h 65) (h 68) (x 68) = x 68 := by
          unfold leastZ
          rcases HB1.out rfl with h0 | h1
          · rw [if_pos h0]
          · rw [if_pos h1]
            split <;> rfl
        have HF := Lib.hid (show Two g a w.heap.size (put h 68 (leastZ (h 65) (h 68) (x 68))) x w (wc.setCell ⟨g, 68, none⟩ (.int .u64 (x 68))) by rw [e]; exact HT1.out.set ne 68 (by omega) _)
        clear e
        have d68 := HT1.out.one 68 (by omega)
        have f68 := HT1.out.free 68
        have c68 := HT1.out.two 68 (by omega)
        go_wp2_with fail
        go_meet
        exact HF.out
    case rest =>
      have HT2 := Lib.hid hcut
      clear hcut HT1 HB0 HB1
      obtain ⟨h1, hh1⟩ : ∃ h1 : Nat → Int, h1 = put h 68 (leastZ (h 65) (h 68) (x 68)) := ⟨_, rfl⟩
      rw [← hh1] at HT2
      have E1 := Lib.hid hh1
      clear hh1
      go_wp2_with fail
      go_cut [44] (fun s44 wx => Two g a w.heap.size (put h1 69 (max (h1 69) (x 69))) x w wx)
      case first =>
        have d69 := HT2.out.one 69 (by omega)
        have f69 := HT2.out.free 69
        have c69 := HT2.out.two 69 (by omega)
        rcases Int.lt_or_le (h1 69) (x 69) with hm | hm
        · have m0 : max (h1 69) (x 69) = x 69 := by omega
          have HF := Lib.hid (show Two g a w.heap.size (put h1 69 (max (h1 69) (x 69))) x w (wc.setCell ⟨g, 69, none⟩ (.int .u64 (x 69))).drew by rw [m0]; exact (HT2.out.set ne 69 (by omega) (x 69)).drew)
          go_region
          all_goals (go_wp2_with fail; go_meet; exact HF.out)
        · have m0 : max (h1 69) (x 69) = h1 69 := by omega
          have HF := Lib.hid (show Two g a w.heap.size (put h1 69 (max (h1 69) (x 69))) x w (wc.setCell ⟨g, 69, none⟩ (.int .u64 (h1 69))).drew by rw [m0]; exact (HT2.out.set ne 69 (by omega) (h1 69)).drew)
          go_region
          all_goals (go_wp2_with fail; go_meet; exact HF.out)
      case rest =>
        have HT3 := Lib.hid hcut
        clear hcut HT2
        obtain ⟨h2, hh2⟩ : ∃ h2 : Nat → Int, h2 = put h1 69 (max (h1 69) (x 69)) := ⟨_, rfl⟩
        rw [← hh2] at HT3
        have E2 := Lib.hid hh2
        clear hh2
        go_wp2_with fail
        go_cut [55] (fun s55 wx => Two g a w.heap.size (put h2 65 (h2 65 + x 65)) x w wx)
        case first =>
          have d65 := HT3.out.one 65 (by omega)
          have f65 := HT3.out.free 65
          have c65 := HT3.out.two 65 (by omega)
          have e65 : h2 65 = h 65 := by rw [E2.out, put_far (by omega), E1.out, put_far (by omega)]
          have w65 : IntKind.u64.wrap (h2 65 + x 65) = h2 65 + x 65 := by rw [e65, IntKind.wrap_u64]; have := HS.out; omega
          clear e65
          have HF := Lib.hid (HT3.out.set ne 65 (by omega) (h2 65 + x 65)).drew
          go_region
          all_goals (go_wp2_with fail; go_meet; exact HF.out)
        case rest =>
          have HT4 := Lib.hid hcut
          clear hcut HT3
          obtain ⟨h3, hh3⟩ : ∃ h3 : Nat → Int, h3 = put h2 65 (h2 65 + x 65) := ⟨_, rfl⟩
          rw [← hh3] at HT4
          have E3 := Lib.hid hh3
          clear hh3
          have e66 := Lib.hid (show h3 66 = h 66 by rw [E3.out, put_far (by omega), E2.out, put_far (by omega), E1.out, put_far (by omega)])
          have e67 := Lib.hid (show h3 67 = h 67 by rw [E3.out, put_far (by omega), E2.out, put_far (by omega), E1.out, put_far (by omega)])
          go_wp2_with fail
          go_cut [58] (fun s58 wx => Two g a w.heap.size (put (put h3 66 (h 66 + x 66 + (h 67 + x 67) / 18446744073709551616)) 67 ((h 67 + x 67) % 18446744073709551616)) x w wx)
          case first =>
            have K0 := Lib.hid HT4.out.drew
            go_wp2_with fail
            have b66 : wc.drew.cell? ⟨g, 66, none⟩ = some (.int .u64 (h 66)) := (K0.out.one 66 (by omega)).trans (by rw [e66.out])
            have b67 : wc.drew.cell? ⟨g, 67, none⟩ = some (.int .u64 (h 67)) := (K0.out.one 67 (by omega)).trans (by rw [e67.out])
            have b68 := K0.out.two 66 (by omega)
            have b69 := K0.out.two 67 (by omega)
            go_region_with (first
              | (go_at_call 46; (with_reducible refine (HADD.out _).mono ?_); rintro e w9 ⟨rfl, hb9⟩; have k9 := K0.out.below hb9 K0.out.size; have K9 := Lib.hid k9; have s66 := k9.one 66 (by omega); have s67 := k9.one 67 (by omega); have f66 := k9.free 66; have f67 := k9.free 67; clear hb9 k9))
            all_goals (go_wp2_with fail; go_meet; exact (K9.out.set ne 66 (by omega) _).set ne 67 (by omega) _)
          case rest =>
            have HT5 := Lib.hid hcut
            clear hcut HT4
            obtain ⟨h4, hh4⟩ : ∃ h4 : Nat → Int, h4 = put (put h3 66 (h 66 + x 66 + (h 67 + x 67) / 18446744073709551616)) 67 ((h 67 + x 67) % 18446744073709551616) := ⟨_, rfl⟩
            rw [← hh4] at HT5
            have E4 := Lib.hid hh4
            clear hh4
            have RGX := Lib.hid (HT5.out.range XS XL.out XH.out)
            have SZX := Lib.hid (show (Try.prog.info? 52).map (·.size) = some XS.length by rw [XL.out]; kernel_rfl)
            have EQ := Lib.hid (show ∀ q, q < 65 → h4 q = h q from fun q hq => by rw [E4.out, put_far (by omega), put_far (by omega), E3.out, put_far (by omega), E2.out, put_far (by omega), E1.out, put_far (by omega)])
            have EJ := Lib.hid (show cnt h4 x 65 = joinZ h x by
              funext q
              unfold cnt joinZ
              by_cases q0 : q < 65
              · rw [if_pos q0, if_pos q0, EQ.out q q0]
              · rw [if_neg q0, if_neg q0, E4.out, E3.out, E2.out, E1.out]
                have hq : q = 65 ∨ q = 66 ∨ q = 67 ∨ q = 68 ∨ q = 69 ∨ 69 < q := by omega
                rcases hq with rfl | rfl | rfl | rfl | rfl | hq
                · simp [put]
                · simp [put]
                · simp [put]
                · simp [put]
                · simp [put]
                · have n5 : ¬ q = 65 := by omega
                  have n6 : ¬ q = 66 := by omega
                  have n7 : ¬ q = 67 := by omega
                  have n8 : ¬ q = 68 := by omega
                  have n9 : ¬ q = 69 := by omega
                  simp [put, n5, n6, n7, n8, n9])
            go_wp2_with (refine wpList_load_mid rfl 52 _ rfl a 0 rfl XS _ RGX.out Try.underlying52 rfl SZX.out ?_)
            go_loopw [78, 5, 6] (fun i _ _ wr => ∃ j : Nat, j ≤ 65 ∧ i = .int .i64 j ∧ Two g a w.heap.size (cnt h4 x j) x w wr) (fun i _ _ _ => 65 - (intOf i).toNat)
            case atStart => exact ⟨0, by omega, rfl, by rw [cnt_zero]; exact HT5.out⟩
            case round =>
              obtain ⟨j, hj, rfl, hT6⟩ := hrel
              have HT6 := Lib.hid hT6
              by_cases hj8 : j < 65
              · have p1 : decide ((j : Int) < 65) = true := decide_eq_true (by omega)
                have hidx := index_row XS x XL.out XH.out j hj8
                have dj : wr.cell? ⟨g, j, none⟩ = some (.int .u64 (h4 j)) := (hT6.one j (by omega)).trans (by unfold cnt; rw [if_neg (by omega)])
                have fj := hT6.free j
                have wj : IntKind.u64.wrap (h4 j + x j) = h4 j + x j := by rw [EQ.out j hj8, IntKind.wrap_u64]; have := HCN.out j hj8; omega
                have HF := Lib.hid (show Two g a w.heap.size (cnt h4 x (j + 1)) x w (wr.setCell ⟨g, j, none⟩ (.int .u64 (h4 j + x j))).drew by rw [← cnt_next]; exact (hT6.set ne j (by omega) _).drew)
                clear hT6
                go_wp2_with fail
                go_region
                all_goals go_wp2_with fail
                refine ⟨⟨j + 1, by omega, by go_num, HF.out⟩, ?_⟩
                simp [intOf]
                omega
              · obtain rfl : j = 65 := by omega
                rw [EJ.out] at HT6
                clear hT6
                go_wp2_with fail
                exact bodyPost_end (v := .tuple #[]) (by simp [results, Try.results31, go_sem]) rfl ⟨rfl, HT6.out⟩
end Go.Proofs.Ytpgodmcpdgbhaaa.histD
