/- Layer 4: the law on checks that are turned. -/
import Derived.Test.YtlipemjidjjenaaSumE
namespace Go.Proofs.Ytlipemjidjjenaa.sumF
open Go.ChangeShapes Go.WideShapes Go.ChangeAt Go.RowKit
open Go.Proofs.Ytlipemjidjjenaa.base Go.Proofs.Ytlipemjidjjenaa.sumA Go.Proofs.Ytlipemjidjjenaa.sumB Go.Proofs.Ytlipemjidjjenaa.sumC Go.Proofs.Ytlipemjidjjenaa.sumD Go.Proofs.Ytlipemjidjjenaa.sumE
set_option linter.unusedVariables false

theorem below_d (w : World) (m : Nat) : Below w.heap.size w (w.drewN m) := below_drewN (Below.refl _ _) m
theorem low_word (n : Int) (i : Nat) (n0 : 0 ≤ n) (n1 : n < 18446744073709551616) : bits .and .u64 (n / 2 ^ (16 * i)) 65535 = n / 2 ^ (16 * i) % 65536 := by
  have hp : (0 : Int) < 2 ^ (16 * i) := by exact Int.pow_pos (by omega)
  have h0 : 0 ≤ n / 2 ^ (16 * i) := Int.ediv_nonneg n0 (by omega)
  have h1 : n / 2 ^ (16 * i) ≤ n := Int.ediv_le_self _ n0
  exact and_low16 _ h0 (by omega)

theorem t1 (c : Int) (A : Option Addr) (A' : Option Addr) (n n' c1 c2 : Nat) (fs ts : List Int) (x size : Int) (w : World) (c0 : 0 ≤ c) (c9 : c ≤ 65535) (hn : fs.length = n) (hn' : ts.length = n') (hl' : n' ≤ 9223372036854775807) (hnn : n ≤ 40)
    (hr : Row w w.heap.size A (fs.map (.int .u16))) (hr' : Row w w.heap.size A' (ts.map (.int .u16))) (hf : ∀ x ∈ fs, 0 ≤ x ∧ x ≤ 65535) (ht : ∀ x ∈ ts, 0 ≤ x ∧ x ≤ 65535) (x0 : 0 ≤ x) (x1 : x < 18446744073709551616) (hsz : 0 ≤ size) (hsz2 : size ≤ 4) (hcc : c1 ≤ 9223372036854775807) :
    Calls Try.prog 14 #[.int .u16 c, .slice A n c1, .slice A' n' c2, .int .u64 x, .int .i64 size] w fun e w' => e = .returned (.bool true) ∧ Below w.heap.size w w' := by
  obtain ⟨S, rfl⟩ := Int.eq_ofNat_of_zero_le hsz
  have hSv : held4 (S : Int) = S := by unfold held4; omega
  have HS := Lib.hid hSv
  have HR := Lib.hid hr
  have HR' := Lib.hid hr'
  have HN := Lib.hid hn
  have HN' := Lib.hid hn'
  have HF := Lib.hid hf
  have HT := Lib.hid ht
  clear hr hr' hn hn' hf ht hSv
  have hd : decide ((40 : Int) < (n : Int)) = false := by simp; omega
  go_enter Try.func14, Try.ntmps14
  go_wp2_with fail
  go_loopw [11, 12, 13] (fun t i y wr => ∃ k m : Nat, k ≤ n ∧ k ≤ n' ∧ i = .int .i64 k ∧ t = .int .i64 (turns c (fs.take k) (ts.take k)) ∧ 0 ≤ turns c (fs.take k) (ts.take k) ∧ turns c (fs.take k) (ts.take k) ≤ 65535 ∧ wr = w.drewN m) (fun _ i _ _ => n - (intOf i).toNat)
  case atStart => exact ⟨0, 0, by omega, by omega, rfl, by simp [turns], by simpa [turns] using c0, by simpa [turns] using c9, rfl⟩
  case round =>
    obtain ⟨k, m, hk, hk', rfl, rfl, hb0, hb1, rfl⟩ := hrel
    by_cases hlt : k < n ∧ k < n'
    · obtain ⟨hlt, hlt'⟩ := hlt
      have hk1 : k < fs.length := by rw [HN.out]; exact hlt
      have hk2 : k < ts.length := by rw [HN'.out]; exact hlt'
      obtain ⟨b, off, rfl, hbl, hc⟩ := HR.out.at_ (by intro h; simp at h; rw [h] at hk1; simp at hk1)
      obtain ⟨b3, off3, rfl, hbl2, hc2⟩ := HR'.out.at_ (by intro h; simp at h; rw [h] at hk2; simp at hk2)
      have hcell : w.cell? ⟨b, off + k, none⟩ = some (.int .u16 (fs[k])) := hc k _ (by simp [hk1])
      have hcell2 : w.cell? ⟨b3, off3 + k, none⟩ = some (.int .u16 (ts[k])) := hc2 k _ (by simp [hk2])
      have hs := turns_snoc (fs.take k) (ts.take k) c fs[k] ts[k] (by simp; omega)
      rw [← take_snoc fs k hk1, ← take_snoc ts k hk2] at hs
      obtain ⟨f0, f1⟩ := HF.out fs[k] (List.getElem_mem hk1)
      obtain ⟨t0, t1⟩ := HT.out ts[k] (List.getElem_mem hk2)
      clear hc hc2
      generalize turns c (fs.take k) (ts.take k) = z at *
      generalize fs[k] = f at *
      generalize ts[k] = t at *
      have hbd := turn_bd z f t hb1 f1 t0
      rw [← hs] at hbd
      have HSN := Lib.hid hs
      have HBD := Lib.hid hbd
      have hfo := fo_bd (65535 - z + (65535 - f) + t) (by omega)
      have earg : 65535 - z + 65535 - f + t = 65535 - z + (65535 - f) + t := by omega
      have hq : (65535 - fo (65535 - z + (65535 - f) + t) != 65535 - fo (65535 - z + (65535 - f) + t)) = false := by simp
      have q1 : IntKind.i64.wrap (65535 - z) = 65535 - z := by rw [IntKind.wrap_i64]; omega
      have q2 : IntKind.i64.wrap (65535 - z + 65535) = 65535 - z + 65535 := by rw [IntKind.wrap_i64]; omega
      have q3 : IntKind.i64.wrap f = f := by rw [IntKind.wrap_i64]; omega
      have q4 : IntKind.i64.wrap (65535 - z + 65535 - f) = 65535 - z + 65535 - f := by rw [IntKind.wrap_i64]; omega
      have q5 : IntKind.i64.wrap t = t := by rw [IntKind.wrap_i64]; omega
      have q6 : IntKind.i64.wrap (65535 - z + 65535 - f + t) = 65535 - z + (65535 - f) + t := by rw [IntKind.wrap_i64]; omega
      have q7 : IntKind.i64.wrap (65535 - fo (65535 - z + (65535 - f) + t)) = 65535 - fo (65535 - z + (65535 - f) + t) := by rw [IntKind.wrap_i64]; omega
      have q8 : IntKind.u16.wrap z = z := by rw [IntKind.wrap_u16]; omega
      clear hs hbd earg
      go_wp2_with fail
      go_quiet ((go_at_call 55; exact quiet_add_left (refFold_any _ (by omega) (by omega) _)))
      go_wp2_with fail
      go_quiet ((go_at_call 56; exact quiet_add_left (turn_any _ _ _ hb0 hb1 f0 f1 t0 t1 _)))
      go_wp2_with fail
      go_roundw
      case rel => exact ⟨k + 1, _, by omega, by omega, by go_num, by rw [HSN.out]; rfl, HBD.out.1, HBD.out.2, rfl⟩
      case measure => simp [intOf]; omega
    · by_cases hk3 : k < n
      · have hk4 : ¬ k < n' := fun h => hlt ⟨hk3, h⟩
        clear hlt
        have e : turns c (fs.take k) (ts.take k) = turns c fs ts := by
          have : k = min fs.length ts.length := by rw [HN.out, HN'.out]; omega
          rw [this, turns_min]
        rw [e] at hb0 hb1 ⊢
        clear e
        have hqt : (turns c fs ts == turns c fs ts) = true := by simp
        have hqw : IntKind.i64.wrap (turns c fs ts) = turns c fs ts := by rw [IntKind.wrap_i64]; omega
        generalize hz : turns c fs ts = z at *
        have HZ := Lib.hid hz
        clear hz
        go_wp2_with fail
        refine (split_any x _ x0 x1 _).mono ?_
        rintro e w1 ⟨v, rfl, hown, hbel⟩
        rw [HS.out] at hown
        obtain ⟨A3, c3, rfl⟩ := own_slice hown
        have hrow := own_row hown
        have HROW := Lib.hid hrow
        have HB1 := Lib.hid ((below_d w m).trans (hbel.mono (by simp)))
        clear hown hbel hrow
        go_wp2_with fail
        go_loopw [16] (fun y wr => ∃ i m : Nat, i ≤ S ∧ y = .int .i64 i ∧ wr = w1.drewN m) (fun y _ => S - (intOf y).toNat)
        case atStart => exact ⟨0, 0, by omega, rfl, rfl⟩
        case round =>
          obtain ⟨i, m2, hi, rfl, rfl⟩ := hrel
          by_cases hlt2 : i < S
          · obtain ⟨j, hj⟩ : ∃ j : Nat, (S : Int) - 1 - i = j := ⟨S - 1 - i, by omega⟩
            have hjS : j < S := by omega
            obtain ⟨g, off4, rfl, hbl4, hc4⟩ := HROW.out.at_ (by intro h; have h2 := congrArg List.length h; rw [List.length_map] at h2; simp only [words, List.length_map, List.length_range, List.length_nil] at h2; omega)
            have hcell4 : w1.cell? ⟨g, off4 + j, none⟩ = some (.int .u16 (x / 2 ^ (16 * i) % 65536)) := by
              refine hc4 j _ ?_
              have e2 : S - 1 - j = i := by omega
              simp [words, wordAt, hjS, e2]
            have q0 : IntKind.i64.wrap ((S : Int) - 1) = (S : Int) - 1 := by rw [IntKind.wrap_i64]; omega
            have q1 : IntKind.i64.wrap ((S : Int) - 1 - i) = j := by rw [IntKind.wrap_i64, hj]; omega
            have q2 := low_word x i x0 x1
            have q3 : IntKind.u64.wrap (x / 2 ^ (16 * i) % 65536) = x / 2 ^ (16 * i) % 65536 := by rw [IntKind.wrap_u64]; omega
            have q4 : (x / 2 ^ (16 * i) % 65536 != x / 2 ^ (16 * i) % 65536) = false := by simp
            have HJ := Lib.hid hj
            clear hj hc4
            go_wp2_with fail
            go_quiet (fail)
            go_wp2_with fail
            go_roundw
            case rel => exact ⟨i + 1, _, by omega, by go_num, rfl⟩
            case measure => simp [intOf]; omega
          · have hrA := (HR.out.below HB1.out).below (below_d w1 m2 |>.mono HB1.out.size)
            have hrB := (HR'.out.below HB1.out).below (below_d w1 m2 |>.mono HB1.out.size)
            have HRA := Lib.hid hrA
            have HRB := Lib.hid hrB
            clear hrA hrB
            go_wp2_with fail
            refine (words_any c _ _ _ _ _ _ fs ts _ _ c0 c9 HN.out HN'.out (by omega) hl' HRA.out HRB.out HF.out HT.out).mono ?_
            rintro e w2 ⟨rfl, m3, rfl⟩
            rw [HZ.out]
            go_wp2_with (go_at_call 54; refine (awake_any _).mono ?_; rintro e w3 ⟨rfl, hb⟩; have HB3 := Lib.hid hb; clear hb)
            go_ret
            refine ⟨rfl, HB1.out.trans ?_⟩
            have h3 := HB3.out
            exact (((below_d w1 _).trans (h3.mono (by simp))).mono HB1.out.size)
      · clear hlt
        have e : turns c (fs.take k) (ts.take k) = turns c fs ts := by
          have : k = min fs.length ts.length := by rw [HN.out, HN'.out]; omega
          rw [this, turns_min]
        rw [e] at hb0 hb1 ⊢
        clear e
        have hqt : (turns c fs ts == turns c fs ts) = true := by simp
        have hqw : IntKind.i64.wrap (turns c fs ts) = turns c fs ts := by rw [IntKind.wrap_i64]; omega
        generalize hz : turns c fs ts = z at *
        have HZ := Lib.hid hz
        clear hz
        go_wp2_with fail
        refine (split_any x _ x0 x1 _).mono ?_
        rintro e w1 ⟨v, rfl, hown, hbel⟩
        rw [HS.out] at hown
        obtain ⟨A3, c3, rfl⟩ := own_slice hown
        have hrow := own_row hown
        have HROW := Lib.hid hrow
        have HB1 := Lib.hid ((below_d w m).trans (hbel.mono (by simp)))
        clear hown hbel hrow
        go_wp2_with fail
        go_loopw [16] (fun y wr => ∃ i m : Nat, i ≤ S ∧ y = .int .i64 i ∧ wr = w1.drewN m) (fun y _ => S - (intOf y).toNat)
        case atStart => exact ⟨0, 0, by omega, rfl, rfl⟩
        case round =>
          obtain ⟨i, m2, hi, rfl, rfl⟩ := hrel
          by_cases hlt2 : i < S
          · obtain ⟨j, hj⟩ : ∃ j : Nat, (S : Int) - 1 - i = j := ⟨S - 1 - i, by omega⟩
            have hjS : j < S := by omega
            obtain ⟨g, off4, rfl, hbl4, hc4⟩ := HROW.out.at_ (by intro h; have h2 := congrArg List.length h; rw [List.length_map] at h2; simp only [words, List.length_map, List.length_range, List.length_nil] at h2; omega)
            have hcell4 : w1.cell? ⟨g, off4 + j, none⟩ = some (.int .u16 (x / 2 ^ (16 * i) % 65536)) := by
              refine hc4 j _ ?_
              have e2 : S - 1 - j = i := by omega
              simp [words, wordAt, hjS, e2]
            have q0 : IntKind.i64.wrap ((S : Int) - 1) = (S : Int) - 1 := by rw [IntKind.wrap_i64]; omega
            have q1 : IntKind.i64.wrap ((S : Int) - 1 - i) = j := by rw [IntKind.wrap_i64, hj]; omega
            have q2 := low_word x i x0 x1
            have q3 : IntKind.u64.wrap (x / 2 ^ (16 * i) % 65536) = x / 2 ^ (16 * i) % 65536 := by rw [IntKind.wrap_u64]; omega
            have q4 : (x / 2 ^ (16 * i) % 65536 != x / 2 ^ (16 * i) % 65536) = false := by simp
            have HJ := Lib.hid hj
            clear hj hc4
            go_wp2_with fail
            go_quiet (fail)
            go_wp2_with fail
            go_roundw
            case rel => exact ⟨i + 1, _, by omega, by go_num, rfl⟩
            case measure => simp [intOf]; omega
          · have hrA := (HR.out.below HB1.out).below (below_d w1 m2 |>.mono HB1.out.size)
            have hrB := (HR'.out.below HB1.out).below (below_d w1 m2 |>.mono HB1.out.size)
            have HRA := Lib.hid hrA
            have HRB := Lib.hid hrB
            clear hrA hrB
            go_wp2_with fail
            refine (words_any c _ _ _ _ _ _ fs ts _ _ c0 c9 HN.out HN'.out (by omega) hl' HRA.out HRB.out HF.out HT.out).mono ?_
            rintro e w2 ⟨rfl, m3, rfl⟩
            rw [HZ.out]
            go_wp2_with (go_at_call 54; refine (awake_any _).mono ?_; rintro e w3 ⟨rfl, hb⟩; have HB3 := Lib.hid hb; clear hb)
            go_ret
            refine ⟨rfl, HB1.out.trans ?_⟩
            have h3 := HB3.out
            exact (((below_d w1 _).trans (h3.mono (by simp))).mono HB1.out.size)
theorem t2 (c : Int) (A : Option Addr) (A' : Option Addr) (n n' c1 c2 : Nat) (fs ts : List Int) (x size : Int) (w : World) (c0 : 0 ≤ c) (c9 : c ≤ 65535) (hn : fs.length = n) (hn' : ts.length = n') (hl' : n' ≤ 9223372036854775807) (hnn : n ≤ 40)
    (hr : Row w w.heap.size A (fs.map (.int .u16))) (hr' : Row w w.heap.size A' (ts.map (.int .u16))) (hf : ∀ x ∈ fs, 0 ≤ x ∧ x ≤ 65535) (ht : ∀ x ∈ ts, 0 ≤ x ∧ x ≤ 65535) (x0 : 0 ≤ x) (x1 : x < 18446744073709551616) (hsz : 4 < size) (hcc : c1 ≤ 9223372036854775807) :
    Calls Try.prog 14 #[.int .u16 c, .slice A n c1, .slice A' n' c2, .int .u64 x, .int .i64 size] w fun e w' => e = .returned (.bool true) ∧ Below w.heap.size w w' := by
  have hSv : held4 size = 4 := by unfold held4; omega
  have HS := Lib.hid hSv
  have HR := Lib.hid hr
  have HR' := Lib.hid hr'
  have HN := Lib.hid hn
  have HN' := Lib.hid hn'
  have HF := Lib.hid hf
  have HT := Lib.hid ht
  clear hr hr' hn hn' hf ht hSv
  have hd : decide ((40 : Int) < (n : Int)) = false := by simp; omega
  go_enter Try.func14, Try.ntmps14
  go_wp2_with fail
  go_loopw [11, 12, 13] (fun t i y wr => ∃ k m : Nat, k ≤ n ∧ k ≤ n' ∧ i = .int .i64 k ∧ t = .int .i64 (turns c (fs.take k) (ts.take k)) ∧ 0 ≤ turns c (fs.take k) (ts.take k) ∧ turns c (fs.take k) (ts.take k) ≤ 65535 ∧ wr = w.drewN m) (fun _ i _ _ => n - (intOf i).toNat)
  case atStart => exact ⟨0, 0, by omega, by omega, rfl, by simp [turns], by simpa [turns] using c0, by simpa [turns] using c9, rfl⟩
  case round =>
    obtain ⟨k, m, hk, hk', rfl, rfl, hb0, hb1, rfl⟩ := hrel
    by_cases hlt : k < n ∧ k < n'
    · obtain ⟨hlt, hlt'⟩ := hlt
      have hk1 : k < fs.length := by rw [HN.out]; exact hlt
      have hk2 : k < ts.length := by rw [HN'.out]; exact hlt'
      obtain ⟨b, off, rfl, hbl, hc⟩ := HR.out.at_ (by intro h; simp at h; rw [h] at hk1; simp at hk1)
      obtain ⟨b3, off3, rfl, hbl2, hc2⟩ := HR'.out.at_ (by intro h; simp at h; rw [h] at hk2; simp at hk2)
      have hcell : w.cell? ⟨b, off + k, none⟩ = some (.int .u16 (fs[k])) := hc k _ (by simp [hk1])
      have hcell2 : w.cell? ⟨b3, off3 + k, none⟩ = some (.int .u16 (ts[k])) := hc2 k _ (by simp [hk2])
      have hs := turns_snoc (fs.take k) (ts.take k) c fs[k] ts[k] (by simp; omega)
      rw [← take_snoc fs k hk1, ← take_snoc ts k hk2] at hs
      obtain ⟨f0, f1⟩ := HF.out fs[k] (List.getElem_mem hk1)
      obtain ⟨t0, t1⟩ := HT.out ts[k] (List.getElem_mem hk2)
      clear hc hc2
      generalize turns c (fs.take k) (ts.take k) = z at *
      generalize fs[k] = f at *
      generalize ts[k] = t at *
      have hbd := turn_bd z f t hb1 f1 t0
      rw [← hs] at hbd
      have HSN := Lib.hid hs
      have HBD := Lib.hid hbd
      have hfo := fo_bd (65535 - z + (65535 - f) + t) (by omega)
      have earg : 65535 - z + 65535 - f + t = 65535 - z + (65535 - f) + t := by omega
      have hq : (65535 - fo (65535 - z + (65535 - f) + t) != 65535 - fo (65535 - z + (65535 - f) + t)) = false := by simp
      have q1 : IntKind.i64.wrap (65535 - z) = 65535 - z := by rw [IntKind.wrap_i64]; omega
      have q2 : IntKind.i64.wrap (65535 - z + 65535) = 65535 - z + 65535 := by rw [IntKind.wrap_i64]; omega
      have q3 : IntKind.i64.wrap f = f := by rw [IntKind.wrap_i64]; omega
      have q4 : IntKind.i64.wrap (65535 - z + 65535 - f) = 65535 - z + 65535 - f := by rw [IntKind.wrap_i64]; omega
      have q5 : IntKind.i64.wrap t = t := by rw [IntKind.wrap_i64]; omega
      have q6 : IntKind.i64.wrap (65535 - z + 65535 - f + t) = 65535 - z + (65535 - f) + t := by rw [IntKind.wrap_i64]; omega
      have q7 : IntKind.i64.wrap (65535 - fo (65535 - z + (65535 - f) + t)) = 65535 - fo (65535 - z + (65535 - f) + t) := by rw [IntKind.wrap_i64]; omega
      have q8 : IntKind.u16.wrap z = z := by rw [IntKind.wrap_u16]; omega
      clear hs hbd earg
      go_wp2_with fail
      go_quiet ((go_at_call 55; exact quiet_add_left (refFold_any _ (by omega) (by omega) _)))
      go_wp2_with fail
      go_quiet ((go_at_call 56; exact quiet_add_left (turn_any _ _ _ hb0 hb1 f0 f1 t0 t1 _)))
      go_wp2_with fail
      go_roundw
      case rel => exact ⟨k + 1, _, by omega, by omega, by go_num, by rw [HSN.out]; rfl, HBD.out.1, HBD.out.2, rfl⟩
      case measure => simp [intOf]; omega
    · by_cases hk3 : k < n
      · have hk4 : ¬ k < n' := fun h => hlt ⟨hk3, h⟩
        clear hlt
        have e : turns c (fs.take k) (ts.take k) = turns c fs ts := by
          have : k = min fs.length ts.length := by rw [HN.out, HN'.out]; omega
          rw [this, turns_min]
        rw [e] at hb0 hb1 ⊢
        clear e
        have hqt : (turns c fs ts == turns c fs ts) = true := by simp
        have hqw : IntKind.i64.wrap (turns c fs ts) = turns c fs ts := by rw [IntKind.wrap_i64]; omega
        generalize hz : turns c fs ts = z at *
        have HZ := Lib.hid hz
        clear hz
        go_wp2_with fail
        refine (split_any x _ x0 x1 _).mono ?_
        rintro e w1 ⟨v, rfl, hown, hbel⟩
        rw [HS.out] at hown
        obtain ⟨A3, c3, rfl⟩ := own_slice hown
        have hrow := own_row hown
        have HROW := Lib.hid hrow
        have HB1 := Lib.hid ((below_d w m).trans (hbel.mono (by simp)))
        clear hown hbel hrow
        go_wp2_with fail
        go_loopw [16] (fun y wr => ∃ i m : Nat, i ≤ 4 ∧ y = .int .i64 i ∧ wr = w1.drewN m) (fun y _ => 4 - (intOf y).toNat)
        case atStart => exact ⟨0, 0, by omega, rfl, rfl⟩
        case round =>
          obtain ⟨i, m2, hi, rfl, rfl⟩ := hrel
          by_cases hlt2 : i < 4
          · obtain ⟨j, hj⟩ : ∃ j : Nat, (3 : Int) - i = j := ⟨4 - 1 - i, by omega⟩
            have hjS : j < 4 := by omega
            obtain ⟨g, off4, rfl, hbl4, hc4⟩ := HROW.out.at_ (by intro h; have h2 := congrArg List.length h; rw [List.length_map] at h2; simp only [words, List.length_map, List.length_range, List.length_nil] at h2; omega)
            have hcell4 : w1.cell? ⟨g, off4 + j, none⟩ = some (.int .u16 (x / 2 ^ (16 * i) % 65536)) := by
              refine hc4 j _ ?_
              have e2 : 4 - 1 - j = i := by omega
              simp [words, wordAt, hjS, e2]
            have q1 : IntKind.i64.wrap ((3 : Int) - i) = j := by rw [IntKind.wrap_i64, hj]; omega
            have q2 := low_word x i x0 x1
            have q3 : IntKind.u64.wrap (x / 2 ^ (16 * i) % 65536) = x / 2 ^ (16 * i) % 65536 := by rw [IntKind.wrap_u64]; omega
            have q4 : (x / 2 ^ (16 * i) % 65536 != x / 2 ^ (16 * i) % 65536) = false := by simp
            have HJ := Lib.hid hj
            clear hj hc4
            go_wp2_with fail
            go_quiet (fail)
            go_wp2_with fail
            go_roundw
            case rel => exact ⟨i + 1, _, by omega, by go_num, rfl⟩
            case measure => simp [intOf]; omega
          · have hrA := (HR.out.below HB1.out).below (below_d w1 m2 |>.mono HB1.out.size)
            have hrB := (HR'.out.below HB1.out).below (below_d w1 m2 |>.mono HB1.out.size)
            have HRA := Lib.hid hrA
            have HRB := Lib.hid hrB
            clear hrA hrB
            go_wp2_with fail
            refine (words_any c _ _ _ _ _ _ fs ts _ _ c0 c9 HN.out HN'.out (by omega) hl' HRA.out HRB.out HF.out HT.out).mono ?_
            rintro e w2 ⟨rfl, m3, rfl⟩
            rw [HZ.out]
            go_wp2_with (go_at_call 54; refine (awake_any _).mono ?_; rintro e w3 ⟨rfl, hb⟩; have HB3 := Lib.hid hb; clear hb)
            go_ret
            refine ⟨rfl, HB1.out.trans ?_⟩
            have h3 := HB3.out
            exact (((below_d w1 _).trans (h3.mono (by simp))).mono HB1.out.size)
      · clear hlt
        have e : turns c (fs.take k) (ts.take k) = turns c fs ts := by
          have : k = min fs.length ts.length := by rw [HN.out, HN'.out]; omega
          rw [this, turns_min]
        rw [e] at hb0 hb1 ⊢
        clear e
        have hqt : (turns c fs ts == turns c fs ts) = true := by simp
        have hqw : IntKind.i64.wrap (turns c fs ts) = turns c fs ts := by rw [IntKind.wrap_i64]; omega
        generalize hz : turns c fs ts = z at *
        have HZ := Lib.hid hz
        clear hz
        go_wp2_with fail
        refine (split_any x _ x0 x1 _).mono ?_
        rintro e w1 ⟨v, rfl, hown, hbel⟩
        rw [HS.out] at hown
        obtain ⟨A3, c3, rfl⟩ := own_slice hown
        have hrow := own_row hown
        have HROW := Lib.hid hrow
        have HB1 := Lib.hid ((below_d w m).trans (hbel.mono (by simp)))
        clear hown hbel hrow
        go_wp2_with fail
        go_loopw [16] (fun y wr => ∃ i m : Nat, i ≤ 4 ∧ y = .int .i64 i ∧ wr = w1.drewN m) (fun y _ => 4 - (intOf y).toNat)
        case atStart => exact ⟨0, 0, by omega, rfl, rfl⟩
        case round =>
          obtain ⟨i, m2, hi, rfl, rfl⟩ := hrel
          by_cases hlt2 : i < 4
          · obtain ⟨j, hj⟩ : ∃ j : Nat, (3 : Int) - i = j := ⟨4 - 1 - i, by omega⟩
            have hjS : j < 4 := by omega
            obtain ⟨g, off4, rfl, hbl4, hc4⟩ := HROW.out.at_ (by intro h; have h2 := congrArg List.length h; rw [List.length_map] at h2; simp only [words, List.length_map, List.length_range, List.length_nil] at h2; omega)
            have hcell4 : w1.cell? ⟨g, off4 + j, none⟩ = some (.int .u16 (x / 2 ^ (16 * i) % 65536)) := by
              refine hc4 j _ ?_
              have e2 : 4 - 1 - j = i := by omega
              simp [words, wordAt, hjS, e2]
            have q1 : IntKind.i64.wrap ((3 : Int) - i) = j := by rw [IntKind.wrap_i64, hj]; omega
            have q2 := low_word x i x0 x1
            have q3 : IntKind.u64.wrap (x / 2 ^ (16 * i) % 65536) = x / 2 ^ (16 * i) % 65536 := by rw [IntKind.wrap_u64]; omega
            have q4 : (x / 2 ^ (16 * i) % 65536 != x / 2 ^ (16 * i) % 65536) = false := by simp
            have HJ := Lib.hid hj
            clear hj hc4
            go_wp2_with fail
            go_quiet (fail)
            go_wp2_with fail
            go_roundw
            case rel => exact ⟨i + 1, _, by omega, by go_num, rfl⟩
            case measure => simp [intOf]; omega
          · have hrA := (HR.out.below HB1.out).below (below_d w1 m2 |>.mono HB1.out.size)
            have hrB := (HR'.out.below HB1.out).below (below_d w1 m2 |>.mono HB1.out.size)
            have HRA := Lib.hid hrA
            have HRB := Lib.hid hrB
            clear hrA hrB
            go_wp2_with fail
            refine (words_any c _ _ _ _ _ _ fs ts _ _ c0 c9 HN.out HN'.out (by omega) hl' HRA.out HRB.out HF.out HT.out).mono ?_
            rintro e w2 ⟨rfl, m3, rfl⟩
            rw [HZ.out]
            go_wp2_with (go_at_call 54; refine (awake_any _).mono ?_; rintro e w3 ⟨rfl, hb⟩; have HB3 := Lib.hid hb; clear hb)
            go_ret
            refine ⟨rfl, HB1.out.trans ?_⟩
            have h3 := HB3.out
            exact (((below_d w1 _).trans (h3.mono (by simp))).mono HB1.out.size)
theorem t3 (c : Int) (A : Option Addr) (A' : Option Addr) (n n' c1 c2 : Nat) (fs ts : List Int) (x size : Int) (w : World) (c0 : 0 ≤ c) (c9 : c ≤ 65535) (hn : fs.length = n) (hn' : ts.length = n') (hl' : n' ≤ 9223372036854775807) (hnn : n ≤ 40)
    (hr : Row w w.heap.size A (fs.map (.int .u16))) (hr' : Row w w.heap.size A' (ts.map (.int .u16))) (hf : ∀ x ∈ fs, 0 ≤ x ∧ x ≤ 65535) (ht : ∀ x ∈ ts, 0 ≤ x ∧ x ≤ 65535) (x0 : 0 ≤ x) (x1 : x < 18446744073709551616) (hsz : size < 0) (hcc : c1 ≤ 9223372036854775807) :
    Calls Try.prog 14 #[.int .u16 c, .slice A n c1, .slice A' n' c2, .int .u64 x, .int .i64 size] w fun e w' => e = .returned (.bool true) ∧ Below w.heap.size w w' := by
  have hSv : held4 size = 0 := by unfold held4; omega
  have HS := Lib.hid hSv
  have HR := Lib.hid hr
  have HR' := Lib.hid hr'
  have HN := Lib.hid hn
  have HN' := Lib.hid hn'
  have HF := Lib.hid hf
  have HT := Lib.hid ht
  clear hr hr' hn hn' hf ht hSv
  have hd : decide ((40 : Int) < (n : Int)) = false := by simp; omega
  go_enter Try.func14, Try.ntmps14
  go_wp2_with fail
  go_loopw [11, 12, 13] (fun t i y wr => ∃ k m : Nat, k ≤ n ∧ k ≤ n' ∧ i = .int .i64 k ∧ t = .int .i64 (turns c (fs.take k) (ts.take k)) ∧ 0 ≤ turns c (fs.take k) (ts.take k) ∧ turns c (fs.take k) (ts.take k) ≤ 65535 ∧ wr = w.drewN m) (fun _ i _ _ => n - (intOf i).toNat)
  case atStart => exact ⟨0, 0, by omega, by omega, rfl, by simp [turns], by simpa [turns] using c0, by simpa [turns] using c9, rfl⟩
  case round =>
    obtain ⟨k, m, hk, hk', rfl, rfl, hb0, hb1, rfl⟩ := hrel
    by_cases hlt : k < n ∧ k < n'
    · obtain ⟨hlt, hlt'⟩ := hlt
      have hk1 : k < fs.length := by rw [HN.out]; exact hlt
      have hk2 : k < ts.length := by rw [HN'.out]; exact hlt'
      obtain ⟨b, off, rfl, hbl, hc⟩ := HR.out.at_ (by intro h; simp at h; rw [h] at hk1; simp at hk1)
      obtain ⟨b3, off3, rfl, hbl2, hc2⟩ := HR'.out.at_ (by intro h; simp at h; rw [h] at hk2; simp at hk2)
      have hcell : w.cell? ⟨b, off + k, none⟩ = some (.int .u16 (fs[k])) := hc k _ (by simp [hk1])
      have hcell2 : w.cell? ⟨b3, off3 + k, none⟩ = some (.int .u16 (ts[k])) := hc2 k _ (by simp [hk2])
      have hs := turns_snoc (fs.take k) (ts.take k) c fs[k] ts[k] (by simp; omega)
      rw [← take_snoc fs k hk1, ← take_snoc ts k hk2] at hs
      obtain ⟨f0, f1⟩ := HF.out fs[k] (List.getElem_mem hk1)
      obtain ⟨t0, t1⟩ := HT.out ts[k] (List.getElem_mem hk2)
      clear hc hc2
      generalize turns c (fs.take k) (ts.take k) = z at *
      generalize fs[k] = f at *
      generalize ts[k] = t at *
      have hbd := turn_bd z f t hb1 f1 t0
      rw [← hs] at hbd
      have HSN := Lib.hid hs
      have HBD := Lib.hid hbd
      have hfo := fo_bd (65535 - z + (65535 - f) + t) (by omega)
      have earg : 65535 - z + 65535 - f + t = 65535 - z + (65535 - f) + t := by omega
      have hq : (65535 - fo (65535 - z + (65535 - f) + t) != 65535 - fo (65535 - z + (65535 - f) + t)) = false := by simp
      have q1 : IntKind.i64.wrap (65535 - z) = 65535 - z := by rw [IntKind.wrap_i64]; omega
      have q2 : IntKind.i64.wrap (65535 - z + 65535) = 65535 - z + 65535 := by rw [IntKind.wrap_i64]; omega
      have q3 : IntKind.i64.wrap f = f := by rw [IntKind.wrap_i64]; omega
      have q4 : IntKind.i64.wrap (65535 - z + 65535 - f) = 65535 - z + 65535 - f := by rw [IntKind.wrap_i64]; omega
      have q5 : IntKind.i64.wrap t = t := by rw [IntKind.wrap_i64]; omega
      have q6 : IntKind.i64.wrap (65535 - z + 65535 - f + t) = 65535 - z + (65535 - f) + t := by rw [IntKind.wrap_i64]; omega
      have q7 : IntKind.i64.wrap (65535 - fo (65535 - z + (65535 - f) + t)) = 65535 - fo (65535 - z + (65535 - f) + t) := by rw [IntKind.wrap_i64]; omega
      have q8 : IntKind.u16.wrap z = z := by rw [IntKind.wrap_u16]; omega
      clear hs hbd earg
      go_wp2_with fail
      go_quiet ((go_at_call 55; exact quiet_add_left (refFold_any _ (by omega) (by omega) _)))
      go_wp2_with fail
      go_quiet ((go_at_call 56; exact quiet_add_left (turn_any _ _ _ hb0 hb1 f0 f1 t0 t1 _)))
      go_wp2_with fail
      go_roundw
      case rel => exact ⟨k + 1, _, by omega, by omega, by go_num, by rw [HSN.out]; rfl, HBD.out.1, HBD.out.2, rfl⟩
      case measure => simp [intOf]; omega
    · by_cases hk3 : k < n
      · have hk4 : ¬ k < n' := fun h => hlt ⟨hk3, h⟩
        clear hlt
        have e : turns c (fs.take k) (ts.take k) = turns c fs ts := by
          have : k = min fs.length ts.length := by rw [HN.out, HN'.out]; omega
          rw [this, turns_min]
        rw [e] at hb0 hb1 ⊢
        clear e
        have hqt : (turns c fs ts == turns c fs ts) = true := by simp
        have hqw : IntKind.i64.wrap (turns c fs ts) = turns c fs ts := by rw [IntKind.wrap_i64]; omega
        generalize hz : turns c fs ts = z at *
        have HZ := Lib.hid hz
        clear hz
        go_wp2_with fail
        refine (split_any x _ x0 x1 _).mono ?_
        rintro e w1 ⟨v, rfl, hown, hbel⟩
        rw [HS.out] at hown
        obtain ⟨A3, c3, rfl⟩ := own_slice hown
        have hrow := own_row hown
        have HROW := Lib.hid hrow
        have HB1 := Lib.hid ((below_d w m).trans (hbel.mono (by simp)))
        clear hown hbel hrow
        go_wp2_with fail
        go_loopw [16] (fun y wr => ∃ i m : Nat, i ≤ 0 ∧ y = .int .i64 i ∧ wr = w1.drewN m) (fun y _ => 0 - (intOf y).toNat)
        case atStart => exact ⟨0, 0, by omega, rfl, rfl⟩
        case round =>
          obtain ⟨i, m2, hi, rfl, rfl⟩ := hrel
          obtain rfl : i = 0 := by omega
          have hrA := (HR.out.below HB1.out).below (below_d w1 m2 |>.mono HB1.out.size)
          have hrB := (HR'.out.below HB1.out).below (below_d w1 m2 |>.mono HB1.out.size)
          have HRA := Lib.hid hrA
          have HRB := Lib.hid hrB
          clear hrA hrB
          go_wp2_with fail
          refine (words_any c _ _ _ _ _ _ fs ts _ _ c0 c9 HN.out HN'.out (by omega) hl' HRA.out HRB.out HF.out HT.out).mono ?_
          rintro e w2 ⟨rfl, m3, rfl⟩
          rw [HZ.out]
          go_wp2_with (go_at_call 54; refine (awake_any _).mono ?_; rintro e w3 ⟨rfl, hb⟩; have HB3 := Lib.hid hb; clear hb)
          go_ret
          refine ⟨rfl, HB1.out.trans ?_⟩
          have h3 := HB3.out
          exact (((below_d w1 _).trans (h3.mono (by simp))).mono HB1.out.size)
      · clear hlt
        have e : turns c (fs.take k) (ts.take k) = turns c fs ts := by
          have : k = min fs.length ts.length := by rw [HN.out, HN'.out]; omega
          rw [this, turns_min]
        rw [e] at hb0 hb1 ⊢
        clear e
        have hqt : (turns c fs ts == turns c fs ts) = true := by simp
        have hqw : IntKind.i64.wrap (turns c fs ts) = turns c fs ts := by rw [IntKind.wrap_i64]; omega
        generalize hz : turns c fs ts = z at *
        have HZ := Lib.hid hz
        clear hz
        go_wp2_with fail
        refine (split_any x _ x0 x1 _).mono ?_
        rintro e w1 ⟨v, rfl, hown, hbel⟩
        rw [HS.out] at hown
        obtain ⟨A3, c3, rfl⟩ := own_slice hown
        have hrow := own_row hown
        have HROW := Lib.hid hrow
        have HB1 := Lib.hid ((below_d w m).trans (hbel.mono (by simp)))
        clear hown hbel hrow
        go_wp2_with fail
        go_loopw [16] (fun y wr => ∃ i m : Nat, i ≤ 0 ∧ y = .int .i64 i ∧ wr = w1.drewN m) (fun y _ => 0 - (intOf y).toNat)
        case atStart => exact ⟨0, 0, by omega, rfl, rfl⟩
        case round =>
          obtain ⟨i, m2, hi, rfl, rfl⟩ := hrel
          obtain rfl : i = 0 := by omega
          have hrA := (HR.out.below HB1.out).below (below_d w1 m2 |>.mono HB1.out.size)
          have hrB := (HR'.out.below HB1.out).below (below_d w1 m2 |>.mono HB1.out.size)
          have HRA := Lib.hid hrA
          have HRB := Lib.hid hrB
          clear hrA hrB
          go_wp2_with fail
          refine (words_any c _ _ _ _ _ _ fs ts _ _ c0 c9 HN.out HN'.out (by omega) hl' HRA.out HRB.out HF.out HT.out).mono ?_
          rintro e w2 ⟨rfl, m3, rfl⟩
          rw [HZ.out]
          go_wp2_with (go_at_call 54; refine (awake_any _).mono ?_; rintro e w3 ⟨rfl, hb⟩; have HB3 := Lib.hid hb; clear hb)
          go_ret
          refine ⟨rfl, HB1.out.trans ?_⟩
          have h3 := HB3.out
          exact (((below_d w1 _).trans (h3.mono (by simp))).mono HB1.out.size)
end Go.Proofs.Ytlipemjidjjenaa.sumF
