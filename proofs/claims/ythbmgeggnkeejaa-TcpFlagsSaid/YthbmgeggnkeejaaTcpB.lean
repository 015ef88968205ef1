/- Layer 10: the law on flags. -/
import Derived.Test.YthbmgeggnkeejaaTcpA
namespace Go.Proofs.Ythbmgeggnkeejaa.tcpB
open Go.ChangeShapes Go.WideShapes Go.ChangeAt Go.RowKit
open Go.Proofs.Ythbmgeggnkeejaa.base Go.Proofs.Ythbmgeggnkeejaa.connA Go.Proofs.Ythbmgeggnkeejaa.tcpA
set_option linter.unusedVariables false

def opensB (f : Int) : Bool := hasB f 2 && (bits .and .i64 f 21 == 0)
theorem opens_any (a b c d f g h : Int) (A : Option Addr) (n cp : Nat) (w : World) :
    Calls Try.prog 24 #[.agg #[.int .i64 a, .int .i64 b, .int .u32 c, .int .u32 d, .int .i64 f, .int .i64 g, .int .i64 h, .slice A n cp]] w fun e w' => e = .returned (.bool (opensB f)) ∧ Below w.heap.size w w' := by
  cases b2 : hasB f 2
  · have hv : opensB f = false := by simp [opensB, b2]
    rw [hv]
    have H2 := Lib.hid b2
    clear b2 hv
    go_enter Try.func24, Try.ntmps24
    go_wp2_with fail
    refine (has_any _ _ _ _ _ _ _ _ _ _ _ _).mono ?_
    rintro e w1 ⟨rfl, hb⟩
    rw [H2.out]
    go_wp2_with fail
    go_ret
    exact ⟨rfl, ((Below.refl _ _).alloc (Nat.le_refl _) _).trans (hb.mono (by simp))⟩
  · have hv : opensB f = (bits .and .i64 f 21 == 0) := by simp [opensB, b2]
    rw [hv]
    have H2 := Lib.hid b2
    clear b2 hv
    go_enter Try.func24, Try.ntmps24
    go_wp2_with fail
    refine (has_any _ _ _ _ _ _ _ _ _ _ _ _).mono ?_
    rintro e w1 ⟨rfl, hb⟩
    rw [H2.out]
    obtain ⟨hc, hf⟩ := bcell hb
    have HB := Lib.hid hb
    clear hb
    go_wp2_with fail
    go_ret
    exact ⟨rfl, ((Below.refl _ _).alloc (Nat.le_refl _) _).trans (HB.out.mono (by simp))⟩
theorem awake_any (w : World) :
    Calls Try.prog 22 #[] w fun e w' => e = .returned (.bool true) ∧ Below w.heap.size w w' := by
  have o1 : opensB 2 = true := by decide
  have o2 : opensB 18 = false := by decide
  have H1 := Lib.hid o1
  have H2 := Lib.hid o2
  clear o1 o2
  go_enter Try.func22, Try.ntmps22
  go_wp2_with fail
  refine (opens_any _ _ _ _ _ _ _ _ _ _ _).mono ?_
  rintro e w1 ⟨rfl, hb⟩
  rw [H1.out]
  go_wp2_with fail
  refine (opens_any _ _ _ _ _ _ _ _ _ _ _).mono ?_
  rintro e w2 ⟨rfl, hb2⟩
  rw [H2.out]
  go_wp2_with fail
  go_ret
  exact ⟨rfl, bel_call hb hb2⟩
theorem lawA (a b c d f g h : Int) (A : Option Addr) (n cp : Nat) (y : Int) (w : World) (f0 : 0 ≤ f) (f1 : f < 9223372036854775808) (y0 : 0 ≤ y) (y1 : y < 9223372036854775808) (t2 : (f / 2 % 2 == 1) = false) (ho : opensB f = false) :
    Calls Try.prog 5 #[.agg #[.int .i64 a, .int .i64 b, .int .u32 c, .int .u32 d, .int .i64 f, .int .i64 g, .int .i64 h, .slice A n cp], .int .i64 y] w fun e w' => e = .returned (.bool true) ∧ Below w.heap.size w w' := by
  have HO := Lib.hid ho
  have hall := has_all f y f0 f1 y0 y1
  have HA := Lib.hid hall
  have hin := halfN_in f f0 f1
  have hin2 := halfN_in y y0 y1
  have HI := Lib.hid hin
  have HI2 := Lib.hid hin2
  clear ho hall hin hin2
  go_enter Try.func5, Try.ntmps5
  go_wp2_with fail
  go_loop [5, 6, 7, 8] (fun u x z i => ∃ k : Nat, k ≤ 63 ∧ i = .int .i64 k ∧ u = .bool (allB f y k) ∧ x = .int .i64 (halfN f k) ∧ z = .int .i64 (halfN y k)) (fun _ _ _ i => 63 - (intOf i).toNat)
  case atStart => exact ⟨0, by omega, rfl, rfl, rfl, rfl⟩
  case round =>
    obtain ⟨k, hk, rfl, rfl, rfl, rfl⟩ := hrel
    by_cases hlt : k < 63
    · have i1 := HI.out k
      have i2 := HI2.out k
      have s1 : halfN f (k + 1) = halfN f k / 2 := rfl
      have s2 : halfN y (k + 1) = halfN y k / 2 := rfl
      have s3 : allB f y (k + 1) = if halfN y k % 2 = 1 ∧ halfN f k % 2 = 0 then false else allB f y k := rfl
      have S1 := Lib.hid s1
      have S2 := Lib.hid s2
      by_cases c1 : halfN y k % 2 = 1
      · by_cases c2 : halfN f k % 2 = 0
        · rw [if_pos ⟨c1, c2⟩] at s3
          have S3 := Lib.hid s3
          have t1 : (halfN y k % 2 == 1) = true := by simp [c1]
          have t2 : (halfN f k % 2 == 0) = true := by simp [c2]
          clear s1 s2 s3 c1 c2
          generalize halfN y k = p at *
          generalize halfN f k = q at *
          go_wp2_with fail
          go_round
          case rel => exact ⟨k + 1, by omega, by go_num, by rw [S3.out], by rw [S1.out], by rw [S2.out]⟩
          case measure => simp [intOf]; omega
        · rw [if_neg (fun h => c2 h.2)] at s3
          have S3 := Lib.hid s3
          have t1 : (halfN y k % 2 == 1) = true := by simp [c1]
          have t2 : (halfN f k % 2 == 0) = false := by simp [c2]
          clear s1 s2 s3 c1 c2
          generalize halfN y k = p at *
          generalize halfN f k = q at *
          go_wp2_with fail
          go_round
          case rel => exact ⟨k + 1, by omega, by go_num, by rw [S3.out], by rw [S1.out], by rw [S2.out]⟩
          case measure => simp [intOf]; omega
      · rw [if_neg (fun h => c1 h.1)] at s3
        have S3 := Lib.hid s3
        have t1 : (halfN y k % 2 == 1) = false := by simp [c1]
        clear s1 s2 s3 c1
        generalize halfN y k = p at *
        generalize halfN f k = q at *
        go_wp2_with fail
        go_round
        case rel => exact ⟨k + 1, by omega, by go_num, by rw [S3.out], by rw [S1.out], by rw [S2.out]⟩
        case measure => simp [intOf]; omega
    · obtain rfl : k = 63 := by omega
      rw [← HA.out]
      have o1 : (hasB f y == hasB f y) = true := by simp
      clear hlt hk
      generalize halfN f 63 = p at *
      generalize halfN y 63 = q at *
      go_wp2_with fail
      refine (has_any _ _ _ _ _ _ _ _ _ _ _ _).mono ?_
      rintro e w1 ⟨rfl, hb⟩
      obtain ⟨hc, hf⟩ := bcell hb
      have HB := Lib.hid hb
      have hs : w.heap.size < w1.heap.size := by have := hb.size; first | omega | (simp at this; omega)
      clear hb
      go_wp2_with fail
      refine (opens_any _ _ _ _ _ _ _ _ _ _ _).mono ?_
      rintro e w2 ⟨rfl, hb2⟩
      rw [HO.out]
      have HB2 := Lib.hid hb2
      clear hb2
      go_wp2_with fail
      refine (awake_any _).mono ?_
      rintro e w3 ⟨rfl, hb3⟩
      go_wp2_with fail
      go_ret
      exact ⟨rfl, bel_call (bel_call (bel_call ((Below.refl _ _).alloc (Nat.le_refl _) _) HB.out) HB2.out) hb3⟩
theorem lawB (a b c d f g h : Int) (A : Option Addr) (n cp : Nat) (y : Int) (w : World) (f0 : 0 ≤ f) (f1 : f < 9223372036854775808) (y0 : 0 ≤ y) (y1 : y < 9223372036854775808) (t2 : (f / 2 % 2 == 1) = true) (t1 : (f % 2 == 0) = false) (ho : opensB f = false) :
    Calls Try.prog 5 #[.agg #[.int .i64 a, .int .i64 b, .int .u32 c, .int .u32 d, .int .i64 f, .int .i64 g, .int .i64 h, .slice A n cp], .int .i64 y] w fun e w' => e = .returned (.bool true) ∧ Below w.heap.size w w' := by
  have HO := Lib.hid ho
  have hall := has_all f y f0 f1 y0 y1
  have HA := Lib.hid hall
  have hin := halfN_in f f0 f1
  have hin2 := halfN_in y y0 y1
  have HI := Lib.hid hin
  have HI2 := Lib.hid hin2
  clear ho hall hin hin2
  go_enter Try.func5, Try.ntmps5
  go_wp2_with fail
  go_loop [5, 6, 7, 8] (fun u x z i => ∃ k : Nat, k ≤ 63 ∧ i = .int .i64 k ∧ u = .bool (allB f y k) ∧ x = .int .i64 (halfN f k) ∧ z = .int .i64 (halfN y k)) (fun _ _ _ i => 63 - (intOf i).toNat)
  case atStart => exact ⟨0, by omega, rfl, rfl, rfl, rfl⟩
  case round =>
    obtain ⟨k, hk, rfl, rfl, rfl, rfl⟩ := hrel
    by_cases hlt : k < 63
    · have i1 := HI.out k
      have i2 := HI2.out k
      have s1 : halfN f (k + 1) = halfN f k / 2 := rfl
      have s2 : halfN y (k + 1) = halfN y k / 2 := rfl
      have s3 : allB f y (k + 1) = if halfN y k % 2 = 1 ∧ halfN f k % 2 = 0 then false else allB f y k := rfl
      have S1 := Lib.hid s1
      have S2 := Lib.hid s2
      by_cases c1 : halfN y k % 2 = 1
      · by_cases c2 : halfN f k % 2 = 0
        · rw [if_pos ⟨c1, c2⟩] at s3
          have S3 := Lib.hid s3
          have t1 : (halfN y k % 2 == 1) = true := by simp [c1]
          have t2 : (halfN f k % 2 == 0) = true := by simp [c2]
          clear s1 s2 s3 c1 c2
          generalize halfN y k = p at *
          generalize halfN f k = q at *
          go_wp2_with fail
          go_round
          case rel => exact ⟨k + 1, by omega, by go_num, by rw [S3.out], by rw [S1.out], by rw [S2.out]⟩
          case measure => simp [intOf]; omega
        · rw [if_neg (fun h => c2 h.2)] at s3
          have S3 := Lib.hid s3
          have t1 : (halfN y k % 2 == 1) = true := by simp [c1]
          have t2 : (halfN f k % 2 == 0) = false := by simp [c2]
          clear s1 s2 s3 c1 c2
          generalize halfN y k = p at *
          generalize halfN f k = q at *
          go_wp2_with fail
          go_round
          case rel => exact ⟨k + 1, by omega, by go_num, by rw [S3.out], by rw [S1.out], by rw [S2.out]⟩
          case measure => simp [intOf]; omega
      · rw [if_neg (fun h => c1 h.1)] at s3
        have S3 := Lib.hid s3
        have t1 : (halfN y k % 2 == 1) = false := by simp [c1]
        clear s1 s2 s3 c1
        generalize halfN y k = p at *
        generalize halfN f k = q at *
        go_wp2_with fail
        go_round
        case rel => exact ⟨k + 1, by omega, by go_num, by rw [S3.out], by rw [S1.out], by rw [S2.out]⟩
        case measure => simp [intOf]; omega
    · obtain rfl : k = 63 := by omega
      rw [← HA.out]
      have o1 : (hasB f y == hasB f y) = true := by simp
      clear hlt hk
      generalize halfN f 63 = p at *
      generalize halfN y 63 = q at *
      go_wp2_with fail
      refine (has_any _ _ _ _ _ _ _ _ _ _ _ _).mono ?_
      rintro e w1 ⟨rfl, hb⟩
      obtain ⟨hc, hf⟩ := bcell hb
      have HB := Lib.hid hb
      have hs : w.heap.size < w1.heap.size := by have := hb.size; first | omega | (simp at this; omega)
      clear hb
      go_wp2_with fail
      refine (opens_any _ _ _ _ _ _ _ _ _ _ _).mono ?_
      rintro e w2 ⟨rfl, hb2⟩
      rw [HO.out]
      have HB2 := Lib.hid hb2
      clear hb2
      go_wp2_with fail
      refine (awake_any _).mono ?_
      rintro e w3 ⟨rfl, hb3⟩
      go_wp2_with fail
      go_ret
      exact ⟨rfl, bel_call (bel_call (bel_call ((Below.refl _ _).alloc (Nat.le_refl _) _) HB.out) HB2.out) hb3⟩
theorem lawC (a b c d f g h : Int) (A : Option Addr) (n cp : Nat) (y : Int) (w : World) (f0 : 0 ≤ f) (f1 : f < 9223372036854775808) (y0 : 0 ≤ y) (y1 : y < 9223372036854775808) (t2 : (f / 2 % 2 == 1) = true) (t1 : (f % 2 == 0) = true) (t4 : (f / 4 % 2 == 0) = false) (ho : opensB f = false) :
    Calls Try.prog 5 #[.agg #[.int .i64 a, .int .i64 b, .int .u32 c, .int .u32 d, .int .i64 f, .int .i64 g, .int .i64 h, .slice A n cp], .int .i64 y] w fun e w' => e = .returned (.bool true) ∧ Below w.heap.size w w' := by
  have HO := Lib.hid ho
  have hall := has_all f y f0 f1 y0 y1
  have HA := Lib.hid hall
  have hin := halfN_in f f0 f1
  have hin2 := halfN_in y y0 y1
  have HI := Lib.hid hin
  have HI2 := Lib.hid hin2
  clear ho hall hin hin2
  go_enter Try.func5, Try.ntmps5
  go_wp2_with fail
  go_loop [5, 6, 7, 8] (fun u x z i => ∃ k : Nat, k ≤ 63 ∧ i = .int .i64 k ∧ u = .bool (allB f y k) ∧ x = .int .i64 (halfN f k) ∧ z = .int .i64 (halfN y k)) (fun _ _ _ i => 63 - (intOf i).toNat)
  case atStart => exact ⟨0, by omega, rfl, rfl, rfl, rfl⟩
  case round =>
    obtain ⟨k, hk, rfl, rfl, rfl, rfl⟩ := hrel
    by_cases hlt : k < 63
    · have i1 := HI.out k
      have i2 := HI2.out k
      have s1 : halfN f (k + 1) = halfN f k / 2 := rfl
      have s2 : halfN y (k + 1) = halfN y k / 2 := rfl
      have s3 : allB f y (k + 1) = if halfN y k % 2 = 1 ∧ halfN f k % 2 = 0 then false else allB f y k := rfl
      have S1 := Lib.hid s1
      have S2 := Lib.hid s2
      by_cases c1 : halfN y k % 2 = 1
      · by_cases c2 : halfN f k % 2 = 0
        · rw [if_pos ⟨c1, c2⟩] at s3
          have S3 := Lib.hid s3
          have t1 : (halfN y k % 2 == 1) = true := by simp [c1]
          have t2 : (halfN f k % 2 == 0) = true := by simp [c2]
          clear s1 s2 s3 c1 c2
          generalize halfN y k = p at *
          generalize halfN f k = q at *
          go_wp2_with fail
          go_round
          case rel => exact ⟨k + 1, by omega, by go_num, by rw [S3.out], by rw [S1.out], by rw [S2.out]⟩
          case measure => simp [intOf]; omega
        · rw [if_neg (fun h => c2 h.2)] at s3
          have S3 := Lib.hid s3
          have t1 : (halfN y k % 2 == 1) = true := by simp [c1]
          have t2 : (halfN f k % 2 == 0) = false := by simp [c2]
          clear s1 s2 s3 c1 c2
          generalize halfN y k = p at *
          generalize halfN f k = q at *
          go_wp2_with fail
          go_round
          case rel => exact ⟨k + 1, by omega, by go_num, by rw [S3.out], by rw [S1.out], by rw [S2.out]⟩
          case measure => simp [intOf]; omega
      · rw [if_neg (fun h => c1 h.1)] at s3
        have S3 := Lib.hid s3
        have t1 : (halfN y k % 2 == 1) = false := by simp [c1]
        clear s1 s2 s3 c1
        generalize halfN y k = p at *
        generalize halfN f k = q at *
        go_wp2_with fail
        go_round
        case rel => exact ⟨k + 1, by omega, by go_num, by rw [S3.out], by rw [S1.out], by rw [S2.out]⟩
        case measure => simp [intOf]; omega
    · obtain rfl : k = 63 := by omega
      rw [← HA.out]
      have o1 : (hasB f y == hasB f y) = true := by simp
      clear hlt hk
      generalize halfN f 63 = p at *
      generalize halfN y 63 = q at *
      go_wp2_with fail
      refine (has_any _ _ _ _ _ _ _ _ _ _ _ _).mono ?_
      rintro e w1 ⟨rfl, hb⟩
      obtain ⟨hc, hf⟩ := bcell hb
      have HB := Lib.hid hb
      have hs : w.heap.size < w1.heap.size := by have := hb.size; first | omega | (simp at this; omega)
      clear hb
      go_wp2_with fail
      refine (opens_any _ _ _ _ _ _ _ _ _ _ _).mono ?_
      rintro e w2 ⟨rfl, hb2⟩
      rw [HO.out]
      have HB2 := Lib.hid hb2
      clear hb2
      go_wp2_with fail
      refine (awake_any _).mono ?_
      rintro e w3 ⟨rfl, hb3⟩
      go_wp2_with fail
      go_ret
      exact ⟨rfl, bel_call (bel_call (bel_call ((Below.refl _ _).alloc (Nat.le_refl _) _) HB.out) HB2.out) hb3⟩
theorem lawD (a b c d f g h : Int) (A : Option Addr) (n cp : Nat) (y : Int) (w : World) (f0 : 0 ≤ f) (f1 : f < 9223372036854775808) (y0 : 0 ≤ y) (y1 : y < 9223372036854775808) (t2 : (f / 2 % 2 == 1) = true) (t1 : (f % 2 == 0) = true) (t4 : (f / 4 % 2 == 0) = true) (t16 : (f / 16 % 2 == 0) = false) (ho : opensB f = false) :
    Calls Try.prog 5 #[.agg #[.int .i64 a, .int .i64 b, .int .u32 c, .int .u32 d, .int .i64 f, .int .i64 g, .int .i64 h, .slice A n cp], .int .i64 y] w fun e w' => e = .returned (.bool true) ∧ Below w.heap.size w w' := by
  have HO := Lib.hid ho
  have hall := has_all f y f0 f1 y0 y1
  have HA := Lib.hid hall
  have hin := halfN_in f f0 f1
  have hin2 := halfN_in y y0 y1
  have HI := Lib.hid hin
  have HI2 := Lib.hid hin2
  clear ho hall hin hin2
  go_enter Try.func5, Try.ntmps5
  go_wp2_with fail
  go_loop [5, 6, 7, 8] (fun u x z i => ∃ k : Nat, k ≤ 63 ∧ i = .int .i64 k ∧ u = .bool (allB f y k) ∧ x = .int .i64 (halfN f k) ∧ z = .int .i64 (halfN y k)) (fun _ _ _ i => 63 - (intOf i).toNat)
  case atStart => exact ⟨0, by omega, rfl, rfl, rfl, rfl⟩
  case round =>
    obtain ⟨k, hk, rfl, rfl, rfl, rfl⟩ := hrel
    by_cases hlt : k < 63
    · have i1 := HI.out k
      have i2 := HI2.out k
      have s1 : halfN f (k + 1) = halfN f k / 2 := rfl
      have s2 : halfN y (k + 1) = halfN y k / 2 := rfl
      have s3 : allB f y (k + 1) = if halfN y k % 2 = 1 ∧ halfN f k % 2 = 0 then false else allB f y k := rfl
      have S1 := Lib.hid s1
      have S2 := Lib.hid s2
      by_cases c1 : halfN y k % 2 = 1
      · by_cases c2 : halfN f k % 2 = 0
        · rw [if_pos ⟨c1, c2⟩] at s3
          have S3 := Lib.hid s3
          have t1 : (halfN y k % 2 == 1) = true := by simp [c1]
          have t2 : (halfN f k % 2 == 0) = true := by simp [c2]
          clear s1 s2 s3 c1 c2
          generalize halfN y k = p at *
          generalize halfN f k = q at *
          go_wp2_with fail
          go_round
          case rel => exact ⟨k + 1, by omega, by go_num, by rw [S3.out], by rw [S1.out], by rw [S2.out]⟩
          case measure => simp [intOf]; omega
        · rw [if_neg (fun h => c2 h.2)] at s3
          have S3 := Lib.hid s3
          have t1 : (halfN y k % 2 == 1) = true := by simp [c1]
          have t2 : (halfN f k % 2 == 0) = false := by simp [c2]
          clear s1 s2 s3 c1 c2
          generalize halfN y k = p at *
          generalize halfN f k = q at *
          go_wp2_with fail
          go_round
          case rel => exact ⟨k + 1, by omega, by go_num, by rw [S3.out], by rw [S1.out], by rw [S2.out]⟩
          case measure => simp [intOf]; omega
      · rw [if_neg (fun h => c1 h.1)] at s3
        have S3 := Lib.hid s3
        have t1 : (halfN y k % 2 == 1) = false := by simp [c1]
        clear s1 s2 s3 c1
        generalize halfN y k = p at *
        generalize halfN f k = q at *
        go_wp2_with fail
        go_round
        case rel => exact ⟨k + 1, by omega, by go_num, by rw [S3.out], by rw [S1.out], by rw [S2.out]⟩
        case measure => simp [intOf]; omega
    · obtain rfl : k = 63 := by omega
      rw [← HA.out]
      have o1 : (hasB f y == hasB f y) = true := by simp
      clear hlt hk
      generalize halfN f 63 = p at *
      generalize halfN y 63 = q at *
      go_wp2_with fail
      refine (has_any _ _ _ _ _ _ _ _ _ _ _ _).mono ?_
      rintro e w1 ⟨rfl, hb⟩
      obtain ⟨hc, hf⟩ := bcell hb
      have HB := Lib.hid hb
      have hs : w.heap.size < w1.heap.size := by have := hb.size; first | omega | (simp at this; omega)
      clear hb
      go_wp2_with fail
      refine (opens_any _ _ _ _ _ _ _ _ _ _ _).mono ?_
      rintro e w2 ⟨rfl, hb2⟩
      rw [HO.out]
      have HB2 := Lib.hid hb2
      clear hb2
      go_wp2_with fail
      refine (awake_any _).mono ?_
      rintro e w3 ⟨rfl, hb3⟩
      go_wp2_with fail
      go_ret
      exact ⟨rfl, bel_call (bel_call (bel_call ((Below.refl _ _).alloc (Nat.le_refl _) _) HB.out) HB2.out) hb3⟩
theorem lawE (a b c d f g h : Int) (A : Option Addr) (n cp : Nat) (y : Int) (w : World) (f0 : 0 ≤ f) (f1 : f < 9223372036854775808) (y0 : 0 ≤ y) (y1 : y < 9223372036854775808) (t2 : (f / 2 % 2 == 1) = true) (t1 : (f % 2 == 0) = true) (t4 : (f / 4 % 2 == 0) = true) (t16 : (f / 16 % 2 == 0) = true) (ho : opensB f = true) :
    Calls Try.prog 5 #[.agg #[.int .i64 a, .int .i64 b, .int .u32 c, .int .u32 d, .int .i64 f, .int .i64 g, .int .i64 h, .slice A n cp], .int .i64 y] w fun e w' => e = .returned (.bool true) ∧ Below w.heap.size w w' := by
  have HO := Lib.hid ho
  have hall := has_all f y f0 f1 y0 y1
  have HA := Lib.hid hall
  have hin := halfN_in f f0 f1
  have hin2 := halfN_in y y0 y1
  have HI := Lib.hid hin
  have HI2 := Lib.hid hin2
  clear ho hall hin hin2
  go_enter Try.func5, Try.ntmps5
  go_wp2_with fail
  go_loop [5, 6, 7, 8] (fun u x z i => ∃ k : Nat, k ≤ 63 ∧ i = .int .i64 k ∧ u = .bool (allB f y k) ∧ x = .int .i64 (halfN f k) ∧ z = .int .i64 (halfN y k)) (fun _ _ _ i => 63 - (intOf i).toNat)
  case atStart => exact ⟨0, by omega, rfl, rfl, rfl, rfl⟩
  case round =>
    obtain ⟨k, hk, rfl, rfl, rfl, rfl⟩ := hrel
    by_cases hlt : k < 63
    · have i1 := HI.out k
      have i2 := HI2.out k
      have s1 : halfN f (k + 1) = halfN f k / 2 := rfl
      have s2 : halfN y (k + 1) = halfN y k / 2 := rfl
      have s3 : allB f y (k + 1) = if halfN y k % 2 = 1 ∧ halfN f k % 2 = 0 then false else allB f y k := rfl
      have S1 := Lib.hid s1
      have S2 := Lib.hid s2
      by_cases c1 : halfN y k % 2 = 1
      · by_cases c2 : halfN f k % 2 = 0
        · rw [if_pos ⟨c1, c2⟩] at s3
          have S3 := Lib.hid s3
          have t1 : (halfN y k % 2 == 1) = true := by simp [c1]
          have t2 : (halfN f k % 2 == 0) = true := by simp [c2]
          clear s1 s2 s3 c1 c2
          generalize halfN y k = p at *
          generalize halfN f k = q at *
          go_wp2_with fail
          go_round
          case rel => exact ⟨k + 1, by omega, by go_num, by rw [S3.out], by rw [S1.out], by rw [S2.out]⟩
          case measure => simp [intOf]; omega
        · rw [if_neg (fun h => c2 h.2)] at s3
          have S3 := Lib.hid s3
          have t1 : (halfN y k % 2 == 1) = true := by simp [c1]
          have t2 : (halfN f k % 2 == 0) = false := by simp [c2]
          clear s1 s2 s3 c1 c2
          generalize halfN y k = p at *
          generalize halfN f k = q at *
          go_wp2_with fail
          go_round
          case rel => exact ⟨k + 1, by omega, by go_num, by rw [S3.out], by rw [S1.out], by rw [S2.out]⟩
          case measure => simp [intOf]; omega
      · rw [if_neg (fun h => c1 h.1)] at s3
        have S3 := Lib.hid s3
        have t1 : (halfN y k % 2 == 1) = false := by simp [c1]
        clear s1 s2 s3 c1
        generalize halfN y k = p at *
        generalize halfN f k = q at *
        go_wp2_with fail
        go_round
        case rel => exact ⟨k + 1, by omega, by go_num, by rw [S3.out], by rw [S1.out], by rw [S2.out]⟩
        case measure => simp [intOf]; omega
    · obtain rfl : k = 63 := by omega
      rw [← HA.out]
      have o1 : (hasB f y == hasB f y) = true := by simp
      clear hlt hk
      generalize halfN f 63 = p at *
      generalize halfN y 63 = q at *
      go_wp2_with fail
      refine (has_any _ _ _ _ _ _ _ _ _ _ _ _).mono ?_
      rintro e w1 ⟨rfl, hb⟩
      obtain ⟨hc, hf⟩ := bcell hb
      have HB := Lib.hid hb
      have hs : w.heap.size < w1.heap.size := by have := hb.size; first | omega | (simp at this; omega)
      clear hb
      go_wp2_with fail
      refine (opens_any _ _ _ _ _ _ _ _ _ _ _).mono ?_
      rintro e w2 ⟨rfl, hb2⟩
      rw [HO.out]
      have HB2 := Lib.hid hb2
      clear hb2
      go_wp2_with fail
      refine (awake_any _).mono ?_
      rintro e w3 ⟨rfl, hb3⟩
      go_wp2_with fail
      go_ret
      exact ⟨rfl, bel_call (bel_call (bel_call ((Below.refl _ _).alloc (Nat.le_refl _) _) HB.out) HB2.out) hb3⟩
theorem law_any (a b c d f g h : Int) (A : Option Addr) (n cp : Nat) (y : Int) (w : World) (f0 : -9223372036854775808 ≤ f) (f1 : f < 9223372036854775808) (y0 : -9223372036854775808 ≤ y) (y1 : y < 9223372036854775808) :
    Calls Try.prog 5 #[.agg #[.int .i64 a, .int .i64 b, .int .u32 c, .int .u32 d, .int .i64 f, .int .i64 g, .int .i64 h, .slice A n cp], .int .i64 y] w fun e w' => e = .returned (.bool true) ∧ Below w.heap.size w w' := by
  by_cases hy : y < 0
  · go_enter Try.func5, Try.ntmps5
    go_wp2_with fail
    refine (awake_any _).mono ?_
    rintro e w1 ⟨rfl, hb⟩
    go_wp2_with fail
    go_ret
    exact ⟨rfl, bel_call ((Below.refl _ _).alloc (Nat.le_refl _) _) hb⟩
  · by_cases hf : f < 0
    · go_enter Try.func5, Try.ntmps5
      go_wp2_with fail
      refine (awake_any _).mono ?_
      rintro e w1 ⟨rfl, hb⟩
      go_wp2_with fail
      go_ret
      exact ⟨rfl, bel_call ((Below.refl _ _).alloc (Nat.le_refl _) _) hb⟩
    · have f0' : 0 ≤ f := by omega
      have y0' : 0 ≤ y := by omega
      have e21 := and21 f f0' f1
      have e2 := has2 f f0' f1
      have e1 : (f % 2 == 0) = !hasB f 1 := by
        have := has_pow f 0 (by decide) f0' f1
        have h1 : hasB f 1 = (f / 1 % 2 == 1) := this
        rw [h1, Int.ediv_one, Bool.eq_iff_iff]; simp; omega
      have e4 : (f / 4 % 2 == 0) = !hasB f 4 := by
        have h1 : hasB f 4 = (f / 4 % 2 == 1) := (has4 f f0' f1).symm
        rw [h1, Bool.eq_iff_iff]; simp; omega
      have e16 : (f / 16 % 2 == 0) = !hasB f 16 := by
        have := has_pow f 4 (by decide) f0' f1
        have h1 : hasB f 16 = (f / 16 % 2 == 1) := this
        rw [h1, Bool.eq_iff_iff]; simp; omega
      cases b2 : hasB f 2
      · exact lawA a b c d f g h A n cp y w f0' f1 y0' y1 (by rw [e2, b2]) (by simp [opensB, b2])
      · cases b1 : hasB f 1
        · cases b4 : hasB f 4
          · cases b16 : hasB f 16
            · exact lawE a b c d f g h A n cp y w f0' f1 y0' y1 (by rw [e2, b2]) (by rw [e1, b1]; rfl) (by rw [e4, b4]; rfl) (by rw [e16, b16]; rfl) (by simp only [opensB, b2, e21, b1, b4, b16]; rfl)
            · exact lawD a b c d f g h A n cp y w f0' f1 y0' y1 (by rw [e2, b2]) (by rw [e1, b1]; rfl) (by rw [e4, b4]; rfl) (by rw [e16, b16]; rfl) (by simp only [opensB, b2, e21, b1, b4, b16]; rfl)
          · exact lawC a b c d f g h A n cp y w f0' f1 y0' y1 (by rw [e2, b2]) (by rw [e1, b1]; rfl) (by rw [e4, b4]; rfl) (by simp only [opensB, b2, e21, b1, b4]; rfl)
        · exact lawB a b c d f g h A n cp y w f0' f1 y0' y1 (by rw [e2, b2]) (by rw [e1, b1]; rfl) (by simp only [opensB, b2, e21, b1]; rfl)
end Go.Proofs.Ythbmgeggnkeejaa.tcpB
