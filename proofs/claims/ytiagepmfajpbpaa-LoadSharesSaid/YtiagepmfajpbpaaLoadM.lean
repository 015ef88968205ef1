/- Layer 24: which counts may be: the code's word, and the law's. -/
import Derived.Test.YtiagepmfajpbpaaLoadL
namespace Go.Proofs.Ytiagepmfajpbpaa.loadM
open Go.ChangeShapes Go.WideShapes Go.ChangeAt Go.RowKit
open Go.Proofs.Ytiagepmfajpbpaa.base Go.Proofs.Ytiagepmfajpbpaa.loadA Go.Proofs.Ytiagepmfajpbpaa.loadB
set_option linter.unusedVariables false

theorem right_no (A B : Option Addr) (n c m d : Nat) (xs ys : List Int) (f : Int) (w : World) (hl : xs.length = n) (al : ys.length = m) (hr : Row w w.heap.size A (xs.map (.int .i64))) (ar : Row w w.heap.size B (ys.map (.int .i64)))
    (hn : n ≤ 9223372036854775807) (hm : m ≤ 9223372036854775807) (hp : ¬ rightP xs ys f) :
    Calls Try.prog 11 #[.slice A n c, .slice B m d, .int .i64 f] w fun e w' => e = .returned (.bool false) ∧ Below w.heap.size w w' := by
  by_cases hnm : n ≠ m
  · have t1 : ((n : Int) != (m : Int)) = true := by simp; omega
    clear hp hr ar hl al hnm
    go_enter Try.func11, Try.ntmps11
    go_wp2_with fail
    go_ret
    exact ⟨rfl, Below.refl _ _⟩
  have t1 : ((n : Int) != (m : Int)) = false := by simp; omega
  by_cases h4 : 4 < n
  · have t2 : decide ((4 : Int) < (n : Int)) = true := by simp; omega
    clear hp hr ar hl al hnm
    go_enter Try.func11, Try.ntmps11
    go_wp2_with fail
    go_ret
    exact ⟨rfl, Below.refl _ _⟩
  have t2 : decide ((4 : Int) < (n : Int)) = false := by simp; omega
  by_cases h5 : f < 100
  · clear hp hr ar hl al hnm
    go_enter Try.func11, Try.ntmps11
    go_wp2_with fail
    go_ret
    exact ⟨rfl, Below.refl _ _⟩
  by_cases h6 : 1000 < f
  · clear hp hr ar hl al hnm
    go_enter Try.func11, Try.ntmps11
    go_wp2_with fail
    go_ret
    exact ⟨rfl, Below.refl _ _⟩
  have p5 : ¬ okAll xs ys n := fun h => hp ⟨by omega, by omega, by omega, by omega, by rw [hl]; exact h⟩
  have HH := Lib.hid hl
  have HA := Lib.hid al
  have HR := Lib.hid hr
  have AR := Lib.hid ar
  have HP := Lib.hid p5
  have n4 : n ≤ 4 := by omega
  have nm : n = m := by omega
  have f1 : 100 ≤ f := by omega
  have f2 : f ≤ 1000 := by omega
  clear hl al hr ar p5 hp hnm h4 h5 h6
  go_enter Try.func11, Try.ntmps11
  go_wp2_with fail
  go_loopw [28] (fun i wr => ∃ k : Nat, k ≤ n ∧ i = .int .i64 k ∧ okAll xs ys k ∧ Below w.heap.size w wr) (fun i _ => n - (intOf i).toNat)
  case atStart => exact ⟨0, by omega, rfl, fun i hi => absurd hi (by omega), Below.refl _ _⟩
  case round =>
    obtain ⟨k, hk, rfl, hall, hbel⟩ := hrel
    by_cases hlt : k < n
    · obtain ⟨b, off, rfl, _, hc⟩ := row_get (HR.out.below hbel) (by rw [HH.out]; omega)
      obtain ⟨b2, off2, rfl, _, hc2⟩ := row_get (AR.out.below hbel) (by rw [HA.out]; omega)
      have c1 := hc k (by rw [HH.out]; exact hlt)
      have c2 := hc2 k (by rw [HA.out]; omega)
      have HBel := Lib.hid hbel
      have HALL := Lib.hid hall
      have km : k < m := by omega
      clear hc hc2 hbel nm hall
      have hkd : okp (xs.getD k 0) (ys.getD k 0) = true ∨ okp (xs.getD k 0) (ys.getD k 0) = false := by cases okp (xs.getD k 0) (ys.getD k 0) <;> simp
      have HX := Lib.hid (show okp (xs.getD k 0) (ys.getD k 0) = okp (xs.getD k 0) (ys.getD k 0) from rfl)
      have hnext : okp (xs.getD k 0) (ys.getD k 0) = true → okAll xs ys (k + 1) := fun h i hi => by
        rcases Nat.lt_or_ge i k with g | g
        · exact HALL.out i g
        · obtain rfl : i = k := by omega
          exact h
      have HNEXT := Lib.hid hnext
      clear hnext HX
      rcases hkd with ok | ok
      · have HS := Lib.hid (HNEXT.out ok)
        clear HNEXT HALL
        have ok' : 0 ≤ xs.getD k 0 ∧ xs.getD k 0 ≤ ys.getD k 0 ∧ ys.getD k 0 ≤ 1048576 := by simpa [okp] using ok
        clear ok
        generalize xs.getD k 0 = x at *
        generalize ys.getD k 0 = y at *
        obtain ⟨o1, o2, o3⟩ := ok'
        have q1 : decide (x < 0) = false := by simp; omega
        have q2 : decide (y < x) = false := by simp; omega
        have q3 : decide (1048576 < y) = false := by simp; omega
        go_wp2_with fail
        go_quiet (fail)
        go_wp2_with fail
        go_roundw
        case rel => exact ⟨k + 1, by omega, by go_num, HS.out, below_drewN HBel.out _⟩
        case measure => simp [intOf]; omega
      · clear HNEXT HALL
        have ok' : ¬ (0 ≤ xs.getD k 0 ∧ xs.getD k 0 ≤ ys.getD k 0 ∧ ys.getD k 0 ≤ 1048576) := by simpa [okp] using ok
        clear ok
        generalize xs.getD k 0 = x at *
        generalize ys.getD k 0 = y at *
        have ok2 : x < 0 ∨ (0 ≤ x ∧ y < x) ∨ (0 ≤ x ∧ x ≤ y ∧ 1048576 < y) := by omega
        clear ok'
        rcases ok2 with o1 | ⟨o1, o2⟩ | ⟨o1, o2, o3⟩
        · have q1 : decide (x < 0) = true := by simp; omega
          go_wp2_with fail
          go_quiet (fail)
          go_wp2_with fail
          go_ret
          exact ⟨rfl, below_drewN HBel.out _⟩
        · have q1 : decide (x < 0) = false := by simp; omega
          have q2 : decide (y < x) = true := by simp; omega
          go_wp2_with fail
          go_quiet (fail)
          go_wp2_with fail
          go_ret
          exact ⟨rfl, below_drewN HBel.out _⟩
        · have q1 : decide (x < 0) = false := by simp; omega
          have q2 : decide (y < x) = false := by simp; omega
          have q3 : decide (1048576 < y) = true := by simp; omega
          go_wp2_with fail
          go_quiet (fail)
          go_wp2_with fail
          go_ret
          exact ⟨rfl, below_drewN HBel.out _⟩
    · obtain rfl : n = k := by omega
      exact absurd hall HP.out
theorem lawright_yes (A B : Option Addr) (n c m d : Nat) (xs ys : List Int) (f : Int) (w : World) (hl : xs.length = n) (al : ys.length = m) (hr : Row w w.heap.size A (xs.map (.int .i64))) (ar : Row w w.heap.size B (ys.map (.int .i64)))
    (hn : n ≤ 9223372036854775807) (hm : m ≤ 9223372036854775807) (hp : rightP xs ys f) :
    Calls Try.prog 12 #[.slice A n c, .slice B m d, .int .i64 f] w fun e w' => e = .returned (.bool true) ∧ Below w.heap.size w w' := by
  obtain ⟨p1, p2, p3, p4, p5⟩ := hp
  have t1 : ((n : Int) != (m : Int)) = false := by simp; omega
  have t2 : decide ((4 : Int) < (n : Int)) = false := by simp; omega
  have HH := Lib.hid hl
  have HA := Lib.hid al
  have HR := Lib.hid hr
  have AR := Lib.hid ar
  have HP := Lib.hid p5
  have n4 : n ≤ 4 := by omega
  have nm : n = m := by omega
  clear hl al hr ar p1 p2 p5
  go_enter Try.func12, Try.ntmps12
  go_wp2_with fail
  go_loopw [7] (fun i wr => ∃ k : Nat, k ≤ n ∧ i = .int .i64 k ∧ okAll xs ys k ∧ Below w.heap.size w wr) (fun i _ => n - (intOf i).toNat)
  case atStart => exact ⟨0, by omega, rfl, fun i hi => absurd hi (by omega), Below.refl _ _⟩
  case round =>
    obtain ⟨k, hk, rfl, hall, hbel⟩ := hrel
    by_cases hlt : k < n
    · obtain ⟨b, off, rfl, _, hc⟩ := row_get (HR.out.below hbel) (by rw [HH.out]; omega)
      obtain ⟨b2, off2, rfl, _, hc2⟩ := row_get (AR.out.below hbel) (by rw [HA.out]; omega)
      have c1 := hc k (by rw [HH.out]; exact hlt)
      have c2 := hc2 k (by rw [HA.out]; omega)
      have HBel := Lib.hid hbel
      have HALL := Lib.hid hall
      have km : k < m := by omega
      clear hc hc2 hbel nm hall
      have hkd : okp (xs.getD k 0) (ys.getD k 0) = true ∨ okp (xs.getD k 0) (ys.getD k 0) = false := by cases okp (xs.getD k 0) (ys.getD k 0) <;> simp
      have HX := Lib.hid (show okp (xs.getD k 0) (ys.getD k 0) = okp (xs.getD k 0) (ys.getD k 0) from rfl)
      have hnext : okp (xs.getD k 0) (ys.getD k 0) = true → okAll xs ys (k + 1) := fun h i hi => by
        rcases Nat.lt_or_ge i k with g | g
        · exact HALL.out i g
        · obtain rfl : i = k := by omega
          exact h
      have HNEXT := Lib.hid hnext
      clear hnext HX
      rcases hkd with ok | ok
      · have HS := Lib.hid (HNEXT.out ok)
        clear HNEXT HALL
        have ok' : 0 ≤ xs.getD k 0 ∧ xs.getD k 0 ≤ ys.getD k 0 ∧ ys.getD k 0 ≤ 1048576 := by simpa [okp] using ok
        clear ok
        generalize xs.getD k 0 = x at *
        generalize ys.getD k 0 = y at *
        obtain ⟨o1, o2, o3⟩ := ok'
        have q1 : decide (x < 0) = false := by simp; omega
        have q2 : decide (y < x) = false := by simp; omega
        have q3 : decide (1048576 < y) = false := by simp; omega
        go_wp2_with fail
        go_quiet (fail)
        go_wp2_with fail
        go_roundw
        case rel => exact ⟨k + 1, by omega, by go_num, HS.out, below_drewN HBel.out _⟩
        case measure => simp [intOf]; omega
      · exact absurd (HP.out k (by rw [HH.out]; exact hlt)) (by rw [ok]; simp)
    · have HBel := Lib.hid hbel
      clear hbel hall
      go_wp2_with fail
      go_ret
      exact ⟨rfl, HBel.out⟩
theorem lawright_no (A B : Option Addr) (n c m d : Nat) (xs ys : List Int) (f : Int) (w : World) (hl : xs.length = n) (al : ys.length = m) (hr : Row w w.heap.size A (xs.map (.int .i64))) (ar : Row w w.heap.size B (ys.map (.int .i64)))
    (hn : n ≤ 9223372036854775807) (hm : m ≤ 9223372036854775807) (hp : ¬ rightP xs ys f) :
    Calls Try.prog 12 #[.slice A n c, .slice B m d, .int .i64 f] w fun e w' => e = .returned (.bool false) ∧ Below w.heap.size w w' := by
  by_cases hnm : n ≠ m
  · have t1 : ((n : Int) != (m : Int)) = true := by simp; omega
    clear hp hr ar hl al hnm
    go_enter Try.func12, Try.ntmps12
    go_wp2_with fail
    go_ret
    exact ⟨rfl, Below.refl _ _⟩
  have t1 : ((n : Int) != (m : Int)) = false := by simp; omega
  by_cases h4 : 4 < n
  · have t2 : decide ((4 : Int) < (n : Int)) = true := by simp; omega
    clear hp hr ar hl al hnm
    go_enter Try.func12, Try.ntmps12
    go_wp2_with fail
    go_ret
    exact ⟨rfl, Below.refl _ _⟩
  have t2 : decide ((4 : Int) < (n : Int)) = false := by simp; omega
  by_cases h5 : f < 100
  · clear hp hr ar hl al hnm
    go_enter Try.func12, Try.ntmps12
    go_wp2_with fail
    go_ret
    exact ⟨rfl, Below.refl _ _⟩
  by_cases h6 : 1000 < f
  · clear hp hr ar hl al hnm
    go_enter Try.func12, Try.ntmps12
    go_wp2_with fail
    go_ret
    exact ⟨rfl, Below.refl _ _⟩
  have p5 : ¬ okAll xs ys n := fun h => hp ⟨by omega, by omega, by omega, by omega, by rw [hl]; exact h⟩
  have HH := Lib.hid hl
  have HA := Lib.hid al
  have HR := Lib.hid hr
  have AR := Lib.hid ar
  have HP := Lib.hid p5
  have n4 : n ≤ 4 := by omega
  have nm : n = m := by omega
  have f1 : 100 ≤ f := by omega
  have f2 : f ≤ 1000 := by omega
  clear hl al hr ar p5 hp hnm h4 h5 h6
  go_enter Try.func12, Try.ntmps12
  go_wp2_with fail
  go_loopw [7] (fun i wr => ∃ k : Nat, k ≤ n ∧ i = .int .i64 k ∧ okAll xs ys k ∧ Below w.heap.size w wr) (fun i _ => n - (intOf i).toNat)
  case atStart => exact ⟨0, by omega, rfl, fun i hi => absurd hi (by omega), Below.refl _ _⟩
  case round =>
    obtain ⟨k, hk, rfl, hall, hbel⟩ := hrel
    by_cases hlt : k < n
    · obtain ⟨b, off, rfl, _, hc⟩ := row_get (HR.out.below hbel) (by rw [HH.out]; omega)
      obtain ⟨b2, off2, rfl, _, hc2⟩ := row_get (AR.out.below hbel) (by rw [HA.out]; omega)
      have c1 := hc k (by rw [HH.out]; exact hlt)
      have c2 := hc2 k (by rw [HA.out]; omega)
      have HBel := Lib.hid hbel
      have HALL := Lib.hid hall
      have km : k < m := by omega
      clear hc hc2 hbel nm hall
      have hkd : okp (xs.getD k 0) (ys.getD k 0) = true ∨ okp (xs.getD k 0) (ys.getD k 0) = false := by cases okp (xs.getD k 0) (ys.getD k 0) <;> simp
      have HX := Lib.hid (show okp (xs.getD k 0) (ys.getD k 0) = okp (xs.getD k 0) (ys.getD k 0) from rfl)
      have hnext : okp (xs.getD k 0) (ys.getD k 0) = true → okAll xs ys (k + 1) := fun h i hi => by
        rcases Nat.lt_or_ge i k with g | g
        · exact HALL.out i g
        · obtain rfl : i = k := by omega
          exact h
      have HNEXT := Lib.hid hnext
      clear hnext HX
      rcases hkd with ok | ok
      · have HS := Lib.hid (HNEXT.out ok)
        clear HNEXT HALL
        have ok' : 0 ≤ xs.getD k 0 ∧ xs.getD k 0 ≤ ys.getD k 0 ∧ ys.getD k 0 ≤ 1048576 := by simpa [okp] using ok
        clear ok
        generalize xs.getD k 0 = x at *
        generalize ys.getD k 0 = y at *
        obtain ⟨o1, o2, o3⟩ := ok'
        have q1 : decide (x < 0) = false := by simp; omega
        have q2 : decide (y < x) = false := by simp; omega
        have q3 : decide (1048576 < y) = false := by simp; omega
        go_wp2_with fail
        go_quiet (fail)
        go_wp2_with fail
        go_roundw
        case rel => exact ⟨k + 1, by omega, by go_num, HS.out, below_drewN HBel.out _⟩
        case measure => simp [intOf]; omega
      · clear HNEXT HALL
        have ok' : ¬ (0 ≤ xs.getD k 0 ∧ xs.getD k 0 ≤ ys.getD k 0 ∧ ys.getD k 0 ≤ 1048576) := by simpa [okp] using ok
        clear ok
        generalize xs.getD k 0 = x at *
        generalize ys.getD k 0 = y at *
        have ok2 : x < 0 ∨ (0 ≤ x ∧ y < x) ∨ (0 ≤ x ∧ x ≤ y ∧ 1048576 < y) := by omega
        clear ok'
        rcases ok2 with o1 | ⟨o1, o2⟩ | ⟨o1, o2, o3⟩
        · have q1 : decide (x < 0) = true := by simp; omega
          go_wp2_with fail
          go_quiet (fail)
          go_wp2_with fail
          go_ret
          exact ⟨rfl, below_drewN HBel.out _⟩
        · have q1 : decide (x < 0) = false := by simp; omega
          have q2 : decide (y < x) = true := by simp; omega
          go_wp2_with fail
          go_quiet (fail)
          go_wp2_with fail
          go_ret
          exact ⟨rfl, below_drewN HBel.out _⟩
        · have q1 : decide (x < 0) = false := by simp; omega
          have q2 : decide (y < x) = false := by simp; omega
          have q3 : decide (1048576 < y) = true := by simp; omega
          go_wp2_with fail
          go_quiet (fail)
          go_wp2_with fail
          go_ret
          exact ⟨rfl, below_drewN HBel.out _⟩
    · obtain rfl : n = k := by omega
      exact absurd hall HP.out
end Go.Proofs.Ytiagepmfajpbpaa.loadM
