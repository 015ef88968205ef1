/- Layer 28: the law on silence and names. -/
import Derived.Test.YthbmgeggnkeejaaConnD
namespace Go.Proofs.Ythbmgeggnkeejaa.connE
open Go.ChangeShapes Go.WideShapes Go.ChangeAt Go.RowKit
open Go.Proofs.Ythbmgeggnkeejaa.base Go.Proofs.Ythbmgeggnkeejaa.connA Go.Proofs.Ythbmgeggnkeejaa.connB Go.Proofs.Ythbmgeggnkeejaa.connD
set_option linter.unusedVariables false

def bad (a b c d : Int) (j : Nat) : Bool := decide (j ≠ 0 ∧ j ≠ 4 ∧ (lZ a b c d j < 1 ∨ 1073741824 < lZ a b c d j))
def okk (a b c d : Int) : Nat → Bool
  | 0 => true
  | j + 1 => okk a b c d j && !bad a b c d j
theorem okk_all (a b c d : Int) : okk a b c d 6 = rightB a b c d := by
  rw [Bool.eq_iff_iff]
  simp [okk, bad, lZ, rightB, inB]
theorem idle_is (a b c d : Int) (q : Nat) : idleZ a b c d (q : Int) = lZ a b c d q := by
  unfold idleZ lZ
  (repeat' split) <;> first | rfl | omega
theorem name_is (q : Nat) (h : q ≤ 5) : nameZ (q : Int) = nZ q := by unfold nameZ; rw [if_pos (by omega)]; rfl
set_option maxRecDepth 100000 in
set_option maxHeartbeats 2000000 in
theorem law_in (a b c d : Int) (q : Nat) (w : World) (hq : q ≤ 5) :
    Calls Try.prog 9 #[.agg #[.int .i64 a, .int .i64 b, .int .i64 c, .int .i64 d], .int .i64 (q : Int)] w fun e w' => e = .returned (.bool true) ∧ Below w.heap.size w w' := by
  have e1 : (w.alloc (.cells #[.int .i64 a, .int .i64 b, .int .i64 c, .int .i64 d] 50)).heap.size = w.heap.size + 1 := by simp
  have e2 : ((w.alloc (.cells #[.int .i64 a, .int .i64 b, .int .i64 c, .int .i64 d] 50)).alloc (.cells #[.int .i64 0, .int .i64 a, .int .i64 b, .int .i64 c, .int .i64 0, .int .i64 d] 2)).heap.size = w.heap.size + 1 + 1 := by simp
  have bR := ((Blk.new w 50 #[.int .i64 a, .int .i64 b, .int .i64 c, .int .i64 d]).alloc (.cells #[.int .i64 0, .int .i64 a, .int .i64 b, .int .i64 c, .int .i64 0, .int .i64 d] 2)).alloc (.cells #[.string ⟨#[110, 111, 110, 101]⟩, .string ⟨#[111, 112, 101, 110, 105, 110, 103]⟩, .string ⟨#[111, 112, 101, 110]⟩, .string ⟨#[99, 108, 111, 115, 105, 110, 103]⟩, .string ⟨#[99, 108, 111, 115, 101, 100]⟩, .string ⟨#[100, 97, 116, 97, 103, 114, 97, 109]⟩] 9)
  have bL := (Blk.new (w.alloc (.cells #[.int .i64 a, .int .i64 b, .int .i64 c, .int .i64 d] 50)) 2 #[.int .i64 0, .int .i64 a, .int .i64 b, .int .i64 c, .int .i64 0, .int .i64 d]).alloc (.cells #[.string ⟨#[110, 111, 110, 101]⟩, .string ⟨#[111, 112, 101, 110, 105, 110, 103]⟩, .string ⟨#[111, 112, 101, 110]⟩, .string ⟨#[99, 108, 111, 115, 105, 110, 103]⟩, .string ⟨#[99, 108, 111, 115, 101, 100]⟩, .string ⟨#[100, 97, 116, 97, 103, 114, 97, 109]⟩] 9)
  have bN := Blk.new ((w.alloc (.cells #[.int .i64 a, .int .i64 b, .int .i64 c, .int .i64 d] 50)).alloc (.cells #[.int .i64 0, .int .i64 a, .int .i64 b, .int .i64 c, .int .i64 0, .int .i64 d] 2)) 9 #[.string ⟨#[110, 111, 110, 101]⟩, .string ⟨#[111, 112, 101, 110, 105, 110, 103]⟩, .string ⟨#[111, 112, 101, 110]⟩, .string ⟨#[99, 108, 111, 115, 105, 110, 103]⟩, .string ⟨#[99, 108, 111, 115, 101, 100]⟩, .string ⟨#[100, 97, 116, 97, 103, 114, 97, 109]⟩]
  rw [e1] at bL
  rw [e2] at bN
  have HL : Hid (∀ j, j < 6 → (((w.alloc (.cells #[.int .i64 a, .int .i64 b, .int .i64 c, .int .i64 d] 50)).alloc (.cells #[.int .i64 0, .int .i64 a, .int .i64 b, .int .i64 c, .int .i64 0, .int .i64 d] 2)).alloc (.cells #[.string ⟨#[110, 111, 110, 101]⟩, .string ⟨#[111, 112, 101, 110, 105, 110, 103]⟩, .string ⟨#[111, 112, 101, 110]⟩, .string ⟨#[99, 108, 111, 115, 105, 110, 103]⟩, .string ⟨#[99, 108, 111, 115, 101, 100]⟩, .string ⟨#[100, 97, 116, 97, 103, 114, 97, 109]⟩] 9)).cell? ⟨w.heap.size + 1, j, none⟩ = some (.int .i64 (lZ a b c d j))) := by
    intro j hj
    rw [bL.cell j]
    obtain rfl | rfl | rfl | rfl | rfl | rfl : j = 0 ∨ j = 1 ∨ j = 2 ∨ j = 3 ∨ j = 4 ∨ j = 5 := by omega
    all_goals rfl
  have HN : Hid (∀ j, j < 6 → (((w.alloc (.cells #[.int .i64 a, .int .i64 b, .int .i64 c, .int .i64 d] 50)).alloc (.cells #[.int .i64 0, .int .i64 a, .int .i64 b, .int .i64 c, .int .i64 0, .int .i64 d] 2)).alloc (.cells #[.string ⟨#[110, 111, 110, 101]⟩, .string ⟨#[111, 112, 101, 110, 105, 110, 103]⟩, .string ⟨#[111, 112, 101, 110]⟩, .string ⟨#[99, 108, 111, 115, 105, 110, 103]⟩, .string ⟨#[99, 108, 111, 115, 101, 100]⟩, .string ⟨#[100, 97, 116, 97, 103, 114, 97, 109]⟩] 9)).cell? ⟨w.heap.size + 1 + 1, j, none⟩ = some (.string (nZ j))) := by
    intro j hj
    rw [bN.cell j]
    obtain rfl | rfl | rfl | rfl | rfl | rfl : j = 0 ∨ j = 1 ∨ j = 2 ∨ j = 3 ∨ j = 4 ∨ j = 5 := by omega
    all_goals rfl
  have r0 := bR.cell 0
  have r1 := bR.cell 1
  have r2 := bR.cell 2
  have r3 := bR.cell 3
  simp only [List.getElem?_toArray, List.getElem?_cons_zero, List.getElem?_cons_succ] at r0 r1 r2 r3
  have HB3 : Hid (Below w.heap.size w (((w.alloc (.cells #[.int .i64 a, .int .i64 b, .int .i64 c, .int .i64 d] 50)).alloc (.cells #[.int .i64 0, .int .i64 a, .int .i64 b, .int .i64 c, .int .i64 0, .int .i64 d] 2)).alloc (.cells #[.string ⟨#[110, 111, 110, 101]⟩, .string ⟨#[111, 112, 101, 110, 105, 110, 103]⟩, .string ⟨#[111, 112, 101, 110]⟩, .string ⟨#[99, 108, 111, 115, 105, 110, 103]⟩, .string ⟨#[99, 108, 111, 115, 101, 100]⟩, .string ⟨#[100, 97, 116, 97, 103, 114, 97, 109]⟩] 9))) := (((Below.refl _ _).alloc (Nat.le_refl _) _).alloc (by simp) _).alloc (by simp; omega) _
  have HI := Lib.hid (fun w => idle_any a b c d (q : Int) w)
  have HM := Lib.hid (fun w => name_any (q : Int) w)
  have HR := Lib.hid (fun w => right_any a b c d w)
  have HK := Lib.hid (okk_all a b c d)
  rw [idle_is a b c d q] at HI
  rw [name_is q hq] at HM
  generalize rightB a b c d = RB at *
  have o2 : (RB == RB) = true := by simp
  clear bR bL bN e1 e2
  have hcl := HL.out q (by omega)
  have hcn := HN.out q (by omega)
  generalize lZ a b c d q = X at *
  generalize nZ q = N at *
  have o1 : (X == X) = true := by simp
  have o3 : (N.toList == N.toList) = true := by simp
  go_enter Try.func9, Try.ntmps9
  go_wp2_with fail
  generalize (((w.alloc (.cells #[.int .i64 a, .int .i64 b, .int .i64 c, .int .i64 d] 50)).alloc (.cells #[.int .i64 0, .int .i64 a, .int .i64 b, .int .i64 c, .int .i64 0, .int .i64 d] 2)).alloc (.cells #[.string ⟨#[110, 111, 110, 101]⟩, .string ⟨#[111, 112, 101, 110, 105, 110, 103]⟩, .string ⟨#[111, 112, 101, 110]⟩, .string ⟨#[99, 108, 111, 115, 105, 110, 103]⟩, .string ⟨#[99, 108, 111, 115, 101, 100]⟩, .string ⟨#[100, 97, 116, 97, 103, 114, 97, 109]⟩] 9)) = w1 at *
  go_loop [9, 10] (fun ok i => ∃ j : Nat, j ≤ 6 ∧ i = .int .i64 j ∧ ok = .bool (okk a b c d j)) (fun _ i => 6 - (intOf i).toNat)
  case atStart => exact ⟨0, by omega, rfl, rfl⟩
  case round =>
    obtain ⟨j, hj, rfl, rfl⟩ := hrel
    by_cases hlt : j < 6
    · have hc := HL.out j hlt
      have hs : okk a b c d (j + 1) = (okk a b c d j && !bad a b c d j) := rfl
      unfold bad at hs
      generalize okk a b c d j = K at *
      generalize lZ a b c d j = x at *
      by_cases h0 : j = 0
      · subst h0
        have HS := Lib.hid (show okk a b c d (0 + 1) = K by rw [hs]; simp)
        clear hs
        go_wp2_with fail
        go_round
        case rel => exact ⟨1, by omega, by go_num, by rw [← HS.out]⟩
        case measure => simp [intOf]
      by_cases h4 : j = 4
      · subst h4
        have HS := Lib.hid (show okk a b c d (4 + 1) = K by rw [hs]; simp)
        clear hs
        go_wp2_with fail
        go_round
        case rel => exact ⟨5, by omega, by go_num, by rw [← HS.out]⟩
        case measure => simp [intOf]
      have n0 : ((j : Int) != 0) = true := by simp; omega
      have n4 : ((j : Int) != 4) = true := by simp; omega
      by_cases hb1 : x < 1
      · have HS := Lib.hid (show okk a b c d (j + 1) = false by rw [hs]; simp [h0, h4, hb1])
        have q1 : decide (x < 1) = true := by simp; omega
        clear hs h0 h4 hb1
        go_wp2_with fail
        go_round
        case rel => exact ⟨j + 1, by omega, by go_num, by rw [HS.out]⟩
        case measure => simp [intOf]; omega
      have q1 : decide (x < 1) = false := by simp; omega
      by_cases hb2 : 1073741824 < x
      · have HS := Lib.hid (show okk a b c d (j + 1) = false by rw [hs]; simp [h0, h4, hb2])
        have q2 : decide (1073741824 < x) = true := by simp; omega
        clear hs h0 h4 hb1 hb2
        go_wp2_with fail
        go_round
        case rel => exact ⟨j + 1, by omega, by go_num, by rw [HS.out]⟩
        case measure => simp [intOf]; omega
      have HS := Lib.hid (show okk a b c d (j + 1) = K by rw [hs]; simp [hb1, hb2])
      have q2 : decide (1073741824 < x) = false := by simp; omega
      clear hs h0 h4 hb1 hb2
      go_wp2_with fail
      go_round
      case rel => exact ⟨j + 1, by omega, by go_num, by rw [HS.out]⟩
      case measure => simp [intOf]; omega
    · obtain rfl : j = 6 := by omega
      rw [HK.out]
      go_wp2_with fail
      refine (HI.out _).mono ?_
      rintro e w2 ⟨rfl, hb2⟩
      have t0 := kept r0 hb2
      have t1 := kept r1 hb2
      have t2 := kept r2 hb2
      have t3 := kept r3 hb2
      have HB4 := Lib.hid (bel_call HB3.out hb2)
      clear hb2 r0 r1 r2 r3
      go_wp2_with fail
      refine (HM.out _).mono ?_
      rintro e w3 ⟨rfl, hb2⟩
      have r0 := kept t0 hb2
      have r1 := kept t1 hb2
      have r2 := kept t2 hb2
      have r3 := kept t3 hb2
      have HB5 := Lib.hid (bel_call HB4.out hb2)
      clear hb2 t0 t1 t2 t3
      go_wp2_with fail
      refine (HR.out _).mono ?_
      rintro e w4 ⟨rfl, hb2⟩
      have HB6 := Lib.hid (bel_call HB5.out hb2)
      clear hb2 r0 r1 r2 r3
      go_wp2_with fail
      refine (plain_any _).mono ?_
      rintro e w5 ⟨rfl, hb2⟩
      have HB7 := Lib.hid (bel_call HB6.out hb2)
      clear hb2
      go_wp2_with fail
      refine (awake_any _).mono ?_
      rintro e w6 ⟨rfl, hb2⟩
      go_wp2_with fail
      go_ret
      exact ⟨rfl, bel_call HB7.out hb2⟩
set_option maxRecDepth 100000 in
set_option maxHeartbeats 2000000 in
theorem law_neg (a b c d : Int) (s : Int) (w : World) (hs : s < 0) :
    Calls Try.prog 9 #[.agg #[.int .i64 a, .int .i64 b, .int .i64 c, .int .i64 d], .int .i64 s] w fun e w' => e = .returned (.bool true) ∧ Below w.heap.size w w' := by
  have e1 : (w.alloc (.cells #[.int .i64 a, .int .i64 b, .int .i64 c, .int .i64 d] 50)).heap.size = w.heap.size + 1 := by simp
  have e2 : ((w.alloc (.cells #[.int .i64 a, .int .i64 b, .int .i64 c, .int .i64 d] 50)).alloc (.cells #[.int .i64 0, .int .i64 a, .int .i64 b, .int .i64 c, .int .i64 0, .int .i64 d] 2)).heap.size = w.heap.size + 1 + 1 := by simp
  have bR := ((Blk.new w 50 #[.int .i64 a, .int .i64 b, .int .i64 c, .int .i64 d]).alloc (.cells #[.int .i64 0, .int .i64 a, .int .i64 b, .int .i64 c, .int .i64 0, .int .i64 d] 2)).alloc (.cells #[.string ⟨#[110, 111, 110, 101]⟩, .string ⟨#[111, 112, 101, 110, 105, 110, 103]⟩, .string ⟨#[111, 112, 101, 110]⟩, .string ⟨#[99, 108, 111, 115, 105, 110, 103]⟩, .string ⟨#[99, 108, 111, 115, 101, 100]⟩, .string ⟨#[100, 97, 116, 97, 103, 114, 97, 109]⟩] 9)
  have bL := (Blk.new (w.alloc (.cells #[.int .i64 a, .int .i64 b, .int .i64 c, .int .i64 d] 50)) 2 #[.int .i64 0, .int .i64 a, .int .i64 b, .int .i64 c, .int .i64 0, .int .i64 d]).alloc (.cells #[.string ⟨#[110, 111, 110, 101]⟩, .string ⟨#[111, 112, 101, 110, 105, 110, 103]⟩, .string ⟨#[111, 112, 101, 110]⟩, .string ⟨#[99, 108, 111, 115, 105, 110, 103]⟩, .string ⟨#[99, 108, 111, 115, 101, 100]⟩, .string ⟨#[100, 97, 116, 97, 103, 114, 97, 109]⟩] 9)
  have bN := Blk.new ((w.alloc (.cells #[.int .i64 a, .int .i64 b, .int .i64 c, .int .i64 d] 50)).alloc (.cells #[.int .i64 0, .int .i64 a, .int .i64 b, .int .i64 c, .int .i64 0, .int .i64 d] 2)) 9 #[.string ⟨#[110, 111, 110, 101]⟩, .string ⟨#[111, 112, 101, 110, 105, 110, 103]⟩, .string ⟨#[111, 112, 101, 110]⟩, .string ⟨#[99, 108, 111, 115, 105, 110, 103]⟩, .string ⟨#[99, 108, 111, 115, 101, 100]⟩, .string ⟨#[100, 97, 116, 97, 103, 114, 97, 109]⟩]
  rw [e1] at bL
  rw [e2] at bN
  have HL : Hid (∀ j, j < 6 → (((w.alloc (.cells #[.int .i64 a, .int .i64 b, .int .i64 c, .int .i64 d] 50)).alloc (.cells #[.int .i64 0, .int .i64 a, .int .i64 b, .int .i64 c, .int .i64 0, .int .i64 d] 2)).alloc (.cells #[.string ⟨#[110, 111, 110, 101]⟩, .string ⟨#[111, 112, 101, 110, 105, 110, 103]⟩, .string ⟨#[111, 112, 101, 110]⟩, .string ⟨#[99, 108, 111, 115, 105, 110, 103]⟩, .string ⟨#[99, 108, 111, 115, 101, 100]⟩, .string ⟨#[100, 97, 116, 97, 103, 114, 97, 109]⟩] 9)).cell? ⟨w.heap.size + 1, j, none⟩ = some (.int .i64 (lZ a b c d j))) := by
    intro j hj
    rw [bL.cell j]
    obtain rfl | rfl | rfl | rfl | rfl | rfl : j = 0 ∨ j = 1 ∨ j = 2 ∨ j = 3 ∨ j = 4 ∨ j = 5 := by omega
    all_goals rfl
  have HN : Hid (∀ j, j < 6 → (((w.alloc (.cells #[.int .i64 a, .int .i64 b, .int .i64 c, .int .i64 d] 50)).alloc (.cells #[.int .i64 0, .int .i64 a, .int .i64 b, .int .i64 c, .int .i64 0, .int .i64 d] 2)).alloc (.cells #[.string ⟨#[110, 111, 110, 101]⟩, .string ⟨#[111, 112, 101, 110, 105, 110, 103]⟩, .string ⟨#[111, 112, 101, 110]⟩, .string ⟨#[99, 108, 111, 115, 105, 110, 103]⟩, .string ⟨#[99, 108, 111, 115, 101, 100]⟩, .string ⟨#[100, 97, 116, 97, 103, 114, 97, 109]⟩] 9)).cell? ⟨w.heap.size + 1 + 1, j, none⟩ = some (.string (nZ j))) := by
    intro j hj
    rw [bN.cell j]
    obtain rfl | rfl | rfl | rfl | rfl | rfl : j = 0 ∨ j = 1 ∨ j = 2 ∨ j = 3 ∨ j = 4 ∨ j = 5 := by omega
    all_goals rfl
  have r0 := bR.cell 0
  have r1 := bR.cell 1
  have r2 := bR.cell 2
  have r3 := bR.cell 3
  simp only [List.getElem?_toArray, List.getElem?_cons_zero, List.getElem?_cons_succ] at r0 r1 r2 r3
  have HB3 : Hid (Below w.heap.size w (((w.alloc (.cells #[.int .i64 a, .int .i64 b, .int .i64 c, .int .i64 d] 50)).alloc (.cells #[.int .i64 0, .int .i64 a, .int .i64 b, .int .i64 c, .int .i64 0, .int .i64 d] 2)).alloc (.cells #[.string ⟨#[110, 111, 110, 101]⟩, .string ⟨#[111, 112, 101, 110, 105, 110, 103]⟩, .string ⟨#[111, 112, 101, 110]⟩, .string ⟨#[99, 108, 111, 115, 105, 110, 103]⟩, .string ⟨#[99, 108, 111, 115, 101, 100]⟩, .string ⟨#[100, 97, 116, 97, 103, 114, 97, 109]⟩] 9))) := (((Below.refl _ _).alloc (Nat.le_refl _) _).alloc (by simp) _).alloc (by simp; omega) _
  have HI := Lib.hid (fun w => idle_any a b c d s w)
  have HM := Lib.hid (fun w => name_any s w)
  have HR := Lib.hid (fun w => right_any a b c d w)
  have HK := Lib.hid (okk_all a b c d)
  rw [show idleZ a b c d s = 0 by unfold idleZ; (repeat' split) <;> first | rfl | omega] at HI
  rw [show nameZ s = ⟨#[110, 111, 110, 101]⟩ by simp only [nameZ]; rw [if_neg (by omega)]; rfl] at HM
  generalize rightB a b c d = RB at *
  have o2 : (RB == RB) = true := by simp
  clear bR bL bN e1 e2
  go_enter Try.func9, Try.ntmps9
  go_wp2_with fail
  generalize (((w.alloc (.cells #[.int .i64 a, .int .i64 b, .int .i64 c, .int .i64 d] 50)).alloc (.cells #[.int .i64 0, .int .i64 a, .int .i64 b, .int .i64 c, .int .i64 0, .int .i64 d] 2)).alloc (.cells #[.string ⟨#[110, 111, 110, 101]⟩, .string ⟨#[111, 112, 101, 110, 105, 110, 103]⟩, .string ⟨#[111, 112, 101, 110]⟩, .string ⟨#[99, 108, 111, 115, 105, 110, 103]⟩, .string ⟨#[99, 108, 111, 115, 101, 100]⟩, .string ⟨#[100, 97, 116, 97, 103, 114, 97, 109]⟩] 9)) = w1 at *
  go_loop [9, 10] (fun ok i => ∃ j : Nat, j ≤ 6 ∧ i = .int .i64 j ∧ ok = .bool (okk a b c d j)) (fun _ i => 6 - (intOf i).toNat)
  case atStart => exact ⟨0, by omega, rfl, rfl⟩
  case round =>
    obtain ⟨j, hj, rfl, rfl⟩ := hrel
    by_cases hlt : j < 6
    · have hc := HL.out j hlt
      have hs : okk a b c d (j + 1) = (okk a b c d j && !bad a b c d j) := rfl
      unfold bad at hs
      generalize okk a b c d j = K at *
      generalize lZ a b c d j = x at *
      by_cases h0 : j = 0
      · subst h0
        have HS := Lib.hid (show okk a b c d (0 + 1) = K by rw [hs]; simp)
        clear hs
        go_wp2_with fail
        go_round
        case rel => exact ⟨1, by omega, by go_num, by rw [← HS.out]⟩
        case measure => simp [intOf]
      by_cases h4 : j = 4
      · subst h4
        have HS := Lib.hid (show okk a b c d (4 + 1) = K by rw [hs]; simp)
        clear hs
        go_wp2_with fail
        go_round
        case rel => exact ⟨5, by omega, by go_num, by rw [← HS.out]⟩
        case measure => simp [intOf]
      have n0 : ((j : Int) != 0) = true := by simp; omega
      have n4 : ((j : Int) != 4) = true := by simp; omega
      by_cases hb1 : x < 1
      · have HS := Lib.hid (show okk a b c d (j + 1) = false by rw [hs]; simp [h0, h4, hb1])
        have q1 : decide (x < 1) = true := by simp; omega
        clear hs h0 h4 hb1
        go_wp2_with fail
        go_round
        case rel => exact ⟨j + 1, by omega, by go_num, by rw [HS.out]⟩
        case measure => simp [intOf]; omega
      have q1 : decide (x < 1) = false := by simp; omega
      by_cases hb2 : 1073741824 < x
      · have HS := Lib.hid (show okk a b c d (j + 1) = false by rw [hs]; simp [h0, h4, hb2])
        have q2 : decide (1073741824 < x) = true := by simp; omega
        clear hs h0 h4 hb1 hb2
        go_wp2_with fail
        go_round
        case rel => exact ⟨j + 1, by omega, by go_num, by rw [HS.out]⟩
        case measure => simp [intOf]; omega
      have HS := Lib.hid (show okk a b c d (j + 1) = K by rw [hs]; simp [hb1, hb2])
      have q2 : decide (1073741824 < x) = false := by simp; omega
      clear hs h0 h4 hb1 hb2
      go_wp2_with fail
      go_round
      case rel => exact ⟨j + 1, by omega, by go_num, by rw [HS.out]⟩
      case measure => simp [intOf]; omega
    · obtain rfl : j = 6 := by omega
      rw [HK.out]
      go_wp2_with fail
      refine (HI.out _).mono ?_
      rintro e w2 ⟨rfl, hb2⟩
      have t0 := kept r0 hb2
      have t1 := kept r1 hb2
      have t2 := kept r2 hb2
      have t3 := kept r3 hb2
      have HB4 := Lib.hid (bel_call HB3.out hb2)
      clear hb2 r0 r1 r2 r3
      go_wp2_with fail
      refine (HM.out _).mono ?_
      rintro e w3 ⟨rfl, hb2⟩
      have r0 := kept t0 hb2
      have r1 := kept t1 hb2
      have r2 := kept t2 hb2
      have r3 := kept t3 hb2
      have HB5 := Lib.hid (bel_call HB4.out hb2)
      clear hb2 t0 t1 t2 t3
      go_wp2_with fail
      refine (HR.out _).mono ?_
      rintro e w4 ⟨rfl, hb2⟩
      have HB6 := Lib.hid (bel_call HB5.out hb2)
      clear hb2 r0 r1 r2 r3
      go_wp2_with fail
      refine (plain_any _).mono ?_
      rintro e w5 ⟨rfl, hb2⟩
      have HB7 := Lib.hid (bel_call HB6.out hb2)
      clear hb2
      go_wp2_with fail
      refine (awake_any _).mono ?_
      rintro e w6 ⟨rfl, hb2⟩
      go_wp2_with fail
      go_ret
      exact ⟨rfl, bel_call HB7.out hb2⟩
set_option maxRecDepth 100000 in
set_option maxHeartbeats 2000000 in
theorem law_big (a b c d : Int) (s : Int) (w : World) (hs : 6 ≤ s) :
    Calls Try.prog 9 #[.agg #[.int .i64 a, .int .i64 b, .int .i64 c, .int .i64 d], .int .i64 s] w fun e w' => e = .returned (.bool true) ∧ Below w.heap.size w w' := by
  have e1 : (w.alloc (.cells #[.int .i64 a, .int .i64 b, .int .i64 c, .int .i64 d] 50)).heap.size = w.heap.size + 1 := by simp
  have e2 : ((w.alloc (.cells #[.int .i64 a, .int .i64 b, .int .i64 c, .int .i64 d] 50)).alloc (.cells #[.int .i64 0, .int .i64 a, .int .i64 b, .int .i64 c, .int .i64 0, .int .i64 d] 2)).heap.size = w.heap.size + 1 + 1 := by simp
  have bR := ((Blk.new w 50 #[.int .i64 a, .int .i64 b, .int .i64 c, .int .i64 d]).alloc (.cells #[.int .i64 0, .int .i64 a, .int .i64 b, .int .i64 c, .int .i64 0, .int .i64 d] 2)).alloc (.cells #[.string ⟨#[110, 111, 110, 101]⟩, .string ⟨#[111, 112, 101, 110, 105, 110, 103]⟩, .string ⟨#[111, 112, 101, 110]⟩, .string ⟨#[99, 108, 111, 115, 105, 110, 103]⟩, .string ⟨#[99, 108, 111, 115, 101, 100]⟩, .string ⟨#[100, 97, 116, 97, 103, 114, 97, 109]⟩] 9)
  have bL := (Blk.new (w.alloc (.cells #[.int .i64 a, .int .i64 b, .int .i64 c, .int .i64 d] 50)) 2 #[.int .i64 0, .int .i64 a, .int .i64 b, .int .i64 c, .int .i64 0, .int .i64 d]).alloc (.cells #[.string ⟨#[110, 111, 110, 101]⟩, .string ⟨#[111, 112, 101, 110, 105, 110, 103]⟩, .string ⟨#[111, 112, 101, 110]⟩, .string ⟨#[99, 108, 111, 115, 105, 110, 103]⟩, .string ⟨#[99, 108, 111, 115, 101, 100]⟩, .string ⟨#[100, 97, 116, 97, 103, 114, 97, 109]⟩] 9)
  have bN := Blk.new ((w.alloc (.cells #[.int .i64 a, .int .i64 b, .int .i64 c, .int .i64 d] 50)).alloc (.cells #[.int .i64 0, .int .i64 a, .int .i64 b, .int .i64 c, .int .i64 0, .int .i64 d] 2)) 9 #[.string ⟨#[110, 111, 110, 101]⟩, .string ⟨#[111, 112, 101, 110, 105, 110, 103]⟩, .string ⟨#[111, 112, 101, 110]⟩, .string ⟨#[99, 108, 111, 115, 105, 110, 103]⟩, .string ⟨#[99, 108, 111, 115, 101, 100]⟩, .string ⟨#[100, 97, 116, 97, 103, 114, 97, 109]⟩]
  rw [e1] at bL
  rw [e2] at bN
  have HL : Hid (∀ j, j < 6 → (((w.alloc (.cells #[.int .i64 a, .int .i64 b, .int .i64 c, .int .i64 d] 50)).alloc (.cells #[.int .i64 0, .int .i64 a, .int .i64 b, .int .i64 c, .int .i64 0, .int .i64 d] 2)).alloc (.cells #[.string ⟨#[110, 111, 110, 101]⟩, .string ⟨#[111, 112, 101, 110, 105, 110, 103]⟩, .string ⟨#[111, 112, 101, 110]⟩, .string ⟨#[99, 108, 111, 115, 105, 110, 103]⟩, .string ⟨#[99, 108, 111, 115, 101, 100]⟩, .string ⟨#[100, 97, 116, 97, 103, 114, 97, 109]⟩] 9)).cell? ⟨w.heap.size + 1, j, none⟩ = some (.int .i64 (lZ a b c d j))) := by
    intro j hj
    rw [bL.cell j]
    obtain rfl | rfl | rfl | rfl | rfl | rfl : j = 0 ∨ j = 1 ∨ j = 2 ∨ j = 3 ∨ j = 4 ∨ j = 5 := by omega
    all_goals rfl
  have HN : Hid (∀ j, j < 6 → (((w.alloc (.cells #[.int .i64 a, .int .i64 b, .int .i64 c, .int .i64 d] 50)).alloc (.cells #[.int .i64 0, .int .i64 a, .int .i64 b, .int .i64 c, .int .i64 0, .int .i64 d] 2)).alloc (.cells #[.string ⟨#[110, 111, 110, 101]⟩, .string ⟨#[111, 112, 101, 110, 105, 110, 103]⟩, .string ⟨#[111, 112, 101, 110]⟩, .string ⟨#[99, 108, 111, 115, 105, 110, 103]⟩, .string ⟨#[99, 108, 111, 115, 101, 100]⟩, .string ⟨#[100, 97, 116, 97, 103, 114, 97, 109]⟩] 9)).cell? ⟨w.heap.size + 1 + 1, j, none⟩ = some (.string (nZ j))) := by
    intro j hj
    rw [bN.cell j]
    obtain rfl | rfl | rfl | rfl | rfl | rfl : j = 0 ∨ j = 1 ∨ j = 2 ∨ j = 3 ∨ j = 4 ∨ j = 5 := by omega
    all_goals rfl
  have r0 := bR.cell 0
  have r1 := bR.cell 1
  have r2 := bR.cell 2
  have r3 := bR.cell 3
  simp only [List.getElem?_toArray, List.getElem?_cons_zero, List.getElem?_cons_succ] at r0 r1 r2 r3
  have HB3 : Hid (Below w.heap.size w (((w.alloc (.cells #[.int .i64 a, .int .i64 b, .int .i64 c, .int .i64 d] 50)).alloc (.cells #[.int .i64 0, .int .i64 a, .int .i64 b, .int .i64 c, .int .i64 0, .int .i64 d] 2)).alloc (.cells #[.string ⟨#[110, 111, 110, 101]⟩, .string ⟨#[111, 112, 101, 110, 105, 110, 103]⟩, .string ⟨#[111, 112, 101, 110]⟩, .string ⟨#[99, 108, 111, 115, 105, 110, 103]⟩, .string ⟨#[99, 108, 111, 115, 101, 100]⟩, .string ⟨#[100, 97, 116, 97, 103, 114, 97, 109]⟩] 9))) := (((Below.refl _ _).alloc (Nat.le_refl _) _).alloc (by simp) _).alloc (by simp; omega) _
  have HI := Lib.hid (fun w => idle_any a b c d s w)
  have HM := Lib.hid (fun w => name_any s w)
  have HR := Lib.hid (fun w => right_any a b c d w)
  have HK := Lib.hid (okk_all a b c d)
  rw [show idleZ a b c d s = 0 by unfold idleZ; (repeat' split) <;> first | rfl | omega] at HI
  rw [show nameZ s = ⟨#[110, 111, 110, 101]⟩ by simp only [nameZ]; rw [if_neg (by omega)]; rfl] at HM
  generalize rightB a b c d = RB at *
  have o2 : (RB == RB) = true := by simp
  clear bR bL bN e1 e2
  go_enter Try.func9, Try.ntmps9
  go_wp2_with fail
  generalize (((w.alloc (.cells #[.int .i64 a, .int .i64 b, .int .i64 c, .int .i64 d] 50)).alloc (.cells #[.int .i64 0, .int .i64 a, .int .i64 b, .int .i64 c, .int .i64 0, .int .i64 d] 2)).alloc (.cells #[.string ⟨#[110, 111, 110, 101]⟩, .string ⟨#[111, 112, 101, 110, 105, 110, 103]⟩, .string ⟨#[111, 112, 101, 110]⟩, .string ⟨#[99, 108, 111, 115, 105, 110, 103]⟩, .string ⟨#[99, 108, 111, 115, 101, 100]⟩, .string ⟨#[100, 97, 116, 97, 103, 114, 97, 109]⟩] 9)) = w1 at *
  go_loop [9, 10] (fun ok i => ∃ j : Nat, j ≤ 6 ∧ i = .int .i64 j ∧ ok = .bool (okk a b c d j)) (fun _ i => 6 - (intOf i).toNat)
  case atStart => exact ⟨0, by omega, rfl, rfl⟩
  case round =>
    obtain ⟨j, hj, rfl, rfl⟩ := hrel
    by_cases hlt : j < 6
    · have hc := HL.out j hlt
      have hs : okk a b c d (j + 1) = (okk a b c d j && !bad a b c d j) := rfl
      unfold bad at hs
      generalize okk a b c d j = K at *
      generalize lZ a b c d j = x at *
      by_cases h0 : j = 0
      · subst h0
        have HS := Lib.hid (show okk a b c d (0 + 1) = K by rw [hs]; simp)
        clear hs
        go_wp2_with fail
        go_round
        case rel => exact ⟨1, by omega, by go_num, by rw [← HS.out]⟩
        case measure => simp [intOf]
      by_cases h4 : j = 4
      · subst h4
        have HS := Lib.hid (show okk a b c d (4 + 1) = K by rw [hs]; simp)
        clear hs
        go_wp2_with fail
        go_round
        case rel => exact ⟨5, by omega, by go_num, by rw [← HS.out]⟩
        case measure => simp [intOf]
      have n0 : ((j : Int) != 0) = true := by simp; omega
      have n4 : ((j : Int) != 4) = true := by simp; omega
      by_cases hb1 : x < 1
      · have HS := Lib.hid (show okk a b c d (j + 1) = false by rw [hs]; simp [h0, h4, hb1])
        have q1 : decide (x < 1) = true := by simp; omega
        clear hs h0 h4 hb1
        go_wp2_with fail
        go_round
        case rel => exact ⟨j + 1, by omega, by go_num, by rw [HS.out]⟩
        case measure => simp [intOf]; omega
      have q1 : decide (x < 1) = false := by simp; omega
      by_cases hb2 : 1073741824 < x
      · have HS := Lib.hid (show okk a b c d (j + 1) = false by rw [hs]; simp [h0, h4, hb2])
        have q2 : decide (1073741824 < x) = true := by simp; omega
        clear hs h0 h4 hb1 hb2
        go_wp2_with fail
        go_round
        case rel => exact ⟨j + 1, by omega, by go_num, by rw [HS.out]⟩
        case measure => simp [intOf]; omega
      have HS := Lib.hid (show okk a b c d (j + 1) = K by rw [hs]; simp [hb1, hb2])
      have q2 : decide (1073741824 < x) = false := by simp; omega
      clear hs h0 h4 hb1 hb2
      go_wp2_with fail
      go_round
      case rel => exact ⟨j + 1, by omega, by go_num, by rw [HS.out]⟩
      case measure => simp [intOf]; omega
    · obtain rfl : j = 6 := by omega
      rw [HK.out]
      go_wp2_with fail
      refine (HI.out _).mono ?_
      rintro e w2 ⟨rfl, hb2⟩
      have t0 := kept r0 hb2
      have t1 := kept r1 hb2
      have t2 := kept r2 hb2
      have t3 := kept r3 hb2
      have HB4 := Lib.hid (bel_call HB3.out hb2)
      clear hb2 r0 r1 r2 r3
      go_wp2_with fail
      refine (HM.out _).mono ?_
      rintro e w3 ⟨rfl, hb2⟩
      have r0 := kept t0 hb2
      have r1 := kept t1 hb2
      have r2 := kept t2 hb2
      have r3 := kept t3 hb2
      have HB5 := Lib.hid (bel_call HB4.out hb2)
      clear hb2 t0 t1 t2 t3
      go_wp2_with fail
      refine (HR.out _).mono ?_
      rintro e w4 ⟨rfl, hb2⟩
      have HB6 := Lib.hid (bel_call HB5.out hb2)
      clear hb2 r0 r1 r2 r3
      go_wp2_with fail
      refine (plain_any _).mono ?_
      rintro e w5 ⟨rfl, hb2⟩
      have HB7 := Lib.hid (bel_call HB6.out hb2)
      clear hb2
      go_wp2_with fail
      refine (awake_any _).mono ?_
      rintro e w6 ⟨rfl, hb2⟩
      go_wp2_with fail
      go_ret
      exact ⟨rfl, bel_call HB7.out hb2⟩
end Go.Proofs.Ythbmgeggnkeejaa.connE
