/- Layer 38: whether a histogram says what sorted numbers say. -/
import Derived.Test.YtpgodmcpdgbhaaaHistH
import Derived.Test.YtpgodmcpdgbhaaaHistI
import Derived.Test.YtpgodmcpdgbhaaaHistJ
namespace Go.Proofs.Ytpgodmcpdgbhaaa.histK
open Go.ChangeShapes Go.WideShapes Go.ChangeAt Go.RowKit
open Go.Proofs.Ytpgodmcpdgbhaaa.base Go.Proofs.Ytpgodmcpdgbhaaa.histA Go.Proofs.Ytpgodmcpdgbhaaa.histD Go.Proofs.Ytpgodmcpdgbhaaa.histE Go.Proofs.Ytpgodmcpdgbhaaa.histF Go.Proofs.Ytpgodmcpdgbhaaa.histH Go.Proofs.Ytpgodmcpdgbhaaa.histI Go.Proofs.Ytpgodmcpdgbhaaa.histJ
set_option linter.unusedVariables false

theorem mean_zero (g : Nat) (w : World) (h0 : w.cell? ⟨g, 66, none⟩ = some (.int .u64 0)) (h1 : w.cell? ⟨g, 67, none⟩ = some (.int .u64 0)) (h2 : w.cell? ⟨g, 65, none⟩ = some (.int .u64 0)) :
    Calls Try.prog 34 #[.pointer (some ⟨g, 0, none⟩)] w fun e w' => e = .returned (.int .u64 0) ∧ Below w.heap.size w w' := by
  have HD := Lib.hid (Go.Proofs.Ytpgodmcpdgbhaaa.divF.numDiv_no 0 0 0 (by omega))
  have c0 : w.drew.cell? ⟨g, 66, none⟩ = some (.int .u64 0) := h0
  have c1 : w.drew.cell? ⟨g, 67, none⟩ = some (.int .u64 0) := h1
  have c2 : w.drew.cell? ⟨g, 65, none⟩ = some (.int .u64 0) := h2
  go_enter Try.func34, Try.ntmps34
  go_wp2_with fail
  go_region_with ((go_at_call 38; (with_reducible refine (HD.out _).mono ?_); rintro e w9 ⟨rfl, hb9⟩; have HB9 := Lib.hid ((Below.refl w.heap.size w).drew.trans hb9); clear hb9))
  all_goals (go_wp2_with fail; go_ret; exact ⟨rfl, HB9.out⟩)
set_option maxRecDepth 100000 in
set_option maxHeartbeats 1000000 in
theorem alike_none (g c : Nat) (A : Option Addr) (f : Nat → Int) (cs : Array Value) (part : Int) (w : World) (hB : Blk w g 56 cs) (hA : At70 cs f) (hS : IsStat f []) :
    Calls Try.prog 19 #[.pointer (some ⟨g, 0, none⟩), .slice A 0 c, .int .i64 part] w fun e w' => e = .returned (.bool true) ∧ Below w.heap.size w w' := by
  have cell : ∀ wx, Below w.heap.size w wx → ∀ i, i < 70 → wx.cell? ⟨g, i, none⟩ = some (.int .u64 (f i)) := fun wx hb i hi => ((hB.below hb hB.lt).cell i).trans (hA.2 i hi)
  have HEND := Lib.hid (show ∀ wx, Below w.heap.size w wx → Calls Try.prog 32 #[.pointer (some ⟨g, 0, none⟩)] wx fun e w' => e = .returned (.tuple #[.int .u64 0, .int .u64 0]) ∧ Below wx.heap.size wx w' from fun wx hb => by
    have := ends_at g (f 68) (f 69) wx (cell wx hb 68 (by omega)) (cell wx hb 69 (by omega))
    rw [(hS.emp rfl).1, (hS.emp rfl).2] at this
    exact this.mono fun e w' ⟨he, n, hn⟩ => ⟨he, by rw [← hn]; exact below_drewN (Below.refl _ _) _⟩)
  have HLEN := Lib.hid (show ∀ wx, Below w.heap.size w wx → Calls Try.prog 33 #[.pointer (some ⟨g, 0, none⟩)] wx fun e w' => e = .returned (.int .u64 0) ∧ wx = w' from fun wx hb => by
    have := len_at g (f 65) wx (cell wx hb 65 (by omega))
    rw [hS.len] at this
    exact this)
  have HMEAN := Lib.hid (show ∀ wx, Below w.heap.size w wx → Calls Try.prog 34 #[.pointer (some ⟨g, 0, none⟩)] wx fun e w' => e = .returned (.int .u64 0) ∧ Below wx.heap.size wx w' from fun wx hb =>
    mean_zero g wx (by rw [cell wx hb 66 (by omega), hS.hi]; rfl) (by rw [cell wx hb 67 (by omega), hS.lo]; rfl) (by rw [cell wx hb 65 (by omega), hS.len]; rfl))
  have HQ := Lib.hid (show ∀ wx, Below w.heap.size w wx → Calls Try.prog 35 #[.pointer (some ⟨g, 0, none⟩), .int .i64 part] wx fun e w' => e = .returned (.int .i64 (-1)) ∧ wx = w' from fun wx hb =>
    quantile_no g f cs [] part wx (hB.below hb hB.lt) hA hS (by simp) (.inl rfl))
  have HC := Lib.hid (show ∀ wx, Below w.heap.size w wx → Calls Try.prog 36 #[.pointer (some ⟨g, 0, none⟩), .int .i64 3] wx fun e w' => e = .returned (.int .u64 0) ∧ wx = w' from fun wx hb =>
    count_at g 3 0 wx (by omega) (by rw [cell wx hb 3 (by omega), hS.cnt 3 (by omega)]; rfl))
  clear hB hA hS cell
  go_enter Try.func19, Try.ntmps19
  go_wp2_with (first
    | (go_at_call 32; (with_reducible refine (HEND.out _ (Below.refl _ _)).mono ?_); rintro e w1 ⟨rfl, hb1⟩; have HB1 := Lib.hid hb1; clear hb1)
    | (go_at_call 33; (with_reducible refine (HLEN.out _ HB1.out).mono ?_); rintro e w' ⟨rfl, rfl⟩)
    | (go_at_call 34; (with_reducible refine (HMEAN.out _ HB1.out).mono ?_); rintro e w2 ⟨rfl, hb2⟩; have HB2 := Lib.hid (HB1.out.trans (hb2.mono HB1.out.size)); clear hb2)
    | (go_at_call 35; (with_reducible refine (HQ.out _ HB2.out).mono ?_); rintro e w' ⟨rfl, rfl⟩)
    | (go_at_call 36; (with_reducible refine (HC.out _ HB2.out).mono ?_); rintro e w' ⟨rfl, rfl⟩))
  go_ret
  exact ⟨rfl, HB2.out⟩
/-- How many of the first m have k bits. -/
def cT (S : List Int) (k : Int) (m : Nat) : Nat := (S.take m).countP fun x => (bl x : Int) == k
theorem cT_next (S : List Int) (k : Int) (m : Nat) (h : m < S.length) : cT S k (m + 1) = cT S k m + if ((bl (S.getD m 0) : Int) == k) = true then 1 else 0 := by
  unfold cT
  rw [histG.take_next S m h, List.countP_append, List.countP_singleton, List.getD_eq_getElem?_getD, List.getElem?_eq_getElem h]
  rfl
theorem cT_all (S : List Int) (q : Nat) : ((cT S (q : Int) S.length : Nat) : Int) = cntB S q := by
  unfold cT cntB
  rw [List.take_length]
  congr 1
  refine List.countP_congr fun x _ => ?_
  simp
  omega
theorem cT_no (S : List Int) (k : Int) (h : ∀ x ∈ S, bl x ≤ 64) (hk : k < 0 ∨ 65 ≤ k) : cT S k S.length = 0 := by
  unfold cT
  rw [List.take_length, List.countP_eq_zero]
  intro x hx
  have := h x hx
  simp
  omega
theorem cT_le (S : List Int) (k : Int) (m : Nat) : cT S k m ≤ m := by
  unfold cT
  have h1 := List.countP_le_length (p := fun x => (bl x : Int) == k) (l := S.take m)
  have h2 : (S.take m).length ≤ m := by rw [List.length_take]; omega
  omega
set_option maxRecDepth 100000 in
set_option maxHeartbeats 4000000 in
theorem alike_some (g n c : Nat) (A : Option Addr) (f : Nat → Int) (cs : Array Value) (S : List Int) (part : Int) (w : World) (hB : Blk w g 56 cs) (hA : At70 cs f) (hS : IsStat f S) (hu : U64 S) (hs : S.Pairwise (· ≤ ·)) (hl : S.length = n) (h1 : 1 ≤ n) (hn : n ≤ 500) (hr : Row w w.heap.size A (S.map (.int .u64))) (p0 : -9223372036854775808 ≤ part) (p1 : part < 9223372036854775808) :
    Calls Try.prog 19 #[.pointer (some ⟨g, 0, none⟩), .slice A n c, .int .i64 part] w fun e w' => e = .returned (.bool true) ∧ Below w.heap.size w w' := by
  have cell : ∀ wx, Below w.heap.size w wx → ∀ i, i < 70 → wx.cell? ⟨g, i, none⟩ = some (.int .u64 (f i)) := fun wx hb i hi => ((hB.below hb hB.lt).cell i).trans (hA.2 i hi)
  have hsb := sum_bound S hu
  have blb : ∀ x ∈ S, bl x ≤ 64 := fun x hx => bl_le x (hu x hx).1 (hu x hx).2
  obtain ⟨en0, en1⟩ := hS.ends hs (n - 1) (by omega)
  have HEND := Lib.hid (show ∀ wx, Below w.heap.size w wx → Calls Try.prog 32 #[.pointer (some ⟨g, 0, none⟩)] wx fun e w' => e = .returned (.tuple #[.int .u64 (f 68), .int .u64 (f 69)]) ∧ Below wx.heap.size wx w' from fun wx hb => by
    have := ends_at g (f 68) (f 69) wx (cell wx hb 68 (by omega)) (cell wx hb 69 (by omega))
    exact this.mono fun e w' ⟨he, n, hn⟩ => ⟨he, by rw [← hn]; exact below_drewN (Below.refl _ _) _⟩)
  have HLEN := Lib.hid (show ∀ wx, Below w.heap.size w wx → Calls Try.prog 33 #[.pointer (some ⟨g, 0, none⟩)] wx fun e w' => e = .returned (.int .u64 (n : Int)) ∧ wx = w' from fun wx hb => by
    have := len_at g (f 65) wx (cell wx hb 65 (by omega))
    rw [hS.len, hl] at this
    exact this)
  have es : S.sum / 18446744073709551616 * 18446744073709551616 + S.sum % 18446744073709551616 = S.sum := by omega
  have HMEAN := Lib.hid (show ∀ wx, Below w.heap.size w wx → Calls Try.prog 34 #[.pointer (some ⟨g, 0, none⟩)] wx fun e w' => e = .returned (.int .u64 (S.sum / (n : Int))) ∧ Below wx.heap.size wx w' from fun wx hb => by
    have := mean_at g (S.sum / 18446744073709551616) (S.sum % 18446744073709551616) (n : Int) wx (by omega) (by omega) (by omega) (by omega) (by omega) (by rw [cell wx hb 66 (by omega), hS.hi]) (by rw [cell wx hb 67 (by omega), hS.lo]) (by rw [cell wx hb 65 (by omega), hS.len, hl])
    rw [es] at this
    exact this)
  have HDIV := Lib.hid (show ∀ wx, Calls Try.prog 38 #[.agg #[.int .u64 (S.sum / 18446744073709551616), .int .u64 (S.sum % 18446744073709551616)], .int .u64 (n : Int)] wx fun e w' => e = .returned (.tuple #[.int .u64 (S.sum / (n : Int)), .int .u64 (S.sum % (n : Int)), .bool true]) ∧ Below wx.heap.size wx w' from fun wx => by
    have := Go.Proofs.Ytpgodmcpdgbhaaa.divF.numDiv_ok (S.sum / 18446744073709551616) (S.sum % 18446744073709551616) (n : Int) (by omega) (by omega) (by omega) (by omega) (by omega) wx
    rw [es] at this
    exact this)
  have HSUM := Lib.hid (show ∀ wx, Below w.heap.size w wx → Calls Try.prog 37 #[.slice A n c] wx fun e w' => e = .returned (.tuple #[.agg #[.int .u64 (S.sum / 18446744073709551616), .int .u64 (S.sum % 18446744073709551616)], .bool true]) ∧ Below wx.heap.size wx w' from fun wx hb =>
    sum_any A n c S wx hl (by omega) hu ((hr.below hb).more hb.size))
  have HCNT := Lib.hid (show ∀ j : Nat, j < 67 → ∀ wx, Below w.heap.size w wx → Calls Try.prog 36 #[.pointer (some ⟨g, 0, none⟩), .int .i64 ((j : Int) - 1)] wx fun e w' => e = .returned (.int .u64 (cT S ((j : Int) - 1) n : Nat)) ∧ wx = w' from fun j hj wx hb => by
    by_cases hk : (j : Int) - 1 < 0 ∨ 65 ≤ (j : Int) - 1
    · have := cT_no S _ blb hk
      rw [hl] at this
      rw [this]
      exact count_no g _ wx hk
    · obtain ⟨q, hq⟩ : ∃ q : Nat, (j : Int) - 1 = q := ⟨j - 1, by omega⟩
      rw [hq]
      have e := cT_all S q
      rw [hl] at e
      rw [e, ← hS.cnt q (by omega)]
      exact count_at g q (f q) wx (by omega) (cell wx hb q (by omega)))
  obtain ⟨b, off, rfl, hbl, hc⟩ := getD_row hr (Below.refl _ _) 0 (by omega)
  rw [hl] at hc
  have HC := Lib.hid (show ∀ wx, Below w.heap.size w wx → ∀ j, j < n → wx.cell? ⟨b, off + j, none⟩ = some (.int .u64 (S.getD j 0)) from fun wx hb j hj => (hb.cell (p := ⟨b, off + j, none⟩) hbl).trans (hc j hj))
  have HBK := Lib.hid (show ∀ j, j < n → ∀ wx, Calls Try.prog 39 #[.int .u64 (S.getD j 0)] wx fun e w' => e = .returned (.int .i64 (bl (S.getD j 0))) ∧ wx = w' from fun j hj wx => by
    have hm : S.getD j 0 ∈ S := by rw [List.getD_eq_getElem?_getD, List.getElem?_eq_getElem (by omega)]; exact List.getElem_mem _
    have hx := hu _ hm
    have := lawbucket_any (S.getD j 0).toNat (by omega) wx
    rw [show (((S.getD j 0).toNat : Nat) : Int) = S.getD j 0 by omega] at this
    exact this)
  have HST := Lib.hid (fun k m (h : m < n) => cT_next S k m (by omega))
  have HCL := Lib.hid (fun k m => cT_le S k m)
  have EN0 := Lib.hid (show S.getD 0 0 = f 68 by rw [List.getD_eq_getElem?_getD, en0]; rfl)
  have EN1 := Lib.hid (show S.getD (n - 1) 0 = f 69 by rw [List.getD_eq_getElem?_getD, en1]; rfl)
  have HQN := Lib.hid (show part < 0 ∨ 1000 < part → ∀ wx, Below w.heap.size w wx → Calls Try.prog 35 #[.pointer (some ⟨g, 0, none⟩), .int .i64 part] wx fun e w' => e = .returned (.int .i64 (-1)) ∧ Below wx.heap.size wx w' from fun hp wx hb =>
    (quantile_no g f cs S part wx (hB.below hb hB.lt) hA hS (by omega) (.inr hp)).mono fun e w' ⟨he, hw⟩ => ⟨he, hw ▸ Below.refl _ _⟩)
  have HQY := Lib.hid (show ∀ p : Nat, part = p → p ≤ 1000 → ∀ a, a = (n - 1) * p / 1000 → a < n → ∀ wx, Below w.heap.size w wx → Calls Try.prog 35 #[.pointer (some ⟨g, 0, none⟩), .int .i64 part] wx fun e w' => e = .returned (.int .i64 (bl (S.getD a 0))) ∧ Below wx.heap.size wx w' from fun p hp hp2 a ha han wx hb => by
    rw [hp]
    have := quantile_at g f cs S p a wx (hB.below hb hB.lt) hA hS hu hs (by omega) hp2 (by omega) (by rw [hl]; exact ha)
    rw [List.getD_eq_getElem?_getD, List.getElem?_eq_getElem (by omega)]
    exact this)
  obtain ⟨Y, hY⟩ : ∃ Y : Nat → Int, Y = fun j => S.getD j 0 := ⟨_, rfl⟩
  have HC := Lib.hid (show ∀ wx, Below w.heap.size w wx → ∀ j, j < n → wx.cell? ⟨b, off + j, none⟩ = some (.int .u64 (Y j)) by rw [hY]; exact HC.out)
  have HBK := Lib.hid (show ∀ j, j < n → ∀ wx, Calls Try.prog 39 #[.int .u64 (Y j)] wx fun e w' => e = .returned (.int .i64 (bl (Y j))) ∧ wx = w' by rw [hY]; exact HBK.out)
  have HST := Lib.hid (show ∀ k m, m < n → cT S k (m + 1) = cT S k m + if ((bl (Y m) : Int) == k) = true then 1 else 0 by rw [hY]; exact HST.out)
  have HQY := Lib.hid (show ∀ p : Nat, part = p → p ≤ 1000 → ∀ a, a = (n - 1) * p / 1000 → a < n → ∀ wx, Below w.heap.size w wx → Calls Try.prog 35 #[.pointer (some ⟨g, 0, none⟩), .int .i64 part] wx fun e w' => e = .returned (.int .i64 (bl (Y a))) ∧ Below wx.heap.size wx w' by rw [hY]; exact HQY.out)
  have EN0 := Lib.hid (show Y 0 = f 68 by rw [hY]; exact EN0.out)
  have EN1 := Lib.hid (show Y (n - 1) = f 69 by rw [hY]; exact EN1.out)
  generalize f 68 = y0 at *
  generalize f 69 = y1 at *
  obtain ⟨C, hC⟩ : ∃ C : Int → Nat → Nat, C = fun k m => cT S k m := ⟨_, rfl⟩
  have HST := Lib.hid (show ∀ k m, m < n → C k (m + 1) = C k m + if ((bl (Y m) : Int) == k) = true then 1 else 0 by rw [hC]; exact HST.out)
  have HCL := Lib.hid (show ∀ k m, C k m ≤ m by rw [hC]; exact HCL.out)
  have HCNT := Lib.hid (show ∀ j : Nat, j < 67 → ∀ wx, Below w.heap.size w wx → Calls Try.prog 36 #[.pointer (some ⟨g, 0, none⟩), .int .i64 ((j : Int) - 1)] wx fun e w' => e = .returned (.int .u64 (C ((j : Int) - 1) n : Nat)) ∧ wx = w' by rw [hC]; exact HCNT.out)
  have HCNT := Lib.hid (show ∀ k : Int, -1 ≤ k → k < 66 → ∀ wx, Below w.heap.size w wx → Calls Try.prog 36 #[.pointer (some ⟨g, 0, none⟩), .int .i64 k] wx fun e w' => e = .returned (.int .u64 (C k n : Nat)) ∧ wx = w' from fun k h0 h1 wx hb => by
    have := HCNT.out (k + 1).toNat (by omega) wx hb
    rw [show (((k + 1).toNat : Nat) : Int) - 1 = k by omega] at this
    exact this)
  have C0 := Lib.hid (show ∀ k, C k 0 = 0 from fun k => by have := HCL.out k 0; omega)
  clear hB hA hS hu hs hr hl cell hsb blb es en0 en1 hbl hc hY hC
  obtain ⟨M, hM⟩ : ∃ M, M = S.sum / (n : Int) := ⟨_, rfl⟩
  rw [← hM] at HMEAN HDIV
  generalize S.sum / 18446744073709551616 = H1 at *
  generalize S.sum % 18446744073709551616 = H2 at *
  generalize S.sum % (n : Int) = H3 at *
  clear hM
  have e1 : IntKind.u64.wrap (n : Int) = (n : Int) := by rw [IntKind.wrap_u64]; omega
  have t1 : ((n : Int) == 0) = false := by simp; omega
  go_enter Try.func19, Try.ntmps19
  go_wp2_with (first
    | (go_at_call 32; (with_reducible refine (HEND.out _ (Below.refl _ _)).mono ?_); rintro e w1 ⟨rfl, hb1⟩; have HB1 := Lib.hid hb1; clear hb1)
    | (go_at_call 33; (with_reducible refine (HLEN.out _ HB1.out).mono ?_); rintro e w' ⟨rfl, rfl⟩)
    | (go_at_call 37; (with_reducible refine (HSUM.out _ HB1.out).mono ?_); rintro e w2 ⟨rfl, hb2⟩; have HB2 := Lib.hid (HB1.out.trans (hb2.mono HB1.out.size)); clear hb2)
    | (go_at_call 38; (with_reducible refine (HDIV.out _).mono ?_); rintro e w3 ⟨rfl, hb3⟩; have HB3 := Lib.hid ((HB2.out.alloc HB2.out.size _).trans (hb3.mono (Nat.le_trans HB2.out.size (by simp)))); clear hb3))
  go_loopw [14, 15, 16] (fun i _ _ wr => ∃ k : Int, -1 ≤ k ∧ k ≤ 66 ∧ i = .int .i64 k ∧ Below w.heap.size w wr) (fun i _ _ _ => (66 - intOf i).toNat)
  case atStart => exact ⟨-1, by omega, by omega, rfl, HB3.out⟩
  case round =>
    obtain ⟨k, k0, k1, rfl, hbel⟩ := hrel
    have HBel := Lib.hid hbel
    clear hbel
    by_cases hk : k < 66
    · have q1 : decide (k < 66) = true := decide_eq_true hk
      go_wp2_with fail
      go_loopw [16, 15] (fun i a wx => ∃ m : Nat, m ≤ n ∧ i = .int .i64 m ∧ a = .int .u64 (C k m : Nat) ∧ Below w.heap.size w wx) (fun i _ _ => n - (intOf i).toNat)
      case atStart => exact ⟨0, by omega, rfl, by rw [C0.out]; rfl, HBel.out⟩
      case round =>
        obtain ⟨m, hm, rfl, rfl, hbel⟩ := hrel
        have LBel := Lib.hid hbel
        clear hbel
        by_cases hlm : m < n
        · have q2 : decide ((m : Int) < (n : Int)) = true := decide_eq_true (by omega)
          have cm := HC.out _ LBel.out m hlm
          have cl := HCL.out k m
          have HS0 := Lib.hid (HST.out k m hlm)
          have HBM := Lib.hid (HBK.out m hlm)
          by_cases q : (bl (Y m) : Int) = k
          · have q3 : ((bl (Y m) : Int) == k) = true := by simpa using q
            have HS := Lib.hid (show C k (m + 1) = C k m + 1 by rw [HS0.out, if_pos q3])
            have e5 : IntKind.u64.wrap ((C k m : Nat) + 1 : Int) = (C k m : Nat) + 1 := by rw [IntKind.wrap_u64]; omega
            clear q cl HS0
            generalize Y m = y at *
            generalize bl y = z at *
            generalize C k m = r at *
            go_wp2_with (go_at_call 39; refine (HBM.out _).mono ?_; rintro e w' ⟨rfl, rfl⟩)
            go_roundw
            case rel => exact ⟨m + 1, by omega, by go_num, by rw [HS.out]; go_num, LBel.out⟩
            case measure => simp [intOf]; omega
          · have q3 : ((bl (Y m) : Int) == k) = false := by simpa using q
            have HS := Lib.hid (show C k (m + 1) = C k m by rw [HS0.out, if_neg (by rw [q3]; decide)]; rfl)
            clear q cl HS0
            generalize Y m = y at *
            generalize bl y = z at *
            generalize C k m = r at *
            go_wp2_with (go_at_call 39; refine (HBM.out _).mono ?_; rintro e w' ⟨rfl, rfl⟩)
            go_roundw
            case rel => exact ⟨m + 1, by omega, by go_num, by rw [HS.out], LBel.out⟩
            case measure => simp [intOf]; omega
        · obtain rfl : m = n := by omega
          have q2 : decide ((m : Int) < (m : Int)) = false := decide_eq_false (by omega)
          have HCN := Lib.hid (HCNT.out k k0 hk)
          generalize C k m = r at *
          go_wp2_with (go_at_call 36; refine (HCN.out _ LBel.out).mono ?_; rintro e w' ⟨rfl, rfl⟩)
          go_roundw
          case rel => exact ⟨k + 1, by omega, by omega, by go_num, LBel.out⟩
          case measure => simp [intOf]; omega
    · obtain rfl : k = 66 := by omega
      have d0 : wr.cell? ⟨b, off, none⟩ = some (.int .u64 y0) := (HC.out _ HBel.out 0 (by omega)).trans (by rw [EN0.out])
      have d1 : wr.cell? ⟨b, off + (n - 1), none⟩ = some (.int .u64 y1) := (HC.out _ HBel.out (n - 1) (by omega)).trans (by rw [EN1.out])
      have d2 : wr.cell? ⟨b, off + ((n : Int) - 1).toNat, none⟩ = some (.int .u64 y1) := by rw [show ((n : Int) - 1).toNat = n - 1 by omega]; exact d1
      have e6 : IntKind.i64.wrap ((n : Int) - 1) = (n : Int) - 1 := IntWalk.i64_in _ (by omega)
      by_cases hp : part < 0 ∨ 1000 < part
      · have HQ := Lib.hid (HQN.out hp)
        by_cases hp0 : part < 0
        · have q2 : decide (0 ≤ part) = false := decide_eq_false (by omega)
          go_wp2_with (first
            | (go_at_call 34; (with_reducible refine (HMEAN.out _ HBel.out).mono ?_); rintro e w5 ⟨rfl, hb5⟩; have HB5 := Lib.hid (HBel.out.trans (hb5.mono HBel.out.size)); clear hb5)
            | (go_at_call 35; (with_reducible refine (HQ.out _ HB5.out).mono ?_); rintro e w6 ⟨rfl, hb6⟩; have HB6 := Lib.hid (HB5.out.trans (hb6.mono HB5.out.size)); clear hb6))
          go_ret
          exact ⟨rfl, HB6.out⟩
        · have q2 : decide (0 ≤ part) = true := decide_eq_true (by omega)
          have q3 : decide (part ≤ 1000) = false := decide_eq_false (by omega)
          go_wp2_with (first
            | (go_at_call 34; (with_reducible refine (HMEAN.out _ HBel.out).mono ?_); rintro e w5 ⟨rfl, hb5⟩; have HB5 := Lib.hid (HBel.out.trans (hb5.mono HBel.out.size)); clear hb5)
            | (go_at_call 35; (with_reducible refine (HQ.out _ HB5.out).mono ?_); rintro e w6 ⟨rfl, hb6⟩; have HB6 := Lib.hid (HB5.out.trans (hb6.mono HB5.out.size)); clear hb6))
          go_ret
          exact ⟨rfl, HB6.out⟩
      · obtain ⟨p, hpp⟩ : ∃ p : Nat, part = p := ⟨part.toNat, by omega⟩
        have hm : (n - 1) * p ≤ 499 * 1000 := Nat.mul_le_mul (by omega) (by omega)
        have hal : (n - 1) * p / 1000 < n := by
          have : (n - 1) * p ≤ (n - 1) * 1000 := Nat.mul_le_mul (Nat.le_refl _) (by omega)
          omega
        have HQ := Lib.hid (HQY.out p hpp (by omega) _ rfl hal)
        have HBM := Lib.hid (HBK.out _ hal)
        have da := HC.out _ HBel.out _ hal
        have em : ((n : Int) - 1) * part = (((n - 1) * p : Nat) : Int) := by rw [hpp, Int.natCast_mul, Int.natCast_sub (by omega)]; rfl
        have q2 : decide (0 ≤ part) = true := decide_eq_true (by omega)
        have q3 : decide (part ≤ 1000) = true := decide_eq_true (by omega)
        generalize (n - 1) * p = P at *
        have e7 : IntKind.i64.wrap (P : Int) = (P : Int) := IntWalk.i64_in _ (by omega)
        have e8 : (P : Int).tdiv 1000 = ((P / 1000 : Nat) : Int) := by rw [Int.tdiv_eq_ediv_of_nonneg (by omega)]; omega
        have e9 : IntKind.i64.wrap ((P / 1000 : Nat) : Int) = ((P / 1000 : Nat) : Int) := IntWalk.i64_in _ (by omega)
        generalize P / 1000 = a at *
        clear hp hpp hm
        go_wp2_with (first
          | (go_at_call 39; refine (HBM.out _).mono ?_; rintro e w' ⟨rfl, rfl⟩)
          | (go_at_call 34; (with_reducible refine (HMEAN.out _ HBel.out).mono ?_); rintro e w5 ⟨rfl, hb5⟩; have HB5 := Lib.hid (HBel.out.trans (hb5.mono HBel.out.size)); clear hb5)
          | (go_at_call 35; (with_reducible refine (HQ.out _ HB5.out).mono ?_); rintro e w6 ⟨rfl, hb6⟩; have HB6 := Lib.hid (HB5.out.trans (hb6.mono HB5.out.size)); clear hb6))
        go_ret
        exact ⟨rfl, HB6.out⟩
end Go.Proofs.Ytpgodmcpdgbhaaa.histK
