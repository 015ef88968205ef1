/- Layer 38: which bucket a part of all numbers lies in; a histogram is cleared. -/
import Derived.Test.YtpgodmcpdgbhaaaHistF
namespace Go.Proofs.Ytpgodmcpdgbhaaa.histH
open Go.ChangeShapes Go.WideShapes Go.ChangeAt Go.RowKit
open Go.Proofs.Ytpgodmcpdgbhaaa.base Go.Proofs.Ytpgodmcpdgbhaaa.countA Go.Proofs.Ytpgodmcpdgbhaaa.countC Go.Proofs.Ytpgodmcpdgbhaaa.countE Go.Proofs.Ytpgodmcpdgbhaaa.countG Go.Proofs.Ytpgodmcpdgbhaaa.histA Go.Proofs.Ytpgodmcpdgbhaaa.histD Go.Proofs.Ytpgodmcpdgbhaaa.histE Go.Proofs.Ytpgodmcpdgbhaaa.histF
set_option linter.unusedVariables false

def HistAt (g B : Nat) (L : List Int) (w0 w : World) : Prop := ∃ cs f, Blk w g 56 cs ∧ At70 cs f ∧ IsStat f L ∧ But g B w0 w
theorem only_setRow (w : World) (g : Nat) (c : Array Value) : OnlyB g w (w.setRow g c) := ⟨rfl, rfl, rfl, by simp [World.setRow], fun k hk => setRow_other w g k c hk⟩
set_option maxRecDepth 100000 in
set_option maxHeartbeats 4000000 in
theorem clear_at (g : Nat) (cs : Array Value) (w : World) (hB : Blk w g 56 cs) (hc : cs.size = 70) :
    Calls Try.prog 23 #[.pointer (some ⟨g, 0, none⟩)] w fun e w' => e = .returned (.tuple #[]) ∧ HistAt g w.heap.size [] w w' := by
  obtain ⟨Z, hZ0⟩ : ∃ Z : Array Value, Z = Z70 := ⟨_, rfl⟩
  have hz : ∀ w : World, (zeroValue 56).run Try.prog w = .ok (.agg Z) w := by rw [hZ0]; exact (zero_of_info zero70).1
  have ZA : At70 Z (fun _ => 0) := by rw [hZ0]; exact z70_at
  have sz : Z.size = 70 := ZA.1
  have sz2 : ¬ Z = #[] := by intro h; rw [h] at sz; cases sz
  have HF := Lib.hid (show HistAt g w.heap.size [] w (w.setRow g Z) from ⟨Z, _, blk_setRow hB Z, ZA, empty_stat, (But.refl _ _ _).only (only_setRow w g Z)⟩)
  have HI := Lib.hid (show (Try.prog.info? 56).map (·.size) = some Z.size by rw [sz]; kernel_rfl)
  have HS := Lib.hid (show cs.size = Z.size by rw [hc, sz])
  have HO := Lib.hid (at70_one ZA)
  have HB := Lib.hid hB
  clear hB hc ZA hZ0
  go_enter Try.func23, Try.ntmps23
  go_wp2_with (refine wpList_store_row rfl 56 _ _ rfl g Z rfl rfl 56 cs HB.out HI.out HS.out HO.out ?_)
  exact bodyPost_end (v := .tuple #[]) (by simp [results, Try.results23, go_sem]) rfl ⟨rfl, HF.out⟩
theorem len_h (g : Nat) (f : Nat → Int) (cs : Array Value) (S : List Int) (w : World) (hB : Blk w g 56 cs) (hA : At70 cs f) (hS : IsStat f S) :
    Calls Try.prog 33 #[.pointer (some ⟨g, 0, none⟩)] w fun e w' => e = .returned (.int .u64 S.length) ∧ w = w' :=
  len_at g _ w (by rw [← hS.len]; exact (hB.cell 65).trans (hA.2 65 (by omega)))
/-- No such part, or no numbers. -/
theorem quantile_no (g : Nat) (f : Nat → Int) (cs : Array Value) (S : List Int) (part : Int) (w : World) (hB : Blk w g 56 cs) (hA : At70 cs f) (hS : IsStat f S) (hn : S.length ≤ 1000) (h : S = [] ∨ part < 0 ∨ 1000 < part) :
    Calls Try.prog 35 #[.pointer (some ⟨g, 0, none⟩), .int .i64 part] w fun e w' => e = .returned (.int .i64 (-1)) ∧ w = w' := by
  have HL := Lib.hid (len_h g f cs S w hB hA hS)
  by_cases h0 : S.length = 0
  · have q0 : ((S.length : Int) == 0) = true := by rw [h0]; rfl
    clear h hB hA hS h0
    generalize S.length = n at *
    go_enter Try.func35, Try.ntmps35
    go_wp2_with (go_at_call 33; refine HL.out.mono ?_; rintro e w' ⟨rfl, rfl⟩)
    go_ret
    exact ⟨rfl, rfl⟩
  · have q0 : ((S.length : Int) == 0) = false := by simp; exact fun e => h0 (by rw [e]; rfl)
    rcases h with h | h | h
    · exact absurd (by rw [h]; rfl) h0
    · have q1 : decide (part < 0) = true := decide_eq_true h
      clear h hB hA hS h0
      generalize S.length = n at *
      go_enter Try.func35, Try.ntmps35
      go_wp2_with (go_at_call 33; refine HL.out.mono ?_; rintro e w' ⟨rfl, rfl⟩)
      go_ret
      exact ⟨rfl, rfl⟩
    · have q1 : decide (part < 0) = false := decide_eq_false (by omega)
      have q2 : decide (1000 < part) = true := decide_eq_true h
      clear h hB hA hS h0
      generalize S.length = n at *
      go_enter Try.func35, Try.ntmps35
      go_wp2_with (go_at_call 33; refine HL.out.mono ?_; rintro e w' ⟨rfl, rfl⟩)
      go_ret
      exact ⟨rfl, rfl⟩
set_option maxRecDepth 100000 in
set_option maxHeartbeats 4000000 in
theorem quantile_at (g : Nat) (f : Nat → Int) (cs : Array Value) (S : List Int) (part a : Nat) (w : World) (hB : Blk w g 56 cs) (hA : At70 cs f) (hS : IsStat f S) (hu : U64 S) (hs : S.Pairwise (· ≤ ·)) (hn : S.length ≤ 1000) (hp : part ≤ 1000) (ha : a < S.length) (hae : a = (S.length - 1) * part / 1000) :
    Calls Try.prog 35 #[.pointer (some ⟨g, 0, none⟩), .int .i64 part] w fun e w' => e = .returned (.int .i64 (bl S[a])) ∧ Below w.heap.size w w' := by
  have HL := Lib.hid (len_h g f cs S w hB hA hS)
  have hm : (S.length - 1) * part ≤ 999 * 1000 := Nat.mul_le_mul (by omega) hp
  have hmi : ((S.length : Int) - 1) * part = (((S.length - 1) * part : Nat) : Int) := by rw [Int.natCast_mul, Int.natCast_sub (by omega)]; rfl
  have HSH := Lib.hid (show ∀ w : World, Calls Try.prog 47 #[.int .u64 ((S.length : Int) - 1), .int .u64 (part : Int), .int .u64 1000] w fun e w' => e = .returned (.tuple #[.int .u64 (a : Int), .bool true]) ∧ Below w.heap.size w w' by
    intro w
    have := Go.Proofs.Ytpgodmcpdgbhaaa.divF.share_ok ((S.length : Int) - 1) (part : Int) 1000 (by omega) (by omega) (by omega) (by omega) (by rw [hmi]; omega) (by omega) w
    rw [hmi] at this
    have e : (((S.length - 1) * part : Nat) : Int) / 1000 = (a : Int) := by rw [hae]; omega
    rw [e] at this
    exact this)
  have q0 : ((S.length : Int) == 0) = false := by simp; exact fun e => by rw [e] at ha; simp at ha
  have q1 : decide ((part : Int) < 0) = false := decide_eq_false (by omega)
  have q2 : decide (1000 < (part : Int)) = false := decide_eq_false (by omega)
  have e1 : IntKind.u64.wrap ((S.length : Int) - 1) = (S.length : Int) - 1 := by rw [IntKind.wrap_u64]; omega
  have e2 : IntKind.u64.wrap (part : Int) = (part : Int) := by rw [IntKind.wrap_u64]; omega
  have c65 := Lib.hid (show ∀ wx, Below w.heap.size w wx → wx.cell? ⟨g, 65, none⟩ = some (.int .u64 (S.length : Int)) from fun wx hb => by rw [← hS.len]; exact ((hB.below hb hB.lt).cell 65).trans (hA.2 65 (by omega)))
  obtain ⟨XS, xl, xh⟩ : ∃ XS : List Value, XS.length = 65 ∧ ∀ i, i < 65 → XS[i]? = some (.int .u64 (f i)) := ⟨(List.range 65).map fun i => .int .u64 (f i), by simp, fun i hi => by simp [hi]⟩
  have RG := Lib.hid (show ∀ wx, Below w.heap.size w wx → wx.rangeAt g 0 XS from fun wx hb j v hv => by
    have hj : j < 65 := by
      have := (List.getElem?_eq_some_iff.mp hv).1
      omega
    rw [Nat.zero_add, ← hv, xh j hj]
    exact ((hB.below hb hB.lt).cell j).trans (hA.2 j (by omega)))
  have XL := Lib.hid xl
  have XH := Lib.hid xh
  have SZX := Lib.hid (show (Try.prog.info? 52).map (·.size) = some XS.length by rw [xl]; kernel_rfl)
  have CN := Lib.hid (show ∀ k, k < 65 → f k = (below S (k + 1) : Int) - below S k ∧ 0 ≤ f k from fun k hk => by have := below_next S k; have := hS.cnt k hk; have := cntB_bd S k; omega)
  have BA := Lib.hid (below_all S fun x hx => bl_le x (hu x hx).1 (hu x hx).2)
  obtain ⟨r, hr⟩ : ∃ r, r = bl S[a] := ⟨_, rfl⟩
  have QQ := Lib.hid (show ∀ k, below S k ≤ a → a < below S (k + 1) → r = k from fun k h0 h1 => hr.trans (quant S hs (fun x hx y hy h => bl_mono x y (hu x hx).1 (hu y hy).2 h) a k ha h0 h1))
  have AA := Lib.hid ha
  have ZZ := Lib.hid (below_zero S)
  have an : a < 1000 := by omega
  rw [← hr]
  clear hB hA hS hu hs hn hp hae hm hmi xl xh ha hr
  generalize S.length = n at *
  go_enter Try.func35, Try.ntmps35
  have d65 := c65.out w (Below.refl _ _)
  go_wp2_with (first
    | (go_at_call 33; refine HL.out.mono ?_; rintro e w' ⟨rfl, rfl⟩)
    | (go_at_call 47; refine (HSH.out _).mono ?_; rintro e w1 ⟨rfl, hb⟩; have HB := Lib.hid hb; clear hb)
    | (refine wpList_load_mid rfl 52 _ rfl g 0 rfl XS _ (RG.out _ HB.out) Try.underlying52 rfl SZX.out ?_))
  clear d65
  go_loopw [35, 5, 7, 8] (fun i d _ _ wr => ∃ j : Nat, j ≤ 65 ∧ i = .int .i64 j ∧ below S j ≤ a ∧ d = .int .u64 ((a : Int) - (below S j : Nat)) ∧ Below w.heap.size w wr) (fun i _ _ _ _ => 65 - (intOf i).toNat)
  case atStart => exact ⟨0, by omega, rfl, by rw [ZZ.out]; omega, by rw [ZZ.out]; simp, HB.out⟩
  case round =>
    obtain ⟨j, hj, rfl, hja, rfl, hbel⟩ := hrel
    have HBel := Lib.hid hbel
    clear hbel
    by_cases hlt : j < 65
    · have p1 : decide ((j : Int) < 65) = true := decide_eq_true (by omega)
      have hidx := index_row XS f XL.out XH.out j hlt
      obtain ⟨cn, cp⟩ := CN.out j hlt
      by_cases hq : a < below S (j + 1)
      · have q3 : decide ((a : Int) - (below S j : Nat) < f j) = true := decide_eq_true (by rw [cn]; omega)
        have HR := Lib.hid (QQ.out j hja hq)
        clear cn cp hq hja
        generalize f j = x at *
        generalize below S j = y at *
        go_wp2_with fail
        go_ret
        exact ⟨by rw [HR.out]; rfl, HBel.out⟩
      · have q3 : decide ((a : Int) - (below S j : Nat) < f j) = false := decide_eq_false (by rw [cn]; omega)
        have e3 : IntKind.u64.wrap ((a : Int) - (below S j : Nat) - f j) = (a : Int) - (below S (j + 1) : Nat) := by rw [IntKind.wrap_u64, cn]; omega
        have HQ := Lib.hid (show below S (j + 1) ≤ a by omega)
        clear cn cp hq hja
        generalize f j = x at *
        generalize below S j = y at *
        go_wp2_with fail
        go_roundw
        case rel => exact ⟨j + 1, by omega, by go_num, HQ.out, rfl, HBel.out⟩
        case measure => simp [intOf]; omega
    · obtain rfl : j = 65 := by omega
      have := AA.out
      rw [BA.out] at hja
      omega
end Go.Proofs.Ytpgodmcpdgbhaaa.histH
