/- Layer 8: what bytes quote: all ways. -/
import Derived.Test.YtgikoljnmmnkkaaFourH
import Derived.Test.YtgikoljnmmnkkaaFourT
import Derived.Test.YtgikoljnmmnkkaaFourU
import Derived.Test.YtgikoljnmmnkkaaFourV
import Derived.Test.YtgikoljnmmnkkaaFourW
import Derived.Test.YtgikoljnmmnkkaaFourX
import Derived.Test.YtgikoljnmmnkkaaFourY
import Derived.Test.YtgikoljnmmnkkaaFourZ
import Derived.Test.YtgikoljnmmnkkaaFourZa
import Derived.Test.YtgikoljnmmnkkaaFourZb
namespace Go.Proofs.Ytgikoljnmmnkkaa.fourZc
open Go.ChangeShapes Go.WideShapes Go.ChangeAt Go.RowKit
open Go.Proofs.Ytgikoljnmmnkkaa.base Go.Proofs.Ytgikoljnmmnkkaa.sumA Go.Proofs.Ytgikoljnmmnkkaa.sumB Go.Proofs.Ytgikoljnmmnkkaa.octA Go.Proofs.Ytgikoljnmmnkkaa.octB Go.Proofs.Ytgikoljnmmnkkaa.octC Go.Proofs.Ytgikoljnmmnkkaa.octD Go.Proofs.Ytgikoljnmmnkkaa.octE Go.Proofs.Ytgikoljnmmnkkaa.octF Go.Proofs.Ytgikoljnmmnkkaa.octK Go.Proofs.Ytgikoljnmmnkkaa.rdrA Go.Proofs.Ytgikoljnmmnkkaa.udpA Go.Proofs.Ytgikoljnmmnkkaa.tcpC Go.Proofs.Ytgikoljnmmnkkaa.net Go.Proofs.Ytgikoljnmmnkkaa.fourA Go.Proofs.Ytgikoljnmmnkkaa.fourB Go.Proofs.Ytgikoljnmmnkkaa.fourC Go.Proofs.Ytgikoljnmmnkkaa.fourD Go.Proofs.Ytgikoljnmmnkkaa.fourE Go.Proofs.Ytgikoljnmmnkkaa.fourF Go.Proofs.Ytgikoljnmmnkkaa.fourG Go.Proofs.Ytgikoljnmmnkkaa.fourH Go.Proofs.Ytgikoljnmmnkkaa.fourL
set_option linter.unusedVariables false

theorem four_of (l : List Int) (k : Nat) (hk : k + 4 ≤ l.length) : (l.drop k).take 4 = [l.getD k 0, l.getD (k + 1) 0, l.getD (k + 2) 0, l.getD (k + 3) 0] := by
  have e := getD_drop l k
  have hlen : 4 ≤ (l.drop k).length := by rw [List.length_drop]; omega
  have e0 := e 0
  have e1 := e 1
  have e2 := e 2
  have e3 := e 3
  rw [Nat.add_zero] at e0
  rw [← e0, ← e1, ← e2, ← e3]
  match l.drop k, hlen with
  | a :: b :: c :: f :: t, _ => rfl
theorem bt_four (l : List Int) (hx : ∀ x ∈ l, 0 ≤ x ∧ x ≤ 255) (k : Nat) (hk : k + 4 ≤ l.length) : [bt (w32 l k) 4, bt (w32 l k) 5, bt (w32 l k) 6, bt (w32 l k) 7] = (l.drop k).take 4 := by
  rw [four_of l k hk]
  have b0 := getD_in l hx k
  have b1 := getD_in l hx (k + 1)
  have b2 := getD_in l hx (k + 2)
  have b3 := getD_in l hx (k + 3)
  have h4 : bt (w32 l k) 4 = l.getD k 0 := by
    show ((l.getD k 0 * 256 + l.getD (k + 1) 0) * 65536 + (l.getD (k + 2) 0 * 256 + l.getD (k + 3) 0)) / 16777216 % 256 = _
    omega
  have h5 : bt (w32 l k) 5 = l.getD (k + 1) 0 := by
    show ((l.getD k 0 * 256 + l.getD (k + 1) 0) * 65536 + (l.getD (k + 2) 0 * 256 + l.getD (k + 3) 0)) / 65536 % 256 = _
    omega
  have h6 : bt (w32 l k) 6 = l.getD (k + 2) 0 := by
    show ((l.getD k 0 * 256 + l.getD (k + 1) 0) * 65536 + (l.getD (k + 2) 0 * 256 + l.getD (k + 3) 0)) / 256 % 256 = _
    omega
  have h7 : bt (w32 l k) 7 = l.getD (k + 3) 0 := by
    show ((l.getD k 0 * 256 + l.getD (k + 1) 0) * 65536 + (l.getD (k + 2) 0 * 256 + l.getD (k + 3) 0)) / 1 % 256 = _
    omega
  rw [h4, h5, h6, h7]
theorem quotes_v (v1 : Value) (A : Option Addr) (n c : Nat) (l : List Int) (d6 : Bool) (sh sl dh dl : Int) (proto size : Int) (w : World) (l0 : 0 ≤ sl ∧ sl < 18446744073709551616) (l1 : 0 ≤ dl ∧ dl < 18446744073709551616) (l2 : 0 ≤ sh) (l3 : 0 ≤ dh)
    (hl' : l.length = n) (hn2 : n ≤ 300) (hnc : n ≤ c) (hc : c ≤ 9223372036854775807) (hr : Row w w.heap.size A (l.map (.int .u8))) (hx : ∀ x ∈ l, 0 ≤ x ∧ x ≤ 255)
    (C1 : Hid (∀ w : World, Calls Try.prog 24 #[v1] w fun e w' => e = .returned (.slice A n c) ∧ w = w')) :
    Calls Try.prog 8 #[v1, .agg #[.bool true, .int .u64 sh, .int .u64 sl], .agg #[.bool d6, .int .u64 dh, .int .u64 dl], .int .i64 proto, .int .i64 size] w fun e w' => e = .returned (.bool true) ∧ Below w.heap.size w w' := by
  by_cases h20 : n < 20
  · exact Go.Proofs.Ytgikoljnmmnkkaa.fourT.short_v v1 A n c d6 sh sl dh dl proto size w l0 l1 l2 l3 C1 2 (by omega) (Lib.hid fun W _ => quote_begin A n c 2 (by omega) W (fun w => begin_short A n c w h20)) (Lib.hid fun W _ => why_short A n c W h20) h20
  obtain ⟨b, off, rfl, hb, hs⟩ := lies_of hr (by omega)
  have hn : 20 ≤ n := by omega
  have hbW : ∀ W : World, Below w.heap.size w W → b < W.heap.size := fun W hW => Nat.lt_of_lt_of_le hb hW.size
  have k0 := getD_in l hx 0
  have k6 := getD_in l hx 6
  have k7 := getD_in l hx 7
  have k8 := getD_in l hx 8
  have k9 := getD_in l hx 9
  have HC : ∀ i, i < n → ∀ W : World, Below w.heap.size w W → W.cell? ⟨b, off + i, none⟩ = some (.int .u8 (l.getD i 0)) := fun i hi W hW => (hs.below hW hb) i (by omega)
  have QB : ∀ k : Int, k ≠ 0 → (∀ W : World, b < W.heap.size → Lies W b off l → Calls Try.prog 62 #[.slice (some ⟨b, off, none⟩) n c] W fun e w' => e = .returned (.tuple #[.int .i64 0, .int .i64 k]) ∧ W = w') → ∀ W : World, Below w.heap.size w W → Calls Try.prog 23 #[.slice (some ⟨b, off, none⟩) n c] W fun e w' => e = .returned (err k) ∧ Below W.heap.size W w' :=
    fun k hk0 h W hW => quote_begin_at _ n c k hk0 W (fun W2 hW2 => h W2 (Nat.lt_of_lt_of_le (hbW W hW) hW2.size) ((hs.below hW hb).below hW2 (hbW W hW)))
  by_cases h0 : l.getD 0 0 / 16 = 4
  · have hsN : 0 ≤ hl l := by unfold hl; omega
    obtain ⟨s, hsz⟩ := Int.eq_ofNat_of_zero_le hsN
    have hsz' : l.getD 0 0 % 16 * 4 = (s : Int) := hsz
    by_cases h1 : s < 20
    · exact Go.Proofs.Ytgikoljnmmnkkaa.fourV.small_v v1 _ n c d6 sh sl dh dl proto size w l0 l1 l2 l3 C1 b off rfl (l.getD 0 0) k0.1 k0.2 hn (by omega) (Lib.hid (HC 0 (by omega))) 11 11 (by omega) (Lib.hid (QB 11 (by omega) fun W a b' => begin_no b off n c l W hl' hn a b' hx 11 (.inr (.inl ⟨h0, by omega, rfl⟩)))) (Lib.hid fun W hW => why_small b off n c l W hl' hn (by omega) hnc hc (hbW W hW) (hs.below hW hb) hx h0 s hsz h1) rfl h0 (by omega)
    by_cases h2 : n < s
    · exact Go.Proofs.Ytgikoljnmmnkkaa.fourV.long_v v1 _ n c d6 sh sl dh dl proto size w l0 l1 l2 l3 C1 b off rfl (l.getD 0 0) k0.1 k0.2 hn (by omega) (Lib.hid (HC 0 (by omega))) 11 11 (by omega) (Lib.hid (QB 11 (by omega) fun W a b' => begin_no b off n c l W hl' hn a b' hx 11 (.inr (.inr ⟨h0, by omega, by omega, rfl⟩)))) (Lib.hid fun W hW => why_long b off n c l W hl' hn (by omega) hnc hc (hbW W hW) (hs.below hW hb) hx h0 s hsz (by omega) h2) rfl h0 (by omega) (by omega)
    have hs20 : 20 ≤ s := by omega
    have hsn : s ≤ n := by omega
    obtain ⟨kw, hw⟩ : ∃ kw : Int, ∀ W : World, Below w.heap.size w W → Calls Try.prog 26 #[.slice (some ⟨b, off, none⟩) n c] W fun e w' => e = .returned (.int .i64 kw) ∧ Below W.heap.size W w' := by
      by_cases h3 : 32768 ≤ w16 l 6
      · exact ⟨11, fun W hW => why_bit b off n c l W hl' hn (by omega) hnc hc (hbW W hW) (hs.below hW hb) hx h0 s hsz hs20 hsn h3⟩
      have hq : w16 l 6 < 32768 := by omega
      by_cases h4 : w16 l 2 < s
      · exact ⟨12, fun W hW => why_less b off n c l W hl' hn (by omega) hnc hc (hbW W hW) (hs.below hW hb) hx h0 s hsz hs20 hsn hq h4⟩
      by_cases h5 : (n : Int) < w16 l 2
      · exact ⟨12, fun W hW => why_more b off n c l W hl' hn (by omega) hnc hc (hbW W hW) (hs.below hW hb) hx h0 s hsz hs20 hsn hq (by omega) h5⟩
      by_cases hS : fo (wsum (l.take s)) = 65535
      · exact ⟨0, fun W hW => why_ok b off n c l W hl' hn (by omega) hnc hc (hbW W hW) (hs.below hW hb) hx h0 s hsz hs20 hsn hq (by omega) (by omega) hS⟩
      · exact ⟨13, fun W hW => why_sum b off n c l W hl' hn (by omega) hnc hc (hbW W hW) (hs.below hW hb) hx h0 s hsz hs20 hsn hq (by omega) (by omega) hS⟩
    have hfr : w16 l 6 % 8192 = 256 * (l.getD 6 0 % 32) + l.getD 7 0 := by
      show (l.getD 6 0 * 256 + l.getD 7 0) % 8192 = _
      omega
    refine Go.Proofs.Ytgikoljnmmnkkaa.fourZ.good_v v1 n d6 sh sl dh dl proto size w l0 l1 l2 l3 b off c s l hl' (l.getD 0 0) (l.getD 6 0) (l.getD 7 0) (l.getD 8 0) (l.getD 9 0) hb hn hn2 hnc hc hs20 hsn k0.1 k0.2 k6.1 k6.2 k7.1 k7.2 k8.1 k8.2 k9.1 k9.2 h0 hsz' (Lib.hid hs) (Lib.hid (HC 0 (by omega))) (Lib.hid (HC 6 (by omega))) (Lib.hid (HC 7 (by omega))) (Lib.hid (HC 8 (by omega))) (Lib.hid (HC 9 (by omega))) (l.getD 1 0) (w16 l 4) (decide (w16 l 6 / 16384 % 2 = 1)) (decide (w16 l 6 / 8192 % 2 = 1)) (w32 l 12) (w32 l 16) (w32_in l hx 12).1 (w32_in l hx 16).1 (Lib.hid (bt_four l hx 12 (by omega))) (Lib.hid (bt_four l hx 16 (by omega))) kw C1 (Lib.hid fun W hW => ?_) (Lib.hid hw)
    refine (quote_both b off n c s l W hl' hn (by omega) hnc hc (hbW W hW) (hs.below hW hb) hx h0 hs20 hsn hsz).mono ?_
    rintro e w' ⟨A2, c2, v, rfl, hnn, own1, own2, hbel⟩
    obtain ⟨A3, c3, rfl⟩ := own_slice own2
    exact ⟨A2, c2, A3, c3, by unfold hd; rw [hfr], own_row own2, hbel⟩
  · exact Go.Proofs.Ytgikoljnmmnkkaa.fourV.ver_v v1 _ n c d6 sh sl dh dl proto size w l0 l1 l2 l3 C1 b off rfl (l.getD 0 0) k0.1 k0.2 hn (by omega) (Lib.hid (HC 0 (by omega))) 10 10 (by omega) (Lib.hid (QB 10 (by omega) fun W a b' => begin_no b off n c l W hl' hn a b' hx 10 (.inl ⟨h0, rfl⟩))) (Lib.hid fun W hW => why_ver b off n c l W hl' hn (by omega) hnc hc (hbW W hW) (hs.below hW hb) hx h0) rfl h0
theorem quotes_x (v1 : Value) (A : Option Addr) (n c : Nat) (l : List Int) (sh sl dh dl : Int) (proto size : Int) (w : World) (l0 : 0 ≤ sl ∧ sl < 18446744073709551616) (l1 : 0 ≤ dl ∧ dl < 18446744073709551616) (l2 : 0 ≤ sh) (l3 : 0 ≤ dh)
    (hl' : l.length = n) (hn2 : n ≤ 300) (hnc : n ≤ c) (hc : c ≤ 9223372036854775807) (hr : Row w w.heap.size A (l.map (.int .u8))) (hx : ∀ x ∈ l, 0 ≤ x ∧ x ≤ 255)
    (C1 : Hid (∀ w : World, Calls Try.prog 24 #[v1] w fun e w' => e = .returned (.slice A n c) ∧ w = w')) :
    Calls Try.prog 8 #[v1, .agg #[.bool false, .int .u64 sh, .int .u64 sl], .agg #[.bool true, .int .u64 dh, .int .u64 dl], .int .i64 proto, .int .i64 size] w fun e w' => e = .returned (.bool true) ∧ Below w.heap.size w w' := by
  by_cases h20 : n < 20
  · exact Go.Proofs.Ytgikoljnmmnkkaa.fourT.short_x v1 A n c sh sl dh dl proto size w l0 l1 l2 l3 C1 2 (by omega) (Lib.hid fun W _ => quote_begin A n c 2 (by omega) W (fun w => begin_short A n c w h20)) (Lib.hid fun W _ => why_short A n c W h20) h20
  obtain ⟨b, off, rfl, hb, hs⟩ := lies_of hr (by omega)
  have hn : 20 ≤ n := by omega
  have hbW : ∀ W : World, Below w.heap.size w W → b < W.heap.size := fun W hW => Nat.lt_of_lt_of_le hb hW.size
  have k0 := getD_in l hx 0
  have k6 := getD_in l hx 6
  have k7 := getD_in l hx 7
  have k8 := getD_in l hx 8
  have k9 := getD_in l hx 9
  have HC : ∀ i, i < n → ∀ W : World, Below w.heap.size w W → W.cell? ⟨b, off + i, none⟩ = some (.int .u8 (l.getD i 0)) := fun i hi W hW => (hs.below hW hb) i (by omega)
  have QB : ∀ k : Int, k ≠ 0 → (∀ W : World, b < W.heap.size → Lies W b off l → Calls Try.prog 62 #[.slice (some ⟨b, off, none⟩) n c] W fun e w' => e = .returned (.tuple #[.int .i64 0, .int .i64 k]) ∧ W = w') → ∀ W : World, Below w.heap.size w W → Calls Try.prog 23 #[.slice (some ⟨b, off, none⟩) n c] W fun e w' => e = .returned (err k) ∧ Below W.heap.size W w' :=
    fun k hk0 h W hW => quote_begin_at _ n c k hk0 W (fun W2 hW2 => h W2 (Nat.lt_of_lt_of_le (hbW W hW) hW2.size) ((hs.below hW hb).below hW2 (hbW W hW)))
  by_cases h0 : l.getD 0 0 / 16 = 4
  · have hsN : 0 ≤ hl l := by unfold hl; omega
    obtain ⟨s, hsz⟩ := Int.eq_ofNat_of_zero_le hsN
    have hsz' : l.getD 0 0 % 16 * 4 = (s : Int) := hsz
    by_cases h1 : s < 20
    · exact Go.Proofs.Ytgikoljnmmnkkaa.fourV.small_x v1 _ n c sh sl dh dl proto size w l0 l1 l2 l3 C1 b off rfl (l.getD 0 0) k0.1 k0.2 hn (by omega) (Lib.hid (HC 0 (by omega))) 11 11 (by omega) (Lib.hid (QB 11 (by omega) fun W a b' => begin_no b off n c l W hl' hn a b' hx 11 (.inr (.inl ⟨h0, by omega, rfl⟩)))) (Lib.hid fun W hW => why_small b off n c l W hl' hn (by omega) hnc hc (hbW W hW) (hs.below hW hb) hx h0 s hsz h1) rfl h0 (by omega)
    by_cases h2 : n < s
    · exact Go.Proofs.Ytgikoljnmmnkkaa.fourV.long_x v1 _ n c sh sl dh dl proto size w l0 l1 l2 l3 C1 b off rfl (l.getD 0 0) k0.1 k0.2 hn (by omega) (Lib.hid (HC 0 (by omega))) 11 11 (by omega) (Lib.hid (QB 11 (by omega) fun W a b' => begin_no b off n c l W hl' hn a b' hx 11 (.inr (.inr ⟨h0, by omega, by omega, rfl⟩)))) (Lib.hid fun W hW => why_long b off n c l W hl' hn (by omega) hnc hc (hbW W hW) (hs.below hW hb) hx h0 s hsz (by omega) h2) rfl h0 (by omega) (by omega)
    have hs20 : 20 ≤ s := by omega
    have hsn : s ≤ n := by omega
    obtain ⟨kw, hw⟩ : ∃ kw : Int, ∀ W : World, Below w.heap.size w W → Calls Try.prog 26 #[.slice (some ⟨b, off, none⟩) n c] W fun e w' => e = .returned (.int .i64 kw) ∧ Below W.heap.size W w' := by
      by_cases h3 : 32768 ≤ w16 l 6
      · exact ⟨11, fun W hW => why_bit b off n c l W hl' hn (by omega) hnc hc (hbW W hW) (hs.below hW hb) hx h0 s hsz hs20 hsn h3⟩
      have hq : w16 l 6 < 32768 := by omega
      by_cases h4 : w16 l 2 < s
      · exact ⟨12, fun W hW => why_less b off n c l W hl' hn (by omega) hnc hc (hbW W hW) (hs.below hW hb) hx h0 s hsz hs20 hsn hq h4⟩
      by_cases h5 : (n : Int) < w16 l 2
      · exact ⟨12, fun W hW => why_more b off n c l W hl' hn (by omega) hnc hc (hbW W hW) (hs.below hW hb) hx h0 s hsz hs20 hsn hq (by omega) h5⟩
      by_cases hS : fo (wsum (l.take s)) = 65535
      · exact ⟨0, fun W hW => why_ok b off n c l W hl' hn (by omega) hnc hc (hbW W hW) (hs.below hW hb) hx h0 s hsz hs20 hsn hq (by omega) (by omega) hS⟩
      · exact ⟨13, fun W hW => why_sum b off n c l W hl' hn (by omega) hnc hc (hbW W hW) (hs.below hW hb) hx h0 s hsz hs20 hsn hq (by omega) (by omega) hS⟩
    have hfr : w16 l 6 % 8192 = 256 * (l.getD 6 0 % 32) + l.getD 7 0 := by
      show (l.getD 6 0 * 256 + l.getD 7 0) % 8192 = _
      omega
    refine Go.Proofs.Ytgikoljnmmnkkaa.fourZb.good_x v1 n sh sl dh dl proto size w l0 l1 l2 l3 b off c s l hl' (l.getD 0 0) (l.getD 6 0) (l.getD 7 0) (l.getD 8 0) (l.getD 9 0) hb hn hn2 hnc hc hs20 hsn k0.1 k0.2 k6.1 k6.2 k7.1 k7.2 k8.1 k8.2 k9.1 k9.2 h0 hsz' (Lib.hid hs) (Lib.hid (HC 0 (by omega))) (Lib.hid (HC 6 (by omega))) (Lib.hid (HC 7 (by omega))) (Lib.hid (HC 8 (by omega))) (Lib.hid (HC 9 (by omega))) (l.getD 1 0) (w16 l 4) (decide (w16 l 6 / 16384 % 2 = 1)) (decide (w16 l 6 / 8192 % 2 = 1)) (w32 l 12) (w32 l 16) (w32_in l hx 12).1 (w32_in l hx 16).1 (Lib.hid (bt_four l hx 12 (by omega))) (Lib.hid (bt_four l hx 16 (by omega))) kw C1 (Lib.hid fun W hW => ?_) (Lib.hid hw)
    refine (quote_both b off n c s l W hl' hn (by omega) hnc hc (hbW W hW) (hs.below hW hb) hx h0 hs20 hsn hsz).mono ?_
    rintro e w' ⟨A2, c2, v, rfl, hnn, own1, own2, hbel⟩
    obtain ⟨A3, c3, rfl⟩ := own_slice own2
    exact ⟨A2, c2, A3, c3, by unfold hd; rw [hfr], own_row own2, hbel⟩
  · exact Go.Proofs.Ytgikoljnmmnkkaa.fourV.ver_x v1 _ n c sh sl dh dl proto size w l0 l1 l2 l3 C1 b off rfl (l.getD 0 0) k0.1 k0.2 hn (by omega) (Lib.hid (HC 0 (by omega))) 10 10 (by omega) (Lib.hid (QB 10 (by omega) fun W a b' => begin_no b off n c l W hl' hn a b' hx 10 (.inl ⟨h0, rfl⟩))) (Lib.hid fun W hW => why_ver b off n c l W hl' hn (by omega) hnc hc (hbW W hW) (hs.below hW hb) hx h0) rfl h0
theorem quotes_f (v1 : Value) (A : Option Addr) (n c : Nat) (l : List Int) (sh sl dh dl : Int) (proto size : Int) (w : World) (l0 : 0 ≤ sl ∧ sl < 18446744073709551616) (l1 : 0 ≤ dl ∧ dl < 18446744073709551616) (l2 : 0 ≤ sh) (l3 : 0 ≤ dh)
    (hl' : l.length = n) (hn2 : n ≤ 300) (hnc : n ≤ c) (hc : c ≤ 9223372036854775807) (hr : Row w w.heap.size A (l.map (.int .u8))) (hx : ∀ x ∈ l, 0 ≤ x ∧ x ≤ 255)
    (C1 : Hid (∀ w : World, Calls Try.prog 24 #[v1] w fun e w' => e = .returned (.slice A n c) ∧ w = w')) :
    Calls Try.prog 8 #[v1, .agg #[.bool false, .int .u64 sh, .int .u64 sl], .agg #[.bool false, .int .u64 dh, .int .u64 dl], .int .i64 proto, .int .i64 size] w fun e w' => e = .returned (.bool true) ∧ Below w.heap.size w w' := by
  by_cases h20 : n < 20
  · exact Go.Proofs.Ytgikoljnmmnkkaa.fourU.short_f v1 A n c sh sl dh dl proto size w l0 l1 l2 l3 C1 2 (by omega) (Lib.hid fun W _ => quote_begin A n c 2 (by omega) W (fun w => begin_short A n c w h20)) (Lib.hid fun W _ => why_short A n c W h20) h20
  obtain ⟨b, off, rfl, hb, hs⟩ := lies_of hr (by omega)
  have hn : 20 ≤ n := by omega
  have hbW : ∀ W : World, Below w.heap.size w W → b < W.heap.size := fun W hW => Nat.lt_of_lt_of_le hb hW.size
  have k0 := getD_in l hx 0
  have k6 := getD_in l hx 6
  have k7 := getD_in l hx 7
  have k8 := getD_in l hx 8
  have k9 := getD_in l hx 9
  have HC : ∀ i, i < n → ∀ W : World, Below w.heap.size w W → W.cell? ⟨b, off + i, none⟩ = some (.int .u8 (l.getD i 0)) := fun i hi W hW => (hs.below hW hb) i (by omega)
  have QB : ∀ k : Int, k ≠ 0 → (∀ W : World, b < W.heap.size → Lies W b off l → Calls Try.prog 62 #[.slice (some ⟨b, off, none⟩) n c] W fun e w' => e = .returned (.tuple #[.int .i64 0, .int .i64 k]) ∧ W = w') → ∀ W : World, Below w.heap.size w W → Calls Try.prog 23 #[.slice (some ⟨b, off, none⟩) n c] W fun e w' => e = .returned (err k) ∧ Below W.heap.size W w' :=
    fun k hk0 h W hW => quote_begin_at _ n c k hk0 W (fun W2 hW2 => h W2 (Nat.lt_of_lt_of_le (hbW W hW) hW2.size) ((hs.below hW hb).below hW2 (hbW W hW)))
  by_cases h0 : l.getD 0 0 / 16 = 4
  · have hsN : 0 ≤ hl l := by unfold hl; omega
    obtain ⟨s, hsz⟩ := Int.eq_ofNat_of_zero_le hsN
    have hsz' : l.getD 0 0 % 16 * 4 = (s : Int) := hsz
    by_cases h1 : s < 20
    · exact Go.Proofs.Ytgikoljnmmnkkaa.fourX.small_f v1 _ n c sh sl dh dl proto size w l0 l1 l2 l3 C1 b off rfl (l.getD 0 0) k0.1 k0.2 hn (by omega) (Lib.hid (HC 0 (by omega))) 11 11 (by omega) (Lib.hid (QB 11 (by omega) fun W a b' => begin_no b off n c l W hl' hn a b' hx 11 (.inr (.inl ⟨h0, by omega, rfl⟩)))) (Lib.hid fun W hW => why_small b off n c l W hl' hn (by omega) hnc hc (hbW W hW) (hs.below hW hb) hx h0 s hsz h1) rfl h0 (by omega)
    by_cases h2 : n < s
    · exact Go.Proofs.Ytgikoljnmmnkkaa.fourY.long_f v1 _ n c sh sl dh dl proto size w l0 l1 l2 l3 C1 b off rfl (l.getD 0 0) k0.1 k0.2 hn (by omega) (Lib.hid (HC 0 (by omega))) 11 11 (by omega) (Lib.hid (QB 11 (by omega) fun W a b' => begin_no b off n c l W hl' hn a b' hx 11 (.inr (.inr ⟨h0, by omega, by omega, rfl⟩)))) (Lib.hid fun W hW => why_long b off n c l W hl' hn (by omega) hnc hc (hbW W hW) (hs.below hW hb) hx h0 s hsz (by omega) h2) rfl h0 (by omega) (by omega)
    have hs20 : 20 ≤ s := by omega
    have hsn : s ≤ n := by omega
    obtain ⟨kw, hw⟩ : ∃ kw : Int, ∀ W : World, Below w.heap.size w W → Calls Try.prog 26 #[.slice (some ⟨b, off, none⟩) n c] W fun e w' => e = .returned (.int .i64 kw) ∧ Below W.heap.size W w' := by
      by_cases h3 : 32768 ≤ w16 l 6
      · exact ⟨11, fun W hW => why_bit b off n c l W hl' hn (by omega) hnc hc (hbW W hW) (hs.below hW hb) hx h0 s hsz hs20 hsn h3⟩
      have hq : w16 l 6 < 32768 := by omega
      by_cases h4 : w16 l 2 < s
      · exact ⟨12, fun W hW => why_less b off n c l W hl' hn (by omega) hnc hc (hbW W hW) (hs.below hW hb) hx h0 s hsz hs20 hsn hq h4⟩
      by_cases h5 : (n : Int) < w16 l 2
      · exact ⟨12, fun W hW => why_more b off n c l W hl' hn (by omega) hnc hc (hbW W hW) (hs.below hW hb) hx h0 s hsz hs20 hsn hq (by omega) h5⟩
      by_cases hS : fo (wsum (l.take s)) = 65535
      · exact ⟨0, fun W hW => why_ok b off n c l W hl' hn (by omega) hnc hc (hbW W hW) (hs.below hW hb) hx h0 s hsz hs20 hsn hq (by omega) (by omega) hS⟩
      · exact ⟨13, fun W hW => why_sum b off n c l W hl' hn (by omega) hnc hc (hbW W hW) (hs.below hW hb) hx h0 s hsz hs20 hsn hq (by omega) (by omega) hS⟩
    have hfr : w16 l 6 % 8192 = 256 * (l.getD 6 0 % 32) + l.getD 7 0 := by
      show (l.getD 6 0 * 256 + l.getD 7 0) % 8192 = _
      omega
    refine Go.Proofs.Ytgikoljnmmnkkaa.fourZa.good_f v1 n sh sl dh dl proto size w l0 l1 l2 l3 b off c s l hl' (l.getD 0 0) (l.getD 6 0) (l.getD 7 0) (l.getD 8 0) (l.getD 9 0) hb hn hn2 hnc hc hs20 hsn k0.1 k0.2 k6.1 k6.2 k7.1 k7.2 k8.1 k8.2 k9.1 k9.2 h0 hsz' (Lib.hid hs) (Lib.hid (HC 0 (by omega))) (Lib.hid (HC 6 (by omega))) (Lib.hid (HC 7 (by omega))) (Lib.hid (HC 8 (by omega))) (Lib.hid (HC 9 (by omega))) (l.getD 1 0) (w16 l 4) (decide (w16 l 6 / 16384 % 2 = 1)) (decide (w16 l 6 / 8192 % 2 = 1)) (w32 l 12) (w32 l 16) (w32_in l hx 12).1 (w32_in l hx 16).1 (Lib.hid (bt_four l hx 12 (by omega))) (Lib.hid (bt_four l hx 16 (by omega))) kw C1 (Lib.hid fun W hW => ?_) (Lib.hid hw)
    refine (quote_both b off n c s l W hl' hn (by omega) hnc hc (hbW W hW) (hs.below hW hb) hx h0 hs20 hsn hsz).mono ?_
    rintro e w' ⟨A2, c2, v, rfl, hnn, own1, own2, hbel⟩
    obtain ⟨A3, c3, rfl⟩ := own_slice own2
    exact ⟨A2, c2, A3, c3, by unfold hd; rw [hfr], own_row own2, hbel⟩
  · exact Go.Proofs.Ytgikoljnmmnkkaa.fourW.ver_f v1 _ n c sh sl dh dl proto size w l0 l1 l2 l3 C1 b off rfl (l.getD 0 0) k0.1 k0.2 hn (by omega) (Lib.hid (HC 0 (by omega))) 10 10 (by omega) (Lib.hid (QB 10 (by omega) fun W a b' => begin_no b off n c l W hl' hn a b' hx 10 (.inl ⟨h0, rfl⟩))) (Lib.hid fun W hW => why_ver b off n c l W hl' hn (by omega) hnc hc (hbW W hW) (hs.below hW hb) hx h0) rfl h0
theorem quotes_any (v1 : Value) (A : Option Addr) (n c : Nat) (l : List Int) (s6 d6 : Bool) (sh sl dh dl : Int) (proto size : Int) (w : World) (l0 : 0 ≤ sl ∧ sl < 18446744073709551616) (l1 : 0 ≤ dl ∧ dl < 18446744073709551616) (l2 : 0 ≤ sh) (l3 : 0 ≤ dh)
    (hl' : l.length = n) (hn2 : n ≤ 300) (hnc : n ≤ c) (hc : c ≤ 9223372036854775807) (hr : Row w w.heap.size A (l.map (.int .u8))) (hx : ∀ x ∈ l, 0 ≤ x ∧ x ≤ 255)
    (C1 : Hid (∀ w : World, Calls Try.prog 24 #[v1] w fun e w' => e = .returned (.slice A n c) ∧ w = w')) :
    Calls Try.prog 8 #[v1, .agg #[.bool s6, .int .u64 sh, .int .u64 sl], .agg #[.bool d6, .int .u64 dh, .int .u64 dl], .int .i64 proto, .int .i64 size] w fun e w' => e = .returned (.bool true) ∧ Below w.heap.size w w' := by
  cases s6
  · cases d6
    · exact quotes_f v1 A n c l sh sl dh dl proto size w l0 l1 l2 l3 hl' hn2 hnc hc hr hx C1
    · exact quotes_x v1 A n c l sh sl dh dl proto size w l0 l1 l2 l3 hl' hn2 hnc hc hr hx C1
  · exact quotes_v v1 A n c l d6 sh sl dh dl proto size w l0 l1 l2 l3 hl' hn2 hnc hc hr hx C1
end Go.Proofs.Ytgikoljnmmnkkaa.fourZc
