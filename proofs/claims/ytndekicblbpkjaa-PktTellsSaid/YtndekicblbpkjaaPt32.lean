/- 3 texts in one. -/
import Derived.Lib.SmallJoins
import Derived.Deep.Slices
import Derived.Deep.Fields
import Derived.Test.YtndekicblbpkjaaPt01
import Derived.Test.YtndekicblbpkjaaPt27
import Derived.Test.YtndekicblbpkjaaPt31
/- Layer 13: any bytes are parsed as the packet that they are, or as none, and why. -/
namespace Go.Proofs.Ytndekicblbpkjaa.pktP
open Go.ChangeShapes Go.WideShapes Go.ChangeAt Go.RowKit
open Go.Proofs.Ytndekicblbpkjaa.rdrG Go.Proofs.Ytndekicblbpkjaa.sumB Go.Proofs.Ytndekicblbpkjaa.sixF Go.Proofs.Ytndekicblbpkjaa.sixO
set_option linter.unusedVariables false

theorem cut_any (A : Option Addr) (n c : Nat) (w : World) (hA : 0 < n → ∃ b off, A = some ⟨b, off, none⟩) (hnc : n ≤ c) (hc : c ≤ 9223372036854775807) :
    Calls Try.prog 27 #[.slice A n c] w fun o w' => o = .returned (.slice A (min n 500) c) ∧ w = w' := by
  by_cases h : 500 < n
  · obtain ⟨b, off, rfl⟩ := hA (by omega)
    obtain ⟨s1, s2⟩ := slice_to b off n c 500 (by omega) (by omega)
    have t1 : decide (500 < (n : Int)) = true := decide_eq_true (by omega)
    have t1n : decide (500 < n) = true := decide_eq_true h
    have e : min n 500 = 500 := by omega
    rw [e]
    have s1 : ∀ W : World, (Instr.slice 22 (.slice (some ⟨b, off, none⟩) n c) none (some (.int .i64 500)) none).run Try.prog W = .ok (.slice (some ⟨b, off, none⟩) 500 c) W := s1
    have s2 : ∀ W : World, (Instr.sliceAt 22 (.slice (some ⟨b, off, none⟩) n c) none (some (.int .i64 500)) none).run Try.prog W = .ok (.slice (some ⟨b, off, none⟩) 500 c) W := s2
    clear e hA
    go_enter Try.func27, Try.ntmps27
    go_wp2_with fail
    go_ret
    exact ⟨rfl, rfl⟩
  · have t1 : decide (500 < (n : Int)) = false := decide_eq_false (by omega)
    have t1n : decide (500 < n) = false := decide_eq_false h
    have e : min n 500 = n := by omega
    rw [e]
    clear e hA
    go_enter Try.func27, Try.ntmps27
    go_wp2_with fail
    go_ret
    exact ⟨rfl, rfl⟩
end Go.Proofs.Ytndekicblbpkjaa.pktP
/- Layer 13: what is told of an error about any packet that is made is about its flow the other way round. -/
namespace Go.Proofs.Ytndekicblbpkjaa.pktZa
open Go.ChangeShapes Go.WideShapes Go.ChangeAt Go.RowKit
open Go.Proofs.Ytndekicblbpkjaa.base Go.Proofs.Ytndekicblbpkjaa.octA Go.Proofs.Ytndekicblbpkjaa.rdrA Go.Proofs.Ytndekicblbpkjaa.rdrG Go.Proofs.Ytndekicblbpkjaa.sixW Go.Proofs.Ytndekicblbpkjaa.sixM Go.Proofs.Ytndekicblbpkjaa.pktA Go.Proofs.Ytndekicblbpkjaa.pktB Go.Proofs.Ytndekicblbpkjaa.pktC Go.Proofs.Ytndekicblbpkjaa.pktE Go.Proofs.Ytndekicblbpkjaa.pktG Go.Proofs.Ytndekicblbpkjaa.pktR Go.Proofs.Ytndekicblbpkjaa.pktS Go.Proofs.Ytndekicblbpkjaa.pktW Go.Proofs.Ytndekicblbpkjaa.pktX Go.Proofs.Ytndekicblbpkjaa.pktY Go.Proofs.Ytndekicblbpkjaa.pktZ
set_option linter.unusedVariables false

theorem told (s6 : Bool) (fh fl sh sl dh dl sp dp ttl : Int) (bs : List Int) (k : Nat) (b1 : 0 ≤ sh ∧ sh < 18446744073709551616) (b2 : 0 ≤ sl ∧ sl < 18446744073709551616) (b3 : 0 ≤ dh ∧ dh < 18446744073709551616) (b4 : 0 ≤ dl ∧ dl < 18446744073709551616) (c1' : 0 ≤ fh ∧ fh < 18446744073709551616) (c2' : 0 ≤ fl ∧ fl < 18446744073709551616) (hok : okE s6 fh fl ttl) (hz : s6 = false → sh = 0 ∧ dh = 0 ∧ sl < 4294967296 ∧ dl < 4294967296) (hb : 8 ≤ bs.length) (hb2 : bs.length ≤ 600) (e1 : udpA.w16 bs 0 = sp) (e2 : udpA.w16 bs 2 = dp) (hu : U8 (mkD s6 sh sl dh dl bs)) (hk : k ≤ (mkD s6 sh sl dh dl bs).length) :
    pkP (mkE s6 fh fl sh sl ttl ((mkD s6 sh sl dh dl bs).take k)) = if k < (if s6 = true then 44 else 24) then (zeroPk, 2) else (⟨s6, ⟨(if s6 = true then 58 else 1), s6, fh, fl, s6, sh, sl, 0, 0⟩, ttl, 0, true, (⟨17, s6, sh, sl, s6, dh, dl, sp, dp⟩ : Tp).back, ((mkE s6 fh fl sh sl ttl ((mkD s6 sh sl dh dl bs).take k)).length : Int)⟩, 0) := by
  cases s6 with
  | false =>
    obtain ⟨rfl, rfl, hs, hd⟩ := hz rfl
    obtain ⟨ht, hf⟩ := hok
    have hf' : fh = 0 ∧ fl < 4294967296 := by
      rcases hf with hf | hf
      · cases hf
      · exact hf
    obtain ⟨rfl, hf2⟩ := hf'
    have e : mkD false 0 sl 0 dl bs = mkB4 64 17 sl dl bs := rfl
    rw [e] at hu hk ⊢
    have hl4 := mk4_len 64 17 sl dl bs
    have ld : ((mkB4 64 17 sl dl bs).take k).length = k := by rw [List.length_take]; omega
    show pkP (mkB4 ttl 1 fl sl (msg 3 [] ((mkB4 64 17 sl dl bs).take k))) = _
    rw [tell4 ttl fl sl _ ht ⟨c2'.1, by omega⟩ ⟨b2.1, by omega⟩ (hu.take k) (by omega), quo4 64 sl dl sp dp bs k (by omega) ⟨b2.1, by omega⟩ ⟨b4.1, by omega⟩ hb (by omega) e1 e2 (by omega)]
    by_cases h24 : k < 24
    · rw [if_pos h24, if_pos (show (2 : Int) ≠ 0 by decide), if_pos (by rw [if_neg (by decide)]; exact h24)]
    · rw [if_neg h24, if_neg (fun h => h rfl), if_neg (by rw [if_neg (by decide)]; exact h24)]
      rfl
  | true =>
    obtain ⟨ht, _⟩ := hok
    have e : mkD true sh sl dh dl bs = mkB6 64 17 sh sl dh dl bs := rfl
    rw [e] at hu hk ⊢
    have hl6 := (mk6_parse 64 17 sh sl dh dl bs (by omega) (by omega) (by decide) b1 b2 b3 b4 (by omega)).2
    have ld : ((mkB6 64 17 sh sl dh dl bs).take k).length = k := by rw [List.length_take]; omega
    show pkP (mkB6 ttl 58 fh fl sh sl (msg 1 (psd6 fh fl sh sl 58 (8 + (((mkB6 64 17 sh sl dh dl bs).take k).length : Int))) ((mkB6 64 17 sh sl dh dl bs).take k))) = _
    rw [tell6 ttl fh fl sh sl _ _ ht c1' c2' b1 b2 (hu.take k) (by omega) rfl, quo6 64 sh sl dh dl sp dp bs k (by omega) b1 b2 b3 b4 hb (by omega) e1 e2 (by omega)]
    by_cases h24 : k < 44
    · rw [if_pos h24, if_pos (show (2 : Int) ≠ 0 by decide), if_pos (by rw [if_pos rfl]; exact h24)]
    · rw [if_neg h24, if_neg (fun h => h rfl), if_neg (by rw [if_pos rfl]; exact h24)]
      rfl
theorem mkE_len (s6 : Bool) (fh fl sh sl ttl : Int) (d : List Int) (ht : 0 ≤ ttl ∧ ttl ≤ 255) (hl : d.length ≤ 700) (b1 : 0 ≤ fh ∧ fh < 18446744073709551616) (b2 : 0 ≤ fl ∧ fl < 18446744073709551616) (b3 : 0 ≤ sh ∧ sh < 18446744073709551616) (b4 : 0 ≤ sl ∧ sl < 18446744073709551616) : (mkE s6 fh fl sh sl ttl d).length ≤ 748 := by
  cases s6 with
  | false =>
    show (mkB4 ttl 1 fl sl (msg 3 [] d)).length ≤ 748
    rw [mk4_len, msg_len]
    omega
  | true =>
    show (mkB6 ttl 58 fh fl sh sl (msg 1 _ d)).length ≤ 748
    rw [(mk6_parse ttl 58 fh fl sh sl _ ht (by omega) (by decide) b1 b2 b3 b4 (by rw [msg_len]; omega)).2, msg_len]
    omega
theorem tells_any (pr : Int) (s6 : Bool) (sh sl : Int) (d6 : Bool) (dh dl sp dp : Int) (f6 : Bool) (fh fl ttl most : Int) (b1 : 0 ≤ sh ∧ sh < 18446744073709551616) (b2 : 0 ≤ sl ∧ sl < 18446744073709551616) (b3 : 0 ≤ dh ∧ dh < 18446744073709551616) (b4 : 0 ≤ dl ∧ dl < 18446744073709551616) (c1' : 0 ≤ fh ∧ fh < 18446744073709551616) (c2' : 0 ≤ fl ∧ fl < 18446744073709551616) (A : Option Addr) (n0 c : Nat) (l0 : List Int) (w : World) (hl0 : l0.length = n0) (hr0 : Row w w.heap.size A (l0.map (.int .u8))) (hu0 : U8 l0) (hnc0 : n0 ≤ c) (hc : c ≤ 9223372036854775807) (hnil : A = none → c = 0) :
    Calls Try.prog 8 #[.agg #[.int .i64 pr, .bool s6, .int .u64 sh, .int .u64 sl, .bool d6, .int .u64 dh, .int .u64 dl, .int .i64 sp, .int .i64 dp], .agg #[.bool f6, .int .u64 fh, .int .u64 fl], .int .i64 ttl, .slice A n0 c, .int .i64 most] w fun o w' => o = .returned (.bool true) ∧ Below w.heap.size w w' := by
  have HC := Lib.hid fun W => pktP.cut_any A n0 c W (fun h => by
    obtain ⟨b, off, hA, _, _⟩ := lies_of hr0 (by omega)
    exact ⟨b, off, hA⟩) hnc0 hc
  obtain ⟨n, hn⟩ : ∃ n, n = min n0 500 := ⟨_, rfl⟩
  obtain ⟨pl, hll⟩ : ∃ l, l = l0.take n := ⟨_, rfl⟩
  have hl : pl.length = n := by rw [hll, List.length_take]; omega
  have hu : U8 pl := by rw [hll]; exact hu0.take n
  have hr : Row w w.heap.size A (pl.map (.int .u8)) := by
    have := hr0.take n
    rw [← List.map_take, ← hll] at this
    exact this
  have hsl : Sl w A n c pl := ⟨hl, hr, by omega, hc, hnil, hu⟩
  rw [← hn] at HC
  have hn5 : n ≤ 500 := by omega
  clear hll hl0 hr0 hu0 hr hnc0 hn
  by_cases hM : Made pr s6 sh sl d6 dh dl sp dp 64 0 17
  case neg => exact tells_N pr s6 sh sl d6 dh dl sp dp f6 fh fl ttl most A n0 n c w HC (Lib.hid fun V hV => dgram_bad pr s6 sh sl d6 dh dl sp dp 64 0 A n c pl V (hsl.below hV) hn5 b1 b2 b3 b4 hM)
  obtain rfl : pr = 17 := hM.1
  obtain rfl : s6 = d6 := hM.2.1
  have hz : s6 = false → sh = 0 ∧ dh = 0 ∧ sl < 4294967296 ∧ dl < 4294967296 := fun h => by
    rcases hM.2.2.2.2.2 with a | a
    · rw [h] at a; cases a
    · exact a
  obtain ⟨bs, p0, p1, p2, p3, p4, p5, p6⟩ := dgram_told s6 sh sl dh dl sp dp pl (by omega) hu b1 b2 b3 b4 hM
  have HD := Lib.hid fun V (hV : Below w.heap.size w V) => p6 A n c V (hsl.below hV)
  have h40 : (if s6 = true then 40 else 20) ≤ 40 := by split <;> omega
  have h20 : 20 ≤ (if s6 = true then 40 else 20) := by split <;> omega
  obtain ⟨B, hB⟩ : ∃ B, B = mkD s6 sh sl dh dl bs := ⟨_, rfl⟩
  rw [← hB] at p4 p5 HD
  have HPB := fun V A2 n2 c2 (hs2 : Sl V A2 n2 c2 B) => by
    have h9 := parse_any A2 n2 c2 B V hs2 (by have := hs2.len; omega)
    rw [p5] at h9
    exact h9
  by_cases hf : f6 = s6
  case neg =>
    exact tells_V s6 sh sl dh dl sp dp f6 hf fh fl ttl most A n0 n c w B HC HD (Lib.hid fun V A2 n2 c2 hs2 => unr_ver f6 fh fl ttl most s6 false 17 s6 sh sl s6 dh dl sp dp 64 0 0 false 0 0 false 0 0 0 0 _ hf A2 n2 c2 V (Lib.hid fun W hW => HPB W A2 n2 c2 (hs2.below hW)))
  subst hf
  obtain ⟨k, hk⟩ : ∃ k : Nat, (k : Int) = min (max most 0) (B.length : Int) := ⟨(min (max most 0) (B.length : Int)).toNat, by omega⟩
  have HU := fun V A2 n2 c2 (hs2 : Sl V A2 n2 c2 B) => unr_any f6 fh fl ttl most sh sl dh dl sp dp _ A2 n2 c2 B V hs2 (by have := hs2.len; omega) (by have := hs2.len; omega) b1 b2 b3 b4 c1' c2' (fun h => ⟨(hz h).1, (hz h).2.2.1⟩) p5 k (by rw [hs2.len] at hk; exact hk)
  by_cases hok : okE f6 fh fl ttl
  case neg => exact tells_B f6 sh sl dh dl sp dp fh fl ttl most A n0 n c w B hok HC HD (Lib.hid fun V A2 n2 c2 hs2 => (HU V A2 n2 c2 hs2).2 hok)
  have HU1 := Lib.hid fun V A2 n2 c2 (hs2 : Sl V A2 n2 c2 B) => (HU V A2 n2 c2 hs2).1 hok
  have hkl : k ≤ B.length := by omega
  have huB : U8 B := by
    rw [hB]
    exact mkD_u8 f6 sh sl dh dl bs p0 (by omega) (fun h => ⟨⟨b2.1, by have := (hz h).2.2.1; omega⟩, b4.1, by have := (hz h).2.2.2; omega⟩)
  have hT := told f6 fh fl sh sl dh dl sp dp ttl bs k b1 b2 b3 b4 c1' c2' hok hz (by omega) (by omega) p2 p3 (hB ▸ huB) (hB ▸ hkl)
  rw [← hB] at hT
  obtain ⟨X, hX⟩ : ∃ X, X = mkE f6 fh fl sh sl ttl (B.take k) := ⟨_, rfl⟩
  rw [← hX] at HU1 hT
  have lX : X.length ≤ 748 := by rw [hX]; exact mkE_len f6 fh fl sh sl ttl _ hok.1 (by rw [List.length_take]; omega) c1' c2' b1 b2
  have HPX := fun V A2 n2 c2 (hs2 : Sl V A2 n2 c2 X) => parse_any A2 n2 c2 X V hs2 (by have := hs2.len; omega)
  by_cases hm : most < ((if f6 = true then 40 else 20 : Nat) : Int) + 8
  · have hg : (pkP X).2 = 0 ∨ (pkP X).2 = 2 := by
      rw [hT]
      by_cases h24 : k < (if f6 = true then 44 else 24)
      · rw [if_pos h24]
        exact .inr rfl
      · rw [if_neg h24]
        exact .inl rfl
    exact tells_S f6 sh sl dh dl sp dp fh fl ttl most A n0 n c w B X hok _ rfl (pkP X).1.cells rfl (by simp [Pk.cells, Value.oneCell']) (pkP X).2 hg hm HC HD HU1 (Lib.hid HPX)
  · have hk2 : ¬ k < (if f6 = true then 44 else 24) := by
      rw [show (if f6 = true then 44 else 24 : Nat) = (if f6 = true then 40 else 20) + 4 from by split <;> rfl]
      omega
    rw [if_neg hk2] at hT
    have HPX2 := fun V A2 n2 c2 (hs2 : Sl V A2 n2 c2 X) => by
      have h9 := HPX V A2 n2 c2 hs2
      rw [hT] at h9
      exact h9
    exact tells_G f6 sh sl dh dl sp dp fh fl ttl most A n0 n c w B X hok _ rfl (if f6 = true then 58 else 1) (X.length : Int) (by omega) HC HD HU1 (Lib.hid HPX2) (Lib.hid fun V A2 n2 c2 hs2 =>
      unr_err f6 fh fl ttl most (if f6 = true then 58 else 1) f6 fh fl f6 sh sl 0 0 ttl 0 17 f6 dh dl f6 sh sl dp sp (X.length : Int) A2 n2 c2 V (Lib.hid fun W hW => HPX2 W A2 n2 c2 (hs2.below hW)))
end Go.Proofs.Ytndekicblbpkjaa.pktZa
/- Arguments opened. -/
namespace Go.Proofs.Ytndekicblbpkjaa.base
open Go.RowKit Go.WideShapes Go.ChangeShapes Go.Joins Go.Deep
set_option linter.unusedVariables false
section
variable {H : Type} {enc : TypeId × Value → H} {P : Program} {w : World} {b0 base : Nat} {spare : Nat → Bool} {held : Bool}
theorem open_i64 {r : Reach} {t : TypeId} {v : Value} {d : DataW H} {p : List MemPlace} (he : P.underlying t = some (.int .i64)) (hv : Value.okWide P w r b0 t v) (h : DataW.Trod enc P w base spare held t v d p) :
    ∃ x : Int, v = .int .i64 x ∧ -9223372036854775808 ≤ x ∧ x < 9223372036854775808 := by
  obtain ⟨x, rfl, rfl, rfl, wx⟩ := open_int he hv h
  have hx := bounds_i64 wx
  exact ⟨x, rfl, hx.1, by omega⟩
end
end Go.Proofs.Ytndekicblbpkjaa.base
