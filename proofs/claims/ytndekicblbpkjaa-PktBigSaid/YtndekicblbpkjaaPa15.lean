/- 1 texts in one. -/
import Derived.Deep.RegionHeld3
import Derived.Deep.DeepCutAuto
import Derived.Test.YtndekicblbpkjaaPa14
/- Layer 13: what goes into the checks. -/
namespace Go.Proofs.Ytndekicblbpkjaa.pktB
open Go.ChangeShapes Go.WideShapes Go.ChangeAt Go.RowKit
open Go.Proofs.Ytndekicblbpkjaa.base Go.Proofs.Ytndekicblbpkjaa.octA Go.Proofs.Ytndekicblbpkjaa.octB Go.Proofs.Ytndekicblbpkjaa.octC Go.Proofs.Ytndekicblbpkjaa.octF Go.Proofs.Ytndekicblbpkjaa.octK Go.Proofs.Ytndekicblbpkjaa.net Go.Proofs.Ytndekicblbpkjaa.rdrA Go.Proofs.Ytndekicblbpkjaa.sumA Go.Proofs.Ytndekicblbpkjaa.sumB Go.Proofs.Ytndekicblbpkjaa.snK Go.Proofs.Ytndekicblbpkjaa.sixW Go.Proofs.Ytndekicblbpkjaa.sixM Go.Proofs.Ytndekicblbpkjaa.sixE Go.Proofs.Ytndekicblbpkjaa.sixF Go.Proofs.Ytndekicblbpkjaa.pktA
set_option linter.unusedVariables false

/-- Bytes under way in a row of the call's own. -/
structure PS (w V : World) (v : Value) (k : Nat) (xs : List Int) : Prop where
  own : V.ownsRow w.heap.size 5 1 v k (xs.map (.int .u8))
  bel : Below w.heap.size w V
theorem PS.below {w V V' : World} {v : Value} {k : Nat} {xs : List Int} (h : PS w V v k xs) (hb : Below V.heap.size V V') : PS w V' v k xs := ⟨own_below2 h.own hb, h.bel.trans (hb.mono h.bel.size)⟩
theorem PS.put {w V : World} {v : Value} {k : Nat} {xs : List Int} (h : PS w V v k xs) (n s : Int) (hk : k ≤ 1000000) (n0 : 0 ≤ n) (n1 : n < 18446744073709551616) :
    Calls Try.prog 45 #[v, .int .u64 n, .int .i64 s] V fun o w' => ∃ v', o = .returned v' ∧ PS w w' v' (k + hs s) (xs ++ pb n (hs s) (hs s)) := by
  refine (put_t v k (xs.map (.int .u8)) n s w.heap.size w.heap.size w V h.own h.bel.size hk h.bel (Nat.le_refl _) n0 n1).mono ?_
  rintro o w' ⟨v', rfl, h1, h2, h3, h4⟩
  exact ⟨v', rfl, by rw [List.map_append]; exact h1, h2⟩
theorem PS.all {w V : World} {v : Value} {k : Nat} {xs : List Int} (h : PS w V v k xs) (s : Int) (b n c : Nat) (bs : Array Value) (l : List Int) (hk : k + 8 * n ≤ 1000000) (hl : l.length = n) (hK : Blk V b 24 bs) (hcs : bs.toList = l.map (.int .u64)) (hw : ∀ x ∈ l, 0 ≤ x ∧ x < 18446744073709551616) :
    Calls Try.prog 46 #[v, .int .i64 s, .slice (some ⟨b, 0, none⟩) n c] V fun o w' => ∃ v', o = .returned v' ∧ PS w w' v' (k + hs s * n) (xs ++ allb (hs s) l) := by
  refine (all_t b bs v k (xs.map (.int .u8)) s n c l w.heap.size w.heap.size w V h.own h.bel.size hk h.bel (Nat.le_refl _) hl hK hcs hw).mono ?_
  rintro o w' ⟨v', rfl, h1, h2, h3, h4⟩
  exact ⟨v', rfl, by rw [List.map_append]; exact h1, h2⟩
/-- What goes into a check in version 4, and in version 6. -/
def psd4 (sl dl pr sz : Int) : List Int := allb 4 [sl, dl] ++ allb 1 [0, pr] ++ pb sz 2 2
def psd6 (sh sl dh dl pr sz : Int) : List Int := allb 8 [sh, sl, dh, dl] ++ pb sz 4 4 ++ pb pr 4 4
theorem psd4_len (sl dl pr sz : Int) : (psd4 sl dl pr sz).length = 12 := by simp [psd4, allb_len, pb_len]
theorem psd6_len (sh sl dh dl pr sz : Int) : (psd6 sh sl dh dl pr sz).length = 40 := by simp [psd6, allb_len, pb_len]
theorem pb_u8 (n : Int) (k j : Nat) : U8 (pb n k j) := fun x hx => by
  simp only [pb, List.mem_map] at hx
  obtain ⟨t, _, rfl⟩ := hx
  exact byteZ_in n _
theorem allb_u8 (k : Nat) : ∀ l : List Int, U8 (allb k l)
  | [] => fun x hx => by simp [allb] at hx
  | n :: l => by
    have e : allb k (n :: l) = pb n k k ++ allb k l := by simp [allb]
    rw [e]
    exact (pb_u8 n k k).join (allb_u8 k l)
theorem psd4_u8 (sl dl pr sz : Int) : U8 (psd4 sl dl pr sz) := ((allb_u8 _ _).join (allb_u8 _ _)).join (pb_u8 _ _ _)
theorem psd6_u8 (sh sl dh dl pr sz : Int) : U8 (psd6 sh sl dh dl pr sz) := ((allb_u8 _ _).join (pb_u8 _ _ _)).join (pb_u8 _ _ _)
/-- A call that gives bytes in a row of its own. -/
def Gives (l : List Int) (w : World) (o : Ending) (w' : World) : Prop := Below w.heap.size w w' ∧ ∃ (A : Option Addr) (n c : Nat), o = .returned (.slice A n c) ∧ Sl w' A n c l ∧ ∀ ad, A = some ad → w.heap.size ≤ ad.block
theorem own_geo {w : World} {B e : Nat} {ad : Addr} {n c m : Nat} {xs : List Value} (h : w.ownsRow B e 1 (.slice (some ad) n c) m xs) : B ≤ ad.block := by
  rcases h.2 with ⟨hv, _⟩ | ⟨g, cap, cur, hv, hb, _⟩
  · injection hv with h1; cases h1
  · injection hv with h1
    injection h1 with h1
    subst h1
    exact hb
theorem Gives.of {w w' : World} {v : Value} {k : Nat} {l : List Int} (h : PS w w' v k l) (hk : l.length = k) (hu : U8 l) : Gives l w (.returned v) w' := by
  obtain ⟨A, c, rfl⟩ := own_slice h.own
  exact ⟨h.bel, A, k, c, rfl, Sl.own h.own hk hu, fun ad hA => by subst hA; exact own_geo h.own⟩
set_option maxHeartbeats 2000000 in
set_option maxRecDepth 100000 in
theorem pseudo4_any (s6 : Bool) (sh sl : Int) (d6 : Bool) (dh dl pr sz : Int) (w : World) (b1 : 0 ≤ sh ∧ sh < 18446744073709551616) (b2 : 0 ≤ sl ∧ sl < 18446744073709551616) (b3 : 0 ≤ dh ∧ dh < 18446744073709551616) (b4 : 0 ≤ dl ∧ dl < 18446744073709551616) (b5 : 0 ≤ pr ∧ pr ≤ 255) (b6 : 0 ≤ sz ∧ sz ≤ 100000) :
    Calls Try.prog 83 #[.agg #[.bool s6, .int .u64 sh, .int .u64 sl], .agg #[.bool d6, .int .u64 dh, .int .u64 dl], .int .i64 pr, .int .i64 sz] w (Gives (psd4 sl dl pr sz) w) := by
  obtain ⟨w1, hw1⟩ : ∃ w1, w1 = (w.alloc (.cells #[.bool s6, .int .u64 sh, .int .u64 sl] 26)).alloc (.cells #[.bool d6, .int .u64 dh, .int .u64 dl] 26) := ⟨_, rfl⟩
  have E1 := Lib.hid hw1
  have BA := Lib.hid (show Below w.heap.size w (w.alloc (.cells #[.bool s6, .int .u64 sh, .int .u64 sl] 26)) from (Below.refl _ _).alloc (Nat.le_refl _) _)
  have B1 := Lib.hid (show Below w.heap.size w w1 from by rw [hw1]; exact BA.out.alloc BA.out.size _)
  have K1 := Lib.hid (show Blk w1 w.heap.size 26 #[.bool s6, .int .u64 sh, .int .u64 sl] from by rw [hw1]; exact (Blk.new w _ _).alloc _)
  have K2 := Lib.hid (show Blk w1 (w.heap.size + 1) 26 #[.bool d6, .int .u64 dh, .int .u64 dl] from by
    have h9 := Blk.new (w.alloc (.cells #[.bool s6, .int .u64 sh, .int .u64 sl] 26)) 26 #[.bool d6, .int .u64 dh, .int .u64 dl]
    rw [← hw1] at h9
    simpa using h9)
  have wp : IntKind.u64.wrap pr = pr := by rw [IntKind.wrap_u64]; omega
  have wz : IntKind.u64.wrap sz = sz := by rw [IntKind.wrap_u64]; omega
  have S0 := Lib.hid (show PS w w1 (.slice none 0 0) 0 [] from ⟨World.ownsRow_nil _ _ _ _, B1.out⟩)
  have s0 := K1.out.cell 0
  have s1 := K1.out.cell 1
  have s2 := K1.out.cell 2
  have d0 := K2.out.cell 0
  have d1 := K2.out.cell 1
  have d2 := K2.out.cell 2
  clear hw1
  have S1 := Lib.hid (S0.out.below ((Below.refl w1.heap.size w1).alloc (Nat.le_refl _) (.cells #[.int .u64 sl, .int .u64 dl] 24)))
  have A1 := Lib.hid (S1.out.all 4 w1.heap.size 2 2 #[.int .u64 sl, .int .u64 dl] [sl, dl] (by omega) rfl (Blk.new w1 24 #[.int .u64 sl, .int .u64 dl]) rfl (fun x hx => by
    simp only [List.mem_cons, List.not_mem_nil, or_false] at hx
    rcases hx with rfl | rfl
    · exact b2
    · exact b4))
  go_enter Try.func83, Try.ntmps83
  go_upto_region 1 with fail
  rw [← E1.out]
  go_wp2_with fail
  refine A1.out.mono ?_
  rintro o w2 ⟨v2, rfl, hs2⟩
  have hs2 : PS w w2 v2 8 (allb 4 [sl, dl]) := hs2
  have S2 := Lib.hid (hs2.below ((Below.refl w2.heap.size w2).alloc (Nat.le_refl _) (.cells #[.int .u64 0, .int .u64 pr] 24)))
  have A2 := Lib.hid (S2.out.all 1 w2.heap.size 2 2 #[.int .u64 0, .int .u64 pr] [0, pr] (by omega) rfl (Blk.new w2 24 #[.int .u64 0, .int .u64 pr]) rfl (fun x hx => by
    simp only [List.mem_cons, List.not_mem_nil, or_false] at hx
    rcases hx with rfl | rfl <;> omega))
  clear hs2 s0 s1 s2 d0 d1 d2
  go_wp2_with fail
  refine A2.out.mono ?_
  rintro o w3 ⟨v3, rfl, hs3⟩
  have hs3 : PS w w3 v3 10 (allb 4 [sl, dl] ++ allb 1 [0, pr]) := hs3
  have P3 := Lib.hid (hs3.put sz 2 (by omega) (by omega) (by omega))
  clear hs3
  go_wp2_with fail
  refine P3.out.mono ?_
  rintro o w4 ⟨v4, rfl, hs4⟩
  have S4 := Lib.hid (show PS w w4 v4 12 (psd4 sl dl pr sz) from hs4)
  clear hs4
  go_wp2_with fail
  go_ret
  exact Gives.of S4.out (psd4_len sl dl pr sz) (psd4_u8 sl dl pr sz)
set_option maxHeartbeats 2000000 in
set_option maxRecDepth 100000 in
theorem pseudo6_any (s6 : Bool) (sh sl : Int) (d6 : Bool) (dh dl pr sz : Int) (w : World) (b1 : 0 ≤ sh ∧ sh < 18446744073709551616) (b2 : 0 ≤ sl ∧ sl < 18446744073709551616) (b3 : 0 ≤ dh ∧ dh < 18446744073709551616) (b4 : 0 ≤ dl ∧ dl < 18446744073709551616) (b5 : 0 ≤ pr ∧ pr ≤ 255) (b6 : 0 ≤ sz ∧ sz ≤ 100000) :
    Calls Try.prog 84 #[.agg #[.bool s6, .int .u64 sh, .int .u64 sl], .agg #[.bool d6, .int .u64 dh, .int .u64 dl], .int .i64 pr, .int .i64 sz] w (Gives (psd6 sh sl dh dl pr sz) w) := by
  have ab : bits .and .u64 pr 255 = pr := by
    obtain ⟨n, rfl⟩ := Int.eq_ofNat_of_zero_le b5.1
    have h8 := fourA.u64_and_nat n 255 (by omega) (by omega)
    have h9 := Nat.and_two_pow_sub_one_eq_mod n 8
    rw [show 2 ^ 8 - 1 = 255 from rfl] at h9
    rw [h9] at h8
    refine h8.trans ?_
    omega
  obtain ⟨w1, hw1⟩ : ∃ w1, w1 = (w.alloc (.cells #[.bool s6, .int .u64 sh, .int .u64 sl] 26)).alloc (.cells #[.bool d6, .int .u64 dh, .int .u64 dl] 26) := ⟨_, rfl⟩
  have E1 := Lib.hid hw1
  have BA := Lib.hid (show Below w.heap.size w (w.alloc (.cells #[.bool s6, .int .u64 sh, .int .u64 sl] 26)) from (Below.refl _ _).alloc (Nat.le_refl _) _)
  have B1 := Lib.hid (show Below w.heap.size w w1 from by rw [hw1]; exact BA.out.alloc BA.out.size _)
  have K1 := Lib.hid (show Blk w1 w.heap.size 26 #[.bool s6, .int .u64 sh, .int .u64 sl] from by rw [hw1]; exact (Blk.new w _ _).alloc _)
  have K2 := Lib.hid (show Blk w1 (w.heap.size + 1) 26 #[.bool d6, .int .u64 dh, .int .u64 dl] from by
    have h9 := Blk.new (w.alloc (.cells #[.bool s6, .int .u64 sh, .int .u64 sl] 26)) 26 #[.bool d6, .int .u64 dh, .int .u64 dl]
    rw [← hw1] at h9
    simpa using h9)
  have wp : IntKind.u64.wrap pr = pr := by rw [IntKind.wrap_u64]; omega
  have wz : IntKind.u64.wrap sz = sz := by rw [IntKind.wrap_u64]; omega
  have S0 := Lib.hid (show PS w w1 (.slice none 0 0) 0 [] from ⟨World.ownsRow_nil _ _ _ _, B1.out⟩)
  have s0 := K1.out.cell 0
  have s1 := K1.out.cell 1
  have s2 := K1.out.cell 2
  have d0 := K2.out.cell 0
  have d1 := K2.out.cell 1
  have d2 := K2.out.cell 2
  clear hw1
  have S1 := Lib.hid (S0.out.below ((Below.refl w1.heap.size w1).alloc (Nat.le_refl _) (.cells #[.int .u64 sh, .int .u64 sl, .int .u64 dh, .int .u64 dl] 24)))
  have A1 := Lib.hid (S1.out.all 8 w1.heap.size 4 4 #[.int .u64 sh, .int .u64 sl, .int .u64 dh, .int .u64 dl] [sh, sl, dh, dl] (by omega) rfl (Blk.new w1 24 #[.int .u64 sh, .int .u64 sl, .int .u64 dh, .int .u64 dl]) rfl (fun x hx => by
    simp only [List.mem_cons, List.not_mem_nil, or_false] at hx
    rcases hx with rfl | rfl | rfl | rfl
    · exact b1
    · exact b2
    · exact b3
    · exact b4))
  go_enter Try.func84, Try.ntmps84
  go_upto_region 1 with fail
  rw [← E1.out]
  go_wp2_with fail
  refine A1.out.mono ?_
  rintro o w2 ⟨v2, rfl, hs2⟩
  have hs2 : PS w w2 v2 32 (allb 8 [sh, sl, dh, dl]) := hs2
  have P2 := Lib.hid (hs2.put sz 4 (by omega) (by omega) (by omega))
  clear hs2 s0 s1 s2 d0 d1 d2
  go_wp2_with fail
  refine P2.out.mono ?_
  rintro o w3 ⟨v3, rfl, hs3⟩
  have hs3 : PS w w3 v3 36 (allb 8 [sh, sl, dh, dl] ++ pb sz 4 4) := hs3
  have P3 := Lib.hid (hs3.put pr 4 (by omega) (by omega) (by omega))
  clear hs3
  go_wp2_with fail
  refine P3.out.mono ?_
  rintro o w4 ⟨v4, rfl, hs4⟩
  have S4 := Lib.hid (show PS w w4 v4 40 (psd6 sh sl dh dl pr sz) from hs4)
  clear hs4
  go_wp2_with fail
  go_ret
  exact Gives.of S4.out (psd6_len sh sl dh dl pr sz) (psd6_u8 sh sl dh dl pr sz)
/-- What goes into a packet's check. -/
def psd (s6 : Bool) (sh sl dh dl pr sz : Int) : List Int := if s6 = true then psd6 sh sl dh dl pr sz else if pr = 1 then [] else psd4 sl dl pr sz
theorem psd_len (s6 : Bool) (sh sl dh dl pr sz : Int) : (psd s6 sh sl dh dl pr sz).length ≤ 40 := by
  unfold psd
  split
  · rw [psd6_len]; omega
  · split
    · simp
    · rw [psd4_len]; omega
set_option maxHeartbeats 2000000 in
set_option maxRecDepth 100000 in
theorem psd_any (s6 : Bool) (sh sl : Int) (d6 : Bool) (dh dl pr sz : Int) (w : World) (b1 : 0 ≤ sh ∧ sh < 18446744073709551616) (b2 : 0 ≤ sl ∧ sl < 18446744073709551616) (b3 : 0 ≤ dh ∧ dh < 18446744073709551616) (b4 : 0 ≤ dl ∧ dl < 18446744073709551616) (b5 : 0 ≤ pr ∧ pr ≤ 255) (b6 : 0 ≤ sz ∧ sz ≤ 100000) :
    Calls Try.prog 88 #[.agg #[.bool s6, .int .u64 sh, .int .u64 sl], .agg #[.bool d6, .int .u64 dh, .int .u64 dl], .int .i64 pr, .int .i64 sz] w (Gives (psd s6 sh sl dh dl pr sz) w) := by
  obtain ⟨w1, hw1⟩ : ∃ w1, w1 = (w.alloc (.cells #[.bool s6, .int .u64 sh, .int .u64 sl] 26)).alloc (.cells #[.bool d6, .int .u64 dh, .int .u64 dl] 26) := ⟨_, rfl⟩
  have E1 := Lib.hid hw1
  have BA := Lib.hid (show Below w.heap.size w (w.alloc (.cells #[.bool s6, .int .u64 sh, .int .u64 sl] 26)) from (Below.refl _ _).alloc (Nat.le_refl _) _)
  have B1 := Lib.hid (show Below w.heap.size w w1 from by rw [hw1]; exact BA.out.alloc BA.out.size _)
  have K1 := Lib.hid (show Blk w1 w.heap.size 26 #[.bool s6, .int .u64 sh, .int .u64 sl] from by rw [hw1]; exact (Blk.new w _ _).alloc _)
  have K2 := Lib.hid (show Blk w1 (w.heap.size + 1) 26 #[.bool d6, .int .u64 dh, .int .u64 dl] from by
    have h9 := Blk.new (w.alloc (.cells #[.bool s6, .int .u64 sh, .int .u64 sl] 26)) 26 #[.bool d6, .int .u64 dh, .int .u64 dl]
    rw [← hw1] at h9
    simpa using h9)
  have wp : IntKind.u64.wrap pr = pr := by rw [IntKind.wrap_u64]; omega
  have wz : IntKind.u64.wrap sz = sz := by rw [IntKind.wrap_u64]; omega
  have S0 := Lib.hid (show PS w w1 (.slice none 0 0) 0 [] from ⟨World.ownsRow_nil _ _ _ _, B1.out⟩)
  have s0 := K1.out.cell 0
  have s1 := K1.out.cell 1
  have s2 := K1.out.cell 2
  have d0 := K2.out.cell 0
  have d1 := K2.out.cell 1
  have d2 := K2.out.cell 2
  clear hw1
  have H4 := Lib.hid (pseudo4_any s6 sh sl d6 dh dl pr sz w1 b1 b2 b3 b4 b5 b6)
  have H6 := Lib.hid (pseudo6_any s6 sh sl d6 dh dl pr sz w1 b1 b2 b3 b4 b5 b6)
  cases s6 with
  | true =>
    go_enter Try.func88, Try.ntmps88
    go_upto_region 1 with fail
    rw [← E1.out]
    go_wp2_with fail
    refine H6.out.mono ?_
    rintro o w2 ⟨hb, A, n, c, rfl, hsl, hge⟩
    have HB := Lib.hid hb
    have HSL := Lib.hid hsl
    have HGE := Lib.hid hge
    clear hb hsl hge
    go_wp2_with fail
    go_ret
    exact ⟨B1.out.trans (HB.out.mono B1.out.size), A, n, c, rfl, HSL.out, fun ad h => Nat.le_trans B1.out.size (HGE.out ad h)⟩
  | false =>
    by_cases hp : pr = 1
    · have e1 : (pr == 1) = true := by simpa using hp
      have HE := Lib.hid (show psd false sh sl dh dl pr sz = [] from by unfold psd; rw [if_neg (by decide), if_pos hp])
      clear hp
      go_enter Try.func88, Try.ntmps88
      go_upto_region 1 with fail
      rw [← E1.out]
      go_wp2_with fail
      go_ret
      exact ⟨B1.out, none, 0, 0, rfl, by rw [HE.out]; exact Sl.none_ w1, fun ad h => by cases h⟩
    · have e1 : (pr == 1) = false := by simpa using hp
      have HE := Lib.hid (show psd false sh sl dh dl pr sz = psd4 sl dl pr sz from by unfold psd; rw [if_neg (by decide), if_neg hp])
      clear hp
      go_enter Try.func88, Try.ntmps88
      go_upto_region 1 with fail
      rw [← E1.out]
      go_wp2_with fail
      refine H4.out.mono ?_
      rintro o w2 ⟨hb, A, n, c, rfl, hsl, hge⟩
      have HB := Lib.hid hb
      have HSL := Lib.hid hsl
      have HGE := Lib.hid hge
      clear hb hsl hge
      go_wp2_with fail
      go_ret
      exact ⟨B1.out.trans (HB.out.mono B1.out.size), A, n, c, rfl, by rw [HE.out]; exact HSL.out, fun ad h => Nat.le_trans B1.out.size (HGE.out ad h)⟩
end Go.Proofs.Ytndekicblbpkjaa.pktB
