/- Layer 39: the law on places. -/
import Derived.Test.YtjlochieddhmpaaRingL
import Derived.Test.YtjlochieddhmpaaRingI
namespace Go.Proofs.Ytjlochieddhmpaa.ringM
open Go.ChangeShapes Go.WideShapes Go.ChangeAt Go.RowKit
open Go.Proofs.Ytjlochieddhmpaa.base Go.Proofs.Ytjlochieddhmpaa.ringA Go.Proofs.Ytjlochieddhmpaa.ringB Go.Proofs.Ytjlochieddhmpaa.ringC Go.Proofs.Ytjlochieddhmpaa.ringD Go.Proofs.Ytjlochieddhmpaa.ringE Go.Proofs.Ytjlochieddhmpaa.ringF Go.Proofs.Ytjlochieddhmpaa.ringG Go.Proofs.Ytjlochieddhmpaa.ringH Go.Proofs.Ytjlochieddhmpaa.ringI Go.Proofs.Ytjlochieddhmpaa.ringJ Go.Proofs.Ytjlochieddhmpaa.ringK Go.Proofs.Ytjlochieddhmpaa.ringL
set_option linter.unusedVariables false

theorem ItemsIn.more {w : World} {B B' m : Nat} {A : Option Addr} {ids ws : Nat → Int} (h : ItemsIn w B A m ids ws) (hB : B ≤ B') : ItemsIn w B' A m ids ws := by
  rcases h with h | ⟨b, off, h1, h2, h3⟩
  · exact .inl h
  · exact .inr ⟨b, off, h1, by omega, h3⟩
theorem itemsOn {w W : World} {m : Nat} {A : Option Addr} {ids ws : Nat → Int} (h : ItemsIn w w.heap.size A m ids ws) (hb : Below w.heap.size w W) : ItemsIn W W.heap.size A m ids ws := ItemsIn.more (h.below hb) hb.size
theorem end_places (seed : Int) (n m : Nat) (ids ws : Nat → Int) (hp : Pr n) (hw : ∀ j, j < m → 0 ≤ ws j ∧ ws j ≤ 65535) : ∀ q, q < n → (endS seed n m ids ws).P q < 0 ∨ (0 ≤ (endS seed n m ids ws).P q ∧ (endS seed n m ids ws).P q < m) := by
  intro q hq
  by_cases h0 : 0 < maxW ws m
  · exact .inr (end_full seed n m ids ws hp hw h0 q hq)
  · left
    have e : endS seed n m ids ws = startS seed n ids := by unfold endS; rw [if_neg h0]
    rw [e]
    show (-1 : Int) < 0
    omega
set_option maxRecDepth 100000 in
set_option maxHeartbeats 4000000 in
theorem picks_any (seed size : Int) (A : Option Addr) (n c : Nat) (ids ws : Nat → Int) (key : Nat) (w : World) (hc : n ≤ c) (hm : c ≤ 9223372036854775807) (hit : ItemsIn w w.heap.size A n ids ws) (hid : ∀ j, j < n → 0 ≤ ids j ∧ ids j < 18446744073709551616) (hk : key < 18446744073709551616) :
    Calls Try.prog 4 #[.int .u64 seed, .int .i64 size, .slice A n c, .int .u64 key] w fun e w' => e = .returned (.bool true) ∧ Below w.heap.size w w' := by
  have HFEW := Lib.hid (few_any A n c w.heap.size ids ws w hc hm hit)
  have HID := Lib.hid hid
  clear hc hm hit hid
  go_enter Try.func4, Try.ntmps4
  go_wp2_with fail
  refine HFEW.out.mono ?_
  rintro e w' ⟨m, rfl, rfl, hm20, hmn, hit⟩
  have HIT := Lib.hid hit
  have HIDM := Lib.hid (show ∀ j, j < m → 0 ≤ ids j ∧ ids j < 18446744073709551616 from fun j hj => HID.out j (by omega))
  clear hit
  by_cases hs : 600 < size
  · have q0 : decide (600 < size) = true := decide_eq_true hs
    go_wp2_with (go_at_call 8; refine (awake_any _).mono ?_; rintro e w1 ⟨rfl, hb⟩; have HB := Lib.hid hb; clear hb)
    go_ret
    exact ⟨rfl, HB.out⟩
  · have q0 : decide (600 < size) = false := decide_eq_false hs
    by_cases R : RightP size m ids ws
    · obtain ⟨nn, rfl⟩ : ∃ nn : Nat, size = nn := ⟨size.toNat, by have := R.lo; omega⟩
      have n2 : 2 ≤ nn := by have := R.lo; omega
      have n6 : nn ≤ 600 := by omega
      have hpr : Pr nn := by have := R.pr; rw [Int.toNat_natCast] at this; exact this
      have HNEW := Lib.hid (new_ok seed nn A m c ids ws w (by omega) HIT.out HIDM.out R)
      have HRT := Lib.hid (show ∀ W, Below w.heap.size w W → Calls Try.prog 11 #[.int .i64 nn, .slice A m c] W fun e w' => e = .returned (.bool true) ∧ Below W.heap.size W w' from fun W hb =>
        (right_any nn A m c ids ws W (by omega) (itemsOn HIT.out hb) HIDM.out).mono fun e w' ⟨b, h1, h2, h3⟩ => ⟨by rw [h1, h2.mpr R], h3⟩)
      have HLR := Lib.hid (show ∀ W, Below w.heap.size w W → Calls Try.prog 12 #[.int .i64 nn, .slice A m c] W fun e w' => e = .returned (.bool true) ∧ Below W.heap.size W w' from fun W hb =>
        (lawright_any nn A m c ids ws W (by omega) (itemsOn HIT.out hb)).mono fun e w' ⟨b, h1, h2, h3⟩ => ⟨by rw [h1, h2.mpr R], h3⟩)
      have HPL := Lib.hid (show ∀ W, Below w.heap.size w W → Calls Try.prog 14 #[.int .u64 seed, .int .i64 nn, .slice A m c] W (PlPost seed nn m ids ws W) from fun W hb =>
        places_any seed nn A m c ids ws W (by omega) (itemsOn HIT.out hb) R)
      have HPV := Lib.hid (end_places seed nn m ids ws hpr R.ws)
      have HFA := Lib.hid (fun i k hi hk => end_fair seed nn m ids ws hpr R.ws i k hi hk)
      have HSH := Lib.hid (show ∀ W ra, RingAt W ra nn (endS seed nn m ids ws).P → Calls Try.prog 15 #[.pointer (some ⟨ra, 0, none⟩), .int .i64 m] W (ShPost nn m (endS seed nn m ids ws).P W) from fun W ra hr =>
        shares_at ra nn m _ W hr (by omega) (by omega) (by omega) HPV.out)
      have HPK := Lib.hid (show ∀ W ra (k : Nat), k < 18446744073709551616 → RingAt W ra nn (endS seed nn m ids ws).P → Calls Try.prog 16 #[.pointer (some ⟨ra, 0, none⟩), .int .u64 k] W fun e w' => e = .returned (.int .i64 ((endS seed nn m ids ws).P (k % nn))) ∧ Below W.heap.size W w' from fun W ra k hk hr =>
        pick_at ra nn k _ W hr (by omega) (by omega) hk)
      unfold NewPost at HNEW
      unfold PlPost at HPL
      generalize (endS seed nn m ids ws).P = P at *
      clear R hpr
      go_wp2_with fail
      refine HNEW.out.mono ?_
      rintro e w1 ⟨ra, rfl, hra, hb1⟩
      have RA1 := Lib.hid hra
      have B1 := Lib.hid hb1
      clear hra hb1
      go_wp2_with fail
      refine (HRT.out _ B1.out).mono ?_
      rintro e w2 ⟨rfl, hb⟩
      have RA2 := Lib.hid (RingAt.below RA1.out hb)
      have B2 := Lib.hid (B1.out.trans (hb.mono B1.out.size))
      clear hb
      go_wp2_with fail
      refine (HLR.out _ B2.out).mono ?_
      rintro e w3 ⟨rfl, hb⟩
      have RA3 := Lib.hid (RingAt.below RA2.out hb)
      have B3 := Lib.hid (B2.out.trans (hb.mono B2.out.size))
      clear hb
      go_wp2_with fail
      refine (HLR.out _ B3.out).mono ?_
      rintro e w4 ⟨rfl, hb⟩
      have RA4 := Lib.hid (RingAt.below RA3.out hb)
      have B4 := Lib.hid (B3.out.trans (hb.mono B3.out.size))
      clear hb
      obtain ⟨gr, _, hgr, _, _⟩ := RA4.out
      have HSZ := Lib.hid (size_at ra gr nn w4 (hgr.cell 0))
      clear hgr
      go_wp2_with (go_at_call 13; (with_reducible refine HSZ.out.mono ?_); rintro e w' ⟨rfl, rfl⟩)
      refine (HPL.out _ B4.out).mono ?_
      rintro e w5 ⟨gp, cp, rfl, hcp, hap, hb⟩
      have RA5 := Lib.hid (RingAt.below RA4.out hb)
      have B5 := Lib.hid (B4.out.trans (hb.mono B4.out.size))
      have P5 := Lib.hid hcp
      have AP := Lib.hid hap
      clear hb hcp hap
      go_wp2_with fail
      refine (HSH.out _ ra RA5.out).mono ?_
      rintro e w6 ⟨gs, cs, rfl, hcs, has, hb⟩
      have RA6 := Lib.hid (RingAt.below RA5.out hb)
      have B6 := Lib.hid (B5.out.trans (hb.mono B5.out.size))
      have P6 := Lib.hid (P5.out.below hb P5.out.lt)
      have S6 := Lib.hid hcs
      have AS := Lib.hid has
      clear hb hcs has RA1 RA2 RA3 RA4 RA5 B1 B2 B3 B4 B5 P5 HNEW HRT HLR HPL HSH HSZ
      obtain ⟨i0, hi0, hz0, hz1, hz2⟩ := info_parts info_int
      have hm2 := fun (W : World) => run_make_one (P := Try.prog) 33 3 i0 _ Try.underlying33 hi0 hz0 hz1 rfl .i64 .i64 (m : Int) (by omega) (by rw [hz2]; omega) (by omega) W
      clear hi0 hz0 hz1 hz2
      go_wp2_with fail
      clear hm2
      go_loopw [14] (fun i wr => ∃ (j : Nat) (cc : Array Value), j ≤ nn ∧ i = .int .i64 j ∧ Blk wr w6.heap.size 3 cc ∧ AtA m cc (fun i => (cntI P i j : Int)) ∧ Below w6.heap.size w6 wr) (fun i _ => nn - (intOf i).toNat)
      case atStart => exact ⟨0, _, by omega, rfl, Blk.new w6 _ _, atA_zeros m, (Below.refl _ _).alloc (Nat.le_refl _) _⟩
      case round =>
        obtain ⟨j, cc, hj, rfl, hcc, hac, hbel⟩ := hrel
        have KC := Lib.hid hcc
        have KA := Lib.hid hac
        have KB := Lib.hid hbel
        clear hcc hac hbel
        by_cases hlt : j < nn
        · have p1 : decide ((j : Int) < (nn : Int)) = true := decide_eq_true (by omega)
          have e1 : IntKind.u64.wrap (j : Int) = (j : Int) := by rw [IntKind.wrap_u64]; omega
          have HPD := Lib.hid (show Calls Try.prog 16 #[.pointer (some ⟨ra, 0, none⟩), .int .u64 j] wr.drew fun e w' => e = .returned (.int .i64 (P j)) ∧ Below wr.heap.size wr w' by
            have := HPK.out wr.drew ra j (by omega) (RingAt.below (RingAt.below RA6.out KB.out) (Below.refl _ _).drew)
            rw [Nat.mod_eq_of_lt hlt] at this
            exact this.mono fun e w' ⟨h1, h2⟩ => ⟨h1, (Below.refl _ _).drew.trans h2⟩)
          have hP := (P6.out.below KB.out P6.out.lt)
          have cp0 : wr.cell? ⟨gp, j, none⟩ = some (.int .i64 (P j)) := (hP.cell j).trans (AP.out.2 j hlt)
          have cp1 : wr.drew.cell? ⟨gp, j, none⟩ = some (.int .i64 (P j)) := cp0
          have HKP := Lib.hid (show ∀ W, Below wr.heap.size wr W → W.cell? ⟨gp, j, none⟩ = some (.int .i64 (P j)) from fun W hb => ((hP.below hb hP.lt).cell j).trans (AP.out.2 j hlt))
          have HKB := Lib.hid (show ∀ W, Below wr.heap.size wr W → Below w6.heap.size w6 W from fun W hb => KB.out.trans (hb.mono KB.out.size))
          have HKC := Lib.hid (show ∀ W, Below wr.heap.size wr W → Blk W w6.heap.size 3 cc from fun W hb => KC.out.below hb KC.out.lt)
          have HV := Lib.hid (HPV.out j hlt)
          have HE1 := Lib.hid (fun h => cntI_same P j h)
          have HE2 := Lib.hid (fun k h => cntI_more P j k h)
          have HCL := Lib.hid (fun k => cntI_le P k j)
          clear hP
          generalize hv : P j = v at *
          have r0 : (v != v) = false := by simp
          clear hv
          go_wp2_with fail
          go_region_with ((go_at_call 16; (with_reducible refine HPD.out.mono ?_); rintro e w9 ⟨rfl, hb9⟩; have cp9 := HKP.out _ hb9; have HB9 := Lib.hid hb9; clear hb9))
          all_goals
            clear cp0 cp1
            rcases HV.out with hneg | ⟨h0, h1⟩
            · have r1 : decide (0 ≤ v) = false := decide_eq_false (by omega)
              have HX := Lib.hid (show AtA m cc (fun i => (cntI P i (j + 1) : Int)) by rw [HE1.out hneg]; exact KA.out)
              clear hneg
              go_wp2_with fail
              go_roundw
              case rel => exact ⟨j + 1, cc, by omega, by go_num, HKC.out _ HB9.out, HX.out, HKB.out _ HB9.out⟩
              case measure => simp [intOf]; omega
            · obtain ⟨k, rfl⟩ : ∃ k : Nat, v = k := ⟨v.toNat, by omega⟩
              have km : k < m := by omega
              have r1 : decide (0 ≤ (k : Int)) = true := decide_eq_true (by omega)
              have KC9 := Lib.hid (HKC.out _ HB9.out)
              have ck := (KC9.out.cell k).trans (KA.out.2 k km)
              have fk := KC9.out.frozen k
              have cl := HCL.out k
              have e2 : IntKind.i64.wrap ((cntI P k j : Int) + 1) = (cntI P k j : Int) + 1 := IntWalk.i64_in _ (by omega)
              have HX := Lib.hid (show AtA m (cc.setIfInBounds k (.int .i64 ((cntI P k j : Int) + 1))) (fun i => (cntI P i (j + 1) : Int)) by
                have := KA.out.set k km ((cntI P k j : Int) + 1)
                rw [HE2.out k rfl] at this
                exact this)
              clear h0 h1
              dsimp only at ck
              generalize cntI P k j = u at *
              have HF := Lib.hid (show Blk (w9.setCell ⟨w6.heap.size, k, none⟩ (.int .i64 ((u : Int) + 1))).drew w6.heap.size 3 (cc.setIfInBounds k (.int .i64 ((u : Int) + 1))) from (KC9.out.set_ _ _).drew)
              have HFB := Lib.hid (show Below w6.heap.size w6 (w9.setCell ⟨w6.heap.size, k, none⟩ (.int .i64 ((u : Int) + 1))).drew from ((HKB.out _ HB9.out).setCell (p := ⟨w6.heap.size, k, none⟩) (Nat.le_refl _) _).drew)
              go_wp2_with fail
              go_region
              all_goals
                go_wp2_with fail
                go_roundw
                case rel => exact ⟨j + 1, _, by omega, by go_num, HF.out, HX.out, HFB.out⟩
                case measure => simp [intOf]; omega
        · obtain rfl : nn = j := by omega
          have p1 : decide ((nn : Int) < (nn : Int)) = false := decide_eq_false (by omega)
          have B7 := Lib.hid (B6.out.trans (KB.out.mono B6.out.size))
          have RA7 := Lib.hid (RingAt.below RA6.out KB.out)
          have P7 := Lib.hid (P6.out.below KB.out P6.out.lt)
          have S7 := Lib.hid (S6.out.below KB.out S6.out.lt)
          have C7 := Lib.hid KC.out
          obtain ⟨gc, hgc⟩ : ∃ gc, gc = w6.heap.size := ⟨_, rfl⟩
          rw [← hgc] at C7 ⊢
          clear hgc KB KC RA6 P6 S6 B6
          obtain ⟨w7, hw7⟩ : ∃ w7, w7 = wr := ⟨_, rfl⟩
          rw [← hw7] at C7 S7 P7 RA7 B7 ⊢
          clear hw7
          go_wp2_with fail
          go_loopw [15, 16] (fun i _ wr => ∃ j : Nat, j ≤ m ∧ i = .int .i64 j ∧ Below w7.heap.size w7 wr) (fun i _ _ => m - (intOf i).toNat)
          case atStart => exact ⟨0, by omega, rfl, Below.refl _ _⟩
          case round =>
            obtain ⟨j, hj, rfl, hbel⟩ := hrel
            have KB := Lib.hid hbel
            clear hbel
            have HCU := Lib.hid (show ∀ W, Below w7.heap.size w7 W → ∀ q, q < m → W.cell? ⟨gs, q, none⟩ = some (.int .i64 (cntI P q nn)) ∧ W.cell? ⟨gc, q, none⟩ = some (.int .i64 (cntI P q nn)) from fun W hb q hq =>
              ⟨((S7.out.below hb S7.out.lt).cell q).trans (AS.out.2 q hq), ((C7.out.below hb C7.out.lt).cell q).trans (KA.out.2 q hq)⟩)
            by_cases hlt : j < m
            · have p2 : decide ((j : Int) < (m : Int)) = true := decide_eq_true (by omega)
              rcases HIT.out with hz | ⟨b, off, rfl, hbl, hit⟩
              · omega
              · have HI7 := Lib.hid (show ∀ W, Below w7.heap.size w7 W → ItemsAt W b off m ids ws from fun W hb => (hit.below B7.out hbl).below hb (by have := B7.out.size; omega))
                clear hit hbl
                obtain ⟨d1, d2⟩ := HCU.out _ KB.out j hlt
                have d3 := (HI7.out _ KB.out j hlt).2
                have r0 : ((cntI P j nn : Int) != (cntI P j nn : Int)) = false := by simp
                by_cases hw0 : ws j = 0
                · have r1 : (ws j == 0) = true := by simpa using hw0
                  have r2 : ((cntI P j nn : Int) != 0) = false := by rw [(HFA.out j j hlt hlt).1 hw0]; rfl
                  have r3 : (cntI P j nn != 0) = false := by rw [(HFA.out j j hlt hlt).1 hw0]; rfl
                  have HNX := Lib.hid (show True from trivial)
                  clear hw0
                  go_wp2_with fail
                  go_region
                  all_goals
                    go_wp2_with fail
                    go_loopw [16] (fun i wx => ∃ k : Nat, k ≤ m ∧ i = .int .i64 k ∧ Below w7.heap.size w7 wx) (fun i _ => m - (intOf i).toNat)
                    case atStart => exact ⟨0, by omega, rfl, by first | exact KB.out.drew | exact below_drewN KB.out _⟩
                    case round =>
                      obtain ⟨k, hk2, rfl, hbel⟩ := hrel
                      have LB := Lib.hid hbel
                      clear hbel
                      by_cases hlk : k < m
                      · have p3 : decide ((k : Int) < (m : Int)) = true := decide_eq_true (by omega)
                        have g1 := (HCU.out _ LB.out j hlt).2
                        have g2 := (HCU.out _ LB.out k hlk).2
                        have g3 := (HI7.out _ LB.out j hlt).2
                        have g4 := (HI7.out _ LB.out k hlk).2
                        have cl := cntI_le P j nn
                        have e5 : IntKind.i64.wrap ((cntI P j nn : Int) - 1) = (cntI P j nn : Int) - 1 := IntWalk.i64_in _ (by omega)
                        by_cases hgt : ws j < ws k
                        · have r4 : decide (ws j < ws k) = true := decide_eq_true hgt
                          have r5 : decide ((cntI P k nn : Int) < (cntI P j nn : Int) - 1) = false := decide_eq_false (by have := (HFA.out j k hlt hlk).2 hgt; omega)
                          clear hgt
                          generalize cntI P j nn = x at *
                          generalize cntI P k nn = y at *
                          go_wp2_with fail
                          go_region
                          all_goals
                            go_wp2_with fail
                            go_roundw
                            case rel => exact ⟨k + 1, by omega, by go_num, by first | exact LB.out.drew | exact below_drewN LB.out _⟩
                            case measure => simp [intOf]; omega
                        · have r4 : decide (ws j < ws k) = false := decide_eq_false hgt
                          clear hgt
                          generalize cntI P j nn = x at *
                          generalize cntI P k nn = y at *
                          go_wp2_with fail
                          go_region
                          all_goals
                            go_wp2_with fail
                            go_roundw
                            case rel => exact ⟨k + 1, by omega, by go_num, by first | exact LB.out.drew | exact below_drewN LB.out _⟩
                            case measure => simp [intOf]; omega
                      · obtain rfl : m = k := by omega
                        have p3 : decide ((m : Int) < (m : Int)) = false := decide_eq_false (by omega)
                        go_wp2_with fail
                        go_roundw
                        case rel => exact ⟨j + 1, by omega, by go_num, LB.out⟩
                        case measure => simp [intOf]; omega
                · have r1 : (ws j == 0) = false := by simpa using hw0
                  clear hw0
                  go_wp2_with fail
                  go_region
                  all_goals
                    go_wp2_with fail
                    go_loopw [16] (fun i wx => ∃ k : Nat, k ≤ m ∧ i = .int .i64 k ∧ Below w7.heap.size w7 wx) (fun i _ => m - (intOf i).toNat)
                    case atStart => exact ⟨0, by omega, rfl, by first | exact KB.out.drew | exact below_drewN KB.out _⟩
                    case round =>
                      obtain ⟨k, hk2, rfl, hbel⟩ := hrel
                      have LB := Lib.hid hbel
                      clear hbel
                      by_cases hlk : k < m
                      · have p3 : decide ((k : Int) < (m : Int)) = true := decide_eq_true (by omega)
                        have g1 := (HCU.out _ LB.out j hlt).2
                        have g2 := (HCU.out _ LB.out k hlk).2
                        have g3 := (HI7.out _ LB.out j hlt).2
                        have g4 := (HI7.out _ LB.out k hlk).2
                        have cl := cntI_le P j nn
                        have e5 : IntKind.i64.wrap ((cntI P j nn : Int) - 1) = (cntI P j nn : Int) - 1 := IntWalk.i64_in _ (by omega)
                        by_cases hgt : ws j < ws k
                        · have r4 : decide (ws j < ws k) = true := decide_eq_true hgt
                          have r5 : decide ((cntI P k nn : Int) < (cntI P j nn : Int) - 1) = false := decide_eq_false (by have := (HFA.out j k hlt hlk).2 hgt; omega)
                          clear hgt
                          generalize cntI P j nn = x at *
                          generalize cntI P k nn = y at *
                          go_wp2_with fail
                          go_region
                          all_goals
                            go_wp2_with fail
                            go_roundw
                            case rel => exact ⟨k + 1, by omega, by go_num, by first | exact LB.out.drew | exact below_drewN LB.out _⟩
                            case measure => simp [intOf]; omega
                        · have r4 : decide (ws j < ws k) = false := decide_eq_false hgt
                          clear hgt
                          generalize cntI P j nn = x at *
                          generalize cntI P k nn = y at *
                          go_wp2_with fail
                          go_region
                          all_goals
                            go_wp2_with fail
                            go_roundw
                            case rel => exact ⟨k + 1, by omega, by go_num, by first | exact LB.out.drew | exact below_drewN LB.out _⟩
                            case measure => simp [intOf]; omega
                      · obtain rfl : m = k := by omega
                        have p3 : decide ((m : Int) < (m : Int)) = false := decide_eq_false (by omega)
                        go_wp2_with fail
                        go_roundw
                        case rel => exact ⟨j + 1, by omega, by go_num, LB.out⟩
                        case measure => simp [intOf]; omega
            · obtain rfl : m = j := by omega
              have p2 : decide ((m : Int) < (m : Int)) = false := decide_eq_false (by omega)
              have hr : key % nn < nn := Nat.mod_lt _ (by omega)
              have e1 : IntKind.u64.wrap (nn : Int) = (nn : Int) := by rw [IntKind.wrap_u64]; omega
              have e2 : (key : Int) % (nn : Int) = ((key % nn : Nat) : Int) := by rw [Int.natCast_emod]
              have HPD := Lib.hid (show Calls Try.prog 16 #[.pointer (some ⟨ra, 0, none⟩), .int .u64 key] wr.drew fun e w' => e = .returned (.int .i64 (P (key % nn))) ∧ Below wr.heap.size wr w' from
                (HPK.out wr.drew ra key hk (RingAt.below (RingAt.below RA7.out KB.out) (Below.refl _ _).drew)).mono fun e w' ⟨h1, h2⟩ => ⟨h1, (Below.refl _ _).drew.trans h2⟩)
              have hP := (P7.out.below KB.out P7.out.lt)
              have cp0 : wr.cell? ⟨gp, key % nn, none⟩ = some (.int .i64 (P (key % nn))) := (hP.cell _).trans (AP.out.2 _ hr)
              have cp1 : wr.drew.cell? ⟨gp, key % nn, none⟩ = some (.int .i64 (P (key % nn))) := cp0
              have HKP := Lib.hid (show ∀ W, Below wr.heap.size wr W → W.cell? ⟨gp, key % nn, none⟩ = some (.int .i64 (P (key % nn))) from fun W hb => ((hP.below hb hP.lt).cell _).trans (AP.out.2 _ hr))
              have HKB := Lib.hid (show ∀ W, Below wr.heap.size wr W → Below w.heap.size w W from fun W hb => (B7.out.trans (KB.out.mono B7.out.size)).trans (hb.mono (Nat.le_trans B7.out.size KB.out.size)))
              clear hP
              have e3 : IntKind.i64.wrap ((key % nn : Nat) : Int) = ((key % nn : Nat) : Int) := IntWalk.i64_in _ (by omega)
              generalize key % nn = r at *
              generalize P r = v at *
              go_wp2_with fail
              go_region_with (first
                | (go_at_call 16; (with_reducible refine HPD.out.mono ?_); rintro e w9 ⟨rfl, hb9⟩; have cp9 := HKP.out _ hb9; have HB9 := Lib.hid hb9; clear hb9)
                | (go_at_call 8; (with_reducible refine (awake_any _).mono ?_); rintro e w8 ⟨rfl, hb8⟩; have HB8 := Lib.hid (HB9.out.trans (hb8.mono HB9.out.size)); clear hb8))
              all_goals
                go_wp2_with fail
                go_ret
                exact ⟨rfl, HKB.out _ HB8.out⟩
    · have HNEW := Lib.hid (new_no seed size A m c ids ws w (by omega) HIT.out HIDM.out R)
      have HRT := Lib.hid (show ∀ W, Below w.heap.size w W → Calls Try.prog 11 #[.int .i64 size, .slice A m c] W fun e w' => e = .returned (.bool false) ∧ Below W.heap.size W w' from fun W hb =>
        (right_any size A m c ids ws W (by omega) (itemsOn HIT.out hb) HIDM.out).mono fun e w' ⟨b, h1, h2, h3⟩ => ⟨by rw [h1]; cases b; rfl; exact absurd (h2.mp rfl) R, h3⟩)
      have HLR := Lib.hid (show ∀ W, Below w.heap.size w W → Calls Try.prog 12 #[.int .i64 size, .slice A m c] W fun e w' => e = .returned (.bool false) ∧ Below W.heap.size W w' from fun W hb =>
        (lawright_any size A m c ids ws W (by omega) (itemsOn HIT.out hb)).mono fun e w' ⟨b, h1, h2, h3⟩ => ⟨by rw [h1]; cases b; rfl; exact absurd (h2.mp rfl) R, h3⟩)
      clear R
      go_wp2_with fail
      refine HNEW.out.mono ?_
      rintro e w1 ⟨rfl, hb1⟩
      have B1 := Lib.hid hb1
      clear hb1
      go_wp2_with fail
      refine (HRT.out _ B1.out).mono ?_
      rintro e w2 ⟨rfl, hb⟩
      have B2 := Lib.hid (B1.out.trans (hb.mono B1.out.size))
      clear hb
      go_wp2_with fail
      refine (HLR.out _ B2.out).mono ?_
      rintro e w3 ⟨rfl, hb⟩
      have B3 := Lib.hid (B2.out.trans (hb.mono B2.out.size))
      clear hb
      go_wp2_with fail
      refine (HLR.out _ B3.out).mono ?_
      rintro e w4 ⟨rfl, hb⟩
      have B4 := Lib.hid (B3.out.trans (hb.mono B3.out.size))
      clear hb
      go_wp2_with (go_at_call 8; (with_reducible refine (awake_any _).mono ?_); rintro e w5 ⟨rfl, hb⟩; have B5 := Lib.hid (B4.out.trans (hb.mono B4.out.size)); clear hb)
      go_ret
      exact ⟨rfl, B5.out⟩
end Go.Proofs.Ytjlochieddhmpaa.ringM
