/- 4 texts in one. -/
import Derived.Test.YtoaboklckkcjcaaGreatPk06
import Derived.Test.YtoaboklckkcjcaaGreatPk08
import Derived.Test.YtoaboklckkcjcaaGreatPk09
import Derived.Test.YtoaboklckkcjcaaGreatPk10
/- Layer 16: why a node may not stand behind others, as the law says it. -/
namespace Go.Proofs.YtoaboklckkcjcaaGreat.treF
open Go.ChangeShapes Go.WideShapes Go.ChangeAt Go.RowKit
open Go.Proofs.YtoaboklckkcjcaaGreat.base Go.Proofs.YtoaboklckkcjcaaGreat.dfA Go.Proofs.YtoaboklckkcjcaaGreat.treA Go.Proofs.YtoaboklckkcjcaaGreat.treB Go.Proofs.YtoaboklckkcjcaaGreat.treC Go.Proofs.YtoaboklckkcjcaaGreat.treD Go.Proofs.YtoaboklckkcjcaaGreat.treE
set_option linter.unusedVariables false

theorem addr_eq (a : Bool) (b c : Int) (v6 : Bool) (hi lo : Int) (W : World) : (binOp .eql 65 (.agg #[.bool a, .int .u64 b, .int .u64 c]) (.agg #[.bool v6, .int .u64 hi, .int .u64 lo])).run Tryz.prog W = .ok (.bool (a == v6 && b == hi && c == lo)) W := by
  cases e0 : (a == v6) <;> cases e1 : (b == hi) <;> cases e2 : (c == lo) <;> go_simp <;> simp [e0, e1, e2]
/-- Why a node may not stand behind nodes l, if there is room for it or not. -/
def whyF (l : List Nd) (n : Nd) : Int := if whyZ l n = 0 then (if fullB l n.kind = true then 6 else 0) else whyZ l n
theorem ofK_one {l : List Nd} {kind : Int} {j : Nat} (hj : j < l.length) (h : (l[j].kind == kind) = true) : (ofK l kind (j + 1)).length = (ofK l kind j).length + 1 := by
  rw [ofK_next hj, if_pos h, List.length_append]; rfl
theorem ofK_same {l : List Nd} {kind : Int} {j : Nat} (hj : j < l.length) (h : (l[j].kind == kind) = false) : (ofK l kind (j + 1)).length = (ofK l kind j).length := by
  rw [ofK_next hj, if_neg (by rw [h]; decide), List.append_nil]
set_option maxRecDepth 100000 in
set_option maxHeartbeats 32000000 in
theorem lawwhy_any (A : Option Addr) (c : Nat) (l : List Nd) (w : World) (n : Nd) (hr : RdN w A l) (hl : l.length ≤ 1000) (hcap : l.length ≤ c) (hcap2 : c ≤ 9223372036854775807) (hnm : n.nm.size ≤ 9223372036854775807) :
    Calls Tryz.prog 40 #[.agg n.cells, .slice A l.length c] w fun o w' => o = .returned (.int .i64 (whyF l n)) ∧ Below w.heap.size w w' := by
  obtain ⟨nm, kind, ab, wt, v6, hi, lo⟩ := n
  obtain ⟨w1, hw1⟩ : ∃ w1, w1 = (w.alloc (.cells #[.string nm, .int .i64 kind, .int .i64 ab, .int .i64 wt, .bool v6, .int .u64 hi, .int .u64 lo] 67)) := ⟨_, rfl⟩
  have HW := Lib.hid (show Below w.heap.size w w1 from hw1 ▸ (Below.refl w.heap.size w).alloc (Nat.le_refl _) _)
  have HB1 := Lib.hid (show Blk w1 w.heap.size 67 #[.string nm, .int .i64 kind, .int .i64 ab, .int .i64 wt, .bool v6, .int .u64 hi, .int .u64 lo] from hw1 ▸ Blk.new w _ _)
  have HRD := Lib.hid (show ∀ W, Below w1.heap.size w1 W → RdN W A l from fun W hb => (hr.below HW.out).below hb)
  have HW1 := Lib.hid (show (w.alloc (.cells #[.string nm, .int .i64 kind, .int .i64 ab, .int .i64 wt, .bool v6, .int .u64 hi, .int .u64 lo] 67)) = w1 from hw1.symm)
  have HNM := Lib.hid (lawname_any nm w1 hnm)
  have HRT := Lib.hid (right_any v6 hi lo)
  have HBX := Lib.hid (show ∀ W, Below w1.heap.size w1 W → (W.cell? ⟨w.heap.size, 0, none⟩ = some (.string nm) ∧ W.cell? ⟨w.heap.size, 1, none⟩ = some (.int .i64 kind) ∧ W.cell? ⟨w.heap.size, 2, none⟩ = some (.int .i64 ab) ∧ W.cell? ⟨w.heap.size, 3, none⟩ = some (.int .i64 wt) ∧ W.cell? ⟨w.heap.size, 4, none⟩ = some (.bool v6) ∧ W.cell? ⟨w.heap.size, 5, none⟩ = some (.int .u64 hi) ∧ W.cell? ⟨w.heap.size, 6, none⟩ = some (.int .u64 lo)) from fun W hb => by
    have h1 : Blk W w.heap.size 67 #[.string nm, .int .i64 kind, .int .i64 ab, .int .i64 wt, .bool v6, .int .u64 hi, .int .u64 lo] := (hb.block _ HB1.out.lt).trans HB1.out
    exact ⟨h1.cell 0, h1.cell 1, h1.cell 2, h1.cell 3, h1.cell 4, h1.cell 5, h1.cell 6⟩)
  have hne := fun W => addr_ne v6 hi lo W
  have hqe := fun a b c W => addr_eq a b c v6 hi lo W
  obtain ⟨b0, b1, b2, b3, b4, b5, b6⟩ := HBX.out w1 (Below.refl _ _)
  unfold Nd.cells
  obtain ⟨ln, hln⟩ : ∃ ln, ln = l.length := ⟨_, rfl⟩
  have HLN := Lib.hid hln
  rw [← hln] at hl hcap ⊢
  clear hr hw1 hln
  cases hnb : nameB nm with
  | false =>
    rw [show whyF l ⟨nm, kind, ab, wt, v6, hi, lo⟩ = 1 by simp [whyF, whyZ, hnb]]
    rw [hnb] at HNM
    go_enter Tryz.func40, Tryz.ntmps40
    go_wp2_with fail
    rw [HW1.out]
    refine HNM.out.mono ?_
    rintro e w' ⟨rfl, rfl⟩
    go_wp2_with fail
    all_goals (go_ret; exact ⟨rfl, HW.out⟩)
  | true =>
    rw [hnb] at HNM
    by_cases hk1 : kind < 1
    · rw [show whyF l ⟨nm, kind, ab, wt, v6, hi, lo⟩ = 1 by simp [whyF, whyZ, hnb, hk1]]
      go_enter Tryz.func40, Tryz.ntmps40
      go_wp2_with fail
      rw [HW1.out]
      refine HNM.out.mono ?_
      rintro e w' ⟨rfl, rfl⟩
      go_wp2_with fail
      all_goals (go_ret; exact ⟨rfl, HW.out⟩)
    · by_cases hk4 : 4 < kind
      · rw [show whyF l ⟨nm, kind, ab, wt, v6, hi, lo⟩ = 1 by simp [whyF, whyZ, hnb, hk4]]
        go_enter Tryz.func40, Tryz.ntmps40
        go_wp2_with fail
        rw [HW1.out]
        refine HNM.out.mono ?_
        rintro e w' ⟨rfl, rfl⟩
        go_wp2_with fail
        all_goals (go_ret; exact ⟨rfl, HW.out⟩)
      · by_cases hw0 : wt < 0
        · rw [show whyF l ⟨nm, kind, ab, wt, v6, hi, lo⟩ = 17 by simp [whyF, whyZ, hnb, hk1, hk4, hw0]]
          go_enter Tryz.func40, Tryz.ntmps40
          go_wp2_with fail
          rw [HW1.out]
          refine HNM.out.mono ?_
          rintro e w' ⟨rfl, rfl⟩
          go_wp2_with fail
          all_goals (go_ret; exact ⟨rfl, HW.out⟩)
        · by_cases hw9 : 65535 < wt
          · rw [show whyF l ⟨nm, kind, ab, wt, v6, hi, lo⟩ = 17 by simp [whyF, whyZ, hnb, hk1, hk4, hw0, hw9]]
            go_enter Tryz.func40, Tryz.ntmps40
            go_wp2_with fail
            rw [HW1.out]
            refine HNM.out.mono ?_
            rintro e w' ⟨rfl, rfl⟩
            go_wp2_with fail
            all_goals (go_ret; exact ⟨rfl, HW.out⟩)
          · by_cases hk : kind = 1
            · subst hk
              by_cases hwz : wt = 0
              · subst hwz
                by_cases hab : ab = -1
                · subst hab
                  cases hr : rightB v6 hi lo with
                  | false =>
                    rw [hr] at HRT
                    rw [show whyF l ⟨nm, 1, -1, 0, v6, hi, lo⟩ = 18 by simp [whyF, whyZ, hnb, hr]]
                    go_enter Tryz.func40, Tryz.ntmps40
                    go_wp2_with fail
                    rw [HW1.out]
                    refine HNM.out.mono ?_
                    rintro e w' ⟨rfl, rfl⟩
                    go_wp2_with fail
                    go_quiet (fail)
                    go_wp2_with fail
                    refine (HRT.out _).mono ?_
                    rintro e w6 ⟨rfl, hb6⟩
                    have B6 := Lib.hid ((below_drewN (Below.refl w1.heap.size w1) _).trans (hb6.mono (Nat.le_refl _)))
                    have C6 := Lib.hid (HW.out.trans (B6.out.mono HW.out.size))
                    obtain ⟨z0, z1, z2, z3, z4, z5, z6⟩ := HBX.out _ B6.out
                    clear hb6
                    go_wp2_with fail
                    go_ret
                    exact ⟨rfl, C6.out⟩
                  | true =>
                    rw [hr] at HRT
                    cases hnz : nzA v6 hi lo with
                    | true =>
                      rw [hnz] at hne
                      rw [show whyF l ⟨nm, 1, -1, 0, v6, hi, lo⟩ = 18 by simp [whyF, whyZ, hnb, hr, hnz]]
                      go_enter Tryz.func40, Tryz.ntmps40
                      go_wp2_with fail
                      rw [HW1.out]
                      refine HNM.out.mono ?_
                      rintro e w' ⟨rfl, rfl⟩
                      go_wp2_with fail
                      go_quiet (fail)
                      go_wp2_with fail
                      refine (HRT.out _).mono ?_
                      rintro e w6 ⟨rfl, hb6⟩
                      have B6 := Lib.hid ((below_drewN (Below.refl w1.heap.size w1) _).trans (hb6.mono (Nat.le_refl _)))
                      have C6 := Lib.hid (HW.out.trans (B6.out.mono HW.out.size))
                      obtain ⟨z0, z1, z2, z3, z4, z5, z6⟩ := HBX.out _ B6.out
                      clear hb6
                      go_wp2_with fail
                      go_ret
                      exact ⟨rfl, C6.out⟩
                    | false =>
                      rw [hnz] at hne
                      have HV8 := Lib.hid (fun (hh : hasB l ⟨nm, 1, -1, 0, v6, hi, lo⟩ = true) => show whyF l ⟨nm, 1, -1, 0, v6, hi, lo⟩ = 8 by simp [whyF, whyZ, hnb, hr, hnz, hh])
                      have HV6 := Lib.hid (fun (hh : hasB l ⟨nm, 1, -1, 0, v6, hi, lo⟩ = false) (h7 : fullB l 1 = true) => show whyF l ⟨nm, 1, -1, 0, v6, hi, lo⟩ = 6 by simp [whyF, whyZ, hnb, hr, hnz, hh, h7])
                      have HV0 := Lib.hid (fun (hh : hasB l ⟨nm, 1, -1, 0, v6, hi, lo⟩ = false) (h7 : fullB l 1 = false) => show whyF l ⟨nm, 1, -1, 0, v6, hi, lo⟩ = 0 by simp [whyF, whyZ, hnb, hr, hnz, hh, h7])
                      go_enter Tryz.func40, Tryz.ntmps40
                      go_wp2_with fail
                      rw [HW1.out]
                      refine HNM.out.mono ?_
                      rintro e w' ⟨rfl, rfl⟩
                      go_wp2_with fail
                      go_quiet (fail)
                      go_wp2_with fail
                      refine (HRT.out _).mono ?_
                      rintro e w6 ⟨rfl, hb6⟩
                      have B6 := Lib.hid ((below_drewN (Below.refl w1.heap.size w1) _).trans (hb6.mono (Nat.le_refl _)))
                      have C6 := Lib.hid (HW.out.trans (B6.out.mono HW.out.size))
                      obtain ⟨z0, z1, z2, z3, z4, z5, z6⟩ := HBX.out _ B6.out
                      clear hb6
                      go_wp2_with fail
                      clear b0 b1 b2 b3 b4 b5 b6 z0 z1 z2 z3 z4 z5 z6
                      go_loopw [5, 6, 7] (fun m1 m4 i wr => ∃ k : Nat, i = .int .i64 k ∧ k ≤ ln ∧ m1 = .int .i64 (ofK l 1 k).length ∧ m4 = .int .i64 (ofK l 4 k).length ∧ Hid (noTo l ⟨nm, 1, -1, 0, v6, hi, lo⟩ k) ∧ Below w1.heap.size w1 wr) (fun _ _ i _ => ln - (intOf i).toNat)
                      case atStart => exact ⟨0, rfl, by omega, rfl, rfl, Lib.hid (by unfold noTo hasB; rfl), B6.out⟩
                      case round =>
                        obtain ⟨k, rfl, hkl, rfl, rfl, HNO, hbel⟩ := hrel
                        have KB := Lib.hid hbel
                        have KC := Lib.hid (HW.out.trans (hbel.mono HW.out.size))
                        obtain ⟨x0, x1, x2, x3, x4, x5, x6⟩ := HBX.out _ hbel
                        clear hbel
                        have hm1 : (ofK l 1 k).length ≤ k := ofK_len l 1 k
                        have hm4 : (ofK l 4 k).length ≤ k := ofK_len l 4 k
                        by_cases hkn : k < ln
                        · have t1 : decide ((k : Int) < ln) = true := decide_eq_true (by omega)
                          have hjl : k < l.length := HLN.out ▸ hkn
                          obtain ⟨b, off, hA, hbl, hC⟩ := (HRD.out _ KB.out).at_ k hjl
                          subst hA
                          have HN1 := Lib.hid (fun h => ofK_one (kind := 1) hjl h)
                          have HN1' := Lib.hid (fun h => ofK_same (kind := 1) hjl h)
                          have HN4 := Lib.hid (fun h => ofK_one (kind := 4) hjl h)
                          have HN4' := Lib.hid (fun h => ofK_same (kind := 4) hjl h)
                          have HNN := Lib.hid (fun h => noTo_next hjl HNO.out h)
                          have HHE := Lib.hid (fun h => has_here (n := ⟨nm, 1, -1, 0, v6, hi, lo⟩) hjl h)
                          obtain ⟨e, he⟩ : ∃ e, e = l[k] := ⟨_, rfl⟩
                          rw [← he] at hC HN1 HN1' HN4 HN4' HNN HHE
                          have d0 : wr.cell? ⟨b, off + k * 7, none⟩ = some (.string e.nm) := hC 0 (by omega)
                          have d1 : wr.cell? ⟨b, off + k * 7 + 1, none⟩ = some (.int .i64 e.kind) := hC 1 (by omega)
                          have d4 : wr.cell? ⟨b, off + k * 7 + 4, none⟩ = some (.bool e.v6) := hC 4 (by omega)
                          have d5 : wr.cell? ⟨b, off + k * 7 + 5, none⟩ = some (.int .u64 e.hi) := hC 5 (by omega)
                          have d6 : wr.cell? ⟨b, off + k * 7 + 6, none⟩ = some (.int .u64 e.lo) := hC 6 (by omega)
                          have j0 : (0 : Int) ≤ k := by omega
                          have j1 : (k : Int) < ln := by omega
                          have hqe1 := hqe e.v6 e.hi e.lo
                          have M1 := Lib.hid hm1
                          have M4 := Lib.hid hm4
                          have g1 : ((ofK l 1 k).length : Int) ≤ 1000 := by omega
                          have g4 : ((ofK l 4 k).length : Int) ≤ 1000 := by omega
                          clear hC he hm1 hm4 hqe
                          cases hq : (e.nm.toList == nm.toList) with
                          | true =>
                            have HZ := Lib.hid (HV8.out (HHE.out (by simp [twB, hq])))
                            go_wp2_with fail
                            go_quiet (fail)
                            go_wp2_with fail
                            go_ret
                            exact ⟨(by rw [HZ.out]; try rfl), by first | exact KC.out | exact below_drewN KC.out _⟩
                          | false =>
                            by_cases h9 : e.kind = 4
                            · have h9b : (e.kind == 4) = true := by simp [h9]
                              have h9a : (e.kind == 1) = false := by simp [h9]
                              clear h9
                              have HX := Lib.hid (HNN.out (by simp [twB, hq]))
                              have Ha := Lib.hid (HN1'.out h9a)
                              have Hb := Lib.hid (HN4.out h9b)
                              clear HN1 HN1' HN4 HN4' HNN HHE
                              go_wp2_with fail
                              go_quiet (fail)
                              go_wp2_with fail
                              go_roundw
                              case rel => exact ⟨k + 1, by go_num, by omega, (by rw [Ha.out]; first | done | rfl | go_num), (by rw [Hb.out]; first | done | rfl | go_num), HX, by first | exact KB.out | exact below_drewN KB.out _⟩
                              case measure => simp [intOf]; omega
                            · have h9b : (e.kind == 4) = false := beq_false_of_ne h9
                              clear h9
                              cases h9a : (e.kind == 1) with
                              | true =>
                                have HX := Lib.hid (HNN.out (by simp [twB, hq]))
                                have Ha := Lib.hid (HN1.out h9a)
                                have Hb := Lib.hid (HN4'.out h9b)
                                clear HN1 HN1' HN4 HN4' HNN HHE
                                go_wp2_with fail
                                go_quiet (fail)
                                go_wp2_with fail
                                go_roundw
                                case rel => exact ⟨k + 1, by go_num, by omega, (by rw [Ha.out]; first | done | rfl | go_num), (by rw [Hb.out]; first | done | rfl | go_num), HX, by first | exact KB.out | exact below_drewN KB.out _⟩
                                case measure => simp [intOf]; omega
                              | false =>
                                have HX := Lib.hid (HNN.out (by simp [twB, hq]))
                                have Ha := Lib.hid (HN1'.out h9a)
                                have Hb := Lib.hid (HN4'.out h9b)
                                clear HN1 HN1' HN4 HN4' HNN HHE
                                go_wp2_with fail
                                go_quiet (fail)
                                go_wp2_with fail
                                go_roundw
                                case rel => exact ⟨k + 1, by go_num, by omega, (by rw [Ha.out]; first | done | rfl | go_num), (by rw [Hb.out]; first | done | rfl | go_num), HX, by first | exact KB.out | exact below_drewN KB.out _⟩
                                case measure => simp [intOf]; omega
                        · have t1 : decide ((k : Int) < ln) = false := decide_eq_false (by omega)
                          obtain rfl : ln = k := by omega
                          have HHN := Lib.hid (has_none (by have := HLN.out; omega) HNO.out)
                          have hln : ln = l.length := HLN.out
                          have HFU := Lib.hid (show fullB l 1 = (decide ((1024 : Int) ≤ ln) || (if 1 = 1 then decide ((4 : Int) ≤ (ofK l 1 ln).length) else if 1 = 4 then decide ((512 : Int) ≤ (ofK l 4 ln).length) else false)) by rw [hln]; rfl)
                          have tb : decide ((1024 : Int) ≤ ln) = false := decide_eq_false (by omega)
                          clear hm1 hm4 hln hqe
                          cases hfl : decide ((4 : Int) ≤ (ofK l 1 ln).length) with
                          | true =>
                            have HZ := Lib.hid (HV6.out HHN.out (by rw [HFU.out, tb, if_pos rfl, hfl]; rfl))
                            go_wp2_with fail
                            go_ret
                            exact ⟨(by rw [HZ.out]; try rfl), KC.out⟩
                          | false =>
                            have HZ := Lib.hid (HV0.out HHN.out (by rw [HFU.out, tb, if_pos rfl, hfl]; rfl))
                            go_wp2_with fail
                            go_ret
                            exact ⟨(by rw [HZ.out]; try rfl), KC.out⟩
                · rw [show whyF l ⟨nm, 1, ab, 0, v6, hi, lo⟩ = 16 by simp [whyF, whyZ, hnb, hab]]
                  have hab2 : (ab == -1) = false := beq_false_of_ne hab
                  have hab3 : (ab != -1) = true := by simp [hab]
                  clear hab
                  go_enter Tryz.func40, Tryz.ntmps40
                  go_wp2_with fail
                  rw [HW1.out]
                  refine HNM.out.mono ?_
                  rintro e w' ⟨rfl, rfl⟩
                  go_wp2_with fail
                  all_goals (go_ret; exact ⟨rfl, HW.out⟩)
              · rw [show whyF l ⟨nm, 1, ab, wt, v6, hi, lo⟩ = 17 by simp [whyF, whyZ, hnb, hw0, hw9, hwz]]
                have hwz2 : (wt == 0) = false := beq_false_of_ne hwz
                have hwz3 : (wt != 0) = true := by simp [hwz]
                clear hwz
                go_enter Tryz.func40, Tryz.ntmps40
                go_wp2_with fail
                rw [HW1.out]
                refine HNM.out.mono ?_
                rintro e w' ⟨rfl, rfl⟩
                go_wp2_with fail
                all_goals (go_ret; exact ⟨rfl, HW.out⟩)
            · have hk2 : (kind == 1) = false := beq_false_of_ne hk
              have hk3 : (kind != 1) = true := by simp [hk]
              have hkg : (1 : Int) < kind := by omega
              have hwr : IntKind.i64.wrap (kind - 1) = kind - 1 := by rw [IntWalk.i64_in _ (by omega)]
              by_cases hin : 0 ≤ ab ∧ ab < ln
              · obtain ⟨j, rfl⟩ : ∃ j : Nat, ab = (j : Int) := ⟨ab.toNat, by omega⟩
                have hj : j < l.length := by have := HLN.out; omega
                have HND := Lib.hid (show ndAt l (j : Int) = l[j] by
                  unfold ndAt isB
                  rw [if_pos (by simp; omega), Int.toNat_natCast, List.getD_eq_getElem?_getD, List.getElem?_eq_getElem hj]
                  rfl)
                obtain ⟨b, off, hA, hbl, hC⟩ := (HRD.out _ (Below.refl _ _)).at_ j hj
                subst hA
                obtain ⟨y, hy⟩ : ∃ y, y = l[j] := ⟨_, rfl⟩
                rw [← hy] at hC HND
                have d1 : w1.cell? ⟨b, off + j * 7 + 1, none⟩ = some (.int .i64 y.kind) := hC 1 (by omega)
                have j0 : (0 : Int) ≤ j := by omega
                have j1 : (j : Int) < ln := by omega
                clear hC hy hin
                cases hyk : (y.kind == kind - 1) with
                | false =>
                  have hyk3 : (y.kind != kind - 1) = true := by simp [bne, hyk]
                  rw [show whyF l ⟨nm, kind, (j : Int), wt, v6, hi, lo⟩ = 16 by simp [whyF, whyZ, hnb, hk1, hk4, hw0, hw9, hk2, HND.out, hyk]]
                  go_enter Tryz.func40, Tryz.ntmps40
                  go_wp2_with fail
                  rw [HW1.out]
                  refine HNM.out.mono ?_
                  rintro e w' ⟨rfl, rfl⟩
                  go_wp2_with fail
                  go_quiet (fail)
                  go_wp2_with fail
                  go_ret
                  exact ⟨rfl, below_drewN HW.out _⟩
                | true =>
                  have hyk3 : (y.kind != kind - 1) = false := by simp [bne, hyk]
                  have HYK := Lib.hid (show ((ndAt l (j : Int)).kind == kind - 1) = true by rw [HND.out]; exact hyk)
                  by_cases hkf : kind = 4
                  · have hkf2 : (kind == 4) = true := by simp [hkf]
                    have hkf3 : (kind != 4) = false := by simp [hkf]
                    clear hkf hk
                    cases hr : rightB v6 hi lo with
                    | false =>
                      rw [hr] at HRT
                      rw [show whyF l ⟨nm, kind, (j : Int), wt, v6, hi, lo⟩ = 18 by simp [whyF, whyZ, hnb, hk1, hk4, hw0, hw9, hk2, HYK.out, hkf2, hr]]
                      go_enter Tryz.func40, Tryz.ntmps40
                      go_wp2_with fail
                      rw [HW1.out]
                      refine HNM.out.mono ?_
                      rintro e w' ⟨rfl, rfl⟩
                      go_wp2_with fail
                      go_quiet (fail)
                      go_wp2_with fail
                      refine (HRT.out _).mono ?_
                      rintro e w6 ⟨rfl, hb6⟩
                      have B6 := Lib.hid ((below_drewN (Below.refl w1.heap.size w1) _).trans (hb6.mono (Nat.le_refl _)))
                      have C6 := Lib.hid (HW.out.trans (B6.out.mono HW.out.size))
                      obtain ⟨z0, z1, z2, z3, z4, z5, z6⟩ := HBX.out _ B6.out
                      clear hb6
                      go_wp2_with fail
                      go_ret
                      exact ⟨rfl, C6.out⟩
                    | true =>
                      rw [hr] at HRT
                      have HV8 := Lib.hid (fun (hh : hasB l ⟨nm, kind, (j : Int), wt, v6, hi, lo⟩ = true) => show whyF l ⟨nm, kind, (j : Int), wt, v6, hi, lo⟩ = 8 by simp [whyF, whyZ, hnb, hk1, hk4, hw0, hw9, hk2, HYK.out, hkf2, hr, hh])
                      have HV6 := Lib.hid (fun (hh : hasB l ⟨nm, kind, (j : Int), wt, v6, hi, lo⟩ = false) (h7 : fullB l kind = true) => show whyF l ⟨nm, kind, (j : Int), wt, v6, hi, lo⟩ = 6 by simp [whyF, whyZ, hnb, hk1, hk4, hw0, hw9, hk2, HYK.out, hkf2, hr, hh, h7])
                      have HV0 := Lib.hid (fun (hh : hasB l ⟨nm, kind, (j : Int), wt, v6, hi, lo⟩ = false) (h7 : fullB l kind = false) => show whyF l ⟨nm, kind, (j : Int), wt, v6, hi, lo⟩ = 0 by simp [whyF, whyZ, hnb, hk1, hk4, hw0, hw9, hk2, HYK.out, hkf2, hr, hh, h7])
                      go_enter Tryz.func40, Tryz.ntmps40
                      go_wp2_with fail
                      rw [HW1.out]
                      refine HNM.out.mono ?_
                      rintro e w' ⟨rfl, rfl⟩
                      go_wp2_with fail
                      go_quiet (fail)
                      go_wp2_with fail
                      refine (HRT.out _).mono ?_
                      rintro e w6 ⟨rfl, hb6⟩
                      have B6 := Lib.hid ((below_drewN (Below.refl w1.heap.size w1) _).trans (hb6.mono (Nat.le_refl _)))
                      have C6 := Lib.hid (HW.out.trans (B6.out.mono HW.out.size))
                      obtain ⟨z0, z1, z2, z3, z4, z5, z6⟩ := HBX.out _ B6.out
                      clear hb6
                      go_wp2_with fail
                      clear b0 b1 b2 b3 b4 b5 b6 z0 z1 z2 z3 z4 z5 z6
                      go_loopw [5, 6, 7] (fun m1 m4 i wr => ∃ k : Nat, i = .int .i64 k ∧ k ≤ ln ∧ m1 = .int .i64 (ofK l 1 k).length ∧ m4 = .int .i64 (ofK l 4 k).length ∧ Hid (noTo l ⟨nm, kind, (j : Int), wt, v6, hi, lo⟩ k) ∧ Below w1.heap.size w1 wr) (fun _ _ i _ => ln - (intOf i).toNat)
                      case atStart => exact ⟨0, rfl, by omega, rfl, rfl, Lib.hid (by unfold noTo hasB; rfl), B6.out⟩
                      case round =>
                        obtain ⟨k, rfl, hkl, rfl, rfl, HNO, hbel⟩ := hrel
                        have KB := Lib.hid hbel
                        have KC := Lib.hid (HW.out.trans (hbel.mono HW.out.size))
                        obtain ⟨x0, x1, x2, x3, x4, x5, x6⟩ := HBX.out _ hbel
                        clear hbel
                        have hm1 : (ofK l 1 k).length ≤ k := ofK_len l 1 k
                        have hm4 : (ofK l 4 k).length ≤ k := ofK_len l 4 k
                        by_cases hkn : k < ln
                        · have t1 : decide ((k : Int) < ln) = true := decide_eq_true (by omega)
                          have hjl : k < l.length := HLN.out ▸ hkn
                          obtain ⟨b2, off2, hA, hbl, hC⟩ := (HRD.out _ KB.out).at_ k hjl
                          obtain ⟨rfl, rfl⟩ : b = b2 ∧ off = off2 := by injection hA with hA; injection hA with h1 h2; exact ⟨h1, h2⟩
                          have HN1 := Lib.hid (fun h => ofK_one (kind := 1) hjl h)
                          have HN1' := Lib.hid (fun h => ofK_same (kind := 1) hjl h)
                          have HN4 := Lib.hid (fun h => ofK_one (kind := 4) hjl h)
                          have HN4' := Lib.hid (fun h => ofK_same (kind := 4) hjl h)
                          have HNN := Lib.hid (fun h => noTo_next hjl HNO.out h)
                          have HHE := Lib.hid (fun h => has_here (n := ⟨nm, kind, (j : Int), wt, v6, hi, lo⟩) hjl h)
                          obtain ⟨e, he⟩ : ∃ e, e = l[k] := ⟨_, rfl⟩
                          rw [← he] at hC HN1 HN1' HN4 HN4' HNN HHE
                          have d0 : wr.cell? ⟨b, off + k * 7, none⟩ = some (.string e.nm) := hC 0 (by omega)
                          have d1 : wr.cell? ⟨b, off + k * 7 + 1, none⟩ = some (.int .i64 e.kind) := hC 1 (by omega)
                          have d4 : wr.cell? ⟨b, off + k * 7 + 4, none⟩ = some (.bool e.v6) := hC 4 (by omega)
                          have d5 : wr.cell? ⟨b, off + k * 7 + 5, none⟩ = some (.int .u64 e.hi) := hC 5 (by omega)
                          have d6 : wr.cell? ⟨b, off + k * 7 + 6, none⟩ = some (.int .u64 e.lo) := hC 6 (by omega)
                          have j0 : (0 : Int) ≤ k := by omega
                          have j1 : (k : Int) < ln := by omega
                          have hqe1 := hqe e.v6 e.hi e.lo
                          have M1 := Lib.hid hm1
                          have M4 := Lib.hid hm4
                          have g1 : ((ofK l 1 k).length : Int) ≤ 1000 := by omega
                          have g4 : ((ofK l 4 k).length : Int) ≤ 1000 := by omega
                          clear hC he hm1 hm4 hqe
                          cases hq : (e.nm.toList == nm.toList) with
                          | true =>
                            have HZ := Lib.hid (HV8.out (HHE.out (by simp [twB, hq])))
                            go_wp2_with fail
                            go_quiet (fail)
                            go_wp2_with fail
                            go_ret
                            exact ⟨(by rw [HZ.out]; try rfl), by first | exact KC.out | exact below_drewN KC.out _⟩
                          | false =>
                            by_cases h9 : e.kind = 4
                            · have h9b : (e.kind == 4) = true := by simp [h9]
                              have h9a : (e.kind == 1) = false := by simp [h9]
                              clear h9
                              cases hae : (e.v6 == v6 && e.hi == hi && e.lo == lo) with
                              | true =>
                                rw [hae] at hqe1
                                have HZ := Lib.hid (HV8.out (HHE.out (by simp only [twB, hq, h9b, hkf2, hae]; rfl)))
                                go_wp2_with fail
                                go_quiet (fail)
                                go_wp2_with fail
                                go_ret
                                exact ⟨(by rw [HZ.out]; try rfl), by first | exact KC.out | exact below_drewN KC.out _⟩
                              | false =>
                                rw [hae] at hqe1
                                have HX := Lib.hid (HNN.out (by simp only [twB, hq, h9b, hkf2, hae]; rfl))
                                have Ha := Lib.hid (HN1'.out h9a)
                                have Hb := Lib.hid (HN4.out h9b)
                                clear HN1 HN1' HN4 HN4' HNN HHE
                                go_wp2_with fail
                                go_quiet (fail)
                                go_wp2_with fail
                                go_roundw
                                case rel => exact ⟨k + 1, by go_num, by omega, (by rw [Ha.out]; first | done | rfl | go_num), (by rw [Hb.out]; first | done | rfl | go_num), HX, by first | exact KB.out | exact below_drewN KB.out _⟩
                                case measure => simp [intOf]; omega
                            · have h9b : (e.kind == 4) = false := beq_false_of_ne h9
                              clear h9
                              cases h9a : (e.kind == 1) with
                              | true =>
                                have HX := Lib.hid (HNN.out (by simp [twB, hq, h9b]))
                                have Ha := Lib.hid (HN1.out h9a)
                                have Hb := Lib.hid (HN4'.out h9b)
                                clear HN1 HN1' HN4 HN4' HNN HHE
                                go_wp2_with fail
                                go_quiet (fail)
                                go_wp2_with fail
                                go_roundw
                                case rel => exact ⟨k + 1, by go_num, by omega, (by rw [Ha.out]; first | done | rfl | go_num), (by rw [Hb.out]; first | done | rfl | go_num), HX, by first | exact KB.out | exact below_drewN KB.out _⟩
                                case measure => simp [intOf]; omega
                              | false =>
                                have HX := Lib.hid (HNN.out (by simp [twB, hq, h9b]))
                                have Ha := Lib.hid (HN1'.out h9a)
                                have Hb := Lib.hid (HN4'.out h9b)
                                clear HN1 HN1' HN4 HN4' HNN HHE
                                go_wp2_with fail
                                go_quiet (fail)
                                go_wp2_with fail
                                go_roundw
                                case rel => exact ⟨k + 1, by go_num, by omega, (by rw [Ha.out]; first | done | rfl | go_num), (by rw [Hb.out]; first | done | rfl | go_num), HX, by first | exact KB.out | exact below_drewN KB.out _⟩
                                case measure => simp [intOf]; omega
                        · have t1 : decide ((k : Int) < ln) = false := decide_eq_false (by omega)
                          obtain rfl : ln = k := by omega
                          have HHN := Lib.hid (has_none (by have := HLN.out; omega) HNO.out)
                          have hln : ln = l.length := HLN.out
                          have HFU := Lib.hid (show fullB l kind = (decide ((1024 : Int) ≤ ln) || (if kind = 1 then decide ((4 : Int) ≤ (ofK l 1 ln).length) else if kind = 4 then decide ((512 : Int) ≤ (ofK l 4 ln).length) else false)) by rw [hln]; rfl)
                          have tb : decide ((1024 : Int) ≤ ln) = false := decide_eq_false (by omega)
                          clear hm1 hm4 hln hqe
                          cases hfl : decide ((512 : Int) ≤ (ofK l 4 ln).length) with
                          | true =>
                            have HZ := Lib.hid (HV6.out HHN.out (by rw [HFU.out, tb, if_neg (by simpa using hk2), if_pos (by simpa using hkf2), hfl]; rfl))
                            go_wp2_with fail
                            go_ret
                            exact ⟨(by rw [HZ.out]; try rfl), KC.out⟩
                          | false =>
                            have HZ := Lib.hid (HV0.out HHN.out (by rw [HFU.out, tb, if_neg (by simpa using hk2), if_pos (by simpa using hkf2), hfl]; rfl))
                            go_wp2_with fail
                            go_ret
                            exact ⟨(by rw [HZ.out]; try rfl), KC.out⟩
                  · have hkf2 : (kind == 4) = false := beq_false_of_ne hkf
                    have hkf3 : (kind != 4) = true := by simp [hkf]
                    clear hkf hk
                    cases hr : rightB v6 hi lo with
                    | false =>
                      rw [hr] at HRT
                      rw [show whyF l ⟨nm, kind, (j : Int), wt, v6, hi, lo⟩ = 18 by simp [whyF, whyZ, hnb, hk1, hk4, hw0, hw9, hk2, HYK.out, hkf2, hr]]
                      go_enter Tryz.func40, Tryz.ntmps40
                      go_wp2_with fail
                      rw [HW1.out]
                      refine HNM.out.mono ?_
                      rintro e w' ⟨rfl, rfl⟩
                      go_wp2_with fail
                      go_quiet (fail)
                      go_wp2_with fail
                      refine (HRT.out _).mono ?_
                      rintro e w6 ⟨rfl, hb6⟩
                      have B6 := Lib.hid ((below_drewN (Below.refl w1.heap.size w1) _).trans (hb6.mono (Nat.le_refl _)))
                      have C6 := Lib.hid (HW.out.trans (B6.out.mono HW.out.size))
                      obtain ⟨z0, z1, z2, z3, z4, z5, z6⟩ := HBX.out _ B6.out
                      clear hb6
                      go_wp2_with fail
                      go_ret
                      exact ⟨rfl, C6.out⟩
                    | true =>
                      rw [hr] at HRT
                      cases hnz : nzA v6 hi lo with
                      | true =>
                        rw [hnz] at hne
                        rw [show whyF l ⟨nm, kind, (j : Int), wt, v6, hi, lo⟩ = 18 by simp [whyF, whyZ, hnb, hk1, hk4, hw0, hw9, hk2, HYK.out, hkf2, hr, hnz]]
                        go_enter Tryz.func40, Tryz.ntmps40
                        go_wp2_with fail
                        rw [HW1.out]
                        refine HNM.out.mono ?_
                        rintro e w' ⟨rfl, rfl⟩
                        go_wp2_with fail
                        go_quiet (fail)
                        go_wp2_with fail
                        refine (HRT.out _).mono ?_
                        rintro e w6 ⟨rfl, hb6⟩
                        have B6 := Lib.hid ((below_drewN (Below.refl w1.heap.size w1) _).trans (hb6.mono (Nat.le_refl _)))
                        have C6 := Lib.hid (HW.out.trans (B6.out.mono HW.out.size))
                        obtain ⟨z0, z1, z2, z3, z4, z5, z6⟩ := HBX.out _ B6.out
                        clear hb6
                        go_wp2_with fail
                        go_ret
                        exact ⟨rfl, C6.out⟩
                      | false =>
                        rw [hnz] at hne
                        have HV8 := Lib.hid (fun (hh : hasB l ⟨nm, kind, (j : Int), wt, v6, hi, lo⟩ = true) => show whyF l ⟨nm, kind, (j : Int), wt, v6, hi, lo⟩ = 8 by simp [whyF, whyZ, hnb, hk1, hk4, hw0, hw9, hk2, HYK.out, hkf2, hr, hnz, hh])
                        have HV6 := Lib.hid (fun (hh : hasB l ⟨nm, kind, (j : Int), wt, v6, hi, lo⟩ = false) (h7 : fullB l kind = true) => show whyF l ⟨nm, kind, (j : Int), wt, v6, hi, lo⟩ = 6 by simp [whyF, whyZ, hnb, hk1, hk4, hw0, hw9, hk2, HYK.out, hkf2, hr, hnz, hh, h7])
                        have HV0 := Lib.hid (fun (hh : hasB l ⟨nm, kind, (j : Int), wt, v6, hi, lo⟩ = false) (h7 : fullB l kind = false) => show whyF l ⟨nm, kind, (j : Int), wt, v6, hi, lo⟩ = 0 by simp [whyF, whyZ, hnb, hk1, hk4, hw0, hw9, hk2, HYK.out, hkf2, hr, hnz, hh, h7])
                        go_enter Tryz.func40, Tryz.ntmps40
                        go_wp2_with fail
                        rw [HW1.out]
                        refine HNM.out.mono ?_
                        rintro e w' ⟨rfl, rfl⟩
                        go_wp2_with fail
                        go_quiet (fail)
                        go_wp2_with fail
                        refine (HRT.out _).mono ?_
                        rintro e w6 ⟨rfl, hb6⟩
                        have B6 := Lib.hid ((below_drewN (Below.refl w1.heap.size w1) _).trans (hb6.mono (Nat.le_refl _)))
                        have C6 := Lib.hid (HW.out.trans (B6.out.mono HW.out.size))
                        obtain ⟨z0, z1, z2, z3, z4, z5, z6⟩ := HBX.out _ B6.out
                        clear hb6
                        go_wp2_with fail
                        clear b0 b1 b2 b3 b4 b5 b6 z0 z1 z2 z3 z4 z5 z6
                        go_loopw [5, 6, 7] (fun m1 m4 i wr => ∃ k : Nat, i = .int .i64 k ∧ k ≤ ln ∧ m1 = .int .i64 (ofK l 1 k).length ∧ m4 = .int .i64 (ofK l 4 k).length ∧ Hid (noTo l ⟨nm, kind, (j : Int), wt, v6, hi, lo⟩ k) ∧ Below w1.heap.size w1 wr) (fun _ _ i _ => ln - (intOf i).toNat)
                        case atStart => exact ⟨0, rfl, by omega, rfl, rfl, Lib.hid (by unfold noTo hasB; rfl), B6.out⟩
                        case round =>
                          obtain ⟨k, rfl, hkl, rfl, rfl, HNO, hbel⟩ := hrel
                          have KB := Lib.hid hbel
                          have KC := Lib.hid (HW.out.trans (hbel.mono HW.out.size))
                          obtain ⟨x0, x1, x2, x3, x4, x5, x6⟩ := HBX.out _ hbel
                          clear hbel
                          have hm1 : (ofK l 1 k).length ≤ k := ofK_len l 1 k
                          have hm4 : (ofK l 4 k).length ≤ k := ofK_len l 4 k
                          by_cases hkn : k < ln
                          · have t1 : decide ((k : Int) < ln) = true := decide_eq_true (by omega)
                            have hjl : k < l.length := HLN.out ▸ hkn
                            obtain ⟨b2, off2, hA, hbl, hC⟩ := (HRD.out _ KB.out).at_ k hjl
                            obtain ⟨rfl, rfl⟩ : b = b2 ∧ off = off2 := by injection hA with hA; injection hA with h1 h2; exact ⟨h1, h2⟩
                            have HN1 := Lib.hid (fun h => ofK_one (kind := 1) hjl h)
                            have HN1' := Lib.hid (fun h => ofK_same (kind := 1) hjl h)
                            have HN4 := Lib.hid (fun h => ofK_one (kind := 4) hjl h)
                            have HN4' := Lib.hid (fun h => ofK_same (kind := 4) hjl h)
                            have HNN := Lib.hid (fun h => noTo_next hjl HNO.out h)
                            have HHE := Lib.hid (fun h => has_here (n := ⟨nm, kind, (j : Int), wt, v6, hi, lo⟩) hjl h)
                            obtain ⟨e, he⟩ : ∃ e, e = l[k] := ⟨_, rfl⟩
                            rw [← he] at hC HN1 HN1' HN4 HN4' HNN HHE
                            have d0 : wr.cell? ⟨b, off + k * 7, none⟩ = some (.string e.nm) := hC 0 (by omega)
                            have d1 : wr.cell? ⟨b, off + k * 7 + 1, none⟩ = some (.int .i64 e.kind) := hC 1 (by omega)
                            have d4 : wr.cell? ⟨b, off + k * 7 + 4, none⟩ = some (.bool e.v6) := hC 4 (by omega)
                            have d5 : wr.cell? ⟨b, off + k * 7 + 5, none⟩ = some (.int .u64 e.hi) := hC 5 (by omega)
                            have d6 : wr.cell? ⟨b, off + k * 7 + 6, none⟩ = some (.int .u64 e.lo) := hC 6 (by omega)
                            have j0 : (0 : Int) ≤ k := by omega
                            have j1 : (k : Int) < ln := by omega
                            have hqe1 := hqe e.v6 e.hi e.lo
                            have M1 := Lib.hid hm1
                            have M4 := Lib.hid hm4
                            have g1 : ((ofK l 1 k).length : Int) ≤ 1000 := by omega
                            have g4 : ((ofK l 4 k).length : Int) ≤ 1000 := by omega
                            clear hC he hm1 hm4 hqe
                            cases hq : (e.nm.toList == nm.toList) with
                            | true =>
                              have HZ := Lib.hid (HV8.out (HHE.out (by simp [twB, hq])))
                              go_wp2_with fail
                              go_quiet (fail)
                              go_wp2_with fail
                              go_ret
                              exact ⟨(by rw [HZ.out]; try rfl), by first | exact KC.out | exact below_drewN KC.out _⟩
                            | false =>
                              by_cases h9 : e.kind = 4
                              · have h9b : (e.kind == 4) = true := by simp [h9]
                                have h9a : (e.kind == 1) = false := by simp [h9]
                                clear h9
                                have HX := Lib.hid (HNN.out (by simp [twB, hq, hkf2]))
                                have Ha := Lib.hid (HN1'.out h9a)
                                have Hb := Lib.hid (HN4.out h9b)
                                clear HN1 HN1' HN4 HN4' HNN HHE
                                go_wp2_with fail
                                go_quiet (fail)
                                go_wp2_with fail
                                go_roundw
                                case rel => exact ⟨k + 1, by go_num, by omega, (by rw [Ha.out]; first | done | rfl | go_num), (by rw [Hb.out]; first | done | rfl | go_num), HX, by first | exact KB.out | exact below_drewN KB.out _⟩
                                case measure => simp [intOf]; omega
                              · have h9b : (e.kind == 4) = false := beq_false_of_ne h9
                                clear h9
                                cases h9a : (e.kind == 1) with
                                | true =>
                                  have HX := Lib.hid (HNN.out (by simp [twB, hq, hkf2]))
                                  have Ha := Lib.hid (HN1.out h9a)
                                  have Hb := Lib.hid (HN4'.out h9b)
                                  clear HN1 HN1' HN4 HN4' HNN HHE
                                  go_wp2_with fail
                                  go_quiet (fail)
                                  go_wp2_with fail
                                  go_roundw
                                  case rel => exact ⟨k + 1, by go_num, by omega, (by rw [Ha.out]; first | done | rfl | go_num), (by rw [Hb.out]; first | done | rfl | go_num), HX, by first | exact KB.out | exact below_drewN KB.out _⟩
                                  case measure => simp [intOf]; omega
                                | false =>
                                  have HX := Lib.hid (HNN.out (by simp [twB, hq, hkf2]))
                                  have Ha := Lib.hid (HN1'.out h9a)
                                  have Hb := Lib.hid (HN4'.out h9b)
                                  clear HN1 HN1' HN4 HN4' HNN HHE
                                  go_wp2_with fail
                                  go_quiet (fail)
                                  go_wp2_with fail
                                  go_roundw
                                  case rel => exact ⟨k + 1, by go_num, by omega, (by rw [Ha.out]; first | done | rfl | go_num), (by rw [Hb.out]; first | done | rfl | go_num), HX, by first | exact KB.out | exact below_drewN KB.out _⟩
                                  case measure => simp [intOf]; omega
                          · have t1 : decide ((k : Int) < ln) = false := decide_eq_false (by omega)
                            obtain rfl : ln = k := by omega
                            have HHN := Lib.hid (has_none (by have := HLN.out; omega) HNO.out)
                            have hln : ln = l.length := HLN.out
                            have HFU := Lib.hid (show fullB l kind = (decide ((1024 : Int) ≤ ln) || (if kind = 1 then decide ((4 : Int) ≤ (ofK l 1 ln).length) else if kind = 4 then decide ((512 : Int) ≤ (ofK l 4 ln).length) else false)) by rw [hln]; rfl)
                            have tb : decide ((1024 : Int) ≤ ln) = false := decide_eq_false (by omega)
                            clear hm1 hm4 hln hqe
                            have HZ := Lib.hid (HV0.out HHN.out (by rw [HFU.out, tb, if_neg (by simpa using hk2), if_neg (by simpa using hkf2)]; rfl))
                            go_wp2_with fail
                            go_ret
                            exact ⟨(by rw [HZ.out]; try rfl), KC.out⟩
              · have hnd : isB ab l.length = false := by have := HLN.out; unfold isB; simp only [Bool.and_eq_false_iff, decide_eq_false_iff_not]; omega
                have hzk : ((zNd).kind == kind - 1) = false := beq_false_of_ne (by show (0 : Int) ≠ kind - 1; omega)
                rw [show whyF l ⟨nm, kind, ab, wt, v6, hi, lo⟩ = 16 by simp [whyF, whyZ, hnb, hk1, hk4, hw0, hw9, hk2, ndAt_none hnd, hzk]]
                clear hzk hnd
                by_cases ha0 : ab < 0
                · clear hin
                  go_enter Tryz.func40, Tryz.ntmps40
                  go_wp2_with fail
                  rw [HW1.out]
                  refine HNM.out.mono ?_
                  rintro e w' ⟨rfl, rfl⟩
                  go_wp2_with fail
                  all_goals (go_ret; exact ⟨rfl, HW.out⟩)
                · have ha1 : (ln : Int) ≤ ab := by omega
                  clear hin
                  go_enter Tryz.func40, Tryz.ntmps40
                  go_wp2_with fail
                  rw [HW1.out]
                  refine HNM.out.mono ?_
                  rintro e w' ⟨rfl, rfl⟩
                  go_wp2_with fail
                  all_goals (go_ret; exact ⟨rfl, HW.out⟩)
end Go.Proofs.YtoaboklckkcjcaaGreat.treF
/- Layer 16: the law of TreeNews. -/
namespace Go.Proofs.YtoaboklckkcjcaaGreat.treK
open Go.ChangeShapes Go.WideShapes Go.ChangeAt Go.RowKit
open Go.Proofs.YtoaboklckkcjcaaGreat.base Go.Proofs.YtoaboklckkcjcaaGreat.dfA Go.Proofs.YtoaboklckkcjcaaGreat.treA Go.Proofs.YtoaboklckkcjcaaGreat.treB Go.Proofs.YtoaboklckkcjcaaGreat.treC Go.Proofs.YtoaboklckkcjcaaGreat.treD Go.Proofs.YtoaboklckkcjcaaGreat.treE Go.Proofs.YtoaboklckkcjcaaGreat.treG Go.Proofs.YtoaboklckkcjcaaGreat.treH Go.Proofs.YtoaboklckkcjcaaGreat.treI Go.Proofs.YtoaboklckkcjcaaGreat.treJ
set_option linter.unusedVariables false

theorem rd_take {w : World} {A : Option Addr} {l : List Nd} (h : RdN w A l) (k : Nat) : RdN w A (l.take k) := by
  rcases h with h0 | ⟨b, off, h1, h2, h3⟩
  · subst h0
    exact .inl (by simp)
  · refine .inr ⟨b, off, h1, h2, fun j hj i hi => ?_⟩
    have hj2 : j < l.length := by rw [List.length_take] at hj; omega
    rw [h3 j hj2 i hi]
    simp
end Go.Proofs.YtoaboklckkcjcaaGreat.treK
/- Layer 16: the law's Made. -/
namespace Go.Proofs.YtoaboklckkcjcaaGreat.treN
open Go.ChangeShapes Go.WideShapes Go.ChangeAt Go.RowKit
open Go.Proofs.YtoaboklckkcjcaaGreat.base Go.Proofs.YtoaboklckkcjcaaGreat.dfA Go.Proofs.YtoaboklckkcjcaaGreat.treA Go.Proofs.YtoaboklckkcjcaaGreat.treB Go.Proofs.YtoaboklckkcjcaaGreat.treC Go.Proofs.YtoaboklckkcjcaaGreat.treD Go.Proofs.YtoaboklckkcjcaaGreat.treE Go.Proofs.YtoaboklckkcjcaaGreat.treG Go.Proofs.YtoaboklckkcjcaaGreat.treH Go.Proofs.YtoaboklckkcjcaaGreat.treI Go.Proofs.YtoaboklckkcjcaaGreat.treM
set_option linter.unusedVariables false

theorem good_snoc {m : List Nd} {e : Nd} (h : GoodTo m m.length) (he : whyF m e = 0) : GoodTo (m ++ [e]) (m ++ [e]).length := fun j hj hjk => by
  rcases Nat.lt_or_ge j m.length with h1 | h1
  · rw [List.take_append_of_le_length (by omega), List.getElem_append_left h1]
    exact h j h1 h1
  · have hq : j = m.length := by rw [List.length_append, List.length_singleton] at hj; omega
    subst hq
    rw [List.take_left' rfl, List.getElem_append_right (Nat.le_refl _)]
    simpa using he
theorem nm_snoc {m : List Nd} {e : Nd} (h : ∀ j (hj : j < m.length), (m[j]).nm.size ≤ 9223372036854775807) (he : e.nm.size ≤ 9223372036854775807) : ∀ j (hj : j < (m ++ [e]).length), ((m ++ [e])[j]).nm.size ≤ 9223372036854775807 := fun j hj => by
  rcases Nat.lt_or_ge j m.length with h1 | h1
  · rw [List.getElem_append_left h1]; exact h j h1
  · have hq : j = m.length := by rw [List.length_append, List.length_singleton] at hj; omega
    subst hq
    rw [List.getElem_append_right (Nat.le_refl _)]
    simpa using he
/-- What Made hands back. -/
def MadeP (w : World) (o : Ending) (w' : World) : Prop := ∃ (T : Nat) (m : List Nd) (A : Option Addr) (c : Nat), o = .returned (.tuple #[.pointer (some ⟨T, 0, none⟩), .slice A m.length c]) ∧ TreeOk w' T m ∧ RdN w' A m ∧ m.length ≤ 60 ∧ m.length ≤ c ∧ c ≤ 9223372036854775807 ∧ Below w.heap.size w w'
theorem own_n {w w' : World} {B : Nat} {v : Value} {n : Nat} {xs : List Value} (h : w.ownsRow B 67 7 v n xs) (hb : Below w.heap.size w w') : w'.ownsRow B 67 7 v n xs := own_far h fun k hk => hb.block k (h.lt k hk).2
set_option maxRecDepth 100000 in
set_option maxHeartbeats 16000000 in
theorem made_any (A : Option Addr) (n c : Nat) (l : List Nd) (w : World) (hr : RdN w A l) (hl : l.length ≤ 60) (hcap : l.length ≤ c) (hcap2 : c ≤ 9223372036854775807) (hnm : ∀ j (hj : j < l.length), (l[j]).nm.size ≤ 9223372036854775807)
    (hfew : ∀ W', Calls Tryz.prog 39 #[.slice A n c] W' fun o w' => o = .returned (.slice A l.length c) ∧ Below W'.heap.size W' w') :
    Calls Tryz.prog 9 #[.slice A n c] w (MadeP w) := by
  obtain ⟨i0, hi0, hz0, hz1, hz2⟩ := info_parts info_n
  have HI0 := Lib.hid hi0
  have HZ0 := Lib.hid hz0
  have HZ1 := Lib.hid hz1
  have HZ2 := Lib.hid hz2
  have HR := Lib.hid hr
  have HNM := Lib.hid hnm
  have HFW := Lib.hid (hfew w)
  obtain ⟨ln, hln⟩ : ∃ ln, ln = l.length := ⟨_, rfl⟩
  have HLN := Lib.hid hln
  rw [← hln] at hl hcap HFW
  clear hi0 hz0 hz1 hz2 hr hnm hfew hln
  go_enter Tryz.func9, Tryz.ntmps9
  go_wp2_with fail
  refine HFW.out.mono ?_
  rintro o w1 ⟨rfl, hb1⟩
  have B1 := Lib.hid hb1
  clear hb1
  go_wp2_with fail
  go_loopw [4, 5] (fun v i wr => ∃ (k : Nat) (m : List Nd), i = .int .i64 k ∧ k ≤ ln ∧ wr.ownsRow w.heap.size 67 7 v m.length (flatN m) ∧ m.length ≤ k ∧ GoodTo m m.length ∧ (∀ j (hj : j < m.length), (m[j]).nm.size ≤ 9223372036854775807) ∧ Below w.heap.size w wr) (fun _ i _ => ln - (intOf i).toNat)
  case atStart => exact ⟨0, [], rfl, by omega, World.ownsRow_nil _ _ _ 7, by simp, (fun j hj => by simp at hj), (fun j hj => by simp at hj), B1.out⟩
  case round =>
    obtain ⟨k, m, rfl, hk, hown, hmk, hgood, hmnm, hbel⟩ := hrel
    obtain ⟨A2, c2, rfl, hm1, hm2, hrd⟩ := rdN_own hown
    have KO := Lib.hid hown
    have KG := Lib.hid hgood
    have KN := Lib.hid hmnm
    have KB := Lib.hid hbel
    have KR := Lib.hid hrd
    clear hown hgood hmnm hbel hrd
    by_cases hkn : k < ln
    · have t1 : decide ((k : Int) < ln) = true := decide_eq_true (by omega)
      have hjl : k < l.length := HLN.out ▸ hkn
      obtain ⟨b, off, hA, hbl, hC⟩ := (HR.out.below KB.out).at_ k hjl
      subst hA
      have HNK := Lib.hid (HNM.out k hjl)
      obtain ⟨e, he⟩ : ∃ e, e = l[k] := ⟨_, rfl⟩
      rw [← he] at hC HNK
      have d0 : wr.cell? ⟨b, off + k * 7, none⟩ = some (.string e.nm) := hC 0 (by omega)
      have d1 : wr.cell? ⟨b, off + k * 7 + 1, none⟩ = some (.int .i64 e.kind) := hC 1 (by omega)
      have d2 : wr.cell? ⟨b, off + k * 7 + 2, none⟩ = some (.int .i64 e.ab) := hC 2 (by omega)
      have d3 : wr.cell? ⟨b, off + k * 7 + 3, none⟩ = some (.int .i64 e.wt) := hC 3 (by omega)
      have d4 : wr.cell? ⟨b, off + k * 7 + 4, none⟩ = some (.bool e.v6) := hC 4 (by omega)
      have d5 : wr.cell? ⟨b, off + k * 7 + 5, none⟩ = some (.int .u64 e.hi) := hC 5 (by omega)
      have d6 : wr.cell? ⟨b, off + k * 7 + 6, none⟩ = some (.int .u64 e.lo) := hC 6 (by omega)
      have j0 : (0 : Int) ≤ k := by omega
      have j1 : (k : Int) < ln := by omega
      have HWH := Lib.hid (show Calls Tryz.prog 40 #[.agg e.cells, .slice A2 m.length c2] wr fun o w' => o = .returned (.int .i64 (whyF m e)) ∧ Below wr.heap.size wr w' from treF.lawwhy_any A2 c2 m wr e KR.out (by omega) (by omega) hm2 HNK.out)
      have HC := Lib.hid (show ∀ W, Below wr.heap.size wr W → (W.cell? ⟨b, off + k * 7, none⟩ = some (.string e.nm) ∧ W.cell? ⟨b, off + k * 7 + 1, none⟩ = some (.int .i64 e.kind) ∧ W.cell? ⟨b, off + k * 7 + 2, none⟩ = some (.int .i64 e.ab) ∧ W.cell? ⟨b, off + k * 7 + 3, none⟩ = some (.int .i64 e.wt) ∧ W.cell? ⟨b, off + k * 7 + 4, none⟩ = some (.bool e.v6) ∧ W.cell? ⟨b, off + k * 7 + 5, none⟩ = some (.int .u64 e.hi) ∧ W.cell? ⟨b, off + k * 7 + 6, none⟩ = some (.int .u64 e.lo)) from fun W hb => by
        have hc := fun i hi => ((hb.cell (p := ⟨b, off + k * 7 + i, none⟩) hbl).trans (hC i hi))
        exact ⟨hc 0 (by omega), hc 1 (by omega), hc 2 (by omega), hc 3 (by omega), hc 4 (by omega), hc 5 (by omega), hc 6 (by omega)⟩)
      unfold Nd.cells at HWH
      obtain ⟨q, hq⟩ : ∃ q, q = whyF m e := ⟨_, rfl⟩
      have HQ := Lib.hid hq
      rw [← hq] at HWH
      clear hC he hq
      go_wp2_with fail
      refine HWH.out.mono ?_
      rintro o w3 ⟨rfl, hb3⟩
      have B3 := Lib.hid (KB.out.trans (hb3.mono KB.out.size))
      have KO3 := Lib.hid (own_n KO.out hb3)
      clear d0 d1 d2 d3 d4 d5 d6
      obtain ⟨d0, d1, d2, d3, d4, d5, d6⟩ := HC.out _ hb3
      clear hb3
      by_cases hq0 : q = 0
      · subst hq0
        have BA := Lib.hid (show Below w3.heap.size w3 (w3.alloc (.cells #[.string e.nm, .int .i64 e.kind, .int .i64 e.ab, .int .i64 e.wt, .bool e.v6, .int .u64 e.hi, .int .u64 e.lo] 67)) from (Below.refl _ _).alloc (Nat.le_refl _) _)
        have B4 := Lib.hid (B3.out.trans (BA.out.mono B3.out.size))
        have KO4 := Lib.hid (own_n KO3.out BA.out)
        have HNE := Lib.hid (show ∀ p u, e.cells.toList[p]? = some u → (w3.alloc (.cells #[.string e.nm, .int .i64 e.kind, .int .i64 e.ab, .int .i64 e.wt, .bool e.v6, .int .u64 e.hi, .int .u64 e.lo] 67)).cell? ((⟨w3.heap.size, 0, none⟩ : Addr).add p) = some u from fun p u hu => by
          have h3 : (w3.alloc (.cells #[.string e.nm, .int .i64 e.kind, .int .i64 e.ab, .int .i64 e.wt, .bool e.v6, .int .u64 e.hi, .int .u64 e.lo] 67)).cell? ⟨w3.heap.size, p, none⟩ = (#[.string e.nm, .int .i64 e.kind, .int .i64 e.ab, .int .i64 e.wt, .bool e.v6, .int .u64 e.hi, .int .u64 e.lo])[p]? := (Blk.new w3 67 #[.string e.nm, .int .i64 e.kind, .int .i64 e.ab, .int .i64 e.wt, .bool e.v6, .int .u64 e.hi, .int .u64 e.lo]).cell p
          rw [Addr.add_lit, Nat.zero_add, h3]
          have h2 : e.cells[p]? = some u := by simpa using hu
          exact h2)
        have P1 := Lib.hid (show m.length + 1 ≤ maxLen by unfold maxLen; omega)
        have P2 := Lib.hid (show (m.length + 1) * 64 ≤ 140737488355328 by omega)
        have P3 := Lib.hid (show w.heap.size ≤ (w3.alloc (.cells #[.string e.nm, .int .i64 e.kind, .int .i64 e.ab, .int .i64 e.wt, .bool e.v6, .int .u64 e.hi, .int .u64 e.lo] 67)).heap.size from B4.out.size)
        have KGS := Lib.hid (good_snoc KG.out HQ.out.symm)
        have KNS := Lib.hid (nm_snoc KN.out HNK.out)
        go_wp2_with (at_builtin; refine wpList_append_own _ rfl (.tmp 24) (.tmp 29) _ rfl w.heap.size 67 i0 _ 7 64 Tryz.underlying22 HI0.out HZ0.out HZ1.out HZ2.out rfl (by omega) (.slice A2 m.length c2) m.length (flatN m) rfl KO4.out ⟨w3.heap.size, 0, none⟩ 1 1 e.cells.toList rfl rfl HNE.out (one_n1 e) P1.out P2.out P3.out ?_; intro v6 w6 ho hg _; have HO1 := Lib.hid (show w6.ownsRow w.heap.size 67 7 v6 (m ++ [e]).length (flatN (m ++ [e])) by rw [flatN_snoc, List.length_append]; exact ho); have HB1 := Lib.hid (B4.out.grown hg P3.out (fun k hk => (KO4.out.lt k hk).1)); clear ho hg)
        go_roundw
        case rel => exact ⟨k + 1, m ++ [e], by go_num, by omega, HO1.out, by rw [List.length_append, List.length_singleton]; omega, KGS.out, KNS.out, HB1.out⟩
        case measure => simp [intOf]; omega
      · have q0 : (q == 0) = false := beq_false_of_ne hq0
        clear hq0
        go_wp2_with fail
        go_roundw
        case rel => exact ⟨k + 1, m, by go_num, by omega, KO3.out, by omega, KG.out, KN.out, B3.out⟩
        case measure => simp [intOf]; omega
    · have t1 : decide ((k : Int) < ln) = false := decide_eq_false (by omega)
      obtain rfl : ln = k := by omega
      have HNW := Lib.hid (new_any A2 c2 m wr KR.out (by omega) (by omega) hm2 KN.out)
      go_wp2_with fail
      refine HNW.out.mono ?_
      rintro o w3 ⟨hp, hb3⟩
      have B3 := Lib.hid (KB.out.trans (hb3.mono KB.out.size))
      have KR3 := Lib.hid (KR.out.below hb3)
      rcases hp with ⟨i, hi, _, hb, rfl⟩ | ⟨hg, nv, kv, ks, rfl, hgr⟩
      · exact absurd (KG.out i hi hi) hb
      · have HT := Lib.hid (show TreeOk w3 wr.heap.size m from ⟨⟨nv, kv, ks, hgr⟩, KG.out, by omega⟩)
        clear hg hgr hb3
        go_wp2_with fail
        go_ret2
        exact ⟨wr.heap.size, m, A2, c2, rfl, HT.out, KR3.out, by omega, hm1, hm2, B3.out⟩
end Go.Proofs.YtoaboklckkcjcaaGreat.treN
/- Layer 23: the chapter's example; the law of EligWeighs. -/
namespace Go.Proofs.YtoaboklckkcjcaaGreat.eliD
open Go.ChangeShapes Go.WideShapes Go.ChangeAt Go.RowKit
open Go.Proofs.YtoaboklckkcjcaaGreat.base Go.Proofs.YtoaboklckkcjcaaGreat.dfA Go.Proofs.YtoaboklckkcjcaaGreat.treA Go.Proofs.YtoaboklckkcjcaaGreat.treB Go.Proofs.YtoaboklckkcjcaaGreat.treC Go.Proofs.YtoaboklckkcjcaaGreat.treD Go.Proofs.YtoaboklckkcjcaaGreat.treE Go.Proofs.YtoaboklckkcjcaaGreat.treG Go.Proofs.YtoaboklckkcjcaaGreat.treH Go.Proofs.YtoaboklckkcjcaaGreat.treI Go.Proofs.YtoaboklckkcjcaaGreat.treM Go.Proofs.YtoaboklckkcjcaaGreat.treN Go.Proofs.YtoaboklckkcjcaaGreat.treW Go.Proofs.YtoaboklckkcjcaaGreat.treP Go.Proofs.YtoaboklckkcjcaaGreat.eliW Go.Proofs.YtoaboklckkcjcaaGreat.eliA Go.Proofs.YtoaboklckkcjcaaGreat.eliB Go.Proofs.YtoaboklckkcjcaaGreat.eliC
set_option linter.unusedVariables false

def ex0 : Nd := ⟨⟨#[108]⟩, 1, -1, 0, false, 0, 0⟩
def ex1 : Nd := ⟨⟨#[122]⟩, 2, 0, 9, false, 0, 0⟩
def ex2 : Nd := ⟨⟨#[114]⟩, 3, 1, 0, false, 0, 0⟩
def ex3 : Nd := ⟨⟨#[104]⟩, 4, 2, 5, false, 0, 0⟩
def exL : List Nd := [ex0, ex1, ex2, ex3]
theorem ex_good : GoodTo exL exL.length := fun j hj _ => by
  have hj4 : j < 4 := hj
  have hc : j = 0 ∨ j = 1 ∨ j = 2 ∨ j = 3 := by omega
  rcases hc with rfl | rfl | rfl | rfl
  · exact (show whyF [] ex0 = 0 by kernel_rfl)
  · exact (show whyF [ex0] ex1 = 0 by kernel_rfl)
  · exact (show whyF [ex0, ex1] ex2 = 0 by kernel_rfl)
  · exact (show whyF [ex0, ex1, ex2] ex3 = 0 by kernel_rfl)
theorem ex_w0 : wtOf exL (F exL []) 1 = 0 := by kernel_rfl
theorem ex_w1 : wtOf exL (F exL [3]) 1 = 9 := by kernel_rfl
theorem ex_w2 : wtOf exL (F exL [3]) 2 = 5 := by kernel_rfl
theorem ex_w3 : (wtOf exL (F exL [3]) 0 != 0) = true := by kernel_rfl
end Go.Proofs.YtoaboklckkcjcaaGreat.eliD
