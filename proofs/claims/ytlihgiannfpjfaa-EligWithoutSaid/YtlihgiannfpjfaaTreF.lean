/- Layer 16: why a node may not stand behind others, as the law says it. -/
import Derived.Test.YtlihgiannfpjfaaTreE
namespace Go.Proofs.Ytlihgiannfpjfaa.treF
open Go.ChangeShapes Go.WideShapes Go.ChangeAt Go.RowKit
open Go.Proofs.Ytlihgiannfpjfaa.base Go.Proofs.Ytlihgiannfpjfaa.dfA Go.Proofs.Ytlihgiannfpjfaa.treA Go.Proofs.Ytlihgiannfpjfaa.treB Go.Proofs.Ytlihgiannfpjfaa.treC Go.Proofs.Ytlihgiannfpjfaa.treD Go.Proofs.Ytlihgiannfpjfaa.treE
set_option linter.unusedVariables false

theorem addr_eq (a : Bool) (b c : Int) (v6 : Bool) (hi lo : Int) (W : World) : (binOp .eql 42 (.agg #[.bool a, .int .u64 b, .int .u64 c]) (.agg #[.bool v6, .int .u64 hi, .int .u64 lo])).run Try.prog W = .ok (.bool (a == v6 && b == hi && c == lo)) W := by
  cases e0 : (a == v6) <;> cases e1 : (b == hi) <;> cases e2 : (c == lo) <;> go_simp <;> simp [e0, e1, e2]
/-- Why a node may not stand behind nodes l, if there is room for it or not. -/
def whyF (l : List Nd) (n : Nd) : Int := if whyZ l n = 0 then (if fullB l n.kind = true then 6 else 0) else whyZ l n
theorem ofK_one {l : List Nd} {kind : Int} {j : Nat} (hj : j < l.length) (h : (l[j].kind == kind) = true) : (ofK l kind (j + 1)).length = (ofK l kind j).length + 1 := by
  rw [ofK_next hj, if_pos h, List.length_append]; rfl
theorem ofK_same {l : List Nd} {kind : Int} {j : Nat} (hj : j < l.length) (h : (l[j].kind == kind) = false) : (ofK l kind (j + 1)).length = (ofK l kind j).length := by
  rw [ofK_next hj, if_neg (by rw [h]; decide), List.append_nil]
set_option maxRecDepth 100000 in
set_option maxHeartbeats 32000000 in
theorem lawwhy_any (A : Option Addr) (c : Nat) (l : List Nd) (w : World) (n : Nd) (hr : RdN w A l) (hl : l.length ≤ 1000) (hcap : l.length ≤ c) (hcap2 : c ≤ 9223372036854775807) (hnm : n.nm.size ≤ 9223372036854775807) :
    Calls Try.prog 22 #[.agg n.cells, .slice A l.length c] w fun o w' => o = .returned (.int .i64 (whyF l n)) ∧ Below w.heap.size w w' := by
  obtain ⟨nm, kind, ab, wt, v6, hi, lo⟩ := n
  obtain ⟨w1, hw1⟩ : ∃ w1, w1 = (w.alloc (.cells #[.string nm, .int .i64 kind, .int .i64 ab, .int .i64 wt, .bool v6, .int .u64 hi, .int .u64 lo] 44)) := ⟨_, rfl⟩
  have HW := Lib.hid (show Below w.heap.size w w1 from hw1 ▸ (Below.refl w.heap.size w).alloc (Nat.le_refl _) _)
  have HB1 := Lib.hid (show Blk w1 w.heap.size 44 #[.string nm, .int .i64 kind, .int .i64 ab, .int .i64 wt, .bool v6, .int .u64 hi, .int .u64 lo] from hw1 ▸ Blk.new w _ _)
  have HRD := Lib.hid (show ∀ W, Below w1.heap.size w1 W → RdN W A l from fun W hb => (hr.below HW.out).below hb)
  have HW1 := Lib.hid (show (w.alloc (.cells #[.string nm, .int .i64 kind, .int .i64 ab, .int .i64 wt, .bool v6, .int .u64 hi, .int .u64 lo] 44)) = w1 from hw1.symm)
  have HNM := Lib.hid (lawname_any nm w1 hnm)
  have HRT := Lib.hid (right_any v6 hi lo)
  have HBX := Lib.hid (show ∀ W, Below w1.heap.size w1 W → (W.cell? ⟨w.heap.size, 0, none⟩ = some (.string nm) ∧ W.cell? ⟨w.heap.size, 1, none⟩ = some (.int .i64 kind) ∧ W.cell? ⟨w.heap.size, 2, none⟩ = some (.int .i64 ab) ∧ W.cell? ⟨w.heap.size, 3, none⟩ = some (.int .i64 wt) ∧ W.cell? ⟨w.heap.size, 4, none⟩ = some (.bool v6) ∧ W.cell? ⟨w.heap.size, 5, none⟩ = some (.int .u64 hi) ∧ W.cell? ⟨w.heap.size, 6, none⟩ = some (.int .u64 lo)) from fun W hb => by
    have h1 : Blk W w.heap.size 44 #[.string nm, .int .i64 kind, .int .i64 ab, .int .i64 wt, .bool v6, .int .u64 hi, .int .u64 lo] := (hb.block _ HB1.out.lt).trans HB1.out
    exact ⟨h1.cell 0, h1.cell 1, h1.cell 2, h1.cell 3, h1.cell 4, h1.cell 5, h1.cell 6⟩)
  have hne := fun W => addr_ne v6 hi lo W
  have hqe := fun a b c W => addr_eq a b c v6 hi lo W
  obtain ⟨b0, b1, b2, b3, b4, b5, b6⟩ := HBX.out w1 (Below.refl _ _)
  unfold Nd.cells
  obtain ⟨ln, hln⟩ : ∃ ln, ln = l.length := ⟨_, rfl⟩
  have HLN := Lib.hid hln
  rw [← hln] at hl hcap ⊢
  clear hr hw1 hln
  cases hnb : nameB nm with
  | false =>
    rw [show whyF l ⟨nm, kind, ab, wt, v6, hi, lo⟩ = 1 by simp [whyF, whyZ, hnb]]
    rw [hnb] at HNM
    go_enter Try.func22, Try.ntmps22
    go_wp2_with fail
    rw [HW1.out]
    refine HNM.out.mono ?_
    rintro e w' ⟨rfl, rfl⟩
    go_wp2_with fail
    all_goals (go_ret; exact ⟨rfl, HW.out⟩)
  | true =>
    rw [hnb] at HNM
    by_cases hk1 : kind < 1
    · rw [show whyF l ⟨nm, kind, ab, wt, v6, hi, lo⟩ = 1 by simp [whyF, whyZ, hnb, hk1]]
      go_enter Try.func22, Try.ntmps22
      go_wp2_with fail
      rw [HW1.out]
      refine HNM.out.mono ?_
      rintro e w' ⟨rfl, rfl⟩
      go_wp2_with fail
      all_goals (go_ret; exact ⟨rfl, HW.out⟩)
    · by_cases hk4 : 4 < kind
      · rw [show whyF l ⟨nm, kind, ab, wt, v6, hi, lo⟩ = 1 by simp [whyF, whyZ, hnb, hk4]]
        go_enter Try.func22, Try.ntmps22
        go_wp2_with fail
        rw [HW1.out]
        refine HNM.out.mono ?_
        rintro e w' ⟨rfl, rfl⟩
        go_wp2_with fail
        all_goals (go_ret; exact ⟨rfl, HW.out⟩)
      · by_cases hw0 : wt < 0
        · rw [show whyF l ⟨nm, kind, ab, wt, v6, hi, lo⟩ = 17 by simp [whyF, whyZ, hnb, hk1, hk4, hw0]]
          go_enter Try.func22, Try.ntmps22
          go_wp2_with fail
          rw [HW1.out]
          refine HNM.out.mono ?_
          rintro e w' ⟨rfl, rfl⟩
          go_wp2_with fail
          all_goals (go_ret; exact ⟨rfl, HW.out⟩)
        · by_cases hw9 : 65535 < wt
          · rw [show whyF l ⟨nm, kind, ab, wt, v6, hi, lo⟩ = 17 by simp [whyF, whyZ, hnb, hk1, hk4, hw0, hw9]]
            go_enter Try.func22, Try.ntmps22
            go_wp2_with fail
            rw [HW1.out]
            refine HNM.out.mono ?_
            rintro e w' ⟨rfl, rfl⟩
            go_wp2_with fail
            all_goals (go_ret; exact ⟨rfl, HW.out⟩)
          · by_cases hk : kind = 1
            · subst hk
              by_cases hwz : wt = 0
              · subst hwz
                by_cases hab : ab = -1
                · subst hab
                  cases hr : rightB v6 hi lo with
                  | false =>
                    rw [hr] at HRT
                    rw [show whyF l ⟨nm, 1, -1, 0, v6, hi, lo⟩ = 18 by simp [whyF, whyZ, hnb, hr]]
                    go_enter Try.func22, Try.ntmps22
                    go_wp2_with fail
                    rw [HW1.out]
                    refine HNM.out.mono ?_
                    rintro e w' ⟨rfl, rfl⟩
                    go_wp2_with fail
                    go_quiet (fail)
                    go_wp2_with fail
                    refine (HRT.out _).mono ?_
                    rintro e w6 ⟨rfl, hb6⟩
                    have B6 := Lib.hid ((below_drewN (Below.refl w1.heap.size w1) _).trans (hb6.mono (Nat.le_refl _)))
                    have C6 := Lib.hid (HW.out.trans (B6.out.mono HW.out.size))
                    obtain ⟨z0, z1, z2, z3, z4, z5, z6⟩ := HBX.out _ B6.out
                    clear hb6
                    go_wp2_with fail
                    go_ret
                    exact ⟨rfl, C6.out⟩
                  | true =>
                    rw [hr] at HRT
                    cases hnz : nzA v6 hi lo with
                    | true =>
                      rw [hnz] at hne
                      rw [show whyF l ⟨nm, 1, -1, 0, v6, hi, lo⟩ = 18 by simp [whyF, whyZ, hnb, hr, hnz]]
                      go_enter Try.func22, Try.ntmps22
                      go_wp2_with fail
                      rw [HW1.out]
                      refine HNM.out.mono ?_
                      rintro e w' ⟨rfl, rfl⟩
                      go_wp2_with fail
                      go_quiet (fail)
                      go_wp2_with fail
                      refine (HRT.out _).mono ?_
                      rintro e w6 ⟨rfl, hb6⟩
                      have B6 := Lib.hid ((below_drewN (Below.refl w1.heap.size w1) _).trans (hb6.mono (Nat.le_refl _)))
                      have C6 := Lib.hid (HW.out.trans (B6.out.mono HW.out.size))
                      obtain ⟨z0, z1, z2, z3, z4, z5, z6⟩ := HBX.out _ B6.out
                      clear hb6
                      go_wp2_with fail
                      go_ret
                      exact ⟨rfl, C6.out⟩
                    | false =>
                      rw [hnz] at hne
                      have HV8 := Lib.hid (fun (hh : hasB l ⟨nm, 1, -1, 0, v6, hi, lo⟩ = true) => show whyF l ⟨nm, 1, -1, 0, v6, hi, lo⟩ = 8 by simp [whyF, whyZ, hnb, hr, hnz, hh])
                      have HV6 := Lib.hid (fun (hh : hasB l ⟨nm, 1, -1, 0, v6, hi, lo⟩ = false) (h7 : fullB l 1 = true) => show whyF l ⟨nm, 1, -1, 0, v6, hi, lo⟩ = 6 by simp [whyF, whyZ, hnb, hr, hnz, hh, h7])
                      have HV0 := Lib.hid (fun (hh : hasB l ⟨nm, 1, -1, 0, v6, hi, lo⟩ = false) (h7 : fullB l 1 = false) => show whyF l ⟨nm, 1, -1, 0, v6, hi, lo⟩ = 0 by simp [whyF, whyZ, hnb, hr, hnz, hh, h7])
                      go_enter Try.func22, Try.ntmps22
                      go_wp2_with fail
                      rw [HW1.out]
                      refine HNM.out.mono ?_
                      rintro e w' ⟨rfl, rfl⟩
                      go_wp2_with fail
                      go_quiet (fail)
                      go_wp2_with fail
                      refine (HRT.out _).mono ?_
                      rintro e w6 ⟨rfl, hb6⟩
                      have B6 := Lib.hid ((below_drewN (Below.refl w1.heap.size w1) _).trans (hb6.mono (Nat.le_refl _)))
                      have C6 := Lib.hid (HW.out.trans (B6.out.mono HW.out.size))
                      obtain ⟨z0, z1, z2, z3, z4, z5, z6⟩ := HBX.out _ B6.out
                      clear hb6
                      go_wp2_with fail
                      clear b0 b1 b2 b3 b4 b5 b6 z0 z1 z2 z3 z4 z5 z6
                      go_loopw [5, 6, 7] (fun m1 m4 i wr => ∃ k : Nat, i = .int .i64 k ∧ k ≤ ln ∧ m1 = .int .i64 (ofK l 1 k).length ∧ m4 = .int .i64 (ofK l 4 k).length ∧ Hid (noTo l ⟨nm, 1, -1, 0, v6, hi, lo⟩ k) ∧ Below w1.heap.size w1 wr) (fun _ _ i _ => ln - (intOf i).toNat)
                      case atStart => exact ⟨0, rfl, by omega, rfl, rfl, Lib.hid (by unfold noTo hasB; rfl), B6.out⟩
                      case round =>
                        obtain ⟨k, rfl, hkl, rfl, rfl, HNO, hbel⟩ := hrel
                        have KB := Lib.hid hbel
                        have KC := Lib.hid (HW.out.trans (hbel.mono HW.out.size))
                        obtain ⟨x0, x1, x2, x3, x4, x5, x6⟩ := HBX.out _ hbel
                        clear hbel
                        have hm1 : (ofK l 1 k).length ≤ k := ofK_len l 1 k
                        have hm4 : (ofK l 4 k).length ≤ k := ofK_len l 4 k
                        by_cases hkn : k < ln
                        · have t1 : decide ((k : Int) < ln) = true := decide_eq_true (by omega)
                          have hjl : k < l.length := HLN.out ▸ hkn
                          obtain ⟨b, off, hA, hbl, hC⟩ := (HRD.out _ KB.out).at_ k hjl
                          subst hA
                          have HN1 := Lib.hid (fun h => ofK_one (kind := 1) hjl h)
                          have HN1' := Lib.hid (fun h => ofK_same (kind := 1) hjl h)
                          have HN4 := Lib.hid (fun h => ofK_one (kind := 4) hjl h)
                          have HN4' := Lib.hid (fun h => ofK_same (kind := 4) hjl h)
                          have HNN := Lib.hid (fun h => noTo_next hjl HNO.out h)
                          have HHE := Lib.hid (fun h => has_here (n := ⟨nm, 1, -1, 0, v6, hi, lo⟩) hjl h)
                          obtain ⟨e, he⟩ : ∃ e, e = l[k] := ⟨_, rfl⟩
                          rw [← he] at hC HN1 HN1' HN4 HN4' HNN HHE
                          have d0 : wr.cell? ⟨b, off + k * 7, none⟩ = some (.string e.nm) := hC 0 (by omega)
                          have d1 : wr.cell? ⟨b, off + k * 7 + 1, none⟩ = some (.int .i64 e.kind) := hC 1 (by omega)
                          have d4 : wr.cell? ⟨b, off + k * 7 + 4, none⟩ = some (.bool e.v6) := hC 4 (by omega)
                          have d5 : wr.cell? ⟨b, off + k * 7 + 5, none⟩ = some (.int .u64 e.hi) := hC 5 (by omega)
                          have d6 : wr.cell? ⟨b, off + k * 7 + 6, none⟩ = some (.int .u64 e.lo) := hC 6 (by omega)
                          have j0 : (0 : Int) ≤ k := by omega
                          have j1 : (k : Int) < ln := by omega
                          have hqe1 := hqe e.v6 e.hi e.lo
                          have M1 := Lib.hid hm1
                          have M4 := Lib.hid hm4
                          have g1 : ((ofK l 1 k).length : Int) ≤ 1000 := by omega
                          have g4 : ((ofK l 4 k).length : Int) ≤ 1000 := by omega
                          clear hC he hm1 hm4 hqe
                          cases hq : (e.nm.toList == nm.toList) with
                          | true =>
                            have HZ := Lib.hid (HV8.out (HHE.out (by simp [twB, hq])))
                            go_wp2_with fail
                            go_quiet (fail)
                            go_wp2_with fail
                            go_ret
                            exact ⟨(by rw [HZ.out]; try rfl), by first | exact KC.out | exact below_drewN KC.out _⟩
                          | false =>
                            by_cases h9 : e.kind = 4
                            · have h9b : (e.kind == 4) = true := by simp [h9]
                              have h9a : (e.kind == 1) = false := by simp [h9]
                              clear h9
                              have HX := Lib.hid (HNN.out (by simp [twB, hq]))
                              have Ha := Lib.hid (HN1'.out h9a)
                              have Hb := Lib.hid (HN4.out h9b)
                              clear HN1 HN1' HN4 HN4' HNN HHE
                              go_wp2_with fail
                              go_quiet (fail)
                              go_wp2_with fail
                              go_roundw
                              case rel => exact ⟨k + 1, by go_num, by omega, (by rw [Ha.out]; first | done | rfl | go_num), (by rw [Hb.out]; first | done | rfl | go_num), HX, by first | exact KB.out | exact below_drewN KB.out _⟩
                              case measure => simp [intOf]; omega
                            · have h9b : (e.kind == 4) = false := beq_false_of_ne h9
                              clear h9
                              cases h9a : (e.kind == 1) with
                              | true =>
                                have HX := Lib.hid (HNN.out (by simp [twB, hq]))
                                have Ha := Lib.hid (HN1.out h9a)
                                have Hb := Lib.hid (HN4'.out h9b)
                                clear HN1 HN1' HN4 HN4' HNN HHE
                                go_wp2_with fail
                                go_quiet (fail)
                                go_wp2_with fail
                                go_roundw
                                case rel => exact ⟨k + 1, by go_num, by omega, (by rw [Ha.out]; first | done | rfl | go_num), (by rw [Hb.out]; first | done | rfl | go_num), HX, by first | exact KB.out | exact below_drewN KB.out _⟩
                                case measure => simp [intOf]; omega
                              | false =>
                                have HX := Lib.hid (HNN.out (by simp [twB, hq]))
                                have Ha := Lib.hid (HN1'.out h9a)
                                have Hb := Lib.hid (HN4'.out h9b)
                                clear HN1 HN1' HN4 HN4' HNN HHE
                                go_wp2_with fail
                                go_quiet (fail)
                                go_wp2_with fail
                                go_roundw
                                case rel => exact ⟨k + 1, by go_num, by omega, (by rw [Ha.out]; first | done | rfl | go_num), (by rw [Hb.out]; first | done | rfl | go_num), HX, by first | exact KB.out | exact below_drewN KB.out _⟩
                                case measure => simp [intOf]; omega
                        · have t1 : decide ((k : Int) < ln) = false := decide_eq_false (by omega)
                          obtain rfl : ln = k := by omega
                          have HHN := Lib.hid (has_none (by have := HLN.out; omega) HNO.out)
                          have hln : ln = l.length := HLN.out
                          have HFU := Lib.hid (show fullB l 1 = (decide ((1024 : Int) ≤ ln) || (if 1 = 1 then decide ((4 : Int) ≤ (ofK l 1 ln).length) else if 1 = 4 then decide ((512 : Int) ≤ (ofK l 4 ln).length) else false)) by rw [hln]; rfl)
                          have tb : decide ((1024 : Int) ≤ ln) = false := decide_eq_false (by omega)
                          clear hm1 hm4 hln hqe
                          cases hfl : decide ((4 : Int) ≤ (ofK l 1 ln).length) with
                          | true =>
                            have HZ := Lib.hid (HV6.out HHN.out (by rw [HFU.out, tb, if_pos rfl, hfl]; rfl))
                            go_wp2_with fail
                            go_ret
                            exact ⟨(by rw [HZ.out]; try rfl), KC.out⟩
                          | false =>
                            have HZ := Lib.hid (HV0.out HHN.out (by rw [HFU.out, tb, if_pos rfl, hfl]; rfl))
                            go_wp2_with fail
                            go_ret
                            exact ⟨(by rw [HZ.out]; try rfl), KC.out⟩
                · rw [show whyF l ⟨nm, 1, ab, 0, v6, hi, lo⟩ = 16 by simp [whyF, whyZ, hnb, hab]]
                  have hab2 : (ab == -1) = false := beq_false_of_ne hab
                  have hab3 : (ab != -1) = true := by simp [hab]
                  clear hab
                  go_enter Try.func22, Try.ntmps22
                  go_wp2_with fail
                  rw [HW1.out]
                  refine HNM.out.mono ?_
                  rintro e w' ⟨rfl, rfl⟩
                  go_wp2_with fail
                  all_goals (go_ret; exact ⟨rfl, HW.out⟩)
              · rw [show whyF l ⟨nm, 1, ab, wt, v6, hi, lo⟩ = 17 by simp [whyF, whyZ, hnb, hw0, hw9, hwz]]
                have hwz2 : (wt == 0) = false := beq_false_of_ne hwz
                have hwz3 : (wt != 0) = true := by simp [hwz]
                clear hwz
                go_enter Try.func22, Try.ntmps22
                go_wp2_with fail
                rw [HW1.out]
                refine HNM.out.mono ?_
                rintro e w' ⟨rfl, rfl⟩
                go_wp2_with fail
                all_goals (go_ret; exact ⟨rfl, HW.out⟩)
            · have hk2 : (kind == 1) = false := beq_false_of_ne hk
              have hk3 : (kind != 1) = true := by simp [hk]
              have hkg : (1 : Int) < kind := by omega
              have hwr : IntKind.i64.wrap (kind - 1) = kind - 1 := by rw [IntWalk.i64_in _ (by omega)]
              by_cases hin : 0 ≤ ab ∧ ab < ln
              · obtain ⟨j, rfl⟩ : ∃ j : Nat, ab = (j : Int) := ⟨ab.toNat, by omega⟩
                have hj : j < l.length := by have := HLN.out; omega
                have HND := Lib.hid (show ndAt l (j : Int) = l[j] by
                  unfold ndAt isB
                  rw [if_pos (by simp; omega), Int.toNat_natCast, List.getD_eq_getElem?_getD, List.getElem?_eq_getElem hj]
                  rfl)
                obtain ⟨b, off, hA, hbl, hC⟩ := (HRD.out _ (Below.refl _ _)).at_ j hj
                subst hA
                obtain ⟨y, hy⟩ : ∃ y, y = l[j] := ⟨_, rfl⟩
                rw [← hy] at hC HND
                have d1 : w1.cell? ⟨b, off + j * 7 + 1, none⟩ = some (.int .i64 y.kind) := hC 1 (by omega)
                have j0 : (0 : Int) ≤ j := by omega
                have j1 : (j : Int) < ln := by omega
                clear hC hy hin
                cases hyk : (y.kind == kind - 1) with
                | false =>
                  have hyk3 : (y.kind != kind - 1) = true := by simp [bne, hyk]
                  rw [show whyF l ⟨nm, kind, (j : Int), wt, v6, hi, lo⟩ = 16 by simp [whyF, whyZ, hnb, hk1, hk4, hw0, hw9, hk2, HND.out, hyk]]
                  go_enter Try.func22, Try.ntmps22
                  go_wp2_with fail
                  rw [HW1.out]
                  refine HNM.out.mono ?_
                  rintro e w' ⟨rfl, rfl⟩
                  go_wp2_with fail
                  go_quiet (fail)
                  go_wp2_with fail
                  go_ret
                  exact ⟨rfl, below_drewN HW.out _⟩
                | true =>
                  have hyk3 : (y.kind != kind - 1) = false := by simp [bne, hyk]
                  have HYK := Lib.hid (show ((ndAt l (j : Int)).kind == kind - 1) = true by rw [HND.out]; exact hyk)
                  by_cases hkf : kind = 4
                  · have hkf2 : (kind == 4) = true := by simp [hkf]
                    have hkf3 : (kind != 4) = false := by simp [hkf]
                    clear hkf hk
                    cases hr : rightB v6 hi lo with
                    | false =>
                      rw [hr] at HRT
                      rw [show whyF l ⟨nm, kind, (j : Int), wt, v6, hi, lo⟩ = 18 by simp [whyF, whyZ, hnb, hk1, hk4, hw0, hw9, hk2, HYK.out, hkf2, hr]]
                      go_enter Try.func22, Try.ntmps22
                      go_wp2_with fail
                      rw [HW1.out]
                      refine HNM.out.mono ?_
                      rintro e w' ⟨rfl, rfl⟩
                      go_wp2_with fail
                      go_quiet (fail)
                      go_wp2_with fail
                      refine (HRT.out _).mono ?_
                      rintro e w6 ⟨rfl, hb6⟩
                      have B6 := Lib.hid ((below_drewN (Below.refl w1.heap.size w1) _).trans (hb6.mono (Nat.le_refl _)))
                      have C6 := Lib.hid (HW.out.trans (B6.out.mono HW.out.size))
                      obtain ⟨z0, z1, z2, z3, z4, z5, z6⟩ := HBX.out _ B6.out
                      clear hb6
                      go_wp2_with fail
                      go_ret
                      exact ⟨rfl, C6.out⟩
                    | true =>
                      rw [hr] at HRT
                      have HV8 := Lib.hid (fun (hh : hasB l ⟨nm, kind, (j : Int), wt, v6, hi, lo⟩ = true) => show whyF l ⟨nm, kind, (j : Int), wt, v6, hi, lo⟩ = 8 by simp [whyF, whyZ, hnb, hk1, hk4, hw0, hw9, hk2, HYK.out, hkf2, hr, hh])
                      have HV6 := Lib.hid (fun (hh : hasB l ⟨nm, kind, (j : Int), wt, v6, hi, lo⟩ = false) (h7 : fullB l kind = true) => show whyF l ⟨nm, kind, (j : Int), wt, v6, hi, lo⟩ = 6 by simp [whyF, whyZ, hnb, hk1, hk4, hw0, hw9, hk2, HYK.out, hkf2, hr, hh, h7])
                      have HV0 := Lib.hid (fun (hh : hasB l ⟨nm, kind, (j : Int), wt, v6, hi, lo⟩ = false) (h7 : fullB l kind = false) => show whyF l ⟨nm, kind, (j : Int), wt, v6, hi, lo⟩ = 0 by simp [whyF, whyZ, hnb, hk1, hk4, hw0, hw9, hk2, HYK.out, hkf2, hr, hh, h7])
                      go_enter Try.func22, Try.ntmps22
                      go_wp2_with fail
                      rw [HW1.out]
                      refine HNM.out.mono ?_
                      rintro e w' ⟨rfl, rfl⟩
                      go_wp2_with fail
                      go_quiet (fail)
                      go_wp2_with fail
                      refine (HRT.out _).mono ?_
                      rintro e w6 ⟨rfl, hb6⟩
                      have B6 := Lib.hid ((below_drewN (Below.refl w1.heap.size w1) _).trans (hb6.mono (Nat.le_refl _)))
                      have C6 := Lib.hid (HW.out.trans (B6.out.mono HW.out.size))
                      obtain ⟨z0, z1, z2, z3, z4, z5, z6⟩ := HBX.out _ B6.out
                      clear hb6
                      go_wp2_with fail
                      clear b0 b1 b2 b3 b4 b5 b6 z0 z1 z2 z3 z4 z5 z6
                      go_loopw [5, 6, 7] (fun m1 m4 i wr => ∃ k : Nat, i = .int .i64 k ∧ k ≤ ln ∧ m1 = .int .i64 (ofK l 1 k).length ∧ m4 = .int .i64 (ofK l 4 k).length ∧ Hid (noTo l ⟨nm, kind, (j : Int), wt, v6, hi, lo⟩ k) ∧ Below w1.heap.size w1 wr) (fun _ _ i _ => ln - (intOf i).toNat)
                      case atStart => exact ⟨0, rfl, by omega, rfl, rfl, Lib.hid (by unfold noTo hasB; rfl), B6.out⟩
                      case round =>
                        obtain ⟨k, rfl, hkl, rfl, rfl, HNO, hbel⟩ := hrel
                        have KB := Lib.hid hbel
                        have KC := Lib.hid (HW.out.trans (hbel.mono HW.out.size))
                        obtain ⟨x0, x1, x2, x3, x4, x5, x6⟩ := HBX.out _ hbel
                        clear hbel
                        have hm1 : (ofK l 1 k).length ≤ k := ofK_len l 1 k
                        have hm4 : (ofK l 4 k).length ≤ k := ofK_len l 4 k
                        by_cases hkn : k < ln
                        · have t1 : decide ((k : Int) < ln) = true := decide_eq_true (by omega)
                          have hjl : k < l.length := HLN.out ▸ hkn
                          obtain ⟨b2, off2, hA, hbl, hC⟩ := (HRD.out _ KB.out).at_ k hjl
                          obtain ⟨rfl, rfl⟩ : b = b2 ∧ off = off2 := by injection hA with hA; injection hA with h1 h2; exact ⟨h1, h2⟩
                          have HN1 := Lib.hid (fun h => ofK_one (kind := 1) hjl h)
                          have HN1' := Lib.hid (fun h => ofK_same (kind := 1) hjl h)
                          have HN4 := Lib.hid (fun h => ofK_one (kind := 4) hjl h)
                          have HN4' := Lib.hid (fun h => ofK_same (kind := 4) hjl h)
                          have HNN := Lib.hid (fun h => noTo_next hjl HNO.out h)
                          have HHE := Lib.hid (fun h => has_here (n := ⟨nm, kind, (j : Int), wt, v6, hi, lo⟩) hjl h)
                          obtain ⟨e, he⟩ : ∃ e, e = l[k] := ⟨_, rfl⟩
                          rw [← he] at hC HN1 HN1' HN4 HN4' HNN HHE
                          have d0 : wr.cell? ⟨b, off + k * 7, none⟩ = some (.string e.nm) := hC 0 (by omega)
                          have d1 : wr.cell? ⟨b, off + k * 7 + 1, none⟩ = some (.int .i64 e.kind) := hC 1 (by omega)
                          have d4 : wr.cell? ⟨b, off + k * 7 + 4, none⟩ = some (.bool e.v6) := hC 4 (by omega)
                          have d5 : wr.cell? ⟨b, off + k * 7 + 5, none⟩ = some (.int .u64 e.hi) := hC 5 (by omega)
                          have d6 : wr.cell? ⟨b, off + k * 7 + 6, none⟩ = some (.int .u64 e.lo) := hC 6 (by omega)
                          have j0 : (0 : Int) ≤ k := by omega
                          have j1 : (k : Int) < ln := by omega
                          have hqe1 := hqe e.v6 e.hi e.lo
                          have M1 := Lib.hid hm1
                          have M4 := Lib.hid hm4
                          have g1 : ((ofK l 1 k).length : Int) ≤ 1000 := by omega
                          have g4 : ((ofK l 4 k).length : Int) ≤ 1000 := by omega
                          clear hC he hm1 hm4 hqe
                          cases hq : (e.nm.toList == nm.toList) with
                          | true =>
                            have HZ := Lib.hid (HV8.out (HHE.out (by simp [twB, hq])))
                            go_wp2_with fail
                            go_quiet (fail)
                            go_wp2_with fail
                            go_ret
                            exact ⟨(by rw [HZ.out]; try rfl), by first | exact KC.out | exact below_drewN KC.out _⟩
                          | false =>
                            by_cases h9 : e.kind = 4
                            · have h9b : (e.kind == 4) = true := by simp [h9]
                              have h9a : (e.kind == 1) = false := by simp [h9]
                              clear h9
                              cases hae : (e.v6 == v6 && e.hi == hi && e.lo == lo) with
                              | true =>
                                rw [hae] at hqe1
                                have HZ := Lib.hid (HV8.out (HHE.out (by simp only [twB, hq, h9b, hkf2, hae]; rfl)))
                                go_wp2_with fail
                                go_quiet (fail)
                                go_wp2_with fail
                                go_ret
                                exact ⟨(by rw [HZ.out]; try rfl), by first | exact KC.out | exact below_drewN KC.out _⟩
                              | false =>
                                rw [hae] at hqe1
                                have HX := Lib.hid (HNN.out (by simp only [twB, hq, h9b, hkf2, hae]; rfl))
                                have Ha := Lib.hid (HN1'.out h9a)
                                have Hb := Lib.hid (HN4.out h9b)
                                clear HN1 HN1' HN4 HN4' HNN HHE
                                go_wp2_with fail
                                go_quiet (fail)
                                go_wp2_with fail
                                go_roundw
                                case rel => exact ⟨k + 1, by go_num, by omega, (by rw [Ha.out]; first | done | rfl | go_num), (by rw [Hb.out]; first | done | rfl | go_num), HX, by first | exact KB.out | exact below_drewN KB.out _⟩
                                case measure => simp [intOf]; omega
                            · have h9b : (e.kind == 4) = false := beq_false_of_ne h9
                              clear h9
                              cases h9a : (e.kind == 1) with
                              | true =>
                                have HX := Lib.hid (HNN.out (by simp [twB, hq, h9b]))
                                have Ha := Lib.hid (HN1.out h9a)
                                have Hb := Lib.hid (HN4'.out h9b)
                                clear HN1 HN1' HN4 HN4' HNN HHE
                                go_wp2_with fail
                                go_quiet (fail)
                                go_wp2_with fail
                                go_roundw
                                case rel => exact ⟨k + 1, by go_num, by omega, (by rw [Ha.out]; first | done | rfl | go_num), (by rw [Hb.out]; first | done | rfl | go_num), HX, by first | exact KB.out | exact below_drewN KB.out _⟩
                                case measure => simp [intOf]; omega
                              | false =>
                                have HX := Lib.hid (HNN.out (by simp [twB, hq, h9b]))
                                have Ha := Lib.hid (HN1'.out h9a)
                                have Hb := Lib.hid (HN4'.out h9b)
                                clear HN1 HN1' HN4 HN4' HNN HHE
                                go_wp2_with fail
                                go_quiet (fail)
                                go_wp2_with fail
                                go_roundw
                                case rel => exact ⟨k + 1, by go_num, by omega, (by rw [Ha.out]; first | done | rfl | go_num), (by rw [Hb.out]; first | done | rfl | go_num), HX, by first | exact KB.out | exact below_drewN KB.out _⟩
                                case measure => simp [intOf]; omega
                        · have t1 : decide ((k : Int) < ln) = false := decide_eq_false (by omega)
                          obtain rfl : ln = k := by omega
                          have HHN := Lib.hid (has_none (by have := HLN.out; omega) HNO.out)
                          have hln : ln = l.length := HLN.out
                          have HFU := Lib.hid (show fullB l kind = (decide ((1024 : Int) ≤ ln) || (if kind = 1 then decide ((4 : Int) ≤ (ofK l 1 ln).length) else if kind = 4 then decide ((512 : Int) ≤ (ofK l 4 ln).length) else false)) by rw [hln]; rfl)
                          have tb : decide ((1024 : Int) ≤ ln) = false := decide_eq_false (by omega)
                          clear hm1 hm4 hln hqe
                          cases hfl : decide ((512 : Int) ≤ (ofK l 4 ln).length) with
                          | true =>
                            have HZ := Lib.hid (HV6.out HHN.out (by rw [HFU.out, tb, if_neg (by simpa using hk2), if_pos (by simpa using hkf2), hfl]; rfl))
                            go_wp2_with fail
                            go_ret
                            exact ⟨(by rw [HZ.out]; try rfl), KC.out⟩
                          | false =>
                            have HZ := Lib.hid (HV0.out HHN.out (by rw [HFU.out, tb, if_neg (by simpa using hk2), if_pos (by simpa using hkf2), hfl]; rfl))
                            go_wp2_with fail
                            go_ret
                            exact ⟨(by rw [HZ.out]; try rfl), KC.out⟩
                  · have hkf2 : (kind == 4) = false := beq_false_of_ne hkf
                    have hkf3 : (kind != 4) = true := by simp [hkf]
                    clear hkf hk
                    cases hr : rightB v6 hi lo with
                    | false =>
                      rw [hr] at HRT
                      rw [show whyF l ⟨nm, kind, (j : Int), wt, v6, hi, lo⟩ = 18 by simp [whyF, whyZ, hnb, hk1, hk4, hw0, hw9, hk2, HYK.out, hkf2, hr]]
                      go_enter Try.func22, Try.ntmps22
                      go_wp2_with fail
                      rw [HW1.out]
                      refine HNM.out.mono ?_
                      rintro e w' ⟨rfl, rfl⟩
                      go_wp2_with fail
                      go_quiet (fail)
                      go_wp2_with fail
                      refine (HRT.out _).mono ?_
                      rintro e w6 ⟨rfl, hb6⟩
                      have B6 := Lib.hid ((below_drewN (Below.refl w1.heap.size w1) _).trans (hb6.mono (Nat.le_refl _)))
                      have C6 := Lib.hid (HW.out.trans (B6.out.mono HW.out.size))
                      obtain ⟨z0, z1, z2, z3, z4, z5, z6⟩ := HBX.out _ B6.out
                      clear hb6
                      go_wp2_with fail
                      go_ret
                      exact ⟨rfl, C6.out⟩
                    | true =>
                      rw [hr] at HRT
                      cases hnz : nzA v6 hi lo with
                      | true =>
                        rw [hnz] at hne
                        rw [show whyF l ⟨nm, kind, (j : Int), wt, v6, hi, lo⟩ = 18 by simp [whyF, whyZ, hnb, hk1, hk4, hw0, hw9, hk2, HYK.out, hkf2, hr, hnz]]
                        go_enter Try.func22, Try.ntmps22
                        go_wp2_with fail
                        rw [HW1.out]
                        refine HNM.out.mono ?_
                        rintro e w' ⟨rfl, rfl⟩
                        go_wp2_with fail
                        go_quiet (fail)
                        go_wp2_with fail
                        refine (HRT.out _).mono ?_
                        rintro e w6 ⟨rfl, hb6⟩
                        have B6 := Lib.hid ((below_drewN (Below.refl w1.heap.size w1) _).trans (hb6.mono (Nat.le_refl _)))
                        have C6 := Lib.hid (HW.out.trans (B6.out.mono HW.out.size))
                        obtain ⟨z0, z1, z2, z3, z4, z5, z6⟩ := HBX.out _ B6.out
                        clear hb6
                        go_wp2_with fail
                        go_ret
                        exact ⟨rfl, C6.out⟩
                      | false =>
                        rw [hnz] at hne
                        have HV8 := Lib.hid (fun (hh : hasB l ⟨nm, kind, (j : Int), wt, v6, hi, lo⟩ = true) => show whyF l ⟨nm, kind, (j : Int), wt, v6, hi, lo⟩ = 8 by simp [whyF, whyZ, hnb, hk1, hk4, hw0, hw9, hk2, HYK.out, hkf2, hr, hnz, hh])
                        have HV6 := Lib.hid (fun (hh : hasB l ⟨nm, kind, (j : Int), wt, v6, hi, lo⟩ = false) (h7 : fullB l kind = true) => show whyF l ⟨nm, kind, (j : Int), wt, v6, hi, lo⟩ = 6 by simp [whyF, whyZ, hnb, hk1, hk4, hw0, hw9, hk2, HYK.out, hkf2, hr, hnz, hh, h7])
                        have HV0 := Lib.hid (fun (hh : hasB l ⟨nm, kind, (j : Int), wt, v6, hi, lo⟩ = false) (h7 : fullB l kind = false) => show whyF l ⟨nm, kind, (j : Int), wt, v6, hi, lo⟩ = 0 by simp [whyF, whyZ, hnb, hk1, hk4, hw0, hw9, hk2, HYK.out, hkf2, hr, hnz, hh, h7])
                        go_enter Try.func22, Try.ntmps22
                        go_wp2_with fail
                        rw [HW1.out]
                        refine HNM.out.mono ?_
                        rintro e w' ⟨rfl, rfl⟩
                        go_wp2_with fail
                        go_quiet (fail)
                        go_wp2_with fail
                        refine (HRT.out _).mono ?_
                        rintro e w6 ⟨rfl, hb6⟩
                        have B6 := Lib.hid ((below_drewN (Below.refl w1.heap.size w1) _).trans (hb6.mono (Nat.le_refl _)))
                        have C6 := Lib.hid (HW.out.trans (B6.out.mono HW.out.size))
                        obtain ⟨z0, z1, z2, z3, z4, z5, z6⟩ := HBX.out _ B6.out
                        clear hb6
                        go_wp2_with fail
                        clear b0 b1 b2 b3 b4 b5 b6 z0 z1 z2 z3 z4 z5 z6
                        go_loopw [5, 6, 7] (fun m1 m4 i wr => ∃ k : Nat, i = .int .i64 k ∧ k ≤ ln ∧ m1 = .int .i64 (ofK l 1 k).length ∧ m4 = .int .i64 (ofK l 4 k).length ∧ Hid (noTo l ⟨nm, kind, (j : Int), wt, v6, hi, lo⟩ k) ∧ Below w1.heap.size w1 wr) (fun _ _ i _ => ln - (intOf i).toNat)
                        case atStart => exact ⟨0, rfl, by omega, rfl, rfl, Lib.hid (by unfold noTo hasB; rfl), B6.out⟩
                        case round =>
                          obtain ⟨k, rfl, hkl, rfl, rfl, HNO, hbel⟩ := hrel
                          have KB := Lib.hid hbel
                          have KC := Lib.hid (HW.out.trans (hbel.mono HW.out.size))
                          obtain ⟨x0, x1, x2, x3, x4, x5, x6⟩ := HBX.out _ hbel
                          clear hbel
                          have hm1 : (ofK l 1 k).length ≤ k := ofK_len l 1 k
                          have hm4 : (ofK l 4 k).length ≤ k := ofK_len l 4 k
                          by_cases hkn : k < ln
                          · have t1 : decide ((k : Int) < ln) = true := decide_eq_true (by omega)
                            have hjl : k < l.length := HLN.out ▸ hkn
                            obtain ⟨b2, off2, hA, hbl, hC⟩ := (HRD.out _ KB.out).at_ k hjl
                            obtain ⟨rfl, rfl⟩ : b = b2 ∧ off = off2 := by injection hA with hA; injection hA with h1 h2; exact ⟨h1, h2⟩
                            have HN1 := Lib.hid (fun h => ofK_one (kind := 1) hjl h)
                            have HN1' := Lib.hid (fun h => ofK_same (kind := 1) hjl h)
                            have HN4 := Lib.hid (fun h => ofK_one (kind := 4) hjl h)
                            have HN4' := Lib.hid (fun h => ofK_same (kind := 4) hjl h)
                            have HNN := Lib.hid (fun h => noTo_next hjl HNO.out h)
                            have HHE := Lib.hid (fun h => has_here (n := ⟨nm, kind, (j : Int), wt, v6, hi, lo⟩) hjl h)
                            obtain ⟨e, he⟩ : ∃ e, e = l[k] := ⟨_, rfl⟩
                            rw [← he] at hC HN1 HN1' HN4 HN4' HNN HHE
                            have d0 : wr.cell? ⟨b, off + k * 7, none⟩ = some (.string e.nm) := hC 0 (by omega)
                            have d1 : wr.cell? ⟨b, off + k * 7 + 1, none⟩ = some (.int .i64 e.kind) := hC 1 (by omega)
                            have d4 : wr.cell? ⟨b, off + k * 7 + 4, none⟩ = some (.bool e.v6) := hC 4 (by omega)
                            have d5 : wr.cell? ⟨b, off + k * 7 + 5, none⟩ = some (.int .u64 e.hi) := hC 5 (by omega)
                            have d6 : wr.cell? ⟨b, off + k * 7 + 6, none⟩ = some (.int .u64 e.lo) := hC 6 (by omega)
                            have j0 : (0 : Int) ≤ k := by omega
                            have j1 : (k : Int) < ln := by omega
                            have hqe1 := hqe e.v6 e.hi e.lo
                            have M1 := Lib.hid hm1
                            have M4 := Lib.hid hm4
                            have g1 : ((ofK l 1 k).length : Int) ≤ 1000 := by omega
                            have g4 : ((ofK l 4 k).length : Int) ≤ 1000 := by omega
                            clear hC he hm1 hm4 hqe
                            cases hq : (e.nm.toList == nm.toList) with
                            | true =>
                              have HZ := Lib.hid (HV8.out (HHE.out (by simp [twB, hq])))
                              go_wp2_with fail
                              go_quiet (fail)
                              go_wp2_with fail
                              go_ret
                              exact ⟨(by rw [HZ.out]; try rfl), by first | exact KC.out | exact below_drewN KC.out _⟩
                            | false =>
                              by_cases h9 : e.kind = 4
                              · have h9b : (e.kind == 4) = true := by simp [h9]
                                have h9a : (e.kind == 1) = false := by simp [h9]
                                clear h9
                                have HX := Lib.hid (HNN.out (by simp [twB, hq, hkf2]))
                                have Ha := Lib.hid (HN1'.out h9a)
                                have Hb := Lib.hid (HN4.out h9b)
                                clear HN1 HN1' HN4 HN4' HNN HHE
                                go_wp2_with fail
                                go_quiet (fail)
                                go_wp2_with fail
                                go_roundw
                                case rel => exact ⟨k + 1, by go_num, by omega, (by rw [Ha.out]; first | done | rfl | go_num), (by rw [Hb.out]; first | done | rfl | go_num), HX, by first | exact KB.out | exact below_drewN KB.out _⟩
                                case measure => simp [intOf]; omega
                              · have h9b : (e.kind == 4) = false := beq_false_of_ne h9
                                clear h9
                                cases h9a : (e.kind == 1) with
                                | true =>
                                  have HX := Lib.hid (HNN.out (by simp [twB, hq, hkf2]))
                                  have Ha := Lib.hid (HN1.out h9a)
                                  have Hb := Lib.hid (HN4'.out h9b)
                                  clear HN1 HN1' HN4 HN4' HNN HHE
                                  go_wp2_with fail
                                  go_quiet (fail)
                                  go_wp2_with fail
                                  go_roundw
                                  case rel => exact ⟨k + 1, by go_num, by omega, (by rw [Ha.out]; first | done | rfl | go_num), (by rw [Hb.out]; first | done | rfl | go_num), HX, by first | exact KB.out | exact below_drewN KB.out _⟩
                                  case measure => simp [intOf]; omega
                                | false =>
                                  have HX := Lib.hid (HNN.out (by simp [twB, hq, hkf2]))
                                  have Ha := Lib.hid (HN1'.out h9a)
                                  have Hb := Lib.hid (HN4'.out h9b)
                                  clear HN1 HN1' HN4 HN4' HNN HHE
                                  go_wp2_with fail
                                  go_quiet (fail)
                                  go_wp2_with fail
                                  go_roundw
                                  case rel => exact ⟨k + 1, by go_num, by omega, (by rw [Ha.out]; first | done | rfl | go_num), (by rw [Hb.out]; first | done | rfl | go_num), HX, by first | exact KB.out | exact below_drewN KB.out _⟩
                                  case measure => simp [intOf]; omega
                          · have t1 : decide ((k : Int) < ln) = false := decide_eq_false (by omega)
                            obtain rfl : ln = k := by omega
                            have HHN := Lib.hid (has_none (by have := HLN.out; omega) HNO.out)
                            have hln : ln = l.length := HLN.out
                            have HFU := Lib.hid (show fullB l kind = (decide ((1024 : Int) ≤ ln) || (if kind = 1 then decide ((4 : Int) ≤ (ofK l 1 ln).length) else if kind = 4 then decide ((512 : Int) ≤ (ofK l 4 ln).length) else false)) by rw [hln]; rfl)
                            have tb : decide ((1024 : Int) ≤ ln) = false := decide_eq_false (by omega)
                            clear hm1 hm4 hln hqe
                            have HZ := Lib.hid (HV0.out HHN.out (by rw [HFU.out, tb, if_neg (by simpa using hk2), if_neg (by simpa using hkf2)]; rfl))
                            go_wp2_with fail
                            go_ret
                            exact ⟨(by rw [HZ.out]; try rfl), KC.out⟩
              · have hnd : isB ab l.length = false := by have := HLN.out; unfold isB; simp only [Bool.and_eq_false_iff, decide_eq_false_iff_not]; omega
                have hzk : ((zNd).kind == kind - 1) = false := beq_false_of_ne (by show (0 : Int) ≠ kind - 1; omega)
                rw [show whyF l ⟨nm, kind, ab, wt, v6, hi, lo⟩ = 16 by simp [whyF, whyZ, hnb, hk1, hk4, hw0, hw9, hk2, ndAt_none hnd, hzk]]
                clear hzk hnd
                by_cases ha0 : ab < 0
                · clear hin
                  go_enter Try.func22, Try.ntmps22
                  go_wp2_with fail
                  rw [HW1.out]
                  refine HNM.out.mono ?_
                  rintro e w' ⟨rfl, rfl⟩
                  go_wp2_with fail
                  all_goals (go_ret; exact ⟨rfl, HW.out⟩)
                · have ha1 : (ln : Int) ≤ ab := by omega
                  clear hin
                  go_enter Try.func22, Try.ntmps22
                  go_wp2_with fail
                  rw [HW1.out]
                  refine HNM.out.mono ?_
                  rintro e w' ⟨rfl, rfl⟩
                  go_wp2_with fail
                  all_goals (go_ret; exact ⟨rfl, HW.out⟩)
end Go.Proofs.Ytlihgiannfpjfaa.treF
