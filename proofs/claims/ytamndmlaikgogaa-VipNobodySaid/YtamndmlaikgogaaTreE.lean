/- Layer 16: why a node may not stand behind those of a tree. -/
import Derived.Test.YtamndmlaikgogaaTreD
import Derived.BigQuiet
import Derived.Deep.RegionHeld3
namespace Go.Proofs.Ytamndmlaikgogaa.treE
open Go.ChangeShapes Go.WideShapes Go.ChangeAt Go.RowKit
open Go.Proofs.Ytamndmlaikgogaa.base Go.Proofs.Ytamndmlaikgogaa.dfA Go.Proofs.Ytamndmlaikgogaa.treA Go.Proofs.Ytamndmlaikgogaa.treB Go.Proofs.Ytamndmlaikgogaa.treC Go.Proofs.Ytamndmlaikgogaa.treD
set_option linter.unusedVariables false

def nzA (v6 : Bool) (hi lo : Int) : Bool := v6 || !(hi == 0) || !(lo == 0)
theorem addr_ne (v6 : Bool) (hi lo : Int) (W : World) : (binOp .neq 27 (.agg #[.bool v6, .int .u64 hi, .int .u64 lo]) (.agg #[.bool false, .int .u64 0, .int .u64 0])).run Try.prog W = .ok (.bool (nzA v6 hi lo)) W := by
  unfold nzA
  cases v6 <;> cases e1 : (hi == 0) <;> cases e2 : (lo == 0) <;> go_simp <;> simp [e1, e2]
/-- Why a node may not stand behind nodes l; 0: it may. -/
def whyZ (l : List Nd) (n : Nd) : Int :=
  if (!(nameB n.nm) || decide (n.kind < 1) || decide (4 < n.kind)) = true then 1
  else if (decide (n.wt < 0) || decide (65535 < n.wt) || (n.kind == 1 && !(n.wt == 0))) = true then 17
  else if (n.kind == 1 && !(n.ab == -1)) = true then 16
  else if (!(n.kind == 1) && !((ndAt l n.ab).kind == n.kind - 1)) = true then 16
  else if (!(rightB n.v6 n.hi n.lo) || (!(n.kind == 4) && nzA n.v6 n.hi n.lo)) = true then 18
  else if hasB l n = true then 8 else 0
set_option maxRecDepth 100000 in
set_option maxHeartbeats 16000000 in
theorem why_any {t : Nat} {l : List Nd} {A : Option Addr} {c : Nat} {K : Option Addr} {kn kc : Nat} {w : World} (h : TreeAt w t l A c K kn kc) (n : Nd) (hl : l.length ≤ 2000) (hnm : n.nm.size ≤ 9223372036854775807) :
    Calls Try.prog 45 #[.pointer (some ⟨t, 0, none⟩), .agg n.cells] w fun o w' => o = .returned (.int .i64 (whyZ l n)) ∧ Below w.heap.size w w' := by
  obtain ⟨nm, kind, ab, wt, v6, hi, lo⟩ := n
  obtain ⟨w1, hw1⟩ : ∃ w1, w1 = (w.alloc (.cells #[.string nm, .int .i64 kind, .int .i64 ab, .int .i64 wt, .bool v6, .int .u64 hi, .int .u64 lo] 44)) := ⟨_, rfl⟩
  have HW := Lib.hid (show Below w.heap.size w w1 from hw1 ▸ (Below.refl w.heap.size w).alloc (Nat.le_refl _) _)
  have HB1 := Lib.hid (show Blk w1 w.heap.size 44 #[.string nm, .int .i64 kind, .int .i64 ab, .int .i64 wt, .bool v6, .int .u64 hi, .int .u64 lo] from hw1 ▸ Blk.new w _ _)
  have HT := Lib.hid (h.below HW.out)
  have HW1 := Lib.hid (show (w.alloc (.cells #[.string nm, .int .i64 kind, .int .i64 ab, .int .i64 wt, .bool v6, .int .u64 hi, .int .u64 lo] 44)) = w1 from hw1.symm)
  have HNM := Lib.hid (name_any nm w1 hnm)
  obtain ⟨y, hy⟩ : ∃ y, y = ndAt l ab := ⟨_, rfl⟩
  have HND := Lib.hid (show ∀ W, Below w1.heap.size w1 W → Calls Try.prog 15 #[.pointer (some ⟨t, 0, none⟩), .int .i64 ab] W fun e w' => e = .returned (.agg #[.string y.nm, .int .i64 y.kind, .int .i64 y.ab, .int .i64 y.wt, .bool y.v6, .int .u64 y.hi, .int .u64 y.lo]) ∧ Below W.heap.size W w' from fun W hb => hy ▸ node_any (HT.out.below hb) ab)
  have HRT := Lib.hid (right_any v6 hi lo)
  have HHS := Lib.hid (show ∀ W, Below w1.heap.size w1 W → Calls Try.prog 58 #[.pointer (some ⟨t, 0, none⟩), .agg #[.string nm, .int .i64 kind, .int .i64 ab, .int .i64 wt, .bool v6, .int .u64 hi, .int .u64 lo]] W fun o w' => o = .returned (.bool (hasB l ⟨nm, kind, ab, wt, v6, hi, lo⟩)) ∧ Below W.heap.size W w' from fun W hb => has_any (HT.out.below hb) ⟨nm, kind, ab, wt, v6, hi, lo⟩ hl)
  have HBX := Lib.hid (show ∀ W, Below w1.heap.size w1 W → (W.cell? ⟨w.heap.size, 0, none⟩ = some (.string nm) ∧ W.cell? ⟨w.heap.size, 1, none⟩ = some (.int .i64 kind) ∧ W.cell? ⟨w.heap.size, 2, none⟩ = some (.int .i64 ab) ∧ W.cell? ⟨w.heap.size, 3, none⟩ = some (.int .i64 wt) ∧ W.cell? ⟨w.heap.size, 4, none⟩ = some (.bool v6) ∧ W.cell? ⟨w.heap.size, 5, none⟩ = some (.int .u64 hi) ∧ W.cell? ⟨w.heap.size, 6, none⟩ = some (.int .u64 lo)) from fun W hb => by
    have h1 : Blk W w.heap.size 44 #[.string nm, .int .i64 kind, .int .i64 ab, .int .i64 wt, .bool v6, .int .u64 hi, .int .u64 lo] := (hb.block _ HB1.out.lt).trans HB1.out
    exact ⟨h1.cell 0, h1.cell 1, h1.cell 2, h1.cell 3, h1.cell 4, h1.cell 5, h1.cell 6⟩)
  have hne := fun W => addr_ne v6 hi lo W
  have hfd : ∀ W, (Instr.field 44 (.agg #[.string y.nm, .int .i64 y.kind, .int .i64 y.ab, .int .i64 y.wt, .bool y.v6, .int .u64 y.hi, .int .u64 y.lo]) 1).run Try.prog W = .ok (.int .i64 y.kind) W := fun _ => by kernel_rfl
  have B0 := Lib.hid (show Below w1.heap.size w1 w1.drew from (Below.refl _ _).drew)
  obtain ⟨b0, b1, b2, b3, b4, b5, b6⟩ := HBX.out w1 (Below.refl _ _)
  have HY := Lib.hid hy
  unfold Nd.cells
  clear h hw1 hy
  cases hnb : nameB nm with
  | false =>
    rw [show whyZ l ⟨nm, kind, ab, wt, v6, hi, lo⟩ = 1 by simp [whyZ, hnb]]
    rw [hnb] at HNM
    go_enter Try.func45, Try.ntmps45
    go_wp2_with fail
    rw [HW1.out]
    refine HNM.out.mono ?_
    rintro e w' ⟨rfl, rfl⟩
    go_wp2_with fail
    all_goals (go_ret; exact ⟨rfl, HW.out⟩)
  | true =>
    rw [hnb] at HNM
    by_cases hk1 : kind < 1
    · rw [show whyZ l ⟨nm, kind, ab, wt, v6, hi, lo⟩ = 1 by simp [whyZ, hnb, hk1]]
      go_enter Try.func45, Try.ntmps45
      go_wp2_with fail
      rw [HW1.out]
      refine HNM.out.mono ?_
      rintro e w' ⟨rfl, rfl⟩
      go_wp2_with fail
      all_goals (go_ret; exact ⟨rfl, HW.out⟩)
    · by_cases hk4 : 4 < kind
      · rw [show whyZ l ⟨nm, kind, ab, wt, v6, hi, lo⟩ = 1 by simp [whyZ, hnb, hk4]]
        go_enter Try.func45, Try.ntmps45
        go_wp2_with fail
        rw [HW1.out]
        refine HNM.out.mono ?_
        rintro e w' ⟨rfl, rfl⟩
        go_wp2_with fail
        all_goals (go_ret; exact ⟨rfl, HW.out⟩)
      · by_cases hw0 : wt < 0
        · rw [show whyZ l ⟨nm, kind, ab, wt, v6, hi, lo⟩ = 17 by simp [whyZ, hnb, hk1, hk4, hw0]]
          go_enter Try.func45, Try.ntmps45
          go_wp2_with fail
          rw [HW1.out]
          refine HNM.out.mono ?_
          rintro e w' ⟨rfl, rfl⟩
          go_wp2_with fail
          all_goals (go_ret; exact ⟨rfl, HW.out⟩)
        · by_cases hw9 : 65535 < wt
          · rw [show whyZ l ⟨nm, kind, ab, wt, v6, hi, lo⟩ = 17 by simp [whyZ, hnb, hk1, hk4, hw0, hw9]]
            go_enter Try.func45, Try.ntmps45
            go_wp2_with fail
            rw [HW1.out]
            refine HNM.out.mono ?_
            rintro e w' ⟨rfl, rfl⟩
            go_wp2_with fail
            all_goals (go_ret; exact ⟨rfl, HW.out⟩)
          · by_cases hk : kind = 1
            · subst hk
              by_cases hwz : wt = 0
              · subst hwz
                by_cases hab : ab = -1
                · subst hab
                  cases hr : rightB v6 hi lo with
                  | false =>
                    rw [hr] at HRT
                    rw [show whyZ l ⟨nm, 1, -1, 0, v6, hi, lo⟩ = 18 by simp [whyZ, hnb, hr]]
                    go_enter Try.func45, Try.ntmps45
                    go_wp2_with fail
                    rw [HW1.out]
                    refine HNM.out.mono ?_
                    rintro e w' ⟨rfl, rfl⟩
                    go_wp2_with fail
                    go_quiet (fail)
                    go_wp2_with fail
                    refine (HRT.out _).mono ?_
                    rintro e w6 ⟨rfl, hb6⟩
                    have B6 := Lib.hid ((below_drewN (Below.refl w1.heap.size w1) _).trans (hb6.mono (Nat.le_refl _)))
                    have C6 := Lib.hid (HW.out.trans (B6.out.mono HW.out.size))
                    obtain ⟨z0, z1, z2, z3, z4, z5, z6⟩ := HBX.out _ B6.out
                    clear hb6
                    go_wp2_with fail
                    go_ret
                    exact ⟨rfl, C6.out⟩
                  | true =>
                    rw [hr] at HRT
                    cases hnz : nzA v6 hi lo with
                    | true =>
                      rw [hnz] at hne
                      rw [show whyZ l ⟨nm, 1, -1, 0, v6, hi, lo⟩ = 18 by simp [whyZ, hnb, hr, hnz]]
                      go_enter Try.func45, Try.ntmps45
                      go_wp2_with fail
                      rw [HW1.out]
                      refine HNM.out.mono ?_
                      rintro e w' ⟨rfl, rfl⟩
                      go_wp2_with fail
                      go_quiet (fail)
                      go_wp2_with fail
                      refine (HRT.out _).mono ?_
                      rintro e w6 ⟨rfl, hb6⟩
                      have B6 := Lib.hid ((below_drewN (Below.refl w1.heap.size w1) _).trans (hb6.mono (Nat.le_refl _)))
                      have C6 := Lib.hid (HW.out.trans (B6.out.mono HW.out.size))
                      obtain ⟨z0, z1, z2, z3, z4, z5, z6⟩ := HBX.out _ B6.out
                      clear hb6
                      go_wp2_with fail
                      go_ret
                      exact ⟨rfl, C6.out⟩
                    | false =>
                      rw [hnz] at hne
                      cases hhs : hasB l ⟨nm, 1, -1, 0, v6, hi, lo⟩ with
                      | true =>
                        rw [hhs] at HHS
                        rw [show whyZ l ⟨nm, 1, -1, 0, v6, hi, lo⟩ = 8 by simp [whyZ, hnb, hr, hnz, hhs]]
                        go_enter Try.func45, Try.ntmps45
                        go_wp2_with fail
                        rw [HW1.out]
                        refine HNM.out.mono ?_
                        rintro e w' ⟨rfl, rfl⟩
                        go_wp2_with fail
                        go_quiet (fail)
                        go_wp2_with fail
                        refine (HRT.out _).mono ?_
                        rintro e w6 ⟨rfl, hb6⟩
                        have B6 := Lib.hid ((below_drewN (Below.refl w1.heap.size w1) _).trans (hb6.mono (Nat.le_refl _)))
                        have C6 := Lib.hid (HW.out.trans (B6.out.mono HW.out.size))
                        obtain ⟨z0, z1, z2, z3, z4, z5, z6⟩ := HBX.out _ B6.out
                        clear hb6
                        go_wp2_with fail
                        refine (HHS.out _ B6.out).mono ?_
                        rintro e w7 ⟨rfl, hb7⟩
                        have C7 := Lib.hid (C6.out.trans (hb7.mono C6.out.size))
                        clear hb7
                        go_wp2_with fail
                        go_ret
                        exact ⟨rfl, C7.out⟩
                      | false =>
                        rw [hhs] at HHS
                        rw [show whyZ l ⟨nm, 1, -1, 0, v6, hi, lo⟩ = 0 by simp [whyZ, hnb, hr, hnz, hhs]]
                        go_enter Try.func45, Try.ntmps45
                        go_wp2_with fail
                        rw [HW1.out]
                        refine HNM.out.mono ?_
                        rintro e w' ⟨rfl, rfl⟩
                        go_wp2_with fail
                        go_quiet (fail)
                        go_wp2_with fail
                        refine (HRT.out _).mono ?_
                        rintro e w6 ⟨rfl, hb6⟩
                        have B6 := Lib.hid ((below_drewN (Below.refl w1.heap.size w1) _).trans (hb6.mono (Nat.le_refl _)))
                        have C6 := Lib.hid (HW.out.trans (B6.out.mono HW.out.size))
                        obtain ⟨z0, z1, z2, z3, z4, z5, z6⟩ := HBX.out _ B6.out
                        clear hb6
                        go_wp2_with fail
                        refine (HHS.out _ B6.out).mono ?_
                        rintro e w7 ⟨rfl, hb7⟩
                        have C7 := Lib.hid (C6.out.trans (hb7.mono C6.out.size))
                        clear hb7
                        go_wp2_with fail
                        go_ret
                        exact ⟨rfl, C7.out⟩
                · rw [show whyZ l ⟨nm, 1, ab, 0, v6, hi, lo⟩ = 16 by simp [whyZ, hnb, hab]]
                  have hab2 : (ab == -1) = false := beq_false_of_ne hab
                  clear hab
                  go_enter Try.func45, Try.ntmps45
                  go_wp2_with fail
                  rw [HW1.out]
                  refine HNM.out.mono ?_
                  rintro e w' ⟨rfl, rfl⟩
                  go_wp2_with fail
                  all_goals (go_ret; exact ⟨rfl, HW.out⟩)
              · rw [show whyZ l ⟨nm, 1, ab, wt, v6, hi, lo⟩ = 17 by simp [whyZ, hnb, hw0, hw9, hwz]]
                have hwz2 : (wt == 0) = false := beq_false_of_ne hwz
                have hwz3 : (wt != 0) = true := by simp [hwz]
                clear hwz
                go_enter Try.func45, Try.ntmps45
                go_wp2_with fail
                rw [HW1.out]
                refine HNM.out.mono ?_
                rintro e w' ⟨rfl, rfl⟩
                go_wp2_with fail
                all_goals (go_ret; exact ⟨rfl, HW.out⟩)
            · have hk2 : (kind == 1) = false := beq_false_of_ne hk
              have hk3 : (kind != 1) = true := by simp [hk]
              have hwr : IntKind.i64.wrap (kind - 1) = kind - 1 := by rw [IntWalk.i64_in _ (by omega)]
              cases hyk : (y.kind == kind - 1) with
              | false =>
                have hyk3 : (y.kind != kind - 1) = true := by simp [bne, hyk]
                rw [show whyZ l ⟨nm, kind, ab, wt, v6, hi, lo⟩ = 16 by rw [HY.out] at hyk; simp [whyZ, hnb, hk1, hk4, hw0, hw9, hk2, hyk]]
                go_enter Try.func45, Try.ntmps45
                go_wp2_with fail
                rw [HW1.out]
                refine HNM.out.mono ?_
                rintro e w' ⟨rfl, rfl⟩
                have s0 := HBX.out _ B0.out
                go_wp2_with fail
                clear b0 b1 b2 b3 b4 b5 b6
                go_region_held3 (fun w' => w'.cell? ⟨w.heap.size, 0, none⟩ = some (.string nm) ∧ w'.cell? ⟨w.heap.size, 1, none⟩ = some (.int .i64 kind) ∧ w'.cell? ⟨w.heap.size, 2, none⟩ = some (.int .i64 ab) ∧ w'.cell? ⟨w.heap.size, 3, none⟩ = some (.int .i64 wt) ∧ w'.cell? ⟨w.heap.size, 4, none⟩ = some (.bool v6) ∧ w'.cell? ⟨w.heap.size, 5, none⟩ = some (.int .u64 hi) ∧ w'.cell? ⟨w.heap.size, 6, none⟩ = some (.int .u64 lo)) (first | with_reducible assumption)
                  (first
                    | (go_at_call 15
                       (with_reducible refine (HND.out _ (by first | exact B0.out)).mono ?_)
                       rintro e w5 ⟨rfl, hb5⟩
                       have s5 := HBX.out _ (B0.out.trans (hb5.mono B0.out.size))
                       have BX := Lib.hid (B0.out.trans (hb5.mono B0.out.size))
                       clear hb5))
                go_wp2_with fail
                go_ret
                exact ⟨rfl, HW.out.trans (BX.out.mono HW.out.size)⟩
              | true =>
                have hyk3 : (y.kind != kind - 1) = false := by simp [bne, hyk]
                have HYK := Lib.hid (show ((ndAt l ab).kind == kind - 1) = true from HY.out ▸ hyk)
                by_cases hkf : kind = 4
                · have hkf2 : (kind == 4) = true := by simp [hkf]
                  have hkf3 : (kind != 4) = false := by simp [hkf]
                  clear hkf hk
                  cases hr : rightB v6 hi lo with
                  | false =>
                    rw [hr] at HRT
                    rw [show whyZ l ⟨nm, kind, ab, wt, v6, hi, lo⟩ = 18 by simp [whyZ, hnb, hk1, hk4, hw0, hw9, hk2, HYK.out, hkf2, hr]]
                    go_enter Try.func45, Try.ntmps45
                    go_wp2_with fail
                    rw [HW1.out]
                    refine HNM.out.mono ?_
                    rintro e w' ⟨rfl, rfl⟩
                    have s0 := HBX.out _ B0.out
                    go_wp2_with fail
                    clear b0 b1 b2 b3 b4 b5 b6
                    go_region_held3 (fun w' => w'.cell? ⟨w.heap.size, 0, none⟩ = some (.string nm) ∧ w'.cell? ⟨w.heap.size, 1, none⟩ = some (.int .i64 kind) ∧ w'.cell? ⟨w.heap.size, 2, none⟩ = some (.int .i64 ab) ∧ w'.cell? ⟨w.heap.size, 3, none⟩ = some (.int .i64 wt) ∧ w'.cell? ⟨w.heap.size, 4, none⟩ = some (.bool v6) ∧ w'.cell? ⟨w.heap.size, 5, none⟩ = some (.int .u64 hi) ∧ w'.cell? ⟨w.heap.size, 6, none⟩ = some (.int .u64 lo)) (first | with_reducible assumption)
                      (first
                        | (go_at_call 15
                           (with_reducible refine (HND.out _ (by first | exact B0.out)).mono ?_)
                           rintro e w5 ⟨rfl, hb5⟩
                           have s5 := HBX.out _ (B0.out.trans (hb5.mono B0.out.size))
                           have BX := Lib.hid (B0.out.trans (hb5.mono B0.out.size))
                           clear hb5))
                    obtain ⟨x0, x1, x2, x3, x4, x5, x6⟩ := HBX.out _ BX.out
                    go_wp2_with fail
                    refine (HRT.out _).mono ?_
                    rintro e w6 ⟨rfl, hb6⟩
                    have B6 := Lib.hid (BX.out.trans (hb6.mono BX.out.size))
                    have C6 := Lib.hid (HW.out.trans (B6.out.mono HW.out.size))
                    obtain ⟨z0, z1, z2, z3, z4, z5, z6⟩ := HBX.out _ B6.out
                    clear hb6
                    go_wp2_with fail
                    go_ret
                    exact ⟨rfl, C6.out⟩
                  | true =>
                    rw [hr] at HRT
                    cases hhs : hasB l ⟨nm, kind, ab, wt, v6, hi, lo⟩ with
                    | true =>
                      rw [hhs] at HHS
                      rw [show whyZ l ⟨nm, kind, ab, wt, v6, hi, lo⟩ = 8 by simp [whyZ, hnb, hk1, hk4, hw0, hw9, hk2, HYK.out, hkf2, hr, hhs]]
                      go_enter Try.func45, Try.ntmps45
                      go_wp2_with fail
                      rw [HW1.out]
                      refine HNM.out.mono ?_
                      rintro e w' ⟨rfl, rfl⟩
                      have s0 := HBX.out _ B0.out
                      go_wp2_with fail
                      clear b0 b1 b2 b3 b4 b5 b6
                      go_region_held3 (fun w' => w'.cell? ⟨w.heap.size, 0, none⟩ = some (.string nm) ∧ w'.cell? ⟨w.heap.size, 1, none⟩ = some (.int .i64 kind) ∧ w'.cell? ⟨w.heap.size, 2, none⟩ = some (.int .i64 ab) ∧ w'.cell? ⟨w.heap.size, 3, none⟩ = some (.int .i64 wt) ∧ w'.cell? ⟨w.heap.size, 4, none⟩ = some (.bool v6) ∧ w'.cell? ⟨w.heap.size, 5, none⟩ = some (.int .u64 hi) ∧ w'.cell? ⟨w.heap.size, 6, none⟩ = some (.int .u64 lo)) (first | with_reducible assumption)
                        (first
                          | (go_at_call 15
                             (with_reducible refine (HND.out _ (by first | exact B0.out)).mono ?_)
                             rintro e w5 ⟨rfl, hb5⟩
                             have s5 := HBX.out _ (B0.out.trans (hb5.mono B0.out.size))
                             have BX := Lib.hid (B0.out.trans (hb5.mono B0.out.size))
                             clear hb5))
                      obtain ⟨x0, x1, x2, x3, x4, x5, x6⟩ := HBX.out _ BX.out
                      go_wp2_with fail
                      refine (HRT.out _).mono ?_
                      rintro e w6 ⟨rfl, hb6⟩
                      have B6 := Lib.hid (BX.out.trans (hb6.mono BX.out.size))
                      have C6 := Lib.hid (HW.out.trans (B6.out.mono HW.out.size))
                      obtain ⟨z0, z1, z2, z3, z4, z5, z6⟩ := HBX.out _ B6.out
                      clear hb6
                      go_wp2_with fail
                      refine (HHS.out _ B6.out).mono ?_
                      rintro e w7 ⟨rfl, hb7⟩
                      have C7 := Lib.hid (C6.out.trans (hb7.mono C6.out.size))
                      clear hb7
                      go_wp2_with fail
                      go_ret
                      exact ⟨rfl, C7.out⟩
                    | false =>
                      rw [hhs] at HHS
                      rw [show whyZ l ⟨nm, kind, ab, wt, v6, hi, lo⟩ = 0 by simp [whyZ, hnb, hk1, hk4, hw0, hw9, hk2, HYK.out, hkf2, hr, hhs]]
                      go_enter Try.func45, Try.ntmps45
                      go_wp2_with fail
                      rw [HW1.out]
                      refine HNM.out.mono ?_
                      rintro e w' ⟨rfl, rfl⟩
                      have s0 := HBX.out _ B0.out
                      go_wp2_with fail
                      clear b0 b1 b2 b3 b4 b5 b6
                      go_region_held3 (fun w' => w'.cell? ⟨w.heap.size, 0, none⟩ = some (.string nm) ∧ w'.cell? ⟨w.heap.size, 1, none⟩ = some (.int .i64 kind) ∧ w'.cell? ⟨w.heap.size, 2, none⟩ = some (.int .i64 ab) ∧ w'.cell? ⟨w.heap.size, 3, none⟩ = some (.int .i64 wt) ∧ w'.cell? ⟨w.heap.size, 4, none⟩ = some (.bool v6) ∧ w'.cell? ⟨w.heap.size, 5, none⟩ = some (.int .u64 hi) ∧ w'.cell? ⟨w.heap.size, 6, none⟩ = some (.int .u64 lo)) (first | with_reducible assumption)
                        (first
                          | (go_at_call 15
                             (with_reducible refine (HND.out _ (by first | exact B0.out)).mono ?_)
                             rintro e w5 ⟨rfl, hb5⟩
                             have s5 := HBX.out _ (B0.out.trans (hb5.mono B0.out.size))
                             have BX := Lib.hid (B0.out.trans (hb5.mono B0.out.size))
                             clear hb5))
                      obtain ⟨x0, x1, x2, x3, x4, x5, x6⟩ := HBX.out _ BX.out
                      go_wp2_with fail
                      refine (HRT.out _).mono ?_
                      rintro e w6 ⟨rfl, hb6⟩
                      have B6 := Lib.hid (BX.out.trans (hb6.mono BX.out.size))
                      have C6 := Lib.hid (HW.out.trans (B6.out.mono HW.out.size))
                      obtain ⟨z0, z1, z2, z3, z4, z5, z6⟩ := HBX.out _ B6.out
                      clear hb6
                      go_wp2_with fail
                      refine (HHS.out _ B6.out).mono ?_
                      rintro e w7 ⟨rfl, hb7⟩
                      have C7 := Lib.hid (C6.out.trans (hb7.mono C6.out.size))
                      clear hb7
                      go_wp2_with fail
                      go_ret
                      exact ⟨rfl, C7.out⟩
                · have hkf2 : (kind == 4) = false := beq_false_of_ne hkf
                  have hkf3 : (kind != 4) = true := by simp [hkf]
                  clear hkf hk
                  cases hr : rightB v6 hi lo with
                  | false =>
                    rw [hr] at HRT
                    rw [show whyZ l ⟨nm, kind, ab, wt, v6, hi, lo⟩ = 18 by simp [whyZ, hnb, hk1, hk4, hw0, hw9, hk2, HYK.out, hkf2, hr]]
                    go_enter Try.func45, Try.ntmps45
                    go_wp2_with fail
                    rw [HW1.out]
                    refine HNM.out.mono ?_
                    rintro e w' ⟨rfl, rfl⟩
                    have s0 := HBX.out _ B0.out
                    go_wp2_with fail
                    clear b0 b1 b2 b3 b4 b5 b6
                    go_region_held3 (fun w' => w'.cell? ⟨w.heap.size, 0, none⟩ = some (.string nm) ∧ w'.cell? ⟨w.heap.size, 1, none⟩ = some (.int .i64 kind) ∧ w'.cell? ⟨w.heap.size, 2, none⟩ = some (.int .i64 ab) ∧ w'.cell? ⟨w.heap.size, 3, none⟩ = some (.int .i64 wt) ∧ w'.cell? ⟨w.heap.size, 4, none⟩ = some (.bool v6) ∧ w'.cell? ⟨w.heap.size, 5, none⟩ = some (.int .u64 hi) ∧ w'.cell? ⟨w.heap.size, 6, none⟩ = some (.int .u64 lo)) (first | with_reducible assumption)
                      (first
                        | (go_at_call 15
                           (with_reducible refine (HND.out _ (by first | exact B0.out)).mono ?_)
                           rintro e w5 ⟨rfl, hb5⟩
                           have s5 := HBX.out _ (B0.out.trans (hb5.mono B0.out.size))
                           have BX := Lib.hid (B0.out.trans (hb5.mono B0.out.size))
                           clear hb5))
                    obtain ⟨x0, x1, x2, x3, x4, x5, x6⟩ := HBX.out _ BX.out
                    go_wp2_with fail
                    refine (HRT.out _).mono ?_
                    rintro e w6 ⟨rfl, hb6⟩
                    have B6 := Lib.hid (BX.out.trans (hb6.mono BX.out.size))
                    have C6 := Lib.hid (HW.out.trans (B6.out.mono HW.out.size))
                    obtain ⟨z0, z1, z2, z3, z4, z5, z6⟩ := HBX.out _ B6.out
                    clear hb6
                    go_wp2_with fail
                    go_ret
                    exact ⟨rfl, C6.out⟩
                  | true =>
                    rw [hr] at HRT
                    cases hnz : nzA v6 hi lo with
                    | true =>
                      rw [hnz] at hne
                      rw [show whyZ l ⟨nm, kind, ab, wt, v6, hi, lo⟩ = 18 by simp [whyZ, hnb, hk1, hk4, hw0, hw9, hk2, HYK.out, hkf2, hr, hnz]]
                      go_enter Try.func45, Try.ntmps45
                      go_wp2_with fail
                      rw [HW1.out]
                      refine HNM.out.mono ?_
                      rintro e w' ⟨rfl, rfl⟩
                      have s0 := HBX.out _ B0.out
                      go_wp2_with fail
                      clear b0 b1 b2 b3 b4 b5 b6
                      go_region_held3 (fun w' => w'.cell? ⟨w.heap.size, 0, none⟩ = some (.string nm) ∧ w'.cell? ⟨w.heap.size, 1, none⟩ = some (.int .i64 kind) ∧ w'.cell? ⟨w.heap.size, 2, none⟩ = some (.int .i64 ab) ∧ w'.cell? ⟨w.heap.size, 3, none⟩ = some (.int .i64 wt) ∧ w'.cell? ⟨w.heap.size, 4, none⟩ = some (.bool v6) ∧ w'.cell? ⟨w.heap.size, 5, none⟩ = some (.int .u64 hi) ∧ w'.cell? ⟨w.heap.size, 6, none⟩ = some (.int .u64 lo)) (first | with_reducible assumption)
                        (first
                          | (go_at_call 15
                             (with_reducible refine (HND.out _ (by first | exact B0.out)).mono ?_)
                             rintro e w5 ⟨rfl, hb5⟩
                             have s5 := HBX.out _ (B0.out.trans (hb5.mono B0.out.size))
                             have BX := Lib.hid (B0.out.trans (hb5.mono B0.out.size))
                             clear hb5))
                      obtain ⟨x0, x1, x2, x3, x4, x5, x6⟩ := HBX.out _ BX.out
                      go_wp2_with fail
                      refine (HRT.out _).mono ?_
                      rintro e w6 ⟨rfl, hb6⟩
                      have B6 := Lib.hid (BX.out.trans (hb6.mono BX.out.size))
                      have C6 := Lib.hid (HW.out.trans (B6.out.mono HW.out.size))
                      obtain ⟨z0, z1, z2, z3, z4, z5, z6⟩ := HBX.out _ B6.out
                      clear hb6
                      go_wp2_with fail
                      go_ret
                      exact ⟨rfl, C6.out⟩
                    | false =>
                      rw [hnz] at hne
                      cases hhs : hasB l ⟨nm, kind, ab, wt, v6, hi, lo⟩ with
                      | true =>
                        rw [hhs] at HHS
                        rw [show whyZ l ⟨nm, kind, ab, wt, v6, hi, lo⟩ = 8 by simp [whyZ, hnb, hk1, hk4, hw0, hw9, hk2, HYK.out, hkf2, hr, hnz, hhs]]
                        go_enter Try.func45, Try.ntmps45
                        go_wp2_with fail
                        rw [HW1.out]
                        refine HNM.out.mono ?_
                        rintro e w' ⟨rfl, rfl⟩
                        have s0 := HBX.out _ B0.out
                        go_wp2_with fail
                        clear b0 b1 b2 b3 b4 b5 b6
                        go_region_held3 (fun w' => w'.cell? ⟨w.heap.size, 0, none⟩ = some (.string nm) ∧ w'.cell? ⟨w.heap.size, 1, none⟩ = some (.int .i64 kind) ∧ w'.cell? ⟨w.heap.size, 2, none⟩ = some (.int .i64 ab) ∧ w'.cell? ⟨w.heap.size, 3, none⟩ = some (.int .i64 wt) ∧ w'.cell? ⟨w.heap.size, 4, none⟩ = some (.bool v6) ∧ w'.cell? ⟨w.heap.size, 5, none⟩ = some (.int .u64 hi) ∧ w'.cell? ⟨w.heap.size, 6, none⟩ = some (.int .u64 lo)) (first | with_reducible assumption)
                          (first
                            | (go_at_call 15
                               (with_reducible refine (HND.out _ (by first | exact B0.out)).mono ?_)
                               rintro e w5 ⟨rfl, hb5⟩
                               have s5 := HBX.out _ (B0.out.trans (hb5.mono B0.out.size))
                               have BX := Lib.hid (B0.out.trans (hb5.mono B0.out.size))
                               clear hb5))
                        obtain ⟨x0, x1, x2, x3, x4, x5, x6⟩ := HBX.out _ BX.out
                        go_wp2_with fail
                        refine (HRT.out _).mono ?_
                        rintro e w6 ⟨rfl, hb6⟩
                        have B6 := Lib.hid (BX.out.trans (hb6.mono BX.out.size))
                        have C6 := Lib.hid (HW.out.trans (B6.out.mono HW.out.size))
                        obtain ⟨z0, z1, z2, z3, z4, z5, z6⟩ := HBX.out _ B6.out
                        clear hb6
                        go_wp2_with fail
                        refine (HHS.out _ B6.out).mono ?_
                        rintro e w7 ⟨rfl, hb7⟩
                        have C7 := Lib.hid (C6.out.trans (hb7.mono C6.out.size))
                        clear hb7
                        go_wp2_with fail
                        go_ret
                        exact ⟨rfl, C7.out⟩
                      | false =>
                        rw [hhs] at HHS
                        rw [show whyZ l ⟨nm, kind, ab, wt, v6, hi, lo⟩ = 0 by simp [whyZ, hnb, hk1, hk4, hw0, hw9, hk2, HYK.out, hkf2, hr, hnz, hhs]]
                        go_enter Try.func45, Try.ntmps45
                        go_wp2_with fail
                        rw [HW1.out]
                        refine HNM.out.mono ?_
                        rintro e w' ⟨rfl, rfl⟩
                        have s0 := HBX.out _ B0.out
                        go_wp2_with fail
                        clear b0 b1 b2 b3 b4 b5 b6
                        go_region_held3 (fun w' => w'.cell? ⟨w.heap.size, 0, none⟩ = some (.string nm) ∧ w'.cell? ⟨w.heap.size, 1, none⟩ = some (.int .i64 kind) ∧ w'.cell? ⟨w.heap.size, 2, none⟩ = some (.int .i64 ab) ∧ w'.cell? ⟨w.heap.size, 3, none⟩ = some (.int .i64 wt) ∧ w'.cell? ⟨w.heap.size, 4, none⟩ = some (.bool v6) ∧ w'.cell? ⟨w.heap.size, 5, none⟩ = some (.int .u64 hi) ∧ w'.cell? ⟨w.heap.size, 6, none⟩ = some (.int .u64 lo)) (first | with_reducible assumption)
                          (first
                            | (go_at_call 15
                               (with_reducible refine (HND.out _ (by first | exact B0.out)).mono ?_)
                               rintro e w5 ⟨rfl, hb5⟩
                               have s5 := HBX.out _ (B0.out.trans (hb5.mono B0.out.size))
                               have BX := Lib.hid (B0.out.trans (hb5.mono B0.out.size))
                               clear hb5))
                        obtain ⟨x0, x1, x2, x3, x4, x5, x6⟩ := HBX.out _ BX.out
                        go_wp2_with fail
                        refine (HRT.out _).mono ?_
                        rintro e w6 ⟨rfl, hb6⟩
                        have B6 := Lib.hid (BX.out.trans (hb6.mono BX.out.size))
                        have C6 := Lib.hid (HW.out.trans (B6.out.mono HW.out.size))
                        obtain ⟨z0, z1, z2, z3, z4, z5, z6⟩ := HBX.out _ B6.out
                        clear hb6
                        go_wp2_with fail
                        refine (HHS.out _ B6.out).mono ?_
                        rintro e w7 ⟨rfl, hb7⟩
                        have C7 := Lib.hid (C6.out.trans (hb7.mono C6.out.size))
                        clear hb7
                        go_wp2_with fail
                        go_ret
                        exact ⟨rfl, C7.out⟩
end Go.Proofs.Ytamndmlaikgogaa.treE
