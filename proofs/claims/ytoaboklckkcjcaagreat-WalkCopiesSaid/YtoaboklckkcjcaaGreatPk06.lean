/- 3 texts in one. -/
import Derived.BigQuiet
import Derived.Deep.RegionHeld3
import Derived.OwnWalk
import Derived.Laws.AppendOwn
import Derived.Laws.OwnMore
import Derived.ArgAppend
import Derived.Deep.RegionLawGrows
import Derived.Test.YtoaboklckkcjcaaGreatPk05
/- Layer 16: why a node may not stand behind those of a tree. -/
namespace Go.Proofs.YtoaboklckkcjcaaGreat.treE
open Go.ChangeShapes Go.WideShapes Go.ChangeAt Go.RowKit
open Go.Proofs.YtoaboklckkcjcaaGreat.base Go.Proofs.YtoaboklckkcjcaaGreat.dfA Go.Proofs.YtoaboklckkcjcaaGreat.treA Go.Proofs.YtoaboklckkcjcaaGreat.treB Go.Proofs.YtoaboklckkcjcaaGreat.treC Go.Proofs.YtoaboklckkcjcaaGreat.treD
set_option linter.unusedVariables false

def nzA (v6 : Bool) (hi lo : Int) : Bool := v6 || !(hi == 0) || !(lo == 0)
theorem addr_ne (v6 : Bool) (hi lo : Int) (W : World) : (binOp .neq 65 (.agg #[.bool v6, .int .u64 hi, .int .u64 lo]) (.agg #[.bool false, .int .u64 0, .int .u64 0])).run Tryz.prog W = .ok (.bool (nzA v6 hi lo)) W := by
  unfold nzA
  cases v6 <;> cases e1 : (hi == 0) <;> cases e2 : (lo == 0) <;> go_simp <;> simp [e1, e2]
/-- Why a node may not stand behind nodes l; 0: it may. -/
def whyZ (l : List Nd) (n : Nd) : Int :=
  if (!(nameB n.nm) || decide (n.kind < 1) || decide (4 < n.kind)) = true then 1
  else if (decide (n.wt < 0) || decide (65535 < n.wt) || (n.kind == 1 && !(n.wt == 0))) = true then 17
  else if (n.kind == 1 && !(n.ab == -1)) = true then 16
  else if (!(n.kind == 1) && !((ndAt l n.ab).kind == n.kind - 1)) = true then 16
  else if (!(rightB n.v6 n.hi n.lo) || (!(n.kind == 4) && nzA n.v6 n.hi n.lo)) = true then 18
  else if hasB l n = true then 8 else 0
set_option maxRecDepth 100000 in
set_option maxHeartbeats 16000000 in
theorem why_any {t : Nat} {l : List Nd} {A : Option Addr} {c : Nat} {K : Option Addr} {kn kc : Nat} {w : World} (h : TreeAt w t l A c K kn kc) (n : Nd) (hl : l.length ≤ 2000) (hnm : n.nm.size ≤ 9223372036854775807) :
    Calls Tryz.prog 67 #[.pointer (some ⟨t, 0, none⟩), .agg n.cells] w fun o w' => o = .returned (.int .i64 (whyZ l n)) ∧ Below w.heap.size w w' := by
  obtain ⟨nm, kind, ab, wt, v6, hi, lo⟩ := n
  obtain ⟨w1, hw1⟩ : ∃ w1, w1 = (w.alloc (.cells #[.string nm, .int .i64 kind, .int .i64 ab, .int .i64 wt, .bool v6, .int .u64 hi, .int .u64 lo] 67)) := ⟨_, rfl⟩
  have HW := Lib.hid (show Below w.heap.size w w1 from hw1 ▸ (Below.refl w.heap.size w).alloc (Nat.le_refl _) _)
  have HB1 := Lib.hid (show Blk w1 w.heap.size 67 #[.string nm, .int .i64 kind, .int .i64 ab, .int .i64 wt, .bool v6, .int .u64 hi, .int .u64 lo] from hw1 ▸ Blk.new w _ _)
  have HT := Lib.hid (h.below HW.out)
  have HW1 := Lib.hid (show (w.alloc (.cells #[.string nm, .int .i64 kind, .int .i64 ab, .int .i64 wt, .bool v6, .int .u64 hi, .int .u64 lo] 67)) = w1 from hw1.symm)
  have HNM := Lib.hid (name_any nm w1 hnm)
  obtain ⟨y, hy⟩ : ∃ y, y = ndAt l ab := ⟨_, rfl⟩
  have HND := Lib.hid (show ∀ W, Below w1.heap.size w1 W → Calls Tryz.prog 30 #[.pointer (some ⟨t, 0, none⟩), .int .i64 ab] W fun e w' => e = .returned (.agg #[.string y.nm, .int .i64 y.kind, .int .i64 y.ab, .int .i64 y.wt, .bool y.v6, .int .u64 y.hi, .int .u64 y.lo]) ∧ Below W.heap.size W w' from fun W hb => hy ▸ node_any (HT.out.below hb) ab)
  have HRT := Lib.hid (right_any v6 hi lo)
  have HHS := Lib.hid (show ∀ W, Below w1.heap.size w1 W → Calls Tryz.prog 96 #[.pointer (some ⟨t, 0, none⟩), .agg #[.string nm, .int .i64 kind, .int .i64 ab, .int .i64 wt, .bool v6, .int .u64 hi, .int .u64 lo]] W fun o w' => o = .returned (.bool (hasB l ⟨nm, kind, ab, wt, v6, hi, lo⟩)) ∧ Below W.heap.size W w' from fun W hb => has_any (HT.out.below hb) ⟨nm, kind, ab, wt, v6, hi, lo⟩ hl)
  have HBX := Lib.hid (show ∀ W, Below w1.heap.size w1 W → (W.cell? ⟨w.heap.size, 0, none⟩ = some (.string nm) ∧ W.cell? ⟨w.heap.size, 1, none⟩ = some (.int .i64 kind) ∧ W.cell? ⟨w.heap.size, 2, none⟩ = some (.int .i64 ab) ∧ W.cell? ⟨w.heap.size, 3, none⟩ = some (.int .i64 wt) ∧ W.cell? ⟨w.heap.size, 4, none⟩ = some (.bool v6) ∧ W.cell? ⟨w.heap.size, 5, none⟩ = some (.int .u64 hi) ∧ W.cell? ⟨w.heap.size, 6, none⟩ = some (.int .u64 lo)) from fun W hb => by
    have h1 : Blk W w.heap.size 67 #[.string nm, .int .i64 kind, .int .i64 ab, .int .i64 wt, .bool v6, .int .u64 hi, .int .u64 lo] := (hb.block _ HB1.out.lt).trans HB1.out
    exact ⟨h1.cell 0, h1.cell 1, h1.cell 2, h1.cell 3, h1.cell 4, h1.cell 5, h1.cell 6⟩)
  have hne := fun W => addr_ne v6 hi lo W
  have hfd : ∀ W, (Instr.field 67 (.agg #[.string y.nm, .int .i64 y.kind, .int .i64 y.ab, .int .i64 y.wt, .bool y.v6, .int .u64 y.hi, .int .u64 y.lo]) 1).run Tryz.prog W = .ok (.int .i64 y.kind) W := fun _ => by kernel_rfl
  have B0 := Lib.hid (show Below w1.heap.size w1 w1.drew from (Below.refl _ _).drew)
  obtain ⟨b0, b1, b2, b3, b4, b5, b6⟩ := HBX.out w1 (Below.refl _ _)
  have HY := Lib.hid hy
  unfold Nd.cells
  clear h hw1 hy
  cases hnb : nameB nm with
  | false =>
    rw [show whyZ l ⟨nm, kind, ab, wt, v6, hi, lo⟩ = 1 by simp [whyZ, hnb]]
    rw [hnb] at HNM
    go_enter Tryz.func67, Tryz.ntmps67
    go_wp2_with fail
    rw [HW1.out]
    refine HNM.out.mono ?_
    rintro e w' ⟨rfl, rfl⟩
    go_wp2_with fail
    all_goals (go_ret; exact ⟨rfl, HW.out⟩)
  | true =>
    rw [hnb] at HNM
    by_cases hk1 : kind < 1
    · rw [show whyZ l ⟨nm, kind, ab, wt, v6, hi, lo⟩ = 1 by simp [whyZ, hnb, hk1]]
      go_enter Tryz.func67, Tryz.ntmps67
      go_wp2_with fail
      rw [HW1.out]
      refine HNM.out.mono ?_
      rintro e w' ⟨rfl, rfl⟩
      go_wp2_with fail
      all_goals (go_ret; exact ⟨rfl, HW.out⟩)
    · by_cases hk4 : 4 < kind
      · rw [show whyZ l ⟨nm, kind, ab, wt, v6, hi, lo⟩ = 1 by simp [whyZ, hnb, hk4]]
        go_enter Tryz.func67, Tryz.ntmps67
        go_wp2_with fail
        rw [HW1.out]
        refine HNM.out.mono ?_
        rintro e w' ⟨rfl, rfl⟩
        go_wp2_with fail
        all_goals (go_ret; exact ⟨rfl, HW.out⟩)
      · by_cases hw0 : wt < 0
        · rw [show whyZ l ⟨nm, kind, ab, wt, v6, hi, lo⟩ = 17 by simp [whyZ, hnb, hk1, hk4, hw0]]
          go_enter Tryz.func67, Tryz.ntmps67
          go_wp2_with fail
          rw [HW1.out]
          refine HNM.out.mono ?_
          rintro e w' ⟨rfl, rfl⟩
          go_wp2_with fail
          all_goals (go_ret; exact ⟨rfl, HW.out⟩)
        · by_cases hw9 : 65535 < wt
          · rw [show whyZ l ⟨nm, kind, ab, wt, v6, hi, lo⟩ = 17 by simp [whyZ, hnb, hk1, hk4, hw0, hw9]]
            go_enter Tryz.func67, Tryz.ntmps67
            go_wp2_with fail
            rw [HW1.out]
            refine HNM.out.mono ?_
            rintro e w' ⟨rfl, rfl⟩
            go_wp2_with fail
            all_goals (go_ret; exact ⟨rfl, HW.out⟩)
          · by_cases hk : kind = 1
            · subst hk
              by_cases hwz : wt = 0
              · subst hwz
                by_cases hab : ab = -1
                · subst hab
                  cases hr : rightB v6 hi lo with
                  | false =>
                    rw [hr] at HRT
                    rw [show whyZ l ⟨nm, 1, -1, 0, v6, hi, lo⟩ = 18 by simp [whyZ, hnb, hr]]
                    go_enter Tryz.func67, Tryz.ntmps67
                    go_wp2_with fail
                    rw [HW1.out]
                    refine HNM.out.mono ?_
                    rintro e w' ⟨rfl, rfl⟩
                    go_wp2_with fail
                    go_quiet (fail)
                    go_wp2_with fail
                    refine (HRT.out _).mono ?_
                    rintro e w6 ⟨rfl, hb6⟩
                    have B6 := Lib.hid ((below_drewN (Below.refl w1.heap.size w1) _).trans (hb6.mono (Nat.le_refl _)))
                    have C6 := Lib.hid (HW.out.trans (B6.out.mono HW.out.size))
                    obtain ⟨z0, z1, z2, z3, z4, z5, z6⟩ := HBX.out _ B6.out
                    clear hb6
                    go_wp2_with fail
                    go_ret
                    exact ⟨rfl, C6.out⟩
                  | true =>
                    rw [hr] at HRT
                    cases hnz : nzA v6 hi lo with
                    | true =>
                      rw [hnz] at hne
                      rw [show whyZ l ⟨nm, 1, -1, 0, v6, hi, lo⟩ = 18 by simp [whyZ, hnb, hr, hnz]]
                      go_enter Tryz.func67, Tryz.ntmps67
                      go_wp2_with fail
                      rw [HW1.out]
                      refine HNM.out.mono ?_
                      rintro e w' ⟨rfl, rfl⟩
                      go_wp2_with fail
                      go_quiet (fail)
                      go_wp2_with fail
                      refine (HRT.out _).mono ?_
                      rintro e w6 ⟨rfl, hb6⟩
                      have B6 := Lib.hid ((below_drewN (Below.refl w1.heap.size w1) _).trans (hb6.mono (Nat.le_refl _)))
                      have C6 := Lib.hid (HW.out.trans (B6.out.mono HW.out.size))
                      obtain ⟨z0, z1, z2, z3, z4, z5, z6⟩ := HBX.out _ B6.out
                      clear hb6
                      go_wp2_with fail
                      go_ret
                      exact ⟨rfl, C6.out⟩
                    | false =>
                      rw [hnz] at hne
                      cases hhs : hasB l ⟨nm, 1, -1, 0, v6, hi, lo⟩ with
                      | true =>
                        rw [hhs] at HHS
                        rw [show whyZ l ⟨nm, 1, -1, 0, v6, hi, lo⟩ = 8 by simp [whyZ, hnb, hr, hnz, hhs]]
                        go_enter Tryz.func67, Tryz.ntmps67
                        go_wp2_with fail
                        rw [HW1.out]
                        refine HNM.out.mono ?_
                        rintro e w' ⟨rfl, rfl⟩
                        go_wp2_with fail
                        go_quiet (fail)
                        go_wp2_with fail
                        refine (HRT.out _).mono ?_
                        rintro e w6 ⟨rfl, hb6⟩
                        have B6 := Lib.hid ((below_drewN (Below.refl w1.heap.size w1) _).trans (hb6.mono (Nat.le_refl _)))
                        have C6 := Lib.hid (HW.out.trans (B6.out.mono HW.out.size))
                        obtain ⟨z0, z1, z2, z3, z4, z5, z6⟩ := HBX.out _ B6.out
                        clear hb6
                        go_wp2_with fail
                        refine (HHS.out _ B6.out).mono ?_
                        rintro e w7 ⟨rfl, hb7⟩
                        have C7 := Lib.hid (C6.out.trans (hb7.mono C6.out.size))
                        clear hb7
                        go_wp2_with fail
                        go_ret
                        exact ⟨rfl, C7.out⟩
                      | false =>
                        rw [hhs] at HHS
                        rw [show whyZ l ⟨nm, 1, -1, 0, v6, hi, lo⟩ = 0 by simp [whyZ, hnb, hr, hnz, hhs]]
                        go_enter Tryz.func67, Tryz.ntmps67
                        go_wp2_with fail
                        rw [HW1.out]
                        refine HNM.out.mono ?_
                        rintro e w' ⟨rfl, rfl⟩
                        go_wp2_with fail
                        go_quiet (fail)
                        go_wp2_with fail
                        refine (HRT.out _).mono ?_
                        rintro e w6 ⟨rfl, hb6⟩
                        have B6 := Lib.hid ((below_drewN (Below.refl w1.heap.size w1) _).trans (hb6.mono (Nat.le_refl _)))
                        have C6 := Lib.hid (HW.out.trans (B6.out.mono HW.out.size))
                        obtain ⟨z0, z1, z2, z3, z4, z5, z6⟩ := HBX.out _ B6.out
                        clear hb6
                        go_wp2_with fail
                        refine (HHS.out _ B6.out).mono ?_
                        rintro e w7 ⟨rfl, hb7⟩
                        have C7 := Lib.hid (C6.out.trans (hb7.mono C6.out.size))
                        clear hb7
                        go_wp2_with fail
                        go_ret
                        exact ⟨rfl, C7.out⟩
                · rw [show whyZ l ⟨nm, 1, ab, 0, v6, hi, lo⟩ = 16 by simp [whyZ, hnb, hab]]
                  have hab2 : (ab == -1) = false := beq_false_of_ne hab
                  clear hab
                  go_enter Tryz.func67, Tryz.ntmps67
                  go_wp2_with fail
                  rw [HW1.out]
                  refine HNM.out.mono ?_
                  rintro e w' ⟨rfl, rfl⟩
                  go_wp2_with fail
                  all_goals (go_ret; exact ⟨rfl, HW.out⟩)
              · rw [show whyZ l ⟨nm, 1, ab, wt, v6, hi, lo⟩ = 17 by simp [whyZ, hnb, hw0, hw9, hwz]]
                have hwz2 : (wt == 0) = false := beq_false_of_ne hwz
                have hwz3 : (wt != 0) = true := by simp [hwz]
                clear hwz
                go_enter Tryz.func67, Tryz.ntmps67
                go_wp2_with fail
                rw [HW1.out]
                refine HNM.out.mono ?_
                rintro e w' ⟨rfl, rfl⟩
                go_wp2_with fail
                all_goals (go_ret; exact ⟨rfl, HW.out⟩)
            · have hk2 : (kind == 1) = false := beq_false_of_ne hk
              have hk3 : (kind != 1) = true := by simp [hk]
              have hwr : IntKind.i64.wrap (kind - 1) = kind - 1 := by rw [IntWalk.i64_in _ (by omega)]
              cases hyk : (y.kind == kind - 1) with
              | false =>
                have hyk3 : (y.kind != kind - 1) = true := by simp [bne, hyk]
                rw [show whyZ l ⟨nm, kind, ab, wt, v6, hi, lo⟩ = 16 by rw [HY.out] at hyk; simp [whyZ, hnb, hk1, hk4, hw0, hw9, hk2, hyk]]
                go_enter Tryz.func67, Tryz.ntmps67
                go_wp2_with fail
                rw [HW1.out]
                refine HNM.out.mono ?_
                rintro e w' ⟨rfl, rfl⟩
                have s0 := HBX.out _ B0.out
                go_wp2_with fail
                clear b0 b1 b2 b3 b4 b5 b6
                go_region_held3 (fun w' => w'.cell? ⟨w.heap.size, 0, none⟩ = some (.string nm) ∧ w'.cell? ⟨w.heap.size, 1, none⟩ = some (.int .i64 kind) ∧ w'.cell? ⟨w.heap.size, 2, none⟩ = some (.int .i64 ab) ∧ w'.cell? ⟨w.heap.size, 3, none⟩ = some (.int .i64 wt) ∧ w'.cell? ⟨w.heap.size, 4, none⟩ = some (.bool v6) ∧ w'.cell? ⟨w.heap.size, 5, none⟩ = some (.int .u64 hi) ∧ w'.cell? ⟨w.heap.size, 6, none⟩ = some (.int .u64 lo)) (first | with_reducible assumption)
                  (first
                    | (go_at_call 30
                       (with_reducible refine (HND.out _ (by first | exact B0.out)).mono ?_)
                       rintro e w5 ⟨rfl, hb5⟩
                       have s5 := HBX.out _ (B0.out.trans (hb5.mono B0.out.size))
                       have BX := Lib.hid (B0.out.trans (hb5.mono B0.out.size))
                       clear hb5))
                go_wp2_with fail
                go_ret
                exact ⟨rfl, HW.out.trans (BX.out.mono HW.out.size)⟩
              | true =>
                have hyk3 : (y.kind != kind - 1) = false := by simp [bne, hyk]
                have HYK := Lib.hid (show ((ndAt l ab).kind == kind - 1) = true from HY.out ▸ hyk)
                by_cases hkf : kind = 4
                · have hkf2 : (kind == 4) = true := by simp [hkf]
                  have hkf3 : (kind != 4) = false := by simp [hkf]
                  clear hkf hk
                  cases hr : rightB v6 hi lo with
                  | false =>
                    rw [hr] at HRT
                    rw [show whyZ l ⟨nm, kind, ab, wt, v6, hi, lo⟩ = 18 by simp [whyZ, hnb, hk1, hk4, hw0, hw9, hk2, HYK.out, hkf2, hr]]
                    go_enter Tryz.func67, Tryz.ntmps67
                    go_wp2_with fail
                    rw [HW1.out]
                    refine HNM.out.mono ?_
                    rintro e w' ⟨rfl, rfl⟩
                    have s0 := HBX.out _ B0.out
                    go_wp2_with fail
                    clear b0 b1 b2 b3 b4 b5 b6
                    go_region_held3 (fun w' => w'.cell? ⟨w.heap.size, 0, none⟩ = some (.string nm) ∧ w'.cell? ⟨w.heap.size, 1, none⟩ = some (.int .i64 kind) ∧ w'.cell? ⟨w.heap.size, 2, none⟩ = some (.int .i64 ab) ∧ w'.cell? ⟨w.heap.size, 3, none⟩ = some (.int .i64 wt) ∧ w'.cell? ⟨w.heap.size, 4, none⟩ = some (.bool v6) ∧ w'.cell? ⟨w.heap.size, 5, none⟩ = some (.int .u64 hi) ∧ w'.cell? ⟨w.heap.size, 6, none⟩ = some (.int .u64 lo)) (first | with_reducible assumption)
                      (first
                        | (go_at_call 30
                           (with_reducible refine (HND.out _ (by first | exact B0.out)).mono ?_)
                           rintro e w5 ⟨rfl, hb5⟩
                           have s5 := HBX.out _ (B0.out.trans (hb5.mono B0.out.size))
                           have BX := Lib.hid (B0.out.trans (hb5.mono B0.out.size))
                           clear hb5))
                    obtain ⟨x0, x1, x2, x3, x4, x5, x6⟩ := HBX.out _ BX.out
                    go_wp2_with fail
                    refine (HRT.out _).mono ?_
                    rintro e w6 ⟨rfl, hb6⟩
                    have B6 := Lib.hid (BX.out.trans (hb6.mono BX.out.size))
                    have C6 := Lib.hid (HW.out.trans (B6.out.mono HW.out.size))
                    obtain ⟨z0, z1, z2, z3, z4, z5, z6⟩ := HBX.out _ B6.out
                    clear hb6
                    go_wp2_with fail
                    go_ret
                    exact ⟨rfl, C6.out⟩
                  | true =>
                    rw [hr] at HRT
                    cases hhs : hasB l ⟨nm, kind, ab, wt, v6, hi, lo⟩ with
                    | true =>
                      rw [hhs] at HHS
                      rw [show whyZ l ⟨nm, kind, ab, wt, v6, hi, lo⟩ = 8 by simp [whyZ, hnb, hk1, hk4, hw0, hw9, hk2, HYK.out, hkf2, hr, hhs]]
                      go_enter Tryz.func67, Tryz.ntmps67
                      go_wp2_with fail
                      rw [HW1.out]
                      refine HNM.out.mono ?_
                      rintro e w' ⟨rfl, rfl⟩
                      have s0 := HBX.out _ B0.out
                      go_wp2_with fail
                      clear b0 b1 b2 b3 b4 b5 b6
                      go_region_held3 (fun w' => w'.cell? ⟨w.heap.size, 0, none⟩ = some (.string nm) ∧ w'.cell? ⟨w.heap.size, 1, none⟩ = some (.int .i64 kind) ∧ w'.cell? ⟨w.heap.size, 2, none⟩ = some (.int .i64 ab) ∧ w'.cell? ⟨w.heap.size, 3, none⟩ = some (.int .i64 wt) ∧ w'.cell? ⟨w.heap.size, 4, none⟩ = some (.bool v6) ∧ w'.cell? ⟨w.heap.size, 5, none⟩ = some (.int .u64 hi) ∧ w'.cell? ⟨w.heap.size, 6, none⟩ = some (.int .u64 lo)) (first | with_reducible assumption)
                        (first
                          | (go_at_call 30
                             (with_reducible refine (HND.out _ (by first | exact B0.out)).mono ?_)
                             rintro e w5 ⟨rfl, hb5⟩
                             have s5 := HBX.out _ (B0.out.trans (hb5.mono B0.out.size))
                             have BX := Lib.hid (B0.out.trans (hb5.mono B0.out.size))
                             clear hb5))
                      obtain ⟨x0, x1, x2, x3, x4, x5, x6⟩ := HBX.out _ BX.out
                      go_wp2_with fail
                      refine (HRT.out _).mono ?_
                      rintro e w6 ⟨rfl, hb6⟩
                      have B6 := Lib.hid (BX.out.trans (hb6.mono BX.out.size))
                      have C6 := Lib.hid (HW.out.trans (B6.out.mono HW.out.size))
                      obtain ⟨z0, z1, z2, z3, z4, z5, z6⟩ := HBX.out _ B6.out
                      clear hb6
                      go_wp2_with fail
                      refine (HHS.out _ B6.out).mono ?_
                      rintro e w7 ⟨rfl, hb7⟩
                      have C7 := Lib.hid (C6.out.trans (hb7.mono C6.out.size))
                      clear hb7
                      go_wp2_with fail
                      go_ret
                      exact ⟨rfl, C7.out⟩
                    | false =>
                      rw [hhs] at HHS
                      rw [show whyZ l ⟨nm, kind, ab, wt, v6, hi, lo⟩ = 0 by simp [whyZ, hnb, hk1, hk4, hw0, hw9, hk2, HYK.out, hkf2, hr, hhs]]
                      go_enter Tryz.func67, Tryz.ntmps67
                      go_wp2_with fail
                      rw [HW1.out]
                      refine HNM.out.mono ?_
                      rintro e w' ⟨rfl, rfl⟩
                      have s0 := HBX.out _ B0.out
                      go_wp2_with fail
                      clear b0 b1 b2 b3 b4 b5 b6
                      go_region_held3 (fun w' => w'.cell? ⟨w.heap.size, 0, none⟩ = some (.string nm) ∧ w'.cell? ⟨w.heap.size, 1, none⟩ = some (.int .i64 kind) ∧ w'.cell? ⟨w.heap.size, 2, none⟩ = some (.int .i64 ab) ∧ w'.cell? ⟨w.heap.size, 3, none⟩ = some (.int .i64 wt) ∧ w'.cell? ⟨w.heap.size, 4, none⟩ = some (.bool v6) ∧ w'.cell? ⟨w.heap.size, 5, none⟩ = some (.int .u64 hi) ∧ w'.cell? ⟨w.heap.size, 6, none⟩ = some (.int .u64 lo)) (first | with_reducible assumption)
                        (first
                          | (go_at_call 30
                             (with_reducible refine (HND.out _ (by first | exact B0.out)).mono ?_)
                             rintro e w5 ⟨rfl, hb5⟩
                             have s5 := HBX.out _ (B0.out.trans (hb5.mono B0.out.size))
                             have BX := Lib.hid (B0.out.trans (hb5.mono B0.out.size))
                             clear hb5))
                      obtain ⟨x0, x1, x2, x3, x4, x5, x6⟩ := HBX.out _ BX.out
                      go_wp2_with fail
                      refine (HRT.out _).mono ?_
                      rintro e w6 ⟨rfl, hb6⟩
                      have B6 := Lib.hid (BX.out.trans (hb6.mono BX.out.size))
                      have C6 := Lib.hid (HW.out.trans (B6.out.mono HW.out.size))
                      obtain ⟨z0, z1, z2, z3, z4, z5, z6⟩ := HBX.out _ B6.out
                      clear hb6
                      go_wp2_with fail
                      refine (HHS.out _ B6.out).mono ?_
                      rintro e w7 ⟨rfl, hb7⟩
                      have C7 := Lib.hid (C6.out.trans (hb7.mono C6.out.size))
                      clear hb7
                      go_wp2_with fail
                      go_ret
                      exact ⟨rfl, C7.out⟩
                · have hkf2 : (kind == 4) = false := beq_false_of_ne hkf
                  have hkf3 : (kind != 4) = true := by simp [hkf]
                  clear hkf hk
                  cases hr : rightB v6 hi lo with
                  | false =>
                    rw [hr] at HRT
                    rw [show whyZ l ⟨nm, kind, ab, wt, v6, hi, lo⟩ = 18 by simp [whyZ, hnb, hk1, hk4, hw0, hw9, hk2, HYK.out, hkf2, hr]]
                    go_enter Tryz.func67, Tryz.ntmps67
                    go_wp2_with fail
                    rw [HW1.out]
                    refine HNM.out.mono ?_
                    rintro e w' ⟨rfl, rfl⟩
                    have s0 := HBX.out _ B0.out
                    go_wp2_with fail
                    clear b0 b1 b2 b3 b4 b5 b6
                    go_region_held3 (fun w' => w'.cell? ⟨w.heap.size, 0, none⟩ = some (.string nm) ∧ w'.cell? ⟨w.heap.size, 1, none⟩ = some (.int .i64 kind) ∧ w'.cell? ⟨w.heap.size, 2, none⟩ = some (.int .i64 ab) ∧ w'.cell? ⟨w.heap.size, 3, none⟩ = some (.int .i64 wt) ∧ w'.cell? ⟨w.heap.size, 4, none⟩ = some (.bool v6) ∧ w'.cell? ⟨w.heap.size, 5, none⟩ = some (.int .u64 hi) ∧ w'.cell? ⟨w.heap.size, 6, none⟩ = some (.int .u64 lo)) (first | with_reducible assumption)
                      (first
                        | (go_at_call 30
                           (with_reducible refine (HND.out _ (by first | exact B0.out)).mono ?_)
                           rintro e w5 ⟨rfl, hb5⟩
                           have s5 := HBX.out _ (B0.out.trans (hb5.mono B0.out.size))
                           have BX := Lib.hid (B0.out.trans (hb5.mono B0.out.size))
                           clear hb5))
                    obtain ⟨x0, x1, x2, x3, x4, x5, x6⟩ := HBX.out _ BX.out
                    go_wp2_with fail
                    refine (HRT.out _).mono ?_
                    rintro e w6 ⟨rfl, hb6⟩
                    have B6 := Lib.hid (BX.out.trans (hb6.mono BX.out.size))
                    have C6 := Lib.hid (HW.out.trans (B6.out.mono HW.out.size))
                    obtain ⟨z0, z1, z2, z3, z4, z5, z6⟩ := HBX.out _ B6.out
                    clear hb6
                    go_wp2_with fail
                    go_ret
                    exact ⟨rfl, C6.out⟩
                  | true =>
                    rw [hr] at HRT
                    cases hnz : nzA v6 hi lo with
                    | true =>
                      rw [hnz] at hne
                      rw [show whyZ l ⟨nm, kind, ab, wt, v6, hi, lo⟩ = 18 by simp [whyZ, hnb, hk1, hk4, hw0, hw9, hk2, HYK.out, hkf2, hr, hnz]]
                      go_enter Tryz.func67, Tryz.ntmps67
                      go_wp2_with fail
                      rw [HW1.out]
                      refine HNM.out.mono ?_
                      rintro e w' ⟨rfl, rfl⟩
                      have s0 := HBX.out _ B0.out
                      go_wp2_with fail
                      clear b0 b1 b2 b3 b4 b5 b6
                      go_region_held3 (fun w' => w'.cell? ⟨w.heap.size, 0, none⟩ = some (.string nm) ∧ w'.cell? ⟨w.heap.size, 1, none⟩ = some (.int .i64 kind) ∧ w'.cell? ⟨w.heap.size, 2, none⟩ = some (.int .i64 ab) ∧ w'.cell? ⟨w.heap.size, 3, none⟩ = some (.int .i64 wt) ∧ w'.cell? ⟨w.heap.size, 4, none⟩ = some (.bool v6) ∧ w'.cell? ⟨w.heap.size, 5, none⟩ = some (.int .u64 hi) ∧ w'.cell? ⟨w.heap.size, 6, none⟩ = some (.int .u64 lo)) (first | with_reducible assumption)
                        (first
                          | (go_at_call 30
                             (with_reducible refine (HND.out _ (by first | exact B0.out)).mono ?_)
                             rintro e w5 ⟨rfl, hb5⟩
                             have s5 := HBX.out _ (B0.out.trans (hb5.mono B0.out.size))
                             have BX := Lib.hid (B0.out.trans (hb5.mono B0.out.size))
                             clear hb5))
                      obtain ⟨x0, x1, x2, x3, x4, x5, x6⟩ := HBX.out _ BX.out
                      go_wp2_with fail
                      refine (HRT.out _).mono ?_
                      rintro e w6 ⟨rfl, hb6⟩
                      have B6 := Lib.hid (BX.out.trans (hb6.mono BX.out.size))
                      have C6 := Lib.hid (HW.out.trans (B6.out.mono HW.out.size))
                      obtain ⟨z0, z1, z2, z3, z4, z5, z6⟩ := HBX.out _ B6.out
                      clear hb6
                      go_wp2_with fail
                      go_ret
                      exact ⟨rfl, C6.out⟩
                    | false =>
                      rw [hnz] at hne
                      cases hhs : hasB l ⟨nm, kind, ab, wt, v6, hi, lo⟩ with
                      | true =>
                        rw [hhs] at HHS
                        rw [show whyZ l ⟨nm, kind, ab, wt, v6, hi, lo⟩ = 8 by simp [whyZ, hnb, hk1, hk4, hw0, hw9, hk2, HYK.out, hkf2, hr, hnz, hhs]]
                        go_enter Tryz.func67, Tryz.ntmps67
                        go_wp2_with fail
                        rw [HW1.out]
                        refine HNM.out.mono ?_
                        rintro e w' ⟨rfl, rfl⟩
                        have s0 := HBX.out _ B0.out
                        go_wp2_with fail
                        clear b0 b1 b2 b3 b4 b5 b6
                        go_region_held3 (fun w' => w'.cell? ⟨w.heap.size, 0, none⟩ = some (.string nm) ∧ w'.cell? ⟨w.heap.size, 1, none⟩ = some (.int .i64 kind) ∧ w'.cell? ⟨w.heap.size, 2, none⟩ = some (.int .i64 ab) ∧ w'.cell? ⟨w.heap.size, 3, none⟩ = some (.int .i64 wt) ∧ w'.cell? ⟨w.heap.size, 4, none⟩ = some (.bool v6) ∧ w'.cell? ⟨w.heap.size, 5, none⟩ = some (.int .u64 hi) ∧ w'.cell? ⟨w.heap.size, 6, none⟩ = some (.int .u64 lo)) (first | with_reducible assumption)
                          (first
                            | (go_at_call 30
                               (with_reducible refine (HND.out _ (by first | exact B0.out)).mono ?_)
                               rintro e w5 ⟨rfl, hb5⟩
                               have s5 := HBX.out _ (B0.out.trans (hb5.mono B0.out.size))
                               have BX := Lib.hid (B0.out.trans (hb5.mono B0.out.size))
                               clear hb5))
                        obtain ⟨x0, x1, x2, x3, x4, x5, x6⟩ := HBX.out _ BX.out
                        go_wp2_with fail
                        refine (HRT.out _).mono ?_
                        rintro e w6 ⟨rfl, hb6⟩
                        have B6 := Lib.hid (BX.out.trans (hb6.mono BX.out.size))
                        have C6 := Lib.hid (HW.out.trans (B6.out.mono HW.out.size))
                        obtain ⟨z0, z1, z2, z3, z4, z5, z6⟩ := HBX.out _ B6.out
                        clear hb6
                        go_wp2_with fail
                        refine (HHS.out _ B6.out).mono ?_
                        rintro e w7 ⟨rfl, hb7⟩
                        have C7 := Lib.hid (C6.out.trans (hb7.mono C6.out.size))
                        clear hb7
                        go_wp2_with fail
                        go_ret
                        exact ⟨rfl, C7.out⟩
                      | false =>
                        rw [hhs] at HHS
                        rw [show whyZ l ⟨nm, kind, ab, wt, v6, hi, lo⟩ = 0 by simp [whyZ, hnb, hk1, hk4, hw0, hw9, hk2, HYK.out, hkf2, hr, hnz, hhs]]
                        go_enter Tryz.func67, Tryz.ntmps67
                        go_wp2_with fail
                        rw [HW1.out]
                        refine HNM.out.mono ?_
                        rintro e w' ⟨rfl, rfl⟩
                        have s0 := HBX.out _ B0.out
                        go_wp2_with fail
                        clear b0 b1 b2 b3 b4 b5 b6
                        go_region_held3 (fun w' => w'.cell? ⟨w.heap.size, 0, none⟩ = some (.string nm) ∧ w'.cell? ⟨w.heap.size, 1, none⟩ = some (.int .i64 kind) ∧ w'.cell? ⟨w.heap.size, 2, none⟩ = some (.int .i64 ab) ∧ w'.cell? ⟨w.heap.size, 3, none⟩ = some (.int .i64 wt) ∧ w'.cell? ⟨w.heap.size, 4, none⟩ = some (.bool v6) ∧ w'.cell? ⟨w.heap.size, 5, none⟩ = some (.int .u64 hi) ∧ w'.cell? ⟨w.heap.size, 6, none⟩ = some (.int .u64 lo)) (first | with_reducible assumption)
                          (first
                            | (go_at_call 30
                               (with_reducible refine (HND.out _ (by first | exact B0.out)).mono ?_)
                               rintro e w5 ⟨rfl, hb5⟩
                               have s5 := HBX.out _ (B0.out.trans (hb5.mono B0.out.size))
                               have BX := Lib.hid (B0.out.trans (hb5.mono B0.out.size))
                               clear hb5))
                        obtain ⟨x0, x1, x2, x3, x4, x5, x6⟩ := HBX.out _ BX.out
                        go_wp2_with fail
                        refine (HRT.out _).mono ?_
                        rintro e w6 ⟨rfl, hb6⟩
                        have B6 := Lib.hid (BX.out.trans (hb6.mono BX.out.size))
                        have C6 := Lib.hid (HW.out.trans (B6.out.mono HW.out.size))
                        obtain ⟨z0, z1, z2, z3, z4, z5, z6⟩ := HBX.out _ B6.out
                        clear hb6
                        go_wp2_with fail
                        refine (HHS.out _ B6.out).mono ?_
                        rintro e w7 ⟨rfl, hb7⟩
                        have C7 := Lib.hid (C6.out.trans (hb7.mono C6.out.size))
                        clear hb7
                        go_wp2_with fail
                        go_ret
                        exact ⟨rfl, C7.out⟩
end Go.Proofs.YtoaboklckkcjcaaGreat.treE
/- Layer 16: a tree that grows in memory. -/
namespace Go.Proofs.YtoaboklckkcjcaaGreat.treG
open Go.ChangeShapes Go.WideShapes Go.ChangeAt Go.RowKit
open Go.Proofs.YtoaboklckkcjcaaGreat.base Go.Proofs.YtoaboklckkcjcaaGreat.dfA Go.Proofs.YtoaboklckkcjcaaGreat.treB Go.Proofs.YtoaboklckkcjcaaGreat.treD
set_option linter.unusedVariables false

def flatN (l : List Nd) : List Value := l.flatMap fun e => e.cells.toList
theorem flatN_len (l : List Nd) : (flatN l).length = l.length * 7 := by
  induction l with
  | nil => rfl
  | cons a l ih =>
    show (a.cells.toList ++ flatN l).length = _
    rw [List.length_append, ih, List.length_cons]
    have : a.cells.toList.length = 7 := rfl
    omega
theorem flatN_snoc (l : List Nd) (e : Nd) : flatN (l ++ [e]) = flatN l ++ e.cells.toList := by
  unfold flatN
  rw [List.flatMap_append]
  simp
theorem flatN_at (l : List Nd) : ∀ (j : Nat) (hj : j < l.length) (i : Nat), i < 7 → (flatN l)[j * 7 + i]? = (l[j]).cells[i]? := by
  induction l with
  | nil => intro j hj; exact absurd hj (by simp)
  | cons a l ih =>
    intro j hj i hi
    show (a.cells.toList ++ flatN l)[j * 7 + i]? = _
    have h7 : a.cells.toList.length = 7 := rfl
    cases j with
    | zero =>
      rw [List.getElem?_append_left (by omega)]
      simp
    | succ j =>
      rw [List.getElem?_append_right (by omega), h7, show (j + 1) * 7 + i - 7 = j * 7 + i by omega, ih j (by simpa using hj) i hi]
      simp
theorem own_far {w w' : World} {B : Nat} {e : TypeId} {size : Nat} {v : Value} {n : Nat} {xs : List Value} (h : w.ownsRow B e size v n xs) (hb : ∀ k, v.ownBlock = some k → w'.heap[k]? = w.heap[k]?) : w'.ownsRow B e size v n xs := by
  refine ⟨h.1, ?_⟩
  rcases h.2 with h0 | ⟨g, cap, cur, e1, e2, e3, e4⟩
  · exact .inl h0
  · exact .inr ⟨g, cap, cur, e1, e2, (hb g (by rw [e1]; rfl)).trans e3, e4⟩
/-- Is a node right below node a? -/
def kidB (e : Nd) (a : Nat) : Bool := e.kind != 1 && e.ab == (a : Int)
/-- The kids of node a among the first k nodes. -/
def kidsL (l : List Nd) : Nat → Nat → List Int
  | 0, _ => []
  | k + 1, a => if kidB (l.getD k zNd) a = true then kidsL l k a ++ [(k : Int)] else kidsL l k a
/-- One kid more of node a. -/
def setK (kd : Nat → List Int) (a : Nat) (x : Int) : Nat → List Int := fun j => if j = a then kd a ++ [x] else kd j
theorem setK_at (kd : Nat → List Int) (a : Nat) (x : Int) : setK kd a x a = kd a ++ [x] := if_pos rfl
theorem setK_ne (kd : Nat → List Int) (a : Nat) (x : Int) {j : Nat} (h : j ≠ a) : setK kd a x j = kd j := if_neg h
theorem kidsL_le (l : List Nd) (k a : Nat) : (kidsL l k a).length ≤ k := by
  induction k with
  | zero => exact Nat.le_refl _
  | succ k ih =>
    unfold kidsL
    split
    · rw [List.length_append]; exact Nat.succ_le_succ ih
    · exact Nat.le_succ_of_le ih
theorem kidsL_level {l : List Nd} {k : Nat} (hk : k < l.length) (h : (l[k]).kind = 1) : kidsL l (k + 1) = kidsL l k := by
  funext a
  have h1 : l.getD k zNd = l[k] := by rw [List.getD_eq_getElem?_getD, List.getElem?_eq_getElem hk]; rfl
  have h2 : kidB (l.getD k zNd) a = false := by unfold kidB; rw [h1, h]; rfl
  show (if kidB (l.getD k zNd) a = true then kidsL l k a ++ [(k : Int)] else kidsL l k a) = _
  rw [h2]; rfl
theorem kidsL_sub {l : List Nd} {k a : Nat} (hk : k < l.length) (h : (l[k]).kind ≠ 1) (ha : (l[k]).ab = (a : Int)) : kidsL l (k + 1) = setK (kidsL l k) a k := by
  funext j
  have h1 : l.getD k zNd = l[k] := by rw [List.getD_eq_getElem?_getD, List.getElem?_eq_getElem hk]; rfl
  show (if kidB (l.getD k zNd) j = true then kidsL l k j ++ [(k : Int)] else kidsL l k j) = _
  by_cases hj : j = a
  · subst hj
    have h2 : kidB (l.getD k zNd) j = true := by unfold kidB; rw [h1, ha]; simp [h]
    rw [h2, setK_at, if_pos rfl]
  · have h2 : kidB (l.getD k zNd) j = false := by
      unfold kidB; rw [h1, ha]
      have : ((a : Int) == (j : Int)) = false := beq_false_of_ne (by omega)
      rw [this, Bool.and_false]
    rw [h2, setK_ne _ _ _ hj]; rfl
theorem kidsL_none {l : List Nd} {a : Nat} : ∀ {k : Nat}, k ≤ l.length → (∀ j (hj : j < l.length), j < k → (l[j]).kind ≠ 1 → (l[j]).ab ≠ (a : Int)) → kidsL l k a = [] := by
  intro k
  induction k with
  | zero => intro _ _; rfl
  | succ k ih =>
    intro hk h
    have hkl : k < l.length := by omega
    have h1 : l.getD k zNd = l[k] := by rw [List.getD_eq_getElem?_getD, List.getElem?_eq_getElem hkl]; rfl
    have h2 : kidB (l.getD k zNd) a = false := by
      unfold kidB; rw [h1]
      by_cases hq : (l[k]).kind = 1
      · rw [hq]; rfl
      · have := beq_false_of_ne (h k hkl (by omega) hq)
        rw [this, Bool.and_false]
    show (if kidB (l.getD k zNd) a = true then kidsL l k a ++ [(k : Int)] else kidsL l k a) = _
    rw [h2]
    exact ih (by omega) (fun j hj hjk => h j hj (by omega))
/-- A tree as it grows: nodes l, and of the first n the kids, kd. -/
structure Grow (T : Nat) (w : World) (l : List Nd) (n : Nat) (m : Nat → List Int) (nv kv : Value) (ks : List Value) : Prop where
  tree : Blk w T 116 #[nv, kv]
  nodes : w.ownsRow (T + 1) 67 7 nv l.length (flatN l)
  kids : w.ownsRow (T + 1) 23 1 kv n ks
  each : ∀ (j : Nat) (u : Value), ks[j]? = some u → OwnI w (T + 1) u (m j)
  nk : ∀ g, nv.ownBlock = some g → kv.ownBlock ≠ some g
  nj : ∀ (j : Nat) (u : Value) (g : Nat), ks[j]? = some u → u.ownBlock = some g → nv.ownBlock ≠ some g ∧ kv.ownBlock ≠ some g
  jj : ∀ (i j : Nat) (u v : Value) (g : Nat), i ≠ j → ks[i]? = some u → ks[j]? = some v → u.ownBlock = some g → v.ownBlock ≠ some g
section
variable {T : Nat} {w w1 w2 : World} {l : List Nd} {n : Nat} {m : Nat → List Int} {nv kv nv' kv' : Value} {ks : List Value}
theorem Grow.keep (h : Grow T w l n m nv kv ks) (hb : ∀ k, k < w.heap.size → w1.heap[k]? = w.heap[k]?) : Grow T w1 l n m nv kv ks :=
  ⟨(hb _ h.tree.lt).trans h.tree, own_far h.nodes fun k e => hb k (h.nodes.lt k e).2, own_far h.kids fun k e => hb k (h.kids.lt k e).2,
    fun j u hu => by
      have o := h.each j u hu
      exact o.far fun k e => hb k (o.lt k e).2, h.nk, h.nj, h.jj⟩
theorem Grow.below (h : Grow T w l n m nv kv ks) (hb : Below w.heap.size w w1) : Grow T w1 l n m nv kv ks := h.keep fun k hk => hb.block k hk
theorem Grow.new (w : World) : Grow w.heap.size (w.alloc (.cells #[.slice none 0 0, .slice none 0 0] 116)) [] 0 (fun _ => []) (.slice none 0 0) (.slice none 0 0) [] :=
  ⟨Blk.new w _ _, World.ownsRow_nil _ _ _ 7, World.ownsRow_nil _ _ _ 1, (fun j u hu => by simp at hu), (fun g e => by cases e), (fun j u g hu => by simp at hu), (fun i j u v g _ hu => by simp at hu)⟩
/-- A node more. -/
theorem Grow.node (h : Grow T w l n m nv kv ks) (hb : Below w.heap.size w w1) (e : Nd) (ho : w2.ownsRow (T + 1) 67 7 nv' (l.length + 1) (flatN l ++ e.cells.toList)) (hg : w1.grownBy w2 nv.ownBlock)
    (hn : ∀ g, nv'.ownBlock = some g → nv.ownBlock = some g ∨ w1.heap.size ≤ g) : Grow T (w2.setCell ⟨T, 0, none⟩ nv') (l ++ [e]) n m nv' kv ks := by
  have hT : some T ≠ nv.ownBlock := fun e => by have := (h.nodes.lt T e.symm).1; omega
  have hT1 : Blk w1 T 116 #[nv, kv] := (hb.block _ h.tree.lt).trans h.tree
  have key : ∀ k, T + 1 ≤ k → k < w.heap.size → nv.ownBlock ≠ some k → (w2.setCell ⟨T, 0, none⟩ nv').heap[k]? = w.heap[k]? := fun k h1 h2 h3 =>
    ((Below.heap_setCell w2 ⟨T, 0, none⟩ nv' k (by show k ≠ T; omega)).trans (hg.block k (Nat.lt_of_lt_of_le h2 hb.size) (fun e => h3 e.symm))).trans (hb.block k h2)
  refine ⟨(hT1.grown hg hT).set_ 0 nv', ?_, own_far h.kids fun k e => key k (h.kids.lt k e).1 (h.kids.lt k e).2 (fun e2 => h.nk k e2 e), ?_, ?_, ?_, h.jj⟩
  · rw [flatN_snoc, List.length_append]
    exact own_far ho fun k e => Below.heap_setCell w2 ⟨T, 0, none⟩ nv' k (by show k ≠ T; have := (ho.lt k e).1; omega)
  · intro j u hu
    have o := h.each j u hu
    exact o.far fun k e => key k (o.lt k e).1 (o.lt k e).2 (h.nj j u k hu e).1
  · intro g e1 e2
    rcases hn g e1 with h1 | h1
    · exact h.nk g h1 e2
    · have := (h.kids.lt g e2).2; have := hb.size; omega
  · intro j u g hu e1
    refine ⟨fun e2 => ?_, (h.nj j u g hu e1).2⟩
    rcases hn g e2 with h1 | h1
    · exact (h.nj j u g hu e1).1 h1
    · have o := h.each j u hu
      have := (o.lt g e1).2; have := hb.size; omega
/-- A node's kids, none as yet. -/
theorem Grow.kid (h : Grow T w l n m nv kv ks) (hm : m n = []) (hb : Below w.heap.size w w1) (ho : w2.ownsRow (T + 1) 23 1 kv' (n + 1) (ks ++ [.slice none 0 0])) (hg : w1.grownBy w2 kv.ownBlock)
    (hn : ∀ g, kv'.ownBlock = some g → kv.ownBlock = some g ∨ w1.heap.size ≤ g) : Grow T (w2.setCell ⟨T, 1, none⟩ kv') l (n + 1) m nv kv' (ks ++ [.slice none 0 0]) := by
  have hT : some T ≠ kv.ownBlock := fun e => by have := (h.kids.lt T e.symm).1; omega
  have hT1 : Blk w1 T 116 #[nv, kv] := (hb.block _ h.tree.lt).trans h.tree
  have key : ∀ k, T + 1 ≤ k → k < w.heap.size → kv.ownBlock ≠ some k → (w2.setCell ⟨T, 1, none⟩ kv').heap[k]? = w.heap[k]? := fun k h1 h2 h3 =>
    ((Below.heap_setCell w2 ⟨T, 1, none⟩ kv' k (by show k ≠ T; omega)).trans (hg.block k (Nat.lt_of_lt_of_le h2 hb.size) (fun e => h3 e.symm))).trans (hb.block k h2)
  have old : ∀ (j : Nat) (u : Value) (g : Nat), (ks ++ [Value.slice none 0 0])[j]? = some u → u.ownBlock = some g → ks[j]? = some u := fun j u g hu e => by
    rcases Nat.lt_or_ge j ks.length with hj | hj
    · rwa [List.getElem?_append_left hj] at hu
    · rw [List.getElem?_append_right hj] at hu
      rcases hq : j - ks.length with _ | q
      · rw [hq] at hu
        simp at hu
        subst hu
        cases e
      · rw [hq] at hu
        simp at hu
  refine ⟨(hT1.grown hg hT).set_ 1 kv', own_far h.nodes fun k e => key k (h.nodes.lt k e).1 (h.nodes.lt k e).2 (h.nk k e), own_far ho fun k e => Below.heap_setCell w2 ⟨T, 1, none⟩ kv' k (by show k ≠ T; have := (ho.lt k e).1; omega), ?_, ?_, ?_, ?_⟩
  · intro j u hu
    rcases hq : u.ownBlock with _ | g
    · rcases Nat.lt_or_ge j ks.length with hj | hj
      · rw [List.getElem?_append_left hj] at hu
        have o := h.each j u hu
        exact o.far (fun k e => by rw [hq] at e; cases e)
      · rw [List.getElem?_append_right hj] at hu
        rcases hq2 : j - ks.length with _ | q
        · rw [hq2] at hu
          simp at hu
          subst hu
          have hjn : j = n := by have := h.kids.1; omega
          subst hjn
          rw [hm]
          exact World.ownsRow_nil _ _ _ 1
        · rw [hq2] at hu
          simp at hu
    · have o := h.each j u (old j u g hu hq)
      exact o.far fun k e => key k (o.lt k e).1 (o.lt k e).2 (h.nj j u k (old j u g hu hq) e).2
  · intro g e1 e2
    rcases hn g e2 with h1 | h1
    · exact h.nk g e1 h1
    · have := (h.nodes.lt g e1).2; have := hb.size; omega
  · intro j u g hu e1
    refine ⟨(h.nj j u g (old j u g hu e1) e1).1, fun e2 => ?_⟩
    rcases hn g e2 with h1 | h1
    · exact (h.nj j u g (old j u g hu e1) e1).2 h1
    · have o := h.each j u (old j u g hu e1)
      have := (o.lt g e1).2; have := hb.size; omega
  · intro i j u v g hij hu hv e1 e2
    exact h.jj i j u v g hij (old i u g hu e1) (old j v g hv e2) e1 e2
/-- A kid more of a node. -/
theorem Grow.sub {g cap a : Nat} {u u' : Value} {x : Int} (h : Grow T w l n m nv (.slice (some ⟨g, 0, none⟩) n cap) ks) (hb : Below w.heap.size w w1) (hu : ks[a]? = some u)
    (ho : w2.ownsRow (T + 1) 3 1 u' ((m a).length + 1) ((m a).map (Value.int .i64) ++ [.int .i64 x])) (hg : w1.grownBy w2 u.ownBlock)
    (hn : ∀ g, u'.ownBlock = some g → u.ownBlock = some g ∨ w1.heap.size ≤ g) : Grow T (w2.setCell ⟨g, a, none⟩ u') l n (setK m a x) nv (.slice (some ⟨g, 0, none⟩) n cap) (ks.set a u') := by
  have o0 := h.each a u hu
  have hgl := h.kids.lt g rfl
  have hT : some T ≠ u.ownBlock := fun e => by have := (o0.lt T e.symm).1; omega
  have hT1 : Blk w1 T 116 #[nv, .slice (some ⟨g, 0, none⟩) n cap] := (hb.block _ h.tree.lt).trans h.tree
  have hgu : some g ≠ u.ownBlock := fun e => (h.nj a u g hu e.symm).2 rfl
  have key : ∀ k, k < w.heap.size → u.ownBlock ≠ some k → k ≠ g → (w2.setCell ⟨g, a, none⟩ u').heap[k]? = w.heap[k]? := fun k h2 h3 h4 =>
    ((Below.heap_setCell w2 ⟨g, a, none⟩ u' k h4).trans (hg.block k (Nat.lt_of_lt_of_le h2 hb.size) (fun e => h3 e.symm))).trans (hb.block k h2)
  have hk1 : w2.ownsRow (T + 1) 23 1 (.slice (some ⟨g, 0, none⟩) n cap) n ks := own_far h.kids fun k e => by
    have hk : k = g := by injection e with e; exact e.symm
    subst hk
    exact (hg.block k (Nat.lt_of_lt_of_le hgl.2 hb.size) hgu).trans (hb.block k hgl.2)
  have ug : ∀ k, u'.ownBlock = some k → k ≠ g := fun k e1 e2 => by
    rcases hn k e1 with h1 | h1
    · exact hgu (by rw [h1, e2])
    · have := hb.size; omega
  refine ⟨((hT1.grown hg hT).far (by show T ≠ g; omega) u'), own_far h.nodes fun k e => key k (h.nodes.lt k e).2 (fun e2 => (h.nj a u k hu e2).1 e) (fun e2 => h.nk k e (by rw [e2]; rfl)), (hk1.stored a u').1, ?_, h.nk, ?_, ?_⟩
  · intro j v hv
    rw [List.getElem?_set] at hv
    by_cases hja : a = j
    · subst hja
      rw [if_pos rfl] at hv
      split at hv
      · injection hv with hv
        subst hv
        rw [setK_at]
        exact (OwnI.snoc ho).far fun k e => Below.heap_setCell w2 ⟨g, a, none⟩ u' k (ug k e)
      · cases hv
    · rw [if_neg hja] at hv
      have o := h.each j v hv
      rw [setK_ne _ _ _ (fun e => hja e.symm)]
      exact o.far fun k e => key k (o.lt k e).2 (fun e2 => h.jj a j u v k hja hu hv e2 e) (fun e2 => (h.nj j v k hv e).2 (by rw [e2]; rfl))
  · intro j v k hv e
    rw [List.getElem?_set] at hv
    by_cases hja : a = j
    · subst hja
      rw [if_pos rfl] at hv
      split at hv
      · injection hv with hv
        subst hv
        refine ⟨fun e2 => ?_, fun e2 => ug k e (by injection e2 with e2; exact e2.symm)⟩
        rcases hn k e with h1 | h1
        · exact (h.nj a u k hu h1).1 e2
        · have := (h.nodes.lt k e2).2; have := hb.size; omega
      · cases hv
    · rw [if_neg hja] at hv
      exact h.nj j v k hv e
  · intro i j v1 v2 k hij h1 h2 e1 e2
    rw [List.getElem?_set] at h1 h2
    have fresh : ∀ (q : Nat) (v : Value), a ≠ q → ks[q]? = some v → v.ownBlock = some k → u'.ownBlock ≠ some k := fun q v hq hv ev eu => by
      rcases hn k eu with h3 | h3
      · exact h.jj a q u v k hq hu hv h3 ev
      · have oq := h.each q v hv
        have := (oq.lt k ev).2; have := hb.size; omega
    by_cases hai : a = i
    · have haj : a ≠ j := fun e => hij (hai.symm.trans e)
      rw [if_pos hai] at h1
      rw [if_neg haj] at h2
      split at h1
      · injection h1 with h1
        subst h1
        exact fresh j v2 haj h2 e2 e1
      · cases h1
    · rw [if_neg hai] at h1
      by_cases haj : a = j
      · rw [if_pos haj] at h2
        split at h2
        · injection h2 with h2
          subst h2
          exact fresh i v1 hai h1 e1 e2
        · cases h2
      · rw [if_neg haj] at h2
        exact h.jj i j v1 v2 k hij h1 h2 e1 e2
theorem Grow.sub2 {g cap a : Nat} {u u' : Value} {x : Int} {li : List Int} (h : Grow T w l n m nv (.slice (some ⟨g, 0, none⟩) n cap) ks) (hli : li = m a) (hb : Below w.heap.size w w1) (hu : ks[a]? = some u)
    (ho : w2.ownsRow (T + 1) 3 1 u' (li.length + 1) (li.map (Value.int .i64) ++ [.int .i64 x])) (hg : w1.grownBy w2 u.ownBlock)
    (hn : ∀ g, u'.ownBlock = some g → u.ownBlock = some g ∨ w1.heap.size ≤ g) : Grow T (w2.setCell ⟨g, a, none⟩ u') l n (setK m a x) nv (.slice (some ⟨g, 0, none⟩) n cap) (ks.set a u') := by
  subst hli
  exact h.sub hb hu ho hg hn
/-- It reads as a tree. -/
theorem Grow.at_ (h : Grow T w l n m nv kv ks) : ∃ A c K kc, TreeAt w T l A c K n kc ∧ nv = .slice A l.length c := by
  obtain ⟨K, kc, hk⟩ := own_slice h.kids
  rcases h.nodes.2 with ⟨h0, h1⟩ | ⟨g, cap, cur, e1, e2, e3, e4, e5, e6, e7⟩
  · have hl : l = [] := List.eq_nil_of_length_eq_zero h1
    subst hl
    refine ⟨none, 0, K, kc, ⟨by rw [h.tree.cell 0, h0]; rfl, by rw [h.tree.cell 1, hk]; rfl, .inl rfl, Nat.le_refl _, by omega⟩, h0⟩
  · refine ⟨_, cap, K, kc, ⟨by rw [h.tree.cell 0, e1]; rfl, by rw [h.tree.cell 1, hk]; rfl, .inr ⟨g, 0, rfl, (h.nodes.lt g (by rw [e1]; rfl)).2, fun j hj i hi => ?_⟩, e4, by unfold maxLen at e5; omega⟩, e1⟩
    have h7 := h.nodes
    rw [e1] at h7
    rw [Nat.zero_add, h7.cellAt (j * 7 + i) (by omega)]
    exact flatN_at l j hj i hi
end
end Go.Proofs.YtoaboklckkcjcaaGreat.treG
/- Layer 16: a tree of nodes. -/
namespace Go.Proofs.YtoaboklckkcjcaaGreat.treH
open Go.ChangeShapes Go.WideShapes Go.ChangeAt Go.RowKit
open Go.Proofs.YtoaboklckkcjcaaGreat.base Go.Proofs.YtoaboklckkcjcaaGreat.dfA Go.Proofs.YtoaboklckkcjcaaGreat.treA Go.Proofs.YtoaboklckkcjcaaGreat.treB Go.Proofs.YtoaboklckkcjcaaGreat.treC Go.Proofs.YtoaboklckkcjcaaGreat.treD Go.Proofs.YtoaboklckkcjcaaGreat.treE Go.Proofs.YtoaboklckkcjcaaGreat.treG
set_option linter.unusedVariables false

/-- An append, as one step of a region: the row stays where it is, or is a new one. -/
theorem step_append_new {P : Program} {w : World} {ops : Array Oper} {o : Oper} {a : Act} {K : Act → World → Prop} {Q : Exit → Act → World → Prop} {E : Prop} (hgd : o.guard = none) (s x : Operand) (t : TypeId)
    (ho : o.op = .call { callee := .builtin .append, args := #[s, x], argTypes := #[t, t] })
    (base : Nat) (e : TypeId) (i : TypeInfo) (z : Value) (size bytes : Nat) (ht : P.underlying t = some (.slice e)) (hi : P.info? e = some i) (hz : i.zero = some z)
    (hsize : i.size = size) (hby : i.bytes = bytes) (hzs : z.cells.size = size) (hsz : 0 < size)
    (v : Value) (n : Nat) (xs : List Value) (hs : a.eval s = v) (hown : w.ownsRow base e size v n xs)
    (ad : Addr) (m c : Nat) (news : List Value) (hx : a.eval x = .slice (some ad) m c) (hm : 1 ≤ m) (hl : news.length = m * size) (hnews : ∀ j u, news[j]? = some u → w.cell? (ad.add j) = some u) (h1 : ∀ u ∈ news, u.oneCell' = true)
    (h63 : n + m ≤ maxLen) (hbytes : (n + m) * bytes ≤ 140737488355328) (hbase : base ≤ w.heap.size)
    (h : ∀ v' w', w'.ownsRow base e size v' (n + m) (xs ++ news) → w.grownBy w' v.ownBlock → (∀ g, v'.ownBlock = some g → v.ownBlock = some g ∨ w.heap.size ≤ g) → K (a.put o.dst v') w') :
    if Region.wanted o (yielded ops a.tmps) = true then Oper.wp P o a w K Q else E := by
  have hwn : Region.wanted o (yielded ops a.tmps) = true := by simp [Region.wanted, hgd]
  rw [if_pos hwn]
  have hgr : ∀ (v' : Value) (w' : World), w'.ownsRow w.heap.size e size v' (n + m) (xs ++ news) → w.grownBy w' none → K (a.put o.dst v') w' := fun v' w' ho hg => by
    refine h v' w' ⟨ho.1, ?_⟩ ⟨hg.os, hg.tape, hg.output, hg.size, fun k hk _ => hg.block k hk (by simp)⟩ fun g e => .inr (ho.lt g e).1
    rcases ho.2 with h0 | ⟨g, cap, cur, h1, h2, h3⟩
    · exact .inl h0
    · exact .inr ⟨g, cap, cur, h1, Nat.le_trans hbase h2, h3⟩
  rcases hown.2 with ⟨h0, h1n⟩ | ⟨g, cap, cur, hv, hbg, hgc, hnc, hcm, hcs, htk⟩
  · subst h0
    have hxs : xs = [] := List.eq_nil_of_length_eq_zero (by rw [hown.1, h1n]; simp)
    subst hxs
    subst h1n
    obtain ⟨v', w', hrun, r1, r2, _⟩ := run_append_own (P := P) w w.heap.size t o.type e i z size bytes ht hi hz hsize hby hzs hsz (.slice none 0 0) 0 [] (World.ownsRow_nil w _ e size) ad m c news hl hnews h1 h63 hbytes (Nat.le_refl _)
    unfold Oper.wp
    simp [execOp, ho, resolve, invoke, builtin, hs, hx, hrun, Result.andThen]
    exact hgr v' w' r1 r2
  · subst hv
    by_cases hr : n + m ≤ cap
    · obtain ⟨w', hrun, r1, r2⟩ := run_append_fits (P := P) w base t o.type e i size ht hi hsize g n cap xs hown ad m c news hl hnews h1 hr
      unfold Oper.wp
      simp [execOp, ho, resolve, invoke, builtin, hs, hx, hrun, Result.andThen]
      exact h _ w' r1 r2 fun g2 e2 => .inl e2
    · obtain ⟨v', w', hrun, r1, r2⟩ := run_append_arg_grows (P := P) w t o.type e i z size bytes ht hi hz hsize hby hzs hsz ⟨g, 0, none⟩ n cap xs hown.1 (hown.cells rfl) ad m c news hl hnews (by omega) h63 hbytes
      unfold Oper.wp
      simp [execOp, ho, resolve, invoke, builtin, hs, hx, hrun, Result.andThen]
      exact hgr v' w' r1 r2
/-- Appending to a row that is one's own: it stays where it is, or is a new one. -/
theorem wpList_append_new {P : Program} (w : World) {ops : Array Oper} {rest : List Oper} {o : Oper} {a : Act} {Q : Exit → Act → World → Prop} (hgd : o.guard = none) (s x : Operand) (t : TypeId)
    (ho : o.op = .call { callee := .builtin .append, args := #[s, x], argTypes := #[t, t] })
    (base : Nat) (e : TypeId) (i : TypeInfo) (z : Value) (size bytes : Nat) (ht : P.underlying t = some (.slice e)) (hi : P.info? e = some i) (hz : i.zero = some z)
    (hsize : i.size = size) (hby : i.bytes = bytes) (hzs : z.cells.size = size) (hsz : 0 < size)
    (v : Value) (n : Nat) (xs : List Value) (hs : a.eval s = v) (hown : w.ownsRow base e size v n xs)
    (ad : Addr) (m c : Nat) (news : List Value) (hx : a.eval x = .slice (some ad) m c) (hm : 1 ≤ m) (hl : news.length = m * size) (hnews : ∀ j u, news[j]? = some u → w.cell? (ad.add j) = some u) (h1 : ∀ u ∈ news, u.oneCell' = true)
    (h63 : n + m ≤ maxLen) (hbytes : (n + m) * bytes ≤ 140737488355328) (hbase : base ≤ w.heap.size)
    (h : ∀ v' w', w'.ownsRow base e size v' (n + m) (xs ++ news) → w.grownBy w' v.ownBlock → (∀ g, v'.ownBlock = some g → v.ownBlock = some g ∨ w.heap.size ≤ g) → wpList P ops Q rest (a.put o.dst v') w') : wpList P ops Q (o :: rest) a w := by
  have hgr : ∀ (v' : Value) (w' : World), w'.ownsRow w.heap.size e size v' (n + m) (xs ++ news) → w.grownBy w' none → wpList P ops Q rest (a.put o.dst v') w' := fun v' w' ho hg => by
    refine h v' w' ⟨ho.1, ?_⟩ ⟨hg.os, hg.tape, hg.output, hg.size, fun k hk _ => hg.block k hk (by simp)⟩ fun g e => .inr (ho.lt g e).1
    rcases ho.2 with h0 | ⟨g, cap, cur, h1, h2, h3⟩
    · exact .inl h0
    · exact .inr ⟨g, cap, cur, h1, Nat.le_trans hbase h2, h3⟩
  rcases hown.2 with ⟨h0, h1n⟩ | ⟨g, cap, cur, hv, hbg, hgc, hnc, hcm, hcs, htk⟩
  · subst h0
    have hxs : xs = [] := List.eq_nil_of_length_eq_zero (by rw [hown.1, h1n]; simp)
    subst hxs
    subst h1n
    exact wpList_append_grows w hgd s x t ho e i z size bytes ht hi hz hsize hby hzs hsz none 0 0 [] hs (fun _ => ⟨rfl, rfl⟩) (by simp) (fun b hb => by cases hb) ad m c news hx hl hnews h1 (by omega) h63 hbytes hgr
  · subst hv
    by_cases hr : n + m ≤ cap
    · exact wpList_append_fits w hgd s x t ho base e i size ht hi hsize g n cap xs hs hown ad m c news hx hl hnews h1 hr fun w' h2 h3 => h _ w' h2 h3 fun g2 e2 => .inl e2
    · exact wpList_append_grows w hgd s x t ho e i z size bytes ht hi hz hsize hby hzs hsz (some ⟨g, 0, none⟩) n cap xs hs (fun hb => by cases hb) hown.1 (fun b hb => by injection hb with hb; subst hb; exact hown.cells rfl) ad m c news hx hl hnews h1 (by omega) h63 hbytes hgr
theorem info_n : (Tryz.prog.info? 67).map (fun i => (i.zero, i.size, i.bytes)) = some (some (.agg #[.string ⟨#[]⟩, .int .i64 0, .int .i64 0, .int .i64 0, .bool false, .int .u64 0, .int .u64 0]), 7, 64) := by kernel_rfl
theorem info_s : (Tryz.prog.info? 23).map (fun i => (i.zero, i.size, i.bytes)) = some (some (.slice none 0 0), 1, 24) := by kernel_rfl
theorem one_n1 (e : Nd) : ∀ u ∈ e.cells.toList, u.oneCell' = true := fun u hu => by
  unfold Nd.cells at hu
  simp at hu
  rcases hu with rfl | rfl | rfl | rfl | rfl | rfl | rfl <;> rfl
/-- Why a node may not stand behind nodes l, room or not. -/
def whyF (l : List Nd) (n : Nd) : Int := if whyZ l n = 0 then (if fullB l n.kind = true then 6 else 0) else whyZ l n
/-- The first k may all be. -/
def GoodTo (l : List Nd) (k : Nat) : Prop := ∀ j (hj : j < l.length), j < k → whyF (l.take j) l[j] = 0
theorem GoodTo.next {l : List Nd} {k : Nat} (h : GoodTo l k) (hk : k < l.length) (e : whyF (l.take k) l[k] = 0) : GoodTo l (k + 1) := fun j hj hjk => by
  by_cases hq : j = k
  · subst hq; exact e
  · exact h j hj (by omega)
/-- Who may be, and is no level, stands below somebody. -/
theorem above_in {l : List Nd} {n : Nd} (h : whyZ l n = 0) (hk : n.kind ≠ 1) : ∃ a : Nat, n.ab = (a : Int) ∧ a < l.length := by
  unfold whyZ at h
  split at h
  · cases h
  · rename_i h1
    split at h
    · cases h
    · split at h
      · cases h
      · split at h
        · cases h
        · rename_i h4
          cases hb : isB n.ab l.length with
          | false =>
            rw [ndAt_none hb] at h4
            simp at h1 h4
            have h5 := h4 hk
            have h6 : zNd.kind = 0 := rfl
            omega
          | true =>
            unfold isB at hb
            simp only [Bool.and_eq_true, decide_eq_true_eq] at hb
            exact ⟨n.ab.toNat, by omega, by omega⟩
end Go.Proofs.YtoaboklckkcjcaaGreat.treH
