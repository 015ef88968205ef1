/- Layer 6: what puts a prefix in. -/
import Derived.Test.YtamndmlaikgogaaVpB
import Derived.Test.YtamndmlaikgogaaVdD
namespace Go.Proofs.Ytamndmlaikgogaa.vpC
open Go.ChangeShapes Go.WideShapes Go.ChangeAt Go.RowKit
open Go.Proofs.Ytamndmlaikgogaa.base Go.Proofs.Ytamndmlaikgogaa.dfA Go.Proofs.Ytamndmlaikgogaa.treB Go.Proofs.Ytamndmlaikgogaa.vdB Go.Proofs.Ytamndmlaikgogaa.vdC Go.Proofs.Ytamndmlaikgogaa.vdD Go.Proofs.Ytamndmlaikgogaa.vpA Go.Proofs.Ytamndmlaikgogaa.vpB
set_option linter.unusedVariables false

theorem root_any (tr : Nat) (v6 : Bool) (w : World) : Calls Try.prog 52 #[.pointer (some ⟨tr, 0, none⟩), .bool v6] w fun e w' => e = .returned (.pointer (some ⟨tr, if v6 then 4 else 0, none⟩)) ∧ w = w' := by
  cases v6 with
  | false =>
    go_enter Try.func52, Try.ntmps52
    go_wp2_with fail
    go_ret
    exact ⟨rfl, rfl⟩
  | true =>
    go_enter Try.func52, Try.ntmps52
    go_wp2_with fail
    go_ret
    exact ⟨rfl, rfl⟩
theorem len_any (tr : Nat) (n : Int) (w : World) (h : Cl w tr 8 (.int .i64 n)) : Calls Try.prog 25 #[.pointer (some ⟨tr, 0, none⟩)] w fun e w' => e = .returned (.int .i64 n) ∧ w = w' := by
  have d0 : w.cell? ⟨tr, 8, none⟩ = some (.int .i64 n) := h.1
  go_enter Try.func25, Try.ntmps25
  go_wp2_with fail
  go_ret
  exact ⟨rfl, rfl⟩
theorem _root_.Go.Proofs.Ytamndmlaikgogaa.vpB.Gr.mono_ {N M K : Nat} {A B : Pos} (h : Gr N A B) (hM : M ≤ N) (hK : N ≤ K) : Gr M A B := ⟨h.old, fun p g o e => (h.new p g o e).imp id (fun h => Nat.le_trans hM h)⟩
/-- What Put leaves. -/
def PutPost (w : World) (tr : Nat) (At : Pos) (has : List Bool → Bool) (val : List Bool → Int) (sz : Int) (p : List Bool) (x : Int) (e : Ending) (w' : World) : Prop :=
  e = .returned (.int .i64 0) ∧ Kp At w w' ∧ ∃ At', Gr w.heap.size At At' ∧ Tr w' tr At' (fun q => if q = p then true else has q) (fun q => if q = p then x else val q) (if has p = true then sz else sz + 1)
/-- A place is written. -/
theorem tr_fill {w : World} {tr : Nat} {At : Pos} {has : List Bool → Bool} {val : List Bool → Int} {sz : Int} (h : Tr w tr At has val sz) {p : List Bool} {g o : Nat} (hp : At p = some (g, o)) (x : Int) :
    Tr ((w.setCell ⟨g, o + 2, none⟩ (.bool true)).setCell ⟨g, o + 3, none⟩ (.int .i64 x)) tr At (fun q => if q = p then true else has q) (fun q => if q = p then x else val q) sz := by
  refine ⟨h.root, h.nil_, ?_, ?_, h.inj, h.off, h.up, ?_⟩
  · intro q g' o' hq
    have c := h.cells q g' o' hq
    by_cases e : q = p
    · subst e
      rw [hp] at hq
      injection hq with hq
      injection hq with e1 e2
      subst e1; subst e2
      simp only [if_pos]
      exact ⟨(c.1.other (.inr (by omega)) _).other (.inr (by omega)) _, (c.2.1.other (.inr (by omega)) _).other (.inr (by omega)) _, (c.2.2.1.same _).other (.inr (by omega)) _, (c.2.2.2.other (.inr (by omega)) _).same _⟩
    · simp only [if_neg e]
      have ap := fun i j hi hj => h.apart hq hp e i j hi hj
      exact ⟨(c.1.other (ap 0 2 (by omega) (by omega)) _).other (ap 0 3 (by omega) (by omega)) _, (c.2.1.other (ap 1 2 (by omega) (by omega)) _).other (ap 1 3 (by omega) (by omega)) _, (c.2.2.1.other (ap 2 2 (by omega) (by omega)) _).other (ap 2 3 (by omega) (by omega)) _, (c.2.2.2.other (ap 3 2 (by omega) (by omega)) _).other (ap 3 3 (by omega) (by omega)) _⟩
  · exact (h.size.other (h.apart8 hp 2 (by omega)) _).other (h.apart8 hp 3 (by omega)) _
  · intro q hq
    have e : q ≠ p := by rintro rfl; rw [hp] at hq; cases hq
    simp only [if_neg e]
    exact h.out q hq
theorem tr_resize {w : World} {tr : Nat} {At : Pos} {has : List Bool → Bool} {val : List Bool → Int} {sz : Int} (h : Tr w tr At has val sz) (n : Int) : Tr (w.setCell ⟨tr, 8, none⟩ (.int .i64 n)) tr At has val n := by
  refine ⟨h.root, h.nil_, ?_, h.size.same _, h.inj, h.off, h.up, h.out⟩
  intro q g o hq
  have c := h.cells q g o hq
  have ap : ∀ i, i < 4 → tr ≠ g ∨ 8 ≠ o + i := fun i hi => by
    rcases h.apart8 hq i hi with a | a
    · exact .inl (Ne.symm a)
    · exact .inr (Ne.symm a)
  exact ⟨c.1.other (ap 0 (by omega)) _, c.2.1.other (ap 1 (by omega)) _, c.2.2.1.other (ap 2 (by omega)) _, c.2.2.2.other (ap 3 (by omega)) _⟩
set_option maxHeartbeats 8000000 in
theorem put_any (tr : Nat) (v6 : Bool) (hi lo : Int) (bits : Nat) (x : Int) (w : World) (At : Pos) (has : List Bool → Bool) (val : List Bool → Int) (sz : Int) (h : Tr w tr At has val sz) (hsz : 0 ≤ sz ∧ sz < 1000000)
    (h0 : 0 ≤ hi) (h1 : hi < 18446744073709551616) (l0 : 0 ≤ lo) (l1 : lo < 18446744073709551616) (hpr : prB v6 hi lo bits = true) :
    Calls Try.prog 40 #[.pointer (some ⟨tr, 0, none⟩), .agg #[.bool v6, .int .u64 hi, .int .u64 lo, .int .i64 bits], .int .i64 x] w (PutPost w tr At has val sz (pth v6 hi lo bits) x) := by
  have hbt : bits ≤ (if v6 = true then 128 else 32) := by
    unfold prB at hpr
    simp only [Bool.and_eq_true, decide_eq_true_eq] at hpr
    have := hpr.1.2
    cases v6 <;> simp at this ⊢ <;> omega
  have hb128 : bits ≤ 128 := by cases v6 <;> simp at hbt <;> omega
  obtain ⟨w1, hw1⟩ : ∃ w1, w1 = w.alloc (.cells #[.bool v6, .int .u64 hi, .int .u64 lo, .int .i64 bits] 50) := ⟨_, rfl⟩
  have E1 := Lib.hid hw1
  have K1 := Lib.hid (show Blk w1 w.heap.size 50 #[.bool v6, .int .u64 hi, .int .u64 lo, .int .i64 bits] from hw1 ▸ Blk.new w _ _)
  have B1 := Lib.hid (show Below w.heap.size w w1 from hw1 ▸ (Below.refl _ _).alloc (Nat.le_refl _) _)
  have HT := Lib.hid h
  have HPR := Lib.hid (show Calls Try.prog 42 #[.agg #[.bool v6, .int .u64 hi, .int .u64 lo, .int .i64 bits]] w1 (fun e w' => e = .returned (.bool true) ∧ Below w1.heap.size w1 w') from hpr ▸ pright_any v6 hi lo bits w1 h0 h1 l0 l1)
  obtain ⟨r, hr⟩ : ∃ r : Nat, r = (if v6 then 4 else 0) := ⟨_, rfl⟩
  have HRR := Lib.hid (show At [v6] = some (tr, r) from by rw [hr]; exact h.root v6)
  have HRT := Lib.hid (show ∀ W, Calls Try.prog 52 #[.pointer (some ⟨tr, 0, none⟩), .bool v6] W fun e w' => e = .returned (.pointer (some ⟨tr, r, none⟩)) ∧ W = w' from fun W => hr ▸ root_any tr v6 W)
  have HBI := Lib.hid (fun (i : Nat) (hi' : i < bits) W => bit_any v6 hi lo i W (by omega) h0 h1 l0 l1)
  have HBZ := Lib.hid (fun i => bitZ_in v6 hi lo i)
  have HSZ := Lib.hid hsz
  have HN := Lib.hid hb128
  have d0 : w1.cell? ⟨w.heap.size, 0, none⟩ = some (.bool v6) := K1.out.cell 0
  have d1 : w1.cell? ⟨w.heap.size, 1, none⟩ = some (.int .u64 hi) := K1.out.cell 1
  have d2 : w1.cell? ⟨w.heap.size, 2, none⟩ = some (.int .u64 lo) := K1.out.cell 2
  have d3 : w1.cell? ⟨w.heap.size, 3, none⟩ = some (.int .i64 bits) := K1.out.cell 3
  have hm : (bits : Int) ≤ 9223372036854775807 := by omega
  clear hr hw1 h hpr h0 h1 l0 l1 hbt hsz hb128
  go_enter Try.func40, Try.ntmps40
  go_upto_region 1 with fail
  rw [← E1.out]
  go_wp2_with fail
  refine HPR.out.mono ?_
  rintro o w2 ⟨rfl, hb2⟩
  have B2 := Lib.hid (B1.out.trans (hb2.mono B1.out.size))
  have K2 := Lib.hid (show Blk w2 w.heap.size 50 #[.bool v6, .int .u64 hi, .int .u64 lo, .int .i64 bits] from K1.out.below hb2 K1.out.lt)
  have c0 : w2.cell? ⟨w.heap.size, 0, none⟩ = some (.bool v6) := K2.out.cell 0
  have c3 : w2.cell? ⟨w.heap.size, 3, none⟩ = some (.int .i64 bits) := K2.out.cell 3
  clear hb2 d0 d1 d2 d3
  go_wp2_with fail
  refine (HRT.out w2).mono ?_
  rintro o w3 ⟨rfl, rfl⟩
  go_wp2_with fail
  go_loopw [7, 24] (fun at_ i wr => ∃ k : Nat, i = .int .i64 k ∧ k ≤ bits ∧ ∃ (A : Pos) (g o : Nat), at_ = .pointer (some ⟨g, o, none⟩) ∧ A (pth v6 hi lo k) = some (g, o) ∧ Tr wr tr A has val sz ∧ Kp At w2 wr ∧ Gr w2.heap.size At A) (fun _ i _ => bits - (intOf i).toNat)
  case atStart =>
    have T2 := HT.out.keep (fun k hk => B2.out.block k hk)
    exact ⟨0, rfl, by omega, At, tr, r, rfl, HRR.out, T2, Kp.refl _ _, Gr.refl _ _⟩
  case round =>
    obtain ⟨k, rfl, hk, A, g, o, rfl, hA, hT, hK, hG⟩ := hrel
    obtain ⟨wo, hwo⟩ : ∃ wo, wo = wr := ⟨_, rfl⟩
    subst hwo
    have KA := Lib.hid hA
    have KT := Lib.hid hT
    have KK := Lib.hid hK
    have KG := Lib.hid hG
    have hlt := hT.lt hA
    have cc := hT.cells _ _ _ hA
    have s0 : wo.cell? ⟨g, o, none⟩ = some (kid (A (pth v6 hi lo k ++ [false]))) := cc.1.1
    have s1 : wo.cell? ⟨g, o + 1, none⟩ = some (kid (A (pth v6 hi lo k ++ [true]))) := cc.2.1.1
    have s2 : wo.cell? ⟨g, o + 2, none⟩ = some (.bool (has (pth v6 hi lo k))) := cc.2.2.1.1
    have hne : ∀ p o, At p ≠ some (w.heap.size, o) := fun p o e => by have := HT.out.lt e; omega
    have KP := Lib.hid (show Blk wo w.heap.size 50 #[.bool v6, .int .u64 hi, .int .u64 lo, .int .i64 bits] from (hK.block _ K2.out.lt hne).trans K2.out)
    have e0 : wo.cell? ⟨w.heap.size, 0, none⟩ = some (.bool v6) := KP.out.cell 0
    have e1 : wo.cell? ⟨w.heap.size, 1, none⟩ = some (.int .u64 hi) := KP.out.cell 1
    have e2 : wo.cell? ⟨w.heap.size, 2, none⟩ = some (.int .u64 lo) := KP.out.cell 2
    have e3 : wo.cell? ⟨w.heap.size, 3, none⟩ = some (.int .i64 bits) := KP.out.cell 3
    clear hA hT hK hG cc hne
    by_cases hkn : k < bits
    case neg =>
      have t1 : decide ((k : Int) < bits) = false := decide_eq_false (by omega)
      obtain rfl : bits = k := by omega
      clear s0 s1 e0 e1 e2 e3 hlt
      have KZ := Lib.hid (KT.out.cells _ _ _ KA.out)
      have d8 : wo.cell? ⟨tr, 8, none⟩ = some (.int .i64 sz) := KT.out.size.1
      have f8 : wo.frozen? ⟨tr, 8, none⟩ = false := KT.out.size.2
      have f2 : wo.frozen? ⟨g, o + 2, none⟩ = false := KZ.out.2.2.1.2
      have f3 : wo.frozen? ⟨g, o + 3, none⟩ = false := KZ.out.2.2.2.2
      have s3 : wo.cell? ⟨g, o + 3, none⟩ = some (.int .i64 (val (pth v6 hi lo bits))) := KZ.out.2.2.2.1
      have z0 : 0 ≤ sz := HSZ.out.1
      have z1 : sz < 1000000 := HSZ.out.2
      have HKP := Lib.hid (show ∀ W, Kp A wo W → Kp At w W from fun W hk => ((Kp.of B2.out : Kp At w w2).trans KK.out (Gr.refl _ _)).trans hk (KG.out.mono_ B2.out.size KK.out.size))
      have HGA := Lib.hid (show Gr w.heap.size At A from ⟨KG.out.old, fun p g o e => (KG.out.new p g o e).imp id (fun h => Nat.le_trans B2.out.size h)⟩)
      cases hh : has (pth v6 hi lo bits) with
      | true =>
        rw [hh] at s2
        have n2 : (wo.setCell ⟨g, o + 2, none⟩ (.bool true)).cell? ⟨g, o + 3, none⟩ = some (.int .i64 (val (pth v6 hi lo bits))) := (KZ.out.2.2.2.other (.inr (by omega)) _).1
        have KE := Lib.hid (tr_fill KT.out KA.out x)
        go_wp2_with fail
        go_ret
        refine ⟨rfl, HKP.out _ (((Kp.refl A wo).set ⟨_, _, KA.out⟩ _).set ⟨_, _, KA.out⟩ _), A, HGA.out, ?_⟩
        rw [if_pos hh]
        exact KE.out
      | false =>
        rw [hh] at s2
        have T8 := tr_resize KT.out (sz + 1)
        have c8 := T8.cells _ _ _ KA.out
        rw [hh] at c8
        have n2 : (wo.setCell ⟨tr, 8, none⟩ (.int .i64 (sz + 1))).cell? ⟨g, o + 2, none⟩ = some (.bool false) := c8.2.2.1.1
        have n3 : ((wo.setCell ⟨tr, 8, none⟩ (.int .i64 (sz + 1))).setCell ⟨g, o + 2, none⟩ (.bool true)).cell? ⟨g, o + 3, none⟩ = some (.int .i64 (val (pth v6 hi lo bits))) := (c8.2.2.2.other (.inr (by omega)) _).1
        have KE := Lib.hid (tr_fill T8 KA.out x)
        clear T8 c8
        go_wp2_with fail
        go_ret
        refine ⟨rfl, HKP.out _ ((((Kp.refl A wo).set ⟨[false], _, KT.out.root false⟩ _).set ⟨_, _, KA.out⟩ _).set ⟨_, _, KA.out⟩ _), A, HGA.out, ?_⟩
        rw [if_neg (by rw [hh]; decide)]
        exact KE.out
    case pos =>
      have t1 : decide ((k : Int) < bits) = true := decide_eq_true (by omega)
      have HB := Lib.hid (HBI.out k hkn wo)
      go_wp2_with fail
      refine HB.out.mono ?_
      rintro o_ w4 ⟨rfl, hb4⟩
      have T4 := Lib.hid (KT.out.keep (fun k hk => hb4.block k hk))
      have K4 := Lib.hid (show Kp A wo w4 from Kp.of hb4)
      clear s0 s1 s2 e0 e1 e2 e3
      rcases HBZ.out k with hz | hz
      · have hb : pth v6 hi lo (k + 1) = pth v6 hi lo k ++ [false] := by
          show pth v6 hi lo k ++ [bitZ v6 hi lo k == 1] = _
          rw [hz]; rfl
        rw [hz]
        have HB_ := Lib.hid hb
        have g4 : g < w4.heap.size := T4.out.lt KA.out
        cases hq : A (pth v6 hi lo k ++ [false]) with
        | some y =>
          obtain ⟨g2, o2⟩ := y
          have m0 : w4.cell? ⟨g, o, none⟩ = some (.pointer (some ⟨g2, o2, none⟩)) := by
            have := (T4.out.cellK KA.out false).1
            rw [hq] at this
            exact this
          have HQ := Lib.hid (show A (pth v6 hi lo (k + 1)) = some (g2, o2) from hb ▸ hq)
          clear hq hb hz hb4
          go_wp2_with fail
          go_roundw
          case rel => exact ⟨k + 1, by simp, by omega, A, g2, o2, rfl, HQ.out, T4.out, KK.out.trans K4.out KG.out, KG.out⟩
          case measure => simp [intOf]; omega
        | none =>
          have m0 : w4.cell? ⟨g, o, none⟩ = some (.pointer none) := by
            have := (T4.out.cellK KA.out false).1
            rw [hq] at this
            exact this
          have mf : w4.frozen? ⟨g, o, none⟩ = false := (T4.out.cellK KA.out false).2
          have ma : (w4.alloc (.cells #[.pointer none, .pointer none, .bool false, .int .i64 0] 93)).cell? ⟨g, o, none⟩ = some (.pointer none) := (World.cell?_alloc_lt w4 _ ⟨g, o, none⟩ g4).trans m0
          have mb : (w4.alloc (.cells #[.pointer none, .pointer none, .bool false, .int .i64 0] 93)).frozen? ⟨g, o, none⟩ = false := (World.frozen?_alloc_old w4 _ ⟨g, o, none⟩ (by show g ≠ _; omega)).trans mf
          have mc : ((w4.alloc (.cells #[.pointer none, .pointer none, .bool false, .int .i64 0] 93)).setCell ⟨g, o, none⟩ (.pointer (some ⟨w4.heap.size, 0, none⟩))).cell? ⟨g, o, none⟩ = some (.pointer (some ⟨w4.heap.size, 0, none⟩)) := World.cell?_setCell_same _ _ _ ma
          have CM : (w4.alloc (.cells #[.pointer none, .pointer none, .bool false, .int .i64 0] 93)).setCell ⟨g, o, none⟩ (.pointer (some ⟨w4.heap.size, 0, none⟩)) = (w4.setCell ⟨g, o, none⟩ (.pointer (some ⟨w4.heap.size, 0, none⟩))).alloc (.cells #[.pointer none, .pointer none, .bool false, .int .i64 0] 93) := by rw [World.setCell_alloc_past (hn := g4)]
          have HGW := Lib.hid (show Tr ((w4.setCell ⟨g, o, none⟩ (.pointer (some ⟨w4.heap.size, 0, none⟩))).alloc (.cells #[.pointer none, .pointer none, .bool false, .int .i64 0] 93)) tr (putAt A (pth v6 hi lo k ++ [false]) (w4.heap.size, 0)) has val sz from by rw [← CM]; exact T4.out.grow KA.out false hq 93)
          have HGK := Lib.hid (show Kp A w4 ((w4.setCell ⟨g, o, none⟩ (.pointer (some ⟨w4.heap.size, 0, none⟩))).alloc (.cells #[.pointer none, .pointer none, .bool false, .int .i64 0] 93)) ∧ Gr w4.heap.size A (putAt A (pth v6 hi lo k ++ [false]) (w4.heap.size, 0)) from by rw [← CM]; exact T4.out.grow_kp KA.out _ hq (o) _ _)

          have HQ := Lib.hid (show putAt A (pth v6 hi lo k ++ [false]) (w4.heap.size, 0) (pth v6 hi lo (k + 1)) = some (w4.heap.size, 0) from by unfold putAt; rw [hb, if_pos rfl])
          clear hq hb hz hb4 CM
          go_wp2_with fail
          go_roundw
          case rel => exact ⟨k + 1, by simp, by omega, _, w4.heap.size, 0, rfl, HQ.out, HGW.out, (KK.out.trans K4.out KG.out).trans HGK.out.1 KG.out, KG.out.trans HGK.out.2 (Nat.le_trans KK.out.size K4.out.size)⟩
          case measure => simp [intOf]; omega
      · have hb : pth v6 hi lo (k + 1) = pth v6 hi lo k ++ [true] := by
          show pth v6 hi lo k ++ [bitZ v6 hi lo k == 1] = _
          rw [hz]; rfl
        rw [hz]
        have HB_ := Lib.hid hb
        have g4 : g < w4.heap.size := T4.out.lt KA.out
        cases hq : A (pth v6 hi lo k ++ [true]) with
        | some y =>
          obtain ⟨g2, o2⟩ := y
          have m0 : w4.cell? ⟨g, o + 1, none⟩ = some (.pointer (some ⟨g2, o2, none⟩)) := by
            have := (T4.out.cellK KA.out true).1
            rw [hq] at this
            exact this
          have HQ := Lib.hid (show A (pth v6 hi lo (k + 1)) = some (g2, o2) from hb ▸ hq)
          clear hq hb hz hb4
          go_wp2_with fail
          go_roundw
          case rel => exact ⟨k + 1, by simp, by omega, A, g2, o2, rfl, HQ.out, T4.out, KK.out.trans K4.out KG.out, KG.out⟩
          case measure => simp [intOf]; omega
        | none =>
          have m0 : w4.cell? ⟨g, o + 1, none⟩ = some (.pointer none) := by
            have := (T4.out.cellK KA.out true).1
            rw [hq] at this
            exact this
          have mf : w4.frozen? ⟨g, o + 1, none⟩ = false := (T4.out.cellK KA.out true).2
          have ma : (w4.alloc (.cells #[.pointer none, .pointer none, .bool false, .int .i64 0] 93)).cell? ⟨g, o + 1, none⟩ = some (.pointer none) := (World.cell?_alloc_lt w4 _ ⟨g, o + 1, none⟩ g4).trans m0
          have mb : (w4.alloc (.cells #[.pointer none, .pointer none, .bool false, .int .i64 0] 93)).frozen? ⟨g, o + 1, none⟩ = false := (World.frozen?_alloc_old w4 _ ⟨g, o + 1, none⟩ (by show g ≠ _; omega)).trans mf
          have mc : ((w4.alloc (.cells #[.pointer none, .pointer none, .bool false, .int .i64 0] 93)).setCell ⟨g, o + 1, none⟩ (.pointer (some ⟨w4.heap.size, 0, none⟩))).cell? ⟨g, o + 1, none⟩ = some (.pointer (some ⟨w4.heap.size, 0, none⟩)) := World.cell?_setCell_same _ _ _ ma
          have CM : (w4.alloc (.cells #[.pointer none, .pointer none, .bool false, .int .i64 0] 93)).setCell ⟨g, o + 1, none⟩ (.pointer (some ⟨w4.heap.size, 0, none⟩)) = (w4.setCell ⟨g, o + 1, none⟩ (.pointer (some ⟨w4.heap.size, 0, none⟩))).alloc (.cells #[.pointer none, .pointer none, .bool false, .int .i64 0] 93) := by rw [World.setCell_alloc_past (hn := g4)]
          have HGW := Lib.hid (show Tr ((w4.setCell ⟨g, o + 1, none⟩ (.pointer (some ⟨w4.heap.size, 0, none⟩))).alloc (.cells #[.pointer none, .pointer none, .bool false, .int .i64 0] 93)) tr (putAt A (pth v6 hi lo k ++ [true]) (w4.heap.size, 0)) has val sz from by rw [← CM]; exact T4.out.grow KA.out true hq 93)
          have HGK := Lib.hid (show Kp A w4 ((w4.setCell ⟨g, o + 1, none⟩ (.pointer (some ⟨w4.heap.size, 0, none⟩))).alloc (.cells #[.pointer none, .pointer none, .bool false, .int .i64 0] 93)) ∧ Gr w4.heap.size A (putAt A (pth v6 hi lo k ++ [true]) (w4.heap.size, 0)) from by rw [← CM]; exact T4.out.grow_kp KA.out _ hq (o + 1) _ _)

          have HQ := Lib.hid (show putAt A (pth v6 hi lo k ++ [true]) (w4.heap.size, 0) (pth v6 hi lo (k + 1)) = some (w4.heap.size, 0) from by unfold putAt; rw [hb, if_pos rfl])
          clear hq hb hz hb4 CM
          go_wp2_with fail
          go_roundw
          case rel => exact ⟨k + 1, by simp, by omega, _, w4.heap.size, 0, rfl, HQ.out, HGW.out, (KK.out.trans K4.out KG.out).trans HGK.out.1 KG.out, KG.out.trans HGK.out.2 (Nat.le_trans KK.out.size K4.out.size)⟩
          case measure => simp [intOf]; omega
end Go.Proofs.Ytamndmlaikgogaa.vpC
