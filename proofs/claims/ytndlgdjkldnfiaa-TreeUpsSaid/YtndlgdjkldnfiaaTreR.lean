/- Layer 16: the law of TreeUps. -/
import Derived.Test.YtndlgdjkldnfiaaTreN
import Derived.Test.YtndlgdjkldnfiaaTreQ
import Derived.Deep.DeepCutAuto
namespace Go.Proofs.Ytndlgdjkldnfiaa.treR
open Go.ChangeShapes Go.WideShapes Go.ChangeAt Go.RowKit
open Go.Proofs.Ytndlgdjkldnfiaa.base Go.Proofs.Ytndlgdjkldnfiaa.dfA Go.Proofs.Ytndlgdjkldnfiaa.treA Go.Proofs.Ytndlgdjkldnfiaa.treB Go.Proofs.Ytndlgdjkldnfiaa.treC Go.Proofs.Ytndlgdjkldnfiaa.treD Go.Proofs.Ytndlgdjkldnfiaa.treE Go.Proofs.Ytndlgdjkldnfiaa.treG Go.Proofs.Ytndlgdjkldnfiaa.treH Go.Proofs.Ytndlgdjkldnfiaa.treI Go.Proofs.Ytndlgdjkldnfiaa.treJ Go.Proofs.Ytndlgdjkldnfiaa.treM Go.Proofs.Ytndlgdjkldnfiaa.treN Go.Proofs.Ytndlgdjkldnfiaa.treW Go.Proofs.Ytndlgdjkldnfiaa.treP Go.Proofs.Ytndlgdjkldnfiaa.treQ
set_option linter.unusedVariables false

/-- The law's own list, and all that was there. -/
structure Ub (w1 w : World) (v : Value) (l : List Int) : Prop where
  own : OwnI w w1.heap.size v l
  bel : Below w1.heap.size w1 w
theorem Ub.below {w1 w w' : World} {v : Value} {l : List Int} (h : Ub w1 w v l) (hb : Below w.heap.size w w') : Ub w1 w' v l := ⟨h.own.below hb, h.bel.trans (hb.mono h.bel.size)⟩
theorem Ub.app {w1 w w' : World} {v v' : Value} {l : List Int} {x : Int} (h : Ub w1 w v l) (ho : w'.ownsRow w1.heap.size 3 1 v' (l.length + 1) (l.map (Value.int .i64) ++ [.int .i64 x])) (hg : w.grownBy w' v.ownBlock) : Ub w1 w' v' (l ++ [x]) :=
  ⟨OwnI.snoc ho, h.bel.grown hg h.bel.size (fun k hk => (h.own.lt k hk).1)⟩
/-- The law's hosts below i among the first k. -/
def belL (m : List Nd) (i : Int) (k : Nat) : List Int := if isB i m.length = true then belW m i (ndAt m i).kind k else []
theorem belL_len (m : List Nd) (i : Int) (k : Nat) : (belL m i k).length ≤ k := by
  unfold belL
  split
  · exact belW_len m i _ k
  · exact Nat.zero_le _
theorem belL_next {m : List Nd} {k : Nat} (i : Int) (hk : k < m.length) : belL m i (k + 1) = if (isB i m.length && ((m[k]).kind == 4 && upF m (ndAt m i).kind (k : Int) == i)) = true then belL m i k ++ [(k : Int)] else belL m i k := by
  unfold belL
  cases isB i m.length with
  | false => rfl
  | true => rw [if_pos rfl, if_pos rfl, Bool.true_and]; exact belW_next i _ hk
set_option maxRecDepth 100000 in
set_option maxHeartbeats 32000000 in
theorem ups_any (A : Option Addr) (n c : Nat) (l : List Nd) (i kind : Int) (w : World) (hr : RdN w A l) (hl : l.length ≤ 60) (hcap : l.length ≤ c) (hcap2 : c ≤ 9223372036854775807) (hnm : ∀ j (hj : j < l.length), (l[j]).nm.size ≤ 9223372036854775807)
    (hfew : ∀ W', Calls Try.prog 7 #[.slice A n c] W' fun o w' => o = .returned (.slice A l.length c) ∧ Below W'.heap.size W' w') :
    Calls Try.prog 6 #[.slice A n c, .int .i64 i, .int .i64 kind] w fun o w' => o = .returned (.bool true) ∧ Below w.heap.size w w' := by
  obtain ⟨i0, hi0, hz0, hz1, hz2⟩ := info_parts info_i
  have HI0 := Lib.hid hi0
  have HZ0 := Lib.hid hz0
  have HZ1 := Lib.hid hz1
  have HZ2 := Lib.hid hz2
  clear hi0 hz0 hz1 hz2
  have HMD := Lib.hid (made_any A n c l w hr hl hcap hcap2 hnm hfew)
  clear hr hl hcap hcap2 hnm hfew
  go_enter Try.func6, Try.ntmps6
  go_wp2_with fail
  refine HMD.out.mono ?_
  rintro o w1 ⟨T, m, A1, c1, rfl, hT, hrd, hm60, hmc, hmc2, hb1⟩
  have B1 := Lib.hid hb1
  have HT1 := Lib.hid hT
  have HR1 := Lib.hid hrd
  have HF := Lib.hid (fine_of hT.good)
  have S0 := Lib.hid (show Ub w1 w1 (.slice none 0 0) [] from ⟨World.ownsRow_nil _ _ _ 1, Below.refl _ _⟩)
  have HC := Lib.hid (show ∀ W k (hk : k < m.length), Below w1.heap.size w1 W → ∃ b off, A1 = some ⟨b, off, none⟩ ∧ ∀ q, q < 7 → W.cell? ⟨b, off + k * 7 + q, none⟩ = (m[k]).cells[q]? from fun W k hk hb => by
    obtain ⟨b, off, h1, h2, h3⟩ := (HR1.out.below hb).at_ k hk
    exact ⟨b, off, h1, h3⟩)
  have HLU := Lib.hid (show ∀ W, Below w1.heap.size w1 W → ∀ x kd, Calls Try.prog 25 #[.slice A1 m.length c1, .int .i64 x, .int .i64 kd] W fun o w' => o = .returned (.int .i64 (upF m kd x)) ∧ w' = W from fun W hb x kd => lup_x (HR1.out.below hb) hmc hmc2 HF.out x kd)
  obtain ⟨mn, hmn⟩ : ∃ mn, mn = m.length := ⟨_, rfl⟩
  have HMN := Lib.hid hmn
  rw [← hmn] at hmc hm60 HLU
  clear hT hrd hb1 hmn
  rw [← HMN.out]
  go_wp2_with fail
  go_loopw [9, 10, 11, 12] (fun v1 lv nv iv wr => ∃ k : Nat, iv = .int .i64 k ∧ k ≤ mn ∧ lv = .int .i64 (levW m (upF m 1 i) k) ∧ nv = .int .i64 (ofK m 1 k).length ∧ Hid (Ub w1 wr v1 (belL m i k))) (fun _ _ _ iv _ => mn - (intOf iv).toNat)
  case atStart => exact ⟨0, rfl, by omega, rfl, rfl, by rw [show belL m i 0 = [] by unfold belL; split <;> rfl]; exact S0⟩
  case round =>
    obtain ⟨k, rfl, hk, rfl, rfl, HS⟩ := hrel
    by_cases hkn : k < mn
    · have t1 : decide ((k : Int) < mn) = true := decide_eq_true (by omega)
      have hjl : k < m.length := HMN.out ▸ hkn
      obtain ⟨e, he⟩ : ∃ e, e = m[k] := ⟨_, rfl⟩
      have HE := Lib.hid he
      have HNB := Lib.hid (show belL m i (k + 1) = if (isB i m.length && (e.kind == 4 && upF m (ndAt m i).kind (k : Int) == i)) = true then belL m i k ++ [(k : Int)] else belL m i k by rw [he]; exact belL_next i hjl)
      have HN1 := Lib.hid (show ofK m 1 (k + 1) = ofK m 1 k ++ (if (e.kind == 1) = true then [(k : Int)] else []) by rw [he]; exact ofK_next hjl)
      have HNL := Lib.hid (show levW m (upF m 1 i) (k + 1) = if (e.kind == 1 && upF m 1 i == (k : Int)) = true then ((ofK m 1 k).length : Int) else levW m (upF m 1 i) k by rw [he]; exact levW_next _ hjl)
      have L1 := Lib.hid (show (belL m i k).length < 60 from Nat.lt_of_le_of_lt (belL_len m i k) (by omega))
      have HLO := Lib.hid (show 1 ≤ e.kind by rw [he]; exact HF.out.lo k hjl)
      have HSB := Lib.hid (show e.kind ≠ 1 → ∃ a : Nat, e.ab = (a : Int) ∧ a < k from fun h => by
        rw [he] at h ⊢
        obtain ⟨a, ha, hab, hak, _⟩ := HF.out.sub k hjl h
        exact ⟨a, hab, hak⟩)
      have HUL := Lib.hid (show ∃ b : Nat, upF m 1 (k : Int) = (b : Int) from by
        obtain ⟨b, hb, h1, _⟩ := upF_level HF.out (k + 1) k hjl (by omega)
        exact ⟨b, h1⟩)
      obtain ⟨b, off, hA, hd⟩ := HC.out wr k hjl HS.out.bel
      subst hA
      rw [← he] at hd
      have d1 : wr.cell? ⟨b, off + k * 7 + 1, none⟩ = some (.int .i64 e.kind) := hd 1 (by omega)
      have j0 : (0 : Int) ≤ k := by omega
      have j1 : (k : Int) < mn := by omega
      clear hd he
      go_upto_region 9 with fail
      go_cut [53] (fun v wx => v = .bool (isB i m.length && (e.kind == 4 && upF m (ndAt m i).kind (k : Int) == i)) ∧ wx = wr)
      case first =>
        cases hqi : isB i m.length with
        | false =>
          rcases isB_not hqi with hx0 | hx0
          · have t2 : decide (0 ≤ i) = false := decide_eq_false (by omega)
            go_wp2_with fail
            go_meet
            exact ⟨by rw [hqi]; rfl, rfl⟩
          · have t2 : decide (0 ≤ i) = true := decide_eq_true (by omega)
            have t3 : decide (i < (mn : Int)) = false := decide_eq_false (by have := HMN.out; omega)
            go_wp2_with fail
            go_meet
            exact ⟨by rw [hqi]; rfl, rfl⟩
        | true =>
          obtain ⟨a, rfl, ha⟩ := isB_of hqi
          have HQI := Lib.hid hqi
          have t2 : decide ((0 : Int) ≤ a) = true := decide_eq_true (by omega)
          have t3 : decide ((a : Int) < (mn : Int)) = true := decide_eq_true (by have := HMN.out; omega)
          clear hqi
          cases hk4 : (e.kind == 4) with
          | false =>
            have HK4 := Lib.hid hk4
            go_wp2_with fail
            all_goals go_meet
            all_goals exact ⟨by rw [HQI.out, HK4.out]; rfl, rfl⟩
          | true =>
            have HK4 := Lib.hid hk4
            obtain ⟨b', off', hA', hd⟩ := HC.out wr a ha HS.out.bel
            injection hA' with hA'
            injection hA' with hb' ho'
            subst hb' ho'
            have HND := Lib.hid (ndAt_nat ha)
            have HUP := Lib.hid (HLU.out wr HS.out.bel (k : Int) (m[a]).kind)
            obtain ⟨y, hy⟩ : ∃ y, y = m[a] := ⟨_, rfl⟩
            rw [← hy] at hd HUP HND
            have y1 : wr.cell? ⟨b, off + a * 7 + 1, none⟩ = some (.int .i64 y.kind) := hd 1 (by omega)
            have j2 : (0 : Int) ≤ a := by omega
            have j3 : (a : Int) < mn := by have := HMN.out; omega
            clear hd hy
            go_wp2_with fail
            refine HUP.out.mono ?_
            rintro o w3 ⟨rfl, rfl⟩
            go_wp2_with fail
            go_meet
            exact ⟨by rw [HQI.out, HK4.out, HND.out]; rfl, rfl⟩
      case rest =>
        obtain ⟨rfl, rfl⟩ := hcut
        clear d1
        go_upto_if 53 with fail
        go_cut [9] (fun x9 wx => Hid (Ub w1 wx x9 (belL m i (k + 1))))
        case first =>
          cases hq : (isB i m.length && (e.kind == 4 && upF m (ndAt m i).kind (k : Int) == i)) with
          | true =>
            rw [hq, if_pos rfl] at HNB
            have BA := Lib.hid (show Below wc.heap.size wc (wc.alloc (.cells #[.int .i64 k] 3)) from (Below.refl _ _).alloc (Nat.le_refl _) _)
            have KO2 := Lib.hid ((HS.out.below BA.out).own)
            have HNE := Lib.hid (show ∀ p u, [Value.int .i64 k][p]? = some u → (wc.alloc (.cells #[.int .i64 k] 3)).cell? ((⟨wc.heap.size, 0, none⟩ : Addr).add p) = some u from fun p u hu => by
              rw [Addr.add_lit, Nat.zero_add, (Blk.new wc 3 #[.int .i64 k]).cell p]
              have h2 : (#[Value.int .i64 k])[p]? = some u := by simpa using hu
              exact h2)
            have H1 := Lib.hid (show ∀ u ∈ [Value.int .i64 (k : Int)], u.oneCell' = true from fun u hu => by simp at hu; subst hu; rfl)
            have P1 := Lib.hid (show (belL m i k).length + 1 ≤ maxLen by unfold maxLen; have := L1.out; omega)
            have P2 := Lib.hid (show ((belL m i k).length + 1) * 8 ≤ 140737488355328 by have := L1.out; omega)
            have P3 := Lib.hid (show w1.heap.size ≤ (wc.alloc (.cells #[.int .i64 k] 3)).heap.size from (HS.out.below BA.out).bel.size)
            go_wp2_with (at_builtin; refine wpList_append_own _ rfl (.tmp 54) (.tmp 56) _ rfl w1.heap.size 3 i0 _ 1 8 Try.underlying40 HI0.out HZ0.out HZ1.out HZ2.out rfl (by omega) _ (belL m i k).length ((belL m i k).map (Value.int .i64)) rfl KO2.out ⟨wc.heap.size, 0, none⟩ 1 1 [.int .i64 k] rfl rfl HNE.out H1.out P1.out P2.out P3.out ?_; intro v6 w6 ho hg _; have HQ := Lib.hid ((HS.out.below BA.out).app ho hg); clear ho hg)
            go_meet
            rw [HNB.out]
            exact HQ
          | false =>
            rw [hq, if_neg (by decide)] at HNB
            go_wp2_with fail
            go_meet
            rw [HNB.out]
            exact HS
        case rest =>
          have HS2 := hcut
          clear hcut
          have L2 : (ofK m 1 k).length < 60 := Nat.lt_of_le_of_lt (ofK_len m 1 k) (by omega)
          obtain ⟨b', off', hA', hd⟩ := HC.out (wc) k (HMN.out ▸ hkn) (HS2.out.bel)
          injection hA' with hA'
          injection hA' with hb' ho'
          subst hb' ho'
          rw [← HE.out] at hd
          have d1 : World.cell? wc ⟨b, off + k * 7 + 1, none⟩ = some (.int .i64 e.kind) := hd 1 (by omega)
          have d2 : World.cell? wc ⟨b, off + k * 7 + 2, none⟩ = some (.int .i64 e.ab) := hd 2 (by omega)
          clear hd
          have HUP := Lib.hid (HLU.out wc HS2.out.bel i 1)
          have HUK := Lib.hid (HLU.out wc HS2.out.bel (k : Int) 1)
          obtain ⟨n1, hn1⟩ : ∃ n1, n1 = (ofK m 1 k).length := ⟨_, rfl⟩
          have HNN := Lib.hid hn1
          rw [← hn1] at L2 HNL ⊢
          obtain ⟨u, hu⟩ : ∃ u, u = upF m 1 i := ⟨_, rfl⟩
          have HUU := Lib.hid hu
          rw [← hu] at HUP HNL ⊢
          clear hn1 hu
          go_upto_if 63 with fail
          go_cut [10, 11] (fun x10 x11 wx => x10 = .int .i64 (levW m u (k + 1)) ∧ x11 = .int .i64 (ofK m 1 (k + 1)).length ∧ wx = wc)
          case first =>
            cases hq : (e.kind == 1) with
            | true =>
              rw [hq, if_pos rfl] at HN1
              rw [hq, Bool.true_and] at HNL
              have HLL := Lib.hid (show ((ofK m 1 (k + 1)).length : Int) = (n1 : Int) + 1 by rw [HN1.out, List.length_append, List.length_singleton, ← HNN.out]; omega)
              go_wp2_with fail
              refine HUP.out.mono ?_
              rintro o w3 ⟨rfl, rfl⟩
              cases hu2 : (u == (k : Int)) with
              | true =>
                rw [hu2, if_pos rfl] at HNL
                go_wp2_with fail
                go_meet
                exact ⟨by rw [HNL.out], by rw [HLL.out], rfl⟩
              | false =>
                rw [hu2, if_neg (by decide)] at HNL
                go_wp2_with fail
                go_meet
                exact ⟨by rw [HNL.out], by rw [HLL.out], rfl⟩
            | false =>
              rw [hq, if_neg (by decide), List.append_nil] at HN1
              rw [hq, Bool.false_and, if_neg (by decide)] at HNL
              go_wp2_with fail
              go_meet
              exact ⟨by rw [HNL.out], by rw [HN1.out, ← HNN.out], rfl⟩
          case rest =>
            obtain ⟨rfl, rfl, rfl⟩ := hcut
            go_upto_region 15 with fail
            go_cut [100] (fun v wx => v = .bool false ∧ wx = wc)
            case first =>
              by_cases hk1 : e.kind = 1
              · have t4 : decide ((1 : Int) < e.kind) = false := decide_eq_false (by omega)
                clear hk1
                go_wp2_with fail
                go_meet
                exact ⟨rfl, rfl⟩
              · have t4 : decide ((1 : Int) < e.kind) = true := decide_eq_true (by have := HLO.out; omega)
                obtain ⟨a, ha, hak⟩ := HSB.out hk1
                rw [ha] at d2
                obtain ⟨bb, hbb⟩ := HUL.out
                rw [hbb] at HUK
                have t5 : decide ((a : Int) < 0) = false := decide_eq_false (by omega)
                have t6 : decide ((k : Int) ≤ a) = false := decide_eq_false (by omega)
                have t8 : decide (k ≤ a) = false := decide_eq_false (by omega)
                have t7 : decide ((bb : Int) < 0) = false := decide_eq_false (by omega)
                clear hk1 ha hbb
                go_wp2_with fail
                refine HUK.out.mono ?_
                rintro o w3 ⟨rfl, rfl⟩
                go_wp2_with fail
                go_meet
                exact ⟨rfl, rfl⟩
            case rest =>
              obtain ⟨rfl, rfl⟩ := hcut
              go_wp2_with fail
              go_roundw
              case rel => exact ⟨k + 1, by go_num, by omega, by rw [HUU.out], rfl, HS2⟩
              case measure => simp [intOf]; omega
    · have t1 : decide ((k : Int) < mn) = false := decide_eq_false (by omega)
      obtain rfl : mn = k := by omega
      obtain ⟨AT, cT, KT, kcT, ht⟩ := (HT1.out.below HS.out.bel).at_
      have HUP := Lib.hid (up_x ht HF.out i kind)
      have HUL := Lib.hid (HLU.out wr HS.out.bel i kind)
      have HBE := Lib.hid (below_x (HT1.out.below HS.out.bel) i)
      have HLV := Lib.hid (show ∀ W, Below wr.heap.size wr W → Calls Try.prog 22 #[.pointer (some ⟨T, 0, none⟩), .int .i64 i] W fun o w' => o = .returned (.int .i64 (levW m (upF m 1 i) mn)) ∧ Below W.heap.size W w' from fun W hb => by
        have h1 := level_x (HT1.out.below (HS.out.bel.trans (hb.mono HS.out.bel.size))) i
        rwa [← HMN.out] at h1)
      have HAW := Lib.hid (fun W => awake_any W)
      have HSM := Lib.hid (fun v1 v2 l W h1 h2 => same_any v1 v2 l W h1 h2)
      have R1 := Lib.hid (show ∀ W, Below wr.heap.size wr W → ReadI W u9 (belP m i) from fun W hb => by
        have h1 := read_own (HS.out.own.below hb)
        rwa [HMN.out] at h1)
      have BWW := Lib.hid (show Below w.heap.size w wr from B1.out.trans (HS.out.bel.mono B1.out.size))
      obtain ⟨x, hx⟩ : ∃ x, x = upF m kind i := ⟨_, rfl⟩
      rw [← hx] at HUP HUL
      obtain ⟨y, hy⟩ : ∃ y, y = levW m (upF m 1 i) mn := ⟨_, rfl⟩
      rw [← hy] at HLV ⊢
      have x1 : (x == x) = true := by simp
      have y1 : (y == y) = true := by simp
      clear ht hx hy
      go_wp2_with fail
      refine HUP.out.mono ?_
      rintro o w3 ⟨rfl, rfl⟩
      go_wp2_with fail
      refine HUL.out.mono ?_
      rintro o w3 ⟨rfl, rfl⟩
      go_wp2_with fail
      refine HBE.out.mono ?_
      rintro o wB ⟨vB, rfl, hv, hb⟩
      have BB := Lib.hid hb
      have M1 := Lib.hid (HSM.out vB u9 (belP m i) wB hv (R1.out _ hb))
      clear hv hb
      go_wp2_with fail
      refine M1.out.mono ?_
      rintro o wC ⟨rfl, hb⟩
      have BC := Lib.hid (BB.out.trans (hb.mono BB.out.size))
      clear hb
      go_wp2_with fail
      refine (HLV.out _ BC.out).mono ?_
      rintro o wD ⟨rfl, hb⟩
      have BD := Lib.hid (BC.out.trans (hb.mono BC.out.size))
      clear hb
      go_wp2_with fail
      refine (HAW.out _).mono ?_
      rintro o wJ ⟨rfl, hb⟩
      have BJ := Lib.hid (BD.out.trans (hb.mono BD.out.size))
      clear hb
      go_wp2_with fail
      go_ret
      exact ⟨rfl, BWW.out.trans (BJ.out.mono BWW.out.size)⟩
end Go.Proofs.Ytndlgdjkldnfiaa.treR
