/- Layer 16: the law of TreeNews. -/
import Derived.Test.YtndlgdjkldnfiaaTreJ
import Derived.Test.YtndlgdjkldnfiaaTreF
namespace Go.Proofs.Ytndlgdjkldnfiaa.treK
open Go.ChangeShapes Go.WideShapes Go.ChangeAt Go.RowKit
open Go.Proofs.Ytndlgdjkldnfiaa.base Go.Proofs.Ytndlgdjkldnfiaa.dfA Go.Proofs.Ytndlgdjkldnfiaa.treA Go.Proofs.Ytndlgdjkldnfiaa.treB Go.Proofs.Ytndlgdjkldnfiaa.treC Go.Proofs.Ytndlgdjkldnfiaa.treD Go.Proofs.Ytndlgdjkldnfiaa.treE Go.Proofs.Ytndlgdjkldnfiaa.treG Go.Proofs.Ytndlgdjkldnfiaa.treH Go.Proofs.Ytndlgdjkldnfiaa.treI Go.Proofs.Ytndlgdjkldnfiaa.treJ
set_option linter.unusedVariables false

theorem rd_take {w : World} {A : Option Addr} {l : List Nd} (h : RdN w A l) (k : Nat) : RdN w A (l.take k) := by
  rcases h with h0 | ⟨b, off, h1, h2, h3⟩
  · subst h0
    exact .inl (by simp)
  · refine .inr ⟨b, off, h1, h2, fun j hj i hi => ?_⟩
    have hj2 : j < l.length := by rw [List.length_take] at hj; omega
    rw [h3 j hj2 i hi]
    simp
set_option maxRecDepth 100000 in
set_option maxHeartbeats 32000000 in
theorem news_any (A : Option Addr) (n c : Nat) (l : List Nd) (s : ByteArray) (w : World) (hr : RdN w A l) (hl : l.length ≤ 60) (hcap : l.length ≤ c) (hcap2 : c ≤ 9223372036854775807) (hnm : ∀ j (hj : j < l.length), (l[j]).nm.size ≤ 9223372036854775807) (hs : s.size ≤ 9223372036854775807)
    (hfew : ∀ W', Calls Try.prog 7 #[.slice A n c] W' fun o w' => o = .returned (.slice A l.length c) ∧ Below W'.heap.size W' w') :
    Calls Try.prog 3 #[.slice A n c, .string s] w fun o w' => o = .returned (.bool true) ∧ Below w.heap.size w w' := by
  have HR := Lib.hid hr
  have HNM := Lib.hid hnm
  have HFW := Lib.hid (hfew w)
  have HN1 := Lib.hid (fun W => name_any s W hs)
  have HN2 := Lib.hid (fun W => lawname_any s W hs)
  have HAW := Lib.hid (fun W => awake_any W)
  have HNW := Lib.hid (show ∀ W, Below w.heap.size w W → Calls Try.prog 8 #[.slice A l.length c] W fun o w' => NewPost l W o w' ∧ Below W.heap.size W w' from fun W hb => new_any A c l W (hr.below hb) (by omega) hcap hcap2 hnm)
  obtain ⟨ln, hln⟩ : ∃ ln, ln = l.length := ⟨_, rfl⟩
  have HLN := Lib.hid hln
  rw [← hln] at hl hcap HFW HNW
  clear hr hnm hfew hln
  go_enter Try.func3, Try.ntmps3
  go_wp2_with fail
  refine HFW.out.mono ?_
  rintro o w1 ⟨rfl, hb1⟩
  have B1 := Lib.hid hb1
  clear hb1
  go_wp2_with fail
  refine (HNW.out _ B1.out).mono ?_
  rintro o w2 ⟨hp, hb2⟩
  have B4 := Lib.hid (B1.out.trans (hb2.mono B1.out.size))
  clear hb2
  rcases hp with ⟨i0, hi0, hg, hb, rfl⟩ | ⟨hg, nv, kv, ks, rfl, hgr⟩
  · have HG := Lib.hid hg
    obtain ⟨q, hq⟩ : ∃ q, q = whyF (l.take i0) l[i0] := ⟨_, rfl⟩
    have HQ := Lib.hid hq
    rw [← hq] at hb ⊢
    have q0 : (q == 0) = false := beq_false_of_ne hb
    have q1 : (q != 0) = true := by simp [hb]
    have hin : i0 < ln := by have := HLN.out; omega
    clear hg hq hb
    go_wp2_with fail
    refine (HN1.out _).mono ?_
    rintro o w3 ⟨rfl, rfl⟩
    go_wp2_with fail
    refine (HN2.out _).mono ?_
    rintro o w3 ⟨rfl, rfl⟩
    go_wp2_with fail
    go_loopw [8] (fun i wr => ∃ k : Nat, i = .int .i64 k ∧ k ≤ i0 ∧ Below w.heap.size w wr) (fun i _ => ln - (intOf i).toNat)
    case atStart => exact ⟨0, rfl, by omega, B4.out⟩
    case round =>
      obtain ⟨k, rfl, hk, hbel⟩ := hrel
      have KB := Lib.hid hbel
      clear hbel
      by_cases hkn : k < ln
      · have t1 : decide ((k : Int) < ln) = true := decide_eq_true (by omega)
        have hjl : k < l.length := HLN.out ▸ hkn
        have hlen : (l.take k).length = k := by rw [List.length_take]; omega
        obtain ⟨b, off, hA, hbl, hC⟩ := (HR.out.below KB.out).at_ k hjl
        subst hA
        have HRK := Lib.hid (rd_take (HR.out) k)
        have HWH := Lib.hid (show ∀ W, Below w.heap.size w W → Calls Try.prog 11 #[.agg (l[k]).cells, .slice (some ⟨b, off, none⟩) k c] W fun o w' => o = .returned (.int .i64 (whyF (l.take k) l[k])) ∧ Below W.heap.size W w' from fun W hb => by
          have h1 := treF.lawwhy_any (some ⟨b, off, none⟩) c (l.take k) W l[k] (HRK.out.below hb) (by omega) (by omega) hcap2 (HNM.out k hjl)
          rw [hlen] at h1
          exact h1)
        obtain ⟨y, hy⟩ : ∃ y, y = whyF (l.take k) l[k] := ⟨_, rfl⟩
        have HIS := Lib.hid (show k = i0 → y = q from fun h => by subst h; rw [hy, HQ.out])
        have HGD := Lib.hid (show k < i0 → y = 0 from fun h => by rw [hy]; exact HG.out k hjl h)
        rw [← hy] at HWH
        clear hy hlen
        obtain ⟨e, he⟩ : ∃ e, e = l[k] := ⟨_, rfl⟩
        rw [← he] at hC HWH
        have HS := Lib.hid (show ∀ W, Below wr.heap.size wr W → (W.cell? ⟨b, off + k * 7, none⟩ = some (.string e.nm) ∧ W.cell? ⟨b, off + k * 7 + 1, none⟩ = some (.int .i64 e.kind) ∧ W.cell? ⟨b, off + k * 7 + 2, none⟩ = some (.int .i64 e.ab) ∧ W.cell? ⟨b, off + k * 7 + 3, none⟩ = some (.int .i64 e.wt) ∧ W.cell? ⟨b, off + k * 7 + 4, none⟩ = some (.bool e.v6) ∧ W.cell? ⟨b, off + k * 7 + 5, none⟩ = some (.int .u64 e.hi) ∧ W.cell? ⟨b, off + k * 7 + 6, none⟩ = some (.int .u64 e.lo)) from fun W hb => by
          have hc := fun i hi => ((hb.cell (p := ⟨b, off + k * 7 + i, none⟩) hbl).trans (hC i hi))
          exact ⟨hc 0 (by omega), hc 1 (by omega), hc 2 (by omega), hc 3 (by omega), hc 4 (by omega), hc 5 (by omega), hc 6 (by omega)⟩)
        have BD := Lib.hid (KB.out.drew)
        have j0 : (0 : Int) ≤ k := by omega
        have j1 : (k : Int) < ln := by omega
        have j2 : (k : Int) ≤ c := by omega
        have j3 : (ln : Int) ≤ c := by omega
        unfold Nd.cells at HWH
        clear hC he
        go_wp2_with fail
        have s0 := HS.out _ (Below.refl _ _).drew
        go_region_held3 (fun w' => w'.cell? ⟨b, off + k * 7, none⟩ = some (.string e.nm) ∧ w'.cell? ⟨b, off + k * 7 + 1, none⟩ = some (.int .i64 e.kind) ∧ w'.cell? ⟨b, off + k * 7 + 2, none⟩ = some (.int .i64 e.ab) ∧ w'.cell? ⟨b, off + k * 7 + 3, none⟩ = some (.int .i64 e.wt) ∧ w'.cell? ⟨b, off + k * 7 + 4, none⟩ = some (.bool e.v6) ∧ w'.cell? ⟨b, off + k * 7 + 5, none⟩ = some (.int .u64 e.hi) ∧ w'.cell? ⟨b, off + k * 7 + 6, none⟩ = some (.int .u64 e.lo)) (first | with_reducible assumption)
          (first
            | (go_at_call 11
               (with_reducible refine (HWH.out _ BD.out).mono ?_)
               rintro o w5 ⟨rfl, hb5⟩
               have s5 := HS.out _ ((Below.refl _ _).drew.trans (hb5.mono (Nat.le_refl _)))
               have B5 := Lib.hid (BD.out.trans (hb5.mono BD.out.size))
               clear hb5))
        by_cases hki : k = i0
        · obtain rfl := HIS.out hki
          subst hki
          go_wp2_with fail
          refine (HAW.out _).mono ?_
          rintro o w6 ⟨rfl, hb6⟩
          have B6 := Lib.hid (B5.out.trans (hb6.mono B5.out.size))
          clear hb6
          go_wp2_with fail
          go_ret
          exact ⟨rfl, B6.out⟩
        · have hlt : k < i0 := by omega
          obtain rfl := HGD.out hlt
          go_wp2_with fail
          go_roundw
          case rel => exact ⟨k + 1, by go_num, by omega, B5.out⟩
          case measure => simp [intOf]; omega
      · omega
  · have HG := Lib.hid hg
    have HLT := Lib.hid (show ∀ W, Below w2.heap.size w2 W → Calls Try.prog 13 #[.pointer (some ⟨w1.heap.size, 0, none⟩)] W fun o w' => o = .returned (.int .i64 ln) ∧ Below W.heap.size W w' from fun W hb => by
      obtain ⟨A2, c2, K2, kc2, ht, _⟩ := (hgr.below hb).at_
      have h1 := len_any ht
      rw [← HLN.out] at h1
      exact h1)
    clear hg hgr
    go_wp2_with fail
    refine (HN1.out _).mono ?_
    rintro o w3 ⟨rfl, rfl⟩
    go_wp2_with fail
    refine (HN2.out _).mono ?_
    rintro o w3 ⟨rfl, rfl⟩
    go_wp2_with fail
    go_loopw [8] (fun i wr => ∃ k : Nat, i = .int .i64 k ∧ k ≤ ln ∧ Below w2.heap.size w2 wr) (fun i _ => ln - (intOf i).toNat)
    case atStart => exact ⟨0, rfl, by omega, Below.refl _ _⟩
    case round =>
      obtain ⟨k, rfl, hk, hbel⟩ := hrel
      have KB2 := Lib.hid hbel
      have KB := Lib.hid (B4.out.trans (hbel.mono B4.out.size))
      clear hbel
      by_cases hkn : k < ln
      · have t1 : decide ((k : Int) < ln) = true := decide_eq_true (by omega)
        have hjl : k < l.length := HLN.out ▸ hkn
        have hlen : (l.take k).length = k := by rw [List.length_take]; omega
        obtain ⟨b, off, hA, hbl, hC⟩ := (HR.out.below KB.out).at_ k hjl
        subst hA
        have HRK := Lib.hid (rd_take (HR.out) k)
        have HWH := Lib.hid (show ∀ W, Below w.heap.size w W → Calls Try.prog 11 #[.agg (l[k]).cells, .slice (some ⟨b, off, none⟩) k c] W fun o w' => o = .returned (.int .i64 (whyF (l.take k) l[k])) ∧ Below W.heap.size W w' from fun W hb => by
          have h1 := treF.lawwhy_any (some ⟨b, off, none⟩) c (l.take k) W l[k] (HRK.out.below hb) (by omega) (by omega) hcap2 (HNM.out k hjl)
          rw [hlen] at h1
          exact h1)
        obtain ⟨y, hy⟩ : ∃ y, y = whyF (l.take k) l[k] := ⟨_, rfl⟩
        have HGD := Lib.hid (show k < ln → y = 0 from fun h => by rw [hy]; exact HG.out k hjl hjl)
        rw [← hy] at HWH
        clear hy hlen
        obtain ⟨e, he⟩ : ∃ e, e = l[k] := ⟨_, rfl⟩
        rw [← he] at hC HWH
        have HS := Lib.hid (show ∀ W, Below wr.heap.size wr W → (W.cell? ⟨b, off + k * 7, none⟩ = some (.string e.nm) ∧ W.cell? ⟨b, off + k * 7 + 1, none⟩ = some (.int .i64 e.kind) ∧ W.cell? ⟨b, off + k * 7 + 2, none⟩ = some (.int .i64 e.ab) ∧ W.cell? ⟨b, off + k * 7 + 3, none⟩ = some (.int .i64 e.wt) ∧ W.cell? ⟨b, off + k * 7 + 4, none⟩ = some (.bool e.v6) ∧ W.cell? ⟨b, off + k * 7 + 5, none⟩ = some (.int .u64 e.hi) ∧ W.cell? ⟨b, off + k * 7 + 6, none⟩ = some (.int .u64 e.lo)) from fun W hb => by
          have hc := fun i hi => ((hb.cell (p := ⟨b, off + k * 7 + i, none⟩) hbl).trans (hC i hi))
          exact ⟨hc 0 (by omega), hc 1 (by omega), hc 2 (by omega), hc 3 (by omega), hc 4 (by omega), hc 5 (by omega), hc 6 (by omega)⟩)
        have BD := Lib.hid (KB.out.drew)
        have BD2 := Lib.hid (KB2.out.drew)
        have j0 : (0 : Int) ≤ k := by omega
        have j1 : (k : Int) < ln := by omega
        have j2 : (k : Int) ≤ c := by omega
        have j3 : (ln : Int) ≤ c := by omega
        unfold Nd.cells at HWH
        clear hC he
        go_wp2_with fail
        have s0 := HS.out _ (Below.refl _ _).drew
        go_region_held3 (fun w' => w'.cell? ⟨b, off + k * 7, none⟩ = some (.string e.nm) ∧ w'.cell? ⟨b, off + k * 7 + 1, none⟩ = some (.int .i64 e.kind) ∧ w'.cell? ⟨b, off + k * 7 + 2, none⟩ = some (.int .i64 e.ab) ∧ w'.cell? ⟨b, off + k * 7 + 3, none⟩ = some (.int .i64 e.wt) ∧ w'.cell? ⟨b, off + k * 7 + 4, none⟩ = some (.bool e.v6) ∧ w'.cell? ⟨b, off + k * 7 + 5, none⟩ = some (.int .u64 e.hi) ∧ w'.cell? ⟨b, off + k * 7 + 6, none⟩ = some (.int .u64 e.lo)) (first | with_reducible assumption)
          (first
            | (go_at_call 11
               (with_reducible refine (HWH.out _ BD.out).mono ?_)
               rintro o w5 ⟨rfl, hb5⟩
               have s5 := HS.out _ ((Below.refl _ _).drew.trans (hb5.mono (Nat.le_refl _)))
               have B5 := Lib.hid (BD.out.trans (hb5.mono BD.out.size))
               have B52 := Lib.hid (BD2.out.trans (hb5.mono BD2.out.size))
               clear hb5))
        obtain rfl := HGD.out hkn
        go_wp2_with fail
        go_roundw
        case rel => exact ⟨k + 1, by go_num, by omega, B52.out⟩
        case measure => simp [intOf]; omega
      · have t1 : decide ((k : Int) < ln) = false := decide_eq_false (by omega)
        obtain rfl : ln = k := by omega
        have HLE := Lib.hid (HLT.out wr KB2.out)
        go_wp2_with fail
        refine HLE.out.mono ?_
        rintro o w5 ⟨rfl, hb5⟩
        have B5 := Lib.hid (KB.out.trans (hb5.mono KB.out.size))
        clear hb5
        go_wp2_with fail
        refine (HAW.out _).mono ?_
        rintro o w6 ⟨rfl, hb6⟩
        have B6 := Lib.hid (B5.out.trans (hb6.mono B5.out.size))
        clear hb6
        go_wp2_with fail
        go_ret
        exact ⟨rfl, B6.out⟩
end Go.Proofs.Ytndlgdjkldnfiaa.treK
