/- Layer 43: the law of DiffNodes. -/
import Derived.Test.YtpdkgchpkidbhaaDfG
import Derived.Deep.RegionHeld3
import Derived.Deep.QuietTactic
import Derived.BigQuiet
namespace Go.Proofs.Ytpdkgchpkidbhaa.dfH
open Go.ChangeShapes Go.WideShapes Go.ChangeAt Go.RowKit
open Go.Proofs.Ytpdkgchpkidbhaa.base Go.Proofs.Ytpdkgchpkidbhaa.dfA Go.Proofs.Ytpdkgchpkidbhaa.dfB Go.Proofs.Ytpdkgchpkidbhaa.dfC Go.Proofs.Ytpdkgchpkidbhaa.dfD Go.Proofs.Ytpdkgchpkidbhaa.dfE Go.Proofs.Ytpdkgchpkidbhaa.dfF Go.Proofs.Ytpdkgchpkidbhaa.dfG
set_option linter.unusedVariables false
set_option linter.unusedSimpArgs false

theorem own_at {w : World} {B : Nat} {v : Value} {l : List Cg} (h : OwnC w B v l) : ∃ A cap, v = .slice A l.length cap ∧ l.length ≤ cap ∧ cap ≤ 9223372036854775807 ∧ ∀ k (hk : k < l.length), ∃ g, A = some ⟨g, 0, none⟩ ∧ g < w.heap.size ∧ w.cell? ⟨g, k * 2, none⟩ = some (.string (l[k]).nm) ∧ w.cell? ⟨g, k * 2 + 1, none⟩ = some (.int .i64 (l[k]).what) := by
  obtain ⟨A, cap, h1, h2, h3, h4⟩ := h.slice
  refine ⟨A, cap, h1, h2, by unfold maxLen at h3; omega, fun k hk => ?_⟩
  rcases h4 with ⟨h5, _⟩ | ⟨g, hA, _, hg, hc⟩
  · subst h5; simp at hk
  · have e := List.getElem?_eq_getElem hk
    exact ⟨g, hA, hg, hc _ _ (by have := flatC_at l k 0 _ e (by omega); rw [Nat.add_zero] at this; rw [this]; rfl), hc _ _ (by rw [flatC_at l k 1 _ e (by omega)]; rfl)⟩
theorem cell_of {w w' : World} {b o : Nat} {u : Value} (h : w.cell? ⟨b, o, none⟩ = some u) (hb : w'.heap[b]? = w.heap[b]?) : w'.cell? ⟨b, o, none⟩ = some u := (World.cell?_of_block (a := ⟨b, o, none⟩) hb).trans h
set_option maxRecDepth 100000 in
set_option maxHeartbeats 32000000 in
theorem diff_any (v1 v2 : Value) (A1 A2 : Option Addr) (c1 c2 : Nat) (was now : List Nd) (w : World) (hr1 : RdN w A1 was) (hr2 : RdN w A2 now) (l1 : was.length ≤ 60) (l2 : now.length ≤ 60) (hc1 : was.length ≤ c1) (hc2 : now.length ≤ c2) (hm1 : c1 ≤ 9223372036854775807) (hm2 : c2 ≤ 9223372036854775807)
    (F1 : ∀ W, Calls Try.prog 4 #[v1] W fun o w' => o = .returned (.slice A1 was.length c1) ∧ Below W.heap.size W w') (F2 : ∀ W, Calls Try.prog 4 #[v2] W fun o w' => o = .returned (.slice A2 now.length c2) ∧ Below W.heap.size W w') :
    Calls Try.prog 3 #[v1, v2] w fun o w' => o = .returned (.bool true) ∧ Below w.heap.size w w' := by
  obtain ⟨i0, hi0, hz0, hz1, hz2⟩ := info_parts info_c
  have HI0 := Lib.hid hi0
  have HZ0 := Lib.hid hz0
  have HZ1 := Lib.hid hz1
  have HZ2 := Lib.hid hz2
  have HR1 := Lib.hid hr1
  have HR2 := Lib.hid hr2
  have HF1 := Lib.hid F1
  have HF2 := Lib.hid F2
  clear hi0 hz0 hz1 hz2 hr1 hr2 F1 F2
  go_enter Try.func3, Try.ntmps3
  go_wp2_with fail
  refine (HF1.out _).mono ?_
  rintro o wA ⟨rfl, hb⟩
  have BA := Lib.hid hb
  clear hb
  go_wp2_with fail
  refine (HF2.out _).mono ?_
  rintro o wB ⟨rfl, hb⟩
  have BB := Lib.hid (BA.out.trans (hb.mono BA.out.size))
  clear hb
  go_wp2_with fail
  go_loopw [5, 6] (fun out i wr => ∃ j : Nat, i = .int .i64 j ∧ j ≤ was.length ∧ OwnC wr w.heap.size out (goneC (was.take j) now) ∧ Below w.heap.size w wr) (fun _ i _ => was.length - (intOf i).toNat)
  case atStart => exact ⟨0, rfl, by omega, OwnC.nil _ _, BB.out⟩
  case round =>
    obtain ⟨j, rfl, hj, how, hbel⟩ := hrel
    have KO := Lib.hid how
    have KB := Lib.hid hbel
    clear how hbel
    by_cases hjn : j < was.length
    · have t1 : decide ((j : Int) < was.length) = true := decide_eq_true (by omega)
      have t1b : decide (j < was.length) = true := decide_eq_true hjn
      obtain ⟨b, off, hA, hbl, hC⟩ := (HR1.out.below KB.out).at_ j hjn
      subst hA
      have HNX := Lib.hid (gone_next now was j hjn)
      obtain ⟨e, he⟩ : ∃ e, e = was[j] := ⟨_, rfl⟩
      rw [← he] at hC HNX
      have d0 : wr.cell? ⟨b, off + j * 7, none⟩ = some (.string e.nm) := hC 0 (by omega)
      have j0 : (0 : Int) ≤ j := by omega
      have j1 : (j : Int) < was.length := by omega
      have HF := Lib.hid (lfind_any A2 c2 now e.nm wr (HR2.out.below KB.out) (by omega) hc2 hm2)
      clear hC he
      go_wp2_with fail
      refine HF.out.mono ?_
      rintro o w3 ⟨at', rfl, hfd, hb⟩
      have HZ := Lib.hid (fz_is now e.nm at' hfd)
      have B3 := Lib.hid (KB.out.trans (hb.mono KB.out.size))
      have O3 := Lib.hid (KO.out.below hb)
      have k0 : w3.cell? ⟨b, off + j * 7, none⟩ = some (.string e.nm) := cell_of d0 (hb.block b hbl)
      have HGL := Lib.hid (goneT_len now was j)
      clear hb HF d0
      rcases hfd with ⟨rfl, hno⟩ | ⟨p, hp, rfl, hpn, hpm⟩
      · rw [HZ.out, if_pos rfl] at HNX
        clear hno
        have KO2a := Lib.hid (O3.out.alloc (.cells #[.string e.nm, .int .i64 1] 32))
        have KB2a := Lib.hid (B3.out.alloc B3.out.size (.cells #[.string e.nm, .int .i64 1] 32))
        have HNEa := Lib.hid (show ∀ p u, (Cg.cells ⟨e.nm, 1⟩).toList[p]? = some u → (w3.alloc (.cells #[.string e.nm, .int .i64 1] 32)).cell? ((⟨w3.heap.size, 0, none⟩ : Addr).add p) = some u from fun p u hu => by
          rw [Addr.add_lit, Nat.zero_add, (Blk.new w3 32 #[.string e.nm, .int .i64 1]).cell p]
          have h2 : (Cg.cells ⟨e.nm, 1⟩)[p]? = some u := by simpa using hu
          exact h2)
        have P1a := Lib.hid (show (goneC (was.take j) now).length + 1 ≤ maxLen by unfold maxLen; have := HGL.out; (try simp only [List.length_append, List.length_cons, List.length_nil] at this ⊢); omega)
        have P2a := Lib.hid (show ((goneC (was.take j) now).length + 1) * 24 ≤ 140737488355328 by have := HGL.out; (try simp only [List.length_append, List.length_cons, List.length_nil] at this ⊢); omega)
        have P3a := Lib.hid (show w.heap.size ≤ (w3.alloc (.cells #[.string e.nm, .int .i64 1] 32)).heap.size from KB2a.out.size)
        go_wp2_with (at_builtin; refine wpList_append_new _ rfl (.tmp 31) (.tmp 38) _ rfl w.heap.size 32 i0 _ 2 24 Try.underlying24 HI0.out HZ0.out HZ1.out HZ2.out rfl (by omega) _ (goneC (was.take j) now).length (flatC (goneC (was.take j) now)) rfl KO2a.out ⟨w3.heap.size, 0, none⟩ 1 1 (Cg.cells ⟨e.nm, 1⟩).toList rfl (Nat.le_refl 1) rfl HNEa.out (one_c1 _) P1a.out P2a.out P3a.out ?_; intro v6a w6a ho hg hgg; have HOa := Lib.hid (own_snoc (l := goneC (was.take j) now) (e := ⟨e.nm, 1⟩) ho); have HBa := Lib.hid (KB2a.out.grown hg P3a.out (fun k hk => (KO2a.out.lt k hk).1)); clear ho hg hgg)
        go_roundw
        case rel => exact ⟨j + 1, by go_num, by omega, by rw [HNX.out]; exact HOa.out, HBa.out⟩
        case measure => simp [intOf]; omega
      · have t3 : decide (((p : Nat) : Int) < 0) = false := decide_eq_false (by omega)
        rw [HZ.out, if_neg (by omega), List.append_nil] at HNX
        clear hpn hpm
        go_wp2_with fail
        go_roundw
        case rel => exact ⟨j + 1, by go_num, by omega, by rw [HNX.out]; exact O3.out, B3.out⟩
        case measure => simp [intOf]; omega
    · have t1 : decide ((j : Int) < was.length) = false := decide_eq_false (by omega)
      have t1b : decide (j < was.length) = false := decide_eq_false hjn
      have hjl : was.take j = was := List.take_of_length_le (by omega)
      rw [hjl] at KO
      have O1 := Lib.hid (show OwnC wr w.heap.size u5 (goneC was now ++ newC was now (now.take 0)) from by
        have : newC was now (now.take 0) = [] := by simp [newC]
        rw [this, List.append_nil]
        exact KO.out)
      clear hjl
      go_wp2_with fail
      go_loopw [5, 7] (fun out i wz => ∃ q : Nat, i = .int .i64 q ∧ q ≤ now.length ∧ OwnC wz w.heap.size out (goneC was now ++ newC was now (now.take q)) ∧ Below w.heap.size w wz) (fun _ i _ => now.length - (intOf i).toNat)
      case atStart => exact ⟨0, rfl, by omega, O1.out, KB.out⟩
      case round =>
        obtain ⟨q, rfl, hq, how, hbel⟩ := hrel
        have KO := Lib.hid how
        have KB := Lib.hid hbel
        clear how hbel
        by_cases hqn : q < now.length
        · have t2 : decide ((q : Int) < now.length) = true := decide_eq_true (by omega)
          have t2b : decide (q < now.length) = true := decide_eq_true hqn
          obtain ⟨b, off, hA, hbl, hC⟩ := (HR2.out.below KB.out).at_ q hqn
          subst hA
          have HNX := Lib.hid (new_next was now now q hqn)
          obtain ⟨e, he⟩ : ∃ e, e = now[q] := ⟨_, rfl⟩
          rw [← he] at hC HNX
          have d0 : wr.cell? ⟨b, off + q * 7, none⟩ = some (.string e.nm) := hC 0 (by omega)
          have d1 : wr.cell? ⟨b, off + q * 7 + 1, none⟩ = some (.int .i64 e.kind) := hC 1 (by omega)
          have d2 : wr.cell? ⟨b, off + q * 7 + 2, none⟩ = some (.int .i64 e.ab) := hC 2 (by omega)
          have d3 : wr.cell? ⟨b, off + q * 7 + 3, none⟩ = some (.int .i64 e.wt) := hC 3 (by omega)
          have d4 : wr.cell? ⟨b, off + q * 7 + 4, none⟩ = some (.bool e.v6) := hC 4 (by omega)
          have d5 : wr.cell? ⟨b, off + q * 7 + 5, none⟩ = some (.int .u64 e.hi) := hC 5 (by omega)
          have d6 : wr.cell? ⟨b, off + q * 7 + 6, none⟩ = some (.int .u64 e.lo) := hC 6 (by omega)
          have j0 : (0 : Int) ≤ q := by omega
          have j1 : (q : Int) < now.length := by omega
          have hba : Below wr.heap.size wr (wr.alloc (.cells #[.string e.nm, .int .i64 e.kind, .int .i64 e.ab, .int .i64 e.wt, .bool e.v6, .int .u64 e.hi, .int .u64 e.lo] 30)) := (Below.refl wr.heap.size wr).alloc (Nat.le_refl _) _
          have HF := Lib.hid (lfind_any A1 c1 was e.nm (wr.alloc (.cells #[.string e.nm, .int .i64 e.kind, .int .i64 e.ab, .int .i64 e.wt, .bool e.v6, .int .u64 e.hi, .int .u64 e.lo] 30)) ((HR1.out.below KB.out).below hba) (by omega) hc1 hm1)
          have HK := Lib.hid (Blk.new wr 30 #[.string e.nm, .int .i64 e.kind, .int .i64 e.ab, .int .i64 e.wt, .bool e.v6, .int .u64 e.hi, .int .u64 e.lo])
          have HBA := Lib.hid (KB.out.trans (hba.mono KB.out.size))
          have HOA := Lib.hid (KO.out.alloc (.cells #[.string e.nm, .int .i64 e.kind, .int .i64 e.ab, .int .i64 e.wt, .bool e.v6, .int .u64 e.hi, .int .u64 e.lo] 30))
          clear hC he hba
          go_wp2_with fail
          refine HF.out.mono ?_
          rintro o w3 ⟨at', rfl, hfd, hb⟩
          have HZ := Lib.hid (fz_is was e.nm at' hfd)
          have B3 := Lib.hid (HBA.out.trans (hb.mono HBA.out.size))
          have O3 := Lib.hid (HOA.out.below hb)
          have K3 := Lib.hid (show Blk w3 wr.heap.size 30 #[.string e.nm, .int .i64 e.kind, .int .i64 e.ab, .int .i64 e.wt, .bool e.v6, .int .u64 e.hi, .int .u64 e.lo] from (hb.block _ HK.out.lt).trans HK.out)
          have HGL := Lib.hid (show (goneC was now ++ newC was now (now.take q)).length ≤ 300 from by
            have h1 := goneT_len now was was.length
            rw [List.take_length] at h1
            have h2 := newT_len was now now q
            rw [List.length_append]
            omega)
          clear hb HF d0 d1 d2 d3 d4 d5 d6
          rcases hfd with ⟨rfl, hno⟩ | ⟨p, hp, rfl, hpn, _⟩
          · have HON := Lib.hid (show goneC was now ++ newC was now (now.take (q + 1)) = (goneC was now ++ newC was now (now.take q)) ++ [⟨e.nm, 2⟩] from by
              rw [HNX.out, List.append_assoc]
              congr 2
              unfold oneC
              rw [if_pos HZ.out])
            have k0' : w3.cell? ⟨wr.heap.size, 0, none⟩ = some (.string e.nm) := K3.out.cell 0
            clear hno
            have KO2b := Lib.hid (O3.out.alloc (.cells #[.string e.nm, .int .i64 2] 32))
            have KB2b := Lib.hid (B3.out.alloc B3.out.size (.cells #[.string e.nm, .int .i64 2] 32))
            have HNEb := Lib.hid (show ∀ p u, (Cg.cells ⟨e.nm, 2⟩).toList[p]? = some u → (w3.alloc (.cells #[.string e.nm, .int .i64 2] 32)).cell? ((⟨w3.heap.size, 0, none⟩ : Addr).add p) = some u from fun p u hu => by
              rw [Addr.add_lit, Nat.zero_add, (Blk.new w3 32 #[.string e.nm, .int .i64 2]).cell p]
              have h2 : (Cg.cells ⟨e.nm, 2⟩)[p]? = some u := by simpa using hu
              exact h2)
            have P1b := Lib.hid (show (goneC was now ++ newC was now (now.take q)).length + 1 ≤ maxLen by unfold maxLen; have := HGL.out; (try simp only [List.length_append, List.length_cons, List.length_nil] at this ⊢); omega)
            have P2b := Lib.hid (show ((goneC was now ++ newC was now (now.take q)).length + 1) * 24 ≤ 140737488355328 by have := HGL.out; (try simp only [List.length_append, List.length_cons, List.length_nil] at this ⊢); omega)
            have P3b := Lib.hid (show w.heap.size ≤ (w3.alloc (.cells #[.string e.nm, .int .i64 2] 32)).heap.size from KB2b.out.size)
            go_wp2_with (at_builtin; refine wpList_append_new _ rfl (.tmp 56) (.tmp 60) _ rfl w.heap.size 32 i0 _ 2 24 Try.underlying24 HI0.out HZ0.out HZ1.out HZ2.out rfl (by omega) _ (goneC was now ++ newC was now (now.take q)).length (flatC (goneC was now ++ newC was now (now.take q))) rfl KO2b.out ⟨w3.heap.size, 0, none⟩ 1 1 (Cg.cells ⟨e.nm, 2⟩).toList rfl (Nat.le_refl 1) rfl HNEb.out (one_c1 _) P1b.out P2b.out P3b.out ?_; intro v6b w6b ho hg hgg; have HOb := Lib.hid (own_snoc (l := goneC was now ++ newC was now (now.take q)) (e := ⟨e.nm, 2⟩) ho); have HBb := Lib.hid (KB2b.out.grown hg P3b.out (fun k hk => (KO2b.out.lt k hk).1)); clear ho hg hgg)
            go_roundw
            case rel => exact ⟨q + 1, by go_num, by omega, by rw [HON.out]; exact HOb.out, HBb.out⟩
            case measure => simp [intOf]; omega
          · obtain ⟨a, ha⟩ : ∃ a, a = was[p] := ⟨_, rfl⟩
            have HON := Lib.hid (show goneC was now ++ newC was now (now.take (q + 1)) = (goneC was now ++ newC was now (now.take q)) ++ othC a (aboveS was a) e (aboveS now e) from by
              rw [HNX.out, List.append_assoc]
              congr 2
              unfold oneC
              rw [if_neg (by rw [HZ.out]; omega), HZ.out, Int.toNat_natCast, List.getElem?_eq_getElem hp, ← ha])
            obtain ⟨b1, off1, hA1, hbl1, hC1⟩ := (HR1.out.below B3.out).at_ p hp
            subst hA1
            rw [← ha] at hC1
            have y0 : w3.cell? ⟨b1, off1 + p * 7, none⟩ = some (.string a.nm) := hC1 0 (by omega)
            have y1 : w3.cell? ⟨b1, off1 + p * 7 + 1, none⟩ = some (.int .i64 a.kind) := hC1 1 (by omega)
            have y2 : w3.cell? ⟨b1, off1 + p * 7 + 2, none⟩ = some (.int .i64 a.ab) := hC1 2 (by omega)
            have y3 : w3.cell? ⟨b1, off1 + p * 7 + 3, none⟩ = some (.int .i64 a.wt) := hC1 3 (by omega)
            have y4 : w3.cell? ⟨b1, off1 + p * 7 + 4, none⟩ = some (.bool a.v6) := hC1 4 (by omega)
            have y5 : w3.cell? ⟨b1, off1 + p * 7 + 5, none⟩ = some (.int .u64 a.hi) := hC1 5 (by omega)
            have y6 : w3.cell? ⟨b1, off1 + p * 7 + 6, none⟩ = some (.int .u64 a.lo) := hC1 6 (by omega)
            have t3 : decide (((p : Nat) : Int) < 0) = false := decide_eq_false (by omega)
            have p0 : (0 : Int) ≤ p := by omega
            have p1 : (p : Int) < was.length := by omega
            obtain ⟨w4, hw4⟩ : ∃ w4, w4 = w3.alloc (.cells #[.string a.nm, .int .i64 a.kind, .int .i64 a.ab, .int .i64 a.wt, .bool a.v6, .int .u64 a.hi, .int .u64 a.lo] 30) := ⟨_, rfl⟩
            have hb4 : Below w3.heap.size w3 w4 := hw4 ▸ (Below.refl w3.heap.size w3).alloc (Nat.le_refl _) _
            have HS4 := Lib.hid (show w4.heap.size = w3.heap.size + 1 by rw [hw4]; simp)
            have KA := Lib.hid (show Blk w4 w3.heap.size 30 #[.string a.nm, .int .i64 a.kind, .int .i64 a.ab, .int .i64 a.wt, .bool a.v6, .int .u64 a.hi, .int .u64 a.lo] from hw4 ▸ Blk.new w3 _ _)
            have KE := Lib.hid (show Blk w4 wr.heap.size 30 #[.string e.nm, .int .i64 e.kind, .int .i64 e.ab, .int .i64 e.wt, .bool e.v6, .int .u64 e.hi, .int .u64 e.lo] from (hb4.block _ K3.out.lt).trans K3.out)
            have B4 := Lib.hid (B3.out.trans (hb4.mono B3.out.size))
            have O4 := Lib.hid (O3.out.below hb4)
            have R14 := Lib.hid (HR1.out.below B4.out)
            have R24 := Lib.hid (HR2.out.below B4.out)
            have HW4 := Lib.hid hw4
            have HLO := Lib.hid KO.out.lt
            have HLE := Lib.hid K3.out.lt
            have AP := Lib.hid (show ∀ g, u5.ownBlock = some g → g ≠ wr.heap.size ∧ g ≠ w3.heap.size from fun g hg => by
              have h1 := (HLO.out g hg).2
              have h2 := HLE.out
              omega)
            clear hb4 hw4 hC1 ha hpn
            go_wp2_with fail
            rw [← HW4.out]
            clear y0 y1 y2 y3 y4 y5 y6 p0 p1 t3
            have HFR := Lib.hid (show ∀ W : World, Below w4.heap.size w4 W → (W.cell? ⟨wr.heap.size, 0, none⟩ = some (.string e.nm) ∧ W.cell? ⟨wr.heap.size, 1, none⟩ = some (.int .i64 e.kind) ∧ W.cell? ⟨wr.heap.size, 2, none⟩ = some (.int .i64 e.ab) ∧ W.cell? ⟨wr.heap.size, 3, none⟩ = some (.int .i64 e.wt) ∧ W.cell? ⟨wr.heap.size, 4, none⟩ = some (.bool e.v6) ∧ W.cell? ⟨wr.heap.size, 5, none⟩ = some (.int .u64 e.hi) ∧ W.cell? ⟨wr.heap.size, 6, none⟩ = some (.int .u64 e.lo) ∧ W.cell? ⟨w3.heap.size, 0, none⟩ = some (.string a.nm) ∧ W.cell? ⟨w3.heap.size, 1, none⟩ = some (.int .i64 a.kind) ∧ W.cell? ⟨w3.heap.size, 2, none⟩ = some (.int .i64 a.ab) ∧ W.cell? ⟨w3.heap.size, 3, none⟩ = some (.int .i64 a.wt) ∧ W.cell? ⟨w3.heap.size, 4, none⟩ = some (.bool a.v6) ∧ W.cell? ⟨w3.heap.size, 5, none⟩ = some (.int .u64 a.hi) ∧ W.cell? ⟨w3.heap.size, 6, none⟩ = some (.int .u64 a.lo)) from fun W hb => by
              have h1 : Blk W wr.heap.size 30 #[.string e.nm, .int .i64 e.kind, .int .i64 e.ab, .int .i64 e.wt, .bool e.v6, .int .u64 e.hi, .int .u64 e.lo] := (hb.block _ KE.out.lt).trans KE.out
              have h2 : Blk W w3.heap.size 30 #[.string a.nm, .int .i64 a.kind, .int .i64 a.ab, .int .i64 a.wt, .bool a.v6, .int .u64 a.hi, .int .u64 a.lo] := (hb.block _ KA.out.lt).trans KA.out
              exact ⟨h1.cell 0, h1.cell 1, h1.cell 2, h1.cell 3, h1.cell 4, h1.cell 5, h1.cell 6, h2.cell 0, h2.cell 1, h2.cell 2, h2.cell 3, h2.cell 4, h2.cell 5, h2.cell 6⟩)
            obtain ⟨q2, hq2⟩ : ∃ q : Bool, q = decide (a.v6 ≠ e.v6 ∨ a.hi ≠ e.hi ∨ a.lo ≠ e.lo) := ⟨_, rfl⟩
            obtain ⟨q3, hq3⟩ : ∃ q : Bool, q = (a.wt != e.wt) := ⟨_, rfl⟩
            have had : ∀ W : World, (binOp .neq 28 (.agg #[.bool a.v6, .int .u64 a.hi, .int .u64 a.lo]) (.agg #[.bool e.v6, .int .u64 e.hi, .int .u64 e.lo])).run Try.prog W = .ok (.bool q2) W := fun W => by rw [hq2]; exact adr_ne _ _ _ _ _ _ W
            have hwt : (a.wt != e.wt) = q3 := hq3.symm
            have B5 := Lib.hid ((Below.refl w4.heap.size w4).drew)
            have s0 := HFR.out _ B5.out
            by_cases hkd : a.kind = e.kind
            · obtain ⟨q1, hq1⟩ : ∃ q : Bool, q = !((aboveS was a).toList == (aboveS now e).toList) := ⟨_, rfl⟩
              have hk : (a.kind != e.kind) = false := by simp [hkd]
              have HOT := Lib.hid (othC_may a (aboveS was a) e (aboveS now e) q1 q2 q3 (by
                rw [hq1]
                by_cases h : aboveS was a = aboveS now e
                · rw [str_yes h]; simp [hkd, h]
                · rw [str_no h]; simp [h]) (by rw [hq2]; simp) (by rw [hq3]; simp))
              have hst : (!((aboveS was a).toList == (aboveS now e).toList)) = q1 := hq1.symm
              have hst2 : ((aboveS was a).toList != (aboveS now e).toList) = q1 := hq1.symm
              clear hq1 hq2 hq3 hkd
              have HA1 := Lib.hid (show ∀ W, Below w4.heap.size w4 W → Calls Try.prog 6 #[.slice (some ⟨b1, off1, none⟩) was.length c1, .agg #[.string a.nm, .int .i64 a.kind, .int .i64 a.ab, .int .i64 a.wt, .bool a.v6, .int .u64 a.hi, .int .u64 a.lo]] W fun o w' => o = .returned (.string (aboveS was a)) ∧ Below w4.heap.size w4 w' from fun W hb => (lawabove_any _ c1 was a W (R14.out.below hb) hc1 hm1).mono fun o w' ⟨x, y⟩ => ⟨x, hb.trans (y.mono hb.size)⟩)
              have HA2 := Lib.hid (show ∀ W, Below w4.heap.size w4 W → Calls Try.prog 6 #[.slice (some ⟨b, off, none⟩) now.length c2, .agg #[.string e.nm, .int .i64 e.kind, .int .i64 e.ab, .int .i64 e.wt, .bool e.v6, .int .u64 e.hi, .int .u64 e.lo]] W fun o w' => o = .returned (.string (aboveS now e)) ∧ Below w4.heap.size w4 w' from fun W hb => (lawabove_any _ c2 now e W (R24.out.below hb) hc2 hm2).mono fun o w' ⟨x, y⟩ => ⟨x, hb.trans (y.mono hb.size)⟩)
              go_region_held3 (fun w' => w'.cell? ⟨wr.heap.size, 0, none⟩ = some (.string e.nm) ∧ w'.cell? ⟨wr.heap.size, 1, none⟩ = some (.int .i64 e.kind) ∧ w'.cell? ⟨wr.heap.size, 2, none⟩ = some (.int .i64 e.ab) ∧ w'.cell? ⟨wr.heap.size, 3, none⟩ = some (.int .i64 e.wt) ∧ w'.cell? ⟨wr.heap.size, 4, none⟩ = some (.bool e.v6) ∧ w'.cell? ⟨wr.heap.size, 5, none⟩ = some (.int .u64 e.hi) ∧ w'.cell? ⟨wr.heap.size, 6, none⟩ = some (.int .u64 e.lo) ∧ w'.cell? ⟨w3.heap.size, 0, none⟩ = some (.string a.nm) ∧ w'.cell? ⟨w3.heap.size, 1, none⟩ = some (.int .i64 a.kind) ∧ w'.cell? ⟨w3.heap.size, 2, none⟩ = some (.int .i64 a.ab) ∧ w'.cell? ⟨w3.heap.size, 3, none⟩ = some (.int .i64 a.wt) ∧ w'.cell? ⟨w3.heap.size, 4, none⟩ = some (.bool a.v6) ∧ w'.cell? ⟨w3.heap.size, 5, none⟩ = some (.int .u64 a.hi) ∧ w'.cell? ⟨w3.heap.size, 6, none⟩ = some (.int .u64 a.lo)) (assumption)
                (first
                  | (go_at_call 6
                     (with_reducible refine (HA1.out _ B5.out).mono ?_)
                     rintro o w5 ⟨rfl, hb⟩
                     have s5 := HFR.out _ hb
                     have B5 := Lib.hid hb
                     clear hb)
                  | (go_at_call 6
                     (with_reducible refine (HA2.out _ B5.out).mono ?_)
                     rintro o w5 ⟨rfl, hb⟩
                     have s5 := HFR.out _ hb
                     have B5 := Lib.hid hb
                     clear hb))
              all_goals
                have KE5 := Lib.hid (show Blk w5 wr.heap.size 30 #[.string e.nm, .int .i64 e.kind, .int .i64 e.ab, .int .i64 e.wt, .bool e.v6, .int .u64 e.hi, .int .u64 e.lo] from (B5.out.block _ KE.out.lt).trans KE.out)
                have KA5 := Lib.hid (show Blk w5 w3.heap.size 30 #[.string a.nm, .int .i64 a.kind, .int .i64 a.ab, .int .i64 a.wt, .bool a.v6, .int .u64 a.hi, .int .u64 a.lo] from (B5.out.block _ KA.out.lt).trans KA.out)
                have O5 := Lib.hid (O4.out.below B5.out)
                have BB5 := Lib.hid (B4.out.trans (B5.out.mono B4.out.size))
                cases q1
                · cases q2
                  · cases q3
                    · go_wp2_with fail
                      go_roundw
                      case rel => exact ⟨q + 1, by go_num, by omega, by rw [HON.out, HOT.out]; simpa [may3] using O5.out, BB5.out⟩
                      case measure => simp [intOf]; omega
                    · have KO2x := Lib.hid (O5.out.alloc (.cells #[.string e.nm, .int .i64 3] 32))
                      have KB2x := Lib.hid (BB5.out.alloc BB5.out.size (.cells #[.string e.nm, .int .i64 3] 32))
                      have HNEx := Lib.hid (show ∀ p u, (Cg.cells ⟨e.nm, 3⟩).toList[p]? = some u → (w5.alloc (.cells #[.string e.nm, .int .i64 3] 32)).cell? ((⟨w5.heap.size, 0, none⟩ : Addr).add p) = some u from fun p u hu => by
                        rw [Addr.add_lit, Nat.zero_add, (Blk.new w5 32 #[.string e.nm, .int .i64 3]).cell p]
                        have h2 : (Cg.cells ⟨e.nm, 3⟩)[p]? = some u := by simpa using hu
                        exact h2)
                      have P1x := Lib.hid (show (goneC was now ++ newC was now (now.take q)).length + 1 ≤ maxLen by unfold maxLen; have := HGL.out; (try simp only [List.length_append, List.length_cons, List.length_nil] at this ⊢); omega)
                      have P2x := Lib.hid (show ((goneC was now ++ newC was now (now.take q)).length + 1) * 24 ≤ 140737488355328 by have := HGL.out; (try simp only [List.length_append, List.length_cons, List.length_nil] at this ⊢); omega)
                      have P3x := Lib.hid (show w.heap.size ≤ (w5.alloc (.cells #[.string e.nm, .int .i64 3] 32)).heap.size from KB2x.out.size)
                      go_wp2_with (first
                        | (at_builtin; refine wpList_append_new _ rfl (.tmp 102) (.tmp 106) _ rfl w.heap.size 32 i0 _ 2 24 Try.underlying24 HI0.out HZ0.out HZ1.out HZ2.out rfl (by omega) _ (goneC was now ++ newC was now (now.take q)).length (flatC (goneC was now ++ newC was now (now.take q))) rfl KO2x.out ⟨w5.heap.size, 0, none⟩ 1 1 (Cg.cells ⟨e.nm, 3⟩).toList rfl (Nat.le_refl 1) rfl HNEx.out (one_c1 _) P1x.out P2x.out P3x.out ?_; intro v6x w6x ho hg hgg; have HOx := Lib.hid (own_snoc (l := goneC was now ++ newC was now (now.take q)) (e := ⟨e.nm, 3⟩) ho); have HBx := Lib.hid (KB2x.out.grown hg P3x.out (fun k hk => (KO2x.out.lt k hk).1)); have kex := Lib.hid (show Blk w6x wr.heap.size 30 #[.string e.nm, .int .i64 e.kind, .int .i64 e.ab, .int .i64 e.wt, .bool e.v6, .int .u64 e.hi, .int .u64 e.lo] from (hg.block _ (by have := KE5.out.lt; simp; omega) (fun e2 => (AP.out _ e2.symm).1 rfl)).trans ((Below.heap_alloc _ _ _ KE5.out.lt).trans KE5.out)); have kax := Lib.hid (show Blk w6x w3.heap.size 30 #[.string a.nm, .int .i64 a.kind, .int .i64 a.ab, .int .i64 a.wt, .bool a.v6, .int .u64 a.hi, .int .u64 a.lo] from (hg.block _ (by have := KA5.out.lt; simp; omega) (fun e2 => (AP.out _ e2.symm).2 rfl)).trans ((Below.heap_alloc _ _ _ KA5.out.lt).trans KA5.out)); have apx := Lib.hid (show ∀ g, v6x.ownBlock = some g → g ≠ wr.heap.size ∧ g ≠ w3.heap.size from fun g e9 => (hgg g e9).elim (AP.out g) (fun h9 => by have h7 := KE5.out.lt; have h8 := KA5.out.lt; simp at h9; omega)); have gxe0 : w6x.cell? ⟨wr.heap.size, 0, none⟩ = some (.string e.nm) := kex.out.cell 0; have gxe3 : w6x.cell? ⟨wr.heap.size, 3, none⟩ = some (.int .i64 e.wt) := kex.out.cell 3; have gxa3 : w6x.cell? ⟨w3.heap.size, 3, none⟩ = some (.int .i64 a.wt) := kax.out.cell 3; have gxe4 : w6x.cell? ⟨wr.heap.size, 4, none⟩ = some (.bool e.v6) := kex.out.cell 4; have gxa4 : w6x.cell? ⟨w3.heap.size, 4, none⟩ = some (.bool a.v6) := kax.out.cell 4; have gxe5 : w6x.cell? ⟨wr.heap.size, 5, none⟩ = some (.int .u64 e.hi) := kex.out.cell 5; have gxa5 : w6x.cell? ⟨w3.heap.size, 5, none⟩ = some (.int .u64 a.hi) := kax.out.cell 5; have gxe6 : w6x.cell? ⟨wr.heap.size, 6, none⟩ = some (.int .u64 e.lo) := kex.out.cell 6; have gxa6 : w6x.cell? ⟨w3.heap.size, 6, none⟩ = some (.int .u64 a.lo) := kax.out.cell 6; clear ho hg hgg))
                      go_roundw
                      case rel => exact ⟨q + 1, by go_num, by omega, by rw [HON.out, HOT.out]; simpa [may3] using HOx.out, HBx.out⟩
                      case measure => simp [intOf]; omega
                  · cases q3
                    · have KO2x := Lib.hid (O5.out.alloc (.cells #[.string e.nm, .int .i64 5] 32))
                      have KB2x := Lib.hid (BB5.out.alloc BB5.out.size (.cells #[.string e.nm, .int .i64 5] 32))
                      have HNEx := Lib.hid (show ∀ p u, (Cg.cells ⟨e.nm, 5⟩).toList[p]? = some u → (w5.alloc (.cells #[.string e.nm, .int .i64 5] 32)).cell? ((⟨w5.heap.size, 0, none⟩ : Addr).add p) = some u from fun p u hu => by
                        rw [Addr.add_lit, Nat.zero_add, (Blk.new w5 32 #[.string e.nm, .int .i64 5]).cell p]
                        have h2 : (Cg.cells ⟨e.nm, 5⟩)[p]? = some u := by simpa using hu
                        exact h2)
                      have P1x := Lib.hid (show (goneC was now ++ newC was now (now.take q)).length + 1 ≤ maxLen by unfold maxLen; have := HGL.out; (try simp only [List.length_append, List.length_cons, List.length_nil] at this ⊢); omega)
                      have P2x := Lib.hid (show ((goneC was now ++ newC was now (now.take q)).length + 1) * 24 ≤ 140737488355328 by have := HGL.out; (try simp only [List.length_append, List.length_cons, List.length_nil] at this ⊢); omega)
                      have P3x := Lib.hid (show w.heap.size ≤ (w5.alloc (.cells #[.string e.nm, .int .i64 5] 32)).heap.size from KB2x.out.size)
                      go_wp2_with (first
                        | (at_builtin; refine wpList_append_new _ rfl (.tmp 91) (.tmp 95) _ rfl w.heap.size 32 i0 _ 2 24 Try.underlying24 HI0.out HZ0.out HZ1.out HZ2.out rfl (by omega) _ (goneC was now ++ newC was now (now.take q)).length (flatC (goneC was now ++ newC was now (now.take q))) rfl KO2x.out ⟨w5.heap.size, 0, none⟩ 1 1 (Cg.cells ⟨e.nm, 5⟩).toList rfl (Nat.le_refl 1) rfl HNEx.out (one_c1 _) P1x.out P2x.out P3x.out ?_; intro v6x w6x ho hg hgg; have HOx := Lib.hid (own_snoc (l := goneC was now ++ newC was now (now.take q)) (e := ⟨e.nm, 5⟩) ho); have HBx := Lib.hid (KB2x.out.grown hg P3x.out (fun k hk => (KO2x.out.lt k hk).1)); have kex := Lib.hid (show Blk w6x wr.heap.size 30 #[.string e.nm, .int .i64 e.kind, .int .i64 e.ab, .int .i64 e.wt, .bool e.v6, .int .u64 e.hi, .int .u64 e.lo] from (hg.block _ (by have := KE5.out.lt; simp; omega) (fun e2 => (AP.out _ e2.symm).1 rfl)).trans ((Below.heap_alloc _ _ _ KE5.out.lt).trans KE5.out)); have kax := Lib.hid (show Blk w6x w3.heap.size 30 #[.string a.nm, .int .i64 a.kind, .int .i64 a.ab, .int .i64 a.wt, .bool a.v6, .int .u64 a.hi, .int .u64 a.lo] from (hg.block _ (by have := KA5.out.lt; simp; omega) (fun e2 => (AP.out _ e2.symm).2 rfl)).trans ((Below.heap_alloc _ _ _ KA5.out.lt).trans KA5.out)); have apx := Lib.hid (show ∀ g, v6x.ownBlock = some g → g ≠ wr.heap.size ∧ g ≠ w3.heap.size from fun g e9 => (hgg g e9).elim (AP.out g) (fun h9 => by have h7 := KE5.out.lt; have h8 := KA5.out.lt; simp at h9; omega)); have gxe0 : w6x.cell? ⟨wr.heap.size, 0, none⟩ = some (.string e.nm) := kex.out.cell 0; have gxe3 : w6x.cell? ⟨wr.heap.size, 3, none⟩ = some (.int .i64 e.wt) := kex.out.cell 3; have gxa3 : w6x.cell? ⟨w3.heap.size, 3, none⟩ = some (.int .i64 a.wt) := kax.out.cell 3; have gxe4 : w6x.cell? ⟨wr.heap.size, 4, none⟩ = some (.bool e.v6) := kex.out.cell 4; have gxa4 : w6x.cell? ⟨w3.heap.size, 4, none⟩ = some (.bool a.v6) := kax.out.cell 4; have gxe5 : w6x.cell? ⟨wr.heap.size, 5, none⟩ = some (.int .u64 e.hi) := kex.out.cell 5; have gxa5 : w6x.cell? ⟨w3.heap.size, 5, none⟩ = some (.int .u64 a.hi) := kax.out.cell 5; have gxe6 : w6x.cell? ⟨wr.heap.size, 6, none⟩ = some (.int .u64 e.lo) := kex.out.cell 6; have gxa6 : w6x.cell? ⟨w3.heap.size, 6, none⟩ = some (.int .u64 a.lo) := kax.out.cell 6; clear ho hg hgg))
                      go_roundw
                      case rel => exact ⟨q + 1, by go_num, by omega, by rw [HON.out, HOT.out]; simpa [may3] using HOx.out, HBx.out⟩
                      case measure => simp [intOf]; omega
                    · have KO2x := Lib.hid (O5.out.alloc (.cells #[.string e.nm, .int .i64 5] 32))
                      have KB2x := Lib.hid (BB5.out.alloc BB5.out.size (.cells #[.string e.nm, .int .i64 5] 32))
                      have HNEx := Lib.hid (show ∀ p u, (Cg.cells ⟨e.nm, 5⟩).toList[p]? = some u → (w5.alloc (.cells #[.string e.nm, .int .i64 5] 32)).cell? ((⟨w5.heap.size, 0, none⟩ : Addr).add p) = some u from fun p u hu => by
                        rw [Addr.add_lit, Nat.zero_add, (Blk.new w5 32 #[.string e.nm, .int .i64 5]).cell p]
                        have h2 : (Cg.cells ⟨e.nm, 5⟩)[p]? = some u := by simpa using hu
                        exact h2)
                      have P1x := Lib.hid (show (goneC was now ++ newC was now (now.take q)).length + 1 ≤ maxLen by unfold maxLen; have := HGL.out; (try simp only [List.length_append, List.length_cons, List.length_nil] at this ⊢); omega)
                      have P2x := Lib.hid (show ((goneC was now ++ newC was now (now.take q)).length + 1) * 24 ≤ 140737488355328 by have := HGL.out; (try simp only [List.length_append, List.length_cons, List.length_nil] at this ⊢); omega)
                      have P3x := Lib.hid (show w.heap.size ≤ (w5.alloc (.cells #[.string e.nm, .int .i64 5] 32)).heap.size from KB2x.out.size)
                      go_wp2_with (first
                        | (at_builtin; refine wpList_append_new _ rfl (.tmp 91) (.tmp 95) _ rfl w.heap.size 32 i0 _ 2 24 Try.underlying24 HI0.out HZ0.out HZ1.out HZ2.out rfl (by omega) _ (goneC was now ++ newC was now (now.take q)).length (flatC (goneC was now ++ newC was now (now.take q))) rfl KO2x.out ⟨w5.heap.size, 0, none⟩ 1 1 (Cg.cells ⟨e.nm, 5⟩).toList rfl (Nat.le_refl 1) rfl HNEx.out (one_c1 _) P1x.out P2x.out P3x.out ?_; intro v6x w6x ho hg hgg; have HOx := Lib.hid (own_snoc (l := goneC was now ++ newC was now (now.take q)) (e := ⟨e.nm, 5⟩) ho); have HBx := Lib.hid (KB2x.out.grown hg P3x.out (fun k hk => (KO2x.out.lt k hk).1)); have kex := Lib.hid (show Blk w6x wr.heap.size 30 #[.string e.nm, .int .i64 e.kind, .int .i64 e.ab, .int .i64 e.wt, .bool e.v6, .int .u64 e.hi, .int .u64 e.lo] from (hg.block _ (by have := KE5.out.lt; simp; omega) (fun e2 => (AP.out _ e2.symm).1 rfl)).trans ((Below.heap_alloc _ _ _ KE5.out.lt).trans KE5.out)); have kax := Lib.hid (show Blk w6x w3.heap.size 30 #[.string a.nm, .int .i64 a.kind, .int .i64 a.ab, .int .i64 a.wt, .bool a.v6, .int .u64 a.hi, .int .u64 a.lo] from (hg.block _ (by have := KA5.out.lt; simp; omega) (fun e2 => (AP.out _ e2.symm).2 rfl)).trans ((Below.heap_alloc _ _ _ KA5.out.lt).trans KA5.out)); have apx := Lib.hid (show ∀ g, v6x.ownBlock = some g → g ≠ wr.heap.size ∧ g ≠ w3.heap.size from fun g e9 => (hgg g e9).elim (AP.out g) (fun h9 => by have h7 := KE5.out.lt; have h8 := KA5.out.lt; simp at h9; omega)); have gxe0 : w6x.cell? ⟨wr.heap.size, 0, none⟩ = some (.string e.nm) := kex.out.cell 0; have gxe3 : w6x.cell? ⟨wr.heap.size, 3, none⟩ = some (.int .i64 e.wt) := kex.out.cell 3; have gxa3 : w6x.cell? ⟨w3.heap.size, 3, none⟩ = some (.int .i64 a.wt) := kax.out.cell 3; have gxe4 : w6x.cell? ⟨wr.heap.size, 4, none⟩ = some (.bool e.v6) := kex.out.cell 4; have gxa4 : w6x.cell? ⟨w3.heap.size, 4, none⟩ = some (.bool a.v6) := kax.out.cell 4; have gxe5 : w6x.cell? ⟨wr.heap.size, 5, none⟩ = some (.int .u64 e.hi) := kex.out.cell 5; have gxa5 : w6x.cell? ⟨w3.heap.size, 5, none⟩ = some (.int .u64 a.hi) := kax.out.cell 5; have gxe6 : w6x.cell? ⟨wr.heap.size, 6, none⟩ = some (.int .u64 e.lo) := kex.out.cell 6; have gxa6 : w6x.cell? ⟨w3.heap.size, 6, none⟩ = some (.int .u64 a.lo) := kax.out.cell 6; clear ho hg hgg
                           have KO2y := Lib.hid (HOx.out.alloc (.cells #[.string e.nm, .int .i64 3] 32))
                           have KB2y := Lib.hid (HBx.out.alloc HBx.out.size (.cells #[.string e.nm, .int .i64 3] 32))
                           have HNEy := Lib.hid (show ∀ p u, (Cg.cells ⟨e.nm, 3⟩).toList[p]? = some u → (w6x.alloc (.cells #[.string e.nm, .int .i64 3] 32)).cell? ((⟨w6x.heap.size, 0, none⟩ : Addr).add p) = some u from fun p u hu => by
                             rw [Addr.add_lit, Nat.zero_add, (Blk.new w6x 32 #[.string e.nm, .int .i64 3]).cell p]
                             have h2 : (Cg.cells ⟨e.nm, 3⟩)[p]? = some u := by simpa using hu
                             exact h2)
                           have P1y := Lib.hid (show ((goneC was now ++ newC was now (now.take q)) ++ [(⟨e.nm, 5⟩ : Cg)]).length + 1 ≤ maxLen by unfold maxLen; have := HGL.out; (try simp only [List.length_append, List.length_cons, List.length_nil] at this ⊢); omega)
                           have P2y := Lib.hid (show (((goneC was now ++ newC was now (now.take q)) ++ [(⟨e.nm, 5⟩ : Cg)]).length + 1) * 24 ≤ 140737488355328 by have := HGL.out; (try simp only [List.length_append, List.length_cons, List.length_nil] at this ⊢); omega)
                           have P3y := Lib.hid (show w.heap.size ≤ (w6x.alloc (.cells #[.string e.nm, .int .i64 3] 32)).heap.size from KB2y.out.size))
                        | (at_builtin; refine wpList_append_new _ rfl (.tmp 102) (.tmp 106) _ rfl w.heap.size 32 i0 _ 2 24 Try.underlying24 HI0.out HZ0.out HZ1.out HZ2.out rfl (by omega) _ ((goneC was now ++ newC was now (now.take q)) ++ [(⟨e.nm, 5⟩ : Cg)]).length (flatC ((goneC was now ++ newC was now (now.take q)) ++ [(⟨e.nm, 5⟩ : Cg)])) rfl KO2y.out ⟨w6x.heap.size, 0, none⟩ 1 1 (Cg.cells ⟨e.nm, 3⟩).toList rfl (Nat.le_refl 1) rfl HNEy.out (one_c1 _) P1y.out P2y.out P3y.out ?_; intro v6y w6y ho hg hgg; have HOy := Lib.hid (own_snoc (l := (goneC was now ++ newC was now (now.take q)) ++ [(⟨e.nm, 5⟩ : Cg)]) (e := ⟨e.nm, 3⟩) ho); have HBy := Lib.hid (KB2y.out.grown hg P3y.out (fun k hk => (KO2y.out.lt k hk).1)); have key := Lib.hid (show Blk w6y wr.heap.size 30 #[.string e.nm, .int .i64 e.kind, .int .i64 e.ab, .int .i64 e.wt, .bool e.v6, .int .u64 e.hi, .int .u64 e.lo] from (hg.block _ (by have := kex.out.lt; simp; omega) (fun e2 => (apx.out _ e2.symm).1 rfl)).trans ((Below.heap_alloc _ _ _ kex.out.lt).trans kex.out)); have kay := Lib.hid (show Blk w6y w3.heap.size 30 #[.string a.nm, .int .i64 a.kind, .int .i64 a.ab, .int .i64 a.wt, .bool a.v6, .int .u64 a.hi, .int .u64 a.lo] from (hg.block _ (by have := kax.out.lt; simp; omega) (fun e2 => (apx.out _ e2.symm).2 rfl)).trans ((Below.heap_alloc _ _ _ kax.out.lt).trans kax.out)); have apy := Lib.hid (show ∀ g, v6y.ownBlock = some g → g ≠ wr.heap.size ∧ g ≠ w3.heap.size from fun g e9 => (hgg g e9).elim (apx.out g) (fun h9 => by have h7 := kex.out.lt; have h8 := kax.out.lt; simp at h9; omega)); have gye0 : w6y.cell? ⟨wr.heap.size, 0, none⟩ = some (.string e.nm) := key.out.cell 0; have gye3 : w6y.cell? ⟨wr.heap.size, 3, none⟩ = some (.int .i64 e.wt) := key.out.cell 3; have gya3 : w6y.cell? ⟨w3.heap.size, 3, none⟩ = some (.int .i64 a.wt) := kay.out.cell 3; have gye4 : w6y.cell? ⟨wr.heap.size, 4, none⟩ = some (.bool e.v6) := key.out.cell 4; have gya4 : w6y.cell? ⟨w3.heap.size, 4, none⟩ = some (.bool a.v6) := kay.out.cell 4; have gye5 : w6y.cell? ⟨wr.heap.size, 5, none⟩ = some (.int .u64 e.hi) := key.out.cell 5; have gya5 : w6y.cell? ⟨w3.heap.size, 5, none⟩ = some (.int .u64 a.hi) := kay.out.cell 5; have gye6 : w6y.cell? ⟨wr.heap.size, 6, none⟩ = some (.int .u64 e.lo) := key.out.cell 6; have gya6 : w6y.cell? ⟨w3.heap.size, 6, none⟩ = some (.int .u64 a.lo) := kay.out.cell 6; clear ho hg hgg))
                      go_roundw
                      case rel => exact ⟨q + 1, by go_num, by omega, by rw [HON.out, HOT.out]; simpa [may3] using HOy.out, HBy.out⟩
                      case measure => simp [intOf]; omega
                · cases q2
                  · cases q3
                    · have KO2x := Lib.hid (O5.out.alloc (.cells #[.string e.nm, .int .i64 4] 32))
                      have KB2x := Lib.hid (BB5.out.alloc BB5.out.size (.cells #[.string e.nm, .int .i64 4] 32))
                      have HNEx := Lib.hid (show ∀ p u, (Cg.cells ⟨e.nm, 4⟩).toList[p]? = some u → (w5.alloc (.cells #[.string e.nm, .int .i64 4] 32)).cell? ((⟨w5.heap.size, 0, none⟩ : Addr).add p) = some u from fun p u hu => by
                        rw [Addr.add_lit, Nat.zero_add, (Blk.new w5 32 #[.string e.nm, .int .i64 4]).cell p]
                        have h2 : (Cg.cells ⟨e.nm, 4⟩)[p]? = some u := by simpa using hu
                        exact h2)
                      have P1x := Lib.hid (show (goneC was now ++ newC was now (now.take q)).length + 1 ≤ maxLen by unfold maxLen; have := HGL.out; (try simp only [List.length_append, List.length_cons, List.length_nil] at this ⊢); omega)
                      have P2x := Lib.hid (show ((goneC was now ++ newC was now (now.take q)).length + 1) * 24 ≤ 140737488355328 by have := HGL.out; (try simp only [List.length_append, List.length_cons, List.length_nil] at this ⊢); omega)
                      have P3x := Lib.hid (show w.heap.size ≤ (w5.alloc (.cells #[.string e.nm, .int .i64 4] 32)).heap.size from KB2x.out.size)
                      go_wp2_with (first
                        | (at_builtin; refine wpList_append_new _ rfl (.tmp 80) (.tmp 84) _ rfl w.heap.size 32 i0 _ 2 24 Try.underlying24 HI0.out HZ0.out HZ1.out HZ2.out rfl (by omega) _ (goneC was now ++ newC was now (now.take q)).length (flatC (goneC was now ++ newC was now (now.take q))) rfl KO2x.out ⟨w5.heap.size, 0, none⟩ 1 1 (Cg.cells ⟨e.nm, 4⟩).toList rfl (Nat.le_refl 1) rfl HNEx.out (one_c1 _) P1x.out P2x.out P3x.out ?_; intro v6x w6x ho hg hgg; have HOx := Lib.hid (own_snoc (l := goneC was now ++ newC was now (now.take q)) (e := ⟨e.nm, 4⟩) ho); have HBx := Lib.hid (KB2x.out.grown hg P3x.out (fun k hk => (KO2x.out.lt k hk).1)); have kex := Lib.hid (show Blk w6x wr.heap.size 30 #[.string e.nm, .int .i64 e.kind, .int .i64 e.ab, .int .i64 e.wt, .bool e.v6, .int .u64 e.hi, .int .u64 e.lo] from (hg.block _ (by have := KE5.out.lt; simp; omega) (fun e2 => (AP.out _ e2.symm).1 rfl)).trans ((Below.heap_alloc _ _ _ KE5.out.lt).trans KE5.out)); have kax := Lib.hid (show Blk w6x w3.heap.size 30 #[.string a.nm, .int .i64 a.kind, .int .i64 a.ab, .int .i64 a.wt, .bool a.v6, .int .u64 a.hi, .int .u64 a.lo] from (hg.block _ (by have := KA5.out.lt; simp; omega) (fun e2 => (AP.out _ e2.symm).2 rfl)).trans ((Below.heap_alloc _ _ _ KA5.out.lt).trans KA5.out)); have apx := Lib.hid (show ∀ g, v6x.ownBlock = some g → g ≠ wr.heap.size ∧ g ≠ w3.heap.size from fun g e9 => (hgg g e9).elim (AP.out g) (fun h9 => by have h7 := KE5.out.lt; have h8 := KA5.out.lt; simp at h9; omega)); have gxe0 : w6x.cell? ⟨wr.heap.size, 0, none⟩ = some (.string e.nm) := kex.out.cell 0; have gxe3 : w6x.cell? ⟨wr.heap.size, 3, none⟩ = some (.int .i64 e.wt) := kex.out.cell 3; have gxa3 : w6x.cell? ⟨w3.heap.size, 3, none⟩ = some (.int .i64 a.wt) := kax.out.cell 3; have gxe4 : w6x.cell? ⟨wr.heap.size, 4, none⟩ = some (.bool e.v6) := kex.out.cell 4; have gxa4 : w6x.cell? ⟨w3.heap.size, 4, none⟩ = some (.bool a.v6) := kax.out.cell 4; have gxe5 : w6x.cell? ⟨wr.heap.size, 5, none⟩ = some (.int .u64 e.hi) := kex.out.cell 5; have gxa5 : w6x.cell? ⟨w3.heap.size, 5, none⟩ = some (.int .u64 a.hi) := kax.out.cell 5; have gxe6 : w6x.cell? ⟨wr.heap.size, 6, none⟩ = some (.int .u64 e.lo) := kex.out.cell 6; have gxa6 : w6x.cell? ⟨w3.heap.size, 6, none⟩ = some (.int .u64 a.lo) := kax.out.cell 6; clear ho hg hgg))
                      go_roundw
                      case rel => exact ⟨q + 1, by go_num, by omega, by rw [HON.out, HOT.out]; simpa [may3] using HOx.out, HBx.out⟩
                      case measure => simp [intOf]; omega
                    · have KO2x := Lib.hid (O5.out.alloc (.cells #[.string e.nm, .int .i64 4] 32))
                      have KB2x := Lib.hid (BB5.out.alloc BB5.out.size (.cells #[.string e.nm, .int .i64 4] 32))
                      have HNEx := Lib.hid (show ∀ p u, (Cg.cells ⟨e.nm, 4⟩).toList[p]? = some u → (w5.alloc (.cells #[.string e.nm, .int .i64 4] 32)).cell? ((⟨w5.heap.size, 0, none⟩ : Addr).add p) = some u from fun p u hu => by
                        rw [Addr.add_lit, Nat.zero_add, (Blk.new w5 32 #[.string e.nm, .int .i64 4]).cell p]
                        have h2 : (Cg.cells ⟨e.nm, 4⟩)[p]? = some u := by simpa using hu
                        exact h2)
                      have P1x := Lib.hid (show (goneC was now ++ newC was now (now.take q)).length + 1 ≤ maxLen by unfold maxLen; have := HGL.out; (try simp only [List.length_append, List.length_cons, List.length_nil] at this ⊢); omega)
                      have P2x := Lib.hid (show ((goneC was now ++ newC was now (now.take q)).length + 1) * 24 ≤ 140737488355328 by have := HGL.out; (try simp only [List.length_append, List.length_cons, List.length_nil] at this ⊢); omega)
                      have P3x := Lib.hid (show w.heap.size ≤ (w5.alloc (.cells #[.string e.nm, .int .i64 4] 32)).heap.size from KB2x.out.size)
                      go_wp2_with (first
                        | (at_builtin; refine wpList_append_new _ rfl (.tmp 80) (.tmp 84) _ rfl w.heap.size 32 i0 _ 2 24 Try.underlying24 HI0.out HZ0.out HZ1.out HZ2.out rfl (by omega) _ (goneC was now ++ newC was now (now.take q)).length (flatC (goneC was now ++ newC was now (now.take q))) rfl KO2x.out ⟨w5.heap.size, 0, none⟩ 1 1 (Cg.cells ⟨e.nm, 4⟩).toList rfl (Nat.le_refl 1) rfl HNEx.out (one_c1 _) P1x.out P2x.out P3x.out ?_; intro v6x w6x ho hg hgg; have HOx := Lib.hid (own_snoc (l := goneC was now ++ newC was now (now.take q)) (e := ⟨e.nm, 4⟩) ho); have HBx := Lib.hid (KB2x.out.grown hg P3x.out (fun k hk => (KO2x.out.lt k hk).1)); have kex := Lib.hid (show Blk w6x wr.heap.size 30 #[.string e.nm, .int .i64 e.kind, .int .i64 e.ab, .int .i64 e.wt, .bool e.v6, .int .u64 e.hi, .int .u64 e.lo] from (hg.block _ (by have := KE5.out.lt; simp; omega) (fun e2 => (AP.out _ e2.symm).1 rfl)).trans ((Below.heap_alloc _ _ _ KE5.out.lt).trans KE5.out)); have kax := Lib.hid (show Blk w6x w3.heap.size 30 #[.string a.nm, .int .i64 a.kind, .int .i64 a.ab, .int .i64 a.wt, .bool a.v6, .int .u64 a.hi, .int .u64 a.lo] from (hg.block _ (by have := KA5.out.lt; simp; omega) (fun e2 => (AP.out _ e2.symm).2 rfl)).trans ((Below.heap_alloc _ _ _ KA5.out.lt).trans KA5.out)); have apx := Lib.hid (show ∀ g, v6x.ownBlock = some g → g ≠ wr.heap.size ∧ g ≠ w3.heap.size from fun g e9 => (hgg g e9).elim (AP.out g) (fun h9 => by have h7 := KE5.out.lt; have h8 := KA5.out.lt; simp at h9; omega)); have gxe0 : w6x.cell? ⟨wr.heap.size, 0, none⟩ = some (.string e.nm) := kex.out.cell 0; have gxe3 : w6x.cell? ⟨wr.heap.size, 3, none⟩ = some (.int .i64 e.wt) := kex.out.cell 3; have gxa3 : w6x.cell? ⟨w3.heap.size, 3, none⟩ = some (.int .i64 a.wt) := kax.out.cell 3; have gxe4 : w6x.cell? ⟨wr.heap.size, 4, none⟩ = some (.bool e.v6) := kex.out.cell 4; have gxa4 : w6x.cell? ⟨w3.heap.size, 4, none⟩ = some (.bool a.v6) := kax.out.cell 4; have gxe5 : w6x.cell? ⟨wr.heap.size, 5, none⟩ = some (.int .u64 e.hi) := kex.out.cell 5; have gxa5 : w6x.cell? ⟨w3.heap.size, 5, none⟩ = some (.int .u64 a.hi) := kax.out.cell 5; have gxe6 : w6x.cell? ⟨wr.heap.size, 6, none⟩ = some (.int .u64 e.lo) := kex.out.cell 6; have gxa6 : w6x.cell? ⟨w3.heap.size, 6, none⟩ = some (.int .u64 a.lo) := kax.out.cell 6; clear ho hg hgg
                           have KO2y := Lib.hid (HOx.out.alloc (.cells #[.string e.nm, .int .i64 3] 32))
                           have KB2y := Lib.hid (HBx.out.alloc HBx.out.size (.cells #[.string e.nm, .int .i64 3] 32))
                           have HNEy := Lib.hid (show ∀ p u, (Cg.cells ⟨e.nm, 3⟩).toList[p]? = some u → (w6x.alloc (.cells #[.string e.nm, .int .i64 3] 32)).cell? ((⟨w6x.heap.size, 0, none⟩ : Addr).add p) = some u from fun p u hu => by
                             rw [Addr.add_lit, Nat.zero_add, (Blk.new w6x 32 #[.string e.nm, .int .i64 3]).cell p]
                             have h2 : (Cg.cells ⟨e.nm, 3⟩)[p]? = some u := by simpa using hu
                             exact h2)
                           have P1y := Lib.hid (show ((goneC was now ++ newC was now (now.take q)) ++ [(⟨e.nm, 4⟩ : Cg)]).length + 1 ≤ maxLen by unfold maxLen; have := HGL.out; (try simp only [List.length_append, List.length_cons, List.length_nil] at this ⊢); omega)
                           have P2y := Lib.hid (show (((goneC was now ++ newC was now (now.take q)) ++ [(⟨e.nm, 4⟩ : Cg)]).length + 1) * 24 ≤ 140737488355328 by have := HGL.out; (try simp only [List.length_append, List.length_cons, List.length_nil] at this ⊢); omega)
                           have P3y := Lib.hid (show w.heap.size ≤ (w6x.alloc (.cells #[.string e.nm, .int .i64 3] 32)).heap.size from KB2y.out.size))
                        | (at_builtin; refine wpList_append_new _ rfl (.tmp 102) (.tmp 106) _ rfl w.heap.size 32 i0 _ 2 24 Try.underlying24 HI0.out HZ0.out HZ1.out HZ2.out rfl (by omega) _ ((goneC was now ++ newC was now (now.take q)) ++ [(⟨e.nm, 4⟩ : Cg)]).length (flatC ((goneC was now ++ newC was now (now.take q)) ++ [(⟨e.nm, 4⟩ : Cg)])) rfl KO2y.out ⟨w6x.heap.size, 0, none⟩ 1 1 (Cg.cells ⟨e.nm, 3⟩).toList rfl (Nat.le_refl 1) rfl HNEy.out (one_c1 _) P1y.out P2y.out P3y.out ?_; intro v6y w6y ho hg hgg; have HOy := Lib.hid (own_snoc (l := (goneC was now ++ newC was now (now.take q)) ++ [(⟨e.nm, 4⟩ : Cg)]) (e := ⟨e.nm, 3⟩) ho); have HBy := Lib.hid (KB2y.out.grown hg P3y.out (fun k hk => (KO2y.out.lt k hk).1)); have key := Lib.hid (show Blk w6y wr.heap.size 30 #[.string e.nm, .int .i64 e.kind, .int .i64 e.ab, .int .i64 e.wt, .bool e.v6, .int .u64 e.hi, .int .u64 e.lo] from (hg.block _ (by have := kex.out.lt; simp; omega) (fun e2 => (apx.out _ e2.symm).1 rfl)).trans ((Below.heap_alloc _ _ _ kex.out.lt).trans kex.out)); have kay := Lib.hid (show Blk w6y w3.heap.size 30 #[.string a.nm, .int .i64 a.kind, .int .i64 a.ab, .int .i64 a.wt, .bool a.v6, .int .u64 a.hi, .int .u64 a.lo] from (hg.block _ (by have := kax.out.lt; simp; omega) (fun e2 => (apx.out _ e2.symm).2 rfl)).trans ((Below.heap_alloc _ _ _ kax.out.lt).trans kax.out)); have apy := Lib.hid (show ∀ g, v6y.ownBlock = some g → g ≠ wr.heap.size ∧ g ≠ w3.heap.size from fun g e9 => (hgg g e9).elim (apx.out g) (fun h9 => by have h7 := kex.out.lt; have h8 := kax.out.lt; simp at h9; omega)); have gye0 : w6y.cell? ⟨wr.heap.size, 0, none⟩ = some (.string e.nm) := key.out.cell 0; have gye3 : w6y.cell? ⟨wr.heap.size, 3, none⟩ = some (.int .i64 e.wt) := key.out.cell 3; have gya3 : w6y.cell? ⟨w3.heap.size, 3, none⟩ = some (.int .i64 a.wt) := kay.out.cell 3; have gye4 : w6y.cell? ⟨wr.heap.size, 4, none⟩ = some (.bool e.v6) := key.out.cell 4; have gya4 : w6y.cell? ⟨w3.heap.size, 4, none⟩ = some (.bool a.v6) := kay.out.cell 4; have gye5 : w6y.cell? ⟨wr.heap.size, 5, none⟩ = some (.int .u64 e.hi) := key.out.cell 5; have gya5 : w6y.cell? ⟨w3.heap.size, 5, none⟩ = some (.int .u64 a.hi) := kay.out.cell 5; have gye6 : w6y.cell? ⟨wr.heap.size, 6, none⟩ = some (.int .u64 e.lo) := key.out.cell 6; have gya6 : w6y.cell? ⟨w3.heap.size, 6, none⟩ = some (.int .u64 a.lo) := kay.out.cell 6; clear ho hg hgg))
                      go_roundw
                      case rel => exact ⟨q + 1, by go_num, by omega, by rw [HON.out, HOT.out]; simpa [may3] using HOy.out, HBy.out⟩
                      case measure => simp [intOf]; omega
                  · cases q3
                    · have KO2x := Lib.hid (O5.out.alloc (.cells #[.string e.nm, .int .i64 4] 32))
                      have KB2x := Lib.hid (BB5.out.alloc BB5.out.size (.cells #[.string e.nm, .int .i64 4] 32))
                      have HNEx := Lib.hid (show ∀ p u, (Cg.cells ⟨e.nm, 4⟩).toList[p]? = some u → (w5.alloc (.cells #[.string e.nm, .int .i64 4] 32)).cell? ((⟨w5.heap.size, 0, none⟩ : Addr).add p) = some u from fun p u hu => by
                        rw [Addr.add_lit, Nat.zero_add, (Blk.new w5 32 #[.string e.nm, .int .i64 4]).cell p]
                        have h2 : (Cg.cells ⟨e.nm, 4⟩)[p]? = some u := by simpa using hu
                        exact h2)
                      have P1x := Lib.hid (show (goneC was now ++ newC was now (now.take q)).length + 1 ≤ maxLen by unfold maxLen; have := HGL.out; (try simp only [List.length_append, List.length_cons, List.length_nil] at this ⊢); omega)
                      have P2x := Lib.hid (show ((goneC was now ++ newC was now (now.take q)).length + 1) * 24 ≤ 140737488355328 by have := HGL.out; (try simp only [List.length_append, List.length_cons, List.length_nil] at this ⊢); omega)
                      have P3x := Lib.hid (show w.heap.size ≤ (w5.alloc (.cells #[.string e.nm, .int .i64 4] 32)).heap.size from KB2x.out.size)
                      go_wp2_with (first
                        | (at_builtin; refine wpList_append_new _ rfl (.tmp 80) (.tmp 84) _ rfl w.heap.size 32 i0 _ 2 24 Try.underlying24 HI0.out HZ0.out HZ1.out HZ2.out rfl (by omega) _ (goneC was now ++ newC was now (now.take q)).length (flatC (goneC was now ++ newC was now (now.take q))) rfl KO2x.out ⟨w5.heap.size, 0, none⟩ 1 1 (Cg.cells ⟨e.nm, 4⟩).toList rfl (Nat.le_refl 1) rfl HNEx.out (one_c1 _) P1x.out P2x.out P3x.out ?_; intro v6x w6x ho hg hgg; have HOx := Lib.hid (own_snoc (l := goneC was now ++ newC was now (now.take q)) (e := ⟨e.nm, 4⟩) ho); have HBx := Lib.hid (KB2x.out.grown hg P3x.out (fun k hk => (KO2x.out.lt k hk).1)); have kex := Lib.hid (show Blk w6x wr.heap.size 30 #[.string e.nm, .int .i64 e.kind, .int .i64 e.ab, .int .i64 e.wt, .bool e.v6, .int .u64 e.hi, .int .u64 e.lo] from (hg.block _ (by have := KE5.out.lt; simp; omega) (fun e2 => (AP.out _ e2.symm).1 rfl)).trans ((Below.heap_alloc _ _ _ KE5.out.lt).trans KE5.out)); have kax := Lib.hid (show Blk w6x w3.heap.size 30 #[.string a.nm, .int .i64 a.kind, .int .i64 a.ab, .int .i64 a.wt, .bool a.v6, .int .u64 a.hi, .int .u64 a.lo] from (hg.block _ (by have := KA5.out.lt; simp; omega) (fun e2 => (AP.out _ e2.symm).2 rfl)).trans ((Below.heap_alloc _ _ _ KA5.out.lt).trans KA5.out)); have apx := Lib.hid (show ∀ g, v6x.ownBlock = some g → g ≠ wr.heap.size ∧ g ≠ w3.heap.size from fun g e9 => (hgg g e9).elim (AP.out g) (fun h9 => by have h7 := KE5.out.lt; have h8 := KA5.out.lt; simp at h9; omega)); have gxe0 : w6x.cell? ⟨wr.heap.size, 0, none⟩ = some (.string e.nm) := kex.out.cell 0; have gxe3 : w6x.cell? ⟨wr.heap.size, 3, none⟩ = some (.int .i64 e.wt) := kex.out.cell 3; have gxa3 : w6x.cell? ⟨w3.heap.size, 3, none⟩ = some (.int .i64 a.wt) := kax.out.cell 3; have gxe4 : w6x.cell? ⟨wr.heap.size, 4, none⟩ = some (.bool e.v6) := kex.out.cell 4; have gxa4 : w6x.cell? ⟨w3.heap.size, 4, none⟩ = some (.bool a.v6) := kax.out.cell 4; have gxe5 : w6x.cell? ⟨wr.heap.size, 5, none⟩ = some (.int .u64 e.hi) := kex.out.cell 5; have gxa5 : w6x.cell? ⟨w3.heap.size, 5, none⟩ = some (.int .u64 a.hi) := kax.out.cell 5; have gxe6 : w6x.cell? ⟨wr.heap.size, 6, none⟩ = some (.int .u64 e.lo) := kex.out.cell 6; have gxa6 : w6x.cell? ⟨w3.heap.size, 6, none⟩ = some (.int .u64 a.lo) := kax.out.cell 6; clear ho hg hgg
                           have KO2y := Lib.hid (HOx.out.alloc (.cells #[.string e.nm, .int .i64 5] 32))
                           have KB2y := Lib.hid (HBx.out.alloc HBx.out.size (.cells #[.string e.nm, .int .i64 5] 32))
                           have HNEy := Lib.hid (show ∀ p u, (Cg.cells ⟨e.nm, 5⟩).toList[p]? = some u → (w6x.alloc (.cells #[.string e.nm, .int .i64 5] 32)).cell? ((⟨w6x.heap.size, 0, none⟩ : Addr).add p) = some u from fun p u hu => by
                             rw [Addr.add_lit, Nat.zero_add, (Blk.new w6x 32 #[.string e.nm, .int .i64 5]).cell p]
                             have h2 : (Cg.cells ⟨e.nm, 5⟩)[p]? = some u := by simpa using hu
                             exact h2)
                           have P1y := Lib.hid (show ((goneC was now ++ newC was now (now.take q)) ++ [(⟨e.nm, 4⟩ : Cg)]).length + 1 ≤ maxLen by unfold maxLen; have := HGL.out; (try simp only [List.length_append, List.length_cons, List.length_nil] at this ⊢); omega)
                           have P2y := Lib.hid (show (((goneC was now ++ newC was now (now.take q)) ++ [(⟨e.nm, 4⟩ : Cg)]).length + 1) * 24 ≤ 140737488355328 by have := HGL.out; (try simp only [List.length_append, List.length_cons, List.length_nil] at this ⊢); omega)
                           have P3y := Lib.hid (show w.heap.size ≤ (w6x.alloc (.cells #[.string e.nm, .int .i64 5] 32)).heap.size from KB2y.out.size))
                        | (at_builtin; refine wpList_append_new _ rfl (.tmp 91) (.tmp 95) _ rfl w.heap.size 32 i0 _ 2 24 Try.underlying24 HI0.out HZ0.out HZ1.out HZ2.out rfl (by omega) _ ((goneC was now ++ newC was now (now.take q)) ++ [(⟨e.nm, 4⟩ : Cg)]).length (flatC ((goneC was now ++ newC was now (now.take q)) ++ [(⟨e.nm, 4⟩ : Cg)])) rfl KO2y.out ⟨w6x.heap.size, 0, none⟩ 1 1 (Cg.cells ⟨e.nm, 5⟩).toList rfl (Nat.le_refl 1) rfl HNEy.out (one_c1 _) P1y.out P2y.out P3y.out ?_; intro v6y w6y ho hg hgg; have HOy := Lib.hid (own_snoc (l := (goneC was now ++ newC was now (now.take q)) ++ [(⟨e.nm, 4⟩ : Cg)]) (e := ⟨e.nm, 5⟩) ho); have HBy := Lib.hid (KB2y.out.grown hg P3y.out (fun k hk => (KO2y.out.lt k hk).1)); have key := Lib.hid (show Blk w6y wr.heap.size 30 #[.string e.nm, .int .i64 e.kind, .int .i64 e.ab, .int .i64 e.wt, .bool e.v6, .int .u64 e.hi, .int .u64 e.lo] from (hg.block _ (by have := kex.out.lt; simp; omega) (fun e2 => (apx.out _ e2.symm).1 rfl)).trans ((Below.heap_alloc _ _ _ kex.out.lt).trans kex.out)); have kay := Lib.hid (show Blk w6y w3.heap.size 30 #[.string a.nm, .int .i64 a.kind, .int .i64 a.ab, .int .i64 a.wt, .bool a.v6, .int .u64 a.hi, .int .u64 a.lo] from (hg.block _ (by have := kax.out.lt; simp; omega) (fun e2 => (apx.out _ e2.symm).2 rfl)).trans ((Below.heap_alloc _ _ _ kax.out.lt).trans kax.out)); have apy := Lib.hid (show ∀ g, v6y.ownBlock = some g → g ≠ wr.heap.size ∧ g ≠ w3.heap.size from fun g e9 => (hgg g e9).elim (apx.out g) (fun h9 => by have h7 := kex.out.lt; have h8 := kax.out.lt; simp at h9; omega)); have gye0 : w6y.cell? ⟨wr.heap.size, 0, none⟩ = some (.string e.nm) := key.out.cell 0; have gye3 : w6y.cell? ⟨wr.heap.size, 3, none⟩ = some (.int .i64 e.wt) := key.out.cell 3; have gya3 : w6y.cell? ⟨w3.heap.size, 3, none⟩ = some (.int .i64 a.wt) := kay.out.cell 3; have gye4 : w6y.cell? ⟨wr.heap.size, 4, none⟩ = some (.bool e.v6) := key.out.cell 4; have gya4 : w6y.cell? ⟨w3.heap.size, 4, none⟩ = some (.bool a.v6) := kay.out.cell 4; have gye5 : w6y.cell? ⟨wr.heap.size, 5, none⟩ = some (.int .u64 e.hi) := key.out.cell 5; have gya5 : w6y.cell? ⟨w3.heap.size, 5, none⟩ = some (.int .u64 a.hi) := kay.out.cell 5; have gye6 : w6y.cell? ⟨wr.heap.size, 6, none⟩ = some (.int .u64 e.lo) := key.out.cell 6; have gya6 : w6y.cell? ⟨w3.heap.size, 6, none⟩ = some (.int .u64 a.lo) := kay.out.cell 6; clear ho hg hgg))
                      go_roundw
                      case rel => exact ⟨q + 1, by go_num, by omega, by rw [HON.out, HOT.out]; simpa [may3] using HOy.out, HBy.out⟩
                      case measure => simp [intOf]; omega
                    · have KO2x := Lib.hid (O5.out.alloc (.cells #[.string e.nm, .int .i64 4] 32))
                      have KB2x := Lib.hid (BB5.out.alloc BB5.out.size (.cells #[.string e.nm, .int .i64 4] 32))
                      have HNEx := Lib.hid (show ∀ p u, (Cg.cells ⟨e.nm, 4⟩).toList[p]? = some u → (w5.alloc (.cells #[.string e.nm, .int .i64 4] 32)).cell? ((⟨w5.heap.size, 0, none⟩ : Addr).add p) = some u from fun p u hu => by
                        rw [Addr.add_lit, Nat.zero_add, (Blk.new w5 32 #[.string e.nm, .int .i64 4]).cell p]
                        have h2 : (Cg.cells ⟨e.nm, 4⟩)[p]? = some u := by simpa using hu
                        exact h2)
                      have P1x := Lib.hid (show (goneC was now ++ newC was now (now.take q)).length + 1 ≤ maxLen by unfold maxLen; have := HGL.out; (try simp only [List.length_append, List.length_cons, List.length_nil] at this ⊢); omega)
                      have P2x := Lib.hid (show ((goneC was now ++ newC was now (now.take q)).length + 1) * 24 ≤ 140737488355328 by have := HGL.out; (try simp only [List.length_append, List.length_cons, List.length_nil] at this ⊢); omega)
                      have P3x := Lib.hid (show w.heap.size ≤ (w5.alloc (.cells #[.string e.nm, .int .i64 4] 32)).heap.size from KB2x.out.size)
                      go_wp2_with (first
                        | (at_builtin; refine wpList_append_new _ rfl (.tmp 80) (.tmp 84) _ rfl w.heap.size 32 i0 _ 2 24 Try.underlying24 HI0.out HZ0.out HZ1.out HZ2.out rfl (by omega) _ (goneC was now ++ newC was now (now.take q)).length (flatC (goneC was now ++ newC was now (now.take q))) rfl KO2x.out ⟨w5.heap.size, 0, none⟩ 1 1 (Cg.cells ⟨e.nm, 4⟩).toList rfl (Nat.le_refl 1) rfl HNEx.out (one_c1 _) P1x.out P2x.out P3x.out ?_; intro v6x w6x ho hg hgg; have HOx := Lib.hid (own_snoc (l := goneC was now ++ newC was now (now.take q)) (e := ⟨e.nm, 4⟩) ho); have HBx := Lib.hid (KB2x.out.grown hg P3x.out (fun k hk => (KO2x.out.lt k hk).1)); have kex := Lib.hid (show Blk w6x wr.heap.size 30 #[.string e.nm, .int .i64 e.kind, .int .i64 e.ab, .int .i64 e.wt, .bool e.v6, .int .u64 e.hi, .int .u64 e.lo] from (hg.block _ (by have := KE5.out.lt; simp; omega) (fun e2 => (AP.out _ e2.symm).1 rfl)).trans ((Below.heap_alloc _ _ _ KE5.out.lt).trans KE5.out)); have kax := Lib.hid (show Blk w6x w3.heap.size 30 #[.string a.nm, .int .i64 a.kind, .int .i64 a.ab, .int .i64 a.wt, .bool a.v6, .int .u64 a.hi, .int .u64 a.lo] from (hg.block _ (by have := KA5.out.lt; simp; omega) (fun e2 => (AP.out _ e2.symm).2 rfl)).trans ((Below.heap_alloc _ _ _ KA5.out.lt).trans KA5.out)); have apx := Lib.hid (show ∀ g, v6x.ownBlock = some g → g ≠ wr.heap.size ∧ g ≠ w3.heap.size from fun g e9 => (hgg g e9).elim (AP.out g) (fun h9 => by have h7 := KE5.out.lt; have h8 := KA5.out.lt; simp at h9; omega)); have gxe0 : w6x.cell? ⟨wr.heap.size, 0, none⟩ = some (.string e.nm) := kex.out.cell 0; have gxe3 : w6x.cell? ⟨wr.heap.size, 3, none⟩ = some (.int .i64 e.wt) := kex.out.cell 3; have gxa3 : w6x.cell? ⟨w3.heap.size, 3, none⟩ = some (.int .i64 a.wt) := kax.out.cell 3; have gxe4 : w6x.cell? ⟨wr.heap.size, 4, none⟩ = some (.bool e.v6) := kex.out.cell 4; have gxa4 : w6x.cell? ⟨w3.heap.size, 4, none⟩ = some (.bool a.v6) := kax.out.cell 4; have gxe5 : w6x.cell? ⟨wr.heap.size, 5, none⟩ = some (.int .u64 e.hi) := kex.out.cell 5; have gxa5 : w6x.cell? ⟨w3.heap.size, 5, none⟩ = some (.int .u64 a.hi) := kax.out.cell 5; have gxe6 : w6x.cell? ⟨wr.heap.size, 6, none⟩ = some (.int .u64 e.lo) := kex.out.cell 6; have gxa6 : w6x.cell? ⟨w3.heap.size, 6, none⟩ = some (.int .u64 a.lo) := kax.out.cell 6; clear ho hg hgg
                           have KO2y := Lib.hid (HOx.out.alloc (.cells #[.string e.nm, .int .i64 5] 32))
                           have KB2y := Lib.hid (HBx.out.alloc HBx.out.size (.cells #[.string e.nm, .int .i64 5] 32))
                           have HNEy := Lib.hid (show ∀ p u, (Cg.cells ⟨e.nm, 5⟩).toList[p]? = some u → (w6x.alloc (.cells #[.string e.nm, .int .i64 5] 32)).cell? ((⟨w6x.heap.size, 0, none⟩ : Addr).add p) = some u from fun p u hu => by
                             rw [Addr.add_lit, Nat.zero_add, (Blk.new w6x 32 #[.string e.nm, .int .i64 5]).cell p]
                             have h2 : (Cg.cells ⟨e.nm, 5⟩)[p]? = some u := by simpa using hu
                             exact h2)
                           have P1y := Lib.hid (show ((goneC was now ++ newC was now (now.take q)) ++ [(⟨e.nm, 4⟩ : Cg)]).length + 1 ≤ maxLen by unfold maxLen; have := HGL.out; (try simp only [List.length_append, List.length_cons, List.length_nil] at this ⊢); omega)
                           have P2y := Lib.hid (show (((goneC was now ++ newC was now (now.take q)) ++ [(⟨e.nm, 4⟩ : Cg)]).length + 1) * 24 ≤ 140737488355328 by have := HGL.out; (try simp only [List.length_append, List.length_cons, List.length_nil] at this ⊢); omega)
                           have P3y := Lib.hid (show w.heap.size ≤ (w6x.alloc (.cells #[.string e.nm, .int .i64 5] 32)).heap.size from KB2y.out.size))
                        | (at_builtin; refine wpList_append_new _ rfl (.tmp 91) (.tmp 95) _ rfl w.heap.size 32 i0 _ 2 24 Try.underlying24 HI0.out HZ0.out HZ1.out HZ2.out rfl (by omega) _ ((goneC was now ++ newC was now (now.take q)) ++ [(⟨e.nm, 4⟩ : Cg)]).length (flatC ((goneC was now ++ newC was now (now.take q)) ++ [(⟨e.nm, 4⟩ : Cg)])) rfl KO2y.out ⟨w6x.heap.size, 0, none⟩ 1 1 (Cg.cells ⟨e.nm, 5⟩).toList rfl (Nat.le_refl 1) rfl HNEy.out (one_c1 _) P1y.out P2y.out P3y.out ?_; intro v6y w6y ho hg hgg; have HOy := Lib.hid (own_snoc (l := (goneC was now ++ newC was now (now.take q)) ++ [(⟨e.nm, 4⟩ : Cg)]) (e := ⟨e.nm, 5⟩) ho); have HBy := Lib.hid (KB2y.out.grown hg P3y.out (fun k hk => (KO2y.out.lt k hk).1)); have key := Lib.hid (show Blk w6y wr.heap.size 30 #[.string e.nm, .int .i64 e.kind, .int .i64 e.ab, .int .i64 e.wt, .bool e.v6, .int .u64 e.hi, .int .u64 e.lo] from (hg.block _ (by have := kex.out.lt; simp; omega) (fun e2 => (apx.out _ e2.symm).1 rfl)).trans ((Below.heap_alloc _ _ _ kex.out.lt).trans kex.out)); have kay := Lib.hid (show Blk w6y w3.heap.size 30 #[.string a.nm, .int .i64 a.kind, .int .i64 a.ab, .int .i64 a.wt, .bool a.v6, .int .u64 a.hi, .int .u64 a.lo] from (hg.block _ (by have := kax.out.lt; simp; omega) (fun e2 => (apx.out _ e2.symm).2 rfl)).trans ((Below.heap_alloc _ _ _ kax.out.lt).trans kax.out)); have apy := Lib.hid (show ∀ g, v6y.ownBlock = some g → g ≠ wr.heap.size ∧ g ≠ w3.heap.size from fun g e9 => (hgg g e9).elim (apx.out g) (fun h9 => by have h7 := kex.out.lt; have h8 := kax.out.lt; simp at h9; omega)); have gye0 : w6y.cell? ⟨wr.heap.size, 0, none⟩ = some (.string e.nm) := key.out.cell 0; have gye3 : w6y.cell? ⟨wr.heap.size, 3, none⟩ = some (.int .i64 e.wt) := key.out.cell 3; have gya3 : w6y.cell? ⟨w3.heap.size, 3, none⟩ = some (.int .i64 a.wt) := kay.out.cell 3; have gye4 : w6y.cell? ⟨wr.heap.size, 4, none⟩ = some (.bool e.v6) := key.out.cell 4; have gya4 : w6y.cell? ⟨w3.heap.size, 4, none⟩ = some (.bool a.v6) := kay.out.cell 4; have gye5 : w6y.cell? ⟨wr.heap.size, 5, none⟩ = some (.int .u64 e.hi) := key.out.cell 5; have gya5 : w6y.cell? ⟨w3.heap.size, 5, none⟩ = some (.int .u64 a.hi) := kay.out.cell 5; have gye6 : w6y.cell? ⟨wr.heap.size, 6, none⟩ = some (.int .u64 e.lo) := key.out.cell 6; have gya6 : w6y.cell? ⟨w3.heap.size, 6, none⟩ = some (.int .u64 a.lo) := kay.out.cell 6; clear ho hg hgg
                           have KO2z := Lib.hid (HOy.out.alloc (.cells #[.string e.nm, .int .i64 3] 32))
                           have KB2z := Lib.hid (HBy.out.alloc HBy.out.size (.cells #[.string e.nm, .int .i64 3] 32))
                           have HNEz := Lib.hid (show ∀ p u, (Cg.cells ⟨e.nm, 3⟩).toList[p]? = some u → (w6y.alloc (.cells #[.string e.nm, .int .i64 3] 32)).cell? ((⟨w6y.heap.size, 0, none⟩ : Addr).add p) = some u from fun p u hu => by
                             rw [Addr.add_lit, Nat.zero_add, (Blk.new w6y 32 #[.string e.nm, .int .i64 3]).cell p]
                             have h2 : (Cg.cells ⟨e.nm, 3⟩)[p]? = some u := by simpa using hu
                             exact h2)
                           have P1z := Lib.hid (show ((goneC was now ++ newC was now (now.take q)) ++ [(⟨e.nm, 4⟩ : Cg)] ++ [(⟨e.nm, 5⟩ : Cg)]).length + 1 ≤ maxLen by unfold maxLen; have := HGL.out; (try simp only [List.length_append, List.length_cons, List.length_nil] at this ⊢); omega)
                           have P2z := Lib.hid (show (((goneC was now ++ newC was now (now.take q)) ++ [(⟨e.nm, 4⟩ : Cg)] ++ [(⟨e.nm, 5⟩ : Cg)]).length + 1) * 24 ≤ 140737488355328 by have := HGL.out; (try simp only [List.length_append, List.length_cons, List.length_nil] at this ⊢); omega)
                           have P3z := Lib.hid (show w.heap.size ≤ (w6y.alloc (.cells #[.string e.nm, .int .i64 3] 32)).heap.size from KB2z.out.size))
                        | (at_builtin; refine wpList_append_new _ rfl (.tmp 102) (.tmp 106) _ rfl w.heap.size 32 i0 _ 2 24 Try.underlying24 HI0.out HZ0.out HZ1.out HZ2.out rfl (by omega) _ ((goneC was now ++ newC was now (now.take q)) ++ [(⟨e.nm, 4⟩ : Cg)] ++ [(⟨e.nm, 5⟩ : Cg)]).length (flatC ((goneC was now ++ newC was now (now.take q)) ++ [(⟨e.nm, 4⟩ : Cg)] ++ [(⟨e.nm, 5⟩ : Cg)])) rfl KO2z.out ⟨w6y.heap.size, 0, none⟩ 1 1 (Cg.cells ⟨e.nm, 3⟩).toList rfl (Nat.le_refl 1) rfl HNEz.out (one_c1 _) P1z.out P2z.out P3z.out ?_; intro v6z w6z ho hg hgg; have HOz := Lib.hid (own_snoc (l := (goneC was now ++ newC was now (now.take q)) ++ [(⟨e.nm, 4⟩ : Cg)] ++ [(⟨e.nm, 5⟩ : Cg)]) (e := ⟨e.nm, 3⟩) ho); have HBz := Lib.hid (KB2z.out.grown hg P3z.out (fun k hk => (KO2z.out.lt k hk).1)); have kez := Lib.hid (show Blk w6z wr.heap.size 30 #[.string e.nm, .int .i64 e.kind, .int .i64 e.ab, .int .i64 e.wt, .bool e.v6, .int .u64 e.hi, .int .u64 e.lo] from (hg.block _ (by have := key.out.lt; simp; omega) (fun e2 => (apy.out _ e2.symm).1 rfl)).trans ((Below.heap_alloc _ _ _ key.out.lt).trans key.out)); have kaz := Lib.hid (show Blk w6z w3.heap.size 30 #[.string a.nm, .int .i64 a.kind, .int .i64 a.ab, .int .i64 a.wt, .bool a.v6, .int .u64 a.hi, .int .u64 a.lo] from (hg.block _ (by have := kay.out.lt; simp; omega) (fun e2 => (apy.out _ e2.symm).2 rfl)).trans ((Below.heap_alloc _ _ _ kay.out.lt).trans kay.out)); have apz := Lib.hid (show ∀ g, v6z.ownBlock = some g → g ≠ wr.heap.size ∧ g ≠ w3.heap.size from fun g e9 => (hgg g e9).elim (apy.out g) (fun h9 => by have h7 := key.out.lt; have h8 := kay.out.lt; simp at h9; omega)); have gze0 : w6z.cell? ⟨wr.heap.size, 0, none⟩ = some (.string e.nm) := kez.out.cell 0; have gze3 : w6z.cell? ⟨wr.heap.size, 3, none⟩ = some (.int .i64 e.wt) := kez.out.cell 3; have gza3 : w6z.cell? ⟨w3.heap.size, 3, none⟩ = some (.int .i64 a.wt) := kaz.out.cell 3; have gze4 : w6z.cell? ⟨wr.heap.size, 4, none⟩ = some (.bool e.v6) := kez.out.cell 4; have gza4 : w6z.cell? ⟨w3.heap.size, 4, none⟩ = some (.bool a.v6) := kaz.out.cell 4; have gze5 : w6z.cell? ⟨wr.heap.size, 5, none⟩ = some (.int .u64 e.hi) := kez.out.cell 5; have gza5 : w6z.cell? ⟨w3.heap.size, 5, none⟩ = some (.int .u64 a.hi) := kaz.out.cell 5; have gze6 : w6z.cell? ⟨wr.heap.size, 6, none⟩ = some (.int .u64 e.lo) := kez.out.cell 6; have gza6 : w6z.cell? ⟨w3.heap.size, 6, none⟩ = some (.int .u64 a.lo) := kaz.out.cell 6; clear ho hg hgg))
                      go_roundw
                      case rel => exact ⟨q + 1, by go_num, by omega, by rw [HON.out, HOT.out]; simpa [may3] using HOz.out, HBz.out⟩
                      case measure => simp [intOf]; omega
            · have hk : (a.kind != e.kind) = true := by simp [hkd]
              have HOT := Lib.hid (othC_may a (aboveS was a) e (aboveS now e) true q2 q3 (by simp [hkd]) (by rw [hq2]; simp) (by rw [hq3]; simp))
              clear hq2 hq3 hkd
              obtain ⟨s00, s01, s02, s03, s04, s05, s06, s07, s08, s09, s010, s011, s012, s013⟩ := s0
              go_region
              all_goals
                obtain ⟨w5, hw5⟩ : ∃ w5, w5 = w4.drew := ⟨_, rfl⟩
                rw [← hw5] at B5 ⊢
                clear hw5 s00 s01 s02 s03 s04 s05 s06 s07 s08 s09 s010 s011 s012 s013
                have KE5 := Lib.hid (show Blk w5 wr.heap.size 30 #[.string e.nm, .int .i64 e.kind, .int .i64 e.ab, .int .i64 e.wt, .bool e.v6, .int .u64 e.hi, .int .u64 e.lo] from (B5.out.block _ KE.out.lt).trans KE.out)
                have KA5 := Lib.hid (show Blk w5 w3.heap.size 30 #[.string a.nm, .int .i64 a.kind, .int .i64 a.ab, .int .i64 a.wt, .bool a.v6, .int .u64 a.hi, .int .u64 a.lo] from (B5.out.block _ KA.out.lt).trans KA.out)
                have O5 := Lib.hid (O4.out.below B5.out)
                have BB5 := Lib.hid (B4.out.trans (B5.out.mono B4.out.size))
                have g5e0 : w5.cell? ⟨wr.heap.size, 0, none⟩ = some (.string e.nm) := KE5.out.cell 0
                have g5e3 : w5.cell? ⟨wr.heap.size, 3, none⟩ = some (.int .i64 e.wt) := KE5.out.cell 3
                have g5a3 : w5.cell? ⟨w3.heap.size, 3, none⟩ = some (.int .i64 a.wt) := KA5.out.cell 3
                have g5e4 : w5.cell? ⟨wr.heap.size, 4, none⟩ = some (.bool e.v6) := KE5.out.cell 4
                have g5a4 : w5.cell? ⟨w3.heap.size, 4, none⟩ = some (.bool a.v6) := KA5.out.cell 4
                have g5e5 : w5.cell? ⟨wr.heap.size, 5, none⟩ = some (.int .u64 e.hi) := KE5.out.cell 5
                have g5a5 : w5.cell? ⟨w3.heap.size, 5, none⟩ = some (.int .u64 a.hi) := KA5.out.cell 5
                have g5e6 : w5.cell? ⟨wr.heap.size, 6, none⟩ = some (.int .u64 e.lo) := KE5.out.cell 6
                have g5a6 : w5.cell? ⟨w3.heap.size, 6, none⟩ = some (.int .u64 a.lo) := KA5.out.cell 6
                cases q2
                · cases q3
                  · have KO2x := Lib.hid (O5.out.alloc (.cells #[.string e.nm, .int .i64 4] 32))
                    have KB2x := Lib.hid (BB5.out.alloc BB5.out.size (.cells #[.string e.nm, .int .i64 4] 32))
                    have HNEx := Lib.hid (show ∀ p u, (Cg.cells ⟨e.nm, 4⟩).toList[p]? = some u → (w5.alloc (.cells #[.string e.nm, .int .i64 4] 32)).cell? ((⟨w5.heap.size, 0, none⟩ : Addr).add p) = some u from fun p u hu => by
                      rw [Addr.add_lit, Nat.zero_add, (Blk.new w5 32 #[.string e.nm, .int .i64 4]).cell p]
                      have h2 : (Cg.cells ⟨e.nm, 4⟩)[p]? = some u := by simpa using hu
                      exact h2)
                    have P1x := Lib.hid (show (goneC was now ++ newC was now (now.take q)).length + 1 ≤ maxLen by unfold maxLen; have := HGL.out; (try simp only [List.length_append, List.length_cons, List.length_nil] at this ⊢); omega)
                    have P2x := Lib.hid (show ((goneC was now ++ newC was now (now.take q)).length + 1) * 24 ≤ 140737488355328 by have := HGL.out; (try simp only [List.length_append, List.length_cons, List.length_nil] at this ⊢); omega)
                    have P3x := Lib.hid (show w.heap.size ≤ (w5.alloc (.cells #[.string e.nm, .int .i64 4] 32)).heap.size from KB2x.out.size)
                    go_wp2_with (first
                      | (at_builtin; refine wpList_append_new _ rfl (.tmp 80) (.tmp 84) _ rfl w.heap.size 32 i0 _ 2 24 Try.underlying24 HI0.out HZ0.out HZ1.out HZ2.out rfl (by omega) _ (goneC was now ++ newC was now (now.take q)).length (flatC (goneC was now ++ newC was now (now.take q))) rfl KO2x.out ⟨w5.heap.size, 0, none⟩ 1 1 (Cg.cells ⟨e.nm, 4⟩).toList rfl (Nat.le_refl 1) rfl HNEx.out (one_c1 _) P1x.out P2x.out P3x.out ?_; intro v6x w6x ho hg hgg; have HOx := Lib.hid (own_snoc (l := goneC was now ++ newC was now (now.take q)) (e := ⟨e.nm, 4⟩) ho); have HBx := Lib.hid (KB2x.out.grown hg P3x.out (fun k hk => (KO2x.out.lt k hk).1)); have kex := Lib.hid (show Blk w6x wr.heap.size 30 #[.string e.nm, .int .i64 e.kind, .int .i64 e.ab, .int .i64 e.wt, .bool e.v6, .int .u64 e.hi, .int .u64 e.lo] from (hg.block _ (by have := KE5.out.lt; simp; omega) (fun e2 => (AP.out _ e2.symm).1 rfl)).trans ((Below.heap_alloc _ _ _ KE5.out.lt).trans KE5.out)); have kax := Lib.hid (show Blk w6x w3.heap.size 30 #[.string a.nm, .int .i64 a.kind, .int .i64 a.ab, .int .i64 a.wt, .bool a.v6, .int .u64 a.hi, .int .u64 a.lo] from (hg.block _ (by have := KA5.out.lt; simp; omega) (fun e2 => (AP.out _ e2.symm).2 rfl)).trans ((Below.heap_alloc _ _ _ KA5.out.lt).trans KA5.out)); have apx := Lib.hid (show ∀ g, v6x.ownBlock = some g → g ≠ wr.heap.size ∧ g ≠ w3.heap.size from fun g e9 => (hgg g e9).elim (AP.out g) (fun h9 => by have h7 := KE5.out.lt; have h8 := KA5.out.lt; simp at h9; omega)); have gxe0 : w6x.cell? ⟨wr.heap.size, 0, none⟩ = some (.string e.nm) := kex.out.cell 0; have gxe3 : w6x.cell? ⟨wr.heap.size, 3, none⟩ = some (.int .i64 e.wt) := kex.out.cell 3; have gxa3 : w6x.cell? ⟨w3.heap.size, 3, none⟩ = some (.int .i64 a.wt) := kax.out.cell 3; have gxe4 : w6x.cell? ⟨wr.heap.size, 4, none⟩ = some (.bool e.v6) := kex.out.cell 4; have gxa4 : w6x.cell? ⟨w3.heap.size, 4, none⟩ = some (.bool a.v6) := kax.out.cell 4; have gxe5 : w6x.cell? ⟨wr.heap.size, 5, none⟩ = some (.int .u64 e.hi) := kex.out.cell 5; have gxa5 : w6x.cell? ⟨w3.heap.size, 5, none⟩ = some (.int .u64 a.hi) := kax.out.cell 5; have gxe6 : w6x.cell? ⟨wr.heap.size, 6, none⟩ = some (.int .u64 e.lo) := kex.out.cell 6; have gxa6 : w6x.cell? ⟨w3.heap.size, 6, none⟩ = some (.int .u64 a.lo) := kax.out.cell 6; clear ho hg hgg))
                    go_roundw
                    case rel => exact ⟨q + 1, by go_num, by omega, by rw [HON.out, HOT.out]; simpa [may3] using HOx.out, HBx.out⟩
                    case measure => simp [intOf]; omega
                  · have KO2x := Lib.hid (O5.out.alloc (.cells #[.string e.nm, .int .i64 4] 32))
                    have KB2x := Lib.hid (BB5.out.alloc BB5.out.size (.cells #[.string e.nm, .int .i64 4] 32))
                    have HNEx := Lib.hid (show ∀ p u, (Cg.cells ⟨e.nm, 4⟩).toList[p]? = some u → (w5.alloc (.cells #[.string e.nm, .int .i64 4] 32)).cell? ((⟨w5.heap.size, 0, none⟩ : Addr).add p) = some u from fun p u hu => by
                      rw [Addr.add_lit, Nat.zero_add, (Blk.new w5 32 #[.string e.nm, .int .i64 4]).cell p]
                      have h2 : (Cg.cells ⟨e.nm, 4⟩)[p]? = some u := by simpa using hu
                      exact h2)
                    have P1x := Lib.hid (show (goneC was now ++ newC was now (now.take q)).length + 1 ≤ maxLen by unfold maxLen; have := HGL.out; (try simp only [List.length_append, List.length_cons, List.length_nil] at this ⊢); omega)
                    have P2x := Lib.hid (show ((goneC was now ++ newC was now (now.take q)).length + 1) * 24 ≤ 140737488355328 by have := HGL.out; (try simp only [List.length_append, List.length_cons, List.length_nil] at this ⊢); omega)
                    have P3x := Lib.hid (show w.heap.size ≤ (w5.alloc (.cells #[.string e.nm, .int .i64 4] 32)).heap.size from KB2x.out.size)
                    go_wp2_with (first
                      | (at_builtin; refine wpList_append_new _ rfl (.tmp 80) (.tmp 84) _ rfl w.heap.size 32 i0 _ 2 24 Try.underlying24 HI0.out HZ0.out HZ1.out HZ2.out rfl (by omega) _ (goneC was now ++ newC was now (now.take q)).length (flatC (goneC was now ++ newC was now (now.take q))) rfl KO2x.out ⟨w5.heap.size, 0, none⟩ 1 1 (Cg.cells ⟨e.nm, 4⟩).toList rfl (Nat.le_refl 1) rfl HNEx.out (one_c1 _) P1x.out P2x.out P3x.out ?_; intro v6x w6x ho hg hgg; have HOx := Lib.hid (own_snoc (l := goneC was now ++ newC was now (now.take q)) (e := ⟨e.nm, 4⟩) ho); have HBx := Lib.hid (KB2x.out.grown hg P3x.out (fun k hk => (KO2x.out.lt k hk).1)); have kex := Lib.hid (show Blk w6x wr.heap.size 30 #[.string e.nm, .int .i64 e.kind, .int .i64 e.ab, .int .i64 e.wt, .bool e.v6, .int .u64 e.hi, .int .u64 e.lo] from (hg.block _ (by have := KE5.out.lt; simp; omega) (fun e2 => (AP.out _ e2.symm).1 rfl)).trans ((Below.heap_alloc _ _ _ KE5.out.lt).trans KE5.out)); have kax := Lib.hid (show Blk w6x w3.heap.size 30 #[.string a.nm, .int .i64 a.kind, .int .i64 a.ab, .int .i64 a.wt, .bool a.v6, .int .u64 a.hi, .int .u64 a.lo] from (hg.block _ (by have := KA5.out.lt; simp; omega) (fun e2 => (AP.out _ e2.symm).2 rfl)).trans ((Below.heap_alloc _ _ _ KA5.out.lt).trans KA5.out)); have apx := Lib.hid (show ∀ g, v6x.ownBlock = some g → g ≠ wr.heap.size ∧ g ≠ w3.heap.size from fun g e9 => (hgg g e9).elim (AP.out g) (fun h9 => by have h7 := KE5.out.lt; have h8 := KA5.out.lt; simp at h9; omega)); have gxe0 : w6x.cell? ⟨wr.heap.size, 0, none⟩ = some (.string e.nm) := kex.out.cell 0; have gxe3 : w6x.cell? ⟨wr.heap.size, 3, none⟩ = some (.int .i64 e.wt) := kex.out.cell 3; have gxa3 : w6x.cell? ⟨w3.heap.size, 3, none⟩ = some (.int .i64 a.wt) := kax.out.cell 3; have gxe4 : w6x.cell? ⟨wr.heap.size, 4, none⟩ = some (.bool e.v6) := kex.out.cell 4; have gxa4 : w6x.cell? ⟨w3.heap.size, 4, none⟩ = some (.bool a.v6) := kax.out.cell 4; have gxe5 : w6x.cell? ⟨wr.heap.size, 5, none⟩ = some (.int .u64 e.hi) := kex.out.cell 5; have gxa5 : w6x.cell? ⟨w3.heap.size, 5, none⟩ = some (.int .u64 a.hi) := kax.out.cell 5; have gxe6 : w6x.cell? ⟨wr.heap.size, 6, none⟩ = some (.int .u64 e.lo) := kex.out.cell 6; have gxa6 : w6x.cell? ⟨w3.heap.size, 6, none⟩ = some (.int .u64 a.lo) := kax.out.cell 6; clear ho hg hgg
                         have KO2y := Lib.hid (HOx.out.alloc (.cells #[.string e.nm, .int .i64 3] 32))
                         have KB2y := Lib.hid (HBx.out.alloc HBx.out.size (.cells #[.string e.nm, .int .i64 3] 32))
                         have HNEy := Lib.hid (show ∀ p u, (Cg.cells ⟨e.nm, 3⟩).toList[p]? = some u → (w6x.alloc (.cells #[.string e.nm, .int .i64 3] 32)).cell? ((⟨w6x.heap.size, 0, none⟩ : Addr).add p) = some u from fun p u hu => by
                           rw [Addr.add_lit, Nat.zero_add, (Blk.new w6x 32 #[.string e.nm, .int .i64 3]).cell p]
                           have h2 : (Cg.cells ⟨e.nm, 3⟩)[p]? = some u := by simpa using hu
                           exact h2)
                         have P1y := Lib.hid (show ((goneC was now ++ newC was now (now.take q)) ++ [(⟨e.nm, 4⟩ : Cg)]).length + 1 ≤ maxLen by unfold maxLen; have := HGL.out; (try simp only [List.length_append, List.length_cons, List.length_nil] at this ⊢); omega)
                         have P2y := Lib.hid (show (((goneC was now ++ newC was now (now.take q)) ++ [(⟨e.nm, 4⟩ : Cg)]).length + 1) * 24 ≤ 140737488355328 by have := HGL.out; (try simp only [List.length_append, List.length_cons, List.length_nil] at this ⊢); omega)
                         have P3y := Lib.hid (show w.heap.size ≤ (w6x.alloc (.cells #[.string e.nm, .int .i64 3] 32)).heap.size from KB2y.out.size))
                      | (at_builtin; refine wpList_append_new _ rfl (.tmp 102) (.tmp 106) _ rfl w.heap.size 32 i0 _ 2 24 Try.underlying24 HI0.out HZ0.out HZ1.out HZ2.out rfl (by omega) _ ((goneC was now ++ newC was now (now.take q)) ++ [(⟨e.nm, 4⟩ : Cg)]).length (flatC ((goneC was now ++ newC was now (now.take q)) ++ [(⟨e.nm, 4⟩ : Cg)])) rfl KO2y.out ⟨w6x.heap.size, 0, none⟩ 1 1 (Cg.cells ⟨e.nm, 3⟩).toList rfl (Nat.le_refl 1) rfl HNEy.out (one_c1 _) P1y.out P2y.out P3y.out ?_; intro v6y w6y ho hg hgg; have HOy := Lib.hid (own_snoc (l := (goneC was now ++ newC was now (now.take q)) ++ [(⟨e.nm, 4⟩ : Cg)]) (e := ⟨e.nm, 3⟩) ho); have HBy := Lib.hid (KB2y.out.grown hg P3y.out (fun k hk => (KO2y.out.lt k hk).1)); have key := Lib.hid (show Blk w6y wr.heap.size 30 #[.string e.nm, .int .i64 e.kind, .int .i64 e.ab, .int .i64 e.wt, .bool e.v6, .int .u64 e.hi, .int .u64 e.lo] from (hg.block _ (by have := kex.out.lt; simp; omega) (fun e2 => (apx.out _ e2.symm).1 rfl)).trans ((Below.heap_alloc _ _ _ kex.out.lt).trans kex.out)); have kay := Lib.hid (show Blk w6y w3.heap.size 30 #[.string a.nm, .int .i64 a.kind, .int .i64 a.ab, .int .i64 a.wt, .bool a.v6, .int .u64 a.hi, .int .u64 a.lo] from (hg.block _ (by have := kax.out.lt; simp; omega) (fun e2 => (apx.out _ e2.symm).2 rfl)).trans ((Below.heap_alloc _ _ _ kax.out.lt).trans kax.out)); have apy := Lib.hid (show ∀ g, v6y.ownBlock = some g → g ≠ wr.heap.size ∧ g ≠ w3.heap.size from fun g e9 => (hgg g e9).elim (apx.out g) (fun h9 => by have h7 := kex.out.lt; have h8 := kax.out.lt; simp at h9; omega)); have gye0 : w6y.cell? ⟨wr.heap.size, 0, none⟩ = some (.string e.nm) := key.out.cell 0; have gye3 : w6y.cell? ⟨wr.heap.size, 3, none⟩ = some (.int .i64 e.wt) := key.out.cell 3; have gya3 : w6y.cell? ⟨w3.heap.size, 3, none⟩ = some (.int .i64 a.wt) := kay.out.cell 3; have gye4 : w6y.cell? ⟨wr.heap.size, 4, none⟩ = some (.bool e.v6) := key.out.cell 4; have gya4 : w6y.cell? ⟨w3.heap.size, 4, none⟩ = some (.bool a.v6) := kay.out.cell 4; have gye5 : w6y.cell? ⟨wr.heap.size, 5, none⟩ = some (.int .u64 e.hi) := key.out.cell 5; have gya5 : w6y.cell? ⟨w3.heap.size, 5, none⟩ = some (.int .u64 a.hi) := kay.out.cell 5; have gye6 : w6y.cell? ⟨wr.heap.size, 6, none⟩ = some (.int .u64 e.lo) := key.out.cell 6; have gya6 : w6y.cell? ⟨w3.heap.size, 6, none⟩ = some (.int .u64 a.lo) := kay.out.cell 6; clear ho hg hgg))
                    go_roundw
                    case rel => exact ⟨q + 1, by go_num, by omega, by rw [HON.out, HOT.out]; simpa [may3] using HOy.out, HBy.out⟩
                    case measure => simp [intOf]; omega
                · cases q3
                  · have KO2x := Lib.hid (O5.out.alloc (.cells #[.string e.nm, .int .i64 4] 32))
                    have KB2x := Lib.hid (BB5.out.alloc BB5.out.size (.cells #[.string e.nm, .int .i64 4] 32))
                    have HNEx := Lib.hid (show ∀ p u, (Cg.cells ⟨e.nm, 4⟩).toList[p]? = some u → (w5.alloc (.cells #[.string e.nm, .int .i64 4] 32)).cell? ((⟨w5.heap.size, 0, none⟩ : Addr).add p) = some u from fun p u hu => by
                      rw [Addr.add_lit, Nat.zero_add, (Blk.new w5 32 #[.string e.nm, .int .i64 4]).cell p]
                      have h2 : (Cg.cells ⟨e.nm, 4⟩)[p]? = some u := by simpa using hu
                      exact h2)
                    have P1x := Lib.hid (show (goneC was now ++ newC was now (now.take q)).length + 1 ≤ maxLen by unfold maxLen; have := HGL.out; (try simp only [List.length_append, List.length_cons, List.length_nil] at this ⊢); omega)
                    have P2x := Lib.hid (show ((goneC was now ++ newC was now (now.take q)).length + 1) * 24 ≤ 140737488355328 by have := HGL.out; (try simp only [List.length_append, List.length_cons, List.length_nil] at this ⊢); omega)
                    have P3x := Lib.hid (show w.heap.size ≤ (w5.alloc (.cells #[.string e.nm, .int .i64 4] 32)).heap.size from KB2x.out.size)
                    go_wp2_with (first
                      | (at_builtin; refine wpList_append_new _ rfl (.tmp 80) (.tmp 84) _ rfl w.heap.size 32 i0 _ 2 24 Try.underlying24 HI0.out HZ0.out HZ1.out HZ2.out rfl (by omega) _ (goneC was now ++ newC was now (now.take q)).length (flatC (goneC was now ++ newC was now (now.take q))) rfl KO2x.out ⟨w5.heap.size, 0, none⟩ 1 1 (Cg.cells ⟨e.nm, 4⟩).toList rfl (Nat.le_refl 1) rfl HNEx.out (one_c1 _) P1x.out P2x.out P3x.out ?_; intro v6x w6x ho hg hgg; have HOx := Lib.hid (own_snoc (l := goneC was now ++ newC was now (now.take q)) (e := ⟨e.nm, 4⟩) ho); have HBx := Lib.hid (KB2x.out.grown hg P3x.out (fun k hk => (KO2x.out.lt k hk).1)); have kex := Lib.hid (show Blk w6x wr.heap.size 30 #[.string e.nm, .int .i64 e.kind, .int .i64 e.ab, .int .i64 e.wt, .bool e.v6, .int .u64 e.hi, .int .u64 e.lo] from (hg.block _ (by have := KE5.out.lt; simp; omega) (fun e2 => (AP.out _ e2.symm).1 rfl)).trans ((Below.heap_alloc _ _ _ KE5.out.lt).trans KE5.out)); have kax := Lib.hid (show Blk w6x w3.heap.size 30 #[.string a.nm, .int .i64 a.kind, .int .i64 a.ab, .int .i64 a.wt, .bool a.v6, .int .u64 a.hi, .int .u64 a.lo] from (hg.block _ (by have := KA5.out.lt; simp; omega) (fun e2 => (AP.out _ e2.symm).2 rfl)).trans ((Below.heap_alloc _ _ _ KA5.out.lt).trans KA5.out)); have apx := Lib.hid (show ∀ g, v6x.ownBlock = some g → g ≠ wr.heap.size ∧ g ≠ w3.heap.size from fun g e9 => (hgg g e9).elim (AP.out g) (fun h9 => by have h7 := KE5.out.lt; have h8 := KA5.out.lt; simp at h9; omega)); have gxe0 : w6x.cell? ⟨wr.heap.size, 0, none⟩ = some (.string e.nm) := kex.out.cell 0; have gxe3 : w6x.cell? ⟨wr.heap.size, 3, none⟩ = some (.int .i64 e.wt) := kex.out.cell 3; have gxa3 : w6x.cell? ⟨w3.heap.size, 3, none⟩ = some (.int .i64 a.wt) := kax.out.cell 3; have gxe4 : w6x.cell? ⟨wr.heap.size, 4, none⟩ = some (.bool e.v6) := kex.out.cell 4; have gxa4 : w6x.cell? ⟨w3.heap.size, 4, none⟩ = some (.bool a.v6) := kax.out.cell 4; have gxe5 : w6x.cell? ⟨wr.heap.size, 5, none⟩ = some (.int .u64 e.hi) := kex.out.cell 5; have gxa5 : w6x.cell? ⟨w3.heap.size, 5, none⟩ = some (.int .u64 a.hi) := kax.out.cell 5; have gxe6 : w6x.cell? ⟨wr.heap.size, 6, none⟩ = some (.int .u64 e.lo) := kex.out.cell 6; have gxa6 : w6x.cell? ⟨w3.heap.size, 6, none⟩ = some (.int .u64 a.lo) := kax.out.cell 6; clear ho hg hgg
                         have KO2y := Lib.hid (HOx.out.alloc (.cells #[.string e.nm, .int .i64 5] 32))
                         have KB2y := Lib.hid (HBx.out.alloc HBx.out.size (.cells #[.string e.nm, .int .i64 5] 32))
                         have HNEy := Lib.hid (show ∀ p u, (Cg.cells ⟨e.nm, 5⟩).toList[p]? = some u → (w6x.alloc (.cells #[.string e.nm, .int .i64 5] 32)).cell? ((⟨w6x.heap.size, 0, none⟩ : Addr).add p) = some u from fun p u hu => by
                           rw [Addr.add_lit, Nat.zero_add, (Blk.new w6x 32 #[.string e.nm, .int .i64 5]).cell p]
                           have h2 : (Cg.cells ⟨e.nm, 5⟩)[p]? = some u := by simpa using hu
                           exact h2)
                         have P1y := Lib.hid (show ((goneC was now ++ newC was now (now.take q)) ++ [(⟨e.nm, 4⟩ : Cg)]).length + 1 ≤ maxLen by unfold maxLen; have := HGL.out; (try simp only [List.length_append, List.length_cons, List.length_nil] at this ⊢); omega)
                         have P2y := Lib.hid (show (((goneC was now ++ newC was now (now.take q)) ++ [(⟨e.nm, 4⟩ : Cg)]).length + 1) * 24 ≤ 140737488355328 by have := HGL.out; (try simp only [List.length_append, List.length_cons, List.length_nil] at this ⊢); omega)
                         have P3y := Lib.hid (show w.heap.size ≤ (w6x.alloc (.cells #[.string e.nm, .int .i64 5] 32)).heap.size from KB2y.out.size))
                      | (at_builtin; refine wpList_append_new _ rfl (.tmp 91) (.tmp 95) _ rfl w.heap.size 32 i0 _ 2 24 Try.underlying24 HI0.out HZ0.out HZ1.out HZ2.out rfl (by omega) _ ((goneC was now ++ newC was now (now.take q)) ++ [(⟨e.nm, 4⟩ : Cg)]).length (flatC ((goneC was now ++ newC was now (now.take q)) ++ [(⟨e.nm, 4⟩ : Cg)])) rfl KO2y.out ⟨w6x.heap.size, 0, none⟩ 1 1 (Cg.cells ⟨e.nm, 5⟩).toList rfl (Nat.le_refl 1) rfl HNEy.out (one_c1 _) P1y.out P2y.out P3y.out ?_; intro v6y w6y ho hg hgg; have HOy := Lib.hid (own_snoc (l := (goneC was now ++ newC was now (now.take q)) ++ [(⟨e.nm, 4⟩ : Cg)]) (e := ⟨e.nm, 5⟩) ho); have HBy := Lib.hid (KB2y.out.grown hg P3y.out (fun k hk => (KO2y.out.lt k hk).1)); have key := Lib.hid (show Blk w6y wr.heap.size 30 #[.string e.nm, .int .i64 e.kind, .int .i64 e.ab, .int .i64 e.wt, .bool e.v6, .int .u64 e.hi, .int .u64 e.lo] from (hg.block _ (by have := kex.out.lt; simp; omega) (fun e2 => (apx.out _ e2.symm).1 rfl)).trans ((Below.heap_alloc _ _ _ kex.out.lt).trans kex.out)); have kay := Lib.hid (show Blk w6y w3.heap.size 30 #[.string a.nm, .int .i64 a.kind, .int .i64 a.ab, .int .i64 a.wt, .bool a.v6, .int .u64 a.hi, .int .u64 a.lo] from (hg.block _ (by have := kax.out.lt; simp; omega) (fun e2 => (apx.out _ e2.symm).2 rfl)).trans ((Below.heap_alloc _ _ _ kax.out.lt).trans kax.out)); have apy := Lib.hid (show ∀ g, v6y.ownBlock = some g → g ≠ wr.heap.size ∧ g ≠ w3.heap.size from fun g e9 => (hgg g e9).elim (apx.out g) (fun h9 => by have h7 := kex.out.lt; have h8 := kax.out.lt; simp at h9; omega)); have gye0 : w6y.cell? ⟨wr.heap.size, 0, none⟩ = some (.string e.nm) := key.out.cell 0; have gye3 : w6y.cell? ⟨wr.heap.size, 3, none⟩ = some (.int .i64 e.wt) := key.out.cell 3; have gya3 : w6y.cell? ⟨w3.heap.size, 3, none⟩ = some (.int .i64 a.wt) := kay.out.cell 3; have gye4 : w6y.cell? ⟨wr.heap.size, 4, none⟩ = some (.bool e.v6) := key.out.cell 4; have gya4 : w6y.cell? ⟨w3.heap.size, 4, none⟩ = some (.bool a.v6) := kay.out.cell 4; have gye5 : w6y.cell? ⟨wr.heap.size, 5, none⟩ = some (.int .u64 e.hi) := key.out.cell 5; have gya5 : w6y.cell? ⟨w3.heap.size, 5, none⟩ = some (.int .u64 a.hi) := kay.out.cell 5; have gye6 : w6y.cell? ⟨wr.heap.size, 6, none⟩ = some (.int .u64 e.lo) := key.out.cell 6; have gya6 : w6y.cell? ⟨w3.heap.size, 6, none⟩ = some (.int .u64 a.lo) := kay.out.cell 6; clear ho hg hgg))
                    go_roundw
                    case rel => exact ⟨q + 1, by go_num, by omega, by rw [HON.out, HOT.out]; simpa [may3] using HOy.out, HBy.out⟩
                    case measure => simp [intOf]; omega
                  · have KO2x := Lib.hid (O5.out.alloc (.cells #[.string e.nm, .int .i64 4] 32))
                    have KB2x := Lib.hid (BB5.out.alloc BB5.out.size (.cells #[.string e.nm, .int .i64 4] 32))
                    have HNEx := Lib.hid (show ∀ p u, (Cg.cells ⟨e.nm, 4⟩).toList[p]? = some u → (w5.alloc (.cells #[.string e.nm, .int .i64 4] 32)).cell? ((⟨w5.heap.size, 0, none⟩ : Addr).add p) = some u from fun p u hu => by
                      rw [Addr.add_lit, Nat.zero_add, (Blk.new w5 32 #[.string e.nm, .int .i64 4]).cell p]
                      have h2 : (Cg.cells ⟨e.nm, 4⟩)[p]? = some u := by simpa using hu
                      exact h2)
                    have P1x := Lib.hid (show (goneC was now ++ newC was now (now.take q)).length + 1 ≤ maxLen by unfold maxLen; have := HGL.out; (try simp only [List.length_append, List.length_cons, List.length_nil] at this ⊢); omega)
                    have P2x := Lib.hid (show ((goneC was now ++ newC was now (now.take q)).length + 1) * 24 ≤ 140737488355328 by have := HGL.out; (try simp only [List.length_append, List.length_cons, List.length_nil] at this ⊢); omega)
                    have P3x := Lib.hid (show w.heap.size ≤ (w5.alloc (.cells #[.string e.nm, .int .i64 4] 32)).heap.size from KB2x.out.size)
                    go_wp2_with (first
                      | (at_builtin; refine wpList_append_new _ rfl (.tmp 80) (.tmp 84) _ rfl w.heap.size 32 i0 _ 2 24 Try.underlying24 HI0.out HZ0.out HZ1.out HZ2.out rfl (by omega) _ (goneC was now ++ newC was now (now.take q)).length (flatC (goneC was now ++ newC was now (now.take q))) rfl KO2x.out ⟨w5.heap.size, 0, none⟩ 1 1 (Cg.cells ⟨e.nm, 4⟩).toList rfl (Nat.le_refl 1) rfl HNEx.out (one_c1 _) P1x.out P2x.out P3x.out ?_; intro v6x w6x ho hg hgg; have HOx := Lib.hid (own_snoc (l := goneC was now ++ newC was now (now.take q)) (e := ⟨e.nm, 4⟩) ho); have HBx := Lib.hid (KB2x.out.grown hg P3x.out (fun k hk => (KO2x.out.lt k hk).1)); have kex := Lib.hid (show Blk w6x wr.heap.size 30 #[.string e.nm, .int .i64 e.kind, .int .i64 e.ab, .int .i64 e.wt, .bool e.v6, .int .u64 e.hi, .int .u64 e.lo] from (hg.block _ (by have := KE5.out.lt; simp; omega) (fun e2 => (AP.out _ e2.symm).1 rfl)).trans ((Below.heap_alloc _ _ _ KE5.out.lt).trans KE5.out)); have kax := Lib.hid (show Blk w6x w3.heap.size 30 #[.string a.nm, .int .i64 a.kind, .int .i64 a.ab, .int .i64 a.wt, .bool a.v6, .int .u64 a.hi, .int .u64 a.lo] from (hg.block _ (by have := KA5.out.lt; simp; omega) (fun e2 => (AP.out _ e2.symm).2 rfl)).trans ((Below.heap_alloc _ _ _ KA5.out.lt).trans KA5.out)); have apx := Lib.hid (show ∀ g, v6x.ownBlock = some g → g ≠ wr.heap.size ∧ g ≠ w3.heap.size from fun g e9 => (hgg g e9).elim (AP.out g) (fun h9 => by have h7 := KE5.out.lt; have h8 := KA5.out.lt; simp at h9; omega)); have gxe0 : w6x.cell? ⟨wr.heap.size, 0, none⟩ = some (.string e.nm) := kex.out.cell 0; have gxe3 : w6x.cell? ⟨wr.heap.size, 3, none⟩ = some (.int .i64 e.wt) := kex.out.cell 3; have gxa3 : w6x.cell? ⟨w3.heap.size, 3, none⟩ = some (.int .i64 a.wt) := kax.out.cell 3; have gxe4 : w6x.cell? ⟨wr.heap.size, 4, none⟩ = some (.bool e.v6) := kex.out.cell 4; have gxa4 : w6x.cell? ⟨w3.heap.size, 4, none⟩ = some (.bool a.v6) := kax.out.cell 4; have gxe5 : w6x.cell? ⟨wr.heap.size, 5, none⟩ = some (.int .u64 e.hi) := kex.out.cell 5; have gxa5 : w6x.cell? ⟨w3.heap.size, 5, none⟩ = some (.int .u64 a.hi) := kax.out.cell 5; have gxe6 : w6x.cell? ⟨wr.heap.size, 6, none⟩ = some (.int .u64 e.lo) := kex.out.cell 6; have gxa6 : w6x.cell? ⟨w3.heap.size, 6, none⟩ = some (.int .u64 a.lo) := kax.out.cell 6; clear ho hg hgg
                         have KO2y := Lib.hid (HOx.out.alloc (.cells #[.string e.nm, .int .i64 5] 32))
                         have KB2y := Lib.hid (HBx.out.alloc HBx.out.size (.cells #[.string e.nm, .int .i64 5] 32))
                         have HNEy := Lib.hid (show ∀ p u, (Cg.cells ⟨e.nm, 5⟩).toList[p]? = some u → (w6x.alloc (.cells #[.string e.nm, .int .i64 5] 32)).cell? ((⟨w6x.heap.size, 0, none⟩ : Addr).add p) = some u from fun p u hu => by
                           rw [Addr.add_lit, Nat.zero_add, (Blk.new w6x 32 #[.string e.nm, .int .i64 5]).cell p]
                           have h2 : (Cg.cells ⟨e.nm, 5⟩)[p]? = some u := by simpa using hu
                           exact h2)
                         have P1y := Lib.hid (show ((goneC was now ++ newC was now (now.take q)) ++ [(⟨e.nm, 4⟩ : Cg)]).length + 1 ≤ maxLen by unfold maxLen; have := HGL.out; (try simp only [List.length_append, List.length_cons, List.length_nil] at this ⊢); omega)
                         have P2y := Lib.hid (show (((goneC was now ++ newC was now (now.take q)) ++ [(⟨e.nm, 4⟩ : Cg)]).length + 1) * 24 ≤ 140737488355328 by have := HGL.out; (try simp only [List.length_append, List.length_cons, List.length_nil] at this ⊢); omega)
                         have P3y := Lib.hid (show w.heap.size ≤ (w6x.alloc (.cells #[.string e.nm, .int .i64 5] 32)).heap.size from KB2y.out.size))
                      | (at_builtin; refine wpList_append_new _ rfl (.tmp 91) (.tmp 95) _ rfl w.heap.size 32 i0 _ 2 24 Try.underlying24 HI0.out HZ0.out HZ1.out HZ2.out rfl (by omega) _ ((goneC was now ++ newC was now (now.take q)) ++ [(⟨e.nm, 4⟩ : Cg)]).length (flatC ((goneC was now ++ newC was now (now.take q)) ++ [(⟨e.nm, 4⟩ : Cg)])) rfl KO2y.out ⟨w6x.heap.size, 0, none⟩ 1 1 (Cg.cells ⟨e.nm, 5⟩).toList rfl (Nat.le_refl 1) rfl HNEy.out (one_c1 _) P1y.out P2y.out P3y.out ?_; intro v6y w6y ho hg hgg; have HOy := Lib.hid (own_snoc (l := (goneC was now ++ newC was now (now.take q)) ++ [(⟨e.nm, 4⟩ : Cg)]) (e := ⟨e.nm, 5⟩) ho); have HBy := Lib.hid (KB2y.out.grown hg P3y.out (fun k hk => (KO2y.out.lt k hk).1)); have key := Lib.hid (show Blk w6y wr.heap.size 30 #[.string e.nm, .int .i64 e.kind, .int .i64 e.ab, .int .i64 e.wt, .bool e.v6, .int .u64 e.hi, .int .u64 e.lo] from (hg.block _ (by have := kex.out.lt; simp; omega) (fun e2 => (apx.out _ e2.symm).1 rfl)).trans ((Below.heap_alloc _ _ _ kex.out.lt).trans kex.out)); have kay := Lib.hid (show Blk w6y w3.heap.size 30 #[.string a.nm, .int .i64 a.kind, .int .i64 a.ab, .int .i64 a.wt, .bool a.v6, .int .u64 a.hi, .int .u64 a.lo] from (hg.block _ (by have := kax.out.lt; simp; omega) (fun e2 => (apx.out _ e2.symm).2 rfl)).trans ((Below.heap_alloc _ _ _ kax.out.lt).trans kax.out)); have apy := Lib.hid (show ∀ g, v6y.ownBlock = some g → g ≠ wr.heap.size ∧ g ≠ w3.heap.size from fun g e9 => (hgg g e9).elim (apx.out g) (fun h9 => by have h7 := kex.out.lt; have h8 := kax.out.lt; simp at h9; omega)); have gye0 : w6y.cell? ⟨wr.heap.size, 0, none⟩ = some (.string e.nm) := key.out.cell 0; have gye3 : w6y.cell? ⟨wr.heap.size, 3, none⟩ = some (.int .i64 e.wt) := key.out.cell 3; have gya3 : w6y.cell? ⟨w3.heap.size, 3, none⟩ = some (.int .i64 a.wt) := kay.out.cell 3; have gye4 : w6y.cell? ⟨wr.heap.size, 4, none⟩ = some (.bool e.v6) := key.out.cell 4; have gya4 : w6y.cell? ⟨w3.heap.size, 4, none⟩ = some (.bool a.v6) := kay.out.cell 4; have gye5 : w6y.cell? ⟨wr.heap.size, 5, none⟩ = some (.int .u64 e.hi) := key.out.cell 5; have gya5 : w6y.cell? ⟨w3.heap.size, 5, none⟩ = some (.int .u64 a.hi) := kay.out.cell 5; have gye6 : w6y.cell? ⟨wr.heap.size, 6, none⟩ = some (.int .u64 e.lo) := key.out.cell 6; have gya6 : w6y.cell? ⟨w3.heap.size, 6, none⟩ = some (.int .u64 a.lo) := kay.out.cell 6; clear ho hg hgg
                         have KO2z := Lib.hid (HOy.out.alloc (.cells #[.string e.nm, .int .i64 3] 32))
                         have KB2z := Lib.hid (HBy.out.alloc HBy.out.size (.cells #[.string e.nm, .int .i64 3] 32))
                         have HNEz := Lib.hid (show ∀ p u, (Cg.cells ⟨e.nm, 3⟩).toList[p]? = some u → (w6y.alloc (.cells #[.string e.nm, .int .i64 3] 32)).cell? ((⟨w6y.heap.size, 0, none⟩ : Addr).add p) = some u from fun p u hu => by
                           rw [Addr.add_lit, Nat.zero_add, (Blk.new w6y 32 #[.string e.nm, .int .i64 3]).cell p]
                           have h2 : (Cg.cells ⟨e.nm, 3⟩)[p]? = some u := by simpa using hu
                           exact h2)
                         have P1z := Lib.hid (show ((goneC was now ++ newC was now (now.take q)) ++ [(⟨e.nm, 4⟩ : Cg)] ++ [(⟨e.nm, 5⟩ : Cg)]).length + 1 ≤ maxLen by unfold maxLen; have := HGL.out; (try simp only [List.length_append, List.length_cons, List.length_nil] at this ⊢); omega)
                         have P2z := Lib.hid (show (((goneC was now ++ newC was now (now.take q)) ++ [(⟨e.nm, 4⟩ : Cg)] ++ [(⟨e.nm, 5⟩ : Cg)]).length + 1) * 24 ≤ 140737488355328 by have := HGL.out; (try simp only [List.length_append, List.length_cons, List.length_nil] at this ⊢); omega)
                         have P3z := Lib.hid (show w.heap.size ≤ (w6y.alloc (.cells #[.string e.nm, .int .i64 3] 32)).heap.size from KB2z.out.size))
                      | (at_builtin; refine wpList_append_new _ rfl (.tmp 102) (.tmp 106) _ rfl w.heap.size 32 i0 _ 2 24 Try.underlying24 HI0.out HZ0.out HZ1.out HZ2.out rfl (by omega) _ ((goneC was now ++ newC was now (now.take q)) ++ [(⟨e.nm, 4⟩ : Cg)] ++ [(⟨e.nm, 5⟩ : Cg)]).length (flatC ((goneC was now ++ newC was now (now.take q)) ++ [(⟨e.nm, 4⟩ : Cg)] ++ [(⟨e.nm, 5⟩ : Cg)])) rfl KO2z.out ⟨w6y.heap.size, 0, none⟩ 1 1 (Cg.cells ⟨e.nm, 3⟩).toList rfl (Nat.le_refl 1) rfl HNEz.out (one_c1 _) P1z.out P2z.out P3z.out ?_; intro v6z w6z ho hg hgg; have HOz := Lib.hid (own_snoc (l := (goneC was now ++ newC was now (now.take q)) ++ [(⟨e.nm, 4⟩ : Cg)] ++ [(⟨e.nm, 5⟩ : Cg)]) (e := ⟨e.nm, 3⟩) ho); have HBz := Lib.hid (KB2z.out.grown hg P3z.out (fun k hk => (KO2z.out.lt k hk).1)); have kez := Lib.hid (show Blk w6z wr.heap.size 30 #[.string e.nm, .int .i64 e.kind, .int .i64 e.ab, .int .i64 e.wt, .bool e.v6, .int .u64 e.hi, .int .u64 e.lo] from (hg.block _ (by have := key.out.lt; simp; omega) (fun e2 => (apy.out _ e2.symm).1 rfl)).trans ((Below.heap_alloc _ _ _ key.out.lt).trans key.out)); have kaz := Lib.hid (show Blk w6z w3.heap.size 30 #[.string a.nm, .int .i64 a.kind, .int .i64 a.ab, .int .i64 a.wt, .bool a.v6, .int .u64 a.hi, .int .u64 a.lo] from (hg.block _ (by have := kay.out.lt; simp; omega) (fun e2 => (apy.out _ e2.symm).2 rfl)).trans ((Below.heap_alloc _ _ _ kay.out.lt).trans kay.out)); have apz := Lib.hid (show ∀ g, v6z.ownBlock = some g → g ≠ wr.heap.size ∧ g ≠ w3.heap.size from fun g e9 => (hgg g e9).elim (apy.out g) (fun h9 => by have h7 := key.out.lt; have h8 := kay.out.lt; simp at h9; omega)); have gze0 : w6z.cell? ⟨wr.heap.size, 0, none⟩ = some (.string e.nm) := kez.out.cell 0; have gze3 : w6z.cell? ⟨wr.heap.size, 3, none⟩ = some (.int .i64 e.wt) := kez.out.cell 3; have gza3 : w6z.cell? ⟨w3.heap.size, 3, none⟩ = some (.int .i64 a.wt) := kaz.out.cell 3; have gze4 : w6z.cell? ⟨wr.heap.size, 4, none⟩ = some (.bool e.v6) := kez.out.cell 4; have gza4 : w6z.cell? ⟨w3.heap.size, 4, none⟩ = some (.bool a.v6) := kaz.out.cell 4; have gze5 : w6z.cell? ⟨wr.heap.size, 5, none⟩ = some (.int .u64 e.hi) := kez.out.cell 5; have gza5 : w6z.cell? ⟨w3.heap.size, 5, none⟩ = some (.int .u64 a.hi) := kaz.out.cell 5; have gze6 : w6z.cell? ⟨wr.heap.size, 6, none⟩ = some (.int .u64 e.lo) := kez.out.cell 6; have gza6 : w6z.cell? ⟨w3.heap.size, 6, none⟩ = some (.int .u64 a.lo) := kaz.out.cell 6; clear ho hg hgg))
                    go_roundw
                    case rel => exact ⟨q + 1, by go_num, by omega, by rw [HON.out, HOT.out]; simpa [may3] using HOz.out, HBz.out⟩
                    case measure => simp [intOf]; omega
        · have t2 : decide ((q : Int) < now.length) = false := decide_eq_false (by omega)
          have t2b : decide (q < now.length) = false := decide_eq_false hqn
          have hql : now.take q = now := List.take_of_length_le (by omega)
          rw [hql] at KO
          have HOF := Lib.hid (of_any A1 A2 c1 c2 was now wr (HR1.out.below KB.out) (HR2.out.below KB.out) l1 l2 hc1 hc2 hm1 hm2)
          go_wp2_with fail
          refine HOF.out.mono ?_
          rintro o w3 ⟨v, rfl, ho, hb⟩
          have HON := Lib.hid ((KO.out.below hb))
          have BF := Lib.hid (KB.out.trans (hb.mono KB.out.size))
          have HLF : (goneC was now ++ newC was now now).length ≤ 300 := by
            have h1 := goneT_len now was was.length
            rw [List.take_length] at h1
            have h2 := newT_len was now now now.length
            rw [List.take_length] at h2
            rw [List.length_append]
            omega
          have ho1 := ho
          have ho2 := HON.out
          obtain ⟨L, hL⟩ : ∃ L, L = goneC was now ++ newC was now now := ⟨_, rfl⟩
          rw [← hL] at ho1 ho2 HLF
          clear ho HON hb HOF KO hL hql
          obtain ⟨Ag, cg, hvg, hg1, hg2, hgc⟩ := own_at ho1
          obtain ⟨Aw, cw, hvw, hw1, hw2, hwc⟩ := own_at ho2
          subst hvg hvw
          have HGC := Lib.hid hgc
          have HWC := Lib.hid hwc
          have hne : ((L.length : Int) != L.length) = false := by simp
          clear ho1 ho2 hgc hwc
          go_wp2_with fail
          go_loopw [12] (fun i wz => ∃ k : Nat, i = .int .i64 k ∧ k ≤ L.length ∧ Below w3.heap.size w3 wz) (fun i _ => L.length - (intOf i).toNat)
          case atStart => exact ⟨0, rfl, by omega, Below.refl _ _⟩
          case round =>
            obtain ⟨k, rfl, hk, hbk⟩ := hrel
            have HBK := Lib.hid hbk
            clear hbk
            by_cases hkl : k < L.length
            · obtain ⟨g1, hA1, hb1, d1, d2⟩ := HGC.out k hkl
              obtain ⟨g2, hA2, hb2, d3, d4⟩ := HWC.out k hkl
              have x1 := cell_of d1 (HBK.out.block g1 hb1)
              have x2 := cell_of d2 (HBK.out.block g1 hb1)
              have x3 := cell_of d3 (HBK.out.block g2 hb2)
              have x4 := cell_of d4 (HBK.out.block g2 hb2)
              subst hA1 hA2
              have t4 : decide ((k : Int) < L.length) = true := decide_eq_true (by omega)
              have t4b : decide (k < L.length) = true := decide_eq_true hkl
              obtain ⟨e, he⟩ : ∃ e, e = L[k] := ⟨_, rfl⟩
              rw [← he] at x1 x2 x3 x4
              clear d1 d2 d3 d4
              have k0 : (0 : Int) ≤ k := by omega
              have k1 : (k : Int) < L.length := by omega
              have hcn : ∀ W : World, (binOp .neq 32 (.agg #[.string e.nm, .int .i64 e.what]) (.agg #[.string e.nm, .int .i64 e.what])).run Try.prog W = .ok (.bool false) W := fun W => cg_ne e W
              have s0 : wr.drew.cell? ⟨g1, k * 2, none⟩ = some (.string e.nm) ∧ wr.drew.cell? ⟨g1, k * 2 + 1, none⟩ = some (.int .i64 e.what) ∧ wr.drew.cell? ⟨g2, k * 2, none⟩ = some (.string e.nm) ∧ wr.drew.cell? ⟨g2, k * 2 + 1, none⟩ = some (.int .i64 e.what) := ⟨x1, x2, x3, x4⟩
              clear he
              go_wp2_with fail
              go_region_held3 (fun w' => w'.cell? ⟨g1, k * 2, none⟩ = some (.string e.nm) ∧ w'.cell? ⟨g1, k * 2 + 1, none⟩ = some (.int .i64 e.what) ∧ w'.cell? ⟨g2, k * 2, none⟩ = some (.string e.nm) ∧ w'.cell? ⟨g2, k * 2 + 1, none⟩ = some (.int .i64 e.what)) (assumption) (first | fail)
              clear x1 x2 x3 x4 s0
              go_wp2_with fail
              go_roundw
              case rel => exact ⟨k + 1, by go_num, by omega, HBK.out.drew⟩
              case measure => simp [intOf]; omega
            · have t4 : decide ((k : Int) < L.length) = false := decide_eq_false (by omega)
              have t4b : decide (k < L.length) = false := decide_eq_false hkl
              have HAW := Lib.hid (awake_any wr)
              have BW := Lib.hid (BF.out.trans (HBK.out.mono BF.out.size))
              go_wp2_with fail
              refine HAW.out.mono ?_
              rintro o w4 ⟨rfl, hb⟩
              have BZ := Lib.hid (BW.out.trans (hb.mono BW.out.size))
              clear hb
              go_wp2_with fail
              go_ret
              exact ⟨rfl, BZ.out⟩
end Go.Proofs.Ytpdkgchpkidbhaa.dfH
