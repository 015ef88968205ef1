/- Layer 43: what is otherwise of a node. -/
import Derived.Test.YtpdkgchpkidbhaaDfB
import Derived.Deep.RegionHeld3
namespace Go.Proofs.Ytpdkgchpkidbhaa.dfC
open Go.ChangeShapes Go.WideShapes Go.ChangeAt Go.RowKit
open Go.Proofs.Ytpdkgchpkidbhaa.base Go.Proofs.Ytpdkgchpkidbhaa.dfA Go.Proofs.Ytpdkgchpkidbhaa.dfB
set_option linter.unusedVariables false

/-- The first j of three that may be. -/
def may3 (nm : ByteArray) (q1 q2 q3 : Bool) : Nat → List Cg
  | 0 => []
  | 1 => if q1 then [⟨nm, 4⟩] else []
  | 2 => (if q1 then [⟨nm, 4⟩] else []) ++ (if q2 then [⟨nm, 5⟩] else [])
  | _ => (if q1 then [⟨nm, 4⟩] else []) ++ (if q2 then [⟨nm, 5⟩] else []) ++ (if q3 then [⟨nm, 3⟩] else [])
theorem may3_len (nm : ByteArray) (q1 q2 q3 : Bool) (j : Nat) : (may3 nm q1 q2 q3 j).length ≤ 3 := by
  match j with
  | 0 => simp [may3]
  | 1 => cases q1 <;> simp [may3]
  | 2 => cases q1 <;> cases q2 <;> simp [may3]
  | j + 3 => cases q1 <;> cases q2 <;> cases q3 <;> simp [may3]
theorem adr_ne (v6 v62 : Bool) (hi hi2 lo lo2 : Int) (W : World) : (binOp .neq 28 (.agg #[.bool v6, .int .u64 hi, .int .u64 lo]) (.agg #[.bool v62, .int .u64 hi2, .int .u64 lo2])).run Try.prog W = .ok (.bool (decide (v6 ≠ v62 ∨ hi ≠ hi2 ∨ lo ≠ lo2))) W := by
  go_simp
  by_cases h1 : v6 = v62
  case neg => simp [h1]
  by_cases h2 : hi = hi2
  case neg => simp [h1, h2]
  by_cases h3 : lo = lo2
  case neg => simp [h1, h2, h3]
  simp [h1, h2, h3]
theorem othC_may (a : Nd) (sa : ByteArray) (b : Nd) (sb : ByteArray) (q1 q2 q3 : Bool) (h1 : q1 = true ↔ (a.kind ≠ b.kind ∨ sa ≠ sb)) (h2 : q2 = true ↔ (a.v6 ≠ b.v6 ∨ a.hi ≠ b.hi ∨ a.lo ≠ b.lo)) (h3 : q3 = true ↔ a.wt ≠ b.wt) : othC a sa b sb = may3 b.nm q1 q2 q3 3 := by
  unfold othC may3
  have e1 : (if a.kind ≠ b.kind ∨ sa ≠ sb then [(⟨b.nm, 4⟩ : Cg)] else []) = if q1 = true then [⟨b.nm, 4⟩] else [] := by
    by_cases h : a.kind ≠ b.kind ∨ sa ≠ sb
    · rw [if_pos h, if_pos (h1.mpr h)]
    · rw [if_neg h, if_neg (fun e => h (h1.mp e))]
  have e2 : (if a.v6 ≠ b.v6 ∨ a.hi ≠ b.hi ∨ a.lo ≠ b.lo then [(⟨b.nm, 5⟩ : Cg)] else []) = if q2 = true then [⟨b.nm, 5⟩] else [] := by
    by_cases h : a.v6 ≠ b.v6 ∨ a.hi ≠ b.hi ∨ a.lo ≠ b.lo
    · rw [if_pos h, if_pos (h2.mpr h)]
    · rw [if_neg h, if_neg (fun e => h (h2.mp e))]
  have e3 : (if a.wt ≠ b.wt then [(⟨b.nm, 3⟩ : Cg)] else []) = if q3 = true then [⟨b.nm, 3⟩] else [] := by
    by_cases h : a.wt ≠ b.wt
    · rw [if_pos h, if_pos (h3.mpr h)]
    · rw [if_neg h, if_neg (fun e => h (h3.mp e))]
  rw [e1, e2, e3]
  rfl
set_option maxHeartbeats 8000000 in
theorem oth_eq (a b : Nd) (sa sb : ByteArray) (w : World) (hkd : a.kind = b.kind) :
    Calls Try.prog 10 #[.agg a.cells, .string sa, .agg b.cells, .string sb] w fun o w' => ∃ v, o = .returned v ∧ OwnC w' w.heap.size v (othC a sa b sb) ∧ Below w.heap.size w w' := by
  obtain ⟨i0, hi0, hz0, hz1, hz2⟩ := info_parts info_c
  have HI0 := Lib.hid hi0
  have HZ0 := Lib.hid hz0
  have HZ1 := Lib.hid hz1
  have HZ2 := Lib.hid hz2
  obtain ⟨q2, hq2⟩ : ∃ q : Bool, q = decide (a.v6 ≠ b.v6 ∨ a.hi ≠ b.hi ∨ a.lo ≠ b.lo) := ⟨_, rfl⟩
  obtain ⟨q3, hq3⟩ : ∃ q : Bool, q = (a.wt != b.wt) := ⟨_, rfl⟩
  have had : ∀ W : World, (binOp .neq 28 (.agg #[.bool a.v6, .int .u64 a.hi, .int .u64 a.lo]) (.agg #[.bool b.v6, .int .u64 b.hi, .int .u64 b.lo])).run Try.prog W = .ok (.bool q2) W := fun W => by rw [hq2]; exact adr_ne _ _ _ _ _ _ W
  obtain ⟨q1, hq1⟩ : ∃ q : Bool, q = !(sa.toList == sb.toList) := ⟨_, rfl⟩
  have hk : (a.kind != b.kind) = false := by simp [hkd]
  have HOT := Lib.hid (othC_may a sa b sb q1 q2 q3 (by
    rw [hq1]
    by_cases h : sa = sb
    · rw [str_yes h]; simp [hkd, h]
    · rw [str_no h]; simp [h]) (by rw [hq2]; simp) (by rw [hq3]; simp))
  have hst : (!(sa.toList == sb.toList)) = q1 := hq1.symm
  have hst2 : (sa.toList != sb.toList) = q1 := hq1.symm
  have hwt : (a.wt != b.wt) = q3 := hq3.symm
  rw [HOT.out]
  clear hq2 hq3 hq1 hkd hi0 hz0 hz1 hz2
  obtain ⟨w1, hw1⟩ : ∃ w1, w1 = (w.alloc (.cells #[.string a.nm, .int .i64 a.kind, .int .i64 a.ab, .int .i64 a.wt, .bool a.v6, .int .u64 a.hi, .int .u64 a.lo] 30)).alloc (.cells #[.string b.nm, .int .i64 b.kind, .int .i64 b.ab, .int .i64 b.wt, .bool b.v6, .int .u64 b.hi, .int .u64 b.lo] 30) := ⟨_, rfl⟩
  have hs1 : w1.heap.size = w.heap.size + 1 + 1 := by rw [hw1]; simp
  have HW := Lib.hid (show Below w.heap.size w w1 from hw1 ▸ ((Below.refl w.heap.size w).alloc (Nat.le_refl _) _).alloc (by simp) _)
  have HKb := Lib.hid (show Blk w1 (w.heap.size + 1) 30 #[.string b.nm, .int .i64 b.kind, .int .i64 b.ab, .int .i64 b.wt, .bool b.v6, .int .u64 b.hi, .int .u64 b.lo] from by
    have := Blk.new (w.alloc (.cells #[.string a.nm, .int .i64 a.kind, .int .i64 a.ab, .int .i64 a.wt, .bool a.v6, .int .u64 a.hi, .int .u64 a.lo] 30)) 30 #[.string b.nm, .int .i64 b.kind, .int .i64 b.ab, .int .i64 b.wt, .bool b.v6, .int .u64 b.hi, .int .u64 b.lo]
    rw [show (w.alloc (.cells #[.string a.nm, .int .i64 a.kind, .int .i64 a.ab, .int .i64 a.wt, .bool a.v6, .int .u64 a.hi, .int .u64 a.lo] 30)).heap.size = w.heap.size + 1 by simp] at this
    rw [hw1]
    exact this)
  have HS1 := Lib.hid hs1
  have HOE := Lib.hid (show OwnC (w1.alloc (.cells #[] 32)) w1.heap.size (.slice (some ⟨w1.heap.size, 0, none⟩) 0 0) [] from OwnC.empty w1 _ (Nat.le_refl _))
  rw [hs1] at HOE
  have HW1 := Lib.hid hw1
  clear hs1 hw1
  unfold Nd.cells
  go_enter Try.func10, Try.ntmps10
  go_wp2_with fail
  rw [← HW1.out]
  have HK0 := Lib.hid (show Blk w1 w.heap.size 30 #[.string a.nm, .int .i64 a.kind, .int .i64 a.ab, .int .i64 a.wt, .bool a.v6, .int .u64 a.hi, .int .u64 a.lo] from by
    rw [HW1.out]
    exact (Below.heap_alloc _ _ _ (by simp)).trans (Blk.new w _ _))
  obtain ⟨w2, hw2⟩ : ∃ w2, w2 = w1.alloc (.cells #[] 32) := ⟨_, rfl⟩
  rw [← hw2] at HOE ⊢
  have hb2 : Below w1.heap.size w1 w2 := hw2 ▸ (Below.refl w1.heap.size w1).alloc (Nat.le_refl _) _
  have hs2 : w2.heap.size = w.heap.size + 3 := by rw [hw2]; simp [HS1.out]
  have HS2 := Lib.hid hs2
  have HB2 := Lib.hid (HW.out.trans (hb2.mono HW.out.size))
  have HKA := Lib.hid (show Blk w2 w.heap.size 30 #[.string a.nm, .int .i64 a.kind, .int .i64 a.ab, .int .i64 a.wt, .bool a.v6, .int .u64 a.hi, .int .u64 a.lo] from (hb2.block _ HK0.out.lt).trans HK0.out)
  have HKB := Lib.hid (show Blk w2 (w.heap.size + 1) 30 #[.string b.nm, .int .i64 b.kind, .int .i64 b.ab, .int .i64 b.wt, .bool b.v6, .int .u64 b.hi, .int .u64 b.lo] from (hb2.block _ HKb.out.lt).trans HKb.out)
  have HFR := Lib.hid (show ∀ W : World, Below w2.heap.size w2 W → (W.cell? ⟨w.heap.size, 1, none⟩ = some (.int .i64 a.kind) ∧ W.cell? ⟨w.heap.size, 3, none⟩ = some (.int .i64 a.wt) ∧ W.cell? ⟨w.heap.size, 4, none⟩ = some (.bool a.v6) ∧ W.cell? ⟨w.heap.size, 5, none⟩ = some (.int .u64 a.hi) ∧ W.cell? ⟨w.heap.size, 6, none⟩ = some (.int .u64 a.lo) ∧ W.cell? ⟨w.heap.size + 1, 1, none⟩ = some (.int .i64 b.kind) ∧ W.cell? ⟨w.heap.size + 1, 3, none⟩ = some (.int .i64 b.wt) ∧ W.cell? ⟨w.heap.size + 1, 4, none⟩ = some (.bool b.v6) ∧ W.cell? ⟨w.heap.size + 1, 5, none⟩ = some (.int .u64 b.hi) ∧ W.cell? ⟨w.heap.size + 1, 6, none⟩ = some (.int .u64 b.lo)) from fun W hb => by
    have h1 : Blk W w.heap.size 30 #[.string a.nm, .int .i64 a.kind, .int .i64 a.ab, .int .i64 a.wt, .bool a.v6, .int .u64 a.hi, .int .u64 a.lo] := (hb.block _ HKA.out.lt).trans HKA.out
    have h2 : Blk W (w.heap.size + 1) 30 #[.string b.nm, .int .i64 b.kind, .int .i64 b.ab, .int .i64 b.wt, .bool b.v6, .int .u64 b.hi, .int .u64 b.lo] := (hb.block _ HKB.out.lt).trans HKB.out
    exact ⟨h1.cell 1, h1.cell 3, h1.cell 4, h1.cell 5, h1.cell 6, h2.cell 1, h2.cell 3, h2.cell 4, h2.cell 5, h2.cell 6⟩)
  have s0 := HFR.out _ (Below.refl _ _).drew
  clear hw2 hb2 hs2
  go_region_held3 (fun w' => w'.cell? ⟨w.heap.size, 1, none⟩ = some (.int .i64 a.kind) ∧ w'.cell? ⟨w.heap.size, 3, none⟩ = some (.int .i64 a.wt) ∧ w'.cell? ⟨w.heap.size, 4, none⟩ = some (.bool a.v6) ∧ w'.cell? ⟨w.heap.size, 5, none⟩ = some (.int .u64 a.hi) ∧ w'.cell? ⟨w.heap.size, 6, none⟩ = some (.int .u64 a.lo) ∧ w'.cell? ⟨w.heap.size + 1, 1, none⟩ = some (.int .i64 b.kind) ∧ w'.cell? ⟨w.heap.size + 1, 3, none⟩ = some (.int .i64 b.wt) ∧ w'.cell? ⟨w.heap.size + 1, 4, none⟩ = some (.bool b.v6) ∧ w'.cell? ⟨w.heap.size + 1, 5, none⟩ = some (.int .u64 b.hi) ∧ w'.cell? ⟨w.heap.size + 1, 6, none⟩ = some (.int .u64 b.lo)) (first | assumption | exact HFR.out _ ((Below.refl _ _).alloc (Nat.le_refl _) _).drew | exact HFR.out _ ((Below.refl _ _).drew.alloc (Nat.le_refl _) _) | exact HFR.out _ ((((Below.refl _ _).drew.alloc (Nat.le_refl _) _))))
    (first | fail)
  have ix0 : ∀ w, (Instr.index 41 (.agg #[.int .i64 4, .bool q1, .int .i64 5, .bool q2, .int .i64 3, .bool q3]) (.int .i64 0)).run Try.prog w = .ok (.agg #[.int .i64 4, .bool q1]) w := fun _ => by kernel_rfl
  have ix1 : ∀ w, (Instr.index 41 (.agg #[.int .i64 4, .bool q1, .int .i64 5, .bool q2, .int .i64 3, .bool q3]) (.int .i64 1)).run Try.prog w = .ok (.agg #[.int .i64 5, .bool q2]) w := fun _ => by kernel_rfl
  have ix2 : ∀ w, (Instr.index 41 (.agg #[.int .i64 4, .bool q1, .int .i64 5, .bool q2, .int .i64 3, .bool q3]) (.int .i64 2)).run Try.prog w = .ok (.agg #[.int .i64 3, .bool q3]) w := fun _ => by kernel_rfl
  have hb3 : Below w2.heap.size w2 (w2.alloc (.cells #[.int .i64 4, .bool q1, .int .i64 5, .bool q2, .int .i64 3, .bool q3] 41)).drew := ((Below.refl _ _).alloc (Nat.le_refl _) _).drew
  have OE3 := Lib.hid (HOE.out.below hb3)
  have KB3 := Lib.hid (show Blk (w2.alloc (.cells #[.int .i64 4, .bool q1, .int .i64 5, .bool q2, .int .i64 3, .bool q3] 41)).drew (w.heap.size + 1) 30 #[.string b.nm, .int .i64 b.kind, .int .i64 b.ab, .int .i64 b.wt, .bool b.v6, .int .u64 b.hi, .int .u64 b.lo] from (hb3.block _ (show w.heap.size + 1 < w2.heap.size by have := HS2.out; omega)).trans HKB.out)
  have HB3 := Lib.hid (HB2.out.trans (hb3.mono HB2.out.size))
  have KAR := Blk.new w2 41 #[.int .i64 4, .bool q1, .int .i64 5, .bool q2, .int .i64 3, .bool q3]
  have r0 : (w2.alloc (.cells #[.int .i64 4, .bool q1, .int .i64 5, .bool q2, .int .i64 3, .bool q3] 41)).drew.cell? ⟨w2.heap.size, 0, none⟩ = some (.int .i64 4) := KAR.cell 0
  have r1 : (w2.alloc (.cells #[.int .i64 4, .bool q1, .int .i64 5, .bool q2, .int .i64 3, .bool q3] 41)).drew.cell? ⟨w2.heap.size, 1, none⟩ = some (.bool q1) := KAR.cell 1
  have r2 : (w2.alloc (.cells #[.int .i64 4, .bool q1, .int .i64 5, .bool q2, .int .i64 3, .bool q3] 41)).drew.cell? ⟨w2.heap.size, 2, none⟩ = some (.int .i64 5) := KAR.cell 2
  have r3 : (w2.alloc (.cells #[.int .i64 4, .bool q1, .int .i64 5, .bool q2, .int .i64 3, .bool q3] 41)).drew.cell? ⟨w2.heap.size, 3, none⟩ = some (.bool q2) := KAR.cell 3
  have r4 : (w2.alloc (.cells #[.int .i64 4, .bool q1, .int .i64 5, .bool q2, .int .i64 3, .bool q3] 41)).drew.cell? ⟨w2.heap.size, 4, none⟩ = some (.int .i64 3) := KAR.cell 4
  have r5 : (w2.alloc (.cells #[.int .i64 4, .bool q1, .int .i64 5, .bool q2, .int .i64 3, .bool q3] 41)).drew.cell? ⟨w2.heap.size, 5, none⟩ = some (.bool q3) := KAR.cell 5
  generalize (w2.alloc (.cells #[.int .i64 4, .bool q1, .int .i64 5, .bool q2, .int .i64 3, .bool q3] 41)).drew = w3 at *
  clear hb3 KAR s0
  go_wp2_with fail
  go_loopw [9, 39] (fun out i wr => ∃ j : Nat, i = .int .i64 j ∧ j ≤ 3 ∧ OwnC wr (w.heap.size + 1 + 1) out (may3 b.nm q1 q2 q3 j) ∧ Below (w.heap.size + 1 + 1) w3 wr) (fun _ i _ => 3 - (intOf i).toNat)
  case atStart => exact ⟨0, rfl, by omega, OE3.out, Below.refl _ _⟩
  case round =>
    obtain ⟨j, rfl, hj, how, hbel⟩ := hrel
    have KO := Lib.hid how
    have KBL := Lib.hid hbel
    have b0 : wr.cell? ⟨w.heap.size + 1, 0, none⟩ = some (.string b.nm) := (show Blk wr (w.heap.size + 1) 30 #[.string b.nm, .int .i64 b.kind, .int .i64 b.ab, .int .i64 b.wt, .bool b.v6, .int .u64 b.hi, .int .u64 b.lo] from (hbel.block _ (by omega)).trans KB3.out).cell 0
    have hsz : w.heap.size + 1 + 1 ≤ wr.heap.size := Nat.le_trans (by have := HB3.out.size; have := HS2.out; have h9 := OE3.out.lt (w.heap.size + 1 + 1) rfl; omega) hbel.size
    have HSZ := Lib.hid hsz
    have HML := Lib.hid (may3_len b.nm q1 q2 q3 j)
    clear how hbel hsz
    have hcase : j = 0 ∨ j = 1 ∨ j = 2 ∨ j = 3 := by omega
    rcases hcase with rfl | rfl | rfl | rfl
    · cases q1
      · have KO1 := Lib.hid (KO.out.alloc (.cells #[.int .i64 4, .bool false] 40))
        have KB1 := Lib.hid (KBL.out.alloc HSZ.out (.cells #[.int .i64 4, .bool false] 40))
        go_wp2_with fail
        go_roundw
        case rel => exact ⟨1, by go_num, by omega, by have := KO1.out; simpa [may3] using this, KB1.out⟩
        case measure => simp [intOf]
      · have b0x : (wr.alloc (.cells #[.int .i64 4, .bool true] 40)).cell? ⟨w.heap.size + 1, 0, none⟩ = some (.string b.nm) := (World.cell?_alloc_lt _ _ _ (World.block_lt_of_cell? wr _ b0)).trans b0
        have KO1 := KO.out.alloc (.cells #[.int .i64 4, .bool true] 40)
        have KB1 := KBL.out.alloc HSZ.out (.cells #[.int .i64 4, .bool true] 40)
        have KO2 := Lib.hid (KO1.alloc (.cells #[.string b.nm, .int .i64 4] 32))
        have KB2 := Lib.hid (KB1.alloc (Nat.le_trans HSZ.out (by simp)) (.cells #[.string b.nm, .int .i64 4] 32))
        have HNE := Lib.hid (show ∀ p u, (Cg.cells ⟨b.nm, 4⟩).toList[p]? = some u → ((wr.alloc (.cells #[.int .i64 4, .bool true] 40)).alloc (.cells #[.string b.nm, .int .i64 4] 32)).cell? ((⟨wr.heap.size + 1, 0, none⟩ : Addr).add p) = some u from fun p u hu => by
          have hn := Blk.new (wr.alloc (.cells #[.int .i64 4, .bool true] 40)) 32 #[.string b.nm, .int .i64 4]
          rw [show (wr.alloc (.cells #[.int .i64 4, .bool true] 40)).heap.size = wr.heap.size + 1 by simp] at hn
          rw [Addr.add_lit, Nat.zero_add, hn.cell p]
          have h2 : (Cg.cells ⟨b.nm, 4⟩)[p]? = some u := by simpa using hu
          exact h2)
        have P1 := Lib.hid (show (may3 b.nm true q2 q3 0).length + 1 ≤ maxLen by unfold maxLen; have := HML.out; omega)
        have P2 := Lib.hid (show ((may3 b.nm true q2 q3 0).length + 1) * 24 ≤ 140737488355328 by have := HML.out; omega)
        have P3 := Lib.hid (show w.heap.size + 1 + 1 ≤ ((wr.alloc (.cells #[.int .i64 4, .bool true] 40)).alloc (.cells #[.string b.nm, .int .i64 4] 32)).heap.size from Nat.le_trans HSZ.out (by simp; omega))
        clear KO1 KB1
        go_wp2_with (at_builtin; refine wpList_append_own _ rfl (.tmp 44) (.tmp 50) _ rfl (w.heap.size + 1 + 1) 32 i0 _ 2 24 Try.underlying24 HI0.out HZ0.out HZ1.out HZ2.out rfl (by omega) _ (may3 b.nm true q2 q3 0).length (flatC (may3 b.nm true q2 q3 0)) rfl KO2.out ⟨wr.heap.size + 1, 0, none⟩ 1 1 (Cg.cells ⟨b.nm, 4⟩).toList rfl rfl HNE.out (one_c1 _) P1.out P2.out P3.out ?_; intro v6 w6 ho hg _; have HO1 := Lib.hid (show OwnC w6 (w.heap.size + 1 + 1) v6 (may3 b.nm true q2 q3 0 ++ [⟨b.nm, 4⟩]) by (have := ho; rw [← flatC_snoc] at this; simpa [OwnC] using this)); have HB1 := Lib.hid (KB2.out.grown hg P3.out (fun k hk => (KO2.out.lt k hk).1)); clear ho hg)
        go_roundw
        case rel => exact ⟨1, by go_num, by omega, by have := HO1.out; simpa [may3] using this, HB1.out⟩
        case measure => simp [intOf]
    · cases q2
      · have KO1 := Lib.hid (KO.out.alloc (.cells #[.int .i64 5, .bool false] 40))
        have KB1 := Lib.hid (KBL.out.alloc HSZ.out (.cells #[.int .i64 5, .bool false] 40))
        go_wp2_with fail
        go_roundw
        case rel => exact ⟨2, by go_num, by omega, by have := KO1.out; simpa [may3] using this, KB1.out⟩
        case measure => simp [intOf]
      · have b0x : (wr.alloc (.cells #[.int .i64 5, .bool true] 40)).cell? ⟨w.heap.size + 1, 0, none⟩ = some (.string b.nm) := (World.cell?_alloc_lt _ _ _ (World.block_lt_of_cell? wr _ b0)).trans b0
        have KO1 := KO.out.alloc (.cells #[.int .i64 5, .bool true] 40)
        have KB1 := KBL.out.alloc HSZ.out (.cells #[.int .i64 5, .bool true] 40)
        have KO2 := Lib.hid (KO1.alloc (.cells #[.string b.nm, .int .i64 5] 32))
        have KB2 := Lib.hid (KB1.alloc (Nat.le_trans HSZ.out (by simp)) (.cells #[.string b.nm, .int .i64 5] 32))
        have HNE := Lib.hid (show ∀ p u, (Cg.cells ⟨b.nm, 5⟩).toList[p]? = some u → ((wr.alloc (.cells #[.int .i64 5, .bool true] 40)).alloc (.cells #[.string b.nm, .int .i64 5] 32)).cell? ((⟨wr.heap.size + 1, 0, none⟩ : Addr).add p) = some u from fun p u hu => by
          have hn := Blk.new (wr.alloc (.cells #[.int .i64 5, .bool true] 40)) 32 #[.string b.nm, .int .i64 5]
          rw [show (wr.alloc (.cells #[.int .i64 5, .bool true] 40)).heap.size = wr.heap.size + 1 by simp] at hn
          rw [Addr.add_lit, Nat.zero_add, hn.cell p]
          have h2 : (Cg.cells ⟨b.nm, 5⟩)[p]? = some u := by simpa using hu
          exact h2)
        have P1 := Lib.hid (show (may3 b.nm q1 true q3 1).length + 1 ≤ maxLen by unfold maxLen; have := HML.out; omega)
        have P2 := Lib.hid (show ((may3 b.nm q1 true q3 1).length + 1) * 24 ≤ 140737488355328 by have := HML.out; omega)
        have P3 := Lib.hid (show w.heap.size + 1 + 1 ≤ ((wr.alloc (.cells #[.int .i64 5, .bool true] 40)).alloc (.cells #[.string b.nm, .int .i64 5] 32)).heap.size from Nat.le_trans HSZ.out (by simp; omega))
        clear KO1 KB1
        go_wp2_with (at_builtin; refine wpList_append_own _ rfl (.tmp 44) (.tmp 50) _ rfl (w.heap.size + 1 + 1) 32 i0 _ 2 24 Try.underlying24 HI0.out HZ0.out HZ1.out HZ2.out rfl (by omega) _ (may3 b.nm q1 true q3 1).length (flatC (may3 b.nm q1 true q3 1)) rfl KO2.out ⟨wr.heap.size + 1, 0, none⟩ 1 1 (Cg.cells ⟨b.nm, 5⟩).toList rfl rfl HNE.out (one_c1 _) P1.out P2.out P3.out ?_; intro v6 w6 ho hg _; have HO1 := Lib.hid (show OwnC w6 (w.heap.size + 1 + 1) v6 (may3 b.nm q1 true q3 1 ++ [⟨b.nm, 5⟩]) by (have := ho; rw [← flatC_snoc] at this; simpa [OwnC] using this)); have HB1 := Lib.hid (KB2.out.grown hg P3.out (fun k hk => (KO2.out.lt k hk).1)); clear ho hg)
        go_roundw
        case rel => exact ⟨2, by go_num, by omega, by have := HO1.out; simpa [may3] using this, HB1.out⟩
        case measure => simp [intOf]
    · cases q3
      · have KO1 := Lib.hid (KO.out.alloc (.cells #[.int .i64 3, .bool false] 40))
        have KB1 := Lib.hid (KBL.out.alloc HSZ.out (.cells #[.int .i64 3, .bool false] 40))
        go_wp2_with fail
        go_roundw
        case rel => exact ⟨3, by go_num, by omega, by have := KO1.out; simpa [may3] using this, KB1.out⟩
        case measure => simp [intOf]
      · have b0x : (wr.alloc (.cells #[.int .i64 3, .bool true] 40)).cell? ⟨w.heap.size + 1, 0, none⟩ = some (.string b.nm) := (World.cell?_alloc_lt _ _ _ (World.block_lt_of_cell? wr _ b0)).trans b0
        have KO1 := KO.out.alloc (.cells #[.int .i64 3, .bool true] 40)
        have KB1 := KBL.out.alloc HSZ.out (.cells #[.int .i64 3, .bool true] 40)
        have KO2 := Lib.hid (KO1.alloc (.cells #[.string b.nm, .int .i64 3] 32))
        have KB2 := Lib.hid (KB1.alloc (Nat.le_trans HSZ.out (by simp)) (.cells #[.string b.nm, .int .i64 3] 32))
        have HNE := Lib.hid (show ∀ p u, (Cg.cells ⟨b.nm, 3⟩).toList[p]? = some u → ((wr.alloc (.cells #[.int .i64 3, .bool true] 40)).alloc (.cells #[.string b.nm, .int .i64 3] 32)).cell? ((⟨wr.heap.size + 1, 0, none⟩ : Addr).add p) = some u from fun p u hu => by
          have hn := Blk.new (wr.alloc (.cells #[.int .i64 3, .bool true] 40)) 32 #[.string b.nm, .int .i64 3]
          rw [show (wr.alloc (.cells #[.int .i64 3, .bool true] 40)).heap.size = wr.heap.size + 1 by simp] at hn
          rw [Addr.add_lit, Nat.zero_add, hn.cell p]
          have h2 : (Cg.cells ⟨b.nm, 3⟩)[p]? = some u := by simpa using hu
          exact h2)
        have P1 := Lib.hid (show (may3 b.nm q1 q2 true 2).length + 1 ≤ maxLen by unfold maxLen; have := HML.out; omega)
        have P2 := Lib.hid (show ((may3 b.nm q1 q2 true 2).length + 1) * 24 ≤ 140737488355328 by have := HML.out; omega)
        have P3 := Lib.hid (show w.heap.size + 1 + 1 ≤ ((wr.alloc (.cells #[.int .i64 3, .bool true] 40)).alloc (.cells #[.string b.nm, .int .i64 3] 32)).heap.size from Nat.le_trans HSZ.out (by simp; omega))
        clear KO1 KB1
        go_wp2_with (at_builtin; refine wpList_append_own _ rfl (.tmp 44) (.tmp 50) _ rfl (w.heap.size + 1 + 1) 32 i0 _ 2 24 Try.underlying24 HI0.out HZ0.out HZ1.out HZ2.out rfl (by omega) _ (may3 b.nm q1 q2 true 2).length (flatC (may3 b.nm q1 q2 true 2)) rfl KO2.out ⟨wr.heap.size + 1, 0, none⟩ 1 1 (Cg.cells ⟨b.nm, 3⟩).toList rfl rfl HNE.out (one_c1 _) P1.out P2.out P3.out ?_; intro v6 w6 ho hg _; have HO1 := Lib.hid (show OwnC w6 (w.heap.size + 1 + 1) v6 (may3 b.nm q1 q2 true 2 ++ [⟨b.nm, 3⟩]) by (have := ho; rw [← flatC_snoc] at this; simpa [OwnC] using this)); have HB1 := Lib.hid (KB2.out.grown hg P3.out (fun k hk => (KO2.out.lt k hk).1)); clear ho hg)
        go_roundw
        case rel => exact ⟨3, by go_num, by omega, by have := HO1.out; simpa [may3] using this, HB1.out⟩
        case measure => simp [intOf]
    · have HFI := Lib.hid (show OwnC wr w.heap.size u9 (may3 b.nm q1 q2 q3 3) from KO.out.more (by omega))
      have HBZ := Lib.hid (HB3.out.trans (KBL.out.mono (by omega)))
      go_wp2_with fail
      go_ret
      exact ⟨_, rfl, HFI.out, HBZ.out⟩
end Go.Proofs.Ytpdkgchpkidbhaa.dfC
