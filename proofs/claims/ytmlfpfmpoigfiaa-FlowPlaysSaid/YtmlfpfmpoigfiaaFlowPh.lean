/- Layer 27: its law's step: flows go. -/
import Derived.Test.YtmlfpfmpoigfiaaFlowPe
namespace Go.Proofs.Ytmlfpfmpoigfiaa.flowPh
open Go.ChangeShapes Go.WideShapes Go.ChangeAt Go.RowKit
open Go.Proofs.Ytmlfpfmpoigfiaa.base Go.Proofs.Ytmlfpfmpoigfiaa.flowA Go.Proofs.Ytmlfpfmpoigfiaa.flowB Go.Proofs.Ytmlfpfmpoigfiaa.flowC Go.Proofs.Ytmlfpfmpoigfiaa.flowD Go.Proofs.Ytmlfpfmpoigfiaa.flowE Go.Proofs.Ytmlfpfmpoigfiaa.flowF Go.Proofs.Ytmlfpfmpoigfiaa.flowG Go.Proofs.Ytmlfpfmpoigfiaa.flowH Go.Proofs.Ytmlfpfmpoigfiaa.flowI Go.Proofs.Ytmlfpfmpoigfiaa.flowL Go.Proofs.Ytmlfpfmpoigfiaa.flowM Go.Proofs.Ytmlfpfmpoigfiaa.flowN Go.Proofs.Ytmlfpfmpoigfiaa.flowO Go.Proofs.Ytmlfpfmpoigfiaa.flowP Go.Proofs.Ytmlfpfmpoigfiaa.flowQ Go.Proofs.Ytmlfpfmpoigfiaa.flowR Go.Proofs.Ytmlfpfmpoigfiaa.flowS Go.Proofs.Ytmlfpfmpoigfiaa.flowT Go.Proofs.Ytmlfpfmpoigfiaa.flowU Go.Proofs.Ytmlfpfmpoigfiaa.flowV Go.Proofs.Ytmlfpfmpoigfiaa.flowW Go.Proofs.Ytmlfpfmpoigfiaa.flowX Go.Proofs.Ytmlfpfmpoigfiaa.flowY Go.Proofs.Ytmlfpfmpoigfiaa.flowGo Go.Proofs.Ytmlfpfmpoigfiaa.flowGp Go.Proofs.Ytmlfpfmpoigfiaa.flowPa Go.Proofs.Ytmlfpfmpoigfiaa.flowPb Go.Proofs.Ytmlfpfmpoigfiaa.flowPc Go.Proofs.Ytmlfpfmpoigfiaa.flowPd Go.Proofs.Ytmlfpfmpoigfiaa.flowZ Go.Proofs.Ytmlfpfmpoigfiaa.flowKa Go.Proofs.Ytmlfpfmpoigfiaa.flowPe
set_option linter.unusedVariables false

set_option maxRecDepth 100000 in
set_option maxHeartbeats 8000000 in
theorem step_drop {B : Nat} {w0 w : World} {ta r : Nat} {v lv : Value} {n : Nat} {seed : Int} {l : List Ent} (kd : Int) (x : Ent) (A : Option Addr) (m cc : Nat) (hs : LawSt B w0 w ta r v n seed l lv) (hB : B ≤ w0.heap.size) (hn : 1 ≤ n) (hn2 : n ≤ 4096) (hs2 : List Int) (hk : 5 ≤ kd ∧ kd ≤ 7) (hm : hs2.length = m) (hmm : m ≤ 9223372036854775807) (hmc : m ≤ cc) (hcc : cc ≤ 9223372036854775807) (hri : RdI w B A hs2) (hBw : B ≤ w.heap.size) (hdr : ∀ (w2 : World) (vg : Value), B ≤ w2.heap.size → RdI w2 B A hs2 → Tab w2 ta r v n seed l → RdE w2 vg (l.filter (ggo kd x hs2)) → Apart ta r v vg → Calls Try.prog 39 #[.pointer (some ⟨ta, 0, none⟩), .agg (opc kd x A m cc), vg] w2 (DropPost w2 ta r v n seed l (ggo kd x hs2))) :
    Calls Try.prog 20 #[.pointer (some ⟨ta, 0, none⟩), lv, .int .i64 n, .agg (opc kd x A m cc)] w (StepPost B w0 ta r n seed) := by
  obtain ⟨w1, hw1⟩ : ∃ w1, w1 = w.alloc (.cells #[.int .i64 kd, .int .i64 x.x.pr, .bool x.x.s6, .int .u64 x.x.sh, .int .u64 x.x.sl, .bool x.x.d6, .int .u64 x.x.dh, .int .u64 x.x.dl, .int .i64 x.x.sp, .int .i64 x.x.dp, .int .i64 x.host, .int .i64 x.state, .int .i64 x.till, .slice A m cc] 57) := ⟨_, rfl⟩
  have hb1 : Below w.heap.size w w1 := hw1 ▸ (Below.refl w.heap.size w).alloc (Nat.le_refl _) _
  have hs1 := hs.far hb1 hB
  have HS1 := Lib.hid hs1
  have HK1 := Lib.hid (show Blk w1 w.heap.size 57 #[.int .i64 kd, .int .i64 x.x.pr, .bool x.x.s6, .int .u64 x.x.sh, .int .u64 x.x.sl, .bool x.x.d6, .int .u64 x.x.dh, .int .u64 x.x.dl, .int .i64 x.x.sp, .int .i64 x.x.dp, .int .i64 x.host, .int .i64 x.state, .int .i64 x.till, .slice A m cc] from hw1 ▸ Blk.new w _ _)
  have hl4 : l.length ≤ 4096 := Nat.le_trans hs.tab.tab.len hn2
  have HFI := Lib.hid (show Calls Try.prog 22 #[lv, .agg #[.int .i64 x.x.pr, .bool x.x.s6, .int .u64 x.x.sh, .int .u64 x.x.sl, .bool x.x.d6, .int .u64 x.x.dh, .int .u64 x.x.dl, .int .i64 x.x.sp, .int .i64 x.x.dp]] w1 _ from find_law x.x lv l w1 hs1.rd (by omega))
  have HU := Lib.hid hs.tab.tab.uniq
  have HLT := Lib.hid hs.lt
  have HB := Lib.hid hB
  have HW1 := Lib.hid (show w.heap.size < w1.heap.size from by rw [hw1]; simp)
  obtain ⟨LA, LC, hlv, hlc, hlc2, _⟩ := hs.rd
  unfold maxLen at hlc2
  subst hlv
  unfold opc
  clear hs hb1 hs1 hB
  go_enter Try.func20, Try.ntmps20
  go_wp2_with fail
  rw [← hw1]
  refine HFI.out.mono ?_
  rintro o w2 ⟨k, rfl, hb, hfd⟩
  have S2 := Lib.hid (HS1.out.far hb HB.out)
  have HB2 := Lib.hid (show Below w.heap.size w w2 from by
    have h1 : Below w.heap.size w w1 := hw1 ▸ (Below.refl w.heap.size w).alloc (Nat.le_refl _) _
    exact h1.trans (hb.mono h1.size))
  have K2 := Lib.hid (show Blk w2 w.heap.size 57 #[.int .i64 kd, .int .i64 x.x.pr, .bool x.x.s6, .int .u64 x.x.sh, .int .u64 x.x.sl, .bool x.x.d6, .int .u64 x.x.dh, .int .u64 x.x.dl, .int .i64 x.x.sp, .int .i64 x.x.dp, .int .i64 x.host, .int .i64 x.state, .int .i64 x.till, .slice A m cc] from (hb.block _ HK1.out.lt).trans HK1.out)
  have HW2 := Lib.hid (show w.heap.size < w2.heap.size from Nat.lt_of_lt_of_le HW1.out hb.size)
  clear hb hw1 HFI HS1 HK1
  obtain ⟨i0, hi0, hz0, hz1, hz2⟩ := info_parts info_e
  have HI0 := Lib.hid hi0
  have HZ0 := Lib.hid hz0
  have HZ1 := Lib.hid hz1
  have HZ2 := Lib.hid hz2
  clear hi0 hz0 hz1 hz2
  have HRI := Lib.hid hri
  have HDR := Lib.hid hdr
  have t1 : decide (5 ≤ kd) = true := decide_eq_true hk.1
  have t2 : decide (kd ≤ 7) = true := decide_eq_true hk.2
  have HRI2 := Lib.hid (show ∀ w', Below w2.heap.size w2 w' → RdI w' B A hs2 ∧ B ≤ w'.heap.size from fun w' hb => ⟨hri.below ((HB2.out.trans (hb.mono HB2.out.size)).mono hBw), Nat.le_trans (Nat.le_trans hBw HB2.out.size) hb.size⟩)
  have HGO := Lib.hid (show ∀ (e : Ent) (w' : World), Below w2.heap.size w2 w' → Calls Try.prog 38 #[.agg #[.int .i64 kd, .int .i64 x.x.pr, .bool x.x.s6, .int .u64 x.x.sh, .int .u64 x.x.sl, .bool x.x.d6, .int .u64 x.x.dh, .int .u64 x.x.dl, .int .i64 x.x.sp, .int .i64 x.x.dp, .int .i64 x.host, .int .i64 x.state, .int .i64 x.till, .slice A m cc], .agg #[.int .i64 e.x.pr, .bool e.x.s6, .int .u64 e.x.sh, .int .u64 e.x.sl, .bool e.x.d6, .int .u64 e.x.dh, .int .u64 e.x.dl, .int .i64 e.x.sp, .int .i64 e.x.dp, .int .i64 e.host, .int .i64 e.state, .int .i64 e.till]] w' fun o w'' => o = .returned (.bool (ggo kd x hs2 e)) ∧ Below w2.heap.size w2 w'' from fun e w' hb => (goes_law kd x e A m cc hs2 w' hm hmm ((HRI2.out w' hb).1.more (HRI2.out w' hb).2) hmc hcc).mono fun o w'' ⟨a, b⟩ => ⟨a, hb.trans (b.mono hb.size)⟩)
  have K2b := Lib.hid (show ∀ w', Below w2.heap.size w2 w' → Blk w' w.heap.size 57 #[.int .i64 kd, .int .i64 x.x.pr, .bool x.x.s6, .int .u64 x.x.sh, .int .u64 x.x.sl, .bool x.x.d6, .int .u64 x.x.dh, .int .u64 x.x.dl, .int .i64 x.x.sp, .int .i64 x.x.dp, .int .i64 x.host, .int .i64 x.state, .int .i64 x.till, .slice A m cc] from fun w' hb => (hb.block _ K2.out.lt).trans K2.out)
  have p0 := K2.out.cell 0
  have p1 : w2.cell? ⟨w.heap.size, 1, none⟩ = some (.int .i64 x.x.pr) := K2.out.cell 1
  have p2 : w2.cell? ⟨w.heap.size, 2, none⟩ = some (.bool x.x.s6) := K2.out.cell 2
  have p3 : w2.cell? ⟨w.heap.size, 3, none⟩ = some (.int .u64 x.x.sh) := K2.out.cell 3
  have p4 : w2.cell? ⟨w.heap.size, 4, none⟩ = some (.int .u64 x.x.sl) := K2.out.cell 4
  have p5 : w2.cell? ⟨w.heap.size, 5, none⟩ = some (.bool x.x.d6) := K2.out.cell 5
  have p6 : w2.cell? ⟨w.heap.size, 6, none⟩ = some (.int .u64 x.x.dh) := K2.out.cell 6
  have p7 : w2.cell? ⟨w.heap.size, 7, none⟩ = some (.int .u64 x.x.dl) := K2.out.cell 7
  have p8 : w2.cell? ⟨w.heap.size, 8, none⟩ = some (.int .i64 x.x.sp) := K2.out.cell 8
  have p9 : w2.cell? ⟨w.heap.size, 9, none⟩ = some (.int .i64 x.x.dp) := K2.out.cell 9
  have p10 : w2.cell? ⟨w.heap.size, 10, none⟩ = some (.int .i64 x.host) := K2.out.cell 10
  have p11 : w2.cell? ⟨w.heap.size, 11, none⟩ = some (.int .i64 x.state) := K2.out.cell 11
  have p12 : w2.cell? ⟨w.heap.size, 12, none⟩ = some (.int .i64 x.till) := K2.out.cell 12
  have p13 : w2.cell? ⟨w.heap.size, 13, none⟩ = some (.slice A m cc) := K2.out.cell 13
  clear hk hri hdr hBw hfd
  go_wp2_with fail
  go_loopw [11, 12, 13] (fun out gone i wr => ∃ j : Nat, i = .int .i64 j ∧ j ≤ l.length ∧ Own wr w2.heap.size out ((l.take j).filter (fun e => !ggo kd x hs2 e)) ∧ Own wr w2.heap.size gone ((l.take j).filter (ggo kd x hs2)) ∧ (∀ k, out.ownBlock = some k → gone.ownBlock ≠ some k) ∧ Below w2.heap.size w2 wr) (fun _ _ i _ => l.length - (intOf i).toNat)
  case atStart => exact ⟨0, rfl, by omega, Own.nil _ _, Own.nil _ _, (fun k hk => (by cases hk)), Below.refl _ _⟩
  case round =>
    obtain ⟨j, rfl, hj, ho1, ho2, hap, hbel⟩ := hrel
    have O1 := Lib.hid ho1
    have O2 := Lib.hid ho2
    have HAP := Lib.hid hap
    have KB := Lib.hid hbel
    clear ho1 ho2 hap hbel p0 p1 p2 p3 p4 p5 p6 p7 p8 p9 p10 p11 p12 p13
    by_cases hjn : j < l.length
    · have t5 : decide ((j : Int) < l.length) = true := decide_eq_true (by omega)
      have t6 : decide (j < l.length) = true := decide_eq_true hjn
      have R2 := S2.out.rd.below KB.out
      obtain ⟨b, c, hvb, _, _, hbl, hC⟩ := RdE.at_ R2 j hjn
      obtain ⟨rfl, rfl⟩ : LA = some ⟨b, 0, none⟩ ∧ LC = c := by injection hvb with a b c; exact ⟨a, c⟩
      clear hvb
      obtain ⟨e, he⟩ : ∃ e, e = l[j] := ⟨_, rfl⟩
      rw [← he] at hC
      have hfr : ∀ W : World, Below wr.heap.size wr W → (W.cell? ⟨w.heap.size, 0, none⟩ = some (.int .i64 kd) ∧ W.cell? ⟨w.heap.size, 1, none⟩ = some (.int .i64 x.x.pr) ∧ W.cell? ⟨w.heap.size, 2, none⟩ = some (.bool x.x.s6) ∧ W.cell? ⟨w.heap.size, 3, none⟩ = some (.int .u64 x.x.sh) ∧ W.cell? ⟨w.heap.size, 4, none⟩ = some (.int .u64 x.x.sl) ∧ W.cell? ⟨w.heap.size, 5, none⟩ = some (.bool x.x.d6) ∧ W.cell? ⟨w.heap.size, 6, none⟩ = some (.int .u64 x.x.dh) ∧ W.cell? ⟨w.heap.size, 7, none⟩ = some (.int .u64 x.x.dl) ∧ W.cell? ⟨w.heap.size, 8, none⟩ = some (.int .i64 x.x.sp) ∧ W.cell? ⟨w.heap.size, 9, none⟩ = some (.int .i64 x.x.dp) ∧ W.cell? ⟨w.heap.size, 10, none⟩ = some (.int .i64 x.host) ∧ W.cell? ⟨w.heap.size, 11, none⟩ = some (.int .i64 x.state) ∧ W.cell? ⟨w.heap.size, 12, none⟩ = some (.int .i64 x.till) ∧ W.cell? ⟨w.heap.size, 13, none⟩ = some (.slice A m cc) ∧ W.cell? ⟨b, j * 12, none⟩ = some (.int .i64 e.x.pr) ∧ W.cell? ⟨b, j * 12 + 1, none⟩ = some (.bool e.x.s6) ∧ W.cell? ⟨b, j * 12 + 2, none⟩ = some (.int .u64 e.x.sh) ∧ W.cell? ⟨b, j * 12 + 3, none⟩ = some (.int .u64 e.x.sl) ∧ W.cell? ⟨b, j * 12 + 4, none⟩ = some (.bool e.x.d6) ∧ W.cell? ⟨b, j * 12 + 5, none⟩ = some (.int .u64 e.x.dh) ∧ W.cell? ⟨b, j * 12 + 6, none⟩ = some (.int .u64 e.x.dl) ∧ W.cell? ⟨b, j * 12 + 7, none⟩ = some (.int .i64 e.x.sp) ∧ W.cell? ⟨b, j * 12 + 8, none⟩ = some (.int .i64 e.x.dp) ∧ W.cell? ⟨b, j * 12 + 9, none⟩ = some (.int .i64 e.host) ∧ W.cell? ⟨b, j * 12 + 10, none⟩ = some (.int .i64 e.state) ∧ W.cell? ⟨b, j * 12 + 11, none⟩ = some (.int .i64 e.till)) := fun W hb => by
        have hbW := KB.out.trans (hb.mono KB.out.size)
        have h1 := K2b.out W hbW
        have e9 : ∀ i, W.cell? ⟨b, i, none⟩ = wr.cell? ⟨b, i, none⟩ := fun i => by
          unfold World.cell?
          rw [hb.block b hbl]
        refine ⟨h1.cell 0, h1.cell 1, h1.cell 2, h1.cell 3, h1.cell 4, h1.cell 5, h1.cell 6, h1.cell 7, h1.cell 8, h1.cell 9, h1.cell 10, h1.cell 11, h1.cell 12, h1.cell 13, ?_, ?_, ?_, ?_, ?_, ?_, ?_, ?_, ?_, ?_, ?_, ?_⟩ <;> rw [e9]
        · exact hC 0 (by omega)
        · exact hC 1 (by omega)
        · exact hC 2 (by omega)
        · exact hC 3 (by omega)
        · exact hC 4 (by omega)
        · exact hC 5 (by omega)
        · exact hC 6 (by omega)
        · exact hC 7 (by omega)
        · exact hC 8 (by omega)
        · exact hC 9 (by omega)
        · exact hC 10 (by omega)
        · exact hC 11 (by omega)
      have HFR := Lib.hid hfr
      have BD := Lib.hid (KB.out.drew)
      have s0 := hfr _ ((Below.refl wr.heap.size wr).drew)
      have HGE := Lib.hid (HGO.out e wr.drew BD.out)
      have HGE2 := Lib.hid (show Calls Try.prog 38 #[.agg #[.int .i64 kd, .int .i64 x.x.pr, .bool x.x.s6, .int .u64 x.x.sh, .int .u64 x.x.sl, .bool x.x.d6, .int .u64 x.x.dh, .int .u64 x.x.dl, .int .i64 x.x.sp, .int .i64 x.x.dp, .int .i64 x.host, .int .i64 x.state, .int .i64 x.till, .slice A m cc], .agg #[.int .i64 e.x.pr, .bool e.x.s6, .int .u64 e.x.sh, .int .u64 e.x.sl, .bool e.x.d6, .int .u64 e.x.dh, .int .u64 e.x.dl, .int .i64 e.x.sp, .int .i64 e.x.dp, .int .i64 e.host, .int .i64 e.state, .int .i64 e.till]] wr.drew fun o w'' => o = .returned (.bool (ggo kd x hs2 e)) ∧ Below wr.heap.size wr w'' from (goes_law kd x e A m cc hs2 wr.drew hm hmm ((HRI2.out _ BD.out).1.more (HRI2.out _ BD.out).2) hmc hcc).mono fun o w'' ⟨a, b⟩ => ⟨a, (Below.refl wr.heap.size wr).drew.trans b⟩)
      have j0 : (0 : Int) ≤ j := by omega
      have j1 : (j : Int) < l.length := by omega
      have HE := Lib.hid he
      have HTK := Lib.hid (show l.take (j + 1) = l.take j ++ [e] from by rw [List.take_add_one, List.getElem?_eq_getElem hjn, ← he]; rfl)
      obtain ⟨q, hq⟩ : ∃ q, q = ggo kd x hs2 e := ⟨_, rfl⟩
      have HQ := Lib.hid hq
      rw [← hq] at HGE2
      clear hC he hfr hq HGE
      go_wp2_with fail
      go_region_held3 (fun w' => w'.cell? ⟨w.heap.size, 0, none⟩ = some (.int .i64 kd) ∧ w'.cell? ⟨w.heap.size, 1, none⟩ = some (.int .i64 x.x.pr) ∧ w'.cell? ⟨w.heap.size, 2, none⟩ = some (.bool x.x.s6) ∧ w'.cell? ⟨w.heap.size, 3, none⟩ = some (.int .u64 x.x.sh) ∧ w'.cell? ⟨w.heap.size, 4, none⟩ = some (.int .u64 x.x.sl) ∧ w'.cell? ⟨w.heap.size, 5, none⟩ = some (.bool x.x.d6) ∧ w'.cell? ⟨w.heap.size, 6, none⟩ = some (.int .u64 x.x.dh) ∧ w'.cell? ⟨w.heap.size, 7, none⟩ = some (.int .u64 x.x.dl) ∧ w'.cell? ⟨w.heap.size, 8, none⟩ = some (.int .i64 x.x.sp) ∧ w'.cell? ⟨w.heap.size, 9, none⟩ = some (.int .i64 x.x.dp) ∧ w'.cell? ⟨w.heap.size, 10, none⟩ = some (.int .i64 x.host) ∧ w'.cell? ⟨w.heap.size, 11, none⟩ = some (.int .i64 x.state) ∧ w'.cell? ⟨w.heap.size, 12, none⟩ = some (.int .i64 x.till) ∧ w'.cell? ⟨w.heap.size, 13, none⟩ = some (.slice A m cc) ∧ w'.cell? ⟨b, j * 12, none⟩ = some (.int .i64 e.x.pr) ∧ w'.cell? ⟨b, j * 12 + 1, none⟩ = some (.bool e.x.s6) ∧ w'.cell? ⟨b, j * 12 + 2, none⟩ = some (.int .u64 e.x.sh) ∧ w'.cell? ⟨b, j * 12 + 3, none⟩ = some (.int .u64 e.x.sl) ∧ w'.cell? ⟨b, j * 12 + 4, none⟩ = some (.bool e.x.d6) ∧ w'.cell? ⟨b, j * 12 + 5, none⟩ = some (.int .u64 e.x.dh) ∧ w'.cell? ⟨b, j * 12 + 6, none⟩ = some (.int .u64 e.x.dl) ∧ w'.cell? ⟨b, j * 12 + 7, none⟩ = some (.int .i64 e.x.sp) ∧ w'.cell? ⟨b, j * 12 + 8, none⟩ = some (.int .i64 e.x.dp) ∧ w'.cell? ⟨b, j * 12 + 9, none⟩ = some (.int .i64 e.host) ∧ w'.cell? ⟨b, j * 12 + 10, none⟩ = some (.int .i64 e.state) ∧ w'.cell? ⟨b, j * 12 + 11, none⟩ = some (.int .i64 e.till)) (assumption)
        (first
          | (go_at_call 38
             (with_reducible refine HGE2.out.mono ?_)
             rintro o w5 ⟨rfl, hb⟩
             have s5 := HFR.out _ hb
             have B5 := Lib.hid hb
             clear hb))
      have O15 := Lib.hid (O1.out.far (fun k hk => B5.out.block k (O1.out.lt k hk).2) : Own w5 w2.heap.size _ _)
      have O25 := Lib.hid (O2.out.far (fun k hk => B5.out.block k (O2.out.lt k hk).2) : Own w5 w2.heap.size _ _)
      have BB5 := Lib.hid (KB.out.trans (B5.out.mono KB.out.size))
      obtain ⟨_, _, _, _, _, _, _, _, _, _, _, _, _, _, d0, d1, d2, d3, d4, d5, d6, d7, d8, d9, d10, d11⟩ := s5
      have hfl1 := List.length_filter_le (fun e => !ggo kd x hs2 e) (l.take j)
      have hfl2 := List.length_filter_le (ggo kd x hs2) (l.take j)
      have htl : (l.take j).length ≤ 4096 := by rw [List.length_take]; omega
      cases q
      · have HN1 := Lib.hid (show (l.take (j + 1)).filter (fun e => !ggo kd x hs2 e) = (l.take j).filter (fun e => !ggo kd x hs2 e) ++ [e] from by
          rw [HTK.out, List.filter_append]
          simp [← HQ.out])
        have HN2 := Lib.hid (show (l.take (j + 1)).filter (ggo kd x hs2) = (l.take j).filter (ggo kd x hs2) from by
          rw [HTK.out, List.filter_append]
          simp [← HQ.out])
        have KO2 := Lib.hid (O15.out.alloc (.cells #[.int .i64 e.x.pr, .bool e.x.s6, .int .u64 e.x.sh, .int .u64 e.x.sl, .bool e.x.d6, .int .u64 e.x.dh, .int .u64 e.x.dl, .int .i64 e.x.sp, .int .i64 e.x.dp, .int .i64 e.host, .int .i64 e.state, .int .i64 e.till] 33))
        have HNE := Lib.hid (show ∀ j u, e.cells.toList[j]? = some u → (w5.alloc (.cells #[.int .i64 e.x.pr, .bool e.x.s6, .int .u64 e.x.sh, .int .u64 e.x.sl, .bool e.x.d6, .int .u64 e.x.dh, .int .u64 e.x.dl, .int .i64 e.x.sp, .int .i64 e.x.dp, .int .i64 e.host, .int .i64 e.state, .int .i64 e.till] 33)).cell? ((⟨w5.heap.size, 0, none⟩ : Addr).add j) = some u from fun j u hu => by
          rw [Addr.add_lit, Nat.zero_add, (Blk.new w5 _ _).cell j]
          have h2 : e.cells[j]? = some u := by simpa using hu
          exact h2)
        have P1 := Lib.hid (show ((l.take j).filter (fun e => !ggo kd x hs2 e)).length + 1 ≤ maxLen by unfold maxLen; omega)
        have P2 := Lib.hid (show (((l.take j).filter (fun e => !ggo kd x hs2 e)).length + 1) * 96 ≤ 140737488355328 by omega)
        have P3 := Lib.hid (show w2.heap.size ≤ (w5.alloc (.cells #[.int .i64 e.x.pr, .bool e.x.s6, .int .u64 e.x.sh, .int .u64 e.x.sl, .bool e.x.d6, .int .u64 e.x.dh, .int .u64 e.x.dl, .int .i64 e.x.sp, .int .i64 e.x.dp, .int .i64 e.host, .int .i64 e.state, .int .i64 e.till] 33)).heap.size from (BB5.out.alloc BB5.out.size _).size)
        clear hfl1 hfl2 htl
        go_wp2_with (at_builtin; refine wpList_append_new _ rfl (.tmp 50) (.tmp 55) _ rfl w2.heap.size 33 i0 _ 12 96 Try.underlying39 HI0.out HZ0.out HZ1.out HZ2.out rfl (by omega) _ ((l.take j).filter (fun e => !ggo kd x hs2 e)).length (flat ((l.take j).filter (fun e => !ggo kd x hs2 e))) rfl KO2.out ⟨w5.heap.size, 0, none⟩ 1 1 e.cells.toList rfl (Nat.le_refl 1) rfl HNE.out (one_el _) P1.out P2.out P3.out ?_; intro v6 w6 ho hg hgg; have HO1 := Lib.hid (show Own w6 w2.heap.size v6 ((l.take j).filter (fun e => !ggo kd x hs2 e) ++ [e]) by (have := ho; rw [← flat_snoc] at this; simpa [Own] using this)); have HG1 := Lib.hid hg; have HGG := Lib.hid hgg; clear ho hg hgg)
        have hne := HAP.out
        have O2n := Lib.hid (((O25.out.alloc (.cells #[.int .i64 e.x.pr, .bool e.x.s6, .int .u64 e.x.sh, .int .u64 e.x.sl, .bool e.x.d6, .int .u64 e.x.dh, .int .u64 e.x.dl, .int .i64 e.x.sp, .int .i64 e.x.dp, .int .i64 e.host, .int .i64 e.state, .int .i64 e.till] 33)).far (fun k hk => HG1.out.block k (((O25.out.alloc (.cells #[.int .i64 e.x.pr, .bool e.x.s6, .int .u64 e.x.sh, .int .u64 e.x.sl, .bool e.x.d6, .int .u64 e.x.dh, .int .u64 e.x.dl, .int .i64 e.x.sp, .int .i64 e.x.dp, .int .i64 e.host, .int .i64 e.state, .int .i64 e.till] 33)).lt k hk).2) (fun e2 => hne k e2.symm hk))))
        have BN := Lib.hid ((BB5.out.alloc BB5.out.size (.cells #[.int .i64 e.x.pr, .bool e.x.s6, .int .u64 e.x.sh, .int .u64 e.x.sl, .bool e.x.d6, .int .u64 e.x.dh, .int .u64 e.x.dl, .int .i64 e.x.sp, .int .i64 e.x.dp, .int .i64 e.host, .int .i64 e.state, .int .i64 e.till] 33)).grown HG1.out P3.out (fun k hk => (O15.out.lt k hk).1))
        have HAPN := Lib.hid (show ∀ k, v6.ownBlock = some k → u12.ownBlock ≠ some k from fun k hk e2 => by
            rcases HGG.out k hk with h | h
            · exact HAP.out k h e2
            · have := (O25.out.lt k e2).2
              simp at h
              omega)
        clear hne
        go_roundw
        case rel => exact ⟨j + 1, by go_num, by omega, by rw [HN1.out]; exact HO1.out, by rw [HN2.out]; exact O2n.out, HAPN.out, BN.out⟩
        case measure => simp [intOf]; omega
      · have HN1 := Lib.hid (show (l.take (j + 1)).filter (fun e => !ggo kd x hs2 e) = (l.take j).filter (fun e => !ggo kd x hs2 e) from by
          rw [HTK.out, List.filter_append]
          simp [← HQ.out])
        have HN2 := Lib.hid (show (l.take (j + 1)).filter (ggo kd x hs2) = (l.take j).filter (ggo kd x hs2) ++ [e] from by
          rw [HTK.out, List.filter_append]
          simp [← HQ.out])
        have KO2 := Lib.hid (O25.out.alloc (.cells #[.int .i64 e.x.pr, .bool e.x.s6, .int .u64 e.x.sh, .int .u64 e.x.sl, .bool e.x.d6, .int .u64 e.x.dh, .int .u64 e.x.dl, .int .i64 e.x.sp, .int .i64 e.x.dp, .int .i64 e.host, .int .i64 e.state, .int .i64 e.till] 33))
        have HNE := Lib.hid (show ∀ j u, e.cells.toList[j]? = some u → (w5.alloc (.cells #[.int .i64 e.x.pr, .bool e.x.s6, .int .u64 e.x.sh, .int .u64 e.x.sl, .bool e.x.d6, .int .u64 e.x.dh, .int .u64 e.x.dl, .int .i64 e.x.sp, .int .i64 e.x.dp, .int .i64 e.host, .int .i64 e.state, .int .i64 e.till] 33)).cell? ((⟨w5.heap.size, 0, none⟩ : Addr).add j) = some u from fun j u hu => by
          rw [Addr.add_lit, Nat.zero_add, (Blk.new w5 _ _).cell j]
          have h2 : e.cells[j]? = some u := by simpa using hu
          exact h2)
        have P1 := Lib.hid (show ((l.take j).filter (ggo kd x hs2)).length + 1 ≤ maxLen by unfold maxLen; omega)
        have P2 := Lib.hid (show (((l.take j).filter (ggo kd x hs2)).length + 1) * 96 ≤ 140737488355328 by omega)
        have P3 := Lib.hid (show w2.heap.size ≤ (w5.alloc (.cells #[.int .i64 e.x.pr, .bool e.x.s6, .int .u64 e.x.sh, .int .u64 e.x.sl, .bool e.x.d6, .int .u64 e.x.dh, .int .u64 e.x.dl, .int .i64 e.x.sp, .int .i64 e.x.dp, .int .i64 e.host, .int .i64 e.state, .int .i64 e.till] 33)).heap.size from (BB5.out.alloc BB5.out.size _).size)
        clear hfl1 hfl2 htl
        go_wp2_with (at_builtin; refine wpList_append_new _ rfl (.tmp 43) (.tmp 48) _ rfl w2.heap.size 33 i0 _ 12 96 Try.underlying39 HI0.out HZ0.out HZ1.out HZ2.out rfl (by omega) _ ((l.take j).filter (ggo kd x hs2)).length (flat ((l.take j).filter (ggo kd x hs2))) rfl KO2.out ⟨w5.heap.size, 0, none⟩ 1 1 e.cells.toList rfl (Nat.le_refl 1) rfl HNE.out (one_el _) P1.out P2.out P3.out ?_; intro v6 w6 ho hg hgg; have HO1 := Lib.hid (show Own w6 w2.heap.size v6 ((l.take j).filter (ggo kd x hs2) ++ [e]) by (have := ho; rw [← flat_snoc] at this; simpa [Own] using this)); have HG1 := Lib.hid hg; have HGG := Lib.hid hgg; clear ho hg hgg)
        have hne := HAP.out
        have O2n := Lib.hid (((O15.out.alloc (.cells #[.int .i64 e.x.pr, .bool e.x.s6, .int .u64 e.x.sh, .int .u64 e.x.sl, .bool e.x.d6, .int .u64 e.x.dh, .int .u64 e.x.dl, .int .i64 e.x.sp, .int .i64 e.x.dp, .int .i64 e.host, .int .i64 e.state, .int .i64 e.till] 33)).far (fun k hk => HG1.out.block k (((O15.out.alloc (.cells #[.int .i64 e.x.pr, .bool e.x.s6, .int .u64 e.x.sh, .int .u64 e.x.sl, .bool e.x.d6, .int .u64 e.x.dh, .int .u64 e.x.dl, .int .i64 e.x.sp, .int .i64 e.x.dp, .int .i64 e.host, .int .i64 e.state, .int .i64 e.till] 33)).lt k hk).2) (fun e2 => hne k hk e2.symm))))
        have BN := Lib.hid ((BB5.out.alloc BB5.out.size (.cells #[.int .i64 e.x.pr, .bool e.x.s6, .int .u64 e.x.sh, .int .u64 e.x.sl, .bool e.x.d6, .int .u64 e.x.dh, .int .u64 e.x.dl, .int .i64 e.x.sp, .int .i64 e.x.dp, .int .i64 e.host, .int .i64 e.state, .int .i64 e.till] 33)).grown HG1.out P3.out (fun k hk => (O25.out.lt k hk).1))
        have HAPN := Lib.hid (show ∀ k, u11.ownBlock = some k → v6.ownBlock ≠ some k from fun k hk e2 => by
            rcases HGG.out k e2 with h | h
            · exact HAP.out k hk h
            · have := (O15.out.lt k hk).2
              simp at h
              omega)
        clear hne
        go_roundw
        case rel => exact ⟨j + 1, by go_num, by omega, by rw [HN1.out]; exact O2n.out, by rw [HN2.out]; exact HO1.out, HAPN.out, BN.out⟩
        case measure => simp [intOf]; omega
    · have t5 : decide ((j : Int) < l.length) = false := decide_eq_false (by omega)
      have t6 : decide (j < l.length) = false := decide_eq_false hjn
      have hjl : l.take j = l := List.take_of_length_le (by omega)
      rw [hjl] at O1 O2
      have hb := K2b.out wr KB.out
      have HLT2 := Lib.hid S2.out.lt
      have TR := Lib.hid (S2.out.tab.far KB.out HB.out)
      have HAPG := Lib.hid (apart_own HLT2.out O2.out)
      have HAPO := Lib.hid (apart_own HLT2.out O1.out)
      have HDD := Lib.hid (HDR.out wr _ (HRI2.out wr KB.out).2 (HRI2.out wr KB.out).1 TR.out.tab (RdE.of_own O2.out) HAPG.out)
      have p0 := hb.cell 0
      have p1 := hb.cell 1
      have p2 := hb.cell 2
      have p3 := hb.cell 3
      have p4 := hb.cell 4
      have p5 := hb.cell 5
      have p6 := hb.cell 6
      have p7 := hb.cell 7
      have p8 := hb.cell 8
      have p9 := hb.cell 9
      have p10 := hb.cell 10
      have p11 := hb.cell 11
      have p12 := hb.cell 12
      have p13 := hb.cell 13
      clear hb hjl
      unfold opc at HDD
      go_wp2_with fail
      refine HDD.out.mono ?_
      rintro o w7 ⟨rfl, ht7, hf7⟩
      have S7 := Lib.hid (show LawSt B w0 w7 ta r v n seed _ u11 from ⟨⟨ht7, TR.out.frm hf7 HB.out, TR.out.h1, TR.out.h2, TR.out.h3⟩, RdE.frm (RdE.of_own O1.out) hf7 HAPO.out, HAPO.out⟩)
      clear ht7 hf7
      go_wp2_with fail
      refine bodyPost_ret (results_tmp2 rfl _ _ _) rfl ⟨v, _, _, rfl, S7.out⟩
end Go.Proofs.Ytmlfpfmpoigfiaa.flowPh
