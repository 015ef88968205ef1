/- Layer 27: the law of FlowPlays. -/
import Derived.Test.YtmlfpfmpoigfiaaFlowPf
import Derived.Test.YtmlfpfmpoigfiaaFlowPg
import Derived.Test.YtmlfpfmpoigfiaaFlowPh
namespace Go.Proofs.Ytmlfpfmpoigfiaa.flowPi
open Go.ChangeShapes Go.WideShapes Go.ChangeAt Go.RowKit
open Go.Proofs.Ytmlfpfmpoigfiaa.base Go.Proofs.Ytmlfpfmpoigfiaa.flowA Go.Proofs.Ytmlfpfmpoigfiaa.flowB Go.Proofs.Ytmlfpfmpoigfiaa.flowC Go.Proofs.Ytmlfpfmpoigfiaa.flowD Go.Proofs.Ytmlfpfmpoigfiaa.flowE Go.Proofs.Ytmlfpfmpoigfiaa.flowF Go.Proofs.Ytmlfpfmpoigfiaa.flowG Go.Proofs.Ytmlfpfmpoigfiaa.flowH Go.Proofs.Ytmlfpfmpoigfiaa.flowI Go.Proofs.Ytmlfpfmpoigfiaa.flowL Go.Proofs.Ytmlfpfmpoigfiaa.flowM Go.Proofs.Ytmlfpfmpoigfiaa.flowN Go.Proofs.Ytmlfpfmpoigfiaa.flowO Go.Proofs.Ytmlfpfmpoigfiaa.flowP Go.Proofs.Ytmlfpfmpoigfiaa.flowQ Go.Proofs.Ytmlfpfmpoigfiaa.flowR Go.Proofs.Ytmlfpfmpoigfiaa.flowS Go.Proofs.Ytmlfpfmpoigfiaa.flowT Go.Proofs.Ytmlfpfmpoigfiaa.flowU Go.Proofs.Ytmlfpfmpoigfiaa.flowV Go.Proofs.Ytmlfpfmpoigfiaa.flowW Go.Proofs.Ytmlfpfmpoigfiaa.flowX Go.Proofs.Ytmlfpfmpoigfiaa.flowY Go.Proofs.Ytmlfpfmpoigfiaa.flowGo Go.Proofs.Ytmlfpfmpoigfiaa.flowGp Go.Proofs.Ytmlfpfmpoigfiaa.flowPa Go.Proofs.Ytmlfpfmpoigfiaa.flowPb Go.Proofs.Ytmlfpfmpoigfiaa.flowPc Go.Proofs.Ytmlfpfmpoigfiaa.flowPd Go.Proofs.Ytmlfpfmpoigfiaa.flowZ Go.Proofs.Ytmlfpfmpoigfiaa.flowKa Go.Proofs.Ytmlfpfmpoigfiaa.flowPe Go.Proofs.Ytmlfpfmpoigfiaa.flowPf Go.Proofs.Ytmlfpfmpoigfiaa.flowPg Go.Proofs.Ytmlfpfmpoigfiaa.flowPh
set_option linter.unusedVariables false

theorem gg5 (x : Ent) (hs : List Int) : ggo 5 x hs = fun e => decide (e.till ≤ x.till) := by funext e; unfold ggo; rw [if_pos rfl]
theorem gg7 (x : Ent) (hs : List Int) : ggo 7 x hs = fun _ => true := by funext e; unfold ggo; rw [if_neg (by decide), if_pos rfl]
theorem gg6 (x : Ent) (hs : List Int) : ggo 6 x hs = fun e => (hs.take 30).contains e.host := by funext e; unfold ggo; rw [if_neg (by decide), if_neg (by decide)]
theorem step_law {B : Nat} {w0 w : World} {ta r : Nat} {v lv : Value} {n : Nat} {seed : Int} {l : List Ent} (kd : Int) (x : Ent) (A : Option Addr) (m cc : Nat) (hs2 : List Int) (hs : LawSt B w0 w ta r v n seed l lv) (hB : B ≤ w0.heap.size) (hn : 1 ≤ n) (hn2 : n ≤ 4096) (hm : hs2.length = m) (hmm : m ≤ 9223372036854775807) (hmc : m ≤ cc) (hcc : cc ≤ 9223372036854775807) (hri : RdI w B A hs2) (hBw : B ≤ w.heap.size) :
    Calls Try.prog 20 #[.pointer (some ⟨ta, 0, none⟩), lv, .int .i64 n, .agg (opc kd x A m cc)] w (StepPost B w0 ta r n seed) := by
  by_cases h3 : kd = 3
  · subst h3; exact step_touch x A m cc hs hB hn hn2
  by_cases h4 : kd = 4
  · subst h4; exact step_rem x A m cc hs hB hn hn2
  by_cases hlo : kd < 3
  · exact step_put_lo kd x A m cc hs hB hn hn2 hlo
  by_cases hhi : 7 < kd
  · exact step_put_hi kd x A m cc hs hB hn hn2 hhi
  refine step_drop kd x A m cc hs hB hn hn2 hs2 (by omega) hm hmm hmc hcc hri hBw ?_
  intro w2 vg hB2 hr2 ht hg ha
  have h5 : kd = 5 ∨ kd = 6 ∨ kd = 7 := by omega
  rcases h5 with rfl | rfl | rfl
  · rw [gg5] at hg ⊢
    exact drop5 x A m cc ht hn hn2 hg ha
  · rw [gg6] at hg ⊢
    by_cases h30 : m ≤ 30
    · rw [List.take_of_length_le (by omega)] at hg ⊢
      exact drop6 x A m cc hs2 B hm h30 hr2 hB2 hs.tab.h1 hs.tab.h2 hs.tab.h3 ht hn hn2 hg ha
    · rcases hr2 with h0 | ⟨b, off, hA, hb, hc⟩
      · rw [h0] at hm; simp at hm; omega
      · subst hA
        exact drop6b x b off m cc hs2 B hm (by omega) (.inr ⟨b, off, rfl, hb, hc⟩) hB2 hs.tab.h1 hs.tab.h2 hs.tab.h3 hmc hcc ht hn hn2 hg ha
  · rw [gg7] at hg ⊢
    exact drop7 x A m cc ht hn hn2 hg ha
/-- A call of the script. -/
structure OpR where
  kd : Int
  x : Ent
  A : Option Addr
  m : Nat
  cc : Nat
  hs : List Int
def OpR.cells (p : OpR) : Array Value := #[.int .i64 p.kd, .int .i64 p.x.x.pr, .bool p.x.x.s6, .int .u64 p.x.x.sh, .int .u64 p.x.x.sl, .bool p.x.x.d6, .int .u64 p.x.x.dh, .int .u64 p.x.x.dl, .int .i64 p.x.x.sp, .int .i64 p.x.x.dp, .int .i64 p.x.host, .int .i64 p.x.state, .int .i64 p.x.till, .slice p.A p.m p.cc]
def OpR.good (w : World) (p : OpR) : Prop := p.hs.length = p.m ∧ p.m ≤ p.cc ∧ p.cc ≤ 9223372036854775807 ∧ RdI w w.heap.size p.A p.hs
theorem plays_bad (most seed : Int) (A : Option Addr) (m c : Nat) (w : World) (h : most < 1 ∨ 4096 < most) :
    Calls Try.prog 5 #[.int .i64 most, .int .u64 seed, .slice A m c] w fun e w' => e = .returned (.bool true) ∧ Below w.heap.size w w' := by
  have HN := Lib.hid (new_bad most seed w h)
  have HAW := Lib.hid (fun w' => awake_any w')
  by_cases h1 : most < 1
  · have q1 : decide (most < 1) = true := decide_eq_true h1
    clear h
    go_enter Try.func5, Try.ntmps5
    go_wp2_with fail
    refine HN.out.mono ?_
    rintro o w2 ⟨rfl, hb⟩
    have HB := Lib.hid hb
    clear hb
    go_wp2_with fail
    refine (HAW.out _).mono ?_
    rintro o w3 ⟨rfl, hb⟩
    have HC := Lib.hid (show Below w.heap.size w w3 from by first | exact HB.out.trans (hb.mono HB.out.size) | exact HB.out.drew.trans (hb.mono HB.out.drew.size))
    clear hb
    go_wp2_with fail
    go_ret
    first | exact ⟨rfl, HC.out⟩ | exact ⟨rfl, HC.out.drew⟩
  · have q1 : decide (most < 1) = false := decide_eq_false h1
    have q2 : decide (4096 < most) = true := decide_eq_true (by omega)
    clear h
    go_enter Try.func5, Try.ntmps5
    go_wp2_with fail
    refine HN.out.mono ?_
    rintro o w2 ⟨rfl, hb⟩
    have HB := Lib.hid hb
    clear hb
    go_wp2_with fail
    refine (HAW.out _).mono ?_
    rintro o w3 ⟨rfl, hb⟩
    have HC := Lib.hid (show Below w.heap.size w w3 from by first | exact HB.out.trans (hb.mono HB.out.size) | exact HB.out.drew.trans (hb.mono HB.out.drew.size))
    clear hb
    go_wp2_with fail
    go_ret
    first | exact ⟨rfl, HC.out⟩ | exact ⟨rfl, HC.out.drew⟩
set_option maxRecDepth 100000 in
set_option maxHeartbeats 16000000 in
theorem plays_good (n : Nat) (seed : Int) (A : Option Addr) (m c : Nat) (fo : Nat → OpR) (w : World) (hn : 1 ≤ n) (hn2 : n ≤ 4096) (hmc : m ≤ c) (hc : c ≤ 9223372036854775807) (hrows : RowsOf w A m 14 (fun j => (fo j).cells.toList)) (hgood : ∀ j, j < m → (fo j).good w) :
    Calls Try.prog 5 #[.int .i64 n, .int .u64 seed, .slice A m c] w fun e w' => e = .returned (.bool true) ∧ Below w.heap.size w w' := by
  have HN := Lib.hid (new_good n seed w hn hn2)
  have HGD := Lib.hid hgood
  have HROW := Lib.hid hrows
  have q1 : decide ((n : Int) < 1) = false := decide_eq_false (by omega)
  have q2 : decide ((4096 : Int) < n) = false := decide_eq_false (by omega)
  clear hgood hrows
  go_enter Try.func5, Try.ntmps5
  go_wp2_with fail
  refine HN.out.mono ?_
  rintro o w1 ⟨ta, r, rfl, ht, h1, h2, hb⟩
  have S1 := Lib.hid (show LawSt w.heap.size w w1 ta r (.slice none 0 0) n seed [] (.slice none 0 0) from ⟨⟨ht, hb, h1, h2, fun g e => by cases e⟩, RdE.nil w1, fun k hk => by cases hk⟩)
  have HMO := Lib.hid (most_tab ht)
  clear ht h1 h2 hb HN
  go_wp2_with fail
  refine HMO.out.mono ?_
  rintro o w2 ⟨rfl, hb⟩
  have S2 := Lib.hid (S1.out.far hb (Nat.le_refl _))
  clear hb HMO S1
  go_wp2_with fail
  go_loopw [9, 10] (fun lv i wr => ∃ (j : Nat) (v : Value) (l : List Ent), i = .int .i64 j ∧ j ≤ m ∧ j ≤ 120 ∧ LawSt w.heap.size w wr ta r v n seed l lv) (fun _ i _ => 120 - (intOf i).toNat)
  case atStart => exact ⟨0, _, [], rfl, by omega, by omega, S2.out⟩
  case round =>
    obtain ⟨j, v, l, rfl, hj, hj2, hst⟩ := hrel
    have SR := Lib.hid hst
    clear hst
    by_cases hjm : j < m ∧ j < 120
    · obtain ⟨hj3, hj4⟩ := hjm
      have t1 : decide ((j : Int) < m) = true := decide_eq_true (by omega)
      have t2 : decide ((j : Int) < 120) = true := decide_eq_true (by omega)
      rcases HROW.out with h0 | ⟨sb, soff, hA, hsb, hcell⟩
      · omega
      subst hA
      obtain ⟨g1, g2, g3, g4⟩ := HGD.out j hj3
      have HSC := Lib.hid (show ∀ W, Below w.heap.size w W → ∀ i, i < 14 → W.cell? ⟨sb, soff + j * 14 + i, none⟩ = (fo j).cells[i]? from fun W hb i hi => by
        have := hcell j hj3 i hi
        rw [show ((fo j).cells.toList)[i]? = (fo j).cells[i]? by simp] at this
        rw [← this]
        unfold World.cell?
        rw [hb.block sb hsb])
      have HST := Lib.hid (show Calls Try.prog 20 #[.pointer (some ⟨ta, 0, none⟩), u9, .int .i64 n, .agg #[.int .i64 (fo j).kd, .int .i64 (fo j).x.x.pr, .bool (fo j).x.x.s6, .int .u64 (fo j).x.x.sh, .int .u64 (fo j).x.x.sl, .bool (fo j).x.x.d6, .int .u64 (fo j).x.x.dh, .int .u64 (fo j).x.x.dl, .int .i64 (fo j).x.x.sp, .int .i64 (fo j).x.x.dp, .int .i64 (fo j).x.host, .int .i64 (fo j).x.state, .int .i64 (fo j).x.till, .slice (fo j).A (fo j).m (fo j).cc]] wr (StepPost w.heap.size w ta r n seed) from step_law (fo j).kd (fo j).x (fo j).A (fo j).m (fo j).cc (fo j).hs SR.out (Nat.le_refl _) hn hn2 g1 (by omega) g2 g3 (g4.below SR.out.tab.bel) SR.out.tab.bel.size)
      have ca_0 : wr.cell? ⟨sb, soff + j * 14, none⟩ = some (.int .i64 (fo j).kd) := HSC.out _ SR.out.tab.bel 0 (by omega)
      have ca_1 : wr.cell? ⟨sb, soff + j * 14 + 1, none⟩ = some (.int .i64 (fo j).x.x.pr) := HSC.out _ SR.out.tab.bel 1 (by omega)
      have ca_2 : wr.cell? ⟨sb, soff + j * 14 + 2, none⟩ = some (.bool (fo j).x.x.s6) := HSC.out _ SR.out.tab.bel 2 (by omega)
      have ca_3 : wr.cell? ⟨sb, soff + j * 14 + 3, none⟩ = some (.int .u64 (fo j).x.x.sh) := HSC.out _ SR.out.tab.bel 3 (by omega)
      have ca_4 : wr.cell? ⟨sb, soff + j * 14 + 4, none⟩ = some (.int .u64 (fo j).x.x.sl) := HSC.out _ SR.out.tab.bel 4 (by omega)
      have ca_5 : wr.cell? ⟨sb, soff + j * 14 + 5, none⟩ = some (.bool (fo j).x.x.d6) := HSC.out _ SR.out.tab.bel 5 (by omega)
      have ca_6 : wr.cell? ⟨sb, soff + j * 14 + 6, none⟩ = some (.int .u64 (fo j).x.x.dh) := HSC.out _ SR.out.tab.bel 6 (by omega)
      have ca_7 : wr.cell? ⟨sb, soff + j * 14 + 7, none⟩ = some (.int .u64 (fo j).x.x.dl) := HSC.out _ SR.out.tab.bel 7 (by omega)
      have ca_8 : wr.cell? ⟨sb, soff + j * 14 + 8, none⟩ = some (.int .i64 (fo j).x.x.sp) := HSC.out _ SR.out.tab.bel 8 (by omega)
      have ca_9 : wr.cell? ⟨sb, soff + j * 14 + 9, none⟩ = some (.int .i64 (fo j).x.x.dp) := HSC.out _ SR.out.tab.bel 9 (by omega)
      have ca_10 : wr.cell? ⟨sb, soff + j * 14 + 10, none⟩ = some (.int .i64 (fo j).x.host) := HSC.out _ SR.out.tab.bel 10 (by omega)
      have ca_11 : wr.cell? ⟨sb, soff + j * 14 + 11, none⟩ = some (.int .i64 (fo j).x.state) := HSC.out _ SR.out.tab.bel 11 (by omega)
      have ca_12 : wr.cell? ⟨sb, soff + j * 14 + 12, none⟩ = some (.int .i64 (fo j).x.till) := HSC.out _ SR.out.tab.bel 12 (by omega)
      have ca_13 : wr.cell? ⟨sb, soff + j * 14 + 13, none⟩ = some (.slice (fo j).A (fo j).m (fo j).cc) := HSC.out _ SR.out.tab.bel 13 (by omega)
      have j0 : (0 : Int) ≤ j := by omega
      have j1 : (j : Int) < m := by omega
      clear hcell g1 g2 g3 g4
      go_wp2_with fail
      refine HST.out.mono ?_
      rintro o w3 ⟨v3, lv3, l3, rfl, hs3⟩
      have S3 := Lib.hid hs3
      have hl3 : l3.length ≤ 4096 := Nat.le_trans hs3.tab.tab.len hn2
      have HLE := Lib.hid (len_tab hs3.tab.tab)
      obtain ⟨LA, LC, hlv, hlc, hlc2, _⟩ := hs3.rd
      unfold maxLen at hlc2
      subst hlv
      clear hs3 HST ca_0 ca_1 ca_2 ca_3 ca_4 ca_5 ca_6 ca_7 ca_8 ca_9 ca_10 ca_11 ca_12 ca_13
      go_wp2_with fail
      refine HLE.out.mono ?_
      rintro o w4 ⟨rfl, hb⟩
      have S4 := Lib.hid (S3.out.far hb (Nat.le_refl _))
      have HAL := Lib.hid (all_tab S4.out.tab.tab hn hn2)
      clear hb HLE
      go_wp2_with fail
      refine HAL.out.mono ?_
      rintro o w5 ⟨v5, rfl, ho5, hb⟩
      have S5 := Lib.hid (S4.out.far hb (Nat.le_refl _))
      have HSA := Lib.hid (same_law v5 _ l3 w5 (RdE.of_own ho5) S5.out.rd (by omega))
      clear hb HAL ho5
      go_wp2_with fail
      refine HSA.out.mono ?_
      rintro o w6 ⟨rfl, hb⟩
      have S6 := Lib.hid (S5.out.far hb (Nat.le_refl _))
      have HGE := Lib.hid (show Calls Try.prog 6 #[.pointer (some ⟨ta, 0, none⟩), .agg #[.int .i64 (fo j).x.x.pr, .bool (fo j).x.x.s6, .int .u64 (fo j).x.x.sh, .int .u64 (fo j).x.x.sl, .bool (fo j).x.x.d6, .int .u64 (fo j).x.x.dh, .int .u64 (fo j).x.x.dl, .int .i64 (fo j).x.x.sp, .int .i64 (fo j).x.x.dp]] w6 _ from get_tab (fo j).x.x S6.out.tab.tab hn hn2)
      have cb_0 : w6.cell? ⟨sb, soff + j * 14, none⟩ = some (.int .i64 (fo j).kd) := HSC.out _ S6.out.tab.bel 0 (by omega)
      have cb_1 : w6.cell? ⟨sb, soff + j * 14 + 1, none⟩ = some (.int .i64 (fo j).x.x.pr) := HSC.out _ S6.out.tab.bel 1 (by omega)
      have cb_2 : w6.cell? ⟨sb, soff + j * 14 + 2, none⟩ = some (.bool (fo j).x.x.s6) := HSC.out _ S6.out.tab.bel 2 (by omega)
      have cb_3 : w6.cell? ⟨sb, soff + j * 14 + 3, none⟩ = some (.int .u64 (fo j).x.x.sh) := HSC.out _ S6.out.tab.bel 3 (by omega)
      have cb_4 : w6.cell? ⟨sb, soff + j * 14 + 4, none⟩ = some (.int .u64 (fo j).x.x.sl) := HSC.out _ S6.out.tab.bel 4 (by omega)
      have cb_5 : w6.cell? ⟨sb, soff + j * 14 + 5, none⟩ = some (.bool (fo j).x.x.d6) := HSC.out _ S6.out.tab.bel 5 (by omega)
      have cb_6 : w6.cell? ⟨sb, soff + j * 14 + 6, none⟩ = some (.int .u64 (fo j).x.x.dh) := HSC.out _ S6.out.tab.bel 6 (by omega)
      have cb_7 : w6.cell? ⟨sb, soff + j * 14 + 7, none⟩ = some (.int .u64 (fo j).x.x.dl) := HSC.out _ S6.out.tab.bel 7 (by omega)
      have cb_8 : w6.cell? ⟨sb, soff + j * 14 + 8, none⟩ = some (.int .i64 (fo j).x.x.sp) := HSC.out _ S6.out.tab.bel 8 (by omega)
      have cb_9 : w6.cell? ⟨sb, soff + j * 14 + 9, none⟩ = some (.int .i64 (fo j).x.x.dp) := HSC.out _ S6.out.tab.bel 9 (by omega)
      have cb_10 : w6.cell? ⟨sb, soff + j * 14 + 10, none⟩ = some (.int .i64 (fo j).x.host) := HSC.out _ S6.out.tab.bel 10 (by omega)
      have cb_11 : w6.cell? ⟨sb, soff + j * 14 + 11, none⟩ = some (.int .i64 (fo j).x.state) := HSC.out _ S6.out.tab.bel 11 (by omega)
      have cb_12 : w6.cell? ⟨sb, soff + j * 14 + 12, none⟩ = some (.int .i64 (fo j).x.till) := HSC.out _ S6.out.tab.bel 12 (by omega)
      have cb_13 : w6.cell? ⟨sb, soff + j * 14 + 13, none⟩ = some (.slice (fo j).A (fo j).m (fo j).cc) := HSC.out _ S6.out.tab.bel 13 (by omega)
      clear hb HSA S3 S4 S5
      go_wp2_with fail
      refine HGE.out.mono ?_
      rintro o w7 ⟨hb, ⟨rfl, hno⟩ | ⟨e, hel, hex, rfl⟩⟩
      · obtain ⟨w8, hw8⟩ : ∃ w8, w8 = w7.alloc (.cells #[.int .i64 0, .bool false, .int .u64 0, .int .u64 0, .bool false, .int .u64 0, .int .u64 0, .int .i64 0, .int .i64 0, .int .i64 0, .int .i64 0, .int .i64 0] 33) := ⟨_, rfl⟩
        have hb8 : Below w7.heap.size w7 w8 := hw8 ▸ (Below.refl w7.heap.size w7).alloc (Nat.le_refl _) _
        have S8 := Lib.hid ((S6.out.far hb (Nat.le_refl _)).far hb8 (Nat.le_refl _))
        have G8 := Lib.hid (show Blk w8 w7.heap.size 33 #[.int .i64 0, .bool false, .int .u64 0, .int .u64 0, .bool false, .int .u64 0, .int .u64 0, .int .i64 0, .int .i64 0, .int .i64 0, .int .i64 0, .int .i64 0] from hw8 ▸ Blk.new w7 _ _)
        have HFI := Lib.hid (show Calls Try.prog 22 #[.slice LA l3.length LC, .agg #[.int .i64 (fo j).x.x.pr, .bool (fo j).x.x.s6, .int .u64 (fo j).x.x.sh, .int .u64 (fo j).x.x.sl, .bool (fo j).x.x.d6, .int .u64 (fo j).x.x.dh, .int .u64 (fo j).x.x.dl, .int .i64 (fo j).x.x.sp, .int .i64 (fo j).x.x.dp]] w8 _ from find_law (fo j).x.x _ l3 w8 S8.out.rd (by omega))
        have HNO := Lib.hid hno
        have cd_1 : w8.cell? ⟨sb, soff + j * 14 + 1, none⟩ = some (.int .i64 (fo j).x.x.pr) := HSC.out _ S8.out.tab.bel 1 (by omega)
        have cd_2 : w8.cell? ⟨sb, soff + j * 14 + 2, none⟩ = some (.bool (fo j).x.x.s6) := HSC.out _ S8.out.tab.bel 2 (by omega)
        have cd_3 : w8.cell? ⟨sb, soff + j * 14 + 3, none⟩ = some (.int .u64 (fo j).x.x.sh) := HSC.out _ S8.out.tab.bel 3 (by omega)
        have cd_4 : w8.cell? ⟨sb, soff + j * 14 + 4, none⟩ = some (.int .u64 (fo j).x.x.sl) := HSC.out _ S8.out.tab.bel 4 (by omega)
        have cd_5 : w8.cell? ⟨sb, soff + j * 14 + 5, none⟩ = some (.bool (fo j).x.x.d6) := HSC.out _ S8.out.tab.bel 5 (by omega)
        have cd_6 : w8.cell? ⟨sb, soff + j * 14 + 6, none⟩ = some (.int .u64 (fo j).x.x.dh) := HSC.out _ S8.out.tab.bel 6 (by omega)
        have cd_7 : w8.cell? ⟨sb, soff + j * 14 + 7, none⟩ = some (.int .u64 (fo j).x.x.dl) := HSC.out _ S8.out.tab.bel 7 (by omega)
        have cd_8 : w8.cell? ⟨sb, soff + j * 14 + 8, none⟩ = some (.int .i64 (fo j).x.x.sp) := HSC.out _ S8.out.tab.bel 8 (by omega)
        have cd_9 : w8.cell? ⟨sb, soff + j * 14 + 9, none⟩ = some (.int .i64 (fo j).x.x.dp) := HSC.out _ S8.out.tab.bel 9 (by omega)
        rw [hw8] at cd_1 cd_2 cd_3 cd_4 cd_5 cd_6 cd_7 cd_8 cd_9
        clear hb hno hb8 HGE cb_0 cb_1 cb_2 cb_3 cb_4 cb_5 cb_6 cb_7 cb_8 cb_9 cb_10 cb_11 cb_12 cb_13
        unfold zeroE Ent.cells
        dsimp only
        go_wp2_with fail
        rw [← hw8]
        clear hw8 cd_1 cd_2 cd_3 cd_4 cd_5 cd_6 cd_7 cd_8 cd_9
        refine HFI.out.mono ?_
        rintro o w9 ⟨k, rfl, hb, ⟨rfl, _⟩ | ⟨A1, e1, B1, hl1, _, hx1⟩⟩
        · have S9 := Lib.hid (S8.out.far hb (Nat.le_refl _))
          have G9 := Lib.hid (show Blk w9 w7.heap.size 33 #[.int .i64 0, .bool false, .int .u64 0, .int .u64 0, .bool false, .int .u64 0, .int .u64 0, .int .i64 0, .int .i64 0, .int .i64 0, .int .i64 0, .int .i64 0] from (hb.block _ G8.out.lt).trans G8.out)
          have g0 := G9.out.cell 0
          have g1 := G9.out.cell 1
          have g2 := G9.out.cell 2
          have g3 := G9.out.cell 3
          have g4 := G9.out.cell 4
          have g5 := G9.out.cell 5
          have g6 := G9.out.cell 6
          have g7 := G9.out.cell 7
          have g8 := G9.out.cell 8
          have g9 := G9.out.cell 9
          have g10 := G9.out.cell 10
          have g11 := G9.out.cell 11
          clear hb
          go_wp2_with fail
          go_region
          all_goals
            go_wp2_with fail
            go_roundw
            case rel => exact ⟨j + 1, v3, l3, by go_num, by omega, by omega, S9.out.drew⟩
            case measure => simp [intOf]; omega
        · exact absurd hx1 (HNO.out e1 (by rw [hl1]; simp))
      · obtain ⟨w8, hw8⟩ : ∃ w8, w8 = w7.alloc (.cells #[.int .i64 e.x.pr, .bool e.x.s6, .int .u64 e.x.sh, .int .u64 e.x.sl, .bool e.x.d6, .int .u64 e.x.dh, .int .u64 e.x.dl, .int .i64 e.x.sp, .int .i64 e.x.dp, .int .i64 e.host, .int .i64 e.state, .int .i64 e.till] 33) := ⟨_, rfl⟩
        have hb8 : Below w7.heap.size w7 w8 := hw8 ▸ (Below.refl w7.heap.size w7).alloc (Nat.le_refl _) _
        have S8 := Lib.hid ((S6.out.far hb (Nat.le_refl _)).far hb8 (Nat.le_refl _))
        have G8 := Lib.hid (show Blk w8 w7.heap.size 33 #[.int .i64 e.x.pr, .bool e.x.s6, .int .u64 e.x.sh, .int .u64 e.x.sl, .bool e.x.d6, .int .u64 e.x.dh, .int .u64 e.x.dl, .int .i64 e.x.sp, .int .i64 e.x.dp, .int .i64 e.host, .int .i64 e.state, .int .i64 e.till] from hw8 ▸ Blk.new w7 _ _)
        have HFI := Lib.hid (show Calls Try.prog 22 #[.slice LA l3.length LC, .agg #[.int .i64 (fo j).x.x.pr, .bool (fo j).x.x.s6, .int .u64 (fo j).x.x.sh, .int .u64 (fo j).x.x.sl, .bool (fo j).x.x.d6, .int .u64 (fo j).x.x.dh, .int .u64 (fo j).x.x.dl, .int .i64 (fo j).x.x.sp, .int .i64 (fo j).x.x.dp]] w8 _ from find_law (fo j).x.x _ l3 w8 S8.out.rd (by omega))
        have HEL := Lib.hid (show e ∈ l3 ∧ e.x = (fo j).x.x from ⟨hel, hex⟩)
        have cd_1 : w8.cell? ⟨sb, soff + j * 14 + 1, none⟩ = some (.int .i64 (fo j).x.x.pr) := HSC.out _ S8.out.tab.bel 1 (by omega)
        have cd_2 : w8.cell? ⟨sb, soff + j * 14 + 2, none⟩ = some (.bool (fo j).x.x.s6) := HSC.out _ S8.out.tab.bel 2 (by omega)
        have cd_3 : w8.cell? ⟨sb, soff + j * 14 + 3, none⟩ = some (.int .u64 (fo j).x.x.sh) := HSC.out _ S8.out.tab.bel 3 (by omega)
        have cd_4 : w8.cell? ⟨sb, soff + j * 14 + 4, none⟩ = some (.int .u64 (fo j).x.x.sl) := HSC.out _ S8.out.tab.bel 4 (by omega)
        have cd_5 : w8.cell? ⟨sb, soff + j * 14 + 5, none⟩ = some (.bool (fo j).x.x.d6) := HSC.out _ S8.out.tab.bel 5 (by omega)
        have cd_6 : w8.cell? ⟨sb, soff + j * 14 + 6, none⟩ = some (.int .u64 (fo j).x.x.dh) := HSC.out _ S8.out.tab.bel 6 (by omega)
        have cd_7 : w8.cell? ⟨sb, soff + j * 14 + 7, none⟩ = some (.int .u64 (fo j).x.x.dl) := HSC.out _ S8.out.tab.bel 7 (by omega)
        have cd_8 : w8.cell? ⟨sb, soff + j * 14 + 8, none⟩ = some (.int .i64 (fo j).x.x.sp) := HSC.out _ S8.out.tab.bel 8 (by omega)
        have cd_9 : w8.cell? ⟨sb, soff + j * 14 + 9, none⟩ = some (.int .i64 (fo j).x.x.dp) := HSC.out _ S8.out.tab.bel 9 (by omega)
        rw [hw8] at cd_1 cd_2 cd_3 cd_4 cd_5 cd_6 cd_7 cd_8 cd_9
        clear hb hel hex hb8 HGE cb_0 cb_1 cb_2 cb_3 cb_4 cb_5 cb_6 cb_7 cb_8 cb_9 cb_10 cb_11 cb_12 cb_13
        unfold Ent.cells
        go_wp2_with fail
        rw [← hw8]
        clear hw8 cd_1 cd_2 cd_3 cd_4 cd_5 cd_6 cd_7 cd_8 cd_9
        refine HFI.out.mono ?_
        rintro o w9 ⟨k, rfl, hb, ⟨_, hno⟩ | ⟨A1, e1, B1, hl1, rfl, hx1⟩⟩
        · exact absurd HEL.out.2 (hno e HEL.out.1)
        · obtain rfl : e1 = e := uniq_eq S8.out.tab.tab.uniq (by rw [hl1]; simp) HEL.out.1 (hx1.trans HEL.out.2.symm)
          have S9 := Lib.hid (S8.out.far hb (Nat.le_refl _))
          have G9 := Lib.hid (show Blk w9 w7.heap.size 33 #[.int .i64 e1.x.pr, .bool e1.x.s6, .int .u64 e1.x.sh, .int .u64 e1.x.sl, .bool e1.x.d6, .int .u64 e1.x.dh, .int .u64 e1.x.dl, .int .i64 e1.x.sp, .int .i64 e1.x.dp, .int .i64 e1.host, .int .i64 e1.state, .int .i64 e1.till] from (hb.block _ G8.out.lt).trans G8.out)
          have hA1 : A1.length < l3.length := by rw [hl1]; simp
          have hle : l3[A1.length] = e1 := by
            have : l3[A1.length]? = some e1 := by rw [hl1]; simp
            rw [List.getElem?_eq_getElem hA1] at this
            injection this
          obtain ⟨b, c, hvb, _, _, hbl, hC⟩ := RdE.at_ S9.out.rd A1.length hA1
          obtain ⟨rfl, rfl⟩ : LA = some ⟨b, 0, none⟩ ∧ LC = c := by injection hvb with a b c; exact ⟨a, c⟩
          clear hvb
          rw [hle] at hC
          have d0 : w9.cell? ⟨b, A1.length * 12, none⟩ = some (.int .i64 e1.x.pr) := hC 0 (by omega)
          have d1 : w9.cell? ⟨b, A1.length * 12 + 1, none⟩ = some (.bool e1.x.s6) := hC 1 (by omega)
          have d2 : w9.cell? ⟨b, A1.length * 12 + 2, none⟩ = some (.int .u64 e1.x.sh) := hC 2 (by omega)
          have d3 : w9.cell? ⟨b, A1.length * 12 + 3, none⟩ = some (.int .u64 e1.x.sl) := hC 3 (by omega)
          have d4 : w9.cell? ⟨b, A1.length * 12 + 4, none⟩ = some (.bool e1.x.d6) := hC 4 (by omega)
          have d5 : w9.cell? ⟨b, A1.length * 12 + 5, none⟩ = some (.int .u64 e1.x.dh) := hC 5 (by omega)
          have d6 : w9.cell? ⟨b, A1.length * 12 + 6, none⟩ = some (.int .u64 e1.x.dl) := hC 6 (by omega)
          have d7 : w9.cell? ⟨b, A1.length * 12 + 7, none⟩ = some (.int .i64 e1.x.sp) := hC 7 (by omega)
          have d8 : w9.cell? ⟨b, A1.length * 12 + 8, none⟩ = some (.int .i64 e1.x.dp) := hC 8 (by omega)
          have d9 : w9.cell? ⟨b, A1.length * 12 + 9, none⟩ = some (.int .i64 e1.host) := hC 9 (by omega)
          have d10 : w9.cell? ⟨b, A1.length * 12 + 10, none⟩ = some (.int .i64 e1.state) := hC 10 (by omega)
          have d11 : w9.cell? ⟨b, A1.length * 12 + 11, none⟩ = some (.int .i64 e1.till) := hC 11 (by omega)
          have g0 := G9.out.cell 0
          have g1 := G9.out.cell 1
          have g2 := G9.out.cell 2
          have g3 := G9.out.cell 3
          have g4 := G9.out.cell 4
          have g5 := G9.out.cell 5
          have g6 := G9.out.cell 6
          have g7 := G9.out.cell 7
          have g8 := G9.out.cell 8
          have g9 := G9.out.cell 9
          have g10 := G9.out.cell 10
          have g11 := G9.out.cell 11
          have k1 : (0 : Int) ≤ (A1.length : Nat) := by omega
          have k2 : ((A1.length : Nat) : Int) < l3.length := by omega
          have k3 : decide ((0 : Int) ≤ ((A1.length : Nat) : Int)) = true := decide_eq_true (by omega)
          have hneq : ∀ W : World, (binOp .neq 33 (.agg #[.int .i64 e1.x.pr, .bool e1.x.s6, .int .u64 e1.x.sh, .int .u64 e1.x.sl, .bool e1.x.d6, .int .u64 e1.x.dh, .int .u64 e1.x.dl, .int .i64 e1.x.sp, .int .i64 e1.x.dp, .int .i64 e1.host, .int .i64 e1.state, .int .i64 e1.till]) (.agg #[.int .i64 e1.x.pr, .bool e1.x.s6, .int .u64 e1.x.sh, .int .u64 e1.x.sl, .bool e1.x.d6, .int .u64 e1.x.dh, .int .u64 e1.x.dl, .int .i64 e1.x.sp, .int .i64 e1.x.dp, .int .i64 e1.host, .int .i64 e1.state, .int .i64 e1.till])).run Try.prog W = .ok (.bool false) W := fun W => by
            have := ent_ne e1 e1 W
            rw [sameE_yes] at this
            exact this
          clear hb hC hle hl1 hx1
          go_wp2_with fail
          go_region
          all_goals
            go_wp2_with fail
            go_roundw
            case rel => exact ⟨j + 1, v3, l3, by go_num, by omega, by omega, S9.out.drew⟩
            case measure => simp [intOf]; omega
    · by_cases h1 : j < m
      · have t1 : decide ((j : Int) < m) = true := decide_eq_true (by omega)
        have t2 : decide ((j : Int) < 120) = false := decide_eq_false (by omega)
        obtain ⟨LA, LC, hlv, hlc, hlc2, _⟩ := SR.out.rd
        unfold maxLen at hlc2
        subst hlv
        go_wp2_with fail
        go_loopw [16] (fun i wr => ∃ q : Nat, i = .int .i64 q ∧ q ≤ l.length ∧ LawSt w.heap.size w wr ta r v n seed l (.slice LA l.length LC)) (fun i _ => l.length - (intOf i).toNat)
        case atStart => exact ⟨0, rfl, by omega, by first | exact SR.out | exact SR.out.drew⟩
        case round =>
          obtain ⟨q, rfl, hq, hst⟩ := hrel
          have SZ := Lib.hid hst
          clear hst
          by_cases hql : q < l.length
          · have t5 : decide ((q : Int) < l.length) = true := decide_eq_true (by omega)
            have t6 : decide (q < l.length) = true := decide_eq_true hql
            obtain ⟨b, c, hvb, _, _, hbl, hC⟩ := RdE.at_ SZ.out.rd q hql
            obtain ⟨rfl, rfl⟩ : LA = some ⟨b, 0, none⟩ ∧ LC = c := by injection hvb with a b c; exact ⟨a, c⟩
            clear hvb
            obtain ⟨e, he⟩ : ∃ e, e = l[q] := ⟨_, rfl⟩
            rw [← he] at hC
            have d0 : wr.cell? ⟨b, q * 12, none⟩ = some (.int .i64 e.x.pr) := hC 0 (by omega)
            have d1 : wr.cell? ⟨b, q * 12 + 1, none⟩ = some (.bool e.x.s6) := hC 1 (by omega)
            have d2 : wr.cell? ⟨b, q * 12 + 2, none⟩ = some (.int .u64 e.x.sh) := hC 2 (by omega)
            have d3 : wr.cell? ⟨b, q * 12 + 3, none⟩ = some (.int .u64 e.x.sl) := hC 3 (by omega)
            have d4 : wr.cell? ⟨b, q * 12 + 4, none⟩ = some (.bool e.x.d6) := hC 4 (by omega)
            have d5 : wr.cell? ⟨b, q * 12 + 5, none⟩ = some (.int .u64 e.x.dh) := hC 5 (by omega)
            have d6 : wr.cell? ⟨b, q * 12 + 6, none⟩ = some (.int .u64 e.x.dl) := hC 6 (by omega)
            have d7 : wr.cell? ⟨b, q * 12 + 7, none⟩ = some (.int .i64 e.x.sp) := hC 7 (by omega)
            have d8 : wr.cell? ⟨b, q * 12 + 8, none⟩ = some (.int .i64 e.x.dp) := hC 8 (by omega)
            have d9 : wr.cell? ⟨b, q * 12 + 9, none⟩ = some (.int .i64 e.host) := hC 9 (by omega)
            have d10 : wr.cell? ⟨b, q * 12 + 10, none⟩ = some (.int .i64 e.state) := hC 10 (by omega)
            have d11 : wr.cell? ⟨b, q * 12 + 11, none⟩ = some (.int .i64 e.till) := hC 11 (by omega)
            have HGE := Lib.hid (show Calls Try.prog 6 #[.pointer (some ⟨ta, 0, none⟩), .agg #[.int .i64 e.x.pr, .bool e.x.s6, .int .u64 e.x.sh, .int .u64 e.x.sl, .bool e.x.d6, .int .u64 e.x.dh, .int .u64 e.x.dl, .int .i64 e.x.sp, .int .i64 e.x.dp]] wr _ from get_tab e.x SZ.out.tab.tab hn hn2)
            have k1 : (0 : Int) ≤ q := by omega
            have k2 : (q : Int) < l.length := by omega
            have HE := Lib.hid (show e ∈ l from by rw [he]; exact List.getElem_mem hql)
            have HC := Lib.hid hC
            have HBL := Lib.hid hbl
            clear hC he
            go_wp2_with fail
            refine HGE.out.mono ?_
            rintro o w7 ⟨hb, ⟨rfl, hno⟩ | ⟨e1, hel, hex, rfl⟩⟩
            · exact absurd rfl (hno e HE.out)
            · obtain rfl : e1 = e := uniq_eq SZ.out.tab.tab.uniq hel HE.out hex
              obtain ⟨w8, hw8⟩ : ∃ w8, w8 = w7.alloc (.cells #[.int .i64 e1.x.pr, .bool e1.x.s6, .int .u64 e1.x.sh, .int .u64 e1.x.sl, .bool e1.x.d6, .int .u64 e1.x.dh, .int .u64 e1.x.dl, .int .i64 e1.x.sp, .int .i64 e1.x.dp, .int .i64 e1.host, .int .i64 e1.state, .int .i64 e1.till] 33) := ⟨_, rfl⟩
              have hb8 : Below w7.heap.size w7 w8 := hw8 ▸ (Below.refl w7.heap.size w7).alloc (Nat.le_refl _) _
              have hbz : Below wr.heap.size wr w8 := hb.trans (hb8.mono hb.size)
              have S8 := Lib.hid (SZ.out.far hbz (Nat.le_refl _))
              have G8 : Blk w8 w7.heap.size 33 #[.int .i64 e1.x.pr, .bool e1.x.s6, .int .u64 e1.x.sh, .int .u64 e1.x.sl, .bool e1.x.d6, .int .u64 e1.x.dh, .int .u64 e1.x.dl, .int .i64 e1.x.sp, .int .i64 e1.x.dp, .int .i64 e1.host, .int .i64 e1.state, .int .i64 e1.till] := hw8 ▸ Blk.new w7 _ _
              have hC8 : ∀ i, i < 12 → w8.cell? ⟨b, q * 12 + i, none⟩ = e1.cells[i]? := fun i hi => by
                rw [← HC.out i hi]
                unfold World.cell?
                rw [hbz.block b HBL.out]
              have p0 : w8.cell? ⟨b, q * 12, none⟩ = some (.int .i64 e1.x.pr) := hC8 0 (by omega)
              have p1 : w8.cell? ⟨b, q * 12 + 1, none⟩ = some (.bool e1.x.s6) := hC8 1 (by omega)
              have p2 : w8.cell? ⟨b, q * 12 + 2, none⟩ = some (.int .u64 e1.x.sh) := hC8 2 (by omega)
              have p3 : w8.cell? ⟨b, q * 12 + 3, none⟩ = some (.int .u64 e1.x.sl) := hC8 3 (by omega)
              have p4 : w8.cell? ⟨b, q * 12 + 4, none⟩ = some (.bool e1.x.d6) := hC8 4 (by omega)
              have p5 : w8.cell? ⟨b, q * 12 + 5, none⟩ = some (.int .u64 e1.x.dh) := hC8 5 (by omega)
              have p6 : w8.cell? ⟨b, q * 12 + 6, none⟩ = some (.int .u64 e1.x.dl) := hC8 6 (by omega)
              have p7 : w8.cell? ⟨b, q * 12 + 7, none⟩ = some (.int .i64 e1.x.sp) := hC8 7 (by omega)
              have p8 : w8.cell? ⟨b, q * 12 + 8, none⟩ = some (.int .i64 e1.x.dp) := hC8 8 (by omega)
              have p9 : w8.cell? ⟨b, q * 12 + 9, none⟩ = some (.int .i64 e1.host) := hC8 9 (by omega)
              have p10 : w8.cell? ⟨b, q * 12 + 10, none⟩ = some (.int .i64 e1.state) := hC8 10 (by omega)
              have p11 : w8.cell? ⟨b, q * 12 + 11, none⟩ = some (.int .i64 e1.till) := hC8 11 (by omega)
              have g0 := G8.cell 0
              have g1 := G8.cell 1
              have g2 := G8.cell 2
              have g3 := G8.cell 3
              have g4 := G8.cell 4
              have g5 := G8.cell 5
              have g6 := G8.cell 6
              have g7 := G8.cell 7
              have g8 := G8.cell 8
              have g9 := G8.cell 9
              have g10 := G8.cell 10
              have g11 := G8.cell 11
              have hneq : ∀ W : World, (binOp .neq 33 (.agg #[.int .i64 e1.x.pr, .bool e1.x.s6, .int .u64 e1.x.sh, .int .u64 e1.x.sl, .bool e1.x.d6, .int .u64 e1.x.dh, .int .u64 e1.x.dl, .int .i64 e1.x.sp, .int .i64 e1.x.dp, .int .i64 e1.host, .int .i64 e1.state, .int .i64 e1.till]) (.agg #[.int .i64 e1.x.pr, .bool e1.x.s6, .int .u64 e1.x.sh, .int .u64 e1.x.sl, .bool e1.x.d6, .int .u64 e1.x.dh, .int .u64 e1.x.dl, .int .i64 e1.x.sp, .int .i64 e1.x.dp, .int .i64 e1.host, .int .i64 e1.state, .int .i64 e1.till])).run Try.prog W = .ok (.bool false) W := fun W => by
                have := ent_ne e1 e1 W
                rw [sameE_yes] at this
                exact this
              clear hb hb8 hbz G8 hC8 hel hex HGE d0 d1 d2 d3 d4 d5 d6 d7 d8 d9 d10 d11
              unfold Ent.cells
              go_wp2_with fail
              rw [← hw8]
              clear hw8
              go_region
              all_goals
                go_wp2_with fail
                go_roundw
                case rel => exact ⟨q + 1, by go_num, by omega, S8.out.drew⟩
                case measure => simp [intOf]; omega
          · have t5 : decide ((q : Int) < l.length) = false := decide_eq_false (by omega)
            have t6 : decide (q < l.length) = false := decide_eq_false hql
            have HAW := Lib.hid (awake_any wr)
            go_wp2_with fail
            refine HAW.out.mono ?_
            rintro o w7 ⟨rfl, hb⟩
            have HZ := Lib.hid (SZ.out.tab.bel.trans (hb.mono SZ.out.tab.bel.size))
            clear hb
            go_wp2_with fail
            go_ret
            first | exact ⟨rfl, HZ.out⟩ | exact ⟨rfl, HZ.out.drew⟩
      · have t1 : decide ((j : Int) < m) = false := decide_eq_false (by omega)
        obtain ⟨LA, LC, hlv, hlc, hlc2, _⟩ := SR.out.rd
        unfold maxLen at hlc2
        subst hlv
        go_wp2_with fail
        go_loopw [16] (fun i wr => ∃ q : Nat, i = .int .i64 q ∧ q ≤ l.length ∧ LawSt w.heap.size w wr ta r v n seed l (.slice LA l.length LC)) (fun i _ => l.length - (intOf i).toNat)
        case atStart => exact ⟨0, rfl, by omega, by first | exact SR.out | exact SR.out.drew⟩
        case round =>
          obtain ⟨q, rfl, hq, hst⟩ := hrel
          have SZ := Lib.hid hst
          clear hst
          by_cases hql : q < l.length
          · have t5 : decide ((q : Int) < l.length) = true := decide_eq_true (by omega)
            have t6 : decide (q < l.length) = true := decide_eq_true hql
            obtain ⟨b, c, hvb, _, _, hbl, hC⟩ := RdE.at_ SZ.out.rd q hql
            obtain ⟨rfl, rfl⟩ : LA = some ⟨b, 0, none⟩ ∧ LC = c := by injection hvb with a b c; exact ⟨a, c⟩
            clear hvb
            obtain ⟨e, he⟩ : ∃ e, e = l[q] := ⟨_, rfl⟩
            rw [← he] at hC
            have d0 : wr.cell? ⟨b, q * 12, none⟩ = some (.int .i64 e.x.pr) := hC 0 (by omega)
            have d1 : wr.cell? ⟨b, q * 12 + 1, none⟩ = some (.bool e.x.s6) := hC 1 (by omega)
            have d2 : wr.cell? ⟨b, q * 12 + 2, none⟩ = some (.int .u64 e.x.sh) := hC 2 (by omega)
            have d3 : wr.cell? ⟨b, q * 12 + 3, none⟩ = some (.int .u64 e.x.sl) := hC 3 (by omega)
            have d4 : wr.cell? ⟨b, q * 12 + 4, none⟩ = some (.bool e.x.d6) := hC 4 (by omega)
            have d5 : wr.cell? ⟨b, q * 12 + 5, none⟩ = some (.int .u64 e.x.dh) := hC 5 (by omega)
            have d6 : wr.cell? ⟨b, q * 12 + 6, none⟩ = some (.int .u64 e.x.dl) := hC 6 (by omega)
            have d7 : wr.cell? ⟨b, q * 12 + 7, none⟩ = some (.int .i64 e.x.sp) := hC 7 (by omega)
            have d8 : wr.cell? ⟨b, q * 12 + 8, none⟩ = some (.int .i64 e.x.dp) := hC 8 (by omega)
            have d9 : wr.cell? ⟨b, q * 12 + 9, none⟩ = some (.int .i64 e.host) := hC 9 (by omega)
            have d10 : wr.cell? ⟨b, q * 12 + 10, none⟩ = some (.int .i64 e.state) := hC 10 (by omega)
            have d11 : wr.cell? ⟨b, q * 12 + 11, none⟩ = some (.int .i64 e.till) := hC 11 (by omega)
            have HGE := Lib.hid (show Calls Try.prog 6 #[.pointer (some ⟨ta, 0, none⟩), .agg #[.int .i64 e.x.pr, .bool e.x.s6, .int .u64 e.x.sh, .int .u64 e.x.sl, .bool e.x.d6, .int .u64 e.x.dh, .int .u64 e.x.dl, .int .i64 e.x.sp, .int .i64 e.x.dp]] wr _ from get_tab e.x SZ.out.tab.tab hn hn2)
            have k1 : (0 : Int) ≤ q := by omega
            have k2 : (q : Int) < l.length := by omega
            have HE := Lib.hid (show e ∈ l from by rw [he]; exact List.getElem_mem hql)
            have HC := Lib.hid hC
            have HBL := Lib.hid hbl
            clear hC he
            go_wp2_with fail
            refine HGE.out.mono ?_
            rintro o w7 ⟨hb, ⟨rfl, hno⟩ | ⟨e1, hel, hex, rfl⟩⟩
            · exact absurd rfl (hno e HE.out)
            · obtain rfl : e1 = e := uniq_eq SZ.out.tab.tab.uniq hel HE.out hex
              obtain ⟨w8, hw8⟩ : ∃ w8, w8 = w7.alloc (.cells #[.int .i64 e1.x.pr, .bool e1.x.s6, .int .u64 e1.x.sh, .int .u64 e1.x.sl, .bool e1.x.d6, .int .u64 e1.x.dh, .int .u64 e1.x.dl, .int .i64 e1.x.sp, .int .i64 e1.x.dp, .int .i64 e1.host, .int .i64 e1.state, .int .i64 e1.till] 33) := ⟨_, rfl⟩
              have hb8 : Below w7.heap.size w7 w8 := hw8 ▸ (Below.refl w7.heap.size w7).alloc (Nat.le_refl _) _
              have hbz : Below wr.heap.size wr w8 := hb.trans (hb8.mono hb.size)
              have S8 := Lib.hid (SZ.out.far hbz (Nat.le_refl _))
              have G8 : Blk w8 w7.heap.size 33 #[.int .i64 e1.x.pr, .bool e1.x.s6, .int .u64 e1.x.sh, .int .u64 e1.x.sl, .bool e1.x.d6, .int .u64 e1.x.dh, .int .u64 e1.x.dl, .int .i64 e1.x.sp, .int .i64 e1.x.dp, .int .i64 e1.host, .int .i64 e1.state, .int .i64 e1.till] := hw8 ▸ Blk.new w7 _ _
              have hC8 : ∀ i, i < 12 → w8.cell? ⟨b, q * 12 + i, none⟩ = e1.cells[i]? := fun i hi => by
                rw [← HC.out i hi]
                unfold World.cell?
                rw [hbz.block b HBL.out]
              have p0 : w8.cell? ⟨b, q * 12, none⟩ = some (.int .i64 e1.x.pr) := hC8 0 (by omega)
              have p1 : w8.cell? ⟨b, q * 12 + 1, none⟩ = some (.bool e1.x.s6) := hC8 1 (by omega)
              have p2 : w8.cell? ⟨b, q * 12 + 2, none⟩ = some (.int .u64 e1.x.sh) := hC8 2 (by omega)
              have p3 : w8.cell? ⟨b, q * 12 + 3, none⟩ = some (.int .u64 e1.x.sl) := hC8 3 (by omega)
              have p4 : w8.cell? ⟨b, q * 12 + 4, none⟩ = some (.bool e1.x.d6) := hC8 4 (by omega)
              have p5 : w8.cell? ⟨b, q * 12 + 5, none⟩ = some (.int .u64 e1.x.dh) := hC8 5 (by omega)
              have p6 : w8.cell? ⟨b, q * 12 + 6, none⟩ = some (.int .u64 e1.x.dl) := hC8 6 (by omega)
              have p7 : w8.cell? ⟨b, q * 12 + 7, none⟩ = some (.int .i64 e1.x.sp) := hC8 7 (by omega)
              have p8 : w8.cell? ⟨b, q * 12 + 8, none⟩ = some (.int .i64 e1.x.dp) := hC8 8 (by omega)
              have p9 : w8.cell? ⟨b, q * 12 + 9, none⟩ = some (.int .i64 e1.host) := hC8 9 (by omega)
              have p10 : w8.cell? ⟨b, q * 12 + 10, none⟩ = some (.int .i64 e1.state) := hC8 10 (by omega)
              have p11 : w8.cell? ⟨b, q * 12 + 11, none⟩ = some (.int .i64 e1.till) := hC8 11 (by omega)
              have g0 := G8.cell 0
              have g1 := G8.cell 1
              have g2 := G8.cell 2
              have g3 := G8.cell 3
              have g4 := G8.cell 4
              have g5 := G8.cell 5
              have g6 := G8.cell 6
              have g7 := G8.cell 7
              have g8 := G8.cell 8
              have g9 := G8.cell 9
              have g10 := G8.cell 10
              have g11 := G8.cell 11
              have hneq : ∀ W : World, (binOp .neq 33 (.agg #[.int .i64 e1.x.pr, .bool e1.x.s6, .int .u64 e1.x.sh, .int .u64 e1.x.sl, .bool e1.x.d6, .int .u64 e1.x.dh, .int .u64 e1.x.dl, .int .i64 e1.x.sp, .int .i64 e1.x.dp, .int .i64 e1.host, .int .i64 e1.state, .int .i64 e1.till]) (.agg #[.int .i64 e1.x.pr, .bool e1.x.s6, .int .u64 e1.x.sh, .int .u64 e1.x.sl, .bool e1.x.d6, .int .u64 e1.x.dh, .int .u64 e1.x.dl, .int .i64 e1.x.sp, .int .i64 e1.x.dp, .int .i64 e1.host, .int .i64 e1.state, .int .i64 e1.till])).run Try.prog W = .ok (.bool false) W := fun W => by
                have := ent_ne e1 e1 W
                rw [sameE_yes] at this
                exact this
              clear hb hb8 hbz G8 hC8 hel hex HGE d0 d1 d2 d3 d4 d5 d6 d7 d8 d9 d10 d11
              unfold Ent.cells
              go_wp2_with fail
              rw [← hw8]
              clear hw8
              go_region
              all_goals
                go_wp2_with fail
                go_roundw
                case rel => exact ⟨q + 1, by go_num, by omega, S8.out.drew⟩
                case measure => simp [intOf]; omega
          · have t5 : decide ((q : Int) < l.length) = false := decide_eq_false (by omega)
            have t6 : decide (q < l.length) = false := decide_eq_false hql
            have HAW := Lib.hid (awake_any wr)
            go_wp2_with fail
            refine HAW.out.mono ?_
            rintro o w7 ⟨rfl, hb⟩
            have HZ := Lib.hid (SZ.out.tab.bel.trans (hb.mono SZ.out.tab.bel.size))
            clear hb
            go_wp2_with fail
            go_ret
            first | exact ⟨rfl, HZ.out⟩ | exact ⟨rfl, HZ.out.drew⟩
end Go.Proofs.Ytmlfpfmpoigfiaa.flowPi
