/- Layer 27: its law's call by which entries go. -/
import Derived.Test.YtmlfpfmpoigfiaaFlowPc
namespace Go.Proofs.Ytmlfpfmpoigfiaa.flowPd
open Go.ChangeShapes Go.WideShapes Go.ChangeAt Go.RowKit
open Go.Proofs.Ytmlfpfmpoigfiaa.base Go.Proofs.Ytmlfpfmpoigfiaa.flowA Go.Proofs.Ytmlfpfmpoigfiaa.flowB Go.Proofs.Ytmlfpfmpoigfiaa.flowC Go.Proofs.Ytmlfpfmpoigfiaa.flowD Go.Proofs.Ytmlfpfmpoigfiaa.flowE Go.Proofs.Ytmlfpfmpoigfiaa.flowF Go.Proofs.Ytmlfpfmpoigfiaa.flowG Go.Proofs.Ytmlfpfmpoigfiaa.flowH Go.Proofs.Ytmlfpfmpoigfiaa.flowI Go.Proofs.Ytmlfpfmpoigfiaa.flowL Go.Proofs.Ytmlfpfmpoigfiaa.flowM Go.Proofs.Ytmlfpfmpoigfiaa.flowN Go.Proofs.Ytmlfpfmpoigfiaa.flowO Go.Proofs.Ytmlfpfmpoigfiaa.flowP Go.Proofs.Ytmlfpfmpoigfiaa.flowQ Go.Proofs.Ytmlfpfmpoigfiaa.flowR Go.Proofs.Ytmlfpfmpoigfiaa.flowS Go.Proofs.Ytmlfpfmpoigfiaa.flowT Go.Proofs.Ytmlfpfmpoigfiaa.flowU Go.Proofs.Ytmlfpfmpoigfiaa.flowV Go.Proofs.Ytmlfpfmpoigfiaa.flowW Go.Proofs.Ytmlfpfmpoigfiaa.flowX Go.Proofs.Ytmlfpfmpoigfiaa.flowY Go.Proofs.Ytmlfpfmpoigfiaa.flowGo Go.Proofs.Ytmlfpfmpoigfiaa.flowGp Go.Proofs.Ytmlfpfmpoigfiaa.flowPa Go.Proofs.Ytmlfpfmpoigfiaa.flowPb Go.Proofs.Ytmlfpfmpoigfiaa.flowPc
set_option linter.unusedVariables false

/-- Apart from a table's own blocks. -/
def Apart (ta r : Nat) (v vg : Value) : Prop := ∀ k, vg.ownBlock = some k → k ≠ ta ∧ k ≠ r ∧ v.ownBlock ≠ some k
theorem RdE.lt {w : World} {v : Value} {l : List Ent} (h : RdE w v l) : ∀ k, v.ownBlock = some k → k < w.heap.size := by
  obtain ⟨A, c, h1, h2, h3, h4⟩ := h
  rcases h4 with ⟨h5, h6, h7⟩ | ⟨b, e1, e2, e3⟩
  · intro k hk
    rw [h1, h6] at hk
    cases hk
  · intro k hk
    rw [h1, e1] at hk
    injection hk with hk
    exact hk ▸ e2
theorem RdE.frm {w w' : World} {ta r : Nat} {v vg : Value} {l : List Ent} (h : RdE w vg l) (hf : Frm ta r v w w') (ha : Apart ta r v vg) : RdE w' vg l :=
  h.far fun k hk => hf.block k (RdE.lt h k hk) (ha k hk).1 (ha k hk).2.1 (fun e => (ha k hk).2.2 e.symm)
/-- What a call by which entries go does. -/
def DropPost (w : World) (ta r : Nat) (v : Value) (n : Nat) (seed : Int) (l : List Ent) (gg : Ent → Bool) (o : Ending) (w' : World) : Prop :=
  o = .returned (.bool true) ∧ Tab w' ta r v n seed (l.filter (fun e => !gg e)) ∧ Frm ta r v w w'
section
variable {w : World} {ta r : Nat} {v vg : Value} {n : Nat} {seed : Int} {l : List Ent}
set_option maxHeartbeats 1000000 in
theorem drop5 (x : Ent) (A : Option Addr) (m cc : Nat) (h : Tab w ta r v n seed l) (hn : 1 ≤ n) (hn2 : n ≤ 4096) (hg : RdE w vg (l.filter (fun e => decide (e.till ≤ x.till)))) (ha : Apart ta r v vg) :
    Calls Try.prog 39 #[.pointer (some ⟨ta, 0, none⟩), .agg (opc 5 x A m cc), vg] w (DropPost w ta r v n seed l (fun e => decide (e.till ≤ x.till))) := by
  have HA := Lib.hid ((Below.refl w.heap.size w).alloc (Nat.le_refl _) (.cells #[.int .i64 5, .int .i64 x.x.pr, .bool x.x.s6, .int .u64 x.x.sh, .int .u64 x.x.sl, .bool x.x.d6, .int .u64 x.x.dh, .int .u64 x.x.dl, .int .i64 x.x.sp, .int .i64 x.x.dp, .int .i64 x.host, .int .i64 x.state, .int .i64 x.till, .slice A m cc] 57))
  have HFA := Lib.hid ((Frm.refl ta r v w).alloc (.cells #[.int .i64 5, .int .i64 x.x.pr, .bool x.x.s6, .int .u64 x.x.sh, .int .u64 x.x.sl, .bool x.x.d6, .int .u64 x.x.dh, .int .u64 x.x.dl, .int .i64 x.x.sp, .int .i64 x.x.dp, .int .i64 x.host, .int .i64 x.state, .int .i64 x.till, .slice A m cc] 57))
  have HG := Lib.hid (hg.below HA.out)
  have HLEN := Lib.hid (show (l.filter (fun e => decide (e.till ≤ x.till))).length ≤ 5000 from by
    have h1 := List.length_filter_le (fun e => decide (e.till ≤ x.till)) l
    have h2 := h.len
    omega)
  have HC := Lib.hid (late_tab x.till (h.far HA.out) hn hn2)
  have HAP := Lib.hid ha
  unfold opc
  clear h hg ha
  go_enter Try.func39, Try.ntmps39
  go_wp2_with fail
  refine HC.out.mono ?_
  rintro o w2 ⟨v', rfl, ho, ht, hf⟩
  have HS := Lib.hid (same_law v' vg _ w2 (RdE.of_own ho) (RdE.frm HG.out hf HAP.out) HLEN.out)
  have HT := Lib.hid ht
  have HF := Lib.hid (HFA.out.then hf)
  clear ho ht hf
  go_wp2_with fail
  refine HS.out.mono ?_
  rintro o w3 ⟨rfl, hb⟩
  have HT3 := Lib.hid (HT.out.far hb)
  have HF3 := Lib.hid (HF.out.then (Frm.of_below hb))
  clear hb
  go_wp2_with fail
  go_ret
  exact ⟨rfl, HT3.out, HF3.out⟩
set_option maxHeartbeats 1000000 in
theorem drop7 (x : Ent) (A : Option Addr) (m cc : Nat) (h : Tab w ta r v n seed l) (hn : 1 ≤ n) (hn2 : n ≤ 4096) (hg : RdE w vg (l.filter (fun _ => true))) (ha : Apart ta r v vg) :
    Calls Try.prog 39 #[.pointer (some ⟨ta, 0, none⟩), .agg (opc 7 x A m cc), vg] w (DropPost w ta r v n seed l (fun _ => true)) := by
  have HA := Lib.hid ((Below.refl w.heap.size w).alloc (Nat.le_refl _) (.cells #[.int .i64 7, .int .i64 x.x.pr, .bool x.x.s6, .int .u64 x.x.sh, .int .u64 x.x.sl, .bool x.x.d6, .int .u64 x.x.dh, .int .u64 x.x.dl, .int .i64 x.x.sp, .int .i64 x.x.dp, .int .i64 x.host, .int .i64 x.state, .int .i64 x.till, .slice A m cc] 57))
  have HFA := Lib.hid ((Frm.refl ta r v w).alloc (.cells #[.int .i64 7, .int .i64 x.x.pr, .bool x.x.s6, .int .u64 x.x.sh, .int .u64 x.x.sl, .bool x.x.d6, .int .u64 x.x.dh, .int .u64 x.x.dl, .int .i64 x.x.sp, .int .i64 x.x.dp, .int .i64 x.host, .int .i64 x.state, .int .i64 x.till, .slice A m cc] 57))
  have HG := Lib.hid (hg.below HA.out)
  have HLEN := Lib.hid (show (l.filter (fun _ => true)).length ≤ 5000 from by
    have h1 := List.length_filter_le (fun _ => true) l
    have h2 := h.len
    omega)
  have HC := Lib.hid (clear_tab (h.far HA.out) hn hn2)
  have HAP := Lib.hid ha
  unfold opc
  clear h hg ha
  go_enter Try.func39, Try.ntmps39
  go_wp2_with fail
  refine HC.out.mono ?_
  rintro o w2 ⟨v', rfl, ho, ht, hf⟩
  have HS := Lib.hid (same_law v' vg _ w2 (RdE.of_own ho) (RdE.frm HG.out hf HAP.out) HLEN.out)
  have HT := Lib.hid ht
  have HF := Lib.hid (HFA.out.then hf)
  clear ho ht hf
  go_wp2_with fail
  refine HS.out.mono ?_
  rintro o w3 ⟨rfl, hb⟩
  have HT3 := Lib.hid (HT.out.far hb)
  have HF3 := Lib.hid (HF.out.then (Frm.of_below hb))
  clear hb
  go_wp2_with fail
  go_ret
  exact ⟨rfl, HT3.out, HF3.out⟩
set_option maxHeartbeats 1000000 in
theorem drop6 (x : Ent) (A : Option Addr) (m cc : Nat) (hs : List Int) (B : Nat) (hm : hs.length = m) (hm2 : m ≤ 30) (hr : RdI w B A hs) (hB : B ≤ w.heap.size) (b1 : B ≤ ta) (b2 : B ≤ r) (b3 : ∀ g, v.ownBlock = some g → B ≤ g) (h : Tab w ta r v n seed l) (hn : 1 ≤ n) (hn2 : n ≤ 4096) (hg : RdE w vg (l.filter (fun e => hs.contains e.host))) (ha : Apart ta r v vg) :
    Calls Try.prog 39 #[.pointer (some ⟨ta, 0, none⟩), .agg (opc 6 x A m cc), vg] w (DropPost w ta r v n seed l (fun e => hs.contains e.host)) := by
  have HA := Lib.hid ((Below.refl w.heap.size w).alloc (Nat.le_refl _) (.cells #[.int .i64 6, .int .i64 x.x.pr, .bool x.x.s6, .int .u64 x.x.sh, .int .u64 x.x.sl, .bool x.x.d6, .int .u64 x.x.dh, .int .u64 x.x.dl, .int .i64 x.x.sp, .int .i64 x.x.dp, .int .i64 x.host, .int .i64 x.state, .int .i64 x.till, .slice A m cc] 57))
  have HFA := Lib.hid ((Frm.refl ta r v w).alloc (.cells #[.int .i64 6, .int .i64 x.x.pr, .bool x.x.s6, .int .u64 x.x.sh, .int .u64 x.x.sl, .bool x.x.d6, .int .u64 x.x.dh, .int .u64 x.x.dl, .int .i64 x.x.sp, .int .i64 x.x.dp, .int .i64 x.host, .int .i64 x.state, .int .i64 x.till, .slice A m cc] 57))
  have HG := Lib.hid (hg.below HA.out)
  have HLEN := Lib.hid (show (l.filter (fun e => hs.contains e.host)).length ≤ 5000 from by
    have h1 := List.length_filter_le (fun e => hs.contains e.host) l
    have h2 := h.len
    omega)
  have HC := Lib.hid (of_tab A m cc hs B hm (by omega) ((hr.below (HA.out.mono hB)).row) (Nat.le_trans hB HA.out.size) b1 b2 b3 (h.far HA.out) hn hn2)
  have HAP := Lib.hid ha
  unfold opc
  have t30 : decide ((30 : Int) < m) = false := decide_eq_false (by omega)
  clear h hg ha hr
  go_enter Try.func39, Try.ntmps39
  go_wp2_with fail
  refine HC.out.mono ?_
  rintro o w2 ⟨v', rfl, ho, ht, hf⟩
  have HS := Lib.hid (same_law v' vg _ w2 (RdE.of_own ho) (RdE.frm HG.out hf HAP.out) HLEN.out)
  have HT := Lib.hid ht
  have HF := Lib.hid (HFA.out.then hf)
  clear ho ht hf
  go_wp2_with fail
  refine HS.out.mono ?_
  rintro o w3 ⟨rfl, hb⟩
  have HT3 := Lib.hid (HT.out.far hb)
  have HF3 := Lib.hid (HF.out.then (Frm.of_below hb))
  clear hb
  go_wp2_with fail
  go_ret
  exact ⟨rfl, HT3.out, HF3.out⟩
set_option maxHeartbeats 1000000 in
theorem drop6b (x : Ent) (b off m cc : Nat) (hs : List Int) (B : Nat) (hm : hs.length = m) (hm2 : 30 < m) (hr : RdI w B (some ⟨b, off, none⟩) hs) (hB : B ≤ w.heap.size) (b1 : B ≤ ta) (b2 : B ≤ r) (b3 : ∀ g, v.ownBlock = some g → B ≤ g) (hmc : m ≤ cc) (hcc : cc ≤ 9223372036854775807) (h : Tab w ta r v n seed l) (hn : 1 ≤ n) (hn2 : n ≤ 4096) (hg : RdE w vg (l.filter (fun e => (hs.take 30).contains e.host))) (ha : Apart ta r v vg) :
    Calls Try.prog 39 #[.pointer (some ⟨ta, 0, none⟩), .agg (opc 6 x (some ⟨b, off, none⟩) m cc), vg] w (DropPost w ta r v n seed l (fun e => (hs.take 30).contains e.host)) := by
  have HA := Lib.hid ((Below.refl w.heap.size w).alloc (Nat.le_refl _) (.cells #[.int .i64 6, .int .i64 x.x.pr, .bool x.x.s6, .int .u64 x.x.sh, .int .u64 x.x.sl, .bool x.x.d6, .int .u64 x.x.dh, .int .u64 x.x.dl, .int .i64 x.x.sp, .int .i64 x.x.dp, .int .i64 x.host, .int .i64 x.state, .int .i64 x.till, .slice (some ⟨b, off, none⟩) m cc] 57))
  have HFA := Lib.hid ((Frm.refl ta r v w).alloc (.cells #[.int .i64 6, .int .i64 x.x.pr, .bool x.x.s6, .int .u64 x.x.sh, .int .u64 x.x.sl, .bool x.x.d6, .int .u64 x.x.dh, .int .u64 x.x.dl, .int .i64 x.x.sp, .int .i64 x.x.dp, .int .i64 x.host, .int .i64 x.state, .int .i64 x.till, .slice (some ⟨b, off, none⟩) m cc] 57))
  have HG := Lib.hid (hg.below HA.out)
  have HLEN := Lib.hid (show (l.filter (fun e => (hs.take 30).contains e.host)).length ≤ 5000 from by
    have h1 := List.length_filter_le (fun e => (hs.take 30).contains e.host) l
    have h2 := h.len
    omega)
  have HC := Lib.hid (of_tab (some ⟨b, off, none⟩) 30 cc (hs.take 30) B (by rw [List.length_take]; omega) (by omega) (((hr.below (HA.out.mono hB)).take 30).row) (Nat.le_trans hB HA.out.size) b1 b2 b3 (h.far HA.out) hn hn2)
  have HAP := Lib.hid ha
  unfold opc
  have t30 : decide ((30 : Int) < m) = true := decide_eq_true (by omega)
  clear h hg ha hr
  go_enter Try.func39, Try.ntmps39
  go_wp2_with fail
  refine HC.out.mono ?_
  rintro o w2 ⟨v', rfl, ho, ht, hf⟩
  have HS := Lib.hid (same_law v' vg _ w2 (RdE.of_own ho) (RdE.frm HG.out hf HAP.out) HLEN.out)
  have HT := Lib.hid ht
  have HF := Lib.hid (HFA.out.then hf)
  clear ho ht hf
  go_wp2_with fail
  refine HS.out.mono ?_
  rintro o w3 ⟨rfl, hb⟩
  have HT3 := Lib.hid (HT.out.far hb)
  have HF3 := Lib.hid (HF.out.then (Frm.of_below hb))
  clear hb
  go_wp2_with fail
  go_ret
  exact ⟨rfl, HT3.out, HF3.out⟩
end
end Go.Proofs.Ytmlfpfmpoigfiaa.flowPd
