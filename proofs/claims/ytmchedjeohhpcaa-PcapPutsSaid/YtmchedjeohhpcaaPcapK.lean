/- Layer 36: the next record of bytes. -/
import Derived.Test.YtmchedjeohhpcaaPcapJ
import Derived.Test.YtmchedjeohhpcaaKeep
import Derived.Deep.RegionHeld3
import Derived.Deep.DeepCutAuto
namespace Go.Proofs.Ytmchedjeohhpcaa.pcapK
open Go.ChangeShapes Go.WideShapes Go.ChangeAt Go.RowKit
open Go.Proofs.Ytmchedjeohhpcaa.base Go.Proofs.Ytmchedjeohhpcaa.pcapA Go.Proofs.Ytmchedjeohhpcaa.pcapB Go.Proofs.Ytmchedjeohhpcaa.pcapC Go.Proofs.Ytmchedjeohhpcaa.pcapD Go.Proofs.Ytmchedjeohhpcaa.pcapE Go.Proofs.Ytmchedjeohhpcaa.pcapF Go.Proofs.Ytmchedjeohhpcaa.pcapG Go.Proofs.Ytmchedjeohhpcaa.pcapI Go.Proofs.Ytmchedjeohhpcaa.pcapJ
set_option linter.unusedVariables false

theorem below_row {B g : Nat} {a w : World} (h : Below B a w) (hg : B ≤ g) (cs : Array Value) : Below B a (w.setRow g cs) :=
  ⟨h.os, h.tape, h.output, Nat.le_trans h.size (by unfold World.setRow; simp), fun k hk => (setRow_other _ _ _ _ (by omega)).trans (h.block k hk)⟩
theorem blk_row {w : World} {g : Nat} {t : TypeId} {cs : Array Value} (h : Blk w g t cs) (c' : Array Value) : Blk (w.setRow g c') g t c' := setRow_heap w g cs c' t (0, 0) h
theorem blk_far {w : World} {g k : Nat} {t : TypeId} {cs : Array Value} (h : Blk w k t cs) (hk : k ≠ g) (c' : Array Value) : Blk (w.setRow g c') k t cs := (setRow_other w g k c' hk).trans h
theorem store_row (W : World) (q : Nat) (t : TypeId) (old : Array Value) (cs : List Value) (h : Blk W q t old) (ho : old.size = cs.length) (h1 : ∀ v ∈ cs, v.oneCell' = true) : (storeCells ⟨q, 0, none⟩ cs).run Try.prog W = .ok () (W.setRow q cs.toArray) := by
  have := run_storeCells_from (P := Try.prog) q t cs 0 old W h (by omega) h1
  simpa using this
theorem grown_set (w : World) (p : Addr) (u : Value) : w.grownBy (w.setCell p u) (some p.block) :=
  ⟨rfl, rfl, rfl, by simp [World.setCell], fun k hk hne => Below.heap_setCell w p u k (fun e => hne (by rw [e]))⟩
theorem own_set {w : World} {base t : Nat} {v : Value} {n : Nat} {xs : List Value} (h : w.ownsRow base t 1 v n xs) {p : Addr} (hp : p.block < base) (u : Value) : (w.setCell p u).ownsRow base t 1 v n xs := by
  refine h.kept (grown_set w p u) ?_
  rcases hb : v.ownBlock with _ | k
  · exact .inl rfl
  · refine .inr fun e => ?_
    injection e with e
    have := (h.lt k hb).1
    omega
theorem own_bounds {w : World} {base t : Nat} {A : Option Addr} {n c : Nat} {xs : List Value} (h : w.ownsRow base t 1 (.slice A n c) n xs) : (A = none → c = 0) ∧ n ≤ c ∧ c ≤ 9223372036854775807 := by
  rcases h.2 with ⟨hv, h0⟩ | ⟨g, cap, cur, hv, hb, hg, hnc, hm, hsz, htake⟩
  · injection hv with h1 h2 h3
    subst h3
    exact ⟨fun _ => rfl, by omega, by omega⟩
  · injection hv with h1 h2 h3
    subst h3 h1
    unfold maxLen at hm
    exact ⟨fun e => by (cases e), by omega, by omega⟩
theorem size_rec : (Try.prog.info? 38).map (·.size) = some 4 := by kernel_rfl
theorem results_rec {fn : Func} {p u v : Tmp} (h : fn.results = #[.cell p 38, .tmp u, .tmp v]) (tmps : Array Value) (w : World) (g : Nat) (cs : Array Value) (hp : tmps.getD p undef = .pointer (some ⟨g, 0, none⟩)) (hg : Blk w g 38 cs) (hs : cs.size = 4) :
    (results fn tmps).run Try.prog w = .ok (.tuple #[.agg cs, tmps.getD u undef, tmps.getD v undef]) w := by
  have e : (results fn tmps).run Try.prog w = ((asAddr (tmps.getD p undef)).run Try.prog w).andThen fun a w₁ => ((loadVar 38 a).run Try.prog w₁).andThen fun x w₂ => .ok (.tuple #[x, tmps.getD u undef, tmps.getD v undef]) w₂ := by
    simp only [results, h]
    simp [Sem.run_bind, Result.andThen]
  rw [e, hp]
  simp only [asAddr, Sem.run_pure, Result.andThen_ok]
  rw [run_loadVar_row w g 38 38 cs (0, 0) _ hg Try.underlying38 rfl (by rw [hs]; exact size_rec)]
  rfl
def shortB (big : Bool) (x : List Int) : Prop := x.length < 16 ∨ x.length < ordN big (wAt x 8) + 16
def recZ : Array Value := #[.int .u32 0, .int .u32 0, .int .u32 0, .slice none 0 0]
set_option maxHeartbeats 4000000 in
set_option maxRecDepth 100000 in
theorem record_no (big : Bool) (sn link : Nat) (AR : Option Addr) (nR cR : Nat) (A : Option Addr) (n c : Nat) (l : List Int) (w : World) (hl : l.length = n) (hn : n ≤ 1000000) (hr : Row w w.heap.size A (l.map (.int .u8))) (hb : Byte l) (hR : nR < 4096) (hno : shortB big l) :
    Calls Try.prog 21 #[.slice A n c, .agg #[.bool big, .int .u32 (sn : Int), .int .u32 (link : Int), .slice AR nR cR]] w fun o w' => o = .returned (.tuple #[.agg recZ, .int .i64 0, .int .i64 2]) ∧ Below w.heap.size w w' := by
  unfold recZ
  by_cases h16 : n < 16
  · have t1 : decide ((n : Int) < 16) = true := decide_eq_true (by omega)
    clear hno hr hb hl
    go_enter Try.func21, Try.ntmps21
    go_wp2_with fail
    exact bodyPost_ret (v := .tuple #[.agg #[.int .u32 0, .int .u32 0, .int .u32 0, .slice none 0 0], .int .i64 0, .int .i64 2]) (by simp [results, Try.results21, go_sem]) rfl ⟨rfl, ((Below.refl _ _).alloc (Nat.le_refl _) _).alloc (by simp) _⟩
  · have t3 : ((nR : Int) == 4096) = false := by
      rw [beq_eq_false_iff_ne]
      omega
    have t1 : decide ((n : Int) < 16) = false := decide_eq_false (by omega)
    have hno2 : n < ordN big (wAt l 8) + 16 := by
      rcases hno with h | h
      · omega
      · rw [hl] at h; exact h
    have hlt := ordN_lt big (wAt_lt hb 8)
    obtain ⟨g, off, rfl, _⟩ := hr.at_ (by intro h; rw [List.map_eq_nil_iff] at h; subst h; simp at hl; omega)
    have hz0 : (w.alloc (.cells #[.bool big, .int .u32 (sn : Int), .int .u32 (link : Int), .slice AR nR cR] 25)).heap.size = w.heap.size + 1 := by simp
    have HC := Lib.hid (fun W (hb2 : Below w.heap.size w W) => word_bel big g off c 8 n l w.heap.size W hl (hr.below hb2) hb (by omega) (by omega))
    obtain ⟨z, hz⟩ : ∃ z, z = ordN big (wAt l 8) := ⟨_, rfl⟩
    rw [← hz] at HC hno2 hlt
    have t2 : decide (z + 16 > n) = true := decide_eq_true (by omega)
    have e1 : IntKind.u64.wrap (z : Int) = (z : Int) := by rw [IntKind.wrap_u64]; omega
    have e2 : IntKind.u64.wrap ((z : Int) + 16) = (z : Int) + 16 := by rw [IntKind.wrap_u64]; omega
    have e3 : IntKind.u64.wrap (n : Int) = (n : Int) := by rw [IntKind.wrap_u64]; omega
    have HB0 := Lib.hid (show Below w.heap.size w ((w.alloc (.cells #[.bool big, .int .u32 (sn : Int), .int .u32 (link : Int), .slice AR nR cR] 25)).alloc (.cells #[.int .u32 0, .int .u32 0, .int .u32 0, .slice none 0 0] 38)) from ((Below.refl _ _).alloc (Nat.le_refl _) _).alloc (by simp) _)
    clear hno hr hb hl hz
    go_enter Try.func21, Try.ntmps21
    go_wp2_with fail
    refine (HC.out _ HB0.out).mono ?_
    rintro o w1 ⟨rfl, hb⟩
    have kz := Blk.new (w.alloc (.cells #[.bool big, .int .u32 (sn : Int), .int .u32 (link : Int), .slice AR nR cR] 25)) 38 #[.int .u32 0, .int .u32 0, .int .u32 0, .slice none 0 0]
    rw [hz0] at kz
    have k1 := kz.below hb (by simp)
    have z0 := k1.cell 0
    have z1 := k1.cell 1
    have z2 := k1.cell 2
    have z3 := k1.cell 3
    have y0 := k1.frozen 0
    have y1 := k1.frozen 1
    have y2 := k1.frozen 2
    have y3 := k1.frozen 3
    have KR := Lib.hid (show Blk ((((w1.setCell ⟨w.heap.size + 1, 0, none⟩ (.int .u32 0)).setCell ⟨w.heap.size + 1, 1, none⟩ (.int .u32 0)).setCell ⟨w.heap.size + 1, 2, none⟩ (.int .u32 0)).setCell ⟨w.heap.size + 1, 3, none⟩ (.slice none 0 0)) (w.heap.size + 1) 38 #[.int .u32 0, .int .u32 0, .int .u32 0, .slice none 0 0] from (((k1.set_ 0 _).set_ 1 _).set_ 2 _).set_ 3 _)
    have HB1 := Lib.hid (show Below w.heap.size w ((((w1.setCell ⟨w.heap.size + 1, 0, none⟩ (.int .u32 0)).setCell ⟨w.heap.size + 1, 1, none⟩ (.int .u32 0)).setCell ⟨w.heap.size + 1, 2, none⟩ (.int .u32 0)).setCell ⟨w.heap.size + 1, 3, none⟩ (.slice none 0 0)) from ((((HB0.out.trans (hb.mono HB0.out.size)).setCell (by simp) _).setCell (by simp) _).setCell (by simp) _).setCell (by simp) _)
    clear hb kz k1
    go_wp2_with fail
    exact bodyPost_ret (results_rec rfl _ _ (w.heap.size + 1) #[.int .u32 0, .int .u32 0, .int .u32 0, .slice none 0 0] rfl KR.out rfl) rfl ⟨rfl, HB1.out⟩
def payN (big : Bool) (l : List Int) : Nat := ordN big (wAt l 8)
def RecPost (big : Bool) (l : List Int) (w : World) (o : Ending) (w' : World) : Prop :=
  ∃ A c, o = .returned (.tuple #[.agg #[.int .u32 ((ordN big (wAt l 0) : Nat) : Int), .int .u32 ((ordN big (wAt l 4) : Nat) : Int), .int .u32 ((ordN big (wAt l 12) : Nat) : Int), .slice A (payN big l) c], .int .i64 ((payN big l : Int) + 16), .int .i64 0]) ∧
    w'.ownsRow w.heap.size 5 1 (.slice A (payN big l) c) (payN big l) (((l.drop 16).take (payN big l)).map (.int .u8)) ∧ Below w.heap.size w w'
set_option maxHeartbeats 4000000 in
set_option maxRecDepth 100000 in
theorem record_yes (big : Bool) (sn link : Nat) (AR : Option Addr) (nR cR : Nat) (A : Option Addr) (n c : Nat) (l : List Int) (w : World) (hl : l.length = n) (hn : n ≤ 1000000) (hc1 : n ≤ c) (hc2 : c ≤ 9223372036854775807) (hr : Row w w.heap.size A (l.map (.int .u8))) (hb : Byte l) (hR : nR < 4096) (h16 : 16 ≤ n) (hyes : payN big l + 16 ≤ n) :
    Calls Try.prog 21 #[.slice A n c, .agg #[.bool big, .int .u32 (sn : Int), .int .u32 (link : Int), .slice AR nR cR]] w (RecPost big l w) := by
  have t3 : ((nR : Int) == 4096) = false := by
    rw [beq_eq_false_iff_ne]
    omega
  have t1 : decide ((n : Int) < 16) = false := decide_eq_false (by omega)
  obtain ⟨g, off, rfl, _⟩ := hr.at_ (by intro h; rw [List.map_eq_nil_iff] at h; subst h; simp at hl; omega)
  have hz0 : (w.alloc (.cells #[.bool big, .int .u32 (sn : Int), .int .u32 (link : Int), .slice AR nR cR] 25)).heap.size = w.heap.size + 1 := by simp
  have HC8 := Lib.hid (fun W (hb2 : Below w.heap.size w W) => word_at big g off c 8 n l w.heap.size W hl (hr.below hb2) hb (by omega) (by omega))
  have HC0 := Lib.hid (show ∀ W, Below w.heap.size w W → Calls Try.prog 19 #[.slice (some ⟨g, off, none⟩) n c, .bool big, .int .i64 0] W fun e w' => e = .returned (.int .u32 ((ordN big (wAt l 0) : Nat) : Int)) ∧ ∃ q, w' = W.drewN q from fun W (hb2 : Below w.heap.size w W) => word_at big g off c 0 n l w.heap.size W hl (hr.below hb2) hb (by omega) (by omega))
  have HC4 := Lib.hid (show ∀ W, Below w.heap.size w W → Calls Try.prog 19 #[.slice (some ⟨g, off, none⟩) n c, .bool big, .int .i64 4] W fun e w' => e = .returned (.int .u32 ((ordN big (wAt l 4) : Nat) : Int)) ∧ ∃ q, w' = W.drewN q from fun W (hb2 : Below w.heap.size w W) => word_at big g off c 4 n l w.heap.size W hl (hr.below hb2) hb (by omega) (by omega))
  have HC12 := Lib.hid (show ∀ W, Below w.heap.size w W → Calls Try.prog 19 #[.slice (some ⟨g, off, none⟩) n c, .bool big, .int .i64 12] W fun e w' => e = .returned (.int .u32 ((ordN big (wAt l 12) : Nat) : Int)) ∧ ∃ q, w' = W.drewN q from fun W (hb2 : Below w.heap.size w W) => word_at big g off c 12 n l w.heap.size W hl (hr.below hb2) hb (by omega) (by omega))
  have hlt : ordN big (wAt l 8) < 4294967296 := ordN_lt big (wAt_lt hb 8)
  have HP := Lib.hid (show payN big l = ordN big (wAt l 8) from rfl)
  obtain ⟨z, hz⟩ : ∃ z, z = ordN big (wAt l 8) := ⟨_, rfl⟩
  unfold payN at hyes
  rw [← hz] at HC8 hyes hlt HP
  have t2 : decide ((n : Int) < (z : Int) + 16) = false := decide_eq_false (by omega)
  have e1 : IntKind.u64.wrap (z : Int) = (z : Int) := by rw [IntKind.wrap_u64]; omega
  have e2 : IntKind.u64.wrap ((z : Int) + 16) = (z : Int) + 16 := by rw [IntKind.wrap_u64]; omega
  have e3 : IntKind.u64.wrap (n : Int) = (n : Int) := by rw [IntKind.wrap_u64]; omega
  have HB0 := Lib.hid (show Below w.heap.size w ((w.alloc (.cells #[.bool big, .int .u32 (sn : Int), .int .u32 (link : Int), .slice AR nR cR] 25)).alloc (.cells #[.int .u32 0, .int .u32 0, .int .u32 0, .slice none 0 0] 38)) from ((Below.refl _ _).alloc (Nat.le_refl _) _).alloc (by simp) _)
  obtain ⟨x0, hx0⟩ : ∃ x0, x0 = ordN big (wAt l 0) := ⟨_, rfl⟩
  obtain ⟨x4, hx4⟩ : ∃ x4, x4 = ordN big (wAt l 4) := ⟨_, rfl⟩
  obtain ⟨x12, hx12⟩ : ∃ x12, x12 = ordN big (wAt l 12) := ⟨_, rfl⟩
  rw [← hx0] at HC0
  rw [← hx4] at HC4
  rw [← hx12] at HC12
  have HX0 := Lib.hid hx0
  have HX4 := Lib.hid hx4
  have HX12 := Lib.hid hx12
  have HK0 := Lib.hid ((Blk.new w 25 #[.bool big, .int .u32 (sn : Int), .int .u32 (link : Int), .slice AR nR cR]).alloc (.cells #[.int .u32 0, .int .u32 0, .int .u32 0, .slice none 0 0] 38))
  have kz := Blk.new (w.alloc (.cells #[.bool big, .int .u32 (sn : Int), .int .u32 (link : Int), .slice AR nR cR] 25)) 38 #[.int .u32 0, .int .u32 0, .int .u32 0, .slice none 0 0]
  rw [hz0] at kz
  have KZ := Lib.hid kz
  have HL := Lib.hid hl
  have HR0 := Lib.hid hr
  clear hr hb hl hz hx0 hx4 hx12 kz
  go_enter Try.func21, Try.ntmps21
  go_wp2_with fail
  refine (HC8.out _ HB0.out).mono ?_
  rintro o w1 ⟨rfl, q1, hq1⟩
  have HB1 := Lib.hid (show Below w.heap.size w w1 from hq1 ▸ below_drewN HB0.out q1)
  have HK1 := Lib.hid (show Blk w1 w.heap.size 25 #[.bool big, .int .u32 (sn : Int), .int .u32 (link : Int), .slice AR nR cR] from hq1 ▸ HK0.out.drewN q1)
  have KZ1 := Lib.hid (show Blk w1 (w.heap.size + 1) 38 #[.int .u32 0, .int .u32 0, .int .u32 0, .slice none 0 0] from hq1 ▸ KZ.out.drewN q1)
  have HFR := Lib.hid (show ∀ W, Below w1.heap.size w1 W → W.cell? ⟨w.heap.size, 0, none⟩ = some (.bool big) from fun W hW => (HK1.out.below hW HK1.out.lt).cell 0)
  have g0 := HK1.out.cell 0
  clear hq1
  go_upto_region 8 with fail
  go_cut [8] (fun s8 wx => s8 = .pointer (some ⟨w1.heap.size, 0, none⟩) ∧ Blk wx w1.heap.size 38 #[.int .u32 (x0 : Int), .int .u32 (x4 : Int), .int .u32 (x12 : Int), .slice none 0 0] ∧ Below w1.heap.size w1 wx)
  case first =>
    have c0 : ∀ n, ((w1.drewN n).alloc (.cells #[.int .u32 0, .int .u32 0, .int .u32 0, .slice none 0 0] 38)).cell? ⟨w1.heap.size, 0, none⟩ = some (.int .u32 0) := fun n => (Blk.new (w1.drewN n) _ _).cell 0
    have y0 : ∀ n, ((w1.drewN n).alloc (.cells #[.int .u32 0, .int .u32 0, .int .u32 0, .slice none 0 0] 38)).frozen? ⟨w1.heap.size, 0, none⟩ = false := fun n => (Blk.new (w1.drewN n) _ _).frozen 0
    have c1 : ∀ n, ((w1.drewN n).alloc (.cells #[.int .u32 0, .int .u32 0, .int .u32 0, .slice none 0 0] 38)).cell? ⟨w1.heap.size, 1, none⟩ = some (.int .u32 0) := fun n => (Blk.new (w1.drewN n) _ _).cell 1
    have y1 : ∀ n, ((w1.drewN n).alloc (.cells #[.int .u32 0, .int .u32 0, .int .u32 0, .slice none 0 0] 38)).frozen? ⟨w1.heap.size, 1, none⟩ = false := fun n => (Blk.new (w1.drewN n) _ _).frozen 1
    have c2 : ∀ n, ((w1.drewN n).alloc (.cells #[.int .u32 0, .int .u32 0, .int .u32 0, .slice none 0 0] 38)).cell? ⟨w1.heap.size, 2, none⟩ = some (.int .u32 0) := fun n => (Blk.new (w1.drewN n) _ _).cell 2
    have y2 : ∀ n, ((w1.drewN n).alloc (.cells #[.int .u32 0, .int .u32 0, .int .u32 0, .slice none 0 0] 38)).frozen? ⟨w1.heap.size, 2, none⟩ = false := fun n => (Blk.new (w1.drewN n) _ _).frozen 2
    have c3 : ∀ n, ((w1.drewN n).alloc (.cells #[.int .u32 0, .int .u32 0, .int .u32 0, .slice none 0 0] 38)).cell? ⟨w1.heap.size, 3, none⟩ = some (.slice none 0 0) := fun n => (Blk.new (w1.drewN n) _ _).cell 3
    have y3 : ∀ n, ((w1.drewN n).alloc (.cells #[.int .u32 0, .int .u32 0, .int .u32 0, .slice none 0 0] 38)).frozen? ⟨w1.heap.size, 3, none⟩ = false := fun n => (Blk.new (w1.drewN n) _ _).frozen 3
    go_region_held3 (fun w' => w'.cell? ⟨w.heap.size, 0, none⟩ = some (.bool big)) (first | with_reducible assumption | exact HFR.out _ (by (repeat (first | with_reducible exact Below.refl _ _ | apply below_drewN | apply bel_drew | apply bel_alloc | refine bel_set ?_ (Nat.le_refl _) _))))
      (first
        | (go_at_call 19
           (first
            | (with_reducible refine (HC0.out _ (by (repeat (first | with_reducible exact HB1.out | apply below_drewN | apply bel_drew | apply bel_alloc)))).mono ?_)
            | (with_reducible refine (HC4.out _ (by (repeat (first | with_reducible exact HB1.out | apply below_drewN | apply bel_drew | apply bel_alloc)))).mono ?_)
            | (with_reducible refine (HC12.out _ (by (repeat (first | with_reducible exact HB1.out | apply below_drewN | apply bel_drew | apply bel_alloc)))).mono ?_))
           rintro o w3 ⟨rfl, q, rfl⟩))
    all_goals
      generalize hw5 : World.setCell _ ⟨w1.heap.size, 3, none⟩ (.slice none 0 0) = w5
      have KE : Blk w5 w1.heap.size 38 #[.int .u32 (x0 : Int), .int .u32 (x4 : Int), .int .u32 (x12 : Int), .slice none 0 0] := by
        rw [← hw5]
        exact ((((show Blk _ w1.heap.size 38 #[.int .u32 0, .int .u32 0, .int .u32 0, .slice none 0 0] from by (repeat (first | exact Blk.new _ _ _ | apply Blk.drewN | apply Blk.drew))).set_ 0 _).set_ 1 _).set_ 2 _).set_ 3 _
      have BE : Below w1.heap.size w1 w5 := by
        rw [← hw5]
        repeat (first | with_reducible exact Below.refl _ _ | apply below_drewN | apply bel_drew | apply bel_alloc | refine bel_set ?_ (Nat.le_refl _) _)
      clear hw5 c0 c1 c2 c3 y0 y1 y2 y3
      go_wp2_with fail
      go_meet
      exact ⟨rfl, KE, BE⟩
  case rest =>
    obtain ⟨rfl, KE, BE⟩ := hcut
    obtain ⟨AX, hAX, HS1, HS2, HS3⟩ := slice_part g off n c 16 (z + 16) (by omega) hyes hc1
    rw [show z + 16 - 16 = z by omega] at HS1 HS2 HS3
    have r1 : ∀ W : World, (Instr.slice 27 (.slice (some ⟨g, off, none⟩) n c) (some (.int .i64 16)) (some (.int .u64 ((z : Int) + 16))) none).run Try.prog W = .ok (.slice AX z (c - 16)) W := HS1
    have r2 : ∀ W : World, (Instr.sliceAt 27 (.slice (some ⟨g, off, none⟩) n c) (some (.int .i64 16)) (some (.int .u64 ((z : Int) + 16))) none).run Try.prog W = .ok (.slice AX z (c - 16)) W := HS2
    have HROW := Lib.hid (HS3 wc w.heap.size l HL.out (HR0.out.below (HB1.out.trans (BE.mono HB1.out.size))))
    have HCL := Lib.hid (clone_any AX z (c - 16) ((l.drop 16).take z) wc (by rw [List.length_take, List.length_drop, HL.out]; omega) (by omega) (fun h => absurd h hAX) (HROW.out.more (Nat.le_trans HB1.out.size BE.size)))
    have k0 := KE.cell 0
    have HKE := Lib.hid KE
    have HBE := Lib.hid (HB1.out.trans (BE.mono HB1.out.size))
    have HBE1 := Lib.hid BE
    have hwc : w1.heap.size < wc.heap.size := KE.lt
    have HBS := Lib.hid hwc
    clear hwc
    clear HS1 HS2 HS3 hAX KE BE k0
    go_wp2_with fail
    refine HCL.out.mono ?_
    rintro o w6 ⟨v6, rfl, hown, hb6, hs6⟩
    obtain ⟨A6, c6, rfl⟩ := own_slice hown
    have k6 := HKE.out.below hb6 HKE.out.lt
    have z0 := k6.cell 0
    have z1 := k6.cell 1
    have z2 := k6.cell 2
    have z3 := k6.cell 3
    have y3 := k6.frozen 3
    have hlt1 : w.heap.size + 1 < w1.heap.size := KZ1.out.lt
    have hle1 := HBS.out
    have r6 := ((KZ1.out.below HBE1.out hlt1).below hb6 (by omega))
    have v0 := r6.cell 0
    have v1 := r6.cell 1
    have v2 := r6.cell 2
    have v3 := r6.cell 3
    have u0 := r6.frozen 0
    have u1 := r6.frozen 1
    have u2 := r6.frozen 2
    have u3 := r6.frozen 3
    have HKR := Lib.hid (show Blk (((((w6.setCell ⟨w1.heap.size, 3, none⟩ (.slice A6 z c6)).setCell ⟨w.heap.size + 1, 0, none⟩ (.int .u32 (x0 : Int))).setCell ⟨w.heap.size + 1, 1, none⟩ (.int .u32 (x4 : Int))).setCell ⟨w.heap.size + 1, 2, none⟩ (.int .u32 (x12 : Int))).setCell ⟨w.heap.size + 1, 3, none⟩ (.slice A6 z c6)) (w.heap.size + 1) 38 #[.int .u32 (x0 : Int), .int .u32 (x4 : Int), .int .u32 (x12 : Int), .slice A6 z c6] from ((((r6.far (p := ⟨w1.heap.size, 3, none⟩) (by show w.heap.size + 1 ≠ w1.heap.size; omega) _).set_ 0 _).set_ 1 _).set_ 2 _).set_ 3 _)
    have HBF := Lib.hid (show Below w.heap.size w (((((w6.setCell ⟨w1.heap.size, 3, none⟩ (.slice A6 z c6)).setCell ⟨w.heap.size + 1, 0, none⟩ (.int .u32 (x0 : Int))).setCell ⟨w.heap.size + 1, 1, none⟩ (.int .u32 (x4 : Int))).setCell ⟨w.heap.size + 1, 2, none⟩ (.int .u32 (x12 : Int))).setCell ⟨w.heap.size + 1, 3, none⟩ (.slice A6 z c6)) from (((((HBE.out.trans (hb6.mono HBE.out.size)).setCell (show w.heap.size ≤ w1.heap.size by omega) _).setCell (show w.heap.size ≤ w.heap.size + 1 by omega) _).setCell (show w.heap.size ≤ w.heap.size + 1 by omega) _).setCell (show w.heap.size ≤ w.heap.size + 1 by omega) _).setCell (show w.heap.size ≤ w.heap.size + 1 by omega) _)
    have HOF := Lib.hid (show (((((w6.setCell ⟨w1.heap.size, 3, none⟩ (.slice A6 z c6)).setCell ⟨w.heap.size + 1, 0, none⟩ (.int .u32 (x0 : Int))).setCell ⟨w.heap.size + 1, 1, none⟩ (.int .u32 (x4 : Int))).setCell ⟨w.heap.size + 1, 2, none⟩ (.int .u32 (x12 : Int))).setCell ⟨w.heap.size + 1, 3, none⟩ (.slice A6 z c6)).ownsRow wc.heap.size 5 1 (.slice A6 z c6) z (((l.drop 16).take z).map (.int .u8)) from own_set (own_set (own_set (own_set (own_set hown (show w1.heap.size < wc.heap.size by omega) _) (show w.heap.size + 1 < wc.heap.size by omega) _) (show w.heap.size + 1 < wc.heap.size by omega) _) (show w.heap.size + 1 < wc.heap.size by omega) _) (show w.heap.size + 1 < wc.heap.size by omega) _)
    have hne : w.heap.size + 1 ≠ w1.heap.size := by omega
    have hne2 : w1.heap.size ≠ w.heap.size + 1 := by omega
    have e4 : IntKind.i64.wrap ((z : Int) + 16) = (z : Int) + 16 := IntWalk.i64_in _ (by omega)
    clear k6 r6 hown hb6 HCL HROW r1 r2
    go_wp2_with fail
    refine bodyPost_ret (results_rec rfl _ _ (w.heap.size + 1) #[.int .u32 (x0 : Int), .int .u32 (x4 : Int), .int .u32 (x12 : Int), .slice A6 z c6] rfl HKR.out rfl) rfl ?_
    unfold RecPost
    rw [HP.out, ← HX0.out, ← HX4.out, ← HX12.out]
    exact ⟨A6, c6, rfl, own_up HOF.out (Nat.le_trans HB1.out.size (Nat.le_of_lt HBS.out)), HBF.out⟩
end Go.Proofs.Ytmchedjeohhpcaa.pcapK
