/- Layer 29: Pin. -/
import Derived.Test.YtboknpkcpeoebaaPinC
import Derived.Deep.RegionHeld3
import Derived.IntWalk
namespace Go.Proofs.Ytboknpkcpeoebaa.pinD
open Go.ChangeShapes Go.WideShapes Go.ChangeAt Go.RowKit
open Go.Proofs.Ytboknpkcpeoebaa.base Go.Proofs.Ytboknpkcpeoebaa.flowE Go.Proofs.Ytboknpkcpeoebaa.flowG Go.Proofs.Ytboknpkcpeoebaa.flowI Go.Proofs.Ytboknpkcpeoebaa.flowP Go.Proofs.Ytboknpkcpeoebaa.flowS Go.Proofs.Ytboknpkcpeoebaa.flowT Go.Proofs.Ytboknpkcpeoebaa.flowX Go.Proofs.Ytboknpkcpeoebaa.connD Go.Proofs.Ytboknpkcpeoebaa.pinA
open Go.Proofs.Ytboknpkcpeoebaa.pinB Go.Proofs.Ytboknpkcpeoebaa.pinC Go.Proofs.Ytboknpkcpeoebaa.flowO Go.Proofs.Ytboknpkcpeoebaa.connA Go.Proofs.Ytboknpkcpeoebaa.connB
set_option linter.unusedVariables false

/-- What a walk of Pin keeps: the pins, the flow, the cells of its result. -/
structure In (pa : Nat) (pv : Array Value) (w0 : Nat) (x : Tup) (W : World) : Prop where
  pins : Blk W pa 34 pv
  box : Blk W w0 26 x.cells
  res : Blk W (w0 + 1) 36 (goneC zeroE 0)
section
variable {pa w0 : Nat} {pv : Array Value} {x : Tup} {W W' : World}
theorem In.below (h : In pa pv w0 x W) (hb : Below W.heap.size W W') : In pa pv w0 x W' := ⟨h.pins.below hb h.pins.lt, h.box.below hb h.box.lt, h.res.below hb h.res.lt⟩
theorem In.alloc (h : In pa pv w0 x W) (o : Obj) : In pa pv w0 x (W.alloc o) := h.below ((Below.refl _ _).alloc (Nat.le_refl _) o)
theorem In.drew (h : In pa pv w0 x W) : In pa pv w0 x W.drew := ⟨h.pins.drew, h.box.drew, h.res.drew⟩
theorem In.row (h : In pa pv w0 x W) (hp : pa < w0) (q : Nat) (hq : w0 + 2 ≤ q) (cs : Array Value) : In pa pv w0 x (W.setRow q cs) :=
  ⟨(setRow_other _ _ _ _ (by omega)).trans h.pins, (setRow_other _ _ _ _ (by omega)).trans h.box, (setRow_other _ _ _ _ (by omega)).trans h.res⟩
end
theorem tab_lt {w : World} {ta r : Nat} {v : Value} {n : Nat} {seed : Int} {l : List Ent} (h : Tab w ta r v n seed l) : ∀ k, (k = ta ∨ k = r ∨ v.ownBlock = some k) → k < w.heap.size := by
  obtain ⟨t, L, F, C, hm, hg, hl⟩ := h
  intro k hk
  rcases hk with rfl | rfl | hk
  · exact hm.tab.lt
  · obtain ⟨cs, h1, _⟩ := hm.rows
    exact h1.lt
  · rcases hm.pl with ⟨h0, _⟩ | ⟨g, cap, cs, h1, h2, h3, h4, _⟩
    · rw [h0] at hk; cases hk
    · rw [h1] at hk
      have e2 : some g = some k := hk
      injection e2 with e2
      rw [← e2]
      exact h4.lt
theorem In.frm {pa w0 ta r : Nat} {v : Value} {pv : Array Value} {x : Tup} {W W' : World} (h : In pa pv w0 x W) (hf : Frm ta r v W W') (hp : pa ≠ ta ∧ pa ≠ r ∧ ∀ g, v.ownBlock = some g → pa ≠ g) (ho : ∀ k, (k = ta ∨ k = r ∨ v.ownBlock = some k) → k < w0) : In pa pv w0 x W' := by
  have h1 := ho ta (.inl rfl)
  have h2 := ho r (.inr (.inl rfl))
  refine ⟨hf.blk h.pins hp.1 hp.2.1 (fun e => hp.2.2 pa e.symm rfl), hf.blk h.box (by omega) (by omega) (fun e => ?_), hf.blk h.res (by omega) (by omega) (fun e => ?_)⟩
  · have := ho _ (.inr (.inr e.symm)); omega
  · have := ho _ (.inr (.inr e.symm)); omega
/-- How long a flow of a state may be silent from now on. -/
def tillZ (R : Rl) (now st : Int) : Int := now + idleZ R.a R.b R.c R.d st
theorem idle_in {R : Rl} (h : rightB R.a R.b R.c R.d = true) (s : Int) : 0 ≤ idleZ R.a R.b R.c R.d s ∧ idleZ R.a R.b R.c R.d s ≤ 1073741824 := by
  unfold rightB at h
  simp only [Bool.and_eq_true] at h
  obtain ⟨⟨⟨h1, h2⟩, h3⟩, h4⟩ := h
  have k1 := in_yes h1
  have k2 := in_yes h2
  have k3 := in_yes h3
  have k4 := in_yes h4
  unfold idleZ
  split
  · omega
  · split
    · omega
    · split
      · omega
      · split <;> omega
set_option maxHeartbeats 2000000 in
theorem until_any (pa ta : Nat) (R : Rl) (now st : Int) (W : World) (hb : Blk W pa 34 #[.pointer (some ⟨ta, 0, none⟩), .int .i64 R.a, .int .i64 R.b, .int .i64 R.c, .int .i64 R.d, .int .i64 now]) (hr : rightB R.a R.b R.c R.d = true) (t0 : 0 ≤ now) (t1 : now ≤ 1099511627776) :
    Calls Try.prog 24 #[.pointer (some ⟨pa, 0, none⟩), .int .i64 st] W fun e w' => e = .returned (.int .i64 (tillZ R now st)) ∧ Below W.heap.size W w' := by
  have hi := idle_in hr st
  have he : tillZ R now st = now + idleZ R.a R.b R.c R.d st := rfl
  have HI := Lib.hid (fun W' => idle_any R.a R.b R.c R.d st W')
  generalize tillZ R now st = tz at *
  generalize idleZ R.a R.b R.c R.d st = z at *
  have HE := Lib.hid he
  have wz : IntKind.i64.wrap (now + z) = now + z := IntWalk.i64_in _ (by omega)
  have HFR := Lib.hid (show ∀ W', Below W.heap.size W W' → (W'.cell? ⟨pa, 1, none⟩ = some (.int .i64 R.a) ∧ W'.cell? ⟨pa, 2, none⟩ = some (.int .i64 R.b) ∧ W'.cell? ⟨pa, 3, none⟩ = some (.int .i64 R.c) ∧ W'.cell? ⟨pa, 4, none⟩ = some (.int .i64 R.d) ∧ W'.cell? ⟨pa, 5, none⟩ = some (.int .i64 now)) from fun W' h => by
    have hk := hb.below h hb.lt
    exact ⟨hk.cell 1, hk.cell 2, hk.cell 3, hk.cell 4, hk.cell 5⟩)
  have s0 := HFR.out _ (Below.refl _ _).drew
  clear he hi hb hr t0 t1
  go_enter Try.func24, Try.ntmps24
  go_wp2_with fail
  go_region_held3 (fun w' => w'.cell? ⟨pa, 1, none⟩ = some (.int .i64 R.a) ∧ w'.cell? ⟨pa, 2, none⟩ = some (.int .i64 R.b) ∧ w'.cell? ⟨pa, 3, none⟩ = some (.int .i64 R.c) ∧ w'.cell? ⟨pa, 4, none⟩ = some (.int .i64 R.d) ∧ w'.cell? ⟨pa, 5, none⟩ = some (.int .i64 now)) (first | with_reducible assumption)
    (first
      | (go_at_call 40
         (with_reducible refine (HI.out _).mono ?_)
         rintro o w3 ⟨rfl, hb⟩
         have hb3 : Below W.heap.size W w3 := below_dr hb
         have s3 := HFR.out w3 hb3
         have HB3 := Lib.hid hb3
         clear hb hb3))
  clear s0 s3
  go_wp2_with fail
  go_ret
  exact ⟨by rw [HE.out]; rfl, HB3.out⟩
/-- What a table's Put has done. -/
def PutOk (e : Ent) (l : List Ent) (n : Nat) (GC : Array Value) (ok : Bool) (l2 : List Ent) : Prop := ∃ y : Ent, GC = y.cells ∧ ((∃ A e0 B, l = A ++ e0 :: B ∧ e0.x = e.x ∧ y = zeroE ∧ ok = false ∧ l2 = e :: (A ++ B)) ∨ ((∀ e0, e0 ∈ l → e0.x ≠ e.x) ∧ l.length < n ∧ y = zeroE ∧ ok = false ∧ l2 = e :: l) ∨ ((∀ e0, e0 ∈ l → e0.x ≠ e.x) ∧ l.length = n ∧ ∃ A, l = A ++ [y] ∧ ok = true ∧ l2 = e :: A))
theorem put_ok (e : Ent) {w : World} {ta r : Nat} {v : Value} {n : Nat} {seed : Int} {l : List Ent} (h : Tab w ta r v n seed l) (hn : 1 ≤ n) (hn2 : n ≤ 4096) :
    Calls Try.prog 23 #[.pointer (some ⟨ta, 0, none⟩), .agg e.cells] w fun o w' => ∃ GC ok v2 l2, o = .returned (.tuple #[.agg GC, .bool ok]) ∧ Frm ta r v w w' ∧ (∀ g, v2.ownBlock = some g → v.ownBlock = some g ∨ w.heap.size ≤ g) ∧ Tab w' ta r v2 n seed l2 ∧ PutOk e l n GC ok l2 := by
  refine (put_tab e h hn hn2).mono ?_
  rintro o w' ⟨v2, hf, hv, ⟨A, e0, B, h1, h2, h3, h4⟩ | ⟨h1, h2, h3, h4⟩ | ⟨h1, h2, A, e0, h3, h4, h5⟩⟩
  · exact ⟨_, _, v2, _, h3, hf, hv, h4, zeroE, rfl, .inl ⟨A, e0, B, h1, h2, rfl, rfl, rfl⟩⟩
  · exact ⟨_, _, v2, _, h3, hf, hv, h4, zeroE, rfl, .inr (.inl ⟨h1, h2, rfl, rfl, rfl⟩)⟩
  · exact ⟨_, _, v2, _, h4, hf, hv, h5, e0, rfl, .inr (.inr ⟨h1, h2, A, h3, rfl, rfl⟩)⟩
section
variable {w : World} {pa ta r : Nat} {v : Value} {n : Nat} {seed : Int} {R : Rl} {now : Int} {l : List Ent}
theorem post_eq {Q : Ending → World → Prop} {o o' : Ending} {W : World} (h : o = o') (hp : Q o' W) : Q o W := h ▸ hp
/-- What Pin tells, and leaves. -/
def PinPost (pa ta r : Nat) (v : Value) (n : Nat) (seed : Int) (R : Rl) (now : Int) (l : List Ent) (x : Tup) (hst f : Int) (w : World) (o : Ending) (w' : World) : Prop :=
  ∃ y why ok v2 l2, o = .returned (.tuple #[.agg (goneC y why), .bool ok]) ∧ Pn w' pa ta r v2 n seed R now l2 ∧ Frm ta r v w w' ∧ (∀ g, v2.ownBlock = some g → v.ownBlock = some g ∨ w.heap.size ≤ g) ∧
    ((beginZ x.pr f = 4 ∧ y = zeroE ∧ why = 0 ∧ ok = false ∧ l2 = l) ∨ (beginZ x.pr f ≠ 4 ∧ (ok = false → why = 0 ∧ y = zeroE) ∧ (ok = true → why = 4) ∧ PutOk ⟨x, hst, beginZ x.pr f, tillZ R now (beginZ x.pr f)⟩ l n y.cells ok l2))
set_option maxRecDepth 100000 in
set_option maxHeartbeats 8000000 in
theorem pin_any (x : Tup) (hst f : Int) (h : Pn w pa ta r v n seed R now l) (hn : 1 ≤ n) (hn2 : n ≤ 4096) :
    Calls Try.prog 6 #[.pointer (some ⟨pa, 0, none⟩), .agg x.cells, .int .i64 hst, .int .i64 f] w (PinPost pa ta r v n seed R now l x hst f w) := by
  obtain ⟨w1, hw1⟩ : ∃ w1, w1 = (w.alloc (.cells #[.int .i64 x.pr, .bool x.s6, .int .u64 x.sh, .int .u64 x.sl, .bool x.d6, .int .u64 x.dh, .int .u64 x.dl, .int .i64 x.sp, .int .i64 x.dp] 26)).alloc (.cells #[.int .i64 0, .bool false, .int .u64 0, .int .u64 0, .bool false, .int .u64 0, .int .u64 0, .int .i64 0, .int .i64 0, .int .i64 0, .int .i64 0, .int .i64 0, .int .i64 0] 36) := ⟨_, rfl⟩
  have hb1 : Below w.heap.size w w1 := hw1 ▸ ((Below.refl w.heap.size w).alloc (Nat.le_refl _) _).alloc (by simp) _
  have hs1 : w1.heap.size = w.heap.size + 2 := by rw [hw1]; simp
  have HP1 := Lib.hid (h.far hb1)
  have hin1 : In pa #[.pointer (some ⟨ta, 0, none⟩), .int .i64 R.a, .int .i64 R.b, .int .i64 R.c, .int .i64 R.d, .int .i64 now] w.heap.size x w1 := ⟨HP1.out.blk, hw1 ▸ (Blk.new w _ _).alloc _, hw1 ▸ (by
    have := Blk.new (w.alloc (.cells #[.int .i64 x.pr, .bool x.s6, .int .u64 x.sh, .int .u64 x.sl, .bool x.d6, .int .u64 x.dh, .int .u64 x.dl, .int .i64 x.sp, .int .i64 x.dp] 26)) 36 #[.int .i64 0, .bool false, .int .u64 0, .int .u64 0, .bool false, .int .u64 0, .int .u64 0, .int .i64 0, .int .i64 0, .int .i64 0, .int .i64 0, .int .i64 0, .int .i64 0]
    rw [show (w.alloc (.cells #[.int .i64 x.pr, .bool x.s6, .int .u64 x.sh, .int .u64 x.sl, .bool x.d6, .int .u64 x.dh, .int .u64 x.dl, .int .i64 x.sp, .int .i64 x.dp] 26)).heap.size = w.heap.size + 1 by simp] at this
    exact this)⟩
  have HB1 := Lib.hid hb1
  have HOL := Lib.hid (tab_lt h.tab)
  have hpa := h.blk.lt
  have HPA := Lib.hid hpa
  have HNE := Lib.hid (show pa ≠ ta ∧ pa ≠ r ∧ ∀ g, v.ownBlock = some g → pa ≠ g from ⟨h.na, h.nr, h.nv⟩)
  have HOK := Lib.hid (show rightB R.a R.b R.c R.d = true ∧ 0 ≤ now ∧ now ≤ 1099511627776 from ⟨h.ok, h.t0, h.t1⟩)
  have HH := Lib.hid h
  have HMD := Lib.hid HP1.out.made
  have HW1 := Lib.hid hw1
  have HS1 := Lib.hid hs1
  have HIN1 := Lib.hid hin1
  have HBG := Lib.hid (fun W => begin_any x.pr f W)
  have hst2 : ∃ st, st = beginZ x.pr f := ⟨_, rfl⟩
  obtain ⟨st, hst2⟩ := hst2
  have htl2 : ∃ tl, tl = tillZ R now st := ⟨_, rfl⟩
  obtain ⟨tl, htl2⟩ := htl2
  have HUN := Lib.hid (show ∀ W, In pa #[.pointer (some ⟨ta, 0, none⟩), .int .i64 R.a, .int .i64 R.b, .int .i64 R.c, .int .i64 R.d, .int .i64 now] w.heap.size x W → Calls Try.prog 24 #[.pointer (some ⟨pa, 0, none⟩), .int .i64 st] W fun e w' => e = .returned (.int .i64 tl) ∧ Below W.heap.size W w' from fun W hi => by
    rw [htl2]
    exact until_any pa ta R now st W hi.pins HOK.out.1 HOK.out.2.1 HOK.out.2.2)
  have HPU := Lib.hid (show ∀ W, Tab W ta r v n seed l → Calls Try.prog 23 #[.pointer (some ⟨ta, 0, none⟩), .agg #[.int .i64 x.pr, .bool x.s6, .int .u64 x.sh, .int .u64 x.sl, .bool x.d6, .int .u64 x.dh, .int .u64 x.dl, .int .i64 x.sp, .int .i64 x.dp, .int .i64 hst, .int .i64 st, .int .i64 tl]] W fun o w' => ∃ GC ok v2 l2, o = .returned (.tuple #[.agg GC, .bool ok]) ∧ Frm ta r v W w' ∧ (∀ g, v2.ownBlock = some g → v.ownBlock = some g ∨ W.heap.size ≤ g) ∧ Tab w' ta r v2 n seed l2 ∧ PutOk ⟨x, hst, st, tl⟩ l n GC ok l2 from fun W ht => put_ok ⟨x, hst, st, tl⟩ ht hn hn2)
  rw [← hst2] at HBG
  have HST := Lib.hid hst2
  have HTL := Lib.hid htl2
  unfold Tup.cells
  clear hb1 hw1 hs1 hin1 h hst2 htl2
  go_enter Try.func6, Try.ntmps6
  go_wp2_with fail
  rw [← HW1.out]
  refine HMD.out.mono ?_
  rintro e w2 ⟨rfl, hb⟩
  have hin2 := HIN1.out.below hb
  have HB2 := Lib.hid (HB1.out.trans (hb.mono HB1.out.size))
  have HT2 := Lib.hid (HP1.out.tab.far hb)
  have HSZ2 := Lib.hid (show w.heap.size + 2 ≤ w2.heap.size by rw [← HS1.out]; exact hb.size)
  have c0 : w2.cell? ⟨w.heap.size, 0, none⟩ = some (.int .i64 x.pr) := hin2.box.cell 0
  have HIN2 := Lib.hid hin2
  clear hb hin2
  go_wp2_with fail
  refine (HBG.out _).mono ?_
  rintro e w2b ⟨rfl, hb⟩
  have HINB := Lib.hid (HIN2.out.below hb)
  have HBB := Lib.hid (HB2.out.trans (hb.mono HB2.out.size))
  have HTB := Lib.hid (HT2.out.far hb)
  have HSZB := Lib.hid (show w.heap.size + 2 ≤ w2b.heap.size from Nat.le_trans HSZ2.out hb.size)
  clear hb c0 HIN2 HB2 HT2 HSZ2
  by_cases h4 : st = 4
  · have t4 : (st == 4) = true := beq_iff_eq.mpr h4
    have HBL := Lib.hid (setRow_heap _ (w.heap.size + 1) _ (goneC zeroE 0) _ (0, 0) HINB.out.res)
    have HFZ := Lib.hid (frm_setRow (Frm.of_below (ta := ta) (r := r) (v := v) HBB.out) (w.heap.size + 1) (by omega) (goneC zeroE 0))
    have HTZ := Lib.hid (HTB.out.sameB (w' := w2b.setRow (w.heap.size + 1) (goneC zeroE 0)) (fun k hk => setRow_other _ _ _ _ (by have := HOL.out k hk; omega)))
    have HP := Lib.hid (show PinPost pa ta r v n seed R now l x hst f w (.returned (.tuple #[.agg (goneC zeroE 0), .bool false])) (w2b.setRow (w.heap.size + 1) (goneC zeroE 0)) from
      ⟨zeroE, 0, false, v, l, rfl, HH.out.frm HFZ.out HTZ.out (fun g e => .inl e), HFZ.out, fun g e => .inl e, .inl ⟨by rw [← HST.out]; exact h4, rfl, rfl, rfl, rfl⟩⟩)
    clear h4
    go_wp2_with (refine wpList_store_row rfl 36 _ _ rfl (w.heap.size + 1) (goneC zeroE 0) rfl rfl 36 (goneC zeroE 0) HINB.out.res size_g rfl (one_g _ _) ?_)
    refine bodyPost_ret (results_gone (p := 8) (u := 9) rfl _ _ (w.heap.size + 1) (goneC zeroE 0) rfl HBL.out rfl) rfl (post_eq (Q := PinPost pa ta r v n seed R now l x hst f w) rfl HP.out)
  · have t4 : (st == 4) = false := beq_eq_false_iff_ne.mpr h4
    have H4 := Lib.hid (show beginZ x.pr f ≠ 4 by rw [← HST.out]; exact h4)
    clear h4
    obtain ⟨w2, hw2⟩ : ∃ w2, w2 = w2b := ⟨_, rfl⟩
    rw [← hw2] at HINB HBB HTB HSZB ⊢
    clear hw2
    have HFR := Lib.hid (show ∀ W : World, In pa #[.pointer (some ⟨ta, 0, none⟩), .int .i64 R.a, .int .i64 R.b, .int .i64 R.c, .int .i64 R.d, .int .i64 now] w.heap.size x W → (W.cell? ⟨pa, 0, none⟩ = some (.pointer (some ⟨ta, 0, none⟩)) ∧ W.cell? ⟨w.heap.size, 0, none⟩ = some (.int .i64 x.pr) ∧ W.cell? ⟨w.heap.size, 1, none⟩ = some (.bool x.s6) ∧ W.cell? ⟨w.heap.size, 2, none⟩ = some (.int .u64 x.sh) ∧ W.cell? ⟨w.heap.size, 3, none⟩ = some (.int .u64 x.sl) ∧ W.cell? ⟨w.heap.size, 4, none⟩ = some (.bool x.d6) ∧ W.cell? ⟨w.heap.size, 5, none⟩ = some (.int .u64 x.dh) ∧ W.cell? ⟨w.heap.size, 6, none⟩ = some (.int .u64 x.dl) ∧ W.cell? ⟨w.heap.size, 7, none⟩ = some (.int .i64 x.sp) ∧ W.cell? ⟨w.heap.size, 8, none⟩ = some (.int .i64 x.dp)) from fun W hi => ⟨hi.pins.cell 0, hi.box.cell 0, hi.box.cell 1, hi.box.cell 2, hi.box.cell 3, hi.box.cell 4, hi.box.cell 5, hi.box.cell 6, hi.box.cell 7, hi.box.cell 8⟩)
    have HSZ2 := Lib.hid HSZB.out
    have KI2 := Lib.hid HINB.out.drew
    have KI2a := Lib.hid (HINB.out.alloc (.cells #[.int .i64 0, .bool false, .int .u64 0, .int .u64 0, .bool false, .int .u64 0, .int .u64 0, .int .i64 0, .int .i64 0, .int .i64 0, .int .i64 0, .int .i64 0] 28)).drew
    have s0 := HFR.out _ KI2.out
    have s00 := HFR.out _ KI2a.out
    go_wp2_with fail
    go_region_held3 (fun w' => w'.cell? ⟨pa, 0, none⟩ = some (.pointer (some ⟨ta, 0, none⟩)) ∧ w'.cell? ⟨w.heap.size, 0, none⟩ = some (.int .i64 x.pr) ∧ w'.cell? ⟨w.heap.size, 1, none⟩ = some (.bool x.s6) ∧ w'.cell? ⟨w.heap.size, 2, none⟩ = some (.int .u64 x.sh) ∧ w'.cell? ⟨w.heap.size, 3, none⟩ = some (.int .u64 x.sl) ∧ w'.cell? ⟨w.heap.size, 4, none⟩ = some (.bool x.d6) ∧ w'.cell? ⟨w.heap.size, 5, none⟩ = some (.int .u64 x.dh) ∧ w'.cell? ⟨w.heap.size, 6, none⟩ = some (.int .u64 x.dl) ∧ w'.cell? ⟨w.heap.size, 7, none⟩ = some (.int .i64 x.sp) ∧ w'.cell? ⟨w.heap.size, 8, none⟩ = some (.int .i64 x.dp)) (first | with_reducible assumption)
      (first
        | (go_at_call 24
           (first | (with_reducible refine (HUN.out _ KI2.out).mono ?_) | (with_reducible refine (HUN.out _ KI2a.out).mono ?_))
           rintro o w3 ⟨rfl, hb⟩
           have hb3 : Below w2.heap.size w2 w3 := by first | exact below_al hb | exact below_dr hb
           have KI3 := Lib.hid (HINB.out.below hb3)
           have KI3a := Lib.hid (KI3.out.alloc (.cells #[.int .i64 0, .bool false, .int .u64 0, .int .u64 0, .bool false, .int .u64 0, .int .u64 0, .int .i64 0, .int .i64 0, .int .i64 0, .int .i64 0, .int .i64 0] 28))
           have s3 := HFR.out _ KI3.out
           have s3a := HFR.out _ KI3a.out
           have KT3 := Lib.hid (HTB.out.far hb3)
           have KT3a := Lib.hid (KT3.out.far ((Below.refl w3.heap.size w3).alloc (Nat.le_refl _) (.cells #[.int .i64 0, .bool false, .int .u64 0, .int .u64 0, .bool false, .int .u64 0, .int .u64 0, .int .i64 0, .int .i64 0, .int .i64 0, .int .i64 0, .int .i64 0] 28)))
           have FR3 := Lib.hid (Frm.of_below (ta := ta) (r := r) (v := v) (HBB.out.trans (hb3.mono HBB.out.size)))
           have FR3a := Lib.hid (FR3.out.alloc (.cells #[.int .i64 0, .bool false, .int .u64 0, .int .u64 0, .bool false, .int .u64 0, .int .u64 0, .int .i64 0, .int .i64 0, .int .i64 0, .int .i64 0, .int .i64 0] 28))
           have HSZ3 := Lib.hid (Nat.le_trans HSZ2.out hb3.size)
           try (have hq := (Blk.new w2 28 #[.int .i64 0, .bool false, .int .u64 0, .int .u64 0, .bool false, .int .u64 0, .int .u64 0, .int .i64 0, .int .i64 0, .int .i64 0, .int .i64 0, .int .i64 0]).drew.below hb (by simp); have HQ3 := Lib.hid hq; have HLT3 := Lib.hid (show w2.heap.size < w3.heap.size from hq.lt); clear hq)
           clear hb hb3)
        | (go_at_call 23
           (first | (with_reducible refine (HPU.out _ KT3.out).mono ?_) | (with_reducible refine (HPU.out _ KT3a.out).mono ?_))
           rintro o w4 ⟨GC, ok, v2, l2, rfl, hf, hv, ht, hok⟩
           obtain ⟨y, hy, hd⟩ := hok
           subst hy
           have hsz : y.cells.size = 12 := rfl
           have HF4 := Lib.hid (show Frm ta r v w w4 by first | exact FR3.out.then hf | exact FR3a.out.then hf)
           have KI4 := Lib.hid (show In pa #[.pointer (some ⟨ta, 0, none⟩), .int .i64 R.a, .int .i64 R.b, .int .i64 R.c, .int .i64 R.d, .int .i64 now] w.heap.size x w4 by first | exact KI3.out.frm hf HNE.out HOL.out | exact KI3a.out.frm hf HNE.out HOL.out)
           have HV4 := Lib.hid (show ∀ g, v2.ownBlock = some g → v.ownBlock = some g ∨ w.heap.size ≤ g from fun g e => (hv g e).imp id (fun h9 => by first | exact Nat.le_trans FR3.out.size h9 | exact Nat.le_trans FR3a.out.size h9))
           have HVP := Lib.hid (show ∀ g, v2.ownBlock = some g → g < w.heap.size ∨ w3.heap.size ≤ g from fun g e => (hv g e).imp (fun h9 => HOL.out g (.inr (.inr h9))) (fun h9 => by first | exact h9 | exact Nat.le_trans (by simp) h9))
           have HD := Lib.hid hd
           have HT4 := Lib.hid ht
           have HSZ4 := Lib.hid (show w.heap.size + 2 ≤ w4.heap.size by first | exact Nat.le_trans HSZ3.out hf.size | exact Nat.le_trans (Nat.le_trans HSZ3.out (by simp)) hf.size)
           have s4 := HFR.out _ KI4.out
           have s4a := HFR.out _ (KI4.out.alloc (.cells #[.int .i64 0, .bool false, .int .u64 0, .int .u64 0, .bool false, .int .u64 0, .int .u64 0, .int .i64 0, .int .i64 0, .int .i64 0, .int .i64 0, .int .i64 0] 28))
           have hs4 := store_e (w4.alloc (.cells #[.int .i64 0, .bool false, .int .u64 0, .int .u64 0, .bool false, .int .u64 0, .int .u64 0, .int .i64 0, .int .i64 0, .int .i64 0, .int .i64 0, .int .i64 0] 28)) w4.heap.size _ y (Blk.new w4 _ _) rfl
           have s5 := HFR.out _ ((KI4.out.alloc (.cells #[.int .i64 0, .bool false, .int .u64 0, .int .u64 0, .bool false, .int .u64 0, .int .u64 0, .int .i64 0, .int .i64 0, .int .i64 0, .int .i64 0, .int .i64 0] 28)).row HPA.out w4.heap.size HSZ4.out y.cells)
           try (have hq := hf.blk (Blk.new w3 28 #[.int .i64 0, .bool false, .int .u64 0, .int .u64 0, .bool false, .int .u64 0, .int .u64 0, .int .i64 0, .int .i64 0, .int .i64 0, .int .i64 0, .int .i64 0]) (by have := HOL.out ta (.inl rfl); have := HSZ3.out; omega) (by have := HOL.out r (.inr (.inl rfl)); have := HSZ3.out; omega) (fun e => by have := HOL.out _ (.inr (.inr e.symm)); have := HSZ3.out; omega); have hs2 := store_e w4 w3.heap.size _ y hq rfl; have s6 := HFR.out _ (KI4.out.row HPA.out w3.heap.size HSZ3.out y.cells); have HQ4b := Lib.hid hq; have HVP2 := Lib.hid (show ∀ g, v2.ownBlock = some g → g < w.heap.size ∨ w3.heap.size + 1 ≤ g from fun g e => (hv g e).imp (fun h9 => HOL.out g (.inr (.inr h9))) (fun h9 => by simpa using h9)); clear hq)
           try (have hq := hf.blk HQ3.out (by have := HOL.out ta (.inl rfl); have := HSZ2.out; omega) (by have := HOL.out r (.inr (.inl rfl)); have := HSZ2.out; omega) (fun e => by have := HOL.out _ (.inr (.inr e.symm)); have := HSZ2.out; omega); have hs1 := store_e w4 w2.heap.size _ y hq rfl; have s7 := HFR.out _ (KI4.out.row HPA.out w2.heap.size HSZ2.out y.cells); have HQ4 := Lib.hid hq; clear hq)
           clear hd hf hv ht))
    all_goals
      first
      | (have KE := Lib.hid (show Blk (w4.setRow w2.heap.size y.cells) w2.heap.size 28 y.cells from setRow_heap _ _ _ y.cells _ (0, 0) HQ4.out)
         have QL := Lib.hid (show w.heap.size + 2 ≤ w2.heap.size from HSZ2.out)
         have IX := Lib.hid ((KI4.out).row HPA.out w2.heap.size QL.out y.cells)
         have FX := Lib.hid (frm_setRow HF4.out w2.heap.size (by have := QL.out; omega) y.cells)
         have KQ := Lib.hid (show ∀ k, (k = ta ∨ k = r ∨ v2.ownBlock = some k) → k ≠ w2.heap.size ∧ k ≠ w.heap.size + 1 from fun k hk => by
           have a1 := HOL.out ta (.inl rfl)
           have a2 := HOL.out r (.inr (.inl rfl))
           have a3 := QL.out
           have a4 := HSZ3.out
           have a5 := HLT3.out
           rcases hk with hk | hk | hk
           · omega
           · omega
           · have a7 := HVP.out k hk
             skip
             omega)
         have TX := Lib.hid (HT4.out.sameB (w' := w4.setRow w2.heap.size y.cells) (fun k hk => (setRow_other _ _ _ _ (by have := (KQ.out k hk).1; omega))))
         clear s0 s00 s3 s3a s4 s4a hs4 s5 hs1 s7 HQ4
         obtain ⟨w5, hw5⟩ : ∃ w5, w5 = w4.setRow w2.heap.size y.cells := ⟨_, rfl⟩
         obtain ⟨q, hq⟩ : ∃ q, q = w2.heap.size := ⟨_, rfl⟩
         rw [← hw5] at KE IX FX TX ⊢
         rw [← hq] at KE QL KQ ⊢
         clear hw5 hq)
      | (have KE := Lib.hid (show Blk (w4.setRow w3.heap.size y.cells) w3.heap.size 28 y.cells from setRow_heap _ _ _ y.cells _ (0, 0) HQ4b.out)
         have QL := Lib.hid (show w.heap.size + 2 ≤ w3.heap.size from HSZ3.out)
         have IX := Lib.hid ((KI4.out).row HPA.out w3.heap.size QL.out y.cells)
         have FX := Lib.hid (frm_setRow HF4.out w3.heap.size (by have := QL.out; omega) y.cells)
         have KQ := Lib.hid (show ∀ k, (k = ta ∨ k = r ∨ v2.ownBlock = some k) → k ≠ w3.heap.size ∧ k ≠ w.heap.size + 1 from fun k hk => by
           have a1 := HOL.out ta (.inl rfl)
           have a2 := HOL.out r (.inr (.inl rfl))
           have a3 := QL.out
           have a4 := HSZ3.out
           have a5 := HVP2
           rcases hk with hk | hk | hk
           · omega
           · omega
           · have a7 := HVP.out k hk
             have a8 := HVP2.out k hk
             omega)
         have TX := Lib.hid (HT4.out.sameB (w' := w4.setRow w3.heap.size y.cells) (fun k hk => (setRow_other _ _ _ _ (by have := (KQ.out k hk).1; omega))))
         clear s0 s00 s3 s3a s4 s4a hs4 s5 hs2 s6 HQ4b
         obtain ⟨w5, hw5⟩ : ∃ w5, w5 = w4.setRow w3.heap.size y.cells := ⟨_, rfl⟩
         obtain ⟨q, hq⟩ : ∃ q, q = w3.heap.size := ⟨_, rfl⟩
         rw [← hw5] at KE IX FX TX ⊢
         rw [← hq] at KE QL KQ ⊢
         clear hw5 hq)
      | (have KE := Lib.hid (show Blk ((w4.alloc (.cells #[.int .i64 0, .bool false, .int .u64 0, .int .u64 0, .bool false, .int .u64 0, .int .u64 0, .int .i64 0, .int .i64 0, .int .i64 0, .int .i64 0, .int .i64 0] 28)).setRow w4.heap.size y.cells) w4.heap.size 28 y.cells from setRow_heap _ _ _ y.cells _ (0, 0) (Blk.new w4 _ _))
         have QL := Lib.hid (show w.heap.size + 2 ≤ w4.heap.size from HSZ4.out)
         have IX := Lib.hid ((KI4.out.alloc (.cells #[.int .i64 0, .bool false, .int .u64 0, .int .u64 0, .bool false, .int .u64 0, .int .u64 0, .int .i64 0, .int .i64 0, .int .i64 0, .int .i64 0, .int .i64 0] 28)).row HPA.out w4.heap.size QL.out y.cells)
         have FX := Lib.hid (frm_setRow (HF4.out.alloc (.cells #[.int .i64 0, .bool false, .int .u64 0, .int .u64 0, .bool false, .int .u64 0, .int .u64 0, .int .i64 0, .int .i64 0, .int .i64 0, .int .i64 0, .int .i64 0] 28)) w4.heap.size (by have := QL.out; omega) y.cells)
         have KQ := Lib.hid (show ∀ k, (k = ta ∨ k = r ∨ v2.ownBlock = some k) → k ≠ w4.heap.size ∧ k ≠ w.heap.size + 1 from fun k hk => by
           have a1 := HOL.out ta (.inl rfl)
           have a2 := HOL.out r (.inr (.inl rfl))
           have a3 := QL.out
           have a4 := HSZ3.out
           have a5 := tab_lt HT4.out k hk
           rcases hk with hk | hk | hk
           · omega
           · omega
           · have a7 := HVP.out k hk
             skip
             omega)
         have TX := Lib.hid (HT4.out.sameB (w' := (w4.alloc (.cells #[.int .i64 0, .bool false, .int .u64 0, .int .u64 0, .bool false, .int .u64 0, .int .u64 0, .int .i64 0, .int .i64 0, .int .i64 0, .int .i64 0, .int .i64 0] 28)).setRow w4.heap.size y.cells) (fun k hk => (setRow_other _ _ _ _ (by have := (KQ.out k hk).1; omega)).trans (Below.heap_alloc _ _ _ (tab_lt HT4.out k hk))))
         clear s0 s00 s3 s3a s4 s4a hs4 s5
         obtain ⟨w5, hw5⟩ : ∃ w5, w5 = (w4.alloc (.cells #[.int .i64 0, .bool false, .int .u64 0, .int .u64 0, .bool false, .int .u64 0, .int .u64 0, .int .i64 0, .int .i64 0, .int .i64 0, .int .i64 0, .int .i64 0] 28)).setRow w4.heap.size y.cells := ⟨_, rfl⟩
         obtain ⟨q, hq⟩ : ∃ q, q = w4.heap.size := ⟨_, rfl⟩
         rw [← hw5] at KE IX FX TX ⊢
         rw [← hq] at KE QL KQ ⊢
         clear hw5 hq)
    all_goals
      cases ok
      · obtain rfl : y = zeroE := by
          rcases HD.out with ⟨_, _, _, _, _, h, _⟩ | ⟨_, _, h, _⟩ | ⟨_, _, _, _, h, _⟩
          · exact h
          · exact h
          · cases h
        have HBL := Lib.hid (setRow_heap _ (w.heap.size + 1) _ (goneC zeroE 0) _ (0, 0) IX.out.res)
        have HFZ := Lib.hid (frm_setRow FX.out (w.heap.size + 1) (by omega) (goneC zeroE 0))
        have HTZ := Lib.hid (TX.out.sameB (w' := w5.setRow (w.heap.size + 1) (goneC zeroE 0)) (fun k hk => setRow_other _ _ _ _ (by have := (KQ.out k hk).2; omega)))
        have HP := Lib.hid (show PinPost pa ta r v n seed R now l x hst f w (.returned (.tuple #[.agg (goneC zeroE 0), .bool false])) (w5.setRow (w.heap.size + 1) (goneC zeroE 0)) from
          ⟨zeroE, 0, false, v2, l2, rfl, HH.out.frm HFZ.out HTZ.out HV4.out, HFZ.out, HV4.out, .inr ⟨H4.out, fun _ => ⟨rfl, rfl⟩, (fun e => by cases e), zeroE, rfl, by rw [← HST.out, ← HTL.out]; exact HD.out⟩⟩)
        go_wp2_with (refine wpList_store_row rfl 36 _ _ rfl (w.heap.size + 1) (goneC zeroE 0) rfl rfl 36 (goneC zeroE 0) IX.out.res size_g rfl (one_g _ _) ?_)
        refine bodyPost_ret (results_gone (p := 8) (u := 9) rfl _ _ (w.heap.size + 1) (goneC zeroE 0) rfl HBL.out rfl) rfl (post_eq (Q := PinPost pa ta r v n seed R now l x hst f w) rfl HP.out)
      · have HBL := Lib.hid (setRow_heap _ (w.heap.size + 1) _ (goneC y 4) _ (0, 0) IX.out.res)
        have HFZ := Lib.hid (frm_setRow FX.out (w.heap.size + 1) (by omega) (goneC y 4))
        have HTZ := Lib.hid (TX.out.sameB (w' := w5.setRow (w.heap.size + 1) (goneC y 4)) (fun k hk => setRow_other _ _ _ _ (by have := (KQ.out k hk).2; omega)))
        have HP := Lib.hid (show PinPost pa ta r v n seed R now l x hst f w (.returned (.tuple #[.agg (goneC y 4), .bool true])) (w5.setRow (w.heap.size + 1) (goneC y 4)) from
          ⟨y, 4, true, v2, l2, rfl, HH.out.frm HFZ.out HTZ.out HV4.out, HFZ.out, HV4.out, .inr ⟨H4.out, (fun e => by cases e), fun _ => rfl, y, rfl, by rw [← HST.out, ← HTL.out]; exact HD.out⟩⟩)
        have e20 : w5.cell? ⟨q, 0, none⟩ = some (.int .i64 y.x.pr) := KE.out.cell 0
        have e21 : w5.cell? ⟨q, 1, none⟩ = some (.bool y.x.s6) := KE.out.cell 1
        have e22 : w5.cell? ⟨q, 2, none⟩ = some (.int .u64 y.x.sh) := KE.out.cell 2
        have e23 : w5.cell? ⟨q, 3, none⟩ = some (.int .u64 y.x.sl) := KE.out.cell 3
        have e24 : w5.cell? ⟨q, 4, none⟩ = some (.bool y.x.d6) := KE.out.cell 4
        have e25 : w5.cell? ⟨q, 5, none⟩ = some (.int .u64 y.x.dh) := KE.out.cell 5
        have e26 : w5.cell? ⟨q, 6, none⟩ = some (.int .u64 y.x.dl) := KE.out.cell 6
        have e27 : w5.cell? ⟨q, 7, none⟩ = some (.int .i64 y.x.sp) := KE.out.cell 7
        have e28 : w5.cell? ⟨q, 8, none⟩ = some (.int .i64 y.x.dp) := KE.out.cell 8
        have e29 : w5.cell? ⟨q, 9, none⟩ = some (.int .i64 y.host) := KE.out.cell 9
        have e30 : w5.cell? ⟨q, 10, none⟩ = some (.int .i64 y.state) := KE.out.cell 10
        have e31 : w5.cell? ⟨q, 11, none⟩ = some (.int .i64 y.till) := KE.out.cell 11
        go_wp2_with (refine wpList_store_row rfl 36 _ _ rfl (w.heap.size + 1) (goneC y 4) rfl rfl 36 (goneC zeroE 0) IX.out.res size_g rfl (one_g _ _) ?_)
        refine bodyPost_ret (results_gone (p := 8) (u := 9) rfl _ _ (w.heap.size + 1) (goneC y 4) rfl HBL.out rfl) rfl (post_eq (Q := PinPost pa ta r v n seed R now l x hst f w) rfl HP.out)
end
end Go.Proofs.Ytboknpkcpeoebaa.pinD
