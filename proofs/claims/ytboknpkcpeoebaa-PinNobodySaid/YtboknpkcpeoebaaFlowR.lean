/- Layer 27: a flow goes. -/
import Derived.Test.YtboknpkcpeoebaaFlowQ
namespace Go.Proofs.Ytboknpkcpeoebaa.flowR
open Go.ChangeShapes Go.WideShapes Go.ChangeAt Go.RowKit
open Go.Proofs.Ytboknpkcpeoebaa.base Go.Proofs.Ytboknpkcpeoebaa.flowA Go.Proofs.Ytboknpkcpeoebaa.flowB Go.Proofs.Ytboknpkcpeoebaa.flowC Go.Proofs.Ytboknpkcpeoebaa.flowD Go.Proofs.Ytboknpkcpeoebaa.flowE Go.Proofs.Ytboknpkcpeoebaa.flowF Go.Proofs.Ytboknpkcpeoebaa.flowG Go.Proofs.Ytboknpkcpeoebaa.flowH Go.Proofs.Ytboknpkcpeoebaa.flowI Go.Proofs.Ytboknpkcpeoebaa.flowL Go.Proofs.Ytboknpkcpeoebaa.flowM Go.Proofs.Ytboknpkcpeoebaa.flowN Go.Proofs.Ytboknpkcpeoebaa.flowO Go.Proofs.Ytboknpkcpeoebaa.flowP Go.Proofs.Ytboknpkcpeoebaa.flowQ
set_option linter.unusedVariables false

/-- On the way: the table, two entries of the call's own, what is as it was. -/
structure StF (w w' : World) (ta r : Nat) (v : Value) (n : Nat) (seed : Int) (t : Tb Ent) (e0 e1 : Array Value) : Prop where
  mem : MemF w' ta r v n seed t
  b0 : Blk w' w.heap.size 28 e0
  b1 : Blk w' (w.heap.size + 1) 28 e1
  frm : Frm ta r v w w'
  l1 : ta < w.heap.size
  l2 : r < w.heap.size
  l3 : ∀ g, v.ownBlock = some g → g < w.heap.size
section
variable {w w' w2 : World} {ta r : Nat} {v : Value} {n : Nat} {seed : Int} {t t2 : Tb Ent} {e0 e1 : Array Value}
theorem StF.go (S : StF w w' ta r v n seed t e0 e1) (M : MemF w2 ta r v n seed t2) (F : Frm ta r v w' w2) : StF w w2 ta r v n seed t2 e0 e1 := by
  have h1 := S.l1
  have h2 := S.l2
  refine ⟨M, F.blk S.b0 (by omega) (by omega) (fun e => ?_), F.blk S.b1 (by omega) (by omega) (fun e => ?_), S.frm.then F, S.l1, S.l2, S.l3⟩
  · have := S.l3 _ e.symm; omega
  · have := S.l3 _ e.symm; omega
theorem StF.below (S : StF w w' ta r v n seed t e0 e1) (hb : Below w'.heap.size w' w2) : StF w w2 ta r v n seed t e0 e1 := S.go (S.mem.below hb) (Frm.of_below hb)
theorem StF.drew (S : StF w w' ta r v n seed t e0 e1) : StF w w'.drew ta r v n seed t e0 e1 := S.below (Below.refl _ _).drew
theorem lt_of_mem (h : MemF w ta r v n seed t) : ta < w.heap.size ∧ r < w.heap.size ∧ ∀ g, v.ownBlock = some g → g < w.heap.size := by
  refine ⟨h.tab.lt, ?_, fun g e => ?_⟩
  · obtain ⟨cs, h1, _⟩ := h.rows
    exact h1.lt
  · rcases h.pl with ⟨h0, _⟩ | ⟨g2, cap, cs, h1, _, _, h4, _⟩
    · rw [h0] at e; cases e
    · rw [h1] at e
      injection e with e
      exact e ▸ h4.lt
theorem StF.start (h : MemF w ta r v n seed t) (e : Ent) : StF w ((w.alloc (.cells zeroE.cells 28)).alloc (.cells e.cells 28)) ta r v n seed t zeroE.cells e.cells := by
  obtain ⟨h1, h2, h3⟩ := lt_of_mem h
  have hs : (w.alloc (.cells zeroE.cells 28)).heap.size = w.heap.size + 1 := by simp
  refine ⟨(h.alloc _).alloc _, ?_, ?_, ((Frm.refl _ _ _ _).alloc _).alloc _, h1, h2, h3⟩
  · exact (Below.heap_alloc _ _ _ (by rw [hs]; omega)).trans (Blk.new w _ _)
  · have := Blk.new (w.alloc (.cells zeroE.cells 28)) 28 e.cells
    rw [hs] at this
    exact this
end

set_option maxHeartbeats 4000000 in
theorem take_any {w : World} {ta r : Nat} {v : Value} {n : Nat} {seed : Int} {t : Tb Ent} {A B F : List Nat} {C : Nat → List Nat} (a : Nat) (h : MemF w ta r v n seed t) (g0 : GoodF n seed t (A ++ a :: B) F C) (hn : 1 ≤ n) (hn2 : n ≤ 4096) :
    Calls Try.prog 46 #[.pointer (some ⟨ta, 0, none⟩), .int .i64 a] w fun e w' => ∃ x : Nat, e = .returned (.agg (t.ent a).cells) ∧ MemF w' ta r v n seed (takeT t zeroE (rowN n seed (t.ent a).x) a x) ∧ (t.rows (rowN n seed (t.ent a).x) ≠ (a : Int) → ∃ U V, C (rowN n seed (t.ent a).x) = U ++ x :: a :: V) ∧ Frm ta r v w w' := by
  have ha : a < t.np := g0.lt a (.inl (by simp))
  obtain ⟨g, cap, hv, g1, g2, hcp, hm, hc, hfz⟩ := h.place a ha
  subst hv
  unfold maxLen at hm
  have hr : rowN n seed (t.ent a).x < n := (row_in n seed (t.ent a).x hn).2
  have HG := Lib.hid g0
  have c3 := h.cells.2.2.2.1
  have d0 : w.cell? ⟨g, a * 15, none⟩ = some (.int .i64 (t.ent a).x.pr) := hc 0 (by omega)
  have d1 : w.cell? ⟨g, a * 15 + 1, none⟩ = some (.bool (t.ent a).x.s6) := hc 1 (by omega)
  have d2 : w.cell? ⟨g, a * 15 + 2, none⟩ = some (.int .u64 (t.ent a).x.sh) := hc 2 (by omega)
  have d3 : w.cell? ⟨g, a * 15 + 3, none⟩ = some (.int .u64 (t.ent a).x.sl) := hc 3 (by omega)
  have d4 : w.cell? ⟨g, a * 15 + 4, none⟩ = some (.bool (t.ent a).x.d6) := hc 4 (by omega)
  have d5 : w.cell? ⟨g, a * 15 + 5, none⟩ = some (.int .u64 (t.ent a).x.dh) := hc 5 (by omega)
  have d6 : w.cell? ⟨g, a * 15 + 6, none⟩ = some (.int .u64 (t.ent a).x.dl) := hc 6 (by omega)
  have d7 : w.cell? ⟨g, a * 15 + 7, none⟩ = some (.int .i64 (t.ent a).x.sp) := hc 7 (by omega)
  have d8 : w.cell? ⟨g, a * 15 + 8, none⟩ = some (.int .i64 (t.ent a).x.dp) := hc 8 (by omega)
  have d9 : w.cell? ⟨g, a * 15 + 9, none⟩ = some (.int .i64 (t.ent a).host) := hc 9 (by omega)
  have d10 : w.cell? ⟨g, a * 15 + 10, none⟩ = some (.int .i64 (t.ent a).state) := hc 10 (by omega)
  have d11 : w.cell? ⟨g, a * 15 + 11, none⟩ = some (.int .i64 (t.ent a).till) := hc 11 (by omega)
  have p0 : (0 : Int) ≤ a := by omega
  have p1 : (a : Int) < t.np := by omega
  have HST := Lib.hid (StF.start h (t.ent a))
  obtain ⟨l1, l2, l3⟩ := lt_of_mem h
  have gl : g < w.heap.size := l3 g rfl
  obtain ⟨w2, hw2⟩ : ∃ w2, w2 = (w.alloc (.cells zeroE.cells 28)).alloc (.cells (t.ent a).cells 28) := ⟨_, rfl⟩
  rw [← hw2] at HST
  have HR := Lib.hid (show Calls Try.prog 48 #[.pointer (some ⟨ta, 0, none⟩), .agg #[.int .i64 (t.ent a).x.pr, .bool (t.ent a).x.s6, .int .u64 (t.ent a).x.sh, .int .u64 (t.ent a).x.sl, .bool (t.ent a).x.d6, .int .u64 (t.ent a).x.dh, .int .u64 (t.ent a).x.dl, .int .i64 (t.ent a).x.sp, .int .i64 (t.ent a).x.dp]] w2 fun e w' => e = .returned (.int .i64 (rowN n seed (t.ent a).x)) ∧ Below w2.heap.size w2 w' from row_any (t.ent a).x HST.out.mem hn hn2)
  obtain ⟨rr, hrr⟩ : ∃ rr, rr = rowN n seed (t.ent a).x := ⟨_, rfl⟩
  rw [← hrr] at HR hr ⊢
  have sz : 1 ≤ t.size := by rw [g0.size]; simp; omega
  have sz2 : t.size ≤ 4096 := by
    have h1 := g0.perm.length_eq
    have h2 := g0.cap
    rw [List.length_append, List.length_range] at h1
    rw [g0.size]
    omega
  have hwr : IntKind.i64.wrap ((t.size : Int) - 1) = ((t.size - 1 : Nat) : Int) := by rw [IntWalk.i64_in _ (by omega)]; omega
  have hso := seg_out A B a g0.lru.seg g0.lru.nd
  have HQ := Lib.hid (show t.nw a = -1 ∨ ∃ q : Nat, t.nw a = (q : Int) ∧ q < t.np from by
    rw [hso.1]
    rcases lastZ_cons A (-1) with e | ⟨A', q, e, el⟩
    · exact .inl (by rw [e]; rfl)
    · exact .inr ⟨q, el, g0.lt q (.inl (by rw [e]; simp))⟩)
  have HP := Lib.hid (show t.od a = -1 ∨ ∃ q : Nat, t.od a = (q : Int) ∧ q < t.np from by
    rw [hso.2.1]
    cases B with
    | nil => exact .inl rfl
    | cons q B => exact .inr ⟨q, rfl, g0.lt q (.inl (by simp))⟩)
  have d14 : ∀ w' t', MemF w' ta r (.slice (some ⟨g, 0, none⟩) t.np cap) n seed t' → t'.np = t.np → t'.bh a = t.bh a → w'.cell? ⟨g, a * 15 + 14, none⟩ = some (.int .i64 (t.bh a)) := fun w' t' h' e1 e2 => by
    rw [← e2]
    exact (h'.placeOf a (by omega)).1 14 (by omega)
  have D14 := Lib.hid d14
  obtain ⟨Zp, hZp⟩ : ∃ Zp, Zp = cellsOf zeroE 0 0 0 := ⟨_, rfl⟩
  have hz : ∀ w : World, (zeroValue 98).run Try.prog w = .ok (.agg Zp) w := by rw [hZp]; exact zero_p
  have hzs : Zp.size = 15 := by rw [hZp]; rfl
  have HZP := Lib.hid hZp
  have HIN := Lib.hid (show a ∈ C rr from (HG.out.mem rr hr a).mpr ⟨by simp, by rw [hrr]⟩)
  have n1 : ta ≠ w.heap.size := by omega
  have n2 : ta ≠ w.heap.size + 1 := by omega
  have HRR := Lib.hid hrr
  clear h g0 hc hfz d14 l3 hso hrr hZp
  go_enter Try.func46, Try.ntmps46
  go_wp2_with fail
  rw [show (w.alloc (.cells #[.int .i64 0, .bool false, .int .u64 0, .int .u64 0, .bool false, .int .u64 0, .int .u64 0, .int .i64 0, .int .i64 0, .int .i64 0, .int .i64 0, .int .i64 0] 28)).alloc (.cells #[.int .i64 (t.ent a).x.pr, .bool (t.ent a).x.s6, .int .u64 (t.ent a).x.sh, .int .u64 (t.ent a).x.sl, .bool (t.ent a).x.d6, .int .u64 (t.ent a).x.dh, .int .u64 (t.ent a).x.dl, .int .i64 (t.ent a).x.sp, .int .i64 (t.ent a).x.dp, .int .i64 (t.ent a).host, .int .i64 (t.ent a).state, .int .i64 (t.ent a).till] 28) = w2 from hw2.symm]
  refine (HR.out).mono ?_
  rintro e w3 ⟨rfl, hb⟩
  have S3 := Lib.hid (HST.out.below hb)
  clear hb HR hw2 HST c3 d0 d1 d2 d3 d4 d5 d6 d7 d8 d9 d10 d11
  have c3 := S3.out.mem.cells.2.2.2.1
  have c4 := S3.out.mem.cells.2.2.2.2.1
  have cr := (S3.out.mem.row rr hr).1
  have cf := (S3.out.mem.row rr hr).2
  have q14 := D14.out w3 t S3.out.mem rfl rfl
  have r0 : (0 : Int) ≤ rr := by omega
  have r1 : (rr : Int) < n := by omega
  by_cases hfst : t.rows rr = (a : Int)
  · rw [hfst] at cr
    have SA := Lib.hid (S3.out.drew.go (S3.out.mem.drew.setRow rr hr (t.bh a)) ((Frm.refl ta r (.slice (some ⟨g, 0, none⟩) t.np cap) w3.drew).setCell (p := ⟨r, rr, none⟩) (.inr (.inl rfl)) (.int .i64 (t.bh a))))
    go_wp2_with fail
    go_region
    go_wp2_with fail
    refine (flowK.unlink_any a SA.out.mem ha HQ.out HP.out).mono ?_
    rintro e wB ⟨rfl, hmB, hfB⟩
    have SB := Lib.hid (SA.out.go hmB hfB)
    clear hmB hfB
    have c3B := SB.out.mem.cells.2.2.2.1
    have c5B : wB.cell? ⟨ta, 5, none⟩ = some (.int .i64 t.free) := SB.out.mem.cells.2.2.2.2.2.1
    have HSB := store_allC (t := unlinkT { t with rows := updF t.rows rr (t.bh a) } a) SB.out.mem.drew a ha zeroE 0 0 t.free
    have SC0 := SB.out.drew.go (MemF.setAll (t := unlinkT { t with rows := updF t.rows rr (t.bh a) } a) SB.out.mem.drew a ha zeroE 0 0 t.free) (Frm.setCells (.inr (.inr (.inl rfl))) _ _ (a * 15) (Frm.refl ta r (.slice (some ⟨g, 0, none⟩) t.np cap) wB.drew))
    obtain ⟨wC, hwC⟩ : ∃ wC, wC = wB.drew.setCells g (a * 15) (cellsOf zeroE 0 0 t.free).toList := ⟨_, rfl⟩
    have hSB : (storeCells ⟨g, a * 15, none⟩ (Zp.toList.set 14 (.int .i64 t.free)) 0).run Try.prog wB.drew = .ok () wC := by rw [HZP.out, hwC]; exact HSB
    have SC := Lib.hid (hwC ▸ SC0)
    clear HSB SC0 hwC
    have f5C := SC.out.mem.cells.2.2.2.2.2.2.2.2 5
    have f2C := SC.out.mem.cells.2.2.2.2.2.2.2.2 2
    have c2C : wC.cell? ⟨ta, 2, none⟩ = some (.int .i64 t.size) := SC.out.mem.cells.2.2.1
    have c5C : wC.cell? ⟨ta, 5, none⟩ = some (.int .i64 t.free) := SC.out.mem.cells.2.2.2.2.2.1
    have HM6 := ((SC.out.mem.setFree a).setSize (t.size - 1))
    have SD0 := SC.out.go HM6 (((Frm.refl ta r (.slice (some ⟨g, 0, none⟩) t.np cap) wC).setCell (p := ⟨ta, 5, none⟩) (.inl rfl) (.int .i64 a)).setCell (p := ⟨ta, 2, none⟩) (.inl rfl) (.int .i64 (t.size - 1 : Nat)))
    clear HM6
    have SD := Lib.hid SD0
    have HF := Lib.hid (frm_setRow SD0.frm w.heap.size (Nat.le_refl _) (t.ent a).cells)
    have HBL := Lib.hid (setRow_heap _ w.heap.size _ (t.ent a).cells _ (0, 0) SD0.b0)
    have HME := Lib.hid (SD0.mem.sameB (w' := ((wC.setCell ⟨ta, 5, none⟩ (.int .i64 a)).setCell ⟨ta, 2, none⟩ (.int .i64 (t.size - 1 : Nat))).setRow w.heap.size (t.ent a).cells) (fun k hk => setRow_other _ _ _ _ (by
      rcases hk with hk | hk | hk
      · omega
      · omega
      · have e2 : g = k := by injection hk
        omega)))
    clear SD0
    go_wp2_with fail
    go_region
    go_wp2_with (first
      | (refine wpList_load_row rfl 28 _ rfl (w.heap.size + 1) rfl 28 (t.ent a).cells (0, 0) _ SD.out.b1 Try.underlying28 rfl size_e ?_)
      | (refine wpList_store_row rfl 28 _ _ rfl w.heap.size (t.ent a).cells rfl rfl 28 zeroE.cells SD.out.b0 size_e rfl (one_e _) ?_))
    refine bodyPost_ret (v := .agg (t.ent a).cells) (results_cell_row rfl _ _ w.heap.size 28 (t.ent a).cells (0, 0) _ rfl HBL.out Try.underlying28 rfl size_e) rfl ?_
    refine ⟨0, rfl, ?_, fun h => absurd hfst h, HF.out⟩
    unfold takeT outRows outBh
    rw [if_pos hfst, if_pos hfst]
    exact HME.out
  · have q1 : (t.rows rr == (a : Int)) = false := by simp [hfst]
    have HC := Lib.hid (HG.out.rch rr hr)
    obtain ⟨b, V, hCb⟩ : ∃ b V, C rr = b :: V := by
      cases hC : C rr with
      | nil => have := HIN.out; rw [hC] at this; cases this
      | cons b V => exact ⟨b, V, rfl⟩
    have hb : t.rows rr = (b : Int) := by rw [HG.out.rows rr hr, hCb]; rfl
    have hba : b ≠ a := fun e => hfst (by rw [hb, e])
    have HAH := Lib.hid (ahead_start hCb HIN.out hba)
    have HN := Lib.hid hfst
    have hVl : V.length + 1 = (C rr).length := by rw [hCb]; rfl
    have HVL := Lib.hid hVl
    have HCL := Lib.hid (show ∀ y, y ∈ C rr → y < t.np from fun y hy => HG.out.lt y (.inl ((HG.out.mem rr hr y).mp hy).1))
    rw [hb] at cr q1
    clear hfst hb hba hCb hVl
    have q2 : ((b : Int) == (a : Int)) = false := q1
    go_wp2_with fail
    go_loopg [7] V.length (fun f y' wr => ∃ (U : List Nat) (y : Nat) (R : List Nat), y' = .int .i64 (y : Int) ∧ R.length = f ∧ Ahead (C rr) a U y R ∧ Below w3.heap.size w3 wr)
    case atStart => exact ⟨[], b, V, rfl, rfl, HAH.out, Below.refl _ _⟩
    case round =>
      obtain ⟨U, y, R, rfl, hlen, hah, hbel⟩ := hrel
      have SR := Lib.hid (S3.out.below hbel)
      have KB := Lib.hid hbel
      have KL := Lib.hid hlen
      obtain ⟨b2, V2, hR, hbh, hyes, hno⟩ := ahead_step hah HC.out
      have hy : y < t.np := HCL.out y (by rw [hah.all]; simp)
      have y0 : (0 : Int) ≤ y := by omega
      have y1 : (y : Int) < t.np := by omega
      have hpl := SR.out.mem.placeOf y hy
      have y14 : wr.cell? ⟨g, y * 15 + 14, none⟩ = some (.int .i64 (t.bh y)) := hpl.1 14 (by omega)
      have yf := hpl.2 (y * 15 + 14)
      have c3r := SR.out.mem.cells.2.2.2.1
      have a14 := D14.out wr t SR.out.mem rfl rfl
      rw [hbh] at y14
      clear hbel hlen hpl c3 c4 cr cf q14
      by_cases hba : b2 = a
      · have HFD := Lib.hid (hyes hba)
        subst hba
        have q3 : ((b2 : Int) != (b2 : Int)) = false := by simp
        have SA := Lib.hid (SR.out.drew.go (SR.out.mem.drew.setBh g cap y hy rfl (t.bh b2)) ((Frm.refl ta r (.slice (some ⟨g, 0, none⟩) t.np cap) wr.drew).setCell (p := ⟨g, y * 15 + 14, none⟩) (.inr (.inr (.inl rfl))) (.int .i64 (t.bh b2))))
        clear hyes hno hah hR hbh
        go_wp2_with fail
        go_region
        go_wp2_with fail
        refine (flowK.unlink_any b2 SA.out.mem ha HQ.out HP.out).mono ?_
        rintro e wB ⟨rfl, hmB, hfB⟩
        have SB := Lib.hid (SA.out.go hmB hfB)
        clear hmB hfB
        have c3B := SB.out.mem.cells.2.2.2.1
        have c5B : wB.cell? ⟨ta, 5, none⟩ = some (.int .i64 t.free) := SB.out.mem.cells.2.2.2.2.2.1
        have HSB := store_allC (t := unlinkT { t with bh := updF t.bh y (t.bh b2) } b2) SB.out.mem.drew b2 ha zeroE 0 0 t.free
        have SC0 := SB.out.drew.go (MemF.setAll (t := unlinkT { t with bh := updF t.bh y (t.bh b2) } b2) SB.out.mem.drew b2 ha zeroE 0 0 t.free) (Frm.setCells (.inr (.inr (.inl rfl))) _ _ (b2 * 15) (Frm.refl ta r (.slice (some ⟨g, 0, none⟩) t.np cap) wB.drew))
        obtain ⟨wC, hwC⟩ : ∃ wC, wC = wB.drew.setCells g (b2 * 15) (cellsOf zeroE 0 0 t.free).toList := ⟨_, rfl⟩
        have hSB : (storeCells ⟨g, b2 * 15, none⟩ (Zp.toList.set 14 (.int .i64 t.free)) 0).run Try.prog wB.drew = .ok () wC := by rw [HZP.out, hwC]; exact HSB
        have SC := Lib.hid (hwC ▸ SC0)
        clear HSB SC0 hwC
        have f5C := SC.out.mem.cells.2.2.2.2.2.2.2.2 5
        have f2C := SC.out.mem.cells.2.2.2.2.2.2.2.2 2
        have c2C : wC.cell? ⟨ta, 2, none⟩ = some (.int .i64 t.size) := SC.out.mem.cells.2.2.1
        have c5C : wC.cell? ⟨ta, 5, none⟩ = some (.int .i64 t.free) := SC.out.mem.cells.2.2.2.2.2.1
        have HM6 := ((SC.out.mem.setFree b2).setSize (t.size - 1))
        have SD0 := SC.out.go HM6 (((Frm.refl ta r (.slice (some ⟨g, 0, none⟩) t.np cap) wC).setCell (p := ⟨ta, 5, none⟩) (.inl rfl) (.int .i64 b2)).setCell (p := ⟨ta, 2, none⟩) (.inl rfl) (.int .i64 (t.size - 1 : Nat)))
        clear HM6
        have SD := Lib.hid SD0
        have HF := Lib.hid (frm_setRow SD0.frm w.heap.size (Nat.le_refl _) (t.ent b2).cells)
        have HBL := Lib.hid (setRow_heap _ w.heap.size _ (t.ent b2).cells _ (0, 0) SD0.b0)
        have HME := Lib.hid (SD0.mem.sameB (w' := ((wC.setCell ⟨ta, 5, none⟩ (.int .i64 b2)).setCell ⟨ta, 2, none⟩ (.int .i64 (t.size - 1 : Nat))).setRow w.heap.size (t.ent b2).cells) (fun k hk => setRow_other _ _ _ _ (by
          rcases hk with hk | hk | hk
          · omega
          · omega
          · have e2 : g = k := by injection hk
            omega)))
        clear SD0
        go_wp2_with fail
        go_region
        go_wp2_with (first
          | (refine wpList_load_row rfl 28 _ rfl (w.heap.size + 1) rfl 28 (t.ent b2).cells (0, 0) _ SD.out.b1 Try.underlying28 rfl size_e ?_)
          | (refine wpList_store_row rfl 28 _ _ rfl w.heap.size (t.ent b2).cells rfl rfl 28 zeroE.cells SD.out.b0 size_e rfl (one_e _) ?_))
        refine bodyPost_ret (v := .agg (t.ent b2).cells) (results_cell_row rfl _ _ w.heap.size 28 (t.ent b2).cells (0, 0) _ rfl HBL.out Try.underlying28 rfl size_e) rfl ?_
        refine ⟨y, rfl, ?_, fun _ => ⟨_, _, HFD.out⟩, HF.out⟩
        unfold takeT outRows outBh
        rw [if_neg HN.out, if_neg HN.out]
        exact HME.out
      · have HNX := Lib.hid (hno hba)
        have q3 : ((b2 : Int) != (a : Int)) = true := by simp; omega
        have HL2 := Lib.hid (show R.length = V2.length + 1 by rw [hR]; rfl)
        clear hyes hno hah hR hbh hba
        go_wp2_with fail
        go_roundg V2.length
        case measure => have h1 := KL.out; have h2 := HL2.out; omega
        case rel => exact ⟨_, b2, V2, rfl, rfl, HNX.out, KB.out⟩
end Go.Proofs.Ytboknpkcpeoebaa.flowR
