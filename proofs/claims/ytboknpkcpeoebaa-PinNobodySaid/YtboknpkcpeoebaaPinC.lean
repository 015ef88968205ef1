/- Layer 29: pins that are made. -/
import Derived.Test.YtboknpkcpeoebaaPinB
import Derived.Test.YtboknpkcpeoebaaFlowY
import Derived.Deep.RegionHeld3
namespace Go.Proofs.Ytboknpkcpeoebaa.pinC
open Go.ChangeShapes Go.WideShapes Go.ChangeAt Go.RowKit
open Go.Proofs.Ytboknpkcpeoebaa.base Go.Proofs.Ytboknpkcpeoebaa.flowE Go.Proofs.Ytboknpkcpeoebaa.flowG Go.Proofs.Ytboknpkcpeoebaa.flowI Go.Proofs.Ytboknpkcpeoebaa.flowP Go.Proofs.Ytboknpkcpeoebaa.flowS Go.Proofs.Ytboknpkcpeoebaa.flowT Go.Proofs.Ytboknpkcpeoebaa.flowX Go.Proofs.Ytboknpkcpeoebaa.connD Go.Proofs.Ytboknpkcpeoebaa.pinA
open Go.Proofs.Ytboknpkcpeoebaa.pinB
set_option linter.unusedVariables false

/-- A rule. -/
structure Rl where
  a : Int
  b : Int
  c : Int
  d : Int
/-- Pins, as a list of flows, and a time. -/
structure Pn (w : World) (pa ta r : Nat) (v : Value) (n : Nat) (seed : Int) (R : Rl) (now : Int) (l : List Ent) : Prop where
  blk : Blk w pa 34 #[.pointer (some ⟨ta, 0, none⟩), .int .i64 R.a, .int .i64 R.b, .int .i64 R.c, .int .i64 R.d, .int .i64 now]
  tab : Tab w ta r v n seed l
  na : pa ≠ ta
  nr : pa ≠ r
  nv : ∀ g, v.ownBlock = some g → pa ≠ g
  ok : rightB R.a R.b R.c R.d = true
  t0 : 0 ≤ now
  t1 : now ≤ 1099511627776
section
variable {w : World} {pa ta r : Nat} {v : Value} {n : Nat} {seed : Int} {R : Rl} {now : Int} {l : List Ent}
theorem Pn.far (h : Pn w pa ta r v n seed R now l) {w' : World} (hb : Below w.heap.size w w') : Pn w' pa ta r v n seed R now l :=
  ⟨h.blk.below hb h.blk.lt, h.tab.far hb, h.na, h.nr, h.nv, h.ok, h.t0, h.t1⟩
theorem Pn.frm (h : Pn w pa ta r v n seed R now l) {w' : World} {v2 : Value} {l2 : List Ent} (hf : Frm ta r v w w') (ht : Tab w' ta r v2 n seed l2) (hv : ∀ g, v2.ownBlock = some g → v.ownBlock = some g ∨ w.heap.size ≤ g) : Pn w' pa ta r v2 n seed R now l2 :=
  ⟨hf.blk h.blk h.na h.nr (fun e => h.nv pa e.symm rfl), ht, h.na, h.nr, fun g e => by
    rcases hv g e with h1 | h1
    · exact h.nv g h1
    · have := h.blk.lt; omega, h.ok, h.t0, h.t1⟩
theorem Pn.made (h : Pn w pa ta r v n seed R now l) : Calls Try.prog 21 #[.pointer (some ⟨pa, 0, none⟩)] w fun e w' => e = .returned (.bool true) ∧ Below w.heap.size w w' := by
  have := made_any pa R.a R.b R.c R.d w (h.blk.cell 1) (h.blk.cell 2) (h.blk.cell 3) (h.blk.cell 4)
  rw [h.ok] at this
  exact this
/-- What is known of a flow. -/
def GetOk (x : Tup) (l : List Ent) (YC : Array Value) (ok : Bool) : Prop := ∃ y : Ent, YC = y.cells ∧ ((ok = false ∧ ∀ e, e ∈ l → e.x ≠ x) ∨ (ok = true ∧ y ∈ l ∧ y.x = x))
theorem below_dr {w2 w3 : World} (h : Below w2.drew.heap.size w2.drew w3) : Below w2.heap.size w2 w3 := (Below.refl w2.heap.size w2).drew.trans h
theorem below_al {w2 w3 : World} {o : Obj} (h : Below (w2.alloc o).drew.heap.size (w2.alloc o).drew w3) : Below w2.heap.size w2 w3 := (((Below.refl w2.heap.size w2).alloc (Nat.le_refl _) o).drew).trans (h.mono (by simp))
theorem store_e (W : World) (q : Nat) (old : Array Value) (y : Ent) (h : Blk W q 28 old) (ho : old.size = 12) : (storeCells ⟨q, 0, none⟩ y.cells.toList).run Try.prog W = .ok () (W.setRow q y.cells) := by
  have := run_storeCells_from (P := Try.prog) q 28 y.cells.toList 0 old W h (by simp [Ent.cells]; omega) (fun u hu => flowU.one_el y u hu)
  simpa [Ent.cells, ho] using this
def HostPost (x : Tup) (l : List Ent) (w : World) (e : Ending) (w' : World) : Prop := Below w.heap.size w w' ∧ ((e = .returned (.int .i64 (-1)) ∧ ∀ e, e ∈ l → e.x ≠ x) ∨ ∃ y, y ∈ l ∧ y.x = x ∧ e = .returned (.int .i64 y.host))
set_option maxRecDepth 100000 in
set_option maxHeartbeats 4000000 in
theorem host_any (x : Tup) (h : Pn w pa ta r v n seed R now l) (hn : 1 ≤ n) (hn2 : n ≤ 4096) :
    Calls Try.prog 9 #[.pointer (some ⟨pa, 0, none⟩), .agg x.cells] w (HostPost x l w) := by
  obtain ⟨w1, hw1⟩ : ∃ w1, w1 = w.alloc (.cells #[.int .i64 x.pr, .bool x.s6, .int .u64 x.sh, .int .u64 x.sl, .bool x.d6, .int .u64 x.dh, .int .u64 x.dl, .int .i64 x.sp, .int .i64 x.dp] 26) := ⟨_, rfl⟩
  have hb1 : Below w.heap.size w w1 := hw1 ▸ (Below.refl w.heap.size w).alloc (Nat.le_refl _) _
  have HB1 := Lib.hid hb1
  have HP1 := Lib.hid (h.far hb1)
  have HX1 := Lib.hid (show Blk w1 w.heap.size 26 x.cells from hw1 ▸ Blk.new w _ _)
  have HMD := Lib.hid HP1.out.made
  have HW1 := Lib.hid hw1
  have HGT := Lib.hid (show ∀ W, Below w1.heap.size w1 W → Calls Try.prog 25 #[.pointer (some ⟨ta, 0, none⟩), .agg #[.int .i64 x.pr, .bool x.s6, .int .u64 x.sh, .int .u64 x.sl, .bool x.d6, .int .u64 x.dh, .int .u64 x.dl, .int .i64 x.sp, .int .i64 x.dp]] W fun o w' => ∃ YC ok, o = .returned (.tuple #[.agg YC, .bool ok]) ∧ Below W.heap.size W w' ∧ GetOk x l YC ok from fun W hb => (get_tab x (HP1.out.far hb).tab hn hn2).mono fun o w' ⟨hb, hd⟩ => by
    rcases hd with ⟨h1, h2⟩ | ⟨y, h1, h2, h3⟩
    · exact ⟨_, _, h1, hb, zeroE, rfl, .inl ⟨rfl, h2⟩⟩
    · exact ⟨_, _, h3, hb, y, rfl, .inr ⟨rfl, h1, h2⟩⟩)
  clear hb1 hw1 h
  unfold Tup.cells
  go_enter Try.func9, Try.ntmps9
  go_wp2_with fail
  rw [← HW1.out]
  refine HMD.out.mono ?_
  rintro e w2 ⟨rfl, hb⟩
  have HFR := Lib.hid (show ∀ W : World, Below w2.heap.size w2 W → (W.cell? ⟨pa, 0, none⟩ = some (.pointer (some ⟨ta, 0, none⟩)) ∧ W.cell? ⟨w.heap.size, 0, none⟩ = some (.int .i64 x.pr) ∧ W.cell? ⟨w.heap.size, 1, none⟩ = some (.bool x.s6) ∧ W.cell? ⟨w.heap.size, 2, none⟩ = some (.int .u64 x.sh) ∧ W.cell? ⟨w.heap.size, 3, none⟩ = some (.int .u64 x.sl) ∧ W.cell? ⟨w.heap.size, 4, none⟩ = some (.bool x.d6) ∧ W.cell? ⟨w.heap.size, 5, none⟩ = some (.int .u64 x.dh) ∧ W.cell? ⟨w.heap.size, 6, none⟩ = some (.int .u64 x.dl) ∧ W.cell? ⟨w.heap.size, 7, none⟩ = some (.int .i64 x.sp) ∧ W.cell? ⟨w.heap.size, 8, none⟩ = some (.int .i64 x.dp)) from fun W hb2 => by
    have hz := hb.trans (hb2.mono hb.size)
    have h1 := (HP1.out.far hz).blk
    have h2 := HX1.out.below hz HX1.out.lt
    exact ⟨h1.cell 0, h2.cell 0, h2.cell 1, h2.cell 2, h2.cell 3, h2.cell 4, h2.cell 5, h2.cell 6, h2.cell 7, h2.cell 8⟩)
  have HB2 := Lib.hid (HB1.out.trans (hb.mono HB1.out.size))
  have H12 := Lib.hid hb
  clear hb
  have s0 := HFR.out _ (Below.refl _ _).drew
  have s00 := HFR.out (w2.alloc (.cells #[.int .i64 0, .bool false, .int .u64 0, .int .u64 0, .bool false, .int .u64 0, .int .u64 0, .int .i64 0, .int .i64 0, .int .i64 0, .int .i64 0, .int .i64 0] 28)).drew ((Below.refl _ _).alloc (Nat.le_refl _) _).drew
  go_wp2_with fail
  go_region_held3 (fun w' => w'.cell? ⟨pa, 0, none⟩ = some (.pointer (some ⟨ta, 0, none⟩)) ∧ w'.cell? ⟨w.heap.size, 0, none⟩ = some (.int .i64 x.pr) ∧ w'.cell? ⟨w.heap.size, 1, none⟩ = some (.bool x.s6) ∧ w'.cell? ⟨w.heap.size, 2, none⟩ = some (.int .u64 x.sh) ∧ w'.cell? ⟨w.heap.size, 3, none⟩ = some (.int .u64 x.sl) ∧ w'.cell? ⟨w.heap.size, 4, none⟩ = some (.bool x.d6) ∧ w'.cell? ⟨w.heap.size, 5, none⟩ = some (.int .u64 x.dh) ∧ w'.cell? ⟨w.heap.size, 6, none⟩ = some (.int .u64 x.dl) ∧ w'.cell? ⟨w.heap.size, 7, none⟩ = some (.int .i64 x.sp) ∧ w'.cell? ⟨w.heap.size, 8, none⟩ = some (.int .i64 x.dp)) (first | with_reducible assumption)
    (first
      | (go_at_call 25
         (first | (with_reducible refine (HGT.out _ H12.out.drew).mono ?_) | (with_reducible refine (HGT.out _ (H12.out.alloc H12.out.size (.cells #[.int .i64 0, .bool false, .int .u64 0, .int .u64 0, .bool false, .int .u64 0, .int .u64 0, .int .i64 0, .int .i64 0, .int .i64 0, .int .i64 0, .int .i64 0] 28)).drew).mono ?_))
         rintro o w3 ⟨YC, ok, rfl, hb, hok⟩
         have hb3 : Below w2.heap.size w2 w3 := by first | exact (below_al hb) | exact (below_dr hb)
         obtain ⟨y, hy, hd⟩ := hok
         subst hy
         have hsz : y.cells.size = 12 := rfl
         have HD := Lib.hid hd
         have HBB := Lib.hid hb3
         have s3 := HFR.out w3 hb3
         have hb4 : Below w2.heap.size w2 (w3.alloc (.cells #[.int .i64 0, .bool false, .int .u64 0, .int .u64 0, .bool false, .int .u64 0, .int .u64 0, .int .i64 0, .int .i64 0, .int .i64 0, .int .i64 0, .int .i64 0] 28)) := hb3.alloc hb3.size _
         have s4 := HFR.out _ hb4
         have hs4 := store_e (w3.alloc (.cells #[.int .i64 0, .bool false, .int .u64 0, .int .u64 0, .bool false, .int .u64 0, .int .u64 0, .int .i64 0, .int .i64 0, .int .i64 0, .int .i64 0, .int .i64 0] 28)) w3.heap.size _ y (Blk.new w3 _ _) rfl
         have s5 := HFR.out _ (below_row hb4 hb3.size y.cells)
         try (have hq := (Blk.new w2 28 #[.int .i64 0, .bool false, .int .u64 0, .int .u64 0, .bool false, .int .u64 0, .int .u64 0, .int .i64 0, .int .i64 0, .int .i64 0, .int .i64 0, .int .i64 0]).drew.below hb (by simp); have hs1 := store_e w3 w2.heap.size _ y hq rfl; have s6 := HFR.out _ (below_row hb3 (Nat.le_refl _) y.cells); have HQ := Lib.hid hq; clear hq)
         clear hd hb3 hb4 hb))
  all_goals
    first
    | (have KE := Lib.hid (show Blk (w3.setRow w2.heap.size y.cells) w2.heap.size 28 y.cells from setRow_heap _ _ _ y.cells _ (0, 0) HQ.out)
       have BE := Lib.hid (HB2.out.trans ((below_row HBB.out (Nat.le_refl _) y.cells).mono HB2.out.size))
       clear s0 s00 s3 s4 hs4 s5 hs1 s6 HQ
       obtain ⟨w5, hw5⟩ : ∃ w5, w5 = w3.setRow w2.heap.size y.cells := ⟨_, rfl⟩
       obtain ⟨q, hq⟩ : ∃ q, q = w2.heap.size := ⟨_, rfl⟩
       rw [← hw5] at KE BE ⊢
       rw [← hq] at KE ⊢
       clear hw5 hq)
    | (have KE := Lib.hid (show Blk ((w3.alloc (.cells #[.int .i64 0, .bool false, .int .u64 0, .int .u64 0, .bool false, .int .u64 0, .int .u64 0, .int .i64 0, .int .i64 0, .int .i64 0, .int .i64 0, .int .i64 0] 28)).setRow w3.heap.size y.cells) w3.heap.size 28 y.cells from setRow_heap _ _ _ y.cells _ (0, 0) (Blk.new w3 _ _))
       have BE := Lib.hid (HB2.out.trans ((below_row (HBB.out.alloc HBB.out.size (.cells #[.int .i64 0, .bool false, .int .u64 0, .int .u64 0, .bool false, .int .u64 0, .int .u64 0, .int .i64 0, .int .i64 0, .int .i64 0, .int .i64 0, .int .i64 0] 28)) HBB.out.size y.cells).mono HB2.out.size))
       clear s0 s00 s3 s4 hs4 s5
       obtain ⟨w5, hw5⟩ : ∃ w5, w5 = (w3.alloc (.cells #[.int .i64 0, .bool false, .int .u64 0, .int .u64 0, .bool false, .int .u64 0, .int .u64 0, .int .i64 0, .int .i64 0, .int .i64 0, .int .i64 0, .int .i64 0] 28)).setRow w3.heap.size y.cells := ⟨_, rfl⟩
       obtain ⟨q, hq⟩ : ∃ q, q = w3.heap.size := ⟨_, rfl⟩
       rw [← hw5] at KE BE ⊢
       rw [← hq] at KE ⊢
       clear hw5 hq)
  all_goals
    cases ok
    · have HN := Lib.hid (show ∀ e, e ∈ l → e.x ≠ x from by
        rcases HD.out with ⟨_, h⟩ | ⟨h, _⟩
        · exact h
        · cases h)
      go_wp2_with fail
      go_ret
      exact ⟨BE.out, .inl ⟨rfl, HN.out⟩⟩
    · have HY := Lib.hid (show y ∈ l ∧ y.x = x from by
        rcases HD.out with ⟨h, _⟩ | ⟨_, h⟩
        · cases h
        · exact h)
      have c9 : w5.cell? ⟨q, 9, none⟩ = some (.int .i64 y.host) := KE.out.cell 9
      go_wp2_with fail
      go_ret
      exact ⟨BE.out, .inr ⟨y, HY.out.1, HY.out.2, rfl⟩⟩
end
end Go.Proofs.Ytboknpkcpeoebaa.pinC
