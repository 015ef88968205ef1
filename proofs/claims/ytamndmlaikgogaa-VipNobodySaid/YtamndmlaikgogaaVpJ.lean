/- Layer 30: Match of a table that is made. -/
import Derived.Test.YtamndmlaikgogaaVpI
namespace Go.Proofs.Ytamndmlaikgogaa.vpJ
open Go.ChangeShapes Go.WideShapes Go.ChangeAt Go.RowKit
open Go.Proofs.Ytamndmlaikgogaa.base Go.Proofs.Ytamndmlaikgogaa.dfA Go.Proofs.Ytamndmlaikgogaa.treB Go.Proofs.Ytamndmlaikgogaa.vdA Go.Proofs.Ytamndmlaikgogaa.vdB Go.Proofs.Ytamndmlaikgogaa.vdC Go.Proofs.Ytamndmlaikgogaa.vdD Go.Proofs.Ytamndmlaikgogaa.vdI Go.Proofs.Ytamndmlaikgogaa.vpA Go.Proofs.Ytamndmlaikgogaa.vpB Go.Proofs.Ytamndmlaikgogaa.vpC Go.Proofs.Ytamndmlaikgogaa.vpD Go.Proofs.Ytamndmlaikgogaa.vpE Go.Proofs.Ytamndmlaikgogaa.vpF Go.Proofs.Ytamndmlaikgogaa.vpG Go.Proofs.Ytamndmlaikgogaa.vpH Go.Proofs.Ytamndmlaikgogaa.vpI
open Go.Maps
set_option linter.unusedVariables false

theorem owns_below {H : Type} {w w' : World} {P : Program} {k : TypeId} {R : Value → Option (DataW H × List MemPlace)} {b n : Nat} {D : DataW H} (h : w.ownsMap P k R b n D) (hb : Below w.heap.size w w') : w'.ownsMap P k R b n D := owns_keep h (hb.block _ h.lt)
theorem tab_below {w w' : World} {tb tr mb ob : Nat} {A : Option Addr} {c : Nat} {At : Pos} {l : List Vp} {vs : List Vw} (h : TabOk w tb tr mb ob A c At l vs) (hb : Below w.heap.size w w') : TabOk w' tb tr mb ob A c At l vs :=
  ⟨h.blk.below hb h.blk.lt, rows_below h.rows hb, h.cap, h.cap2, owns_below h.tg hb, owns_below h.us hb, h.tri.keep (fun k hk => hb.block k hk)⟩
/-- The place of the address that a flow goes to. -/
def mIx (l : List Vp) (x : Tq) : Option Nat := match fnd (fun j => sameT x.d6 x.dh x.dl x.pr x.dp (l.getD j zVp)) l.length with
  | some j => some j
  | none => fnd (fun j => sameT x.d6 x.dh x.dl x.pr 0 (l.getD j zVp)) l.length
def mVp (l : List Vp) (x : Tq) : Vp := match mIx l x with
  | some j => l.getD j zVp
  | none => zVp
set_option maxHeartbeats 16000000 in
set_option maxRecDepth 100000 in
theorem match_1 {w : World} {tb tr mb ob : Nat} {A : Option Addr} {c : Nat} {At : Pos} {l : List Vp} {vs : List Vw} (h : TabOk w tb tr mb ob A c At l vs) (hv : ∀ j, j < l.length → VpIn (l.getD j zVp)) (pr : Int) (s6 : Bool) (sh sl : Int) (d6 : Bool) (dh dl sp dp : Int) (j : Nat)
    (g1 : (Lit.int .u64 dh).wf = true) (g2 : (Lit.int .u64 dl).wf = true) (g3 : (Lit.int .i64 pr).wf = true) (g4 : (Lit.int .i64 dp).wf = true) (h1 : fnd (fun j => sameT d6 dh dl pr dp (l.getD j zVp)) l.length = some j) :
    Calls Try.prog 20 #[.pointer (some ⟨tb, 0, none⟩), .agg #[.int .i64 pr, .bool s6, .int .u64 sh, .int .u64 sl, .bool d6, .int .u64 dh, .int .u64 dl, .int .i64 sp, .int .i64 dp]] w fun e w' => e = .returned (.tuple #[.agg (Vp.cells (l.getD j zVp)), .bool true]) ∧ Below w.heap.size w w' := by
  obtain ⟨w1, hw1⟩ : ∃ w1, w1 = (w.alloc (.cells #[.int .i64 pr, .bool s6, .int .u64 sh, .int .u64 sl, .bool d6, .int .u64 dh, .int .u64 dl, .int .i64 sp, .int .i64 dp] 55)).alloc (.cells #[.bool false, .int .u64 0, .int .u64 0, .int .i64 0, .int .i64 0, .int .i64 0, .bool false] 48) := ⟨_, rfl⟩
  have E1 := Lib.hid hw1
  have hsz : (w.alloc (.cells #[.int .i64 pr, .bool s6, .int .u64 sh, .int .u64 sl, .bool d6, .int .u64 dh, .int .u64 dl, .int .i64 sp, .int .i64 dp] 55)).heap.size = w.heap.size + 1 := by simp
  have HB := Lib.hid (show Blk w1 (w.heap.size + 1) 48 zVp.cells from by rw [hw1, ← hsz]; exact Blk.new _ _ _)
  have HA := Lib.hid (show Blk w1 w.heap.size 55 #[.int .i64 pr, .bool s6, .int .u64 sh, .int .u64 sl, .bool d6, .int .u64 dh, .int .u64 dl, .int .i64 sp, .int .i64 dp] from by rw [hw1]; exact (Blk.new w _ _).alloc _)
  have B1 := Lib.hid (show Below w.heap.size w w1 from hw1 ▸ ((Below.refl w.heap.size w).alloc (Nat.le_refl _) _).alloc (by simp) _)
  have HT := Lib.hid (tab_below h B1.out)
  have HM := Lib.hid (made_b w1 tb (some mb) (HT.out.blk.cell 2))
  have HTD := Lib.hid (show TabOk w1.drew tb tr mb ob A c At l vs from tab_below HT.out (Below.refl _ _).drew)
  have HLL1 := look_t HTD.out.tg hv d6 dh dl pr dp g1 g2 g3 g4
  rw [h1] at HLL1
  have HL1 := Lib.hid (show (Instr.lookup 67 (.map (some mb)) (.agg #[.bool d6, .int .u64 dh, .int .u64 dl, .int .i64 pr, .int .i64 dp]) true).run Try.prog w1.drew = .ok (.tuple #[.int .i64 j, .bool true]) w1.drew from HLL1)
  clear HLL1
  have HJ := (fnd_lt h1).1
  obtain ⟨b, off, hA, hbl, hC⟩ := rows_at HTD.out.rows j HJ
  subst hA
  obtain ⟨e, he⟩ : ∃ e, e = l.getD j zVp := ⟨_, rfl⟩
  simp only [← he] at hC
  rw [← he]
  clear he
  obtain ⟨n, hn⟩ : ∃ n, n = l.length := ⟨_, rfl⟩
  have HCL := Lib.hid (show w1.drew.cell? ⟨tb, 1, none⟩ = some (.slice (some ⟨b, off, none⟩) n c) from (HT.out.blk.cell 1).trans (by rw [hn]; rfl))
  have j1 : (j : Int) < n := by omega
  have j0 : (0 : Int) ≤ j := by omega
  have HBX := Lib.hid (show Blk w1.drew (w.heap.size + 1) 48 zVp.cells from HB.out)
  have HEND := Lib.hid (show Blk (w1.drew.setRow (w.heap.size + 1) e.cells) (w.heap.size + 1) 48 e.cells ∧ Below w.heap.size w (w1.drew.setRow (w.heap.size + 1) e.cells) from ⟨setRow_heap w1.drew (w.heap.size + 1) zVp.cells e.cells 48 (0, 0) HB.out, Go.Proofs.Ytamndmlaikgogaa.vpI.below_row (show Below w.heap.size w w1.drew from B1.out.drew) (by omega) _⟩)
  obtain ⟨v6_, hi_, lo_, pr_, po_, co_, nat_⟩ := e
  have q0 : w1.drew.cell? ⟨b, off + j * 7, none⟩ = some (.bool v6_) := hC 0 (by omega)
  have q1 : w1.drew.cell? ⟨b, off + j * 7 + 1, none⟩ = some (.int .u64 hi_) := hC 1 (by omega)
  have q2 : w1.drew.cell? ⟨b, off + j * 7 + 2, none⟩ = some (.int .u64 lo_) := hC 2 (by omega)
  have q3 : w1.drew.cell? ⟨b, off + j * 7 + 3, none⟩ = some (.int .i64 pr_) := hC 3 (by omega)
  have q4 : w1.drew.cell? ⟨b, off + j * 7 + 4, none⟩ = some (.int .i64 po_) := hC 4 (by omega)
  have q5 : w1.drew.cell? ⟨b, off + j * 7 + 5, none⟩ = some (.int .i64 co_) := hC 5 (by omega)
  have q6 : w1.drew.cell? ⟨b, off + j * 7 + 6, none⟩ = some (.bool nat_) := hC 6 (by omega)
  have sS : w1.drew.cell? ⟨tb, 2, none⟩ = some (.map (some mb)) ∧ w1.drew.cell? ⟨w.heap.size, 0, none⟩ = some (.int .i64 pr) ∧ w1.drew.cell? ⟨w.heap.size, 4, none⟩ = some (.bool d6) ∧ w1.drew.cell? ⟨w.heap.size, 5, none⟩ = some (.int .u64 dh) ∧ w1.drew.cell? ⟨w.heap.size, 6, none⟩ = some (.int .u64 dl) ∧ w1.drew.cell? ⟨w.heap.size, 8, none⟩ = some (.int .i64 dp) ∧ (Instr.lookup 67 (.map (some mb)) (.agg #[.bool d6, .int .u64 dh, .int .u64 dl, .int .i64 pr, .int .i64 dp]) true).run Try.prog w1.drew = .ok (.tuple #[.int .i64 j, .bool true]) w1.drew :=
    ⟨HT.out.blk.cell 2, HA.out.cell 0, HA.out.cell 4, HA.out.cell 5, HA.out.cell 6, HA.out.cell 8, HL1.out⟩
  clear hC hn hbl HJ hw1 h hsz hv g1 g2 g3 g4 h1
  go_enter Try.func20, Try.ntmps20
  go_upto_region 1 with fail
  rw [← E1.out]
  go_wp2_with fail
  refine HM.out.mono ?_
  rintro o w2 ⟨rfl, rfl⟩
  rw [show (some mb).isSome = true from rfl]
  go_wp2_with fail
  go_region_held3 (fun w' => w'.cell? ⟨tb, 2, none⟩ = some (.map (some mb)) ∧ w'.cell? ⟨w.heap.size, 0, none⟩ = some (.int .i64 pr) ∧ w'.cell? ⟨w.heap.size, 4, none⟩ = some (.bool d6) ∧ w'.cell? ⟨w.heap.size, 5, none⟩ = some (.int .u64 dh) ∧ w'.cell? ⟨w.heap.size, 6, none⟩ = some (.int .u64 dl) ∧ w'.cell? ⟨w.heap.size, 8, none⟩ = some (.int .i64 dp) ∧ (Instr.lookup 67 (.map (some mb)) (.agg #[.bool d6, .int .u64 dh, .int .u64 dl, .int .i64 pr, .int .i64 dp]) true).run Try.prog w' = .ok (.tuple #[.int .i64 j, .bool true]) w') (assumption) (first | fail)
  have cL := HCL.out
  go_wp2_with (refine wpList_store_row rfl 48 _ _ rfl (w.heap.size + 1) (Vp.cells ⟨v6_, hi_, lo_, pr_, po_, co_, nat_⟩) rfl rfl 48 zVp.cells HBX.out size_vip rfl (one_vip _) ?_)
  refine bodyPost_ret (results_vip rfl _ _ (w.heap.size + 1) ⟨v6_, hi_, lo_, pr_, po_, co_, nat_⟩ rfl HEND.out.1) rfl ⟨rfl, HEND.out.2⟩
set_option maxHeartbeats 16000000 in
set_option maxRecDepth 100000 in
theorem match_2 {w : World} {tb tr mb ob : Nat} {A : Option Addr} {c : Nat} {At : Pos} {l : List Vp} {vs : List Vw} (h : TabOk w tb tr mb ob A c At l vs) (hv : ∀ j, j < l.length → VpIn (l.getD j zVp)) (pr : Int) (s6 : Bool) (sh sl : Int) (d6 : Bool) (dh dl sp dp : Int) (j : Nat)
    (g1 : (Lit.int .u64 dh).wf = true) (g2 : (Lit.int .u64 dl).wf = true) (g3 : (Lit.int .i64 pr).wf = true) (g4 : (Lit.int .i64 dp).wf = true) (h1 : fnd (fun j => sameT d6 dh dl pr dp (l.getD j zVp)) l.length = none) (h2 : fnd (fun j => sameT d6 dh dl pr 0 (l.getD j zVp)) l.length = some j) :
    Calls Try.prog 20 #[.pointer (some ⟨tb, 0, none⟩), .agg #[.int .i64 pr, .bool s6, .int .u64 sh, .int .u64 sl, .bool d6, .int .u64 dh, .int .u64 dl, .int .i64 sp, .int .i64 dp]] w fun e w' => e = .returned (.tuple #[.agg (Vp.cells (l.getD j zVp)), .bool true]) ∧ Below w.heap.size w w' := by
  obtain ⟨w1, hw1⟩ : ∃ w1, w1 = (w.alloc (.cells #[.int .i64 pr, .bool s6, .int .u64 sh, .int .u64 sl, .bool d6, .int .u64 dh, .int .u64 dl, .int .i64 sp, .int .i64 dp] 55)).alloc (.cells #[.bool false, .int .u64 0, .int .u64 0, .int .i64 0, .int .i64 0, .int .i64 0, .bool false] 48) := ⟨_, rfl⟩
  have E1 := Lib.hid hw1
  have hsz : (w.alloc (.cells #[.int .i64 pr, .bool s6, .int .u64 sh, .int .u64 sl, .bool d6, .int .u64 dh, .int .u64 dl, .int .i64 sp, .int .i64 dp] 55)).heap.size = w.heap.size + 1 := by simp
  have HB := Lib.hid (show Blk w1 (w.heap.size + 1) 48 zVp.cells from by rw [hw1, ← hsz]; exact Blk.new _ _ _)
  have HA := Lib.hid (show Blk w1 w.heap.size 55 #[.int .i64 pr, .bool s6, .int .u64 sh, .int .u64 sl, .bool d6, .int .u64 dh, .int .u64 dl, .int .i64 sp, .int .i64 dp] from by rw [hw1]; exact (Blk.new w _ _).alloc _)
  have B1 := Lib.hid (show Below w.heap.size w w1 from hw1 ▸ ((Below.refl w.heap.size w).alloc (Nat.le_refl _) _).alloc (by simp) _)
  have HT := Lib.hid (tab_below h B1.out)
  have HM := Lib.hid (made_b w1 tb (some mb) (HT.out.blk.cell 2))
  have HTD := Lib.hid (show TabOk w1.drew tb tr mb ob A c At l vs from tab_below HT.out (Below.refl _ _).drew)
  have HLL1 := look_t HTD.out.tg hv d6 dh dl pr dp g1 g2 g3 g4
  rw [h1] at HLL1
  have HL1 := Lib.hid (show (Instr.lookup 67 (.map (some mb)) (.agg #[.bool d6, .int .u64 dh, .int .u64 dl, .int .i64 pr, .int .i64 dp]) true).run Try.prog w1.drew = .ok (.tuple #[.int .i64 0, .bool false]) w1.drew from HLL1)
  clear HLL1
  have HTE := Lib.hid (show TabOk w1.drew.drew tb tr mb ob A c At l vs from tab_below HT.out (Below.refl _ _).drew.drew)
  have HLL2 := look_t HTE.out.tg hv d6 dh dl pr 0 g1 g2 g3 (by decide)
  rw [h2] at HLL2
  have HL2 := Lib.hid (show (Instr.lookup 67 (.map (some mb)) (.agg #[.bool d6, .int .u64 dh, .int .u64 dl, .int .i64 pr, .int .i64 0]) true).run Try.prog w1.drew.drew = .ok (.tuple #[.int .i64 j, .bool true]) w1.drew.drew from HLL2)
  clear HLL2
  have HJ := (fnd_lt h2).1
  obtain ⟨b, off, hA, hbl, hC⟩ := rows_at HTD.out.rows j HJ
  subst hA
  obtain ⟨e, he⟩ : ∃ e, e = l.getD j zVp := ⟨_, rfl⟩
  simp only [← he] at hC
  rw [← he]
  clear he
  obtain ⟨n, hn⟩ : ∃ n, n = l.length := ⟨_, rfl⟩
  have HCL := Lib.hid (show w1.drew.drew.cell? ⟨tb, 1, none⟩ = some (.slice (some ⟨b, off, none⟩) n c) from (HT.out.blk.cell 1).trans (by rw [hn]; rfl))
  have j1 : (j : Int) < n := by omega
  have j0 : (0 : Int) ≤ j := by omega
  have HBX := Lib.hid (show Blk w1.drew.drew (w.heap.size + 1) 48 zVp.cells from HB.out)
  have HEND := Lib.hid (show Blk (w1.drew.drew.setRow (w.heap.size + 1) e.cells) (w.heap.size + 1) 48 e.cells ∧ Below w.heap.size w (w1.drew.drew.setRow (w.heap.size + 1) e.cells) from ⟨setRow_heap w1.drew.drew (w.heap.size + 1) zVp.cells e.cells 48 (0, 0) HB.out, Go.Proofs.Ytamndmlaikgogaa.vpI.below_row (show Below w.heap.size w w1.drew.drew from B1.out.drew.drew) (by omega) _⟩)
  obtain ⟨v6_, hi_, lo_, pr_, po_, co_, nat_⟩ := e
  have q0 : w1.drew.drew.cell? ⟨b, off + j * 7, none⟩ = some (.bool v6_) := hC 0 (by omega)
  have q1 : w1.drew.drew.cell? ⟨b, off + j * 7 + 1, none⟩ = some (.int .u64 hi_) := hC 1 (by omega)
  have q2 : w1.drew.drew.cell? ⟨b, off + j * 7 + 2, none⟩ = some (.int .u64 lo_) := hC 2 (by omega)
  have q3 : w1.drew.drew.cell? ⟨b, off + j * 7 + 3, none⟩ = some (.int .i64 pr_) := hC 3 (by omega)
  have q4 : w1.drew.drew.cell? ⟨b, off + j * 7 + 4, none⟩ = some (.int .i64 po_) := hC 4 (by omega)
  have q5 : w1.drew.drew.cell? ⟨b, off + j * 7 + 5, none⟩ = some (.int .i64 co_) := hC 5 (by omega)
  have q6 : w1.drew.drew.cell? ⟨b, off + j * 7 + 6, none⟩ = some (.bool nat_) := hC 6 (by omega)
  have sS : w1.drew.cell? ⟨tb, 2, none⟩ = some (.map (some mb)) ∧ w1.drew.cell? ⟨w.heap.size, 0, none⟩ = some (.int .i64 pr) ∧ w1.drew.cell? ⟨w.heap.size, 4, none⟩ = some (.bool d6) ∧ w1.drew.cell? ⟨w.heap.size, 5, none⟩ = some (.int .u64 dh) ∧ w1.drew.cell? ⟨w.heap.size, 6, none⟩ = some (.int .u64 dl) ∧ w1.drew.cell? ⟨w.heap.size, 8, none⟩ = some (.int .i64 dp) ∧ (Instr.lookup 67 (.map (some mb)) (.agg #[.bool d6, .int .u64 dh, .int .u64 dl, .int .i64 pr, .int .i64 dp]) true).run Try.prog w1.drew = .ok (.tuple #[.int .i64 0, .bool false]) w1.drew :=
    ⟨HT.out.blk.cell 2, HA.out.cell 0, HA.out.cell 4, HA.out.cell 5, HA.out.cell 6, HA.out.cell 8, HL1.out⟩
  have HS2 := Lib.hid (show w1.drew.drew.cell? ⟨tb, 2, none⟩ = some (.map (some mb)) ∧ w1.drew.drew.cell? ⟨w.heap.size, 0, none⟩ = some (.int .i64 pr) ∧ w1.drew.drew.cell? ⟨w.heap.size, 4, none⟩ = some (.bool d6) ∧ w1.drew.drew.cell? ⟨w.heap.size, 5, none⟩ = some (.int .u64 dh) ∧ w1.drew.drew.cell? ⟨w.heap.size, 6, none⟩ = some (.int .u64 dl) ∧ w1.drew.drew.cell? ⟨w.heap.size, 8, none⟩ = some (.int .i64 dp) ∧ (Instr.lookup 67 (.map (some mb)) (.agg #[.bool d6, .int .u64 dh, .int .u64 dl, .int .i64 pr, .int .i64 0]) true).run Try.prog w1.drew.drew = .ok (.tuple #[.int .i64 j, .bool true]) w1.drew.drew from
    ⟨HT.out.blk.cell 2, HA.out.cell 0, HA.out.cell 4, HA.out.cell 5, HA.out.cell 6, HA.out.cell 8, HL2.out⟩)
  clear hC hn hbl HJ hw1 h hsz hv g1 g2 g3 g4 h1 h2
  go_enter Try.func20, Try.ntmps20
  go_upto_region 1 with fail
  rw [← E1.out]
  go_wp2_with fail
  refine HM.out.mono ?_
  rintro o w2 ⟨rfl, rfl⟩
  rw [show (some mb).isSome = true from rfl]
  go_wp2_with fail
  go_region_held3 (fun w' => w'.cell? ⟨tb, 2, none⟩ = some (.map (some mb)) ∧ w'.cell? ⟨w.heap.size, 0, none⟩ = some (.int .i64 pr) ∧ w'.cell? ⟨w.heap.size, 4, none⟩ = some (.bool d6) ∧ w'.cell? ⟨w.heap.size, 5, none⟩ = some (.int .u64 dh) ∧ w'.cell? ⟨w.heap.size, 6, none⟩ = some (.int .u64 dl) ∧ w'.cell? ⟨w.heap.size, 8, none⟩ = some (.int .i64 dp) ∧ (Instr.lookup 67 (.map (some mb)) (.agg #[.bool d6, .int .u64 dh, .int .u64 dl, .int .i64 pr, .int .i64 dp]) true).run Try.prog w' = .ok (.tuple #[.int .i64 0, .bool false]) w') (assumption) (first | fail)
  go_wp2_with fail
  have sS2 := HS2.out
  go_region_held3 (fun w' => w'.cell? ⟨tb, 2, none⟩ = some (.map (some mb)) ∧ w'.cell? ⟨w.heap.size, 0, none⟩ = some (.int .i64 pr) ∧ w'.cell? ⟨w.heap.size, 4, none⟩ = some (.bool d6) ∧ w'.cell? ⟨w.heap.size, 5, none⟩ = some (.int .u64 dh) ∧ w'.cell? ⟨w.heap.size, 6, none⟩ = some (.int .u64 dl) ∧ w'.cell? ⟨w.heap.size, 8, none⟩ = some (.int .i64 dp) ∧ (Instr.lookup 67 (.map (some mb)) (.agg #[.bool d6, .int .u64 dh, .int .u64 dl, .int .i64 pr, .int .i64 0]) true).run Try.prog w' = .ok (.tuple #[.int .i64 j, .bool true]) w') (assumption) (first | fail)
  have cL := HCL.out
  go_wp2_with (refine wpList_store_row rfl 48 _ _ rfl (w.heap.size + 1) (Vp.cells ⟨v6_, hi_, lo_, pr_, po_, co_, nat_⟩) rfl rfl 48 zVp.cells HBX.out size_vip rfl (one_vip _) ?_)
  refine bodyPost_ret (results_vip rfl _ _ (w.heap.size + 1) ⟨v6_, hi_, lo_, pr_, po_, co_, nat_⟩ rfl HEND.out.1) rfl ⟨rfl, HEND.out.2⟩
set_option maxHeartbeats 16000000 in
set_option maxRecDepth 100000 in
theorem match_0 {w : World} {tb tr mb ob : Nat} {A : Option Addr} {c : Nat} {At : Pos} {l : List Vp} {vs : List Vw} (h : TabOk w tb tr mb ob A c At l vs) (hv : ∀ j, j < l.length → VpIn (l.getD j zVp)) (pr : Int) (s6 : Bool) (sh sl : Int) (d6 : Bool) (dh dl sp dp : Int) (j : Nat)
    (g1 : (Lit.int .u64 dh).wf = true) (g2 : (Lit.int .u64 dl).wf = true) (g3 : (Lit.int .i64 pr).wf = true) (g4 : (Lit.int .i64 dp).wf = true) (h1 : fnd (fun j => sameT d6 dh dl pr dp (l.getD j zVp)) l.length = none) (h2 : fnd (fun j => sameT d6 dh dl pr 0 (l.getD j zVp)) l.length = none) :
    Calls Try.prog 20 #[.pointer (some ⟨tb, 0, none⟩), .agg #[.int .i64 pr, .bool s6, .int .u64 sh, .int .u64 sl, .bool d6, .int .u64 dh, .int .u64 dl, .int .i64 sp, .int .i64 dp]] w fun e w' => e = .returned (.tuple #[.agg (Vp.cells zVp), .bool false]) ∧ Below w.heap.size w w' := by
  obtain ⟨w1, hw1⟩ : ∃ w1, w1 = (w.alloc (.cells #[.int .i64 pr, .bool s6, .int .u64 sh, .int .u64 sl, .bool d6, .int .u64 dh, .int .u64 dl, .int .i64 sp, .int .i64 dp] 55)).alloc (.cells #[.bool false, .int .u64 0, .int .u64 0, .int .i64 0, .int .i64 0, .int .i64 0, .bool false] 48) := ⟨_, rfl⟩
  have E1 := Lib.hid hw1
  have hsz : (w.alloc (.cells #[.int .i64 pr, .bool s6, .int .u64 sh, .int .u64 sl, .bool d6, .int .u64 dh, .int .u64 dl, .int .i64 sp, .int .i64 dp] 55)).heap.size = w.heap.size + 1 := by simp
  have HB := Lib.hid (show Blk w1 (w.heap.size + 1) 48 zVp.cells from by rw [hw1, ← hsz]; exact Blk.new _ _ _)
  have HA := Lib.hid (show Blk w1 w.heap.size 55 #[.int .i64 pr, .bool s6, .int .u64 sh, .int .u64 sl, .bool d6, .int .u64 dh, .int .u64 dl, .int .i64 sp, .int .i64 dp] from by rw [hw1]; exact (Blk.new w _ _).alloc _)
  have B1 := Lib.hid (show Below w.heap.size w w1 from hw1 ▸ ((Below.refl w.heap.size w).alloc (Nat.le_refl _) _).alloc (by simp) _)
  have HT := Lib.hid (tab_below h B1.out)
  have HM := Lib.hid (made_b w1 tb (some mb) (HT.out.blk.cell 2))
  have HTD := Lib.hid (show TabOk w1.drew tb tr mb ob A c At l vs from tab_below HT.out (Below.refl _ _).drew)
  have HLL1 := look_t HTD.out.tg hv d6 dh dl pr dp g1 g2 g3 g4
  rw [h1] at HLL1
  have HL1 := Lib.hid (show (Instr.lookup 67 (.map (some mb)) (.agg #[.bool d6, .int .u64 dh, .int .u64 dl, .int .i64 pr, .int .i64 dp]) true).run Try.prog w1.drew = .ok (.tuple #[.int .i64 0, .bool false]) w1.drew from HLL1)
  clear HLL1
  have HTE := Lib.hid (show TabOk w1.drew.drew tb tr mb ob A c At l vs from tab_below HT.out (Below.refl _ _).drew.drew)
  have HLL2 := look_t HTE.out.tg hv d6 dh dl pr 0 g1 g2 g3 (by decide)
  rw [h2] at HLL2
  have HL2 := Lib.hid (show (Instr.lookup 67 (.map (some mb)) (.agg #[.bool d6, .int .u64 dh, .int .u64 dl, .int .i64 pr, .int .i64 0]) true).run Try.prog w1.drew.drew = .ok (.tuple #[.int .i64 0, .bool false]) w1.drew.drew from HLL2)
  clear HLL2
  have HBX := Lib.hid (show Blk w1.drew.drew (w.heap.size + 1) 48 zVp.cells from HB.out)
  have HEND := Lib.hid (show Blk (w1.drew.drew.setRow (w.heap.size + 1) zVp.cells) (w.heap.size + 1) 48 zVp.cells ∧ Below w.heap.size w (w1.drew.drew.setRow (w.heap.size + 1) zVp.cells) from ⟨setRow_heap w1.drew.drew (w.heap.size + 1) zVp.cells zVp.cells 48 (0, 0) HB.out, Go.Proofs.Ytamndmlaikgogaa.vpI.below_row (show Below w.heap.size w w1.drew.drew from B1.out.drew.drew) (by omega) _⟩)
  have sS : w1.drew.cell? ⟨tb, 2, none⟩ = some (.map (some mb)) ∧ w1.drew.cell? ⟨w.heap.size, 0, none⟩ = some (.int .i64 pr) ∧ w1.drew.cell? ⟨w.heap.size, 4, none⟩ = some (.bool d6) ∧ w1.drew.cell? ⟨w.heap.size, 5, none⟩ = some (.int .u64 dh) ∧ w1.drew.cell? ⟨w.heap.size, 6, none⟩ = some (.int .u64 dl) ∧ w1.drew.cell? ⟨w.heap.size, 8, none⟩ = some (.int .i64 dp) ∧ (Instr.lookup 67 (.map (some mb)) (.agg #[.bool d6, .int .u64 dh, .int .u64 dl, .int .i64 pr, .int .i64 dp]) true).run Try.prog w1.drew = .ok (.tuple #[.int .i64 0, .bool false]) w1.drew :=
    ⟨HT.out.blk.cell 2, HA.out.cell 0, HA.out.cell 4, HA.out.cell 5, HA.out.cell 6, HA.out.cell 8, HL1.out⟩
  have HS2 := Lib.hid (show w1.drew.drew.cell? ⟨tb, 2, none⟩ = some (.map (some mb)) ∧ w1.drew.drew.cell? ⟨w.heap.size, 0, none⟩ = some (.int .i64 pr) ∧ w1.drew.drew.cell? ⟨w.heap.size, 4, none⟩ = some (.bool d6) ∧ w1.drew.drew.cell? ⟨w.heap.size, 5, none⟩ = some (.int .u64 dh) ∧ w1.drew.drew.cell? ⟨w.heap.size, 6, none⟩ = some (.int .u64 dl) ∧ w1.drew.drew.cell? ⟨w.heap.size, 8, none⟩ = some (.int .i64 dp) ∧ (Instr.lookup 67 (.map (some mb)) (.agg #[.bool d6, .int .u64 dh, .int .u64 dl, .int .i64 pr, .int .i64 0]) true).run Try.prog w1.drew.drew = .ok (.tuple #[.int .i64 0, .bool false]) w1.drew.drew from
    ⟨HT.out.blk.cell 2, HA.out.cell 0, HA.out.cell 4, HA.out.cell 5, HA.out.cell 6, HA.out.cell 8, HL2.out⟩)
  clear hw1 h hsz hv g1 g2 g3 g4 h1 h2
  go_enter Try.func20, Try.ntmps20
  go_upto_region 1 with fail
  rw [← E1.out]
  go_wp2_with fail
  refine HM.out.mono ?_
  rintro o w2 ⟨rfl, rfl⟩
  rw [show (some mb).isSome = true from rfl]
  go_wp2_with fail
  go_region_held3 (fun w' => w'.cell? ⟨tb, 2, none⟩ = some (.map (some mb)) ∧ w'.cell? ⟨w.heap.size, 0, none⟩ = some (.int .i64 pr) ∧ w'.cell? ⟨w.heap.size, 4, none⟩ = some (.bool d6) ∧ w'.cell? ⟨w.heap.size, 5, none⟩ = some (.int .u64 dh) ∧ w'.cell? ⟨w.heap.size, 6, none⟩ = some (.int .u64 dl) ∧ w'.cell? ⟨w.heap.size, 8, none⟩ = some (.int .i64 dp) ∧ (Instr.lookup 67 (.map (some mb)) (.agg #[.bool d6, .int .u64 dh, .int .u64 dl, .int .i64 pr, .int .i64 dp]) true).run Try.prog w' = .ok (.tuple #[.int .i64 0, .bool false]) w') (assumption) (first | fail)
  go_wp2_with fail
  have sS2 := HS2.out
  go_region_held3 (fun w' => w'.cell? ⟨tb, 2, none⟩ = some (.map (some mb)) ∧ w'.cell? ⟨w.heap.size, 0, none⟩ = some (.int .i64 pr) ∧ w'.cell? ⟨w.heap.size, 4, none⟩ = some (.bool d6) ∧ w'.cell? ⟨w.heap.size, 5, none⟩ = some (.int .u64 dh) ∧ w'.cell? ⟨w.heap.size, 6, none⟩ = some (.int .u64 dl) ∧ w'.cell? ⟨w.heap.size, 8, none⟩ = some (.int .i64 dp) ∧ (Instr.lookup 67 (.map (some mb)) (.agg #[.bool d6, .int .u64 dh, .int .u64 dl, .int .i64 pr, .int .i64 0]) true).run Try.prog w' = .ok (.tuple #[.int .i64 0, .bool false]) w') (assumption) (first | fail)
  go_wp2_with (refine wpList_store_row rfl 48 _ _ rfl (w.heap.size + 1) zVp.cells rfl rfl 48 zVp.cells HBX.out size_vip rfl (one_vip _) ?_)
  refine bodyPost_ret (results_vip rfl _ _ (w.heap.size + 1) zVp rfl HEND.out.1) rfl ⟨rfl, HEND.out.2⟩
theorem match_any {w : World} {tb tr mb ob : Nat} {A : Option Addr} {c : Nat} {At : Pos} {l : List Vp} {vs : List Vw} (h : TabOk w tb tr mb ob A c At l vs) (hv : ∀ j, j < l.length → VpIn (l.getD j zVp)) (x : Tq) (hx : x.In) :
    Calls Try.prog 20 #[.pointer (some ⟨tb, 0, none⟩), .agg x.cells] w fun e w' => e = .returned (.tuple #[.agg (mVp l x).cells, .bool (mIx l x).isSome]) ∧ Below w.heap.size w w' := by
  obtain ⟨pr, s6, sh, sl, d6, dh, dl, sp, dp⟩ := x
  unfold mVp mIx
  cases h1 : fnd (fun j => sameT d6 dh dl pr dp (l.getD j zVp)) l.length with
  | some j => exact match_1 h hv pr s6 sh sl d6 dh dl sp dp j hx.dh hx.dl hx.pr hx.dp h1
  | none =>
    cases h2 : fnd (fun j => sameT d6 dh dl pr 0 (l.getD j zVp)) l.length with
    | some j => exact match_2 h hv pr s6 sh sl d6 dh dl sp dp j hx.dh hx.dl hx.pr hx.dp h1 h2
    | none => exact match_0 h hv pr s6 sh sl d6 dh dl sp dp 0 hx.dh hx.dl hx.pr hx.dp h1 h2
end Go.Proofs.Ytamndmlaikgogaa.vpJ
