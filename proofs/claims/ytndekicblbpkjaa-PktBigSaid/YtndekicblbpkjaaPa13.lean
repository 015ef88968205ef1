/- 8 texts in one. -/
import Derived.Deep.QuietTactic
import Derived.BigQuiet
import Derived.Laws.AppendOwnNone
import Derived.Deep.RegionHeldLaw
import Derived.Test.YtndekicblbpkjaaPa10
import Derived.Test.YtndekicblbpkjaaPa12
/- Layer 9: Quote, Parse. -/
namespace Go.Proofs.Ytndekicblbpkjaa.sixF
open Go.ChangeShapes Go.WideShapes Go.ChangeAt Go.RowKit
open Go.Proofs.Ytndekicblbpkjaa.base Go.Proofs.Ytndekicblbpkjaa.octA Go.Proofs.Ytndekicblbpkjaa.octB Go.Proofs.Ytndekicblbpkjaa.octC Go.Proofs.Ytndekicblbpkjaa.octF Go.Proofs.Ytndekicblbpkjaa.octK Go.Proofs.Ytndekicblbpkjaa.net Go.Proofs.Ytndekicblbpkjaa.rdrA Go.Proofs.Ytndekicblbpkjaa.rdrG Go.Proofs.Ytndekicblbpkjaa.sumA Go.Proofs.Ytndekicblbpkjaa.sumB Go.Proofs.Ytndekicblbpkjaa.udpA Go.Proofs.Ytndekicblbpkjaa.tcpC Go.Proofs.Ytndekicblbpkjaa.sixW Go.Proofs.Ytndekicblbpkjaa.sixM Go.Proofs.Ytndekicblbpkjaa.sixA Go.Proofs.Ytndekicblbpkjaa.sixB Go.Proofs.Ytndekicblbpkjaa.sixC Go.Proofs.Ytndekicblbpkjaa.sixD Go.Proofs.Ytndekicblbpkjaa.sixE
set_option linter.unusedVariables false

abbrev Res := Int ⊕ (List XP × Int × List Int)
def ofC (c : Option (List XP × Int × List Int)) : Res := match c with
  | none => .inl 11
  | some r => .inr r
/-- What bytes quote. -/
def sixQ (l : List Int) : Res := if l.length < 40 then .inl 2 else if l.getD 0 0 / 16 ≠ 6 then .inl 10 else ofC (chn 9 [] (l.getD 6 0) (l.drop 40))
def sizeP (l : List Int) : Nat := (256 * l.getD 4 0 + l.getD 5 0).toNat
/-- What bytes are as a packet. -/
def sixP (l : List Int) : Res := if l.length < 40 then .inl 2 else if l.getD 0 0 / 16 ≠ 6 then .inl 10 else if l.length - 40 < sizeP l then .inl 12 else ofC (chn 9 [] (l.getD 6 0) ((l.take (40 + sizeP l)).drop 40))
def HeadP (w : World) (l : List Int) (res : Res) (o : Ending) (w' : World) : Prop :=
  Below w.heap.size w w' ∧ ((∃ e, res = .inl e ∧ o = .returned (.tuple #[.agg #[.int .i64 0, .int .i64 0, .int .i64 0, .bool false, .int .u64 0, .int .u64 0, .bool false, .int .u64 0, .int .u64 0, .slice none 0 0, .int .i64 0], .slice none 0 0, .int .i64 e])) ∨
    ∃ ys q r, res = .inr (ys, q, r) ∧ ∃ L A c v, o = .returned (.tuple #[.agg ((hdOf l q).cells (.slice A ys.length c)), v, .int .i64 0]) ∧ L.map Xt.re = ys ∧ GotX w' w.heap.size (.slice A ys.length c) L ∧ w'.ownsRow w.heap.size 5 1 v r.length (r.map (.int .u8)))
theorem getD_take (l : List Int) (n i : Nat) (h : i < n) : (l.take n).getD i 0 = l.getD i 0 := by
  rw [List.getD_eq_getElem?_getD, List.getD_eq_getElem?_getD, List.getElem?_take, if_pos h]
theorem hdOf_take (l : List Int) (n : Nat) (h : 40 ≤ n) (q : Int) : hdOf (l.take n) q = hdOf l q := by
  have e : ∀ m, m ≤ 24 → (l.take n).drop m = (l.drop m).take (n - m) := fun m hm => List.drop_take
  unfold hdOf w32 w16
  rw [e 8 (by omega), e 24 (by omega), atN_part _ 0 (n - 8) 8 (by omega), atN_part _ 8 (n - 8) 8 (by omega), atN_part _ 0 (n - 24) 8 (by omega), atN_part _ 8 (n - 24) 8 (by omega)]
  simp only [getD_take l n _ (show 0 < n by omega), getD_take l n _ (show 0 + 1 < n by omega), getD_take l n _ (show 0 + 2 < n by omega), getD_take l n _ (show 0 + 2 + 1 < n by omega), getD_take l n 7 (by omega)]
theorem slice_to (b off n c t : Nat) (ht : t ≤ c) (hc : 0 < c) :
    (∀ W : World, (Instr.slice 22 (.slice (some ⟨b, off, none⟩) n c) none (some (.int .i64 (t : Int))) none).run Try.prog W = .ok (.slice (some ⟨b, off, none⟩) t c) W) ∧
    (∀ W : World, (Instr.sliceAt 22 (.slice (some ⟨b, off, none⟩) n c) none (some (.int .i64 (t : Int))) none).run Try.prog W = .ok (.slice (some ⟨b, off, none⟩) t c) W) := by
  have hu : Try.prog.underlying 22 = some (.slice (Try.prog.elem 22)) := by kernel_rfl
  have hz : ∀ W : World, (sizeOf (Try.prog.elem 22)).run Try.prog W = .ok 1 W := fun _ => by kernel_rfl
  have key : ∀ W : World, (Instr.slice 22 (.slice (some ⟨b, off, none⟩) n c) none (some (.int .i64 (t : Int))) none).run Try.prog W = .ok (.slice (some ⟨b, off, none⟩) t c) W := by
    intro W
    rw [run_slice_h W 22 (some ⟨b, off, none⟩) n c hu .i64 (t : Int) (by omega) (by omega), hz]
    simp only [Result.andThen, sliced, Int.toNat_natCast, Nat.mul_one, Option.map_some, Nat.sub_zero, Addr.add_lit, Nat.add_zero]
    split <;> rfl
  exact ⟨key, fun W => by rw [run_sliceAt_slice W 22 _ _ _ _ hu, key]⟩
theorem quote_short (A : Option Addr) (n c : Nat) (l : List Int) (w : World) (hl : l.length = n) (hn : n < 40) :
    Calls Try.prog 12 #[.slice A n c] w (HeadP w l (sixQ l)) := by
  obtain ⟨w1, hw1⟩ : ∃ w1, w1 = w.alloc (.cells #[.int .i64 0, .int .i64 0, .int .i64 0, .bool false, .int .u64 0, .int .u64 0, .bool false, .int .u64 0, .int .u64 0, .slice none 0 0, .int .i64 0] 29) := ⟨_, rfl⟩
  have E1 := Lib.hid hw1
  have BA1 := Lib.hid (show Below w.heap.size w w1 from by rw [hw1]; exact (Below.refl _ _).alloc (Nat.le_refl _) _)
  have KR1 := Lib.hid (show Blk w1 w.heap.size 29 #[.int .i64 0, .int .i64 0, .int .i64 0, .bool false, .int .u64 0, .int .u64 0, .bool false, .int .u64 0, .int .u64 0, .slice none 0 0, .int .i64 0] from by rw [hw1]; exact Blk.new w _ _)
  have SZ1 := Lib.hid (show w1.heap.size = w.heap.size + 1 from by rw [hw1]; simp)
  have HBG := Lib.hid (begin_short A n c w1 hn)
  have HRES := Lib.hid (show sixQ l = .inl 2 from by unfold sixQ; rw [if_pos (by omega)])
  clear hw1 hl hn
  go_enter Try.func12, Try.ntmps12
  go_wp2_with fail
  rw [← E1.out]
  refine HBG.out.mono ?_
  rintro o w' ⟨rfl, rfl⟩
  have r0 := KR1.out.cell 0
  have r1 := KR1.out.cell 1
  have r2 := KR1.out.cell 2
  have r3 := KR1.out.cell 3
  have r4 := KR1.out.cell 4
  have r5 := KR1.out.cell 5
  have r6 := KR1.out.cell 6
  have r7 := KR1.out.cell 7
  have r8 := KR1.out.cell 8
  have r9 := KR1.out.cell 9
  have r10 := KR1.out.cell 10
  have z0 := KR1.out.frozen 0
  have z1 := KR1.out.frozen 1
  have z2 := KR1.out.frozen 2
  have z3 := KR1.out.frozen 3
  have z4 := KR1.out.frozen 4
  have z5 := KR1.out.frozen 5
  have z6 := KR1.out.frozen 6
  have z7 := KR1.out.frozen 7
  have z8 := KR1.out.frozen 8
  have z9 := KR1.out.frozen 9
  have z10 := KR1.out.frozen 10
  go_wp2_with fail
  refine bodyPost_ret (results_read rfl _ _ w.heap.size #[.int .i64 0, .int .i64 0, .int .i64 0, .bool false, .int .u64 0, .int .u64 0, .bool false, .int .u64 0, .int .u64 0, .slice none 0 0, .int .i64 0] rfl (zstore w1 w.heap.size KR1.out) rfl) rfl ?_
  exact ⟨BA1.out.trans (zbelow w1 w.heap.size w.heap.size (Nat.le_refl _)), .inl ⟨2, HRES.out, rfl⟩⟩
theorem parse_short (A : Option Addr) (n c : Nat) (l : List Int) (w : World) (hl : l.length = n) (hn : n < 40) :
    Calls Try.prog 11 #[.slice A n c] w (HeadP w l (sixP l)) := by
  obtain ⟨w1, hw1⟩ : ∃ w1, w1 = w.alloc (.cells #[.int .i64 0, .int .i64 0, .int .i64 0, .bool false, .int .u64 0, .int .u64 0, .bool false, .int .u64 0, .int .u64 0, .slice none 0 0, .int .i64 0] 29) := ⟨_, rfl⟩
  have E1 := Lib.hid hw1
  have BA1 := Lib.hid (show Below w.heap.size w w1 from by rw [hw1]; exact (Below.refl _ _).alloc (Nat.le_refl _) _)
  have KR1 := Lib.hid (show Blk w1 w.heap.size 29 #[.int .i64 0, .int .i64 0, .int .i64 0, .bool false, .int .u64 0, .int .u64 0, .bool false, .int .u64 0, .int .u64 0, .slice none 0 0, .int .i64 0] from by rw [hw1]; exact Blk.new w _ _)
  have SZ1 := Lib.hid (show w1.heap.size = w.heap.size + 1 from by rw [hw1]; simp)
  have HBG := Lib.hid (begin_short A n c w1 hn)
  have HRES := Lib.hid (show sixP l = .inl 2 from by unfold sixP; rw [if_pos (by omega)])
  clear hw1 hl hn
  go_enter Try.func11, Try.ntmps11
  go_wp2_with fail
  rw [← E1.out]
  refine HBG.out.mono ?_
  rintro o w' ⟨rfl, rfl⟩
  have r0 := KR1.out.cell 0
  have r1 := KR1.out.cell 1
  have r2 := KR1.out.cell 2
  have r3 := KR1.out.cell 3
  have r4 := KR1.out.cell 4
  have r5 := KR1.out.cell 5
  have r6 := KR1.out.cell 6
  have r7 := KR1.out.cell 7
  have r8 := KR1.out.cell 8
  have r9 := KR1.out.cell 9
  have r10 := KR1.out.cell 10
  have z0 := KR1.out.frozen 0
  have z1 := KR1.out.frozen 1
  have z2 := KR1.out.frozen 2
  have z3 := KR1.out.frozen 3
  have z4 := KR1.out.frozen 4
  have z5 := KR1.out.frozen 5
  have z6 := KR1.out.frozen 6
  have z7 := KR1.out.frozen 7
  have z8 := KR1.out.frozen 8
  have z9 := KR1.out.frozen 9
  have z10 := KR1.out.frozen 10
  go_wp2_with fail
  refine bodyPost_ret (results_read rfl _ _ w.heap.size #[.int .i64 0, .int .i64 0, .int .i64 0, .bool false, .int .u64 0, .int .u64 0, .bool false, .int .u64 0, .int .u64 0, .slice none 0 0, .int .i64 0] rfl (zstore w1 w.heap.size KR1.out) rfl) rfl ?_
  exact ⟨BA1.out.trans (zbelow w1 w.heap.size w.heap.size (Nat.le_refl _)), .inl ⟨2, HRES.out, rfl⟩⟩
theorem quote_vers (b off n c : Nat) (l : List Int) (w : World) (hl : l.length = n) (hn : 40 ≤ n) (hb : b < w.heap.size) (hs : Lies w b off l) (hx : U8 l) (hv : l.getD 0 0 / 16 ≠ 6) :
    Calls Try.prog 12 #[.slice (some ⟨b, off, none⟩) n c] w (HeadP w l (sixQ l)) := by
  obtain ⟨w1, hw1⟩ : ∃ w1, w1 = w.alloc (.cells #[.int .i64 0, .int .i64 0, .int .i64 0, .bool false, .int .u64 0, .int .u64 0, .bool false, .int .u64 0, .int .u64 0, .slice none 0 0, .int .i64 0] 29) := ⟨_, rfl⟩
  have E1 := Lib.hid hw1
  have BA1 := Lib.hid (show Below w.heap.size w w1 from by rw [hw1]; exact (Below.refl _ _).alloc (Nat.le_refl _) _)
  have KR1 := Lib.hid (show Blk w1 w.heap.size 29 #[.int .i64 0, .int .i64 0, .int .i64 0, .bool false, .int .u64 0, .int .u64 0, .bool false, .int .u64 0, .int .u64 0, .slice none 0 0, .int .i64 0] from by rw [hw1]; exact Blk.new w _ _)
  have SZ1 := Lib.hid (show w1.heap.size = w.heap.size + 1 from by rw [hw1]; simp)
  have HBG := Lib.hid (begin_any b off n c l w1 hl hn (by have := SZ1.out; omega) (hs.below BA1.out hb) hx)
  rw [if_neg hv] at HBG
  have HRES := Lib.hid (show sixQ l = .inl 10 from by unfold sixQ; rw [if_neg (by omega), if_pos hv])
  clear hw1 hl hn hs hx hv hb
  go_enter Try.func12, Try.ntmps12
  go_wp2_with fail
  rw [← E1.out]
  refine HBG.out.mono ?_
  rintro o w' ⟨rfl, rfl⟩
  have r0 := KR1.out.cell 0
  have r1 := KR1.out.cell 1
  have r2 := KR1.out.cell 2
  have r3 := KR1.out.cell 3
  have r4 := KR1.out.cell 4
  have r5 := KR1.out.cell 5
  have r6 := KR1.out.cell 6
  have r7 := KR1.out.cell 7
  have r8 := KR1.out.cell 8
  have r9 := KR1.out.cell 9
  have r10 := KR1.out.cell 10
  have z0 := KR1.out.frozen 0
  have z1 := KR1.out.frozen 1
  have z2 := KR1.out.frozen 2
  have z3 := KR1.out.frozen 3
  have z4 := KR1.out.frozen 4
  have z5 := KR1.out.frozen 5
  have z6 := KR1.out.frozen 6
  have z7 := KR1.out.frozen 7
  have z8 := KR1.out.frozen 8
  have z9 := KR1.out.frozen 9
  have z10 := KR1.out.frozen 10
  go_wp2_with fail
  refine bodyPost_ret (results_read rfl _ _ w.heap.size #[.int .i64 0, .int .i64 0, .int .i64 0, .bool false, .int .u64 0, .int .u64 0, .bool false, .int .u64 0, .int .u64 0, .slice none 0 0, .int .i64 0] rfl (zstore w1 w.heap.size KR1.out) rfl) rfl ?_
  exact ⟨BA1.out.trans (zbelow w1 w.heap.size w.heap.size (Nat.le_refl _)), .inl ⟨10, HRES.out, rfl⟩⟩
set_option maxHeartbeats 4000000 in
set_option maxRecDepth 100000 in
theorem quote_ok (b off n c : Nat) (l : List Int) (w : World) (hl : l.length = n) (hn : 40 ≤ n) (hn2 : n ≤ 100000) (hnc : n ≤ c) (hc : c ≤ 9223372036854775807) (hb : b < w.heap.size) (hs : Lies w b off l) (hx : U8 l) (hv : l.getD 0 0 / 16 = 6) :
    Calls Try.prog 12 #[.slice (some ⟨b, off, none⟩) n c] w (HeadP w l (sixQ l)) := by
  obtain ⟨w1, hw1⟩ : ∃ w1, w1 = w.alloc (.cells #[.int .i64 0, .int .i64 0, .int .i64 0, .bool false, .int .u64 0, .int .u64 0, .bool false, .int .u64 0, .int .u64 0, .slice none 0 0, .int .i64 0] 29) := ⟨_, rfl⟩
  have E1 := Lib.hid hw1
  have BA1 := Lib.hid (show Below w.heap.size w w1 from by rw [hw1]; exact (Below.refl _ _).alloc (Nat.le_refl _) _)
  have KR1 := Lib.hid (show Blk w1 w.heap.size 29 #[.int .i64 0, .int .i64 0, .int .i64 0, .bool false, .int .u64 0, .int .u64 0, .bool false, .int .u64 0, .int .u64 0, .slice none 0 0, .int .i64 0] from by rw [hw1]; exact Blk.new w _ _)
  have SZ1 := Lib.hid (show w1.heap.size = w.heap.size + 1 from by rw [hw1]; simp)
  have HBG := Lib.hid (begin_any b off n c l w1 hl hn (by have := SZ1.out; omega) (hs.below BA1.out hb) hx)
  rw [if_pos hv] at HBG
  have HQ := Lib.hid (show sixQ l = ofC (chn 9 [] (l.getD 6 0) (l.drop 40)) from by unfold sixQ; rw [if_neg (by omega), if_neg (by omega)])
  have HR11 := Lib.hid (show chn 9 [] (l.getD 6 0) (l.drop 40) = none → sixQ l = .inl 11 from fun h => by rw [HQ.out, h]; rfl)
  have HR0 := Lib.hid (show ∀ ys q r, chn 9 [] (l.getD 6 0) (l.drop 40) = some (ys, q, r) → sixQ l = .inr (ys, q, r) from fun ys q r h => by rw [HQ.out, h]; rfl)
  have HRD := Lib.hid (Go.Proofs.Ytndekicblbpkjaa.sixE.read_any b off n c l w1 hl hn hn2 hnc hc (by have := SZ1.out; omega) (hs.below BA1.out hb) hx)
  clear hw1 hl hn hn2 hnc hc hs hx hv hb
  go_enter Try.func12, Try.ntmps12
  go_wp2_with fail
  rw [← E1.out]
  refine HBG.out.mono ?_
  rintro o w' ⟨rfl, rfl⟩
  go_wp2_with fail
  refine HRD.out.mono ?_
  rintro o w2 ⟨hb2, hrp⟩
  rcases hrp with ⟨hcn, rfl⟩ | ⟨ys, q, r, hcs, L, A, c2, v, rfl, hre, hgx, how⟩
  · have HRES := Lib.hid (HR11.out hcn)
    have B2 := Lib.hid (BA1.out.trans (hb2.mono (by have := SZ1.out; omega)))
    have KR2 := Lib.hid (KR1.out.below hb2 (by have := SZ1.out; omega))
    clear hcn hb2
    have r0 := KR2.out.cell 0
    have r1 := KR2.out.cell 1
    have r2 := KR2.out.cell 2
    have r3 := KR2.out.cell 3
    have r4 := KR2.out.cell 4
    have r5 := KR2.out.cell 5
    have r6 := KR2.out.cell 6
    have r7 := KR2.out.cell 7
    have r8 := KR2.out.cell 8
    have r9 := KR2.out.cell 9
    have r10 := KR2.out.cell 10
    have z0 := KR2.out.frozen 0
    have z1 := KR2.out.frozen 1
    have z2 := KR2.out.frozen 2
    have z3 := KR2.out.frozen 3
    have z4 := KR2.out.frozen 4
    have z5 := KR2.out.frozen 5
    have z6 := KR2.out.frozen 6
    have z7 := KR2.out.frozen 7
    have z8 := KR2.out.frozen 8
    have z9 := KR2.out.frozen 9
    have z10 := KR2.out.frozen 10
    go_wp2_with fail
    refine bodyPost_ret (results_read rfl _ _ w.heap.size #[.int .i64 0, .int .i64 0, .int .i64 0, .bool false, .int .u64 0, .int .u64 0, .bool false, .int .u64 0, .int .u64 0, .slice none 0 0, .int .i64 0] rfl (zstore w2 w.heap.size KR2.out) rfl) rfl ?_
    exact ⟨B2.out.trans (zbelow w2 w.heap.size w.heap.size (Nat.le_refl _)), .inl ⟨11, HRES.out, rfl⟩⟩
  · have HRES := Lib.hid (HR0.out ys q r hcs)
    have B2 := Lib.hid (BA1.out.trans (hb2.mono (by have := SZ1.out; omega)))
    have KR2 := Lib.hid (KR1.out.below hb2 (by have := SZ1.out; omega))
    have ON := Lib.hid (fun v0 v1 v2 v3 v4 v5 v6 v7 v8 v9 v10 => honly w2 w.heap.size v0 v1 v2 v3 v4 v5 v6 v7 v8 v9 v10)
    have ST := Lib.hid (fun v0 v1 v2 v3 v4 v5 v6 v7 v8 v9 v10 => hstore w2 w.heap.size v0 v1 v2 v3 v4 v5 v6 v7 v8 v9 v10 (.int .i64 0) (.int .i64 0) (.int .i64 0) (.bool false) (.int .u64 0) (.int .u64 0) (.bool false) (.int .u64 0) (.int .u64 0) (.slice none 0 0) (.int .i64 0) KR2.out)
    have GX := Lib.hid (show ∀ W, OnlyG w.heap.size w2 W → GotX W w.heap.size (.slice A ys.length c2) L from fun W h => (hgx.els_ (by have := SZ1.out; omega) (toEls h)).base (by have := SZ1.out; omega))
    have OW := Lib.hid (show ∀ W, OnlyG w.heap.size w2 W → W.ownsRow w.heap.size 5 1 v r.length (r.map (.int .u8)) from fun W h => own_base (own_els how (by have := SZ1.out; omega) (toEls h)) (by have := SZ1.out; omega))
    have HRE := Lib.hid hre
    have HHD := Lib.hid (show hdOf l q = hdOf l q from rfl)
    obtain ⟨x0, x1, x2, x3, x4, x5, x6, x7, x8, x9, hx⟩ : ∃ x0 x1 x2 x3 x4 x5 x6 x7 x8 x9, hdOf l q = ⟨x0, x1, x2, x3, x4, x5, x6, x7, x8, x9⟩ := ⟨_, _, _, _, _, _, _, _, _, _, rfl⟩
    have HXX := Lib.hid hx
    rw [hx]
    have HCE : ∀ V, Hs.cells ⟨x0, x1, x2, x3, x4, x5, x6, x7, x8, x9⟩ V = #[.int .i64 x0, .int .i64 x1, .int .i64 x2, .bool x3, .int .u64 x4, .int .u64 x5, .bool x6, .int .u64 x7, .int .u64 x8, V, .int .i64 x9] := fun V => rfl
    rw [HCE]
    clear HCE
    obtain ⟨ny, hny⟩ : ∃ ny, ny = ys.length := ⟨_, rfl⟩
    have HNY := Lib.hid hny
    rw [← hny]
    clear hcs hb2 hre hgx how hx hny
    have r0 := KR2.out.cell 0
    have r1 := KR2.out.cell 1
    have r2 := KR2.out.cell 2
    have r3 := KR2.out.cell 3
    have r4 := KR2.out.cell 4
    have r5 := KR2.out.cell 5
    have r6 := KR2.out.cell 6
    have r7 := KR2.out.cell 7
    have r8 := KR2.out.cell 8
    have r9 := KR2.out.cell 9
    have r10 := KR2.out.cell 10
    have z0 := KR2.out.frozen 0
    have z1 := KR2.out.frozen 1
    have z2 := KR2.out.frozen 2
    have z3 := KR2.out.frozen 3
    have z4 := KR2.out.frozen 4
    have z5 := KR2.out.frozen 5
    have z6 := KR2.out.frozen 6
    have z7 := KR2.out.frozen 7
    have z8 := KR2.out.frozen 8
    have z9 := KR2.out.frozen 9
    have z10 := KR2.out.frozen 10
    go_wp2_with fail
    have KZ := ST.out (.int .i64 x0) (.int .i64 x1) (.int .i64 x2) (.bool x3) (.int .u64 x4) (.int .u64 x5) (.bool x6) (.int .u64 x7) (.int .u64 x8) (.slice A ny c2) (.int .i64 x9)
    have OZ := ON.out (.int .i64 x0) (.int .i64 x1) (.int .i64 x2) (.bool x3) (.int .u64 x4) (.int .u64 x5) (.bool x6) (.int .u64 x7) (.int .u64 x8) (.slice A ny c2) (.int .i64 x9)
    refine bodyPost_ret (results_read rfl _ _ w.heap.size _ rfl KZ rfl) rfl ?_
    refine ⟨B2.out.trans OZ.bel, .inr ⟨ys, q, r, HRES.out, L, A, c2, v, ?_, HRE.out, GX.out _ OZ, OW.out _ OZ⟩⟩
    rw [HXX.out, ← HNY.out]
    rfl
set_option maxHeartbeats 4000000 in
set_option maxRecDepth 100000 in
theorem parse_ok (b off n c : Nat) (l : List Int) (w : World) (hl : l.length = n) (hn : 40 ≤ n) (hn2 : n ≤ 100000) (hnc : n ≤ c) (hc : c ≤ 9223372036854775807) (hb : b < w.heap.size) (hs : Lies w b off l) (hx : U8 l) (hv : l.getD 0 0 / 16 = 6) :
    Calls Try.prog 11 #[.slice (some ⟨b, off, none⟩) n c] w (HeadP w l (sixP l)) := by
  obtain ⟨w1, hw1⟩ : ∃ w1, w1 = w.alloc (.cells #[.int .i64 0, .int .i64 0, .int .i64 0, .bool false, .int .u64 0, .int .u64 0, .bool false, .int .u64 0, .int .u64 0, .slice none 0 0, .int .i64 0] 29) := ⟨_, rfl⟩
  have E1 := Lib.hid hw1
  have BA1 := Lib.hid (show Below w.heap.size w w1 from by rw [hw1]; exact (Below.refl _ _).alloc (Nat.le_refl _) _)
  have KR1 := Lib.hid (show Blk w1 w.heap.size 29 #[.int .i64 0, .int .i64 0, .int .i64 0, .bool false, .int .u64 0, .int .u64 0, .bool false, .int .u64 0, .int .u64 0, .slice none 0 0, .int .i64 0] from by rw [hw1]; exact Blk.new w _ _)
  have SZ1 := Lib.hid (show w1.heap.size = w.heap.size + 1 from by rw [hw1]; simp)
  have HBG := Lib.hid (begin_any b off n c l w1 hl hn (by have := SZ1.out; omega) (hs.below BA1.out hb) hx)
  rw [if_pos hv] at HBG
  have HAT := Lib.hid (at_2 4 (some ⟨b, off, none⟩) n c l w1 hl (by omega) hnc hc (by intro h; cases h) ((hs.below BA1.out hb).row (by have := SZ1.out; omega)) hx (by omega))
  have g4 := hx.get 4
  have g5 : 0 ≤ l.getD (4 + 1) 0 ∧ l.getD (4 + 1) 0 ≤ 255 := hx.get 5
  obtain ⟨s, hs4⟩ : ∃ s, s = sizeP l := ⟨_, rfl⟩
  have e4 : 256 * l.getD 4 0 + l.getD (4 + 1) 0 = (s : Int) := by rw [hs4]; unfold sizeP; show 256 * l.getD 4 0 + l.getD (4 + 1) 0 = (((256 * l.getD 4 0 + l.getD (4 + 1) 0).toNat : Nat) : Int); omega
  have hs6 : s ≤ 65535 := by omega
  rw [e4] at HAT
  have ws : IntKind.i64.wrap (s : Int) = (s : Int) := IntWalk.i64_in _ (by omega)
  have wn : IntKind.i64.wrap ((n : Int) - 40) = (n : Int) - 40 := IntWalk.i64_in _ (by omega)
  have ws4 : IntKind.i64.wrap (40 + (s : Int)) = 40 + (s : Int) := IntWalk.i64_in _ (by omega)
  by_cases hlt : n - 40 < s
  · have t : decide ((n : Int) - 40 < (s : Int)) = true := decide_eq_true (by omega)
    have HRES := Lib.hid (show sixP l = .inl 12 from by unfold sixP; rw [if_neg (by omega), if_neg (by omega), ← hs4, if_pos (by omega)])
    clear hw1 hl hs hx hv e4 g4 g5 hs4 hlt
    go_enter Try.func11, Try.ntmps11
    go_wp2_with fail
    rw [← E1.out]
    refine HBG.out.mono ?_
    rintro o w' ⟨rfl, rfl⟩
    go_wp2_with fail
    refine HAT.out.mono ?_
    rintro o w' ⟨rfl, rfl⟩
    have r0 := KR1.out.cell 0
    have r1 := KR1.out.cell 1
    have r2 := KR1.out.cell 2
    have r3 := KR1.out.cell 3
    have r4 := KR1.out.cell 4
    have r5 := KR1.out.cell 5
    have r6 := KR1.out.cell 6
    have r7 := KR1.out.cell 7
    have r8 := KR1.out.cell 8
    have r9 := KR1.out.cell 9
    have r10 := KR1.out.cell 10
    have z0 := KR1.out.frozen 0
    have z1 := KR1.out.frozen 1
    have z2 := KR1.out.frozen 2
    have z3 := KR1.out.frozen 3
    have z4 := KR1.out.frozen 4
    have z5 := KR1.out.frozen 5
    have z6 := KR1.out.frozen 6
    have z7 := KR1.out.frozen 7
    have z8 := KR1.out.frozen 8
    have z9 := KR1.out.frozen 9
    have z10 := KR1.out.frozen 10
    go_wp2_with fail
    refine bodyPost_ret (results_read rfl _ _ w.heap.size #[.int .i64 0, .int .i64 0, .int .i64 0, .bool false, .int .u64 0, .int .u64 0, .bool false, .int .u64 0, .int .u64 0, .slice none 0 0, .int .i64 0] rfl (zstore w1 w.heap.size KR1.out) rfl) rfl ?_
    exact ⟨BA1.out.trans (zbelow w1 w.heap.size w.heap.size (Nat.le_refl _)), .inl ⟨12, HRES.out, rfl⟩⟩
  · have t : decide ((n : Int) - 40 < (s : Int)) = false := decide_eq_false (by omega)
    have HQ := Lib.hid (show sixP l = ofC (chn 9 [] (l.getD 6 0) ((l.take (40 + s)).drop 40)) from by unfold sixP; rw [if_neg (by omega), if_neg (by omega), ← hs4, if_neg (by omega)])
    have e6 : (l.take (40 + s)).getD 6 0 = l.getD 6 0 := getD_take l _ 6 (by omega)
    have HR11 := Lib.hid (show chn 9 [] ((l.take (40 + s)).getD 6 0) ((l.take (40 + s)).drop 40) = none → sixP l = .inl 11 from fun h => by rw [e6] at h; rw [HQ.out, h]; rfl)
    have HR0 := Lib.hid (show ∀ ys q r, chn 9 [] ((l.take (40 + s)).getD 6 0) ((l.take (40 + s)).drop 40) = some (ys, q, r) → sixP l = .inr (ys, q, r) from fun ys q r h => by rw [e6] at h; rw [HQ.out, h]; rfl)
    have HRD := Lib.hid (Go.Proofs.Ytndekicblbpkjaa.sixE.read_any b off (40 + s) c (l.take (40 + s)) w1 (by rw [List.length_take]; omega) (by omega) (by omega) (by omega) hc (by have := SZ1.out; omega) ((hs.below BA1.out hb).take _) (hx.take _))
    obtain ⟨r1, r2⟩ := slice_to b off n c (40 + s) (by omega) (by omega)
    rw [show (((40 + s : Nat)) : Int) = 40 + (s : Int) by omega] at r1 r2
    have u1 : (0 : Int) ≤ 40 + (s : Int) := by omega
    have u2 : 40 + (s : Int) ≤ (c : Int) := by omega
    clear hw1 hl hs hx hv hb e4 g4 g5 hs4 e6
    go_enter Try.func11, Try.ntmps11
    go_wp2_with fail
    rw [← E1.out]
    refine HBG.out.mono ?_
    rintro o w' ⟨rfl, rfl⟩
    go_wp2_with fail
    refine HAT.out.mono ?_
    rintro o w' ⟨rfl, rfl⟩
    go_wp2_with fail
    refine HRD.out.mono ?_
    rintro o w2 ⟨hb2, hrp⟩
    clear r1 r2
    rcases hrp with ⟨hcn, rfl⟩ | ⟨ys, q, r, hcs, L, A, c2, v, rfl, hre, hgx, how⟩
    · have HRES := Lib.hid (HR11.out hcn)
      have B2 := Lib.hid (BA1.out.trans (hb2.mono (by have := SZ1.out; omega)))
      have KR2 := Lib.hid (KR1.out.below hb2 (by have := SZ1.out; omega))
      clear hcn hb2
      have r0 := KR2.out.cell 0
      have r1 := KR2.out.cell 1
      have r2 := KR2.out.cell 2
      have r3 := KR2.out.cell 3
      have r4 := KR2.out.cell 4
      have r5 := KR2.out.cell 5
      have r6 := KR2.out.cell 6
      have r7 := KR2.out.cell 7
      have r8 := KR2.out.cell 8
      have r9 := KR2.out.cell 9
      have r10 := KR2.out.cell 10
      have z0 := KR2.out.frozen 0
      have z1 := KR2.out.frozen 1
      have z2 := KR2.out.frozen 2
      have z3 := KR2.out.frozen 3
      have z4 := KR2.out.frozen 4
      have z5 := KR2.out.frozen 5
      have z6 := KR2.out.frozen 6
      have z7 := KR2.out.frozen 7
      have z8 := KR2.out.frozen 8
      have z9 := KR2.out.frozen 9
      have z10 := KR2.out.frozen 10
      go_wp2_with fail
      refine bodyPost_ret (results_read rfl _ _ w.heap.size #[.int .i64 0, .int .i64 0, .int .i64 0, .bool false, .int .u64 0, .int .u64 0, .bool false, .int .u64 0, .int .u64 0, .slice none 0 0, .int .i64 0] rfl (zstore w2 w.heap.size KR2.out) rfl) rfl ?_
      exact ⟨B2.out.trans (zbelow w2 w.heap.size w.heap.size (Nat.le_refl _)), .inl ⟨11, HRES.out, rfl⟩⟩
    · have HRES := Lib.hid (HR0.out ys q r hcs)
      have B2 := Lib.hid (BA1.out.trans (hb2.mono (by have := SZ1.out; omega)))
      have KR2 := Lib.hid (KR1.out.below hb2 (by have := SZ1.out; omega))
      have ON := Lib.hid (fun v0 v1 v2 v3 v4 v5 v6 v7 v8 v9 v10 => honly w2 w.heap.size v0 v1 v2 v3 v4 v5 v6 v7 v8 v9 v10)
      have ST := Lib.hid (fun v0 v1 v2 v3 v4 v5 v6 v7 v8 v9 v10 => hstore w2 w.heap.size v0 v1 v2 v3 v4 v5 v6 v7 v8 v9 v10 (.int .i64 0) (.int .i64 0) (.int .i64 0) (.bool false) (.int .u64 0) (.int .u64 0) (.bool false) (.int .u64 0) (.int .u64 0) (.slice none 0 0) (.int .i64 0) KR2.out)
      have GX := Lib.hid (show ∀ W, OnlyG w.heap.size w2 W → GotX W w.heap.size (.slice A ys.length c2) L from fun W h => (hgx.els_ (by have := SZ1.out; omega) (toEls h)).base (by have := SZ1.out; omega))
      have OW := Lib.hid (show ∀ W, OnlyG w.heap.size w2 W → W.ownsRow w.heap.size 5 1 v r.length (r.map (.int .u8)) from fun W h => own_base (own_els how (by have := SZ1.out; omega) (toEls h)) (by have := SZ1.out; omega))
      have HRE := Lib.hid hre
      have HHD := Lib.hid (show hdOf (l.take (40 + s)) q = hdOf l q from hdOf_take l _ (by omega) q)
      obtain ⟨x0, x1, x2, x3, x4, x5, x6, x7, x8, x9, hx⟩ : ∃ x0 x1 x2 x3 x4 x5 x6 x7 x8 x9, hdOf (l.take (40 + s)) q = ⟨x0, x1, x2, x3, x4, x5, x6, x7, x8, x9⟩ := ⟨_, _, _, _, _, _, _, _, _, _, rfl⟩
      have HXX := Lib.hid hx
      rw [hx]
      have HCE : ∀ V, Hs.cells ⟨x0, x1, x2, x3, x4, x5, x6, x7, x8, x9⟩ V = #[.int .i64 x0, .int .i64 x1, .int .i64 x2, .bool x3, .int .u64 x4, .int .u64 x5, .bool x6, .int .u64 x7, .int .u64 x8, V, .int .i64 x9] := fun V => rfl
      rw [HCE]
      clear HCE
      obtain ⟨ny, hny⟩ : ∃ ny, ny = ys.length := ⟨_, rfl⟩
      have HNY := Lib.hid hny
      rw [← hny]
      clear hcs hb2 hre hgx how hx hny
      have r0 := KR2.out.cell 0
      have r1 := KR2.out.cell 1
      have r2 := KR2.out.cell 2
      have r3 := KR2.out.cell 3
      have r4 := KR2.out.cell 4
      have r5 := KR2.out.cell 5
      have r6 := KR2.out.cell 6
      have r7 := KR2.out.cell 7
      have r8 := KR2.out.cell 8
      have r9 := KR2.out.cell 9
      have r10 := KR2.out.cell 10
      have z0 := KR2.out.frozen 0
      have z1 := KR2.out.frozen 1
      have z2 := KR2.out.frozen 2
      have z3 := KR2.out.frozen 3
      have z4 := KR2.out.frozen 4
      have z5 := KR2.out.frozen 5
      have z6 := KR2.out.frozen 6
      have z7 := KR2.out.frozen 7
      have z8 := KR2.out.frozen 8
      have z9 := KR2.out.frozen 9
      have z10 := KR2.out.frozen 10
      go_wp2_with fail
      have KZ := ST.out (.int .i64 x0) (.int .i64 x1) (.int .i64 x2) (.bool x3) (.int .u64 x4) (.int .u64 x5) (.bool x6) (.int .u64 x7) (.int .u64 x8) (.slice A ny c2) (.int .i64 x9)
      have OZ := ON.out (.int .i64 x0) (.int .i64 x1) (.int .i64 x2) (.bool x3) (.int .u64 x4) (.int .u64 x5) (.bool x6) (.int .u64 x7) (.int .u64 x8) (.slice A ny c2) (.int .i64 x9)
      refine bodyPost_ret (results_read rfl _ _ w.heap.size _ rfl KZ rfl) rfl ?_
      refine ⟨B2.out.trans OZ.bel, .inr ⟨ys, q, r, HRES.out, L, A, c2, v, ?_, HRE.out, GX.out _ OZ, OW.out _ OZ⟩⟩
      rw [← HHD.out, HXX.out, ← HNY.out]
      rfl
end Go.Proofs.Ytndekicblbpkjaa.sixF
namespace Go.Proofs.Ytndekicblbpkjaa.sixG
end Go.Proofs.Ytndekicblbpkjaa.sixG
/- Layer 9: which headers may be. -/
namespace Go.Proofs.Ytndekicblbpkjaa.sixH
open Go.ChangeShapes Go.WideShapes Go.ChangeAt Go.RowKit
open Go.Proofs.Ytndekicblbpkjaa.base Go.Proofs.Ytndekicblbpkjaa.octA Go.Proofs.Ytndekicblbpkjaa.octB Go.Proofs.Ytndekicblbpkjaa.octC Go.Proofs.Ytndekicblbpkjaa.octF Go.Proofs.Ytndekicblbpkjaa.octK Go.Proofs.Ytndekicblbpkjaa.net Go.Proofs.Ytndekicblbpkjaa.rdrA Go.Proofs.Ytndekicblbpkjaa.rdrG Go.Proofs.Ytndekicblbpkjaa.sumA Go.Proofs.Ytndekicblbpkjaa.sumB Go.Proofs.Ytndekicblbpkjaa.udpA Go.Proofs.Ytndekicblbpkjaa.tcpC Go.Proofs.Ytndekicblbpkjaa.sixW Go.Proofs.Ytndekicblbpkjaa.sixM Go.Proofs.Ytndekicblbpkjaa.sixA Go.Proofs.Ytndekicblbpkjaa.sixB Go.Proofs.Ytndekicblbpkjaa.sixC Go.Proofs.Ytndekicblbpkjaa.sixD Go.Proofs.Ytndekicblbpkjaa.sixE Go.Proofs.Ytndekicblbpkjaa.sixF Go.Proofs.Ytndekicblbpkjaa.sixG
set_option linter.unusedVariables false

/-- A header that may be. -/
structure RightH (h : Hs) (l : List XP) : Prop where
  c0 : 0 ≤ h.cls
  c1 : h.cls ≤ 255
  h0 : 0 ≤ h.hop
  h1 : h.hop ≤ 255
  l0 : 0 ≤ h.lab
  l1 : h.lab ≤ 1048575
  s6 : h.s6 = true
  d6 : h.d6 = true
  p0 : 0 ≤ h.p
  p1 : h.p ≤ 255
  pn : isX h.p = false
  e : RightE l
end Go.Proofs.Ytndekicblbpkjaa.sixH
namespace Go.Proofs.Ytndekicblbpkjaa.sixI
end Go.Proofs.Ytndekicblbpkjaa.sixI
/- Layer 5: the bytes of an address of version 6. -/
namespace Go.Proofs.Ytndekicblbpkjaa.sixJ
open Go.ChangeShapes Go.WideShapes Go.ChangeAt Go.RowKit
open Go.Proofs.Ytndekicblbpkjaa.base Go.Proofs.Ytndekicblbpkjaa.octA Go.Proofs.Ytndekicblbpkjaa.octB Go.Proofs.Ytndekicblbpkjaa.octC Go.Proofs.Ytndekicblbpkjaa.octF Go.Proofs.Ytndekicblbpkjaa.octK Go.Proofs.Ytndekicblbpkjaa.net Go.Proofs.Ytndekicblbpkjaa.rdrA Go.Proofs.Ytndekicblbpkjaa.rdrG Go.Proofs.Ytndekicblbpkjaa.sumA Go.Proofs.Ytndekicblbpkjaa.sumB Go.Proofs.Ytndekicblbpkjaa.udpA Go.Proofs.Ytndekicblbpkjaa.tcpC Go.Proofs.Ytndekicblbpkjaa.sixW Go.Proofs.Ytndekicblbpkjaa.sixM Go.Proofs.Ytndekicblbpkjaa.sixA Go.Proofs.Ytndekicblbpkjaa.sixB
set_option linter.unusedVariables false

/-- What is in the array behind some rounds. -/
def aB (hh ll : Int) (j i : Nat) : Int := if i < 8 then (if i < j then byteZ hh (7 - i) else 0) else (if i - 8 < j then byteZ ll (7 - (i - 8)) else 0)
structure Ar (hh ll : Int) (j : Nat) (cs : Array Value) : Prop where
  size : cs.size = 16
  at_ : ∀ i, i < 16 → cs[i]? = some (.int .u8 (aB hh ll j i))
theorem Ar.zero (hh ll : Int) : Ar hh ll 0 #[.int .u8 0, .int .u8 0, .int .u8 0, .int .u8 0, .int .u8 0, .int .u8 0, .int .u8 0, .int .u8 0, .int .u8 0, .int .u8 0, .int .u8 0, .int .u8 0, .int .u8 0, .int .u8 0, .int .u8 0, .int .u8 0] := ⟨rfl, fun i hi => by
  have : aB hh ll 0 i = 0 := by unfold aB; simp
  rw [this]
  show ((List.replicate 16 (Value.int .u8 0)).toArray)[i]? = _
  rw [List.getElem?_toArray, List.getElem?_replicate, if_pos hi]⟩
theorem Ar.next {hh ll : Int} {j : Nat} {cs : Array Value} (h : Ar hh ll j cs) (hj : j < 8) : Ar hh ll (j + 1) ((cs.setIfInBounds j (.int .u8 (byteZ hh (7 - j)))).setIfInBounds (8 + j) (.int .u8 (byteZ ll (7 - j)))) := by
  refine ⟨by rw [Array.size_setIfInBounds, Array.size_setIfInBounds]; exact h.size, fun i hi => ?_⟩
  have hs := h.size
  rw [Array.getElem?_setIfInBounds, Array.getElem?_setIfInBounds, Array.size_setIfInBounds]
  by_cases h1 : 8 + j = i
  · subst h1
    rw [if_pos rfl, if_pos (by omega)]
    unfold aB
    rw [if_neg (by omega), show 8 + j - 8 = j by omega, if_pos (by omega)]
  · rw [if_neg h1]
    by_cases h2 : j = i
    · subst h2
      rw [if_pos rfl, if_pos (by omega)]
      unfold aB
      rw [if_pos (by omega), if_pos (by omega)]
    · rw [if_neg h2, h.at_ i hi]
      congr 2
      unfold aB
      by_cases h3 : i < 8
      · rw [if_pos h3, if_pos h3]
        by_cases h4 : i < j
        · rw [if_pos h4, if_pos (by omega)]
        · rw [if_neg h4, if_neg (by omega)]
      · rw [if_neg h3, if_neg h3]
        by_cases h4 : i - 8 < j
        · rw [if_pos h4, if_pos (by omega)]
        · rw [if_neg h4, if_neg (by omega)]
end Go.Proofs.Ytndekicblbpkjaa.sixJ
/- Layer 9: the law's bytes. -/
namespace Go.Proofs.Ytndekicblbpkjaa.sixK
open Go.ChangeShapes Go.WideShapes Go.ChangeAt Go.RowKit
open Go.Proofs.Ytndekicblbpkjaa.base Go.Proofs.Ytndekicblbpkjaa.octA Go.Proofs.Ytndekicblbpkjaa.octB Go.Proofs.Ytndekicblbpkjaa.octC Go.Proofs.Ytndekicblbpkjaa.octF Go.Proofs.Ytndekicblbpkjaa.octK Go.Proofs.Ytndekicblbpkjaa.net Go.Proofs.Ytndekicblbpkjaa.rdrA Go.Proofs.Ytndekicblbpkjaa.rdrG Go.Proofs.Ytndekicblbpkjaa.sumA Go.Proofs.Ytndekicblbpkjaa.sumB Go.Proofs.Ytndekicblbpkjaa.udpA Go.Proofs.Ytndekicblbpkjaa.tcpC Go.Proofs.Ytndekicblbpkjaa.sixW Go.Proofs.Ytndekicblbpkjaa.sixM Go.Proofs.Ytndekicblbpkjaa.sixA Go.Proofs.Ytndekicblbpkjaa.sixB Go.Proofs.Ytndekicblbpkjaa.sixC Go.Proofs.Ytndekicblbpkjaa.sixD Go.Proofs.Ytndekicblbpkjaa.sixE Go.Proofs.Ytndekicblbpkjaa.sixF Go.Proofs.Ytndekicblbpkjaa.sixG Go.Proofs.Ytndekicblbpkjaa.sixH Go.Proofs.Ytndekicblbpkjaa.sixI Go.Proofs.Ytndekicblbpkjaa.sixJ
set_option linter.unusedVariables false

/-- A header's first eight bytes. -/
def hd8 (cls lab hop p0 : Int) (n : Nat) : List Int := [96 + cls / 16, cls % 16 * 16 + lab / 65536, lab / 256 % 256, lab % 256, (n : Int) / 256 % 256, (n : Int) % 256, p0, hop]
/-- A header's bytes. -/
def hdB (h : Hs) (p0 : Int) (n : Nat) : List Int := hd8 h.cls h.lab h.hop p0 n ++ (pb h.sh 8 8 ++ pb h.sl 8 8) ++ (pb h.dh 8 8 ++ pb h.dl 8 8)
/-- A packet's bytes. -/
def sixB (h : Hs) (l : List XP) (r : List Int) : List Int := hdB h (nextK l h.p) (extL l + r.length) ++ (extB l h.p ++ r)
theorem own_lit (w : World) (B : Nat) (xs : List Value) (n : Nat) (hn : xs.length = n) (hb : B ≤ w.heap.size) (hm : n ≤ 1000000) : (w.alloc (.cells xs.toArray 5)).ownsRow B 5 1 (.slice (some ⟨w.heap.size, 0, none⟩) n n) n xs :=
  ⟨by omega, .inr ⟨w.heap.size, n, xs.toArray, rfl, hb, heap_alloc_new w _, Nat.le_refl _, by unfold maxLen; omega, by simpa using hn, by rw [Nat.mul_one]; simpa using List.take_of_length_le (show xs.length ≤ n by omega)⟩⟩
end Go.Proofs.Ytndekicblbpkjaa.sixK
namespace Go.Proofs.Ytndekicblbpkjaa.sixN
end Go.Proofs.Ytndekicblbpkjaa.sixN
/- Layer 9: next, Len, the law's cut. -/
namespace Go.Proofs.Ytndekicblbpkjaa.sixO
open Go.ChangeShapes Go.WideShapes Go.ChangeAt Go.RowKit
open Go.Proofs.Ytndekicblbpkjaa.base Go.Proofs.Ytndekicblbpkjaa.octA Go.Proofs.Ytndekicblbpkjaa.octB Go.Proofs.Ytndekicblbpkjaa.octC Go.Proofs.Ytndekicblbpkjaa.octF Go.Proofs.Ytndekicblbpkjaa.octK Go.Proofs.Ytndekicblbpkjaa.net Go.Proofs.Ytndekicblbpkjaa.rdrA Go.Proofs.Ytndekicblbpkjaa.rdrG Go.Proofs.Ytndekicblbpkjaa.sumA Go.Proofs.Ytndekicblbpkjaa.sumB Go.Proofs.Ytndekicblbpkjaa.udpA Go.Proofs.Ytndekicblbpkjaa.tcpC Go.Proofs.Ytndekicblbpkjaa.sixW Go.Proofs.Ytndekicblbpkjaa.sixM Go.Proofs.Ytndekicblbpkjaa.sixA Go.Proofs.Ytndekicblbpkjaa.sixB Go.Proofs.Ytndekicblbpkjaa.sixC Go.Proofs.Ytndekicblbpkjaa.sixD Go.Proofs.Ytndekicblbpkjaa.sixE Go.Proofs.Ytndekicblbpkjaa.sixF Go.Proofs.Ytndekicblbpkjaa.sixG Go.Proofs.Ytndekicblbpkjaa.sixN
set_option linter.unusedVariables false

set_option maxHeartbeats 2000000 in
set_option maxRecDepth 100000 in
theorem cut_any (A : Option Addr) (n c : Nat) (w : World) (hA : 0 < n → ∃ b off, A = some ⟨b, off, none⟩) (hnc : n ≤ c) (hc : c ≤ 9223372036854775807) :
    Calls Try.prog 10 #[.slice A n c] w fun o w' => o = .returned (.slice A (min n 500) c) ∧ w = w' := by
  by_cases h : 500 < n
  · obtain ⟨b, off, rfl⟩ := hA (by omega)
    obtain ⟨s1, s2⟩ := slice_to b off n c 500 (by omega) (by omega)
    have t1 : decide (500 < (n : Int)) = true := decide_eq_true (by omega)
    have t1n : decide (500 < n) = true := decide_eq_true h
    have e : min n 500 = 500 := by omega
    rw [e]
    have s1 : ∀ W : World, (Instr.slice 22 (.slice (some ⟨b, off, none⟩) n c) none (some (.int .i64 500)) none).run Try.prog W = .ok (.slice (some ⟨b, off, none⟩) 500 c) W := s1
    have s2 : ∀ W : World, (Instr.sliceAt 22 (.slice (some ⟨b, off, none⟩) n c) none (some (.int .i64 500)) none).run Try.prog W = .ok (.slice (some ⟨b, off, none⟩) 500 c) W := s2
    clear e hA
    go_enter Try.func10, Try.ntmps10
    go_wp2_with fail
    go_ret
    exact ⟨rfl, rfl⟩
  · have t1 : decide (500 < (n : Int)) = false := decide_eq_false (by omega)
    have t1n : decide (500 < n) = false := decide_eq_false h
    have e : min n 500 = n := by omega
    rw [e]
    clear e hA
    go_enter Try.func10, Try.ntmps10
    go_wp2_with fail
    go_ret
    exact ⟨rfl, rfl⟩
set_option maxHeartbeats 4000000 in
set_option maxRecDepth 100000 in
theorem len_any (h : Hs) (A : Option Addr) (n c : Nat) (l : List Xt) (w : World) (hl : l.length = n) (hr : RdX w A l) (hn : n ≤ 8) (hd : ∀ x ∈ l, x.d.length ≤ 2047) :
    Calls Try.prog 20 #[.agg (h.cells (.slice A n c))] w fun o w' => o = .returned (.int .i64 (40 + extL (l.map Xt.re) : Nat)) ∧ Below w.heap.size w w' := by
  obtain ⟨cls, lab, hop, s6, sh, sl, d6, dh, dl, p⟩ := h
  obtain ⟨w1, hw1⟩ : ∃ w1, w1 = w.alloc (.cells #[.int .i64 cls, .int .i64 lab, .int .i64 hop, .bool s6, .int .u64 sh, .int .u64 sl, .bool d6, .int .u64 dh, .int .u64 dl, .slice A n c, .int .i64 p] 29) := ⟨_, rfl⟩
  have E1 := Lib.hid hw1
  have BA := Lib.hid (show Below w.heap.size w w1 from by rw [hw1]; exact (Below.refl _ _).alloc (Nat.le_refl _) _)
  have KB := Lib.hid (show Blk w1 w.heap.size 29 #[.int .i64 cls, .int .i64 lab, .int .i64 hop, .bool s6, .int .u64 sh, .int .u64 sl, .bool d6, .int .u64 dh, .int .u64 dl, .slice A n c, .int .i64 p] from by rw [hw1]; exact Blk.new w _ _)
  have HR1 := Lib.hid (hr.below BA.out)
  have SZ1 := Lib.hid (show w1.heap.size = w.heap.size + 1 from by rw [hw1]; simp)
  have HL := Lib.hid hl
  have x9 := KB.out.cell 9
  have x10 := KB.out.cell 10
  show Calls _ _ #[.agg #[.int .i64 cls, .int .i64 lab, .int .i64 hop, .bool s6, .int .u64 sh, .int .u64 sl, .bool d6, .int .u64 dh, .int .u64 dl, .slice A n c, .int .i64 p]] _ _
  have HD := Lib.hid (show ∀ k, k ≤ n → extL ((l.map Xt.re).take k) ≤ 2048 * k from fun k => by
    induction k with
    | zero => intro _; simp [extL]
    | succ k ih =>
      intro hk
      have hk2 : k < (l.map Xt.re).length := by rw [List.length_map, hl]; omega
      have := hd (l[k]'(by rw [hl]; omega)) (List.getElem_mem _)
      rw [List.take_succ_eq_append_getElem hk2]
      have e : extL ((l.map Xt.re).take k ++ [(l.map Xt.re)[k]]) = extL ((l.map Xt.re).take k) + (1 + (l[k]'(by rw [hl]; omega)).d.length) := by
        unfold extL
        rw [List.map_append, List.sum_append]
        simp [Xt.re]
      rw [e]
      have := ih (by omega)
      omega)
  have HST := Lib.hid (show ∀ k (hk : k < l.length), extL ((l.map Xt.re).take (k + 1)) = extL ((l.map Xt.re).take k) + (1 + l[k].d.length) from fun k hk => by
    have hk2 : k < (l.map Xt.re).length := by rw [List.length_map]; exact hk
    rw [List.take_succ_eq_append_getElem hk2]
    unfold extL
    rw [List.map_append, List.sum_append]
    simp [Xt.re])
  have HALL := Lib.hid (show extL ((l.map Xt.re).take n) = extL (l.map Xt.re) from by rw [List.take_of_length_le (by rw [List.length_map, hl]; exact Nat.le_refl _)])
  clear hw1 hl hr hd
  go_enter Try.func20, Try.ntmps20
  go_upto_region 3 with fail
  rw [← E1.out]
  go_loopw [3, 9] (fun tv iv wr => ∃ k v : Nat, k ≤ n ∧ iv = .int .i64 k ∧ tv = .int .i64 v ∧ Hid (v = 40 + extL ((l.map Xt.re).take k)) ∧ Hid (Below w1.heap.size w1 wr)) (fun _ i _ => n - (intOf i).toNat)
  case atStart => exact ⟨0, 40, by omega, rfl, rfl, Lib.hid (by simp [extL]), Lib.hid (Below.refl _ _)⟩
  case round =>
    obtain ⟨k, v, hk, rfl, rfl, HV, HB⟩ := hrel
    have hvb : v ≤ 40 + 2048 * k := by have := HV.out; have := HD.out k hk; omega
    by_cases hlt : k < n
    · have hkl : k < l.length := by rw [HL.out]; exact hlt
      obtain ⟨b, off, hA, hbl, hC⟩ := (HR1.out.below HB.out).at_ k hkl
      subst hA
      have hst := HST.out k hkl
      have hdk := HD.out (k + 1) (by omega)
      obtain ⟨e, he⟩ : ∃ e, e = l[k] := ⟨_, rfl⟩
      rw [← he] at hC hst
      obtain ⟨ek, eA, ec, ed⟩ := e
      obtain ⟨q, hq⟩ : ∃ q, q = ed.length := ⟨_, rfl⟩
      have d0 : wr.cell? ⟨b, off + k * 2, none⟩ = some (.int .i64 ek) := hC 0 (by omega)
      have d1 : wr.cell? ⟨b, off + k * 2 + 1, none⟩ = some (.slice eA q ec) := by rw [hq]; exact hC 1 (by omega)
      have HVN := Lib.hid (show v + (1 + q) = 40 + extL ((l.map Xt.re).take (k + 1)) from by rw [hst, HV.out, hq]; show _ = _; simp only [Nat.add_assoc])
      have hq9 : v + (1 + q) ≤ 40 + 2048 * (k + 1) := by have := HVN.out; omega
      obtain ⟨w3, hw3⟩ : ∃ w3, w3 = wr.alloc (.cells #[.int .i64 ek, .slice eA q ec] 73) := ⟨_, rfl⟩
      have E3 := Lib.hid hw3
      have B3 := Lib.hid (show Below wr.heap.size wr w3 from by rw [hw3]; exact (Below.refl _ _).alloc (Nat.le_refl _) _)
      have K3 := Lib.hid (show Blk w3 wr.heap.size 73 #[.int .i64 ek, .slice eA q ec] from by rw [hw3]; exact Blk.new wr _ _)
      have HB3 := Lib.hid (HB.out.trans (B3.out.mono HB.out.size))
      have j0 : (0 : Int) ≤ k := by omega
      have j1 : (k : Int) < n := by omega
      have t1 : decide ((k : Int) < n) = true := decide_eq_true j1
      have t1n : decide (k < n) = true := decide_eq_true hlt
      have wk : IntKind.i64.wrap ((k : Int) + 1) = (k : Int) + 1 := IntWalk.i64_in _ (by omega)
      have wq : IntKind.i64.wrap (1 + (q : Int)) = 1 + (q : Int) := IntWalk.i64_in _ (by omega)
      have wv : IntKind.i64.wrap ((v : Int) + (1 + (q : Int))) = ((v + (1 + q) : Nat) : Int) := by rw [IntWalk.i64_in _ (by omega)]; omega
      clear hw3 hC hst hdk he hq hkl hbl hlt x9 x10
      go_upto_region 5 with fail
      rw [← E3.out]
      have z1 := K3.out.cell 1
      go_wp2_with fail
      go_roundw
      case rel => exact ⟨k + 1, v + (1 + q), by omega, by go_num, by go_num, HVN, HB3⟩
      case measure => simp [intOf]; omega
    · obtain rfl : k = n := by omega
      have t1 : decide ((k : Int) < k) = false := decide_eq_false (by omega)
      have t1n : decide (k < k) = false := decide_eq_false (by omega)
      have hv : v = 40 + extL (l.map Xt.re) := by rw [HV.out, HALL.out]
      subst hv
      go_wp2_with fail
      go_ret
      exact ⟨rfl, BA.out.trans (HB.out.mono BA.out.size)⟩
end Go.Proofs.Ytndekicblbpkjaa.sixO
