/- Layer 44: ops that are read of any bytes. -/
import Derived.Test.YtmlicmcphecakaaSnO
namespace Go.Proofs.Ytmlicmcphecakaa.snP
open Go.ChangeShapes Go.WideShapes Go.ChangeAt Go.RowKit
open Go.Proofs.Ytmlicmcphecakaa.base Go.Proofs.Ytmlicmcphecakaa.octA Go.Proofs.Ytmlicmcphecakaa.octB Go.Proofs.Ytmlicmcphecakaa.octC Go.Proofs.Ytmlicmcphecakaa.octF Go.Proofs.Ytmlicmcphecakaa.octK Go.Proofs.Ytmlicmcphecakaa.net Go.Proofs.Ytmlicmcphecakaa.rdrA Go.Proofs.Ytmlicmcphecakaa.snA Go.Proofs.Ytmlicmcphecakaa.snB Go.Proofs.Ytmlicmcphecakaa.snC Go.Proofs.Ytmlicmcphecakaa.snD Go.Proofs.Ytmlicmcphecakaa.snE Go.Proofs.Ytmlicmcphecakaa.snF Go.Proofs.Ytmlicmcphecakaa.snG Go.Proofs.Ytmlicmcphecakaa.snH Go.Proofs.Ytmlicmcphecakaa.snI Go.Proofs.Ytmlicmcphecakaa.snJ Go.Proofs.Ytmlicmcphecakaa.snK Go.Proofs.Ytmlicmcphecakaa.snL Go.Proofs.Ytmlicmcphecakaa.snN Go.Proofs.Ytmlicmcphecakaa.snO
set_option linter.unusedVariables false

theorem err_gen (B g : Nat) (l : List Int) (e : Int) (w : World) (h : St w B g l e) :
    Calls Try.prog 19 #[.pointer (some ⟨g, 0, none⟩)] w fun o w' => o = .returned (.int .i64 e) ∧ w = w' := by
  obtain ⟨A, c, h1⟩ := h.cells
  have c1 : w.cell? ⟨g, 1, none⟩ = some (.int .i64 e) := h1.cell 1
  clear h h1
  go_enter Try.func19, Try.ntmps19
  go_wp2
  go_ret
  exact ⟨rfl, rfl⟩
theorem left_gen (B g : Nat) (l : List Int) (e : Int) (w : World) (h : St w B g l e) :
    Calls Try.prog 21 #[.pointer (some ⟨g, 0, none⟩)] w fun o w' => o = .returned (.int .i64 (l.length : Int)) ∧ w = w' := by
  obtain ⟨A, c, h1⟩ := h.cells
  have c1 : w.cell? ⟨g, 0, none⟩ = some (.slice A l.length c) := h1.cell 0
  clear h h1
  go_enter Try.func21, Try.ntmps21
  go_wp2
  go_ret
  exact ⟨rfl, rfl⟩
theorem read_raw (A : Option Addr) (n c : Nat) (w : World) :
    Calls Try.prog 15 #[.slice A n c] w fun e w' => e = .returned (.pointer (some ⟨w.heap.size, 0, none⟩)) ∧ w' = w.alloc (.cells #[.slice A n c, .int .i64 0] 53) := by
  go_enter Try.func15, Try.ntmps15
  go_wp2
  go_ret
  exact ⟨rfl, rfl⟩
/-- A slice of bytes that came in. -/
def BytesIn (w : World) (A : Option Addr) (n c : Nat) (l : List Int) : Prop := (l = [] ∧ n = 0) ∨ ∃ b off, A = some ⟨b, off, none⟩ ∧ b < w.heap.size ∧ Lies w b off l ∧ l.length = n ∧ n ≤ c ∧ c ≤ 9223372036854775807
theorem bytes_in {w : World} {a : Option Addr} {len cap : Nat} {zs : List Int}
    (h : (a = none ∧ len = 0 ∧ cap = 0 ∧ zs = []) ∨ ∃ x, a = some x ∧ len ≤ cap ∧ cap ≤ maxLen ∧ zs.length = cap ∧ (∀ i, i < zs.length → w.cell? (x.add i) = some (.int .u8 (zs.getD i 0))) ∧ ∀ n ∈ zs, (Lit.int .u8 n).wf = true) : BytesIn w a len cap (zs.take len) ∧ U8 (zs.take len) := by
  rcases h with ⟨rfl, rfl, rfl, rfl⟩ | ⟨x, rfl, h1, h2, h3, h4, h5⟩
  · exact ⟨.inl ⟨rfl, rfl⟩, fun x hx => by cases hx⟩
  · refine ⟨?_, take_u8 h5⟩
    have hr := row_of_cells (k := .u8) h4 len
    have hl : (zs.take len).length = len := by rw [List.length_take]; omega
    rcases Nat.eq_zero_or_pos len with h0 | h0
    · subst h0
      exact .inl ⟨rfl, rfl⟩
    · obtain ⟨b, off, hA, hb, hli⟩ := lies_of hr (by omega)
      unfold maxLen at h2
      exact .inr ⟨b, off, hA, hb, hli, hl, h1, by omega⟩
theorem BytesIn.below {w w' : World} {A : Option Addr} {n c : Nat} {l : List Int} (h : BytesIn w A n c l) (hb : Below w.heap.size w w') : BytesIn w' A n c l := by
  rcases h with h | ⟨b, off, e1, h1, h2, h3⟩
  · exact .inl h
  · exact .inr ⟨b, off, e1, Nat.lt_of_lt_of_le h1 hb.size, h2.below hb h1, h3⟩
theorem BytesIn.row {w : World} {A : Option Addr} {n c : Nat} {l : List Int} (h : BytesIn w A n c l) : Row w w.heap.size A (l.map (.int .u8)) := by
  rcases h with ⟨rfl, _⟩ | ⟨b, off, rfl, h1, h2, _⟩
  · exact .inl rfl
  · exact h2.row h1
theorem BytesIn.len {w : World} {A : Option Addr} {n c : Nat} {l : List Int} (h : BytesIn w A n c l) : l.length = n := by
  rcases h with ⟨rfl, rfl⟩ | ⟨b, off, rfl, h1, h2, h3, _⟩
  · rfl
  · exact h3
/-- A reader as it begins. -/
def St0 (w : World) (B g : Nat) (l : List Int) : Prop := (∃ b off c, Blk w g 53 #[.slice (some ⟨b, off, none⟩) l.length c, .int .i64 0] ∧ b < B ∧ Lies w b off l ∧ l.length ≤ c ∧ c ≤ 9223372036854775807) ∨ (l = [] ∧ ∃ A c, Blk w g 53 #[.slice A 0 c, .int .i64 0])
def readPost (w : World) (l : List Int) (e : Ending) (w' : World) : Prop := e = .returned (.pointer (some ⟨w.heap.size, 0, none⟩)) ∧ St0 w' w.heap.size w.heap.size l ∧ Below w.heap.size w w' ∧ w'.heap.size = w.heap.size + 1
theorem read_in (A : Option Addr) (n c : Nat) (l : List Int) (w : World) (h : BytesIn w A n c l) :
    Calls Try.prog 15 #[.slice A n c] w (readPost w l) := by
  refine (read_raw A n c w).mono ?_
  rintro e w' ⟨rfl, rfl⟩
  have hb : Below w.heap.size w (w.alloc (.cells #[.slice A n c, .int .i64 0] 53)) := (Below.refl _ _).alloc (Nat.le_refl _) _
  refine ⟨rfl, ?_, hb, by simp⟩
  rcases h with ⟨rfl, rfl⟩ | ⟨b, off, rfl, h1, h2, rfl, h4, h5⟩
  · exact .inr ⟨rfl, A, c, Blk.new _ _ _⟩
  · exact .inl ⟨b, off, c, Blk.new _ _ _, h1, h2.below hb h1, h4, h5⟩
set_option maxHeartbeats 1000000 in
theorem fail_cells (B g : Nat) (A : Option Addr) (c : Nat) (x : Int) (w : World) (h1 : Blk w g 53 #[.slice A 0 c, .int .i64 0]) (hx : x ≠ 0) :
    Calls Try.prog 17 #[.pointer (some ⟨g, 0, none⟩), .int .i64 x] w fun o w' => o = .returned (.tuple #[]) ∧ St w' B g [] x ∧ OnlyG g w w' := by
  have c0 : w.cell? ⟨g, 0, none⟩ = some (.slice A 0 c) := h1.cell 0
  have c1 : w.cell? ⟨g, 1, none⟩ = some (.int .i64 0) := h1.cell 1
  have f0 := h1.frozen 0
  have f1 := h1.frozen 1
  have HF := Lib.hid (show St ((w.setCell ⟨g, 1, none⟩ (.int .i64 x)).setCell ⟨g, 0, none⟩ (.slice none 0 0)) B g [] x from St.ofBad (show Blk _ _ _ #[.slice none 0 0, .int .i64 x] from (h1.set_ 1 (.int .i64 x)).set_ 0 (.slice none 0 0)))
  have HO := Lib.hid (((OnlyG.refl g w).set 1 (.int .i64 x)).set 0 (.slice none 0 0))
  have t : (x == 0) = false := by simpa using hx
  clear h1 hx
  go_enter Try.func17, Try.ntmps17
  go_wp2
  exact bodyPost_end (v := .tuple #[]) (by simp [results, Try.results17, go_sem]) rfl ⟨rfl, HF.out, HO.out⟩
theorem raw_first (B g : Nat) (l : List Int) (w : World) (hB : B ≤ g) (h : St0 w B g l) :
    Calls Try.prog 16 #[.pointer (some ⟨g, 0, none⟩), .int .i64 4] w (RawG w B g l 0 4) := by
  rcases h with ⟨b, off, c, h1⟩ | ⟨rfl, A, c, h1⟩
  · exact raw_gen B g 4 l 0 w hB (Rdr.st ⟨b, off, c, h1⟩) (by omega)
  · have HFA := Lib.hid (fail_cells B g A c 2 w h1 (by omega))
    have c0 : w.cell? ⟨g, 0, none⟩ = some (.slice A 0 c) := h1.cell 0
    have HR := Lib.hid (show ∀ w', St w' B g [] 2 → OnlyG g w w' → RawG w B g [] 0 4 (.returned (.slice none 0 0)) w' from fun w' hs ho => ⟨none, [], [], 2, rfl, .inl rfl, fun _ => rfl, hs, ho, fun h => by omega, fun h => absurd rfl h, fun h => .inr ⟨by simp, rfl⟩, Sub.none _, Sub.none _, Nat.zero_le _⟩)
    clear h1
    go_enter Try.func16, Try.ntmps16
    go_wp2_with fail
    refine HFA.out.mono ?_
    rintro o w' ⟨rfl, hs, ho⟩
    go_wp2_with fail
    go_ret
    exact HR.out _ hs ho
/-- The ops that were read may be, and read so. -/
def Wf (L : List Ob) : Prop := ∀ o ∈ L, U8 o.bs ∧ o.nm.size ≤ 255
def Magic : List Int := [68, 83, 84, 49]
/-- What any bytes are. -/
def ReadAll (w : World) (bl : List Int) (o : Ending) (w' : World) : Prop :=
  ∃ v e L, o = .returned (.tuple #[v, .int .i64 e]) ∧ Below w.heap.size w w' ∧ Kn e ∧ (e = 0 → Got w' (w.heap.size + 1) v L ∧ (∀ x ∈ L, x.right) ∧ allO L = bl ∧ Wf L) ∧ (e ≠ 0 → v = .slice none 0 0) ∧ (bl.length < 4 → e = 2) ∧ (4 ≤ bl.length → bl.take 4 ≠ Magic → e = 4)
theorem opsB_app (l : List Ob) (o : Ob) (t : List Int) : opsB (l ++ [o]) ++ t = opsB l ++ (opB o ++ t) := by rw [opsB_snoc, List.append_assoc]
theorem Kn.of {e e' : Int} (h : Er e e') (k : Kn e) : Kn e' := h.kn k
set_option maxHeartbeats 8000000 in
set_option maxRecDepth 100000 in
theorem read_all (A : Option Addr) (n c : Nat) (bl : List Int) (w : World) (h : BytesIn w A n c bl) (hn : bl.length ≤ 600) (hu : U8 bl) :
    Calls Try.prog 10 #[.slice A n c] w (ReadAll w bl) := by
  obtain ⟨i0, hi0, hz0, hz1, hz2⟩ := info_parts info_op
  have HI0 := Lib.hid hi0
  have HZ0 := Lib.hid hz0
  have HZ1 := Lib.hid hz1
  have HZ2 := Lib.hid hz2
  have HN := Lib.hid hn
  have HU := Lib.hid hu
  obtain ⟨s0, hs0⟩ : ∃ s, s = w.heap.size := ⟨_, rfl⟩
  have HS0 := Lib.hid hs0
  have N0 := Lib.hid (read_in A n c bl w h)
  have NUM4 := Lib.hid (show ∀ V l e, St V s0 s0 l e → U8 l → _ from fun V l e hV hl => num_gen4 s0 s0 l e V (Nat.le_refl _) hV hl)
  have FAIL := Lib.hid (show ∀ V l e (x : Int), St V s0 s0 l e → x ≠ 0 → _ from fun V l e x hV hx => fail_any s0 s0 l e x V hV hx)
  have RAW := Lib.hid (show ∀ V l, St0 V s0 s0 l → Calls Try.prog 16 #[.pointer (some ⟨s0, 0, none⟩), .int .i64 4] V (RawG V s0 s0 l 0 4) from fun V l hV => raw_first s0 s0 l V (Nat.le_refl _) hV)
  have READ := Lib.hid (show ∀ V l e, St V s0 s0 l e → U8 l → l.length ≤ 1000 → _ from fun V l e hV hl h3 => read_gen s0 s0 l e V (Nat.le_refl _) hV hl h3)
  have ERR := Lib.hid (show ∀ V l e, St V s0 s0 l e → _ from fun V l e hV => err_gen s0 s0 l e V hV)
  have LEFT := Lib.hid (show ∀ V l e, St V s0 s0 l e → _ from fun V l e hV => left_gen s0 s0 l e V hV)
  clear hi0 hz0 hz1 hz2 hn hu h hs0
  unfold ReadAll
  unfold readPost at N0
  rw [← HS0.out] at N0 ⊢
  go_enter Try.func10, Try.ntmps10
  go_wp2_with fail
  refine N0.out.mono ?_
  rintro o w1 ⟨rfl, hr1, hb1, hs1⟩
  have ST1 := Lib.hid hr1
  have BB1 := Lib.hid hb1
  have SZ1 := Lib.hid hs1
  clear hr1 hb1 hs1
  go_wp2_with fail
  refine (RAW.out _ _ ST1.out).mono ?_
  rintro o w2 ⟨A1, bs, l1, e1, rfl, hrow, hnil, hst, hon, p1, q1, r1, mb, m1, hlb⟩
  have P1 := Lib.hid p1
  have R1 := Lib.hid (r1 rfl)
  have U1 := Lib.hid (HU.out.sub m1)
  have M1 := Lib.hid m1
  have ST2 := Lib.hid hst
  have BB2 := Lib.hid (hon.from BB1.out (Nat.le_refl _))
  have SZ2 := Lib.hid (show w2.heap.size = s0 + 1 from hon.size.trans SZ1.out)
  have cv := conv_row (c := bs.length) (hrow.more (show s0 ≤ w2.heap.size by have := SZ2.out; omega)) rfl
  have UB := Lib.hid (HU.out.sub mb)
  obtain ⟨tx, htx⟩ : ∃ tx, tx = strOfNums bs := ⟨_, rfl⟩
  have HTX := Lib.hid htx
  rw [← htx] at cv
  obtain ⟨n1, hn1⟩ : ∃ n1, n1 = bs.length := ⟨_, rfl⟩
  rw [← hn1] at cv
  rw [← hn1]
  have HBT := Lib.hid (show (tx.toList == [68, 83, 84, 49]) = true ↔ bs = Magic from by
    have e1 : tx.toList = tx.data.toList := ByteArray.toList_eq tx
    have h9 := Z_str bs UB.out
    rw [← htx] at h9
    constructor
    · intro h
      have h : tx.toList = [68, 83, 84, 49] := by simpa using h
      rw [← h9]
      unfold strZ
      rw [← e1, h]
      rfl
    · intro h
      rw [e1, htx, h]
      rfl)
  clear p1 q1 r1 mb m1 hst hon hrow hnil hlb htx hn1
  go_upto_if 12 with fail
  go_cut [4] (fun v wx => v = .pointer (some ⟨s0, 0, none⟩) ∧ ∃ l2 e2, Hid (St wx s0 s0 l2 e2) ∧ Hid (OnlyG s0 w2 wx) ∧ Hid (e2 = 0 → bl = Magic ++ l2) ∧ Hid (bl.length < 4 → e2 = 2) ∧ Hid (4 ≤ bl.length → bl.take 4 ≠ Magic → e2 = 4) ∧ Hid (Kn e2) ∧ Hid (Sub l2 l1))
  case first =>
    cases hq : (tx.toList == [68, 83, 84, 49]) with
    | true =>
      have HBM := Lib.hid (HBT.out.mp hq)
      go_wp2_with fail
      go_meet
      refine ⟨rfl, l1, e1, ST2, Lib.hid (OnlyG.refl _ _), Lib.hid (fun h => by rw [← HBM.out]; exact (P1.out h).2.1), Lib.hid (fun h => by have := R1.out; omega), Lib.hid (fun h1 h2 => ?_), Lib.hid (by have := R1.out; unfold Kn; omega), Lib.hid (Sub.refl _)⟩
      exfalso
      have hr := R1.out
      obtain ⟨_, hbl, _⟩ := P1.out (by omega)
      refine h2 ?_
      rw [hbl, HBM.out]
      rfl
    | false =>
      have HBM := Lib.hid (show bs ≠ Magic from fun h => by have := HBT.out.mpr h; rw [hq] at this; cases this)
      go_wp2_with fail
      refine (FAIL.out _ _ _ _ ST2.out (by omega)).mono ?_
      rintro o w3 ⟨rfl, hs3, ho3⟩
      have ST3 := Lib.hid hs3
      have ON3 := Lib.hid ho3
      clear hs3 ho3
      go_wp2_with fail
      go_meet
      have hr := R1.out
      refine ⟨rfl, _, _, ST3, ON3, Lib.hid (fun h => by split at h <;> omega), Lib.hid (fun h => ?_), Lib.hid (fun h1 h2 => ?_), Lib.hid ?_, Lib.hid (Sub.none _)⟩
      · rw [if_neg (by omega)]; omega
      · rw [if_pos (by omega)]
      · unfold Kn; split <;> omega
  case rest =>
  obtain ⟨rfl, l2, e2, ST4, ON4, P2, Q2, Q3, K2, M2⟩ := hcut
  obtain ⟨w4, rfl⟩ : ∃ w4, w4 = wc := ⟨_, rfl⟩
  have U2 := Lib.hid (U1.out.sub M2.out)
  have BB4 := Lib.hid (ON4.out.from BB2.out (Nat.le_refl _))
  have SZ4 := Lib.hid (show w4.heap.size = s0 + 1 from ON4.out.size.trans SZ2.out)
  go_wp2_with fail
  refine (NUM4.out _ _ _ ST4.out U2.out).mono ?_
  rintro o w5 ⟨z, l3, e3, rfl, z0, z1, hst, hon, p3, q3, r3, m3⟩
  obtain ⟨m, hm⟩ : ∃ m : Nat, z = m := ⟨z.toNat, by omega⟩
  subst hm
  have P3 := Lib.hid p3
  have R3 := Lib.hid (show Er e2 e3 from Er.of (x := 2) (fun h => (q3 h).1) (fun h => (r3 h).imp id And.left) (by unfold Kn; omega))
  have U3 := Lib.hid (U2.out.sub m3)
  have M3 := Lib.hid m3
  have ST5 := Lib.hid hst
  have BB5 := Lib.hid (hon.from BB4.out (Nat.le_refl _))
  have SZ5 := Lib.hid (show w5.heap.size = s0 + 1 from hon.size.trans SZ4.out)
  clear p3 q3 r3 m3 hst hon cv
  go_upto_if 18 with fail
  go_cut [] (fun wx => ∃ l4 e4, Hid (St wx s0 s0 l4 e4) ∧ Hid (OnlyG s0 w5 wx) ∧ Hid (e4 = 0 → e3 = 0 ∧ l4 = l3 ∧ m ≤ 2048) ∧ Hid (Er e3 e4) ∧ Hid (Sub l4 l3))
  case first =>
    by_cases hc : 2048 < m
    · have tc : decide (2048 < (m : Int)) = true := decide_eq_true (by omega)
      go_wp2_with fail
      refine (FAIL.out _ _ _ _ ST5.out (by omega)).mono ?_
      rintro o w6 ⟨rfl, hs6, ho6⟩
      have ST6 := Lib.hid hs6
      have ON6 := Lib.hid ho6
      clear hs6 ho6
      go_wp2_with fail
      go_meet
      exact ⟨_, _, ST6, ON6, Lib.hid (fun h => by split at h <;> omega), Lib.hid (Er.of (x := 6) (fun h => if_neg h) (fun h => .inr (if_pos h)) (by unfold Kn; omega)), Lib.hid (Sub.none _)⟩
    · have tc : decide (2048 < (m : Int)) = false := decide_eq_false (by omega)
      go_wp2_with fail
      go_meet
      exact ⟨_, _, ST5, Lib.hid (OnlyG.refl _ _), Lib.hid (fun h => ⟨h, rfl, by omega⟩), Lib.hid (Er.refl _), Lib.hid (Sub.refl _)⟩
  case rest =>
  obtain ⟨l4, e4, ST6, ON6, P4, R4, M4⟩ := hcut
  obtain ⟨w6, rfl⟩ : ∃ w6, w6 = wc := ⟨_, rfl⟩
  have U4 := Lib.hid (U3.out.sub M4.out)
  have BB6 := Lib.hid (ON6.out.from BB5.out (Nat.le_refl _))
  have SZ6 := Lib.hid (show w6.heap.size = s0 + 1 from ON6.out.size.trans SZ5.out)
  have BA7 := Lib.hid (show Below (s0 + 1) w6 (w6.alloc (.cells #[] 27)) from (Below.refl _ _).alloc (Nat.le_of_eq SZ6.out.symm) _)
  have G0 := Lib.hid (show Got (w6.alloc (.cells #[] 27)) (s0 + 1) (.slice (some ⟨w6.heap.size, 0, none⟩) 0 0) [] from ⟨World.ownsRow_made w6 #[] 0 (Nat.le_of_eq SZ6.out.symm) (Nat.zero_le _) rfl, fun e he => by cases he⟩)
  have T0 := Lib.hid (ST6.out.below BA7.out (by omega) (by omega))
  have B0 := Lib.hid (show Below s0 w (w6.alloc (.cells #[] 27)) from BB6.out.trans (BA7.out.mono (by omega)))
  have S0 := Lib.hid (show s0 + 1 ≤ (w6.alloc (.cells #[] 27)).heap.size from by have := SZ6.out; simp; omega)
  go_wp2_with fail
  go_loopw [6] (fun v wr => ∃ (k : Nat) (L : List Ob) (le : List Int) (ee : Int), Hid (L.length = k) ∧ k ≤ 2048 ∧ Hid (Got wr (s0 + 1) v L) ∧ Hid (St wr s0 s0 le ee) ∧ Hid (Below s0 w wr) ∧ Hid (s0 + 1 ≤ wr.heap.size) ∧ Hid (ee = 0 → e4 = 0 ∧ k ≤ m ∧ l4 = opsB L ++ le ∧ ∀ x ∈ L, x.right) ∧ Hid (Er e4 ee) ∧ Hid (Sub le l4) ∧ Hid (Wf L)) (fun v _ => 2048 - lenV v)
  case atStart => exact ⟨0, [], l4, e4, Lib.hid rfl, by omega, G0, T0, B0, S0, Lib.hid (fun h => ⟨h, by omega, rfl, fun x hx => by cases hx⟩), Lib.hid (Er.refl _), Lib.hid (Sub.refl _), Lib.hid (fun x hx => by cases hx)⟩
  case round =>
    obtain ⟨k, L, le, ee, HL, hk, HG, HS, HB, HSZ, HP, HR, HM, HW⟩ := hrel
    obtain ⟨Ar, cr, hvr⟩ := own_sliceN HG.out.row
    have HLo := HL.out
    rw [HLo] at hvr
    subst hvr
    clear HLo
    have UL := Lib.hid (U4.out.sub HM.out)
    have HE := Lib.hid (ERR.out _ _ _ HS.out)
    have HLE := Lib.hid (LEFT.out _ _ _ HS.out)
    by_cases hgo : ee = 0 ∧ k < m
    · obtain ⟨rfl, hkm⟩ := hgo
      have t1 : decide ((k : Int) < m) = true := decide_eq_true (by omega)
      have t1n : decide (k < m) = true := decide_eq_true hkm
      obtain ⟨h4, hkm2, hl4, hrt⟩ := HP.out rfl
      have hm2048 : m ≤ 2048 := (P4.out h4).2.2
      have HL4 := Lib.hid hl4
      have H4 := Lib.hid h4
      have HRT := Lib.hid hrt
      have RG := Lib.hid (READ.out _ _ _ HS.out UL.out (by have := HM.out.1; have := M4.out.1; have := M3.out.1; have := M2.out.1; have := M1.out.1; have := HN.out; omega))
      clear h4 hl4 hrt hkm2
      go_wp2_with fail
      refine HE.out.mono ?_
      rintro e w' ⟨rfl, rfl⟩
      go_wp2_with fail
      refine RG.out.mono ?_
      rintro e wa ⟨x, lx, ex, rfl, ho4, hs4, hb4, he4, hz4, hm4, hp4, hr4, hu4, hn4⟩
      have hs5 : s0 + 1 ≤ wa.heap.size := Nat.le_trans HSZ.out hz4
      obtain ⟨wb, hwb⟩ : ∃ wb, wb = wa.alloc (.cells #[.int .i64 x.kind, .slice x.A x.bs.length x.c, .string x.nm, .int .i64 x.host, .int .i64 x.n, .bool x.up] 27) := ⟨_, rfl⟩
      have E5 := Lib.hid hwb
      have BA5 := Lib.hid (show Below wa.heap.size wa wb from by rw [hwb]; exact (Below.refl _ _).alloc (Nat.le_refl _) _)
      have LIT : Blk wb wa.heap.size 27 #[.int .i64 x.kind, .slice x.A x.bs.length x.c, .string x.nm, .int .i64 x.host, .int .i64 x.n, .bool x.up] := by rw [hwb]; exact Blk.new wa _ _
      have HNEWS := Lib.hid (show ∀ (i : Nat) (u : Value), ([.int .i64 x.kind, .slice x.A x.bs.length x.c, .string x.nm, .int .i64 x.host, .int .i64 x.n, .bool x.up] : List Value)[i]? = some u → wb.cell? ((⟨wa.heap.size, 0, none⟩ : Addr).add i) = some u from by
        intro i u hu
        rw [Addr.add_lit, Nat.zero_add, LIT.cell i, ← hu, ← Array.getElem?_toList])
      have HG5 := Lib.hid ((HG.out.els_ (Nat.lt_succ_self _) he4).below BA5.out)
      have HE5 := Lib.hid (own_below2 (own_base ho4 HSZ.out) BA5.out)
      have HS5 := Lib.hid (hs4.below (BA5.out.mono hs5) (by omega) (Nat.lt_succ_self _))
      have HB5 := Lib.hid ((HB.out.trans hb4).trans (BA5.out.mono (by omega)))
      have HZ5 := Lib.hid (Nat.le_trans hs5 BA5.out.size)
      have HP5 := Lib.hid hp4
      have HR5 := Lib.hid (HR.out.trans hr4)
      have HM5 := Lib.hid (hm4.trans HM.out)
      have HW5 := Lib.hid (show Wf (L ++ [x]) from fun o ho => by
        rcases List.mem_append.mp ho with h | h
        · exact HW.out o h
        · rw [List.mem_singleton.mp h]; exact ⟨hu4, hn4⟩)
      have HOX := Lib.hid (show wb.ownsRow (s0 + 1) 27 6 (.slice Ar k cr) k (flatO L) from by have := HG5.out.row; rw [HL.out] at this; exact this)
      have Y1 := Lib.hid (show k + 1 ≤ maxLen by unfold maxLen; omega)
      have Y2 := Lib.hid (show (k + 1) * 72 ≤ 140737488355328 by omega)
      clear ho4 hs4 hb4 he4 hz4 hm4 hp4 hr4 hu4 hn4 hs5 hwb LIT
      go_wp2_with (at_builtin; rw [← E5.out]; refine wpList_append_own _ rfl (.tmp 32) (.tmp 35) _ rfl (s0 + 1) 27 i0 _ 6 72 Try.underlying22 HI0.out HZ0.out HZ1.out HZ2.out rfl (by omega) (.slice Ar k cr) k (flatO L) rfl HOX.out ⟨wa.heap.size, 0, none⟩ 1 1 [.int .i64 x.kind, .slice x.A x.bs.length x.c, .string x.nm, .int .i64 x.host, .int .i64 x.n, .bool x.up] rfl rfl HNEWS.out (by simp [Value.oneCell']) Y1.out Y2.out HZ5.out ?_; intro va wc owna ga _; have HBl := Lib.hid ((Below.refl (s0 + 1) wb).grown ga HZ5.out (fun k hk => (HOX.out.lt k hk).1)); have HGa := Lib.hid (HG5.out.more (e := x) HE5.out (by rw [HL.out]; exact owna) ga); obtain ⟨Aa, ca, hva⟩ := own_sliceN owna; subst hva; clear owna ga)
      go_roundw
      case rel =>
        refine ⟨k + 1, L ++ [x], lx, ex, Lib.hid ?_, by omega, HGa, Lib.hid (HS5.out.below HBl.out (by omega) (Nat.lt_succ_self _)), Lib.hid (HB5.out.trans (HBl.out.mono (by omega))), Lib.hid (Nat.le_trans HZ5.out HBl.out.size), Lib.hid ?_, HR5, HM5, HW5⟩
        · rw [List.length_append, HL.out]; rfl
        · intro hx
          obtain ⟨_, hle, hri⟩ := HP5.out hx
          refine ⟨H4.out, by omega, ?_, fun o ho => ?_⟩
          · rw [opsB_app, ← hle]; exact HL4.out
          · rcases List.mem_append.mp ho with h | h
            · exact HRT.out o h
            · rw [List.mem_singleton.mp h]; exact hri
      case measure => show 2048 - (k + 1) < 2048 - k; omega
    · have HKN := Lib.hid (show Kn ee from HR.out.kn (R4.out.kn (R3.out.kn K2.out)))
      have HQ2 := Lib.hid (show bl.length < 4 → ee = 2 from fun h => by
        have h2 := Q2.out h
        have h3 := R3.out.stay (by omega)
        have h4 := R4.out.stay (by omega)
        have h5 := HR.out.stay (by omega)
        omega)
      have HQ3 := Lib.hid (show 4 ≤ bl.length → bl.take 4 ≠ Magic → ee = 4 from fun h h9 => by
        have h2 := Q3.out h h9
        have h3 := R3.out.stay (by omega)
        have h4 := R4.out.stay (by omega)
        have h5 := HR.out.stay (by omega)
        omega)
      by_cases hee : ee = 0
      · subst hee
        have hkm : ¬ k < m := fun h => hgo ⟨rfl, h⟩
        have t1 : decide ((k : Int) < m) = false := decide_eq_false (by omega)
        have t1n : decide (k < m) = false := decide_eq_false hkm
        obtain ⟨h4, hkm2, hl4, hrt⟩ := HP.out rfl
        obtain rfl : k = m := by omega
        by_cases hle : le = []
        · subst hle
          have HAL := Lib.hid (show allO L = bl from by
            obtain ⟨h3, e3', _⟩ := P4.out h4
            obtain ⟨h2, e2'⟩ := P3.out h3
            have h1 := P2.out h2
            rw [h1, e2', ← e3', hl4]
            unfold allO Magic
            rw [HL.out]
            simp)
          have HRT := Lib.hid hrt
          have HLE0 := Lib.hid (show Calls Try.prog 21 #[.pointer (some ⟨s0, 0, none⟩)] wr (fun e w' => e = .returned (.int .i64 0) ∧ wr = w') from HLE.out)
          clear HLE hrt hl4 hgo
          go_wp2_with fail
          refine HE.out.mono ?_
          rintro e w' ⟨rfl, rfl⟩
          go_wp2_with fail
          refine HLE0.out.mono ?_
          rintro e w' ⟨rfl, rfl⟩
          go_wp2_with fail
          refine HE.out.mono ?_
          rintro e w' ⟨rfl, rfl⟩
          go_wp2_with fail
          go_ret2
          exact ⟨_, 0, L, rfl, HB.out, HKN.out, fun _ => ⟨HG.out, HRT.out, HAL.out, HW.out⟩, fun h => absurd rfl h, HQ2.out, HQ3.out⟩
        · have hl0 : 0 < le.length := List.length_pos_iff.mpr hle
          obtain ⟨q, hq⟩ : ∃ q, q = le.length := ⟨_, rfl⟩
          rw [← hq] at HLE hl0
          have t2 : decide (0 < q) = true := decide_eq_true hl0
          have t3 : decide (0 < (q : Int)) = true := decide_eq_true (by omega)
          have HFA := Lib.hid (FAIL.out _ _ _ 3 HS.out (by omega))
          clear hq hrt hl4 hgo hle
          go_wp2_with fail
          refine HE.out.mono ?_
          rintro e w' ⟨rfl, rfl⟩
          go_wp2_with fail
          refine HLE.out.mono ?_
          rintro e w' ⟨rfl, rfl⟩
          go_wp2_with fail
          refine HFA.out.mono ?_
          rintro o w8 ⟨rfl, hs8, ho8⟩
          have HE8 := Lib.hid (show Calls Try.prog 19 #[.pointer (some ⟨s0, 0, none⟩)] w8 (fun o w' => o = .returned (.int .i64 3) ∧ w8 = w') from ERR.out _ _ _ hs8)
          have HB8 := Lib.hid (ho8.from HB.out (Nat.le_refl _))
          clear hs8 ho8
          go_wp2_with fail
          refine HE8.out.mono ?_
          rintro e w' ⟨rfl, rfl⟩
          go_wp2_with fail
          refine HE8.out.mono ?_
          rintro e w' ⟨rfl, rfl⟩
          go_wp2_with fail
          go_ret2
          exact ⟨_, 3, [], rfl, HB8.out, by unfold Kn; omega, fun h => by omega, fun _ => rfl, fun h => by have := HQ2.out h; omega, fun h h9 => by have := HQ3.out h h9; omega⟩
      · obtain ⟨rfl, _⟩ := HS.out.bad hee
        have t1 : (ee == 0) = false := by simpa using hee
        have t2 : (ee != 0) = true := by simpa using hee
        have HLE0 := Lib.hid (show Calls Try.prog 21 #[.pointer (some ⟨s0, 0, none⟩)] wr (fun e w' => e = .returned (.int .i64 0) ∧ wr = w') from HLE.out)
        have HNE := Lib.hid hee
        clear HLE hgo hee
        go_wp2_with fail
        refine HE.out.mono ?_
        rintro e w' ⟨rfl, rfl⟩
        go_wp2_with fail
        refine HLE0.out.mono ?_
        rintro e w' ⟨rfl, rfl⟩
        go_wp2_with fail
        refine HE.out.mono ?_
        rintro e w' ⟨rfl, rfl⟩
        go_wp2_with fail
        refine HE.out.mono ?_
        rintro e w' ⟨rfl, rfl⟩
        go_wp2_with fail
        go_ret2
        exact ⟨_, ee, [], rfl, HB.out, HKN.out, fun h => absurd h HNE.out, fun _ => rfl, HQ2.out, HQ3.out⟩
end Go.Proofs.Ytmlicmcphecakaa.snP
