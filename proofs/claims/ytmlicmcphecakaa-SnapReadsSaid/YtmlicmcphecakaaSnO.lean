/- Layer 44: the next op of any bytes. -/
import Derived.Test.YtmlicmcphecakaaSnN
import Derived.Deep.DeepCutAuto
namespace Go.Proofs.Ytmlicmcphecakaa.snO
open Go.ChangeShapes Go.WideShapes Go.ChangeAt Go.RowKit
open Go.Proofs.Ytmlicmcphecakaa.base Go.Proofs.Ytmlicmcphecakaa.octA Go.Proofs.Ytmlicmcphecakaa.octB Go.Proofs.Ytmlicmcphecakaa.octC Go.Proofs.Ytmlicmcphecakaa.octF Go.Proofs.Ytmlicmcphecakaa.octK Go.Proofs.Ytmlicmcphecakaa.net Go.Proofs.Ytmlicmcphecakaa.rdrA Go.Proofs.Ytmlicmcphecakaa.snA Go.Proofs.Ytmlicmcphecakaa.snB Go.Proofs.Ytmlicmcphecakaa.snC Go.Proofs.Ytmlicmcphecakaa.snD Go.Proofs.Ytmlicmcphecakaa.snE Go.Proofs.Ytmlicmcphecakaa.snF Go.Proofs.Ytmlicmcphecakaa.snG Go.Proofs.Ytmlicmcphecakaa.snH Go.Proofs.Ytmlicmcphecakaa.snI Go.Proofs.Ytmlicmcphecakaa.snJ Go.Proofs.Ytmlicmcphecakaa.snK Go.Proofs.Ytmlicmcphecakaa.snL Go.Proofs.Ytmlicmcphecakaa.snN
set_option linter.unusedVariables false

def U8 (l : List Int) : Prop := ∀ x ∈ l, 0 ≤ x ∧ x ≤ 255
theorem U8.sub {l m : List Int} (h : U8 l) (k : Sub m l) : U8 m := fun x hx => h x (k.2 x hx)
/-- The errors that reading may tell. -/
def Kn (e : Int) : Prop := e = 0 ∨ e = 2 ∨ e = 3 ∨ e = 4 ∨ e = 6
/-- What an error was stays, and what comes is known. -/
structure Er (e e' : Int) : Prop where
  stay : e ≠ 0 → e' = e
  kn : Kn e → Kn e'
theorem Er.refl (e : Int) : Er e e := ⟨fun _ => rfl, id⟩
theorem Er.trans {a b c : Int} (h : Er a b) (k : Er b c) : Er a c := ⟨fun ha => by have hb := h.stay ha; rw [k.stay (by rw [hb]; exact ha), hb], fun x => k.kn (h.kn x)⟩
theorem Er.of {e e' x : Int} (h1 : e ≠ 0 → e' = e) (h2 : e = 0 → e' = 0 ∨ e' = x) (hx : Kn x) : Er e e' := ⟨h1, fun k => by
  by_cases h : e = 0
  · rcases h2 h with h | h
    · exact .inl h
    · exact h ▸ hx
  · rw [h1 h]; exact k⟩
/-- While an op is read: the op at p, the result's cells, what was there. -/
structure Bu (w0 : World) (B g p : Nat) (cp : Array Value) (w : World) : Prop where
  hB : B ≤ g
  hg : g < w0.heap.size
  hp : w0.heap.size < p
  kp : Blk w p 27 cp
  kr : Blk w w0.heap.size 27 #[.int .i64 0, .slice none 0 0, .string ⟨#[]⟩, .int .i64 0, .int .i64 0, .bool false]
  sz : p + 1 ≤ w.heap.size
  bb : Below B w0 w
  el : Els g w0 w
theorem Bu.only {w0 w w' : World} {B g p : Nat} {cp : Array Value} (h : Bu w0 B g p cp w) (ho : OnlyG g w w') : Bu w0 B g p cp w' := by
  have := h.hg; have := h.hp; have := h.sz
  exact ⟨h.hB, h.hg, h.hp, ho.blk h.kp (by omega), ho.blk h.kr (by omega), by rw [ho.size]; exact h.sz, ho.from h.bb h.hB, h.el.trans (by omega) ho.toEls⟩
theorem Bu.set {w0 w : World} {B g p : Nat} {cp : Array Value} (h : Bu w0 B g p cp w) (i : Nat) (v : Value) : Bu w0 B g p (cp.setIfInBounds i v) (w.setCell ⟨p, i, none⟩ v) := by
  have := h.hg; have := h.hp; have := h.sz; have := h.hB
  have hb : Below p w (w.setCell ⟨p, i, none⟩ v) := (Below.refl _ _).setCell (Nat.le_refl p) _
  exact ⟨h.hB, h.hg, h.hp, h.kp.set_ i v, h.kr.below hb h.hp, by simpa using h.sz, h.bb.trans (hb.mono (by omega)), h.el.below (by omega) hb⟩
theorem Bu.below {w0 w w' : World} {B g p : Nat} {cp : Array Value} (h : Bu w0 B g p cp w) (hb : Below w.heap.size w w') : Bu w0 B g p cp w' := by
  have := h.hg; have := h.hp; have := h.sz; have := h.hB
  exact ⟨h.hB, h.hg, h.hp, h.kp.below hb (by omega), h.kr.below hb (by omega), by have := hb.size; omega, h.bb.trans (hb.mono (by omega)), h.el.below (by omega) hb⟩
theorem Bu.st {w0 w w' : World} {B g p : Nat} {cp : Array Value} (h : Bu w0 B g p cp w) (hb : Below p w w') {l : List Int} {e : Int} (hs : St w B g l e) : St w' B g l e := hs.below hb (by have := h.hg; have := h.hp; have := h.hB; omega) (by have := h.hg; have := h.hp; omega)
theorem bel_p (w : World) (p i : Nat) (v : Value) : Below p w (w.setCell ⟨p, i, none⟩ v) := (Below.refl _ _).setCell (Nat.le_refl p) _
/-- What the next op of any bytes is. -/
def ReadG (w : World) (B g : Nat) (l : List Int) (e : Int) (o : Ending) (w' : World) : Prop :=
  ∃ (x : Ob) (l' : List Int) (e' : Int), o = .returned (.agg #[.int .i64 x.kind, .slice x.A x.bs.length x.c, .string x.nm, .int .i64 x.host, .int .i64 x.n, .bool x.up]) ∧ w'.ownsRow w.heap.size 5 1 (.slice x.A x.bs.length x.c) x.bs.length (x.bs.map (.int .u8)) ∧ St w' B g l' e' ∧ Below B w w' ∧ Els g w w' ∧ w.heap.size ≤ w'.heap.size ∧ Sub l' l ∧ (e' = 0 → e = 0 ∧ l = opB x ++ l' ∧ x.right) ∧ Er e e' ∧ U8 x.bs ∧ x.nm.size ≤ 255
theorem Z_str (l : List Int) (h : U8 l) : strZ (strOfNums l) = l := by
  unfold strZ
  rw [strOfNums_data, List.map_map]
  conv => rhs; rw [← List.map_id l]
  refine List.map_congr_left fun x hx => ?_
  have := h x hx
  simp only [Function.comp, id]
  rw [UInt8.toNat_ofNat']
  omega
theorem str_size (l : List Int) (h : U8 l) : (strOfNums l).size = l.length := by rw [← strZ_len, Z_str l h]
theorem read_parts {l l1 l2 l3 l4 l5 l6 l7 l8 l9 l10 bs bt : List Int} {e e1 e2 e3 e4 e5 e6 e7 e8 e9 e10 z1 z2 z3 z4 z5 z6 : Int} (A : Option Addr) (c : Nat)
    (p1 : e1 = 0 → e = 0 ∧ l = pb z1 1 1 ++ l1) (p2 : e2 = 0 → e1 = 0 ∧ l1 = pb z2 1 1 ++ l2) (p3 : e3 = 0 → e2 = 0 ∧ l3 = l2 ∧ z2 ≤ 1)
    (p4 : e4 = 0 → e3 = 0 ∧ l3 = pb z3 4 4 ++ l4) (p5 : e5 = 0 → e4 = 0 ∧ l4 = pb z4 4 4 ++ l5) (p6 : e6 = 0 → e5 = 0 ∧ l5 = pb z5 4 4 ++ l6)
    (p7 : e7 = 0 → e6 = 0 ∧ l7 = l6 ∧ z5 ≤ 65536) (p8 : e8 = 0 → e7 = 0 ∧ l7 = bs ++ l8 ∧ (bs.length : Int) = z5) (p9 : e9 = 0 → e8 = 0 ∧ l8 = pb z6 1 1 ++ l9) (p10 : e10 = 0 → e9 = 0 ∧ l9 = bt ++ l10 ∧ (bt.length : Int) = z6)
    (a1 : 0 ≤ z1) (b1 : z1 ≤ 255) (a2 : 0 ≤ z2) (a3 : 0 ≤ z3) (b3 : z3 ≤ 4294967295) (a4 : 0 ≤ z4) (b4 : z4 ≤ 4294967295) (b6 : z6 ≤ 255) (ut : U8 bt) :
    e10 = 0 → e = 0 ∧ l = opB ⟨z1, A, c, bs, strOfNums bt, z3, z4, z2 == 1⟩ ++ l10 ∧ Ob.right ⟨z1, A, c, bs, strOfNums bt, z3, z4, z2 == 1⟩ := fun h => by
  obtain ⟨h9, q10, s10⟩ := p10 h
  obtain ⟨h8, q9⟩ := p9 h9
  obtain ⟨h7, q8, s8⟩ := p8 h8
  obtain ⟨h6, q7, s7⟩ := p7 h7
  obtain ⟨h5, q6⟩ := p6 h6
  obtain ⟨h4, q5⟩ := p5 h5
  obtain ⟨h3, q4⟩ := p4 h4
  obtain ⟨h2, q3, s3⟩ := p3 h3
  obtain ⟨h1, q2⟩ := p2 h2
  obtain ⟨h0, q1⟩ := p1 h1
  have hz : upZ (z2 == 1) = z2 := by
    have : z2 = 0 ∨ z2 = 1 := by omega
    rcases this with rfl | rfl <;> rfl
  have hn : (strOfNums bt).size = bt.length := str_size bt ut
  refine ⟨h0, ?_, ?_⟩
  · rw [opB_seq]
    show l = pb z1 1 1 ++ (pb (upZ (z2 == 1)) 1 1 ++ (pb z3 4 4 ++ (pb z4 4 4 ++ (pb (bs.length : Int) 4 4 ++ (bs ++ (pb ((strOfNums bt).size : Int) 1 1 ++ (strZ (strOfNums bt) ++ l10)))))))
    rw [hz, hn, Z_str bt ut, s8, s10, ← q10, ← q9, ← q8, q7, ← q6, ← q5, ← q4, q3, ← q2, ← q1]
  · show RightP z1 bs.length (strOfNums bt).size z3 z4
    rw [hn]
    exact ⟨a1, b1, by omega, by omega, a3, b3, a4, b4⟩
set_option maxHeartbeats 8000000 in
set_option maxRecDepth 100000 in
theorem read_gen (B g : Nat) (l : List Int) (e : Int) (w : World) (hB : B ≤ g) (h : St w B g l e) (hu : U8 l) (hl : l.length ≤ 1000) :
    Calls Try.prog 20 #[.pointer (some ⟨g, 0, none⟩)] w (ReadG w B g l e) := by
  have hlt := h.lt
  have HU := Lib.hid hu
  have HL := Lib.hid hl
  clear hl
  have HBG := Lib.hid hB
  have NUM1 := Lib.hid (show ∀ V l e, St V B g l e → U8 l → _ from fun V l e hV hl => num_gen1 B g l e V hB hV hl)
  have NUM4 := Lib.hid (show ∀ V l e, St V B g l e → U8 l → _ from fun V l e hV hl => num_gen4 B g l e V hB hV hl)
  have FAIL := Lib.hid (show ∀ V l e (x : Int), St V B g l e → x ≠ 0 → _ from fun V l e x hV hx => fail_any B g l e x V hV hx)
  have RAW := Lib.hid (show ∀ V l e (k : Nat), St V B g l e → k ≤ 4294967295 → _ from fun V l e k hV hk => raw_gen B g k l e V hB hV hk)
  obtain ⟨w1, hw1⟩ : ∃ w1, w1 = w.alloc (.cells #[.int .i64 0, .slice none 0 0, .string ⟨#[]⟩, .int .i64 0, .int .i64 0, .bool false] 27) := ⟨_, rfl⟩
  have E1 := Lib.hid hw1
  have BA1 := Lib.hid (show Below w.heap.size w w1 from by rw [hw1]; exact (Below.refl _ _).alloc (Nat.le_refl _) _)
  have KR1 := Lib.hid (show Blk w1 w.heap.size 27 #[.int .i64 0, .slice none 0 0, .string ⟨#[]⟩, .int .i64 0, .int .i64 0, .bool false] from by rw [hw1]; exact Blk.new w _ _)
  have SZ1 := Lib.hid (show w1.heap.size = w.heap.size + 1 from by rw [hw1]; simp)
  have HS1 := Lib.hid (h.below BA1.out (by omega) hlt)
  clear h hu hw1 hB
  go_enter Try.func20, Try.ntmps20
  go_wp2_with fail
  rw [← E1.out]
  refine (NUM1.out _ _ _ HS1.out HU.out).mono ?_
  rintro o w2 ⟨z1, l1, e1, rfl, a1, b1, hs2, ho2, p1, q1, r1, m1⟩
  have P1 := Lib.hid p1
  have R1 := Lib.hid (show Er e e1 from Er.of (x := 2) (fun h => (q1 h).1) (fun h => (r1 h).imp id And.left) (by unfold Kn; omega))
  have U1 := Lib.hid (HU.out.sub m1)
  have M1 := Lib.hid m1
  have HS2 := Lib.hid hs2
  have KR2 := Lib.hid (ho2.blk KR1.out (by omega))
  have SZ2 := Lib.hid (show w2.heap.size = w.heap.size + 1 from ho2.size.trans SZ1.out)
  have BB2 := Lib.hid (ho2.from (BA1.out.mono (show B ≤ w.heap.size by have := HBG.out; omega)) HBG.out)
  have EL2 := Lib.hid ((Els.refl g w).below (Nat.le_refl _) BA1.out |>.trans BA1.out.size ho2.toEls)
  clear hs2 ho2 p1 q1 r1 m1
  obtain ⟨p, hp⟩ : ∃ p, p = w2.heap.size := ⟨_, rfl⟩
  obtain ⟨w3, hw3⟩ : ∃ w3, w3 = w2.alloc (.cells #[.int .i64 z1, .slice none 0 0, .string ⟨#[]⟩, .int .i64 0, .int .i64 0, .bool false] 27) := ⟨_, rfl⟩
  have E3 := Lib.hid hw3
  have EP := Lib.hid hp
  have BA3 := Lib.hid (show Below w2.heap.size w2 w3 from by rw [hw3]; exact (Below.refl _ _).alloc (Nat.le_refl _) _)
  have HU3 := Lib.hid (show Bu w B g p #[.int .i64 z1, .slice none 0 0, .string ⟨#[]⟩, .int .i64 0, .int .i64 0, .bool false] w3 from by
    have hz := SZ2.out
    have hb := HBG.out
    refine ⟨hb, hlt, by omega, by rw [hw3, hp]; exact Blk.new w2 _ _, KR2.out.below BA3.out (by omega), by rw [hw3, hp]; simp, BB2.out.trans (BA3.out.mono (by omega)), EL2.out.below (by omega) BA3.out⟩)
  have HS3 := Lib.hid (HS2.out.below BA3.out (by have := HBG.out; have := SZ2.out; omega) (by have := SZ2.out; omega))
  have wz1 : IntKind.i64.wrap z1 = z1 := IntWalk.i64_in _ (by omega)
  clear hp hw3 EL2 BB2 KR2 BA1 KR1 HS2 HS1
  go_wp2_with fail
  rw [← EP.out, ← E3.out]
  clear wz1
  refine (NUM1.out _ _ _ HS3.out U1.out).mono ?_
  rintro o w4 ⟨z2, l2, e2, rfl, a2, b2, hs4, ho4, p2, q2, r2, m2⟩
  have P2 := Lib.hid p2
  have R2 := Lib.hid (show Er e1 e2 from Er.of (x := 2) (fun h => (q2 h).1) (fun h => (r2 h).imp id And.left) (by unfold Kn; omega))
  have U2 := Lib.hid (U1.out.sub m2)
  have M2 := Lib.hid m2
  have HS4 := Lib.hid hs4
  have HU4 := Lib.hid (HU3.out.only ho4)
  clear hs4 ho4 p2 q2 r2 m2
  go_upto_if 13 with fail
  go_cut [] (fun wx => ∃ l3 e3, Hid (St wx B g l3 e3) ∧ Hid (Bu w B g p #[.int .i64 z1, .slice none 0 0, .string ⟨#[]⟩, .int .i64 0, .int .i64 0, .bool false] wx) ∧ Hid (e3 = 0 → e2 = 0 ∧ l3 = l2 ∧ z2 ≤ 1) ∧ Hid (Er e2 e3) ∧ Hid (Sub l3 l2))
  case first =>
    by_cases hc : 1 < z2
    · go_wp2_with fail
      refine (FAIL.out _ _ _ _ HS4.out (by omega)).mono ?_
      rintro o w5 ⟨rfl, hs5, ho5⟩
      have HS5 := Lib.hid hs5
      have HU5 := Lib.hid (HU4.out.only ho5)
      clear hs5 ho5
      go_wp2_with fail
      go_meet
      exact ⟨_, _, HS5, HU5, Lib.hid (fun h => by split at h <;> omega), Lib.hid (Er.of (x := 4) (fun h => if_neg h) (fun h => .inr (if_pos h)) (by unfold Kn; omega)), Lib.hid (Sub.none _)⟩
    · go_wp2_with fail
      go_meet
      exact ⟨_, _, HS4, HU4, Lib.hid (fun h => ⟨h, rfl, by omega⟩), Lib.hid (Er.refl _), Lib.hid (Sub.refl _)⟩
  case rest =>
  obtain ⟨l3, e3, HS5, HU5, P3, R3, M3⟩ := hcut
  obtain ⟨w5, rfl⟩ : ∃ w5, w5 = wc := ⟨_, rfl⟩
  have U3 := Lib.hid (U2.out.sub M3.out)
  obtain ⟨w6, hw6⟩ : ∃ w6, w6 = w5.setCell ⟨p, 5, none⟩ (.bool (z2 == 1)) := ⟨_, rfl⟩
  have E6 := Lib.hid hw6
  have HU6 := Lib.hid (show Bu w B g p #[.int .i64 z1, .slice none 0 0, .string ⟨#[]⟩, .int .i64 0, .int .i64 0, .bool (z2 == 1)] w6 from by rw [hw6]; exact HU5.out.set 5 (.bool (z2 == 1)))
  have HS6 := Lib.hid (show St w6 B g _ _ from by rw [hw6]; exact HU5.out.st (bel_p _ _ _ _) HS5.out)
  have f6 := HU5.out.kp.frozen 5
  have c6 := HU5.out.kp.cell 5
  clear hw6
  go_wp2_with fail
  rw [← E6.out]
  clear f6 c6
  refine (NUM4.out _ _ _ HS6.out U3.out).mono ?_
  rintro o w7 ⟨z3, l4, e4, rfl, a3, b3, hs7, ho7, p4, q4, r4, m4⟩
  have P4 := Lib.hid p4
  have R4 := Lib.hid (show Er e3 e4 from Er.of (x := 2) (fun h => (q4 h).1) (fun h => (r4 h).imp id And.left) (by unfold Kn; omega))
  have U4 := Lib.hid (U3.out.sub m4)
  have M4 := Lib.hid m4
  have HS7 := Lib.hid hs7
  have HU7 := Lib.hid (HU6.out.only ho7)
  clear hs7 ho7 p4 q4 r4 m4
  have wz3 : IntKind.i64.wrap z3 = z3 := IntWalk.i64_in _ (by omega)
  go_wp2_with fail
  refine (NUM4.out _ _ _ HS7.out U4.out).mono ?_
  rintro o w8 ⟨z4, l5, e5, rfl, a4, b4, hs8, ho8, p5, q5, r5, m5⟩
  have P5 := Lib.hid p5
  have R5 := Lib.hid (show Er e4 e5 from Er.of (x := 2) (fun h => (q5 h).1) (fun h => (r5 h).imp id And.left) (by unfold Kn; omega))
  have U5 := Lib.hid (U4.out.sub m5)
  have M5 := Lib.hid m5
  have HS8 := Lib.hid hs8
  have HU8 := Lib.hid (HU7.out.only ho8)
  clear hs8 ho8 p5 q5 r5 m5
  have wz4 : IntKind.i64.wrap z4 = z4 := IntWalk.i64_in _ (by omega)
  obtain ⟨w9, hw9⟩ : ∃ w9, w9 = w8.setCell ⟨p, 3, none⟩ (.int .i64 z3) := ⟨_, rfl⟩
  have E9 := Lib.hid hw9
  have HU9 := Lib.hid (show Bu w B g p #[.int .i64 z1, .slice none 0 0, .string ⟨#[]⟩, .int .i64 z3, .int .i64 0, .bool (z2 == 1)] w9 from by rw [hw9]; exact HU8.out.set 3 (.int .i64 z3))
  have HS9 := Lib.hid (show St w9 B g _ _ from by rw [hw9]; exact HU8.out.st (bel_p _ _ _ _) HS8.out)
  have f9 := HU8.out.kp.frozen 3
  have c9 := HU8.out.kp.cell 3
  clear hw9
  obtain ⟨w10, hw10⟩ : ∃ w10, w10 = w9.setCell ⟨p, 4, none⟩ (.int .i64 z4) := ⟨_, rfl⟩
  have E10 := Lib.hid hw10
  have HU10 := Lib.hid (show Bu w B g p #[.int .i64 z1, .slice none 0 0, .string ⟨#[]⟩, .int .i64 z3, .int .i64 z4, .bool (z2 == 1)] w10 from by rw [hw10]; exact HU9.out.set 4 (.int .i64 z4))
  have HS10 := Lib.hid (show St w10 B g _ _ from by rw [hw10]; exact HU9.out.st (bel_p _ _ _ _) HS9.out)
  have f10 := HU9.out.kp.frozen 4
  have c10 := HU9.out.kp.cell 4
  clear hw10
  have f10b := HU8.out.kp.frozen 4
  have f10c := f10
  rw [E9.out] at f10c
  have c10b := HU8.out.kp.cell 4
  have c10c := c10
  rw [E9.out] at c10c
  go_wp2_with fail
  rw [← E9.out, ← E10.out]
  clear f9 c9 f10 c10 f10b f10c c10b c10c wz3 wz4
  refine (NUM4.out _ _ _ HS10.out U5.out).mono ?_
  rintro o w11 ⟨z5, l6, e6, rfl, a5, b5, hs11, ho11, p6, q6, r6, m6⟩
  have P6 := Lib.hid p6
  have R6 := Lib.hid (show Er e5 e6 from Er.of (x := 2) (fun h => (q6 h).1) (fun h => (r6 h).imp id And.left) (by unfold Kn; omega))
  have U6 := Lib.hid (U5.out.sub m6)
  have M6 := Lib.hid m6
  have HS11 := Lib.hid hs11
  have HU11 := Lib.hid (HU10.out.only ho11)
  clear hs11 ho11 p6 q6 r6 m6
  go_upto_if 30 with fail
  go_cut [] (fun wx => ∃ l7 e7, Hid (St wx B g l7 e7) ∧ Hid (Bu w B g p #[.int .i64 z1, .slice none 0 0, .string ⟨#[]⟩, .int .i64 z3, .int .i64 z4, .bool (z2 == 1)] wx) ∧ Hid (e7 = 0 → e6 = 0 ∧ l7 = l6 ∧ z5 ≤ 65536) ∧ Hid (Er e6 e7) ∧ Hid (Sub l7 l6))
  case first =>
    by_cases hc : 65536 < z5
    · go_wp2_with fail
      refine (FAIL.out _ _ _ _ HS11.out (by omega)).mono ?_
      rintro o w12 ⟨rfl, hs12, ho12⟩
      have HS12 := Lib.hid hs12
      have HU12 := Lib.hid (HU11.out.only ho12)
      clear hs12 ho12
      go_wp2_with fail
      go_meet
      exact ⟨_, _, HS12, HU12, Lib.hid (fun h => by split at h <;> omega), Lib.hid (Er.of (x := 3) (fun h => if_neg h) (fun h => .inr (if_pos h)) (by unfold Kn; omega)), Lib.hid (Sub.none _)⟩
    · go_wp2_with fail
      go_meet
      exact ⟨_, _, HS11, HU11, Lib.hid (fun h => ⟨h, rfl, by omega⟩), Lib.hid (Er.refl _), Lib.hid (Sub.refl _)⟩
  case rest =>
  obtain ⟨l7, e7, HS12, HU12, P7, R7, M7⟩ := hcut
  obtain ⟨w12, rfl⟩ : ∃ w12, w12 = wc := ⟨_, rfl⟩
  have U7 := Lib.hid (U6.out.sub M7.out)
  obtain ⟨k5, hk5⟩ : ∃ k5 : Nat, z5 = k5 := ⟨z5.toNat, by omega⟩
  subst hk5
  have wz5 : IntKind.i64.wrap (k5 : Int) = (k5 : Int) := IntWalk.i64_in _ (by omega)
  go_wp2_with fail
  refine (RAW.out _ _ _ k5 HS12.out (by omega)).mono ?_
  rintro o w13 ⟨A8, bs, l8, e8, rfl, hrow, hnil, hs13, ho13, p8, q8, r8, mb, m8, hlb⟩
  have P8 := Lib.hid p8
  have R8 := Lib.hid (show Er e7 e8 from Er.of (x := 2) q8 (fun h => (r8 h).imp And.right And.right) (by unfold Kn; omega))
  have UB := Lib.hid (U7.out.sub mb)
  have U8_ := Lib.hid (U7.out.sub m8)
  have M8 := Lib.hid m8
  have HS13 := Lib.hid hs13
  have HU13 := Lib.hid (HU12.out.only ho13)
  obtain ⟨c0, hc0⟩ : ∃ c0, c0 = w13.heap.size := ⟨_, rfl⟩
  have C0 := Lib.hid hc0
  have hpc : p < c0 := by have := HU13.out.sz; omega
  have hbl : bs.length ≤ 1000 := by have := mb.1; have := M7.out.1; have := M6.out.1; have := M5.out.1; have := M4.out.1; have := M3.out.1; have := M2.out.1; have := M1.out.1; have := HL.out; omega
  have CL := Lib.hid (clone_any A8 bs.length bs.length bs w13 rfl (by omega) (fun h => hnil h) (hrow.more (by have := HU13.out.sz; have := HU13.out.hp; have := HU13.out.hg; have := HU13.out.hB; omega)))
  obtain ⟨n8, hn8⟩ : ∃ n8, n8 = bs.length := ⟨_, rfl⟩
  have HN8 := Lib.hid hn8
  rw [← hn8] at CL hlb hbl
  rw [← hn8]
  clear p8 q8 r8 mb m8 hs13 ho13 hrow hnil wz5 hc0 hn8
  go_wp2_with fail
  refine CL.out.mono ?_
  rintro o w14 ⟨v9, rfl, ho9, hb9, hs9⟩
  obtain ⟨AA, cc, hv9⟩ := own_slice ho9
  subst hv9
  have HU14 := Lib.hid (HU13.out.below hb9)
  have HS14 := Lib.hid (HS13.out.below hb9 (by have := HU13.out.sz; have := HU13.out.hp; have := HU13.out.hg; have := HU13.out.hB; omega) (by have := HU13.out.sz; have := HU13.out.hp; have := HU13.out.hg; omega))
  have OW14 := Lib.hid (show w14.ownsRow c0 5 1 (.slice AA n8 cc) n8 (bs.map (.int .u8)) from C0.out ▸ ho9)
  clear ho9 hb9 hs9
  obtain ⟨w15, hw15⟩ : ∃ w15, w15 = w14.setCell ⟨p, 1, none⟩ (.slice AA n8 cc) := ⟨_, rfl⟩
  have E15 := Lib.hid hw15
  have HU15 := Lib.hid (show Bu w B g p #[.int .i64 z1, .slice AA n8 cc, .string ⟨#[]⟩, .int .i64 z3, .int .i64 z4, .bool (z2 == 1)] w15 from by rw [hw15]; exact HU14.out.set 1 (.slice AA n8 cc))
  have HS15 := Lib.hid (show St w15 B g _ _ from by rw [hw15]; exact HU14.out.st (bel_p _ _ _ _) HS14.out)
  have f15 := HU14.out.kp.frozen 1
  have c15 := HU14.out.kp.cell 1
  clear hw15
  have OW15 := Lib.hid (show w15.ownsRow c0 5 1 (.slice AA n8 cc) n8 (bs.map (.int .u8)) from by rw [E15.out]; exact own_far OW14.out ⟨p, 1, none⟩ hpc _)
  go_wp2_with fail
  rw [← E15.out]
  clear f15 c15
  refine (NUM1.out _ _ _ HS15.out U8_.out).mono ?_
  rintro o w16 ⟨z6, l9, e9, rfl, a6, b6, hs16, ho16, p9, q9, r9, m9⟩
  have P9 := Lib.hid p9
  have R9 := Lib.hid (show Er e8 e9 from Er.of (x := 2) (fun h => (q9 h).1) (fun h => (r9 h).imp id And.left) (by unfold Kn; omega))
  have U9 := Lib.hid (U8_.out.sub m9)
  have M9 := Lib.hid m9
  have HS16 := Lib.hid hs16
  have HU16 := Lib.hid (HU15.out.only ho16)
  have OW16 := Lib.hid (own_els OW15.out (by have := HU15.out.hg; have := HU15.out.hp; omega) ho16.toEls)
  clear hs16 ho16 p9 q9 r9 m9
  obtain ⟨k6, hk6⟩ : ∃ k6 : Nat, z6 = k6 := ⟨z6.toNat, by omega⟩
  subst hk6
  have wz6 : IntKind.i64.wrap (k6 : Int) = (k6 : Int) := IntWalk.i64_in _ (by omega)
  go_wp2_with fail
  refine (RAW.out _ _ _ k6 HS16.out (by omega)).mono ?_
  rintro o w17 ⟨A10, bt, l10, e10, rfl, hrow, hnil, hs17, ho17, p10, q10, r10, mb, m10, hlb2⟩
  have P10 := Lib.hid p10
  have R10 := Lib.hid (show Er e9 e10 from Er.of (x := 2) q10 (fun h => (r10 h).imp And.right And.right) (by unfold Kn; omega))
  have UT := Lib.hid (U9.out.sub mb)
  have M10 := Lib.hid m10
  have HS17 := Lib.hid hs17
  have HU17 := Lib.hid (HU16.out.only ho17)
  have OW17 := Lib.hid (own_els OW16.out (by have := HU15.out.hg; have := HU15.out.hp; omega) ho17.toEls)
  have cv := conv_row (c := bt.length) (hrow.more (show B ≤ w17.heap.size by have := HU17.out.sz; have := HU17.out.hp; have := HU17.out.hg; have := HU17.out.hB; omega)) rfl
  obtain ⟨nm, hnm⟩ : ∃ nm, nm = strOfNums bt := ⟨_, rfl⟩
  have HNM := Lib.hid hnm
  have HNS := Lib.hid (show nm.size ≤ 255 from by rw [hnm, str_size bt UT.out]; omega)
  rw [← hnm] at cv
  obtain ⟨n10, hn10⟩ : ∃ n10, n10 = bt.length := ⟨_, rfl⟩
  have HN10 := Lib.hid hn10
  rw [← hn10] at cv hlb2
  rw [← hn10]
  clear p10 q10 r10 mb m10 hs17 ho17 hrow hnil wz6 hnm hn10
  obtain ⟨w18, hw18⟩ : ∃ w18, w18 = w17.setCell ⟨p, 2, none⟩ (.string nm) := ⟨_, rfl⟩
  have E18 := Lib.hid hw18
  have HU18 := Lib.hid (show Bu w B g p #[.int .i64 z1, .slice AA n8 cc, .string nm, .int .i64 z3, .int .i64 z4, .bool (z2 == 1)] w18 from by rw [hw18]; exact HU17.out.set 2 (.string nm))
  have HS18 := Lib.hid (show St w18 B g _ _ from by rw [hw18]; exact HU17.out.st (bel_p _ _ _ _) HS17.out)
  have f18 := HU17.out.kp.frozen 2
  have c18 := HU17.out.kp.cell 2
  clear hw18
  have OW18 := Lib.hid (show w18.ownsRow c0 5 1 (.slice AA n8 cc) n8 (bs.map (.int .u8)) from by rw [E18.out]; exact own_far OW17.out ⟨p, 2, none⟩ hpc _)
  have x0 := HU18.out.kp.cell 0
  have x1 := HU18.out.kp.cell 1
  have x2 := HU18.out.kp.cell 2
  have x3 := HU18.out.kp.cell 3
  have x4 := HU18.out.kp.cell 4
  have x5 := HU18.out.kp.cell 5
  go_upto_region 12 with fail
  rw [← E18.out]
  clear f18 c18 cv
  have y0 := HU18.out.kr.cell 0
  have g0 := HU18.out.kr.frozen 0
  have y1 := HU18.out.kr.cell 1
  have g1 := HU18.out.kr.frozen 1
  have y2 := HU18.out.kr.cell 2
  have g2 := HU18.out.kr.frozen 2
  have y3 := HU18.out.kr.cell 3
  have g3 := HU18.out.kr.frozen 3
  have y4 := HU18.out.kr.cell 4
  have g4 := HU18.out.kr.frozen 4
  have y5 := HU18.out.kr.cell 5
  have g5 := HU18.out.kr.frozen 5
  have k0 := HU18.out.kr
  have o0 := OW18.out
  have hwc : w.heap.size < c0 := by have := HU18.out.hp; omega
  have k1 := k0.set_ 0 (.int .i64 z1)
  have o1 := own_far o0 ⟨w.heap.size, 0, none⟩ hwc (.int .i64 z1)
  have k2 := k1.set_ 1 (.slice AA n8 cc)
  have o2 := own_far o1 ⟨w.heap.size, 1, none⟩ hwc (.slice AA n8 cc)
  have k3 := k2.set_ 2 (.string nm)
  have o3 := own_far o2 ⟨w.heap.size, 2, none⟩ hwc (.string nm)
  have k4 := k3.set_ 3 (.int .i64 z3)
  have o4 := own_far o3 ⟨w.heap.size, 3, none⟩ hwc (.int .i64 z3)
  have k5 := k4.set_ 4 (.int .i64 z4)
  have o5 := own_far o4 ⟨w.heap.size, 4, none⟩ hwc (.int .i64 z4)
  have k6 := k5.set_ 5 (.bool (z2 == 1))
  have o6 := own_far o5 ⟨w.heap.size, 5, none⟩ hwc (.bool (z2 == 1))
  have HKF := Lib.hid (show Blk ((((((w18.setCell ⟨w.heap.size, 0, none⟩ (.int .i64 z1)).setCell ⟨w.heap.size, 1, none⟩ (.slice AA n8 cc)).setCell ⟨w.heap.size, 2, none⟩ (.string nm)).setCell ⟨w.heap.size, 3, none⟩ (.int .i64 z3)).setCell ⟨w.heap.size, 4, none⟩ (.int .i64 z4)).setCell ⟨w.heap.size, 5, none⟩ (.bool (z2 == 1))) w.heap.size 27 #[.int .i64 z1, .slice AA n8 cc, .string nm, .int .i64 z3, .int .i64 z4, .bool (z2 == 1)] from k6)
  have HOF := Lib.hid o6
  have BA19 := Lib.hid (show Below w.heap.size w18 ((((((w18.setCell ⟨w.heap.size, 0, none⟩ (.int .i64 z1)).setCell ⟨w.heap.size, 1, none⟩ (.slice AA n8 cc)).setCell ⟨w.heap.size, 2, none⟩ (.string nm)).setCell ⟨w.heap.size, 3, none⟩ (.int .i64 z3)).setCell ⟨w.heap.size, 4, none⟩ (.int .i64 z4)).setCell ⟨w.heap.size, 5, none⟩ (.bool (z2 == 1))) from ((((((Below.refl w.heap.size w18).setCell (p := ⟨w.heap.size, 0, none⟩) (Nat.le_refl w.heap.size) (.int .i64 z1)).setCell (p := ⟨w.heap.size, 1, none⟩) (Nat.le_refl w.heap.size) (.slice AA n8 cc)).setCell (p := ⟨w.heap.size, 2, none⟩) (Nat.le_refl w.heap.size) (.string nm)).setCell (p := ⟨w.heap.size, 3, none⟩) (Nat.le_refl w.heap.size) (.int .i64 z3)).setCell (p := ⟨w.heap.size, 4, none⟩) (Nat.le_refl w.heap.size) (.int .i64 z4)).setCell (p := ⟨w.heap.size, 5, none⟩) (Nat.le_refl w.heap.size) (.bool (z2 == 1)))
  clear k0 k1 k2 k3 k4 k5 k6 o0 o1 o2 o3 o4 o5 o6
  go_wp2_with fail
  refine bodyPost_ret (results_cell_row rfl _ _ w.heap.size 27 #[.int .i64 z1, .slice AA n8 cc, .string nm, .int .i64 z3, .int .i64 z4, .bool (z2 == 1)] (0, 0) _ rfl HKF.out Try.underlying27 rfl size_op) rfl ?_
  have HH := HU18.out
  have q1 : Ending.returned (.agg #[.int .i64 z1, .slice AA n8 cc, .string nm, .int .i64 z3, .int .i64 z4, .bool (z2 == 1)]) = .returned (.agg #[.int .i64 z1, .slice AA bs.length cc, .string nm, .int .i64 z3, .int .i64 z4, .bool (z2 == 1)]) := by rw [HN8.out]
  have q2 := (show ∀ (V : World) (k m : Nat), k = m → V.ownsRow w.heap.size 5 1 (.slice AA k cc) k (bs.map (.int .u8)) → V.ownsRow w.heap.size 5 1 (.slice AA m cc) m (bs.map (.int .u8)) from fun V k m e h => e ▸ h) _ _ _ HN8.out (own_base HOF.out (show w.heap.size ≤ c0 by omega))
  have q3 := HS18.out.below BA19.out (by have := HH.hB; have := HH.hg; omega) HH.hg
  have q4 := HH.bb.trans (BA19.out.mono (by have := HH.hB; have := HH.hg; omega))
  have q5 := HH.el.below (Nat.le_refl _) BA19.out
  have q6 := BA19.out.size
  have q7 := HH.sz
  have q8 := HH.hp
  have q9 := M10.out.trans (M9.out.trans (M8.out.trans (M7.out.trans (M6.out.trans (M5.out.trans (M4.out.trans (M3.out.trans (M2.out.trans M1.out))))))))
  have q10 := R1.out.trans (R2.out.trans (R3.out.trans (R4.out.trans (R5.out.trans (R6.out.trans (R7.out.trans (R8.out.trans (R9.out.trans R10.out))))))))
  have q11 := read_parts AA cc P1.out P2.out P3.out P4.out P5.out P6.out P7.out (fun h => (P8.out h).imp id (fun h => h.imp id (by omega))) P9.out (fun h => (P10.out h).imp id (fun h => h.imp id (by omega))) a1 b1 a2 a3 b3 a4 b4 b6 UT.out
  rw [← HNM.out] at q11
  have q12 : w.heap.size ≤ ((((((w18.setCell ⟨w.heap.size, 0, none⟩ (.int .i64 z1)).setCell ⟨w.heap.size, 1, none⟩ (.slice AA n8 cc)).setCell ⟨w.heap.size, 2, none⟩ (.string nm)).setCell ⟨w.heap.size, 3, none⟩ (.int .i64 z3)).setCell ⟨w.heap.size, 4, none⟩ (.int .i64 z4)).setCell ⟨w.heap.size, 5, none⟩ (.bool (z2 == 1))).heap.size := by omega
  exact ⟨⟨z1, AA, cc, bs, nm, z3, z4, z2 == 1⟩, l10, e10, q1, q2, q3, q4, q5, q12, q9, q11, q10, UB.out, HNS.out⟩
end Go.Proofs.Ytmlicmcphecakaa.snO
