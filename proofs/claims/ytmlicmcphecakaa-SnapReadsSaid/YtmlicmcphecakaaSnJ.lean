/- Layer 44: the next op, of good bytes. -/
import Derived.Test.YtmlicmcphecakaaSnI
import Derived.Test.YtmlicmcphecakaaOctF
import Derived.Deep.DeepCutAuto
namespace Go.Proofs.Ytmlicmcphecakaa.snJ
open Go.ChangeShapes Go.WideShapes Go.ChangeAt Go.RowKit
open Go.Proofs.Ytmlicmcphecakaa.base Go.Proofs.Ytmlicmcphecakaa.octA Go.Proofs.Ytmlicmcphecakaa.octB Go.Proofs.Ytmlicmcphecakaa.octF Go.Proofs.Ytmlicmcphecakaa.octK Go.Proofs.Ytmlicmcphecakaa.net Go.Proofs.Ytmlicmcphecakaa.rdrA Go.Proofs.Ytmlicmcphecakaa.snA Go.Proofs.Ytmlicmcphecakaa.snB Go.Proofs.Ytmlicmcphecakaa.snC Go.Proofs.Ytmlicmcphecakaa.snD Go.Proofs.Ytmlicmcphecakaa.snE Go.Proofs.Ytmlicmcphecakaa.snF Go.Proofs.Ytmlicmcphecakaa.snG Go.Proofs.Ytmlicmcphecakaa.snH Go.Proofs.Ytmlicmcphecakaa.snI Go.Proofs.Ytmlicmcphecakaa.snK
set_option linter.unusedVariables false

theorem at_pb1 (x : Int) (t : List Int) (h0 : 0 ≤ x) (h1 : x ≤ 255) : atN (pb x 1 1 ++ t) 0 1 = x := by
  rw [pb1]
  show 0 * 256 + x % 256 = x
  omega
theorem at_pb4 (x : Int) (t : List Int) (h0 : 0 ≤ x) (h1 : x ≤ 4294967295) : atN (pb x 4 4 ++ t) 0 4 = x := by
  rw [pb4, by3, by2, by1, by0]
  show (((0 * 256 + x / 16777216 % 256) * 256 + x / 65536 % 256) * 256 + x / 256 % 256) * 256 + x % 256 = x
  omega
theorem drop_pb (x : Int) (k : Nat) (t : List Int) : (pb x k k ++ t).drop k = t := by
  have := pb_len x k k
  rw [List.drop_append_of_le_length (by omega), List.drop_of_length_le (by omega), List.nil_append]
/-- Numbers that were put are read. -/
theorem num1 (B g : Nat) (x : Int) (t : List Int) (w : World) (hB : B ≤ g) (h : Rdr w B g (pb x 1 1 ++ t)) (hb : ∀ z ∈ pb x 1 1 ++ t, 0 ≤ z ∧ z ≤ 255) (h0 : 0 ≤ x) (h1 : x ≤ 255) :
    Calls Try.prog 18 #[.pointer (some ⟨g, 0, none⟩), .int .i64 1] w fun e w' => e = .returned (.int .u64 x) ∧ Rdr w' B g t ∧ Only g w w' := by
  have := num_any B g 1 (pb x 1 1 ++ t) w hB h (by rw [List.length_append, pb_len]; omega) (by omega) hb
  refine this.mono ?_
  rintro e w' ⟨e1, h2, h3⟩
  rw [at_pb1 x t h0 h1] at e1
  rw [drop_pb] at h2
  exact ⟨e1, h2, h3⟩
theorem num4 (B g : Nat) (x : Int) (t : List Int) (w : World) (hB : B ≤ g) (h : Rdr w B g (pb x 4 4 ++ t)) (hb : ∀ z ∈ pb x 4 4 ++ t, 0 ≤ z ∧ z ≤ 255) (h0 : 0 ≤ x) (h1 : x ≤ 4294967295) :
    Calls Try.prog 18 #[.pointer (some ⟨g, 0, none⟩), .int .i64 4] w fun e w' => e = .returned (.int .u64 x) ∧ Rdr w' B g t ∧ Only g w w' := by
  have := num_any B g 4 (pb x 4 4 ++ t) w hB h (by rw [List.length_append, pb_len]; omega) (by omega) hb
  refine this.mono ?_
  rintro e w' ⟨e1, h2, h3⟩
  rw [at_pb4 x t h0 h1] at e1
  rw [drop_pb] at h2
  exact ⟨e1, h2, h3⟩
theorem rawL (B g : Nat) (l t : List Int) (w : World) (hB : B ≤ g) (h : Rdr w B g (l ++ t)) :
    Calls Try.prog 16 #[.pointer (some ⟨g, 0, none⟩), .int .i64 (l.length : Int)] w fun e w' => ∃ b off, e = .returned (.slice (some ⟨b, off, none⟩) l.length l.length) ∧ b < B ∧ Lies w' b off l ∧ Rdr w' B g t ∧ Only g w w' := by
  have := raw_any B g l.length (l ++ t) w hB h (by rw [List.length_append]; omega)
  refine this.mono ?_
  rintro e w' ⟨b, off, e1, hb, h1, h2, h3⟩
  rw [List.take_left] at h1
  rw [List.drop_left] at h2
  exact ⟨b, off, e1, hb, h1, h2, h3⟩
theorem opB_seq (o : Ob) (t : List Int) : opB o ++ t = pb o.kind 1 1 ++ (pb (upZ o.up) 1 1 ++ (pb o.host 4 4 ++ (pb o.n 4 4 ++ (pb (o.bs.length : Int) 4 4 ++ (o.bs ++ (pb (o.nm.size : Int) 1 1 ++ (strZ o.nm ++ t))))))) := by
  unfold opB allb
  simp only [List.flatMap_cons, List.flatMap_nil, List.append_nil, List.append_assoc]
theorem str_Z (s : ByteArray) : strOfNums (strZ s) = s := by
  have e : ∀ l : List UInt8, (l.map fun b => (b.toNat : Int)).map (fun n => UInt8.ofNat n.toNat) = l := fun l => by
    induction l with
    | nil => rfl
    | cons b l ih => rw [List.map_cons, List.map_cons, ih]; congr 1; simp
  have : (strOfNums (strZ s)).data = s.data := by
    apply Array.ext'
    rw [strOfNums_data]
    unfold strZ
    exact e s.data.toList
  cases hs : strOfNums (strZ s) with
  | mk d => rw [hs] at this; cases s; exact congrArg _ this
theorem upZ_in (b : Bool) : 0 ≤ upZ b ∧ upZ b ≤ 1 := by unfold upZ; split <;> omega
theorem upZ_eq (b : Bool) : (upZ b == 1) = b := by cases b <;> rfl
theorem size_op : (Try.prog.info? 27).map (·.size) = some 6 := by kernel_rfl
/-- What lies elsewhere than in block g stays. -/
def Els (g : Nat) (w w' : World) : Prop := ∀ k, k < w.heap.size → k ≠ g → w'.heap[k]? = w.heap[k]?
theorem Only.els {g : Nat} {w w' : World} (h : Only g w w') : Els g w w' := fun k _ hk => by
  obtain ⟨v, rfl⟩ := h
  exact Below.heap_setCell w ⟨g, 0, none⟩ v k hk
theorem Els.trans {g : Nat} {a b c : World} (h1 : Els g a b) (hs : a.heap.size ≤ b.heap.size) (h2 : Els g b c) : Els g a c := fun k hk hg => (h2 k (by omega) hg).trans (h1 k hk hg)
theorem Els.below {g : Nat} {a b c : World} {B : Nat} (h1 : Els g a b) (hs : a.heap.size ≤ B) (h2 : Below B b c) : Els g a c := fun k hk hg => (h2.block k (by omega)).trans (h1 k hk hg)
theorem Els.refl (g : Nat) (w : World) : Els g w w := fun _ _ _ => rfl
def ReadGood (w : World) (B g : Nat) (o : Ob) (t : List Int) (e : Ending) (w' : World) : Prop :=
  ∃ A c, e = .returned (.agg #[.int .i64 o.kind, .slice A o.bs.length c, .string o.nm, .int .i64 o.host, .int .i64 o.n, .bool o.up]) ∧ w'.ownsRow w.heap.size 5 1 (.slice A o.bs.length c) o.bs.length (o.bs.map (.int .u8)) ∧ Rdr w' B g t ∧ Below B w w' ∧ Els g w w' ∧ w.heap.size ≤ w'.heap.size
set_option maxHeartbeats 4000000 in
set_option maxRecDepth 100000 in
theorem read_good (B g : Nat) (o : Ob) (t : List Int) (w : World) (hB : B ≤ g) (h : Rdr w B g (opB o ++ t)) (hr : o.right) (h300 : o.bs.length ≤ 600) (hb : ∀ x ∈ opB o ++ t, 0 ≤ x ∧ x ≤ 255) :
    Calls Try.prog 20 #[.pointer (some ⟨g, 0, none⟩)] w (ReadGood w B g o t) := by
  rw [opB_seq] at h hb
  obtain ⟨g0, g1, g2, g3, g4, g5, g6, g7⟩ := hr
  have u0 := upZ_in o.up
  have HUE := Lib.hid (upZ_eq o.up)
  obtain ⟨z, hz⟩ : ∃ z, z = upZ o.up := ⟨_, rfl⟩
  rw [← hz] at h hb u0 HUE
  obtain ⟨t7, ht7⟩ : ∃ t7, t7 = strZ o.nm ++ t := ⟨_, rfl⟩
  obtain ⟨t6, ht6⟩ : ∃ t6, t6 = pb (o.nm.size : Int) 1 1 ++ t7 := ⟨_, rfl⟩
  obtain ⟨t5, ht5⟩ : ∃ t5, t5 = o.bs ++ t6 := ⟨_, rfl⟩
  obtain ⟨t4, ht4⟩ : ∃ t4, t4 = pb (o.bs.length : Int) 4 4 ++ t5 := ⟨_, rfl⟩
  obtain ⟨t3, ht3⟩ : ∃ t3, t3 = pb o.n 4 4 ++ t4 := ⟨_, rfl⟩
  obtain ⟨t2, ht2⟩ : ∃ t2, t2 = pb o.host 4 4 ++ t3 := ⟨_, rfl⟩
  obtain ⟨t1, ht1⟩ : ∃ t1, t1 = pb z 1 1 ++ t2 := ⟨_, rfl⟩
  rw [← ht7, ← ht6, ← ht5, ← ht4, ← ht3, ← ht2, ← ht1] at h hb
  have b1 : ∀ x ∈ t1, 0 ≤ x ∧ x ≤ 255 := fun x hx => hb x (List.mem_append_right _ hx)
  have b2 : ∀ x ∈ t2, 0 ≤ x ∧ x ≤ 255 := fun x hx => b1 x (ht1 ▸ List.mem_append_right _ hx)
  have b3 : ∀ x ∈ t3, 0 ≤ x ∧ x ≤ 255 := fun x hx => b2 x (ht2 ▸ List.mem_append_right _ hx)
  have b4 : ∀ x ∈ t4, 0 ≤ x ∧ x ≤ 255 := fun x hx => b3 x (ht3 ▸ List.mem_append_right _ hx)
  have b5 : ∀ x ∈ t5, 0 ≤ x ∧ x ≤ 255 := fun x hx => b4 x (ht4 ▸ List.mem_append_right _ hx)
  have b6 : ∀ x ∈ t6, 0 ≤ x ∧ x ≤ 255 := fun x hx => b5 x (ht5 ▸ List.mem_append_right _ hx)
  have N1 := Lib.hid (show ∀ V, Rdr V B g (pb o.kind 1 1 ++ t1) → _ from fun V hV => num1 B g o.kind t1 V hB hV hb g0 g1)
  have N2 := Lib.hid (show ∀ V, Rdr V B g t1 → _ from fun V hV => num1 B g z t2 V hB (ht1 ▸ hV) (ht1 ▸ b1) u0.1 (by omega))
  have N3 := Lib.hid (show ∀ V, Rdr V B g t2 → _ from fun V hV => num4 B g o.host t3 V hB (ht2 ▸ hV) (ht2 ▸ b2) g4 g5)
  have N4 := Lib.hid (show ∀ V, Rdr V B g t3 → _ from fun V hV => num4 B g o.n t4 V hB (ht3 ▸ hV) (ht3 ▸ b3) g6 g7)
  have N5 := Lib.hid (show ∀ V, Rdr V B g t4 → _ from fun V hV => num4 B g o.bs.length t5 V hB (ht4 ▸ hV) (ht4 ▸ b4) (by omega) (by omega))
  have N6 := Lib.hid (show ∀ V, Rdr V B g t5 → _ from fun V hV => rawL B g o.bs t6 V hB (ht5 ▸ hV))
  have N7 := Lib.hid (show ∀ V, Rdr V B g t6 → _ from fun V hV => num1 B g o.nm.size t7 V hB (ht6 ▸ hV) (ht6 ▸ b6) (by omega) (by omega))
  have N8 := Lib.hid (show ∀ V, Rdr V B g t7 → Calls Try.prog 16 #[.pointer (some ⟨g, 0, none⟩), .int .i64 (o.nm.size : Int)] V fun e w' => ∃ b off, e = .returned (.slice (some ⟨b, off, none⟩) o.nm.size o.nm.size) ∧ b < B ∧ Lies w' b off (strZ o.nm) ∧ Rdr w' B g t ∧ Only g V w' from fun V hV => by have := rawL B g (strZ o.nm) t V hB (ht7 ▸ hV); rw [strZ_len] at this; exact this)
  have hlt := h.lt
  have HH := Lib.hid h
  have HBG := Lib.hid hB
  obtain ⟨w1, hw1⟩ : ∃ w1, w1 = w.alloc (.cells #[.int .i64 0, .slice none 0 0, .string ⟨#[]⟩, .int .i64 0, .int .i64 0, .bool false] 27) := ⟨_, rfl⟩
  have E1 := Lib.hid hw1
  have BA1 := Lib.hid (show Below w.heap.size w w1 from by rw [hw1]; exact (Below.refl _ _).alloc (Nat.le_refl _) _)
  have KR1 := Lib.hid (show Blk w1 w.heap.size 27 #[.int .i64 0, .slice none 0 0, .string ⟨#[]⟩, .int .i64 0, .int .i64 0, .bool false] from by rw [hw1]; exact Blk.new w _ _)
  have SZ1 := Lib.hid (show w1.heap.size = w.heap.size + 1 from by rw [hw1]; simp)
  have HR1 := Lib.hid (h.below BA1.out (by omega) hlt)
  clear h hb b1 b2 b3 b4 b5 b6 ht1 ht2 ht3 ht4 ht5 ht6 ht7 hw1 hz hB
  go_enter Try.func20, Try.ntmps20
  go_wp2_with fail
  rw [← E1.out]
  refine (N1.out _ HR1.out).mono ?_
  rintro e w2 ⟨rfl, hr2, ho2⟩
  have HR2 := Lib.hid hr2
  have KR2 := Lib.hid (ho2.blk KR1.out (by omega))
  have SZ2 := Lib.hid (show w2.heap.size = w.heap.size + 1 from ho2.size.trans SZ1.out)
  have BB2 := Lib.hid (ho2.from (BA1.out.mono (show B ≤ w.heap.size by have := HBG.out; omega)) HBG.out)
  have EL2 := Lib.hid ((Els.refl g w).below (Nat.le_refl _) BA1.out |>.trans BA1.out.size (Only.els ho2))
  clear hr2 ho2
  obtain ⟨p, hp⟩ : ∃ p, p = w2.heap.size := ⟨_, rfl⟩
  obtain ⟨w3, hw3⟩ : ∃ w3, w3 = w2.alloc (.cells #[.int .i64 o.kind, .slice none 0 0, .string ⟨#[]⟩, .int .i64 0, .int .i64 0, .bool false] 27) := ⟨_, rfl⟩
  have E3 := Lib.hid hw3
  have EP := Lib.hid hp
  have hpv : p = w.heap.size + 1 := by rw [hp]; exact SZ2.out
  have hgp : g < p := by omega
  have hwp : w.heap.size < p := by omega
  have HPV := Lib.hid hpv
  clear hpv
  have BA3 := Lib.hid (show Below p w2 w3 from by rw [hw3, hp]; exact (Below.refl _ _).alloc (Nat.le_refl _) _)
  have KP3 := Lib.hid (show Blk w3 p 27 #[.int .i64 o.kind, .slice none 0 0, .string ⟨#[]⟩, .int .i64 0, .int .i64 0, .bool false] from by rw [hw3, hp]; exact Blk.new w2 _ _)
  have SZ3 := Lib.hid (show w3.heap.size = p + 1 from by rw [hw3, hp]; simp)
  have KR3 := Lib.hid (KR2.out.below BA3.out (by omega))
  have HR3 := Lib.hid (HR2.out.below BA3.out (by have := HBG.out; omega) hgp)
  have BB3 := Lib.hid (BB2.out.trans (BA3.out.mono (by have := HBG.out; omega)))
  have EL3 := Lib.hid (EL2.out.below (show w.heap.size ≤ p by omega) BA3.out)
  clear hp hw3
  go_wp2_with fail
  rw [← EP.out, ← E3.out]
  refine (N2.out _ HR3.out).mono ?_
  rintro e w4 ⟨rfl, hr4, ho4⟩
  have SZ4 := Lib.hid (show w4.heap.size = p + 1 from ho4.size.trans SZ3.out)
  have KP4 := Lib.hid (ho4.blk KP3.out (by omega))
  have KR4 := Lib.hid (ho4.blk KR3.out (by omega))
  have BB4 := Lib.hid (ho4.from BB3.out HBG.out)
  have EL4 := Lib.hid (EL3.out.trans (by have := SZ3.out; omega) (Only.els ho4))
  obtain ⟨w5, hw5⟩ : ∃ w5, w5 = w4.setCell ⟨p, 5, none⟩ (.bool o.up) := ⟨_, rfl⟩
  have E5 := Lib.hid hw5
  have BA5 := Lib.hid (show Below p w4 w5 from by rw [hw5]; exact (Below.refl _ _).setCell (Nat.le_refl p) _)
  have KP5 := Lib.hid (show Blk w5 p 27 #[.int .i64 o.kind, .slice none 0 0, .string ⟨#[]⟩, .int .i64 0, .int .i64 0, .bool o.up] from by rw [hw5]; exact KP4.out.set_ 5 (.bool o.up))
  have SZ5 := Lib.hid (show p + 1 ≤ w5.heap.size from by rw [hw5]; have := SZ4.out; simp; omega)
  have KR5 := Lib.hid (KR4.out.below BA5.out (by omega))
  have HR5 := Lib.hid (hr4.below BA5.out (by have := HBG.out; omega) hgp)
  have BB5 := Lib.hid (BB4.out.trans (BA5.out.mono (by have := HBG.out; omega)))
  have EL5 := Lib.hid (EL4.out.below (show w.heap.size ≤ p by omega) BA5.out)
  have f5 := KP4.out.frozen 5
  have c5 := KP4.out.cell 5
  have hue := HUE.out
  have tz : decide ((1 : Int) < z) = false := decide_eq_false (by omega)
  clear hr4 ho4 hw5
  go_wp2_with fail
  rw [← E5.out]
  clear f5 c5 hue tz
  refine (N3.out _ HR5.out).mono ?_
  rintro e w6 ⟨rfl, hr6, ho6⟩
  have SZ6 := Lib.hid (show p + 1 ≤ w6.heap.size from by rw [ho6.size]; exact SZ5.out)
  have KP6 := Lib.hid (ho6.blk KP5.out (by omega))
  have KR6 := Lib.hid (ho6.blk KR5.out (by omega))
  have BB6 := Lib.hid (ho6.from BB5.out HBG.out)
  have EL6 := Lib.hid (EL5.out.trans (by have := SZ5.out; omega) (Only.els ho6))
  have HR6 := Lib.hid hr6
  clear hr6 ho6
  go_wp2_with fail
  refine (N4.out _ HR6.out).mono ?_
  rintro e w7 ⟨rfl, hr7, ho7⟩
  have SZ7 := Lib.hid (show p + 1 ≤ w7.heap.size from by rw [ho7.size]; exact SZ6.out)
  have KP7 := Lib.hid (ho7.blk KP6.out (by omega))
  have KR7 := Lib.hid (ho7.blk KR6.out (by omega))
  have BB7 := Lib.hid (ho7.from BB6.out HBG.out)
  have EL7 := Lib.hid (EL6.out.trans (by have := SZ6.out; omega) (Only.els ho7))
  have HR7 := Lib.hid hr7
  clear hr7 ho7
  obtain ⟨w8, hw8⟩ : ∃ w8, w8 = w7.setCell ⟨p, 3, none⟩ (.int .i64 o.host) := ⟨_, rfl⟩
  have E8 := Lib.hid hw8
  have BA8 := Lib.hid (show Below p w7 w8 from by rw [hw8]; exact (Below.refl _ _).setCell (Nat.le_refl p) _)
  have KP8 := Lib.hid (show Blk w8 p 27 #[.int .i64 o.kind, .slice none 0 0, .string ⟨#[]⟩, .int .i64 o.host, .int .i64 0, .bool o.up] from by rw [hw8]; exact KP7.out.set_ 3 (.int .i64 o.host))
  have SZ8 := Lib.hid (show p + 1 ≤ w8.heap.size from by rw [hw8]; simpa using SZ7.out)
  have KR8 := Lib.hid (KR7.out.below BA8.out (by omega))
  have HR8 := Lib.hid (HR7.out.below BA8.out (by have := HBG.out; omega) hgp)
  have BB8 := Lib.hid (BB7.out.trans (BA8.out.mono (by have := HBG.out; omega)))
  have EL8 := Lib.hid (EL7.out.below (show w.heap.size ≤ p by omega) BA8.out)
  have f8 := KP7.out.frozen 3
  have c8 := KP7.out.cell 3
  clear hw8
  obtain ⟨w9, hw9⟩ : ∃ w9, w9 = w8.setCell ⟨p, 4, none⟩ (.int .i64 o.n) := ⟨_, rfl⟩
  have E9 := Lib.hid hw9
  have BA9 := Lib.hid (show Below p w8 w9 from by rw [hw9]; exact (Below.refl _ _).setCell (Nat.le_refl p) _)
  have KP9 := Lib.hid (show Blk w9 p 27 #[.int .i64 o.kind, .slice none 0 0, .string ⟨#[]⟩, .int .i64 o.host, .int .i64 o.n, .bool o.up] from by rw [hw9]; exact KP8.out.set_ 4 (.int .i64 o.n))
  have SZ9 := Lib.hid (show p + 1 ≤ w9.heap.size from by rw [hw9]; simpa using SZ8.out)
  have KR9 := Lib.hid (KR8.out.below BA9.out (by omega))
  have HR9 := Lib.hid (HR8.out.below BA9.out (by have := HBG.out; omega) hgp)
  have BB9 := Lib.hid (BB8.out.trans (BA9.out.mono (by have := HBG.out; omega)))
  have EL9 := Lib.hid (EL8.out.below (show w.heap.size ≤ p by omega) BA9.out)
  have f9 := KP8.out.frozen 4
  have c9 := KP8.out.cell 4
  clear hw9
  have f9b := KP7.out.frozen 4
  have f9c := f9
  rw [E8.out] at f9c
  have c9b := KP7.out.cell 4
  have c9c := c9
  rw [E8.out] at c9c
  go_wp2_with fail
  rw [← E8.out, ← E9.out]
  clear f8 c8 f9 c9 f9b f9c c9b c9c
  refine (N5.out _ HR9.out).mono ?_
  rintro e w10 ⟨rfl, hr10, ho10⟩
  have SZ10 := Lib.hid (show p + 1 ≤ w10.heap.size from by rw [ho10.size]; exact SZ9.out)
  have KP10 := Lib.hid (ho10.blk KP9.out (by omega))
  have KR10 := Lib.hid (ho10.blk KR9.out (by omega))
  have BB10 := Lib.hid (ho10.from BB9.out HBG.out)
  have EL10 := Lib.hid (EL9.out.trans (by have := SZ9.out; omega) (Only.els ho10))
  have HR10 := Lib.hid hr10
  clear hr10 ho10
  have tb : decide ((65536 : Int) < o.bs.length) = false := decide_eq_false (by omega)
  go_wp2_with fail
  refine (N6.out _ HR10.out).mono ?_
  rintro e w11 ⟨bb, off, rfl, hbb, hli, hr11, ho11⟩
  have SZ11 := Lib.hid (show p + 1 ≤ w11.heap.size from by rw [ho11.size]; exact SZ10.out)
  have KP11 := Lib.hid (ho11.blk KP10.out (by omega))
  have KR11 := Lib.hid (ho11.blk KR10.out (by omega))
  have BB11 := Lib.hid (ho11.from BB10.out HBG.out)
  have EL11 := Lib.hid (EL10.out.trans (by have := SZ10.out; omega) (Only.els ho11))
  have HR11 := Lib.hid hr11
  have HLI := Lib.hid hli
  clear hli
  clear hr11 ho11
  obtain ⟨c0, hc0⟩ : ∃ c0, c0 = w11.heap.size := ⟨_, rfl⟩
  have C0 := Lib.hid hc0
  have hc1 : p < c0 := by have := SZ11.out; omega
  have CL := Lib.hid (clone_any (some ⟨bb, off, none⟩) o.bs.length o.bs.length o.bs w11 rfl (by omega) (by intro h9; cases h9) (HLI.out.row (by have := HBG.out; omega)))
  clear hc0
  go_wp2_with fail
  refine CL.out.mono ?_
  rintro e w12 ⟨v9, rfl, ho9, hb9, hs9⟩
  rw [← C0.out] at ho9 hb9 hs9
  obtain ⟨AA, cc, hv9⟩ := own_slice ho9
  subst hv9
  have OW12 := Lib.hid ho9
  have SZ12 := Lib.hid (show p + 1 ≤ w12.heap.size by omega)
  have KP12 := Lib.hid (KP11.out.below hb9 (by omega))
  have KR12 := Lib.hid (KR11.out.below hb9 (by omega))
  have HR12 := Lib.hid (HR11.out.below hb9 (by have := HBG.out; omega) (by omega))
  have BB12 := Lib.hid (BB11.out.trans (hb9.mono (by have := HBG.out; omega)))
  have EL12 := Lib.hid (EL11.out.below (show w.heap.size ≤ c0 by omega) hb9)
  clear ho9 hb9 hs9
  obtain ⟨w13, hw13⟩ : ∃ w13, w13 = w12.setCell ⟨p, 1, none⟩ (.slice AA o.bs.length cc) := ⟨_, rfl⟩
  have E13 := Lib.hid hw13
  have BA13 := Lib.hid (show Below p w12 w13 from by rw [hw13]; exact (Below.refl _ _).setCell (Nat.le_refl p) _)
  have KP13 := Lib.hid (show Blk w13 p 27 #[.int .i64 o.kind, .slice AA o.bs.length cc, .string ⟨#[]⟩, .int .i64 o.host, .int .i64 o.n, .bool o.up] from by rw [hw13]; exact KP12.out.set_ 1 (.slice AA o.bs.length cc))
  have SZ13 := Lib.hid (show p + 1 ≤ w13.heap.size from by rw [hw13]; simpa using SZ12.out)
  have KR13 := Lib.hid (KR12.out.below BA13.out (by omega))
  have HR13 := Lib.hid (HR12.out.below BA13.out (by have := HBG.out; omega) hgp)
  have BB13 := Lib.hid (BB12.out.trans (BA13.out.mono (by have := HBG.out; omega)))
  have EL13 := Lib.hid (EL12.out.below (show w.heap.size ≤ p by omega) BA13.out)
  have f13 := KP12.out.frozen 1
  have c13 := KP12.out.cell 1
  have OW13 := Lib.hid (show w13.ownsRow c0 5 1 (.slice AA o.bs.length cc) o.bs.length (o.bs.map (.int .u8)) from by rw [hw13]; exact own_far OW12.out ⟨p, 1, none⟩ (show p < c0 by omega) _)
  clear hw13
  go_wp2_with fail
  rw [← E13.out]
  clear f13 c13
  refine (N7.out _ HR13.out).mono ?_
  rintro e w14 ⟨rfl, hr14, ho14⟩
  have SZ14 := Lib.hid (show p + 1 ≤ w14.heap.size from by rw [ho14.size]; exact SZ13.out)
  have KP14 := Lib.hid (ho14.blk KP13.out (by omega))
  have KR14 := Lib.hid (ho14.blk KR13.out (by omega))
  have BB14 := Lib.hid (ho14.from BB13.out HBG.out)
  have EL14 := Lib.hid (EL13.out.trans (by have := SZ13.out; omega) (Only.els ho14))
  have HR14 := Lib.hid hr14
  have OW14 := Lib.hid (show w14.ownsRow c0 5 1 (.slice AA o.bs.length cc) o.bs.length (o.bs.map (.int .u8)) from by obtain ⟨v, hv⟩ := ho14; rw [hv]; exact own_far OW13.out ⟨g, 0, none⟩ (show g < c0 by omega) v)
  clear hr14 ho14
  go_wp2_with fail
  refine (N8.out _ HR14.out).mono ?_
  rintro e w15 ⟨b2, off2, rfl, hb2, hl2, hr15, ho15⟩
  have SZ15 := Lib.hid (show p + 1 ≤ w15.heap.size from by rw [ho15.size]; exact SZ14.out)
  have KP15 := Lib.hid (ho15.blk KP14.out (by omega))
  have KR15 := Lib.hid (ho15.blk KR14.out (by omega))
  have BB15 := Lib.hid (ho15.from BB14.out HBG.out)
  have EL15 := Lib.hid (EL14.out.trans (by have := SZ14.out; omega) (Only.els ho15))
  have HR15 := Lib.hid hr15
  have OW15 := Lib.hid (show w15.ownsRow c0 5 1 (.slice AA o.bs.length cc) o.bs.length (o.bs.map (.int .u8)) from by obtain ⟨v, hv⟩ := ho15; rw [hv]; exact own_far OW14.out ⟨g, 0, none⟩ (show g < c0 by omega) v)
  have HL2 := Lib.hid hl2
  clear hl2
  clear hr15 ho15
  have cv := conv_row (c := o.nm.size) (HL2.out.row hb2) (strZ_len o.nm)
  rw [str_Z] at cv
  obtain ⟨w16, hw16⟩ : ∃ w16, w16 = w15.setCell ⟨p, 2, none⟩ (.string o.nm) := ⟨_, rfl⟩
  have E16 := Lib.hid hw16
  have BA16 := Lib.hid (show Below p w15 w16 from by rw [hw16]; exact (Below.refl _ _).setCell (Nat.le_refl p) _)
  have KP16 := Lib.hid (show Blk w16 p 27 #[.int .i64 o.kind, .slice AA o.bs.length cc, .string o.nm, .int .i64 o.host, .int .i64 o.n, .bool o.up] from by rw [hw16]; exact KP15.out.set_ 2 (.string o.nm))
  have SZ16 := Lib.hid (show p + 1 ≤ w16.heap.size from by rw [hw16]; simpa using SZ15.out)
  have KR16 := Lib.hid (KR15.out.below BA16.out (by omega))
  have HR16 := Lib.hid (HR15.out.below BA16.out (by have := HBG.out; omega) hgp)
  have BB16 := Lib.hid (BB15.out.trans (BA16.out.mono (by have := HBG.out; omega)))
  have EL16 := Lib.hid (EL15.out.below (show w.heap.size ≤ p by omega) BA16.out)
  have f16 := KP15.out.frozen 2
  have c16 := KP15.out.cell 2
  have OW16 := Lib.hid (show w16.ownsRow c0 5 1 (.slice AA o.bs.length cc) o.bs.length (o.bs.map (.int .u8)) from by rw [hw16]; exact own_far OW15.out ⟨p, 2, none⟩ (show p < c0 by omega) _)
  clear hw16
  have x0 := KP16.out.cell 0
  have x1 := KP16.out.cell 1
  have x2 := KP16.out.cell 2
  have x3 := KP16.out.cell 3
  have x4 := KP16.out.cell 4
  have x5 := KP16.out.cell 5
  go_upto_region 12 with fail
  rw [← E16.out]
  clear f16 c16 cv
  have z0 := KR16.out.cell 0
  have y0 := KR16.out.frozen 0
  have z1 := KR16.out.cell 1
  have y1 := KR16.out.frozen 1
  have z2 := KR16.out.cell 2
  have y2 := KR16.out.frozen 2
  have z3 := KR16.out.cell 3
  have y3 := KR16.out.frozen 3
  have z4 := KR16.out.cell 4
  have y4 := KR16.out.frozen 4
  have z5 := KR16.out.cell 5
  have y5 := KR16.out.frozen 5
  have k0 := KR16.out
  have o0 := OW16.out
  have k1 := k0.set_ 0 (.int .i64 o.kind)
  have o1 := own_far o0 ⟨w.heap.size, 0, none⟩ (show w.heap.size < c0 by omega) (.int .i64 o.kind)
  have k2 := k1.set_ 1 (.slice AA o.bs.length cc)
  have o2 := own_far o1 ⟨w.heap.size, 1, none⟩ (show w.heap.size < c0 by omega) (.slice AA o.bs.length cc)
  have k3 := k2.set_ 2 (.string o.nm)
  have o3 := own_far o2 ⟨w.heap.size, 2, none⟩ (show w.heap.size < c0 by omega) (.string o.nm)
  have k4 := k3.set_ 3 (.int .i64 o.host)
  have o4 := own_far o3 ⟨w.heap.size, 3, none⟩ (show w.heap.size < c0 by omega) (.int .i64 o.host)
  have k5 := k4.set_ 4 (.int .i64 o.n)
  have o5 := own_far o4 ⟨w.heap.size, 4, none⟩ (show w.heap.size < c0 by omega) (.int .i64 o.n)
  have k6 := k5.set_ 5 (.bool o.up)
  have o6 := own_far o5 ⟨w.heap.size, 5, none⟩ (show w.heap.size < c0 by omega) (.bool o.up)
  have HKF := Lib.hid (show Blk ((((((w16.setCell ⟨w.heap.size, 0, none⟩ (.int .i64 o.kind)).setCell ⟨w.heap.size, 1, none⟩ (.slice AA o.bs.length cc)).setCell ⟨w.heap.size, 2, none⟩ (.string o.nm)).setCell ⟨w.heap.size, 3, none⟩ (.int .i64 o.host)).setCell ⟨w.heap.size, 4, none⟩ (.int .i64 o.n)).setCell ⟨w.heap.size, 5, none⟩ (.bool o.up)) w.heap.size 27 #[.int .i64 o.kind, .slice AA o.bs.length cc, .string o.nm, .int .i64 o.host, .int .i64 o.n, .bool o.up] from k6)
  have HOF := Lib.hid o6
  have BA17 := Lib.hid (show Below w.heap.size w16 ((((((w16.setCell ⟨w.heap.size, 0, none⟩ (.int .i64 o.kind)).setCell ⟨w.heap.size, 1, none⟩ (.slice AA o.bs.length cc)).setCell ⟨w.heap.size, 2, none⟩ (.string o.nm)).setCell ⟨w.heap.size, 3, none⟩ (.int .i64 o.host)).setCell ⟨w.heap.size, 4, none⟩ (.int .i64 o.n)).setCell ⟨w.heap.size, 5, none⟩ (.bool o.up)) from (((((((Below.refl w.heap.size w16).setCell (p := ⟨w.heap.size, 0, none⟩) (Nat.le_refl w.heap.size) (.int .i64 o.kind)).setCell (p := ⟨w.heap.size, 1, none⟩) (Nat.le_refl w.heap.size) (.slice AA o.bs.length cc)).setCell (p := ⟨w.heap.size, 2, none⟩) (Nat.le_refl w.heap.size) (.string o.nm)).setCell (p := ⟨w.heap.size, 3, none⟩) (Nat.le_refl w.heap.size) (.int .i64 o.host)).setCell (p := ⟨w.heap.size, 4, none⟩) (Nat.le_refl w.heap.size) (.int .i64 o.n)).setCell (p := ⟨w.heap.size, 5, none⟩) (Nat.le_refl w.heap.size) (.bool o.up)))
  clear k0 k1 k2 k3 k4 k5 k6 o0 o1 o2 o3 o4 o5 o6
  go_wp2_with fail
  refine bodyPost_ret (results_cell_row rfl _ _ w.heap.size 27 #[.int .i64 o.kind, .slice AA o.bs.length cc, .string o.nm, .int .i64 o.host, .int .i64 o.n, .bool o.up] (0, 0) _ rfl HKF.out Try.underlying27 rfl size_op) rfl ?_
  refine ⟨AA, cc, rfl, own_base HOF.out (by omega), HR16.out.below BA17.out (by have := HBG.out; omega) hlt, BB16.out.trans (BA17.out.mono (by have := HBG.out; omega)), EL16.out.below (Nat.le_refl _) BA17.out, ?_⟩
  have e1 := BA17.out.size
  have e2 := SZ16.out
  omega
end Go.Proofs.Ytmlicmcphecakaa.snJ
