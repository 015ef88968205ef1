/- Layer 10: a reader's rest; the header that bytes begin with. -/
import Derived.Test.YtndekicblbpkjaaUdpA
namespace Go.Proofs.Ytndekicblbpkjaa.tcpC
open Go.ChangeShapes Go.WideShapes Go.ChangeAt Go.RowKit
open Go.Proofs.Ytndekicblbpkjaa.base Go.Proofs.Ytndekicblbpkjaa.octA Go.Proofs.Ytndekicblbpkjaa.octB Go.Proofs.Ytndekicblbpkjaa.octC Go.Proofs.Ytndekicblbpkjaa.octF Go.Proofs.Ytndekicblbpkjaa.rdrA Go.Proofs.Ytndekicblbpkjaa.udpA
set_option linter.unusedVariables false

theorem left_any (B g : Nat) (l : List Int) (w : World) (h : Rdr w B g l) :
    Calls Try.prog 98 #[.pointer (some ⟨g, 0, none⟩)] w fun e w' => e = .returned (.int .i64 (l.length : Int)) ∧ w = w' := by
  obtain ⟨b, off, c, hblk, _⟩ := h
  have c0 : w.cell? ⟨g, 0, none⟩ = some (.slice (some ⟨b, off, none⟩) l.length c) := hblk.cell 0
  clear hblk
  generalize l.length = n at *
  go_enter Try.func98, Try.ntmps98
  go_wp2
  go_ret
  exact ⟨rfl, rfl⟩
def RestPost (w : World) (g : Nat) (l : List Int) (e : Ending) (w' : World) : Prop :=
  ∃ v w1, e = .returned v ∧ Only g w w1 ∧ w'.ownsRow w1.heap.size 5 1 v l.length (l.map (.int .u8)) ∧ Below w1.heap.size w1 w'
theorem rest_big (B g : Nat) (l : List Int) (w : World) (hB : B ≤ g) (h : Rdr w B g l) (hn : l.length ≤ 100000) :
    Calls Try.prog 76 #[.pointer (some ⟨g, 0, none⟩)] w (RestPost w g l) := by
  have hg := h.lt
  have HL := Lib.hid (left_any B g l w h)
  have HRW := Lib.hid (raw_any B g l.length l w hB h (Nat.le_refl _))
  have HT := Lib.hid (show l.take l.length = l from List.take_length)
  have HN := Lib.hid (show l.length = l.length from rfl)
  clear h
  generalize hm : l.length = m at *
  have HM := Lib.hid hm
  clear hm
  go_enter Try.func76, Try.ntmps76
  go_wp2_with fail
  refine HL.out.mono ?_
  rintro e w' ⟨rfl, rfl⟩
  go_wp2_with fail
  refine HRW.out.mono ?_
  rintro e w1 ⟨b, off, rfl, hbB, hlies, _, hon⟩
  rw [HT.out] at hlies
  have HC := Lib.hid (clone_big (some ⟨b, off, none⟩) m m l w1 HM.out hn (by intro h; cases h) (hlies.row (by rw [hon.size]; omega)))
  have HON := Lib.hid hon
  clear hlies hon
  go_wp2_with fail
  refine HC.out.mono ?_
  rintro e w2 ⟨v, rfl, hown, hbel, _⟩
  have HO := Lib.hid hown
  have HB2 := Lib.hid hbel
  clear hown hbel
  go_wp2_with fail
  go_ret
  exact ⟨_, w1, rfl, HON.out, by rw [HM.out]; exact HO.out, HB2.out⟩
theorem rest_any (B g : Nat) (l : List Int) (w : World) (hB : B ≤ g) (h : Rdr w B g l) (hn : l.length ≤ 1000) :
    Calls Try.prog 76 #[.pointer (some ⟨g, 0, none⟩)] w (RestPost w g l) := rest_big B g l w hB h (by omega)
theorem atN_one (l : List Int) (i : Nat) : atN (l.drop i) 0 1 = l.getD i 0 := by
  show 0 * 256 + (l.drop i).getD (0 + 0) 0 = _
  rw [List.getD_eq_getElem?_getD, List.getElem?_drop, ← List.getD_eq_getElem?_getD]
  simp
def w32 (l : List Int) (i : Nat) : Int := w16 l i * 65536 + w16 l (i + 2)
theorem atN_four (l : List Int) (i : Nat) : atN (l.drop i) 0 4 = w32 l i := by
  have e : ∀ j, (l.drop i).getD j 0 = l.getD (i + j) 0 := fun j => by
    rw [List.getD_eq_getElem?_getD, List.getD_eq_getElem?_getD, List.getElem?_drop]
  show (((0 * 256 + (l.drop i).getD (0 + 0) 0) * 256 + (l.drop i).getD (0 + 1) 0) * 256 + (l.drop i).getD (0 + 2) 0) * 256 + (l.drop i).getD (0 + 3) 0 = _
  rw [e, e, e, e]
  unfold w32 w16
  simp only [Nat.add_zero, Nat.zero_add, Nat.add_assoc]
  show _ = (l.getD i 0 * 256 + l.getD (i + 1) 0) * 65536 + (l.getD (i + 2) 0 * 256 + l.getD (i + 3) 0)
  omega
theorem w32_in (l : List Int) (hb : ∀ x ∈ l, 0 ≤ x ∧ x ≤ 255) (i : Nat) : 0 ≤ w32 l i ∧ w32 l i ≤ 4294967295 := by
  have a := w16_in l hb i
  have b := w16_in l hb (i + 2)
  unfold w32
  omega
def NPost (w : World) (B g i k : Nat) (v : Int) (l : List Int) (e : Ending) (w' : World) : Prop :=
  e = .returned (.int .u64 v) ∧ Rdr w' B g (l.drop (i + k)) ∧ Only g w w'
theorem num_one (B g i : Nat) (l : List Int) (w : World) (hB : B ≤ g) (h : Rdr w B g (l.drop i)) (hk : i + 1 ≤ l.length) (hb : ∀ x ∈ l, 0 ≤ x ∧ x ≤ 255) :
    Calls Try.prog 72 #[.pointer (some ⟨g, 0, none⟩), .int .i64 1] w (NPost w B g i 1 (l.getD i 0) l) := by
  refine (num_any B g 1 (l.drop i) w hB h (by rw [List.length_drop]; omega) (by omega) (drop_u8 hb i)).mono ?_
  rintro e w' ⟨rfl, h1, h2⟩
  exact ⟨by rw [atN_one], by rwa [List.drop_drop] at h1, h2⟩
theorem num_four (B g i : Nat) (l : List Int) (w : World) (hB : B ≤ g) (h : Rdr w B g (l.drop i)) (hk : i + 4 ≤ l.length) (hb : ∀ x ∈ l, 0 ≤ x ∧ x ≤ 255) :
    Calls Try.prog 72 #[.pointer (some ⟨g, 0, none⟩), .int .i64 4] w (NPost w B g i 4 (w32 l i) l) := by
  refine (num_any B g 4 (l.drop i) w hB h (by rw [List.length_drop]; omega) (by omega) (drop_u8 hb i)).mono ?_
  rintro e w' ⟨rfl, h1, h2⟩
  exact ⟨by rw [atN_four], by rwa [List.drop_drop] at h1, h2⟩
def ReadPost (w : World) (l : List Int) (e : Ending) (w' : World) : Prop :=
  ∃ A n c, e = .returned (.agg #[.int .i64 (w16 l 0), .int .i64 (w16 l 2), .int .u32 (w32 l 4), .int .u32 (w32 l 8), .int .i64 (l.getD 13 0), .int .i64 (w16 l 14), .int .i64 (w16 l 18), .slice A n c]) ∧ n = l.length - 20 ∧ (A = none → c = 0) ∧ w'.ownsRow w.heap.size 5 1 (.slice A n c) n ((l.drop 20).map (.int .u8)) ∧ Below w.heap.size w w'
theorem own_none {w : World} {base : Nat} {e : TypeId} {A : Option Addr} {n c : Nat} {xs : List Value} (h : w.ownsRow base e 1 (.slice A n c) n xs) : A = none → c = 0 := fun hA => by
  rcases Go.Proofs.Ytndekicblbpkjaa.octE.own_cases h with ⟨h, _⟩ | ⟨g, cap, h, _⟩
  · injection h
  · injection h with h; rw [hA] at h; cases h
set_option maxRecDepth 100000 in
set_option maxHeartbeats 4000000 in
theorem read_any (b off n c : Nat) (l : List Int) (w : World) (hl : l.length = n) (hn : 20 ≤ n) (hn2 : n ≤ 1000) (hnc : n ≤ c) (hc : c ≤ 9223372036854775807) (hb : b < w.heap.size) (hs : Lies w b off l) (hx : ∀ x ∈ l, 0 ≤ x ∧ x ≤ 255) :
    Calls Try.prog 86 #[.slice (some ⟨b, off, none⟩) n c] w (ReadPost w l) := by
  have HL := Lib.hid hl
  have HX := Lib.hid hx
  have k0 := w16_in l hx 0
  have k2 := w16_in l hx 2
  have k4 := w32_in l hx 4
  have k8 := w32_in l hx 8
  have k13 := getD_in l hx 13
  have k14 := w16_in l hx 14
  have k18 := w16_in l hx 18
  have v4 : IntKind.u32.wrap (w32 l 4) = w32 l 4 := by rw [IntKind.wrap_u32]; omega
  have v8 : IntKind.u32.wrap (w32 l 8) = w32 l 8 := by rw [IntKind.wrap_u32]; omega
  have V4 := Lib.hid v4
  have V8 := Lib.hid v8
  clear v4 v8
  have hz : (w.alloc (.cells #[.int .i64 0, .int .i64 0, .int .u32 0, .int .u32 0, .int .i64 0, .int .i64 0, .int .i64 0, .slice none 0 0] 90)).heap.size = w.heap.size + 1 := by simp
  have HR0 := Lib.hid (read_rdr b off n c w.heap.size l (w.alloc (.cells #[.int .i64 0, .int .i64 0, .int .u32 0, .int .u32 0, .int .i64 0, .int .i64 0, .int .i64 0, .slice none 0 0] 90)) hl hnc hc hb (by simp) (hs.below ((Below.refl _ _).alloc (Nat.le_refl _) _) hb))
  have HZ := Lib.hid hz
  have HB0 := Lib.hid (show Below w.heap.size w (w.alloc (.cells #[.int .i64 0, .int .i64 0, .int .u32 0, .int .u32 0, .int .i64 0, .int .i64 0, .int .i64 0, .slice none 0 0] 90)) from (Below.refl _ _).alloc (Nat.le_refl _) _)
  have HRES := Lib.hid (Blk.new w 90 #[.int .i64 0, .int .i64 0, .int .u32 0, .int .u32 0, .int .i64 0, .int .i64 0, .int .i64 0, .slice none 0 0])
  have HLD := Lib.hid (show (l.drop 20).length = n - 20 by rw [List.length_drop, hl])
  clear hs hx hl hz
  generalize h0 : w16 l 0 = x0 at *
  generalize h2 : w16 l 2 = x2 at *
  generalize h4 : w32 l 4 = x4 at *
  generalize h8 : w32 l 8 = x8 at *
  generalize h13 : l.getD 13 0 = x13 at *
  generalize h14 : w16 l 14 = x14 at *
  generalize h18 : w16 l 18 = x18 at *
  have H0 := Lib.hid h0
  have H2 := Lib.hid h2
  have H4 := Lib.hid h4
  have H8 := Lib.hid h8
  have H13 := Lib.hid h13
  have H14 := Lib.hid h14
  have H18 := Lib.hid h18
  clear h0 h2 h4 h8 h13 h14 h18
  go_enter Try.func86, Try.ntmps86
  go_wp2_with fail
  refine HR0.out.mono ?_
  rintro e w1 ⟨rfl, hrdr, hbel, hsz⟩
  rw [HZ.out] at hrdr hbel hsz
  have HR := Lib.hid hrdr
  have HB := Lib.hid (HB0.out.trans (hbel.mono (by omega)))
  have HRS := Lib.hid (HRES.out.below hbel (by omega))
  have s1 : w.heap.size + 1 < w1.heap.size := by omega
  clear hrdr hbel hsz HR0 HB0 HRES
  go_wp2_with fail
  refine (num_two w.heap.size (w.heap.size + 1) 0 l _ (by omega) HR.out (by rw [HL.out]; omega) HX.out).mono ?_
  rintro e w2 ⟨he, hrdr, hon⟩
  rw [H0.out] at he
  subst he
  have HR9 := Lib.hid hrdr
  have HB9 := Lib.hid (hon.from HB.out (by omega))
  have HRS9 := Lib.hid (hon.blk HRS.out (by omega))
  have s9 : w.heap.size + 1 < w2.heap.size := by rw [hon.size]; exact s1
  clear hrdr hon HR HB HRS s1
  have HR := HR9
  have HB := HB9
  have HRS := HRS9
  have s1 := s9
  clear HR9 HB9 HRS9 s9
  go_wp2_with fail
  refine (num_two w.heap.size (w.heap.size + 1) 2 l _ (by omega) HR.out (by rw [HL.out]; omega) HX.out).mono ?_
  rintro e w3 ⟨he, hrdr, hon⟩
  rw [H2.out] at he
  subst he
  have HR9 := Lib.hid hrdr
  have HB9 := Lib.hid (hon.from HB.out (by omega))
  have HRS9 := Lib.hid (hon.blk HRS.out (by omega))
  have s9 : w.heap.size + 1 < w3.heap.size := by rw [hon.size]; exact s1
  clear hrdr hon HR HB HRS s1
  have HR := HR9
  have HB := HB9
  have HRS := HRS9
  have s1 := s9
  clear HR9 HB9 HRS9 s9
  have HR9 := Lib.hid (HR.out.below ((Below.refl w3.heap.size w3).alloc (Nat.le_refl _) (.cells #[.int .i64 x0, .int .i64 x2, .int .u32 0, .int .u32 0, .int .i64 0, .int .i64 0, .int .i64 0, .slice none 0 0] 90)) (by omega) (by omega))
  have HB9 := Lib.hid (HB.out.alloc (by omega) (.cells #[.int .i64 x0, .int .i64 x2, .int .u32 0, .int .u32 0, .int .i64 0, .int .i64 0, .int .i64 0, .slice none 0 0] 90))
  have HRS9 := Lib.hid (HRS.out.alloc (.cells #[.int .i64 x0, .int .i64 x2, .int .u32 0, .int .u32 0, .int .i64 0, .int .i64 0, .int .i64 0, .slice none 0 0] 90))
  have HH := Lib.hid (Blk.new w3 90 #[.int .i64 x0, .int .i64 x2, .int .u32 0, .int .u32 0, .int .i64 0, .int .i64 0, .int .i64 0, .slice none 0 0])
  have s9 : w3.heap.size < (w3.alloc (.cells #[.int .i64 x0, .int .i64 x2, .int .u32 0, .int .u32 0, .int .i64 0, .int .i64 0, .int .i64 0, .slice none 0 0] 90)).heap.size := by simp
  have s10 := s1
  clear HR HB HRS s1
  go_wp2_with fail
  generalize hh : w3.heap.size = h at *
  clear hh
  generalize w3.alloc (.cells #[.int .i64 x0, .int .i64 x2, .int .u32 0, .int .u32 0, .int .i64 0, .int .i64 0, .int .i64 0, .slice none 0 0] 90) = w4 at *
  have HR := HR9
  have HB := HB9
  have HRS := HRS9
  have s1 := s9
  clear HR9 HB9 HRS9 s9
  refine (num_four w.heap.size (w.heap.size + 1) 4 l _ (by omega) HR.out (by rw [HL.out]; omega) HX.out).mono ?_
  rintro e w5 ⟨he, hrdr, hon⟩
  rw [H4.out] at he
  subst he
  have HR9 := Lib.hid hrdr
  have HB9 := Lib.hid (hon.from HB.out (by omega))
  have HRS9 := Lib.hid (hon.blk HRS.out (by omega))
  have HH9 := Lib.hid (hon.blk HH.out (by omega))
  have s9 : h < w5.heap.size := by rw [hon.size]; exact s1
  clear hrdr hon HR HB HRS s1 HH
  have HR := HR9
  have HB := HB9
  have HRS := HRS9
  have s1 := s9
  have HH := HH9
  clear HH9
  clear HR9 HB9 HRS9 s9
  go_wp2_with fail
  refine (num_four w.heap.size (w.heap.size + 1) 8 l _ (by omega) HR.out (by rw [HL.out]; omega) HX.out).mono ?_
  rintro e w6 ⟨he, hrdr, hon⟩
  rw [H8.out] at he
  subst he
  have HR9 := Lib.hid hrdr
  have HB9 := Lib.hid (hon.from HB.out (by omega))
  have HRS9 := Lib.hid (hon.blk HRS.out (by omega))
  have HH9 := Lib.hid (hon.blk HH.out (by omega))
  have s9 : h < w6.heap.size := by rw [hon.size]; exact s1
  clear hrdr hon HR HB HRS s1 HH
  have HR := HR9
  have HB := HB9
  have HRS := HRS9
  have s1 := s9
  have HH := HH9
  clear HH9
  clear HR9 HB9 HRS9 s9
  have o2 : w6.cell? ⟨h, 2, none⟩ = some (.int .u32 0) := HH.out.cell 2
  have g2 : w6.frozen? ⟨h, 2, none⟩ = false := HH.out.frozen 2
  have o3 : w6.cell? ⟨h, 3, none⟩ = some (.int .u32 0) := HH.out.cell 3
  have g3 : w6.frozen? ⟨h, 3, none⟩ = false := HH.out.frozen 3
  have HH9 := Lib.hid ((HH.out.set_ 2 (.int .u32 x4)).set_ 3 (.int .u32 x8))
  have HRS9 := Lib.hid ((HRS.out.far (p := ⟨h, 2, none⟩) (show w.heap.size ≠ h by omega) (.int .u32 x4)).far (p := ⟨h, 3, none⟩) (show w.heap.size ≠ h by omega) (.int .u32 x8))
  have HB9 := Lib.hid ((HB.out.setCell (p := ⟨h, 2, none⟩) (show w.heap.size ≤ h by omega) (.int .u32 x4)).setCell (p := ⟨h, 3, none⟩) (show w.heap.size ≤ h by omega) (.int .u32 x8))
  have v4 := V4.out
  have v8 := V8.out
  go_wp2_with fail
  clear v4 v8
  have HR9 := Lib.hid (HR.out.below (((Below.refl h w6).setCell (p := ⟨h, 2, none⟩) (Nat.le_refl h) (.int .u32 x4)).setCell (p := ⟨h, 3, none⟩) (Nat.le_refl h) (.int .u32 x8)) (by omega) (by omega))
  have s9 : h < ((w6.setCell ⟨h, 2, none⟩ (.int .u32 x4)).setCell ⟨h, 3, none⟩ (.int .u32 x8)).heap.size := by simpa using s1
  clear HR HB HRS HH s1 o2 g2 o3 g3
  generalize ((w6.setCell ⟨h, 2, none⟩ (.int .u32 x4)).setCell ⟨h, 3, none⟩ (.int .u32 x8)) = w7 at *
  have HR := HR9
  have HB := HB9
  have HRS := HRS9
  have HH := HH9
  have s1 := s9
  clear HR9 HB9 HRS9 HH9 s9
  refine (num_one w.heap.size (w.heap.size + 1) 12 l _ (by omega) HR.out (by rw [HL.out]; omega) HX.out).mono ?_
  rintro e w8 ⟨he, hrdr, hon⟩
  subst he
  have HR9 := Lib.hid hrdr
  have HB9 := Lib.hid (hon.from HB.out (by omega))
  have HRS9 := Lib.hid (hon.blk HRS.out (by omega))
  have HH9 := Lib.hid (hon.blk HH.out (by omega))
  have s9 : h < w8.heap.size := by rw [hon.size]; exact s1
  clear hrdr hon HR HB HRS s1 HH
  have HR := HR9
  have HB := HB9
  have HRS := HRS9
  have s1 := s9
  have HH := HH9
  clear HH9
  clear HR9 HB9 HRS9 s9
  generalize l.getD 12 0 = x12 at *
  go_wp2_with fail
  refine (num_one w.heap.size (w.heap.size + 1) 13 l _ (by omega) HR.out (by rw [HL.out]; omega) HX.out).mono ?_
  rintro e w9 ⟨he, hrdr, hon⟩
  rw [H13.out] at he
  subst he
  have HR9 := Lib.hid hrdr
  have HB9 := Lib.hid (hon.from HB.out (by omega))
  have HRS9 := Lib.hid (hon.blk HRS.out (by omega))
  have HH9 := Lib.hid (hon.blk HH.out (by omega))
  have s9 : h < w9.heap.size := by rw [hon.size]; exact s1
  clear hrdr hon HR HB HRS s1 HH
  have HR := HR9
  have HB := HB9
  have HRS := HRS9
  have s1 := s9
  have HH := HH9
  clear HH9
  clear HR9 HB9 HRS9 s9
  go_wp2_with fail
  refine (num_two w.heap.size (w.heap.size + 1) 14 l _ (by omega) HR.out (by rw [HL.out]; omega) HX.out).mono ?_
  rintro e w10 ⟨he, hrdr, hon⟩
  rw [H14.out] at he
  subst he
  have HR9 := Lib.hid hrdr
  have HB9 := Lib.hid (hon.from HB.out (by omega))
  have HRS9 := Lib.hid (hon.blk HRS.out (by omega))
  have HH9 := Lib.hid (hon.blk HH.out (by omega))
  have s9 : h < w10.heap.size := by rw [hon.size]; exact s1
  clear hrdr hon HR HB HRS s1 HH
  have HR := HR9
  have HB := HB9
  have HRS := HRS9
  have s1 := s9
  have HH := HH9
  clear HH9
  clear HR9 HB9 HRS9 s9
  have o4 : w10.cell? ⟨h, 4, none⟩ = some (.int .i64 0) := HH.out.cell 4
  have g4 : w10.frozen? ⟨h, 4, none⟩ = false := HH.out.frozen 4
  have o5 : w10.cell? ⟨h, 5, none⟩ = some (.int .i64 0) := HH.out.cell 5
  have g5 : w10.frozen? ⟨h, 5, none⟩ = false := HH.out.frozen 5
  have HH9 := Lib.hid ((HH.out.set_ 4 (.int .i64 x13)).set_ 5 (.int .i64 x14))
  have HRS9 := Lib.hid ((HRS.out.far (p := ⟨h, 4, none⟩) (show w.heap.size ≠ h by omega) (.int .i64 x13)).far (p := ⟨h, 5, none⟩) (show w.heap.size ≠ h by omega) (.int .i64 x14))
  have HB9 := Lib.hid ((HB.out.setCell (p := ⟨h, 4, none⟩) (show w.heap.size ≤ h by omega) (.int .i64 x13)).setCell (p := ⟨h, 5, none⟩) (show w.heap.size ≤ h by omega) (.int .i64 x14))
  go_wp2_with fail
  have HR9 := Lib.hid (HR.out.below (((Below.refl h w10).setCell (p := ⟨h, 4, none⟩) (Nat.le_refl h) (.int .i64 x13)).setCell (p := ⟨h, 5, none⟩) (Nat.le_refl h) (.int .i64 x14)) (by omega) (by omega))
  have s9 : h < ((w10.setCell ⟨h, 4, none⟩ (.int .i64 x13)).setCell ⟨h, 5, none⟩ (.int .i64 x14)).heap.size := by simpa using s1
  clear HR HB HRS HH s1 o4 g4 o5 g5
  generalize ((w10.setCell ⟨h, 4, none⟩ (.int .i64 x13)).setCell ⟨h, 5, none⟩ (.int .i64 x14)) = w11 at *
  have HR := HR9
  have HB := HB9
  have HRS := HRS9
  have HH := HH9
  have s1 := s9
  clear HR9 HB9 HRS9 HH9 s9
  refine (num_two w.heap.size (w.heap.size + 1) 16 l _ (by omega) HR.out (by rw [HL.out]; omega) HX.out).mono ?_
  rintro e w12 ⟨he, hrdr, hon⟩
  subst he
  have HR9 := Lib.hid hrdr
  have HB9 := Lib.hid (hon.from HB.out (by omega))
  have HRS9 := Lib.hid (hon.blk HRS.out (by omega))
  have HH9 := Lib.hid (hon.blk HH.out (by omega))
  have s9 : h < w12.heap.size := by rw [hon.size]; exact s1
  clear hrdr hon HR HB HRS s1 HH
  have HR := HR9
  have HB := HB9
  have HRS := HRS9
  have s1 := s9
  have HH := HH9
  clear HH9
  clear HR9 HB9 HRS9 s9
  generalize w16 l 16 = x16 at *
  go_wp2_with fail
  refine (num_two w.heap.size (w.heap.size + 1) 18 l _ (by omega) HR.out (by rw [HL.out]; omega) HX.out).mono ?_
  rintro e w13 ⟨he, hrdr, hon⟩
  rw [H18.out] at he
  subst he
  have HR9 := Lib.hid hrdr
  have HB9 := Lib.hid (hon.from HB.out (by omega))
  have HRS9 := Lib.hid (hon.blk HRS.out (by omega))
  have HH9 := Lib.hid (hon.blk HH.out (by omega))
  have s9 : h < w13.heap.size := by rw [hon.size]; exact s1
  clear hrdr hon HR HB HRS s1 HH
  have HR := HR9
  have HB := HB9
  have HRS := HRS9
  have s1 := s9
  have HH := HH9
  clear HH9
  clear HR9 HB9 HRS9 s9
  have o6 : w13.cell? ⟨h, 6, none⟩ = some (.int .i64 0) := HH.out.cell 6
  have g6 : w13.frozen? ⟨h, 6, none⟩ = false := HH.out.frozen 6
  have HH9 := Lib.hid (HH.out.set_ 6 (.int .i64 x18))
  have HRS9 := Lib.hid (HRS.out.far (p := ⟨h, 6, none⟩) (show w.heap.size ≠ h by omega) (.int .i64 x18))
  have HB9 := Lib.hid (HB.out.setCell (p := ⟨h, 6, none⟩) (show w.heap.size ≤ h by omega) (.int .i64 x18))
  go_wp2_with fail
  have HR9 := Lib.hid (HR.out.below ((Below.refl h w13).setCell (p := ⟨h, 6, none⟩) (Nat.le_refl h) (.int .i64 x18)) (by omega) (by omega))
  have s9 : h < (w13.setCell ⟨h, 6, none⟩ (.int .i64 x18)).heap.size := by simpa using s1
  clear HR HB HRS HH s1 o6 g6
  generalize (w13.setCell ⟨h, 6, none⟩ (.int .i64 x18)) = w14 at *
  have HR := HR9
  have HB := HB9
  have HRS := HRS9
  have HH := HH9
  have s1 := s9
  clear HR9 HB9 HRS9 HH9 s9
  refine (rest_any w.heap.size (w.heap.size + 1) (l.drop 20) _ (by omega) HR.out (by rw [HLD.out]; omega)).mono ?_
  rintro e w16 ⟨v, w15, rfl, hon, hown, hbel⟩
  rw [HLD.out] at hown
  obtain ⟨A, c9, rfl⟩ := own_slice hown
  have hnn := own_none hown
  have sz : w15.heap.size = w14.heap.size := hon.size
  have HH9 := Lib.hid ((hon.blk HH.out (by omega)).below hbel (by omega))
  have HRS9 := Lib.hid ((hon.blk HRS.out (by omega)).below hbel (by omega))
  have HB9 := Lib.hid ((hon.from HB.out (by omega)).trans (hbel.mono (by omega)))
  have HOW := Lib.hid (own_base hown (show h + 1 ≤ w15.heap.size by omega))
  have HNN := Lib.hid hnn
  clear hon hown hbel hnn HH HRS HB HR sz
  have o7 : w16.cell? ⟨h, 7, none⟩ = some (.slice none 0 0) := HH9.out.cell 7
  have g7 : w16.frozen? ⟨h, 7, none⟩ = false := HH9.out.frozen 7
  have o0 : w16.cell? ⟨h, 0, none⟩ = some (.int .i64 x0) := HH9.out.cell 0
  have o1 : w16.cell? ⟨h, 1, none⟩ = some (.int .i64 x2) := HH9.out.cell 1
  have o2 : w16.cell? ⟨h, 2, none⟩ = some (.int .u32 x4) := HH9.out.cell 2
  have o3 : w16.cell? ⟨h, 3, none⟩ = some (.int .u32 x8) := HH9.out.cell 3
  have o4 : w16.cell? ⟨h, 4, none⟩ = some (.int .i64 x13) := HH9.out.cell 4
  have o5 : w16.cell? ⟨h, 5, none⟩ = some (.int .i64 x14) := HH9.out.cell 5
  have o6 : w16.cell? ⟨h, 6, none⟩ = some (.int .i64 x18) := HH9.out.cell 6
  have r0 : w16.cell? ⟨w.heap.size, 0, none⟩ = some (.int .i64 0) := HRS9.out.cell 0
  have q0 : w16.frozen? ⟨w.heap.size, 0, none⟩ = false := HRS9.out.frozen 0
  have r1 : w16.cell? ⟨w.heap.size, 1, none⟩ = some (.int .i64 0) := HRS9.out.cell 1
  have q1 : w16.frozen? ⟨w.heap.size, 1, none⟩ = false := HRS9.out.frozen 1
  have r2 : w16.cell? ⟨w.heap.size, 2, none⟩ = some (.int .u32 0) := HRS9.out.cell 2
  have q2 : w16.frozen? ⟨w.heap.size, 2, none⟩ = false := HRS9.out.frozen 2
  have r3 : w16.cell? ⟨w.heap.size, 3, none⟩ = some (.int .u32 0) := HRS9.out.cell 3
  have q3 : w16.frozen? ⟨w.heap.size, 3, none⟩ = false := HRS9.out.frozen 3
  have r4 : w16.cell? ⟨w.heap.size, 4, none⟩ = some (.int .i64 0) := HRS9.out.cell 4
  have q4 : w16.frozen? ⟨w.heap.size, 4, none⟩ = false := HRS9.out.frozen 4
  have r5 : w16.cell? ⟨w.heap.size, 5, none⟩ = some (.int .i64 0) := HRS9.out.cell 5
  have q5 : w16.frozen? ⟨w.heap.size, 5, none⟩ = false := HRS9.out.frozen 5
  have r6 : w16.cell? ⟨w.heap.size, 6, none⟩ = some (.int .i64 0) := HRS9.out.cell 6
  have q6 : w16.frozen? ⟨w.heap.size, 6, none⟩ = false := HRS9.out.frozen 6
  have r7 : w16.cell? ⟨w.heap.size, 7, none⟩ = some (.slice none 0 0) := HRS9.out.cell 7
  have q7 : w16.frozen? ⟨w.heap.size, 7, none⟩ = false := HRS9.out.frozen 7
  have ne1 : ¬ h = w.heap.size := by omega
  have ne2 : ¬ w.heap.size = h := by omega
  go_wp2_with fail
  have hrs := (show Blk _ _ 90 #[.int .i64 x0, .int .i64 x2, .int .u32 x4, .int .u32 x8, .int .i64 x13, .int .i64 x14, .int .i64 x18, .slice A (n - 20) c9] from (show Blk _ _ 90 #[.int .i64 x0, .int .i64 x2, .int .u32 x4, .int .u32 x8, .int .i64 x13, .int .i64 x14, .int .i64 x18, .slice none 0 0] from (show Blk _ _ 90 #[.int .i64 x0, .int .i64 x2, .int .u32 x4, .int .u32 x8, .int .i64 x13, .int .i64 x14, .int .i64 0, .slice none 0 0] from (show Blk _ _ 90 #[.int .i64 x0, .int .i64 x2, .int .u32 x4, .int .u32 x8, .int .i64 x13, .int .i64 0, .int .i64 0, .slice none 0 0] from (show Blk _ _ 90 #[.int .i64 x0, .int .i64 x2, .int .u32 x4, .int .u32 x8, .int .i64 0, .int .i64 0, .int .i64 0, .slice none 0 0] from (show Blk _ _ 90 #[.int .i64 x0, .int .i64 x2, .int .u32 x4, .int .u32 0, .int .i64 0, .int .i64 0, .int .i64 0, .slice none 0 0] from (show Blk _ _ 90 #[.int .i64 x0, .int .i64 x2, .int .u32 0, .int .u32 0, .int .i64 0, .int .i64 0, .int .i64 0, .slice none 0 0] from (show Blk _ _ 90 #[.int .i64 x0, .int .i64 0, .int .u32 0, .int .u32 0, .int .i64 0, .int .i64 0, .int .i64 0, .slice none 0 0] from (HRS9.out.far (p := ⟨h, 7, none⟩) (show w.heap.size ≠ h by omega) (.slice A (n - 20) c9)).set_ 0 (.int .i64 x0)).set_ 1 (.int .i64 x2)).set_ 2 (.int .u32 x4)).set_ 3 (.int .u32 x8)).set_ 4 (.int .i64 x13)).set_ 5 (.int .i64 x14)).set_ 6 (.int .i64 x18)).set_ 7 (.slice A (n - 20) c9))
  have HBW := Lib.hid (((((((((HB9.out.setCell (p := ⟨h, 7, none⟩) (show w.heap.size ≤ h by omega) (.slice A (n - 20) c9)).setCell (p := ⟨w.heap.size, 0, none⟩) (Nat.le_refl _) (.int .i64 x0)).setCell (p := ⟨w.heap.size, 1, none⟩) (Nat.le_refl _) (.int .i64 x2)).setCell (p := ⟨w.heap.size, 2, none⟩) (Nat.le_refl _) (.int .u32 x4)).setCell (p := ⟨w.heap.size, 3, none⟩) (Nat.le_refl _) (.int .u32 x8)).setCell (p := ⟨w.heap.size, 4, none⟩) (Nat.le_refl _) (.int .i64 x13)).setCell (p := ⟨w.heap.size, 5, none⟩) (Nat.le_refl _) (.int .i64 x14)).setCell (p := ⟨w.heap.size, 6, none⟩) (Nat.le_refl _) (.int .i64 x18)).setCell (p := ⟨w.heap.size, 7, none⟩) (Nat.le_refl _) (.slice A (n - 20) c9))
  have HOF := Lib.hid (own_base (own_far (own_far (own_far (own_far (own_far (own_far (own_far (own_far (own_far HOW.out ⟨h, 7, none⟩ (Nat.lt_succ_self h) (.slice A (n - 20) c9)) ⟨w.heap.size, 0, none⟩ (show w.heap.size < h + 1 by omega) (.int .i64 x0)) ⟨w.heap.size, 1, none⟩ (show w.heap.size < h + 1 by omega) (.int .i64 x2)) ⟨w.heap.size, 2, none⟩ (show w.heap.size < h + 1 by omega) (.int .u32 x4)) ⟨w.heap.size, 3, none⟩ (show w.heap.size < h + 1 by omega) (.int .u32 x8)) ⟨w.heap.size, 4, none⟩ (show w.heap.size < h + 1 by omega) (.int .i64 x13)) ⟨w.heap.size, 5, none⟩ (show w.heap.size < h + 1 by omega) (.int .i64 x14)) ⟨w.heap.size, 6, none⟩ (show w.heap.size < h + 1 by omega) (.int .i64 x18)) ⟨w.heap.size, 7, none⟩ (show w.heap.size < h + 1 by omega) (.slice A (n - 20) c9)) (show w.heap.size ≤ h + 1 by omega))
  clear o0 o1 o2 o3 o4 o5 o6 o7 g7 r0 q0 r1 q1 r2 q2 r3 q3 r4 q4 r5 q5 r6 q6 r7 q7
  generalize (((((((((w16.setCell ⟨h, 7, none⟩ (.slice A (n - 20) c9)).setCell ⟨w.heap.size, 0, none⟩ (.int .i64 x0)).setCell ⟨w.heap.size, 1, none⟩ (.int .i64 x2)).setCell ⟨w.heap.size, 2, none⟩ (.int .u32 x4)).setCell ⟨w.heap.size, 3, none⟩ (.int .u32 x8)).setCell ⟨w.heap.size, 4, none⟩ (.int .i64 x13)).setCell ⟨w.heap.size, 5, none⟩ (.int .i64 x14)).setCell ⟨w.heap.size, 6, none⟩ (.int .i64 x18)).setCell ⟨w.heap.size, 7, none⟩ (.slice A (n - 20) c9)) = WW at *
  have z0 : WW.cell? ⟨w.heap.size, 0, none⟩ = some (.int .i64 x0) := hrs.cell 0
  have z1 : WW.cell? ⟨w.heap.size, 1, none⟩ = some (.int .i64 x2) := hrs.cell 1
  have z2 : WW.cell? ⟨w.heap.size, 2, none⟩ = some (.int .u32 x4) := hrs.cell 2
  have z3 : WW.cell? ⟨w.heap.size, 3, none⟩ = some (.int .u32 x8) := hrs.cell 3
  have z4 : WW.cell? ⟨w.heap.size, 4, none⟩ = some (.int .i64 x13) := hrs.cell 4
  have z5 : WW.cell? ⟨w.heap.size, 5, none⟩ = some (.int .i64 x14) := hrs.cell 5
  have z6 : WW.cell? ⟨w.heap.size, 6, none⟩ = some (.int .i64 x18) := hrs.cell 6
  have z7 : WW.cell? ⟨w.heap.size, 7, none⟩ = some (.slice A (n - 20) c9) := hrs.cell 7
  clear hrs
  exact bodyPost_ret (v := .agg #[.int .i64 x0, .int .i64 x2, .int .u32 x4, .int .u32 x8, .int .i64 x13, .int .i64 x14, .int .i64 x18, .slice A (n - 20) c9]) (by simp [results, Try.results86, go_sem, z0, z1, z2, z3, z4, z5, z6, z7]) rfl ⟨A, n - 20, c9, by rw [H0.out, H2.out, H4.out, H8.out, H13.out, H14.out, H18.out], by rw [HL.out], HNN.out, HOF.out, HBW.out⟩
end Go.Proofs.Ytndekicblbpkjaa.tcpC
