/- Layer 12: a message as bytes. -/
import Derived.Test.YtgikoljnmmnkkaaIcmpD
namespace Go.Proofs.Ytgikoljnmmnkkaa.icmpE
open Go.ChangeShapes Go.WideShapes Go.ChangeAt Go.RowKit
open Go.Proofs.Ytgikoljnmmnkkaa.base Go.Proofs.Ytgikoljnmmnkkaa.sumA Go.Proofs.Ytgikoljnmmnkkaa.sumB Go.Proofs.Ytgikoljnmmnkkaa.octA Go.Proofs.Ytgikoljnmmnkkaa.octB Go.Proofs.Ytgikoljnmmnkkaa.octC Go.Proofs.Ytgikoljnmmnkkaa.octD Go.Proofs.Ytgikoljnmmnkkaa.octE Go.Proofs.Ytgikoljnmmnkkaa.octF Go.Proofs.Ytgikoljnmmnkkaa.octK Go.Proofs.Ytgikoljnmmnkkaa.rdrA Go.Proofs.Ytgikoljnmmnkkaa.udpA Go.Proofs.Ytgikoljnmmnkkaa.tcpC Go.Proofs.Ytgikoljnmmnkkaa.net Go.Proofs.Ytgikoljnmmnkkaa.icmpA Go.Proofs.Ytgikoljnmmnkkaa.icmpC Go.Proofs.Ytgikoljnmmnkkaa.icmpD
set_option linter.unusedVariables false

def okM (ty co : Int) : Prop := (0 ≤ ty ∧ ty ≤ 255) ∧ 0 ≤ co ∧ co ≤ 255
/-- A message's bytes. -/
def mk (ty co wd ck : Int) (pl : List Int) : List Int := [ty, co, ck / 256, ck % 256, wd / 65536 / 256, wd / 65536 % 256, wd % 65536 / 256, wd % 65536 % 256] ++ pl
theorem mk_len (ty co wd ck : Int) (pl : List Int) : (mk ty co wd ck pl).length = 8 + pl.length := by simp [mk]; omega
theorem mk_in (ty co wd ck : Int) (pl : List Int) (h : okM ty co) (w0 : 0 ≤ wd) (w1 : wd ≤ 4294967295) (c0 : 0 ≤ ck) (c1 : ck ≤ 65535) (hp : ∀ x ∈ pl, 0 ≤ x ∧ x ≤ 255) : ∀ x ∈ mk ty co wd ck pl, 0 ≤ x ∧ x ≤ 255 := by
  obtain ⟨⟨a, b⟩, c, d⟩ := h
  intro x hx
  unfold mk at hx
  rw [List.mem_append] at hx
  rcases hx with hx | hx
  · simp only [List.mem_cons, List.not_mem_nil, or_false] at hx
    rcases hx with rfl | rfl | rfl | rfl | rfl | rfl | rfl | rfl <;> omega
  · exact hp x hx
theorem mk_says (ty co wd ck : Int) (pl : List Int) : (mk ty co wd ck pl).getD 0 0 = ty ∧ (mk ty co wd ck pl).getD 1 0 = co ∧ w32 (mk ty co wd ck pl) 4 = wd ∧ (mk ty co wd ck pl).drop 8 = pl := by
  refine ⟨rfl, rfl, ?_, rfl⟩
  show (wd / 65536 / 256 * 256 + wd / 65536 % 256) * 65536 + (wd % 65536 / 256 * 256 + wd % 65536 % 256) = wd
  omega
theorem mk_set (ty co wd ck : Int) (pl : List Int) : ((mk ty co wd 0 pl).set 2 (ck / 256)).set 3 (ck % 256) = mk ty co wd ck pl := rfl
theorem mk_put (ty co wd : Int) (pl : List Int) (h : okM ty co) (w0 : 0 ≤ wd) (w1 : wd ≤ 4294967295) : allb 1 [ty, co] ++ pb 0 2 2 ++ pb wd 4 4 ++ pl = mk ty co wd 0 pl := by
  obtain ⟨⟨a, b⟩, c, d⟩ := h
  simp only [allb, List.flatMap_cons, List.flatMap_nil]
  rw [Go.Proofs.Ytgikoljnmmnkkaa.net.pb_one ty a b, Go.Proofs.Ytgikoljnmmnkkaa.net.pb_one co c d, Go.Proofs.Ytgikoljnmmnkkaa.net.pb_two 0 (by omega) (by omega), Go.Proofs.Ytgikoljnmmnkkaa.net.pb_four wd w0 w1]
  rfl
theorem mk_splice (ty co wd ck : Int) (pl : List Int) (c0 : 0 ≤ ck) (c1 : ck ≤ 65535) : splice (mk ty co wd 0 pl) 2 (pb ck 2 2) = mk ty co wd ck pl := by
  rw [Go.Proofs.Ytgikoljnmmnkkaa.net.pb_two ck c0 c1]
  rfl
theorem wsum_mk (ty co wd ck : Int) (pl : List Int) (c0 : 0 ≤ ck) (c1 : ck ≤ 65535) : wsum (mk ty co wd ck pl) = wsum (mk ty co wd 0 pl) + ck := by
  unfold mk
  rw [Go.Proofs.Ytgikoljnmmnkkaa.net.wsum_app 4 _ pl rfl, Go.Proofs.Ytgikoljnmmnkkaa.net.wsum_app 4 _ pl rfl]
  simp only [wsum]
  omega
theorem chk_right (ty co wd : Int) (pl ps : List Int) (he : ps.length % 2 = 0) (hin : ∀ x ∈ ps ++ mk ty co wd 0 pl, 0 ≤ x ∧ x ≤ 255) :
    fo (wsum (ps ++ mk ty co wd (65535 - fo (wsum (ps ++ mk ty co wd 0 pl))) pl)) = 65535 := by
  have s0 := (wsum_bd _ hin).1
  have b := fo_bd _ s0
  have e : ps.length = 2 * (ps.length / 2) := by omega
  rw [Go.Proofs.Ytgikoljnmmnkkaa.net.wsum_app _ _ _ e, wsum_mk ty co wd _ pl (by omega) (by omega), ← Int.add_assoc, ← Go.Proofs.Ytgikoljnmmnkkaa.net.wsum_app _ _ _ e]
  rcases Go.Proofs.Ytgikoljnmmnkkaa.net.fo_full _ s0 with h | h
  · exact h
  · rw [h]; simpa using h
theorem right_yes (ty co wd : Int) (A : Option Addr) (n c : Nat) (w : World) (h : okM ty co) :
    Calls Try.prog 17 #[.agg #[.int .i64 ty, .int .i64 co, .int .u32 wd, .slice A n c]] w fun e w' => e = .returned (.bool true) ∧ Below w.heap.size w w' := by
  obtain ⟨⟨a, b⟩, c', d⟩ := h
  go_enter Try.func17, Try.ntmps17
  go_wp2
  go_ret
  exact ⟨rfl, (Below.refl _ _).alloc (Nat.le_refl _) _⟩
theorem right_no (ty co wd : Int) (A : Option Addr) (n c : Nat) (w : World) (h : ¬ okM ty co) :
    Calls Try.prog 17 #[.agg #[.int .i64 ty, .int .i64 co, .int .u32 wd, .slice A n c]] w fun e w' => e = .returned (.bool false) ∧ Below w.heap.size w w' := by
  unfold okM at h
  by_cases h1 : 0 ≤ ty
  · by_cases h2 : ty ≤ 255
    · by_cases h3 : 0 ≤ co
      · have q : decide (co ≤ 255) = false := decide_eq_false (by omega)
        clear h
        go_enter Try.func17, Try.ntmps17
        go_wp2
        go_ret
        exact ⟨rfl, (Below.refl _ _).alloc (Nat.le_refl _) _⟩
      · have q : decide (0 ≤ co) = false := decide_eq_false h3
        clear h
        go_enter Try.func17, Try.ntmps17
        go_wp2
        go_ret
        exact ⟨rfl, (Below.refl _ _).alloc (Nat.le_refl _) _⟩
    · have q : decide (ty ≤ 255) = false := decide_eq_false h2
      clear h
      go_enter Try.func17, Try.ntmps17
      go_wp2
      go_ret
      exact ⟨rfl, (Below.refl _ _).alloc (Nat.le_refl _) _⟩
  · have q : decide (0 ≤ ty) = false := decide_eq_false h1
    clear h
    go_enter Try.func17, Try.ntmps17
    go_wp2
    go_ret
    exact ⟨rfl, (Below.refl _ _).alloc (Nat.le_refl _) _⟩
theorem bytes_wrong (ty co wd : Int) (A A2 : Option Addr) (n c n2 c2 : Nat) (w : World) (h : ¬ okM ty co) :
    Calls Try.prog 16 #[.agg #[.int .i64 ty, .int .i64 co, .int .u32 wd, .slice A n c], .slice A2 n2 c2] w fun e w' => e = .returned (.tuple #[.slice none 0 0, .int .i64 1]) ∧ Below w.heap.size w w' := by
  have HRT := Lib.hid (fun w => right_no ty co wd A n c w h)
  clear h
  go_enter Try.func16, Try.ntmps16
  go_wp2_with fail
  refine (HRT.out _).mono ?_
  rintro e w1 ⟨rfl, hb⟩
  have HB := Lib.hid (((Below.refl w.heap.size w).alloc (Nat.le_refl _) (.cells #[.int .i64 ty, .int .i64 co, .int .u32 wd, .slice A n c] 26)).trans (hb.mono (by simp)))
  clear hb
  go_wp2_with fail
  go_ret2
  exact ⟨rfl, HB.out⟩
def BPost (w : World) (l : List Int) (e : Ending) (w' : World) : Prop :=
  ∃ v, e = .returned (.tuple #[v, .int .i64 0]) ∧ w'.ownsRow w.heap.size 5 1 v l.length (l.map (.int .u8)) ∧ Below w.heap.size w w'
set_option maxRecDepth 100000 in
set_option maxHeartbeats 4000000 in
theorem bytes_any (ty co wd : Int) (A A2 : Option Addr) (n c n2 c2 : Nat) (pl ps : List Int) (w : World) (h : okM ty co) (w0 : 0 ≤ wd) (w1 : wd ≤ 4294967295)
    (hl : pl.length = n) (hn : n ≤ 500) (hr : Row w w.heap.size A (pl.map (.int .u8))) (hz : A = none → c = 0) (hx : ∀ x ∈ pl, 0 ≤ x ∧ x ≤ 255)
    (pll : ps.length = n2) (pn : n2 ≤ 1000) (pr : Row w w.heap.size A2 (ps.map (.int .u8))) (px : ∀ x ∈ ps, 0 ≤ x ∧ x ≤ 255) :
    Calls Try.prog 16 #[.agg #[.int .i64 ty, .int .i64 co, .int .u32 wd, .slice A n c], .slice A2 n2 c2] w (BPost w (mk ty co wd (65535 - fo (wsum (ps ++ mk ty co wd 0 pl))) pl)) := by
  have HOK := Lib.hid h
  have HRT := Lib.hid (right_yes ty co wd A n c (w.alloc (.cells #[.int .i64 ty, .int .i64 co, .int .u32 wd, .slice A n c] 26)) h)
  have HSZ := Lib.hid (show (w.alloc (.cells #[.int .i64 ty, .int .i64 co, .int .u32 wd, .slice A n c] 26)).heap.size = w.heap.size + 1 by simp)
  have HB0 := Lib.hid (show Below w.heap.size w (w.alloc (.cells #[.int .i64 ty, .int .i64 co, .int .u32 wd, .slice A n c] 26)) from (Below.refl _ _).alloc (Nat.le_refl _) _)
  have BOX := Lib.hid (Blk.new w 26 #[.int .i64 ty, .int .i64 co, .int .u32 wd, .slice A n c])
  have HR := Lib.hid hr
  have HZ := Lib.hid hz
  have HX := Lib.hid hx
  have HL := Lib.hid hl
  have PR := Lib.hid pr
  have PX := Lib.hid px
  have PL := Lib.hid pll
  have ONE := Lib.hid (show ∀ l : List Int, ∀ u ∈ l.map (Value.int .u8), u.oneCell' = true from by
    intro l u hu
    rw [List.mem_map] at hu
    obtain ⟨x, _, rfl⟩ := hu
    rfl)
  obtain ⟨i0, hi0, hz0, hz1, hz2⟩ := info_parts info_u8
  have HI0 := Lib.hid hi0
  have HZ0 := Lib.hid hz0
  have HZ1 := Lib.hid hz1
  have HZ2 := Lib.hid hz2
  have HPUT := Lib.hid (mk_put ty co wd pl h w0 w1)
  have HU0 := Lib.hid (mk_in ty co wd 0 pl h w0 w1 (by omega) (by omega) hx)
  have HLEN := Lib.hid (show (mk ty co wd 0 pl).length = 8 + n by rw [mk_len, hl])
  have hfin : ∀ x ∈ ps ++ mk ty co wd 0 pl, 0 ≤ x ∧ x ≤ 255 := fun x hx => (List.mem_append.1 hx).elim (px x) (HU0.out x)
  have HFB := Lib.hid (fo_bd _ (wsum_bd _ hfin).1)
  have HSP := Lib.hid (mk_splice ty co wd (65535 - fo (wsum (ps ++ mk ty co wd 0 pl))) pl (by have := HFB.out; omega) (by have := HFB.out; omega))
  have HLN2 := Lib.hid (show (mk ty co wd (65535 - fo (wsum (ps ++ mk ty co wd 0 pl))) pl).length = 8 + n by rw [mk_len, hl])
  obtain ⟨⟨a, b⟩, c', d'⟩ := h
  have HU := Lib.hid (show IntKind.u64.wrap ty = ty ∧ IntKind.u64.wrap co = co ∧ IntKind.u64.wrap wd = wd by refine ⟨?_, ?_, ?_⟩ <;> (rw [IntKind.wrap_u64]; omega))
  have HQ := Lib.hid (show (0 ≤ ty ∧ ty < 18446744073709551616) ∧ (0 ≤ co ∧ co < 18446744073709551616) ∧ (0 ≤ wd ∧ wd < 18446744073709551616) by omega)
  have HS1 := Lib.hid (show hs 1 = 1 by decide)
  have HS2 := Lib.hid (show hs 2 = 2 by decide)
  have HS4 := Lib.hid (show hs 4 = 4 by decide)
  clear hr hz hx hl pr px pll hi0 hz0 hz1 hz2 hfin
  go_enter Try.func16, Try.ntmps16
  go_wp2_with fail
  refine HRT.out.mono ?_
  rintro e w1 ⟨rfl, hb⟩
  rw [HSZ.out] at hb
  have HB1 := Lib.hid hb
  clear hb
  have HV1 := Lib.hid (HB1.out.alloc (Nat.le_trans (Nat.le_of_eq HSZ.out.symm) HB1.out.size) (.cells #[.int .u64 ty, .int .u64 co] 39))
  have HW1 := Lib.hid (show (w1.alloc (.cells #[.int .u64 ty, .int .u64 co] 39)).ownsRow (w.heap.size + 1) 5 1 (.slice none 0 0) 0 [] from World.ownsRow_nil _ _ _ _)
  have hal1 := all_keep w1.heap.size #[.int .u64 ty, .int .u64 co] (.slice none 0 0) 0 [] 1 2 2 ([ty, co] : List Int) (w.heap.size + 1) (w.heap.size + 1) (w.alloc (.cells #[.int .i64 ty, .int .i64 co, .int .u32 wd, .slice A n c] 26)) (w1.alloc (.cells #[.int .u64 ty, .int .u64 co] 39)) HW1.out (Nat.le_trans (Nat.le_of_eq HSZ.out.symm) HV1.out.size) (by omega) HV1.out (Nat.le_refl _) rfl (Blk.new w1 39 #[.int .u64 ty, .int .u64 co]) rfl (by
    intro x hx
    simp only [List.mem_cons, List.not_mem_nil, or_false] at hx
    rcases hx with rfl | rfl <;> first | exact HQ.out.1 | exact HQ.out.2.1)
  rw [HS1.out] at hal1
  have HAL1 := Lib.hid hal1
  clear hal1 HV1 HW1
  have o0 : w1.cell? ⟨w.heap.size, 0, none⟩ = some (.int .i64 ty) := (HB1.out.cell (p := ⟨w.heap.size, 0, none⟩) (Nat.lt_succ_self _)).trans (BOX.out.cell 0)
  have o1 : w1.cell? ⟨w.heap.size, 1, none⟩ = some (.int .i64 co) := (HB1.out.cell (p := ⟨w.heap.size, 1, none⟩) (Nat.lt_succ_self _)).trans (BOX.out.cell 1)
  have u0 := HU.out.1
  have u1 := HU.out.2.1
  go_wp2_with fail
  clear u0 u1 o0 o1
  refine HAL1.out.mono ?_
  rintro e w2 ⟨v1, rfl, hown, hbel, hbs, _⟩
  have HP2 := Lib.hid (put_any v1 (0 + 1 * 2) _ 0 2 (w.heap.size + 1) (w.heap.size + 1) (w.alloc (.cells #[.int .i64 ty, .int .i64 co, .int .u32 wd, .slice A n c] 26)) w2 hown hbs (by omega) hbel (Nat.le_refl _) (by omega) (by omega))
  clear hown hbel hbs HAL1
  have hp2 := HP2.out
  rw [HS2.out] at hp2
  go_wp2_with fail
  refine hp2.mono ?_
  clear hp2 HP2
  rintro e w3 ⟨v2, rfl, hown, hbel, hbs⟩
  have hp3 := put_any v2 (0 + 1 * 2 + 2) _ wd 4 (w.heap.size + 1) (w.heap.size + 1) (w.alloc (.cells #[.int .i64 ty, .int .i64 co, .int .u32 wd, .slice A n c] 26)) w3 hown hbs (by omega) hbel (Nat.le_refl _) HQ.out.2.2.1 HQ.out.2.2.2
  rw [HS4.out] at hp3
  have HP3 := Lib.hid hp3
  have HBX := Lib.hid hbel
  clear hown hbel hbs hp3
  have o2 : w3.cell? ⟨w.heap.size, 2, none⟩ = some (.int .u32 wd) := (HBX.out.cell (p := ⟨w.heap.size, 2, none⟩) (Nat.lt_succ_self _)).trans (BOX.out.cell 2)
  have u2 := HU.out.2.2
  go_wp2_with fail
  clear u2 o2 HBX
  refine HP3.out.mono ?_
  clear HP3
  rintro e w4 ⟨v3, rfl, hown, hbel, hbs⟩
  have HO4 := Lib.hid hown
  have HB4 := Lib.hid hbel
  have SZ4 := Lib.hid hbs
  clear hown hbel hbs
  have o3 : w4.cell? ⟨w.heap.size, 3, none⟩ = some (.slice A n c) := (HB4.out.cell (p := ⟨w.heap.size, 3, none⟩) (Nat.lt_succ_self _)).trans (BOX.out.cell 3)
  have P1 := Lib.hid (show (0 + 1 * 2 + 2 + 4) + n ≤ maxLen by unfold maxLen; omega)
  have Q1 := Lib.hid (show ((0 + 1 * 2 + 2 + 4) + n) * 1 ≤ 140737488355328 by omega)
  have RO := Lib.hid (HR.out.below (HB0.out.trans (HB4.out.mono (Nat.le_succ _))))
  have EH := Lib.hid (show ((([] ++ (allb 1 [ty, co]).map (Value.int .u8)) ++ (pb 0 2 2).map (Value.int .u8)) ++ (pb wd 4 4).map (Value.int .u8)) ++ pl.map (Value.int .u8) = (mk ty co wd 0 pl).map (Value.int .u8) by rw [← HPUT.out]; simp only [List.map_append, List.nil_append])
  obtain ⟨N0, hN0⟩ : ∃ N0, N0 = 8 + n := ⟨_, rfl⟩
  have EM := Lib.hid (show (0 + 1 * 2 + 2 + 4) + n = N0 by omega)
  have HN0 := Lib.hid hN0
  have N8 : 8 ≤ N0 := by omega
  have N9 : N0 ≤ 508 := by omega
  clear hN0
  go_wp2_with (at_builtin; refine wpList_append_row rfl (.tmp 25) (.tmp 27) _ rfl (w.heap.size + 1) 5 i0 _ 1 Try.underlying22 HI0.out HZ0.out HZ1.out HZ2.out rfl v3 (0 + 1 * 2 + 2 + 4) ((([] ++ (allb 1 [ty, co]).map (Value.int .u8)) ++ (pb 0 2 2).map (Value.int .u8)) ++ (pb wd 4 4).map (Value.int .u8)) rfl HO4.out A n c w.heap.size (pl.map (.int .u8)) rfl HZ.out (by rw [List.length_map]; exact HL.out) RO.out (ONE.out _) P1.out Q1.out SZ4.out ?_; intro va wa owna ga; rw [EH.out, EM.out] at owna; obtain ⟨Aa, ca, rfl⟩ := own_slice owna; have HOa := Lib.hid owna; have HBa := Lib.hid (below_grown HB4.out HO4.out (Nat.le_refl _) SZ4.out ga); clear owna ga)
  have hoa := HOa.out
  have hza := own_none hoa
  have HBW := Lib.hid (HB0.out.trans (HBa.out.mono (Nat.le_succ _)))
  have hth := two (w := wa) (W := wa) (c1 := c2) (c2 := ca) PL.out (show (mk ty co wd 0 pl).length = N0 by rw [HLEN.out, HN0.out]) ((PR.out.below HBW.out).more HBW.out.size) (own_row hoa) PX.out HU0.out (Below.refl _ _) 22
  have efl : flat [⟨A2, c2, ps⟩, ⟨Aa, ca, mk ty co wd 0 pl⟩] = ps ++ mk ty co wd 0 pl := by simp [flat]
  have hck := Go.Proofs.Ytgikoljnmmnkkaa.sumC.check_any (some ⟨wa.heap.size, 0, none⟩) 2 2 _ (wa.alloc (.cells #[.slice A2 n2 c2, .slice Aa N0 ca] 22)) (wa.heap.size + 1) rfl (by omega) (by rw [efl, List.length_append, PL.out, HLEN.out]; omega) hth.1 hth.2
  rw [efl] at hck
  have HCK := Lib.hid hck
  have HBX := Lib.hid (HBW.out.alloc HBW.out.size (.cells #[.slice A2 n2 c2, .slice Aa N0 ca] 22))
  have HRX := Lib.hid (own_row (hoa.alloc (.cells #[.slice A2 n2 c2, .slice Aa N0 ca] 22)))
  have HZA := Lib.hid hza
  clear hth efl hck hza hoa o3 SZ4 P1 Q1 RO
  refine HCK.out.mono ?_
  rintro e wk ⟨rfl, rfl⟩
  have HSET := Lib.hid (set_yes Aa N0 ca (mk ty co wd 0 pl) 2 2 (65535 - fo (wsum (ps ++ mk ty co wd 0 pl))) (wa.alloc (.cells #[.slice A2 n2 c2, .slice Aa N0 ca] 22)) (by rw [HLEN.out, HN0.out]) (by omega) HZA.out HRX.out (by omega) (by omega) (by have := HFB.out; omega) (by have := HFB.out; omega))
  have HFC := Lib.hid (show IntKind.u64.wrap (65535 - fo (wsum (ps ++ mk ty co wd 0 pl))) = (65535 - fo (wsum (ps ++ mk ty co wd 0 pl))) by have := HFB.out; rw [IntKind.wrap_u64]; omega)
  generalize hckk : (65535 - fo (wsum (ps ++ mk ty co wd 0 pl))) = ck at *
  have HCKK := Lib.hid hckk
  clear hckk
  generalize mk ty co wd 0 pl = H at *
  have hfc := HFC.out
  generalize wa.alloc (.cells #[.slice A2 n2 c2, .slice Aa N0 ca] 22) = X at *
  go_wp2_with fail
  clear hfc
  refine HSET.out.mono ?_
  rintro e w9 ⟨vs, rfl, hown, hbel, hsz⟩
  rw [HSP.out] at hown
  rw [HN0.out, ← HLN2.out] at hown
  have HOF := Lib.hid (own_base hown HBX.out.size)
  have HBF := Lib.hid (HBX.out.trans (hbel.mono HBX.out.size))
  clear hown hbel hsz
  go_wp2_with fail
  go_ret2
  exact ⟨_, rfl, HOF.out, HBF.out⟩
end Go.Proofs.Ytgikoljnmmnkkaa.icmpE
