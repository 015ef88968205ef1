/- Layer 8: the law's bytes of a packet. -/
import Derived.Test.YtgikoljnmmnkkaaFourC
import Derived.Test.YtgikoljnmmnkkaaApp
namespace Go.Proofs.Ytgikoljnmmnkkaa.fourD
open Go.ChangeShapes Go.WideShapes Go.ChangeAt Go.RowKit
open Go.Proofs.Ytgikoljnmmnkkaa.base Go.Proofs.Ytgikoljnmmnkkaa.sumA Go.Proofs.Ytgikoljnmmnkkaa.sumB Go.Proofs.Ytgikoljnmmnkkaa.octA Go.Proofs.Ytgikoljnmmnkkaa.octB Go.Proofs.Ytgikoljnmmnkkaa.octC Go.Proofs.Ytgikoljnmmnkkaa.octE Go.Proofs.Ytgikoljnmmnkkaa.octF Go.Proofs.Ytgikoljnmmnkkaa.octK Go.Proofs.Ytgikoljnmmnkkaa.rdrA Go.Proofs.Ytgikoljnmmnkkaa.udpA Go.Proofs.Ytgikoljnmmnkkaa.tcpC Go.Proofs.Ytgikoljnmmnkkaa.net Go.Proofs.Ytgikoljnmmnkkaa.fourA Go.Proofs.Ytgikoljnmmnkkaa.fourB Go.Proofs.Ytgikoljnmmnkkaa.fourC
set_option linter.unusedVariables false

set_option maxRecDepth 100000 in
theorem two_any (v : Value) (m : Nat) (xs : List Value) (x : Int) (base B : Nat) (a w : World) (hown : w.ownsRow base 5 1 v m xs) (hbase : base ≤ w.heap.size) (hm : m ≤ 1000000) (hbel : Below B a w) (hB : B ≤ base) (x0 : 0 ≤ x) (x1 : x ≤ 65535) :
    Calls Try.prog 65 #[v, .int .i64 x] w (PutPost base B a m 2 xs [x / 256, x % 256]) := by
  obtain ⟨i0, hi0, hz0, hz1, hz2⟩ := info_parts info_u8
  have HI0 := Lib.hid hi0
  have HZ0 := Lib.hid hz0
  have HZ1 := Lib.hid hz1
  have HZ2 := Lib.hid hz2
  have a1 : IntKind.u8.wrap (x / 256) = x / 256 := by rw [IntKind.wrap_u8]; omega
  have a2 : IntKind.u8.wrap (x % 256) = x % 256 := by rw [IntKind.wrap_u8]; omega
  have HO := Lib.hid (hown.alloc (.cells #[.int .u8 (x / 256), .int .u8 (x % 256)] 5))
  have HBE := Lib.hid (hbel.alloc (Nat.le_trans hB hbase) (.cells #[.int .u8 (x / 256), .int .u8 (x % 256)] 5))
  have HRW := Lib.hid (show Row (w.alloc (.cells #[.int .u8 (x / 256), .int .u8 (x % 256)] 5)) (w.heap.size + 1) (some ⟨w.heap.size, 0, none⟩) [.int .u8 (x / 256), .int .u8 (x % 256)] from (Go.Proofs.Ytgikoljnmmnkkaa.sumC.row_blk (Blk.new w 5 #[.int .u8 (x / 256), .int .u8 (x % 256)])).more (by simp))
  have ONE := Lib.hid (show ∀ u ∈ [Value.int .u8 (x / 256), Value.int .u8 (x % 256)], u.oneCell' = true from by intro u hu; simp at hu; rcases hu with rfl | rfl <;> rfl)
  have M1 := Lib.hid (show m + 2 ≤ maxLen by unfold maxLen; omega)
  have M2 := Lib.hid (show (m + 2) * 1 ≤ 140737488355328 by omega)
  have M3 := Lib.hid (show base ≤ (w.alloc (.cells #[.int .u8 (x / 256), .int .u8 (x % 256)] 5)).heap.size by simp; omega)
  clear hi0 hz0 hz1 hz2 hown hbel
  go_enter Try.func65, Try.ntmps65
  go_wp2_with (at_builtin; refine wpList_append_row rfl (.tmp 5) (.tmp 12) _ rfl base 5 i0 _ 1 Try.underlying22 HI0.out HZ0.out HZ1.out HZ2.out rfl v m xs rfl HO.out (some ⟨w.heap.size, 0, none⟩) 2 2 (w.heap.size + 1) [.int .u8 (x / 256), .int .u8 (x % 256)] rfl (by intro h; cases h) rfl HRW.out ONE.out M1.out M2.out M3.out ?_; intro va wa owna ga; have HOa := Lib.hid owna; have HBa := Lib.hid (below_grown HBE.out HO.out hB (Nat.le_trans hB M3.out) ga); have HSa := Lib.hid (Nat.le_trans M3.out ga.size); clear owna ga)
  go_ret
  exact ⟨_, rfl, HOa.out, HBa.out, HSa.out⟩
/-- A header's bytes. -/
def hk (tos id fl ttl pr sl dl ck sz : Int) (os : List Int) : List Int := [64 + (20 + (os.length : Int)) / 4, tos, sz / 256, sz % 256, id / 256, id % 256, fl / 256, fl % 256, ttl, pr, ck / 256, ck % 256, sl / 65536 / 256, sl / 65536 % 256, sl % 65536 / 256, sl % 65536 % 256, dl / 65536 / 256, dl / 65536 % 256, dl % 65536 / 256, dl % 65536 % 256] ++ os
theorem hk_len (tos id fl ttl pr sl dl ck sz : Int) (os : List Int) : (hk tos id fl ttl pr sl dl ck sz os).length = 20 + os.length := by simp [hk]; omega
theorem hk_set (tos id fl ttl pr sl dl ck sz : Int) (os : List Int) : ((hk tos id fl ttl pr sl dl 0 sz os).set 10 (ck / 256)).set 11 (ck % 256) = hk tos id fl ttl pr sl dl ck sz os := rfl
theorem hk_in (tos id fl ttl pr sl dl ck sz : Int) (os : List Int) (h1 : 0 ≤ tos ∧ tos ≤ 255) (h2 : 0 ≤ id ∧ id ≤ 65535) (h3 : 0 ≤ fl ∧ fl ≤ 65535) (h4 : 0 ≤ ttl ∧ ttl ≤ 255) (h5 : 0 ≤ pr ∧ pr ≤ 255) (h6 : 0 ≤ sl ∧ sl ≤ 4294967295) (h7 : 0 ≤ dl ∧ dl ≤ 4294967295) (h8 : 0 ≤ ck ∧ ck ≤ 65535) (h9 : 0 ≤ sz ∧ sz ≤ 65535) (ho : os.length ≤ 40) (hx : ∀ x ∈ os, 0 ≤ x ∧ x ≤ 255) : ∀ x ∈ hk tos id fl ttl pr sl dl ck sz os, 0 ≤ x ∧ x ≤ 255 := by
  intro x h
  unfold hk at h
  rw [List.mem_append] at h
  rcases h with h | h
  · simp only [List.mem_cons, List.not_mem_nil, or_false] at h
    rcases h with h | h | h | h | h | h | h | h | h | h | h | h | h | h | h | h | h | h | h | h <;> (subst h; omega)
  · exact hx x h
def LBPost (w : World) (l : List Int) (e : Ending) (w' : World) : Prop :=
  ∃ v, e = .returned v ∧ w'.ownsRow w.heap.size 5 1 v l.length (l.map (.int .u8)) ∧ Below w.heap.size w w'
set_option maxRecDepth 100000 in
set_option maxHeartbeats 4000000 in
theorem lawbytes_ff (tos id : Int) (fr ttl pr sl dl : Int) (AO : Option Addr) (no co : Nat) (os : List Int) (A : Option Addr) (n c : Nat) (pl : List Int) (w : World) (hok : okF tos id fr ttl pr sl dl no)
    (hol : os.length = no) (hor : Row w w.heap.size AO (os.map (.int .u8))) (hoz : AO = none → co = 0) (hox : ∀ x ∈ os, 0 ≤ x ∧ x ≤ 255)
    (hl' : pl.length = n) (hn : n ≤ 1000) (hr : Row w w.heap.size A (pl.map (.int .u8))) (hz : A = none → c = 0) (ck : Int) (hck : 65535 - fo (wsum (hk tos id (flz false false fr) ttl pr sl dl 0 (20 + no + n) os)) = ck) :
    Calls Try.prog 29 #[.agg #[.int .i64 tos, .int .i64 id, .bool false, .bool false, .int .i64 fr, .int .i64 ttl, .int .i64 pr, .bool false, .int .u64 0, .int .u64 sl, .bool false, .int .u64 0, .int .u64 dl, .slice AO no co], .slice A n c] w (LBPost w (hk tos id (flz false false fr) ttl pr sl dl ck (20 + no + n) os ++ pl)) := by
  obtain ⟨⟨h1, h2⟩, ⟨h3, h4⟩, ⟨h5, h6⟩, ⟨h7, h8⟩, ⟨h9, h10⟩, ⟨h11, h12⟩, ⟨h13, h14⟩, ho, hm⟩ := hok
  obtain ⟨i0, hi0, hz0, hz1, hz2⟩ := info_parts info_u8
  have HI0 := Lib.hid hi0
  have HZ0 := Lib.hid hz0
  have HZ1 := Lib.hid hz1
  have HZ2 := Lib.hid hz2
  have ONE := Lib.hid (show ∀ l : List Int, ∀ u ∈ l.map (Value.int .u8), u.oneCell' = true from by
    intro l u hu
    rw [List.mem_map] at hu
    obtain ⟨x, _, rfl⟩ := hu
    rfl)
  have HSZ := Lib.hid (show (w.alloc (.cells #[.int .i64 tos, .int .i64 id, .bool false, .bool false, .int .i64 fr, .int .i64 ttl, .int .i64 pr, .bool false, .int .u64 0, .int .u64 sl, .bool false, .int .u64 0, .int .u64 dl, .slice AO no co] 54)).heap.size = w.heap.size + 1 by simp)
  have BOX := Lib.hid (Blk.new w 54 #[.int .i64 tos, .int .i64 id, .bool false, .bool false, .int .i64 fr, .int .i64 ttl, .int .i64 pr, .bool false, .int .u64 0, .int .u64 sl, .bool false, .int .u64 0, .int .u64 dl, .slice AO no co])
  have HB0 := Lib.hid (show Below w.heap.size w (w.alloc (.cells #[.int .i64 tos, .int .i64 id, .bool false, .bool false, .int .i64 fr, .int .i64 ttl, .int .i64 pr, .bool false, .int .u64 0, .int .u64 sl, .bool false, .int .u64 0, .int .u64 dl, .slice AO no co] 54)) from (Below.refl _ _).alloc (Nat.le_refl _) _)
  have HF := Lib.hid (show flz false false fr = fr by simp [flz])
  have HFI := Lib.hid (flz_in false false fr h5 h6)
  rw [HF.out] at HFI
  have hfi := HFI.out
  have HIN := Lib.hid (hk_in tos id (flz false false fr) ttl pr sl dl 0 (20 + no + n) os ⟨h1, h2⟩ ⟨h3, h4⟩ (flz_in false false fr h5 h6) ⟨h7, h8⟩ ⟨h9, h10⟩ ⟨h11, h12⟩ ⟨h13, h14⟩ (by omega) (by omega) (by omega) hox)
  have HCB := Lib.hid (fo_bd _ (wsum_bd _ HIN.out).1)
  have HLEN := Lib.hid (show (hk tos id (flz false false fr) ttl pr sl dl 0 (20 + no + n) os).length = 20 + no by rw [hk_len, hol])
  have HRC := Lib.hid (fun (A : Option Addr) (c : Nat) (W : World) hr => refcheck_any A (20 + no) c (hk tos id (flz false false fr) ttl pr sl dl 0 (20 + no + n) os) W HLEN.out (by omega) hr HIN.out)
  rw [hck] at HRC
  have HCK := Lib.hid (show 0 ≤ ck ∧ ck ≤ 65535 by have := HCB.out; omega)
  have HOR := Lib.hid hor
  have HOZ := Lib.hid hoz
  have HOL := Lib.hid hol
  have HR := Lib.hid hr
  have HZ := Lib.hid hz
  have HL := Lib.hid hl'
  have HTW := Lib.hid (fun (v : Value) (m : Nat) (xs : List Value) (x : Int) (W : World) hown hbase hm hbel x0 x1 => two_any v m xs x (w.heap.size + 1) (w.heap.size + 1) (w.alloc (.cells #[.int .i64 tos, .int .i64 id, .bool false, .bool false, .int .i64 fr, .int .i64 ttl, .int .i64 pr, .bool false, .int .u64 0, .int .u64 sl, .bool false, .int .u64 0, .int .u64 dl, .slice AO no co] 54)) W hown hbase hm hbel (Nat.le_refl _) x0 x1)
  have HQQ := Lib.hid (show (hk tos id (flz false false fr) ttl pr sl dl 0 (20 + no + n) os) = [64 + (20 + (no : Int)) / 4, tos, (20 + (no : Int) + n) / 256, (20 + (no : Int) + n) % 256, id / 256, id % 256, fr / 256, fr % 256, ttl, pr, 0, 0, sl / 65536 / 256, sl / 65536 % 256, sl % 65536 / 256, sl % 65536 % 256, dl / 65536 / 256, dl / 65536 % 256, dl % 65536 / 256, dl % 65536 % 256] ++ os by rw [← hol, HF.out]; rfl)
  clear hi0 hz0 hz1 hz2 hor hoz hol hr hz hl' hox hck HIN HCB
  go_enter Try.func29, Try.ntmps29
  go_wp2_with fail
  have HBV := Lib.hid (Below.refl (w.heap.size + 1) (w.alloc (.cells #[.int .i64 tos, .int .i64 id, .bool false, .bool false, .int .i64 fr, .int .i64 ttl, .int .i64 pr, .bool false, .int .u64 0, .int .u64 sl, .bool false, .int .u64 0, .int .u64 dl, .slice AO no co] 54)))
  generalize w.alloc (.cells #[.int .i64 tos, .int .i64 id, .bool false, .bool false, .int .i64 fr, .int .i64 ttl, .int .i64 pr, .bool false, .int .u64 0, .int .u64 sl, .bool false, .int .u64 0, .int .u64 dl, .slice AO no co] 54) = V at *
  generalize hS : 20 + (no : Int) = S at *
  have HSS := Lib.hid hS
  have s1 : 20 ≤ S := by omega
  have s2 : S ≤ 60 := by omega
  obtain ⟨f1, f2⟩ := hfi
  have q1 : IntKind.i64.wrap (S.tdiv 4) = S / 4 := by rw [Int.tdiv_eq_ediv_of_nonneg (by omega), IntKind.wrap_i64]; omega
  have q2 : IntKind.i64.wrap (64 + S / 4) = 64 + S / 4 := by rw [IntKind.wrap_i64]; omega
  have q3 : IntKind.u8.wrap (64 + S / 4) = 64 + S / 4 := by rw [IntKind.wrap_u8]; omega
  have q4 : IntKind.u8.wrap tos = tos := by rw [IntKind.wrap_u8]; omega
  have q5 : IntKind.i64.wrap (S + (n : Int)) = S + (n : Int) := by rw [IntKind.wrap_i64]; omega
  have E1 := Lib.hid (show 0 ≤ S + (n : Int) ∧ S + (n : Int) ≤ 65535 by omega)
  have E2 := Lib.hid (show 0 ≤ id ∧ id ≤ 65535 by omega)
  have E3 := Lib.hid (show 0 ≤ fr ∧ fr ≤ 65535 by omega)
  have E4 := Lib.hid (show 0 ≤ sl / 65536 ∧ sl / 65536 ≤ 65535 by omega)
  have E5 := Lib.hid (show 0 ≤ sl % 65536 ∧ sl % 65536 ≤ 65535 by omega)
  have E6 := Lib.hid (show 0 ≤ dl / 65536 ∧ dl / 65536 ≤ 65535 by omega)
  have E7 := Lib.hid (show 0 ≤ dl % 65536 ∧ dl % 65536 ≤ 65535 by omega)
  have X4 := Lib.hid (show IntKind.i64.wrap (sl / 65536) = sl / 65536 ∧ IntKind.i64.wrap (sl % 65536) = sl % 65536 ∧ IntKind.u64.wrap (sl.tdiv 65536) = sl / 65536 ∧ sl.tmod 65536 = sl % 65536 from ⟨by rw [IntKind.wrap_i64]; omega, by rw [IntKind.wrap_i64]; omega, by rw [Int.tdiv_eq_ediv_of_nonneg (by omega), IntKind.wrap_u64]; omega, Int.tmod_eq_emod_of_nonneg (by omega)⟩)
  have X6 := Lib.hid (show IntKind.i64.wrap (dl / 65536) = dl / 65536 ∧ IntKind.i64.wrap (dl % 65536) = dl % 65536 ∧ IntKind.u64.wrap (dl.tdiv 65536) = dl / 65536 ∧ dl.tmod 65536 = dl % 65536 from ⟨by rw [IntKind.wrap_i64]; omega, by rw [IntKind.wrap_i64]; omega, by rw [Int.tdiv_eq_ediv_of_nonneg (by omega), IntKind.wrap_u64]; omega, Int.tmod_eq_emod_of_nonneg (by omega)⟩)
  clear hS
  have HKV := Lib.hid (show V.drew.cell? ⟨w.heap.size, 0, none⟩ = some (.int .i64 tos) ∧ V.drew.cell? ⟨w.heap.size, 1, none⟩ = some (.int .i64 id) from ⟨(HBV.out.drew.cell (p := ⟨w.heap.size, 0, none⟩) (Nat.lt_succ_self _)).trans (BOX.out.cell 0), (HBV.out.drew.cell (p := ⟨w.heap.size, 1, none⟩) (Nat.lt_succ_self _)).trans (BOX.out.cell 1)⟩)
  have SZV := Lib.hid (show w.heap.size + 1 ≤ V.heap.size from Nat.le_of_eq HSZ.out.symm)
  have HBE := Lib.hid (show Below (w.heap.size + 1) V (V.alloc (.cells #[.int .u8 (64 + S / 4), .int .u8 tos] 5)).drew from (HBV.out.alloc SZV.out _).drew)
  have SZE := Lib.hid (show w.heap.size + 1 ≤ (V.alloc (.cells #[.int .u8 (64 + S / 4), .int .u8 tos] 5)).drew.heap.size from Nat.le_trans SZV.out HBE.out.size)
  have HOE := Lib.hid (show (V.alloc (.cells #[.int .u8 (64 + S / 4), .int .u8 tos] 5)).drew.ownsRow (w.heap.size + 1) 5 1 (.slice (some ⟨V.heap.size, 0, none⟩) 2 2) 2 (([64 + S / 4, tos] : List Int).map (.int .u8)) from World.ownsRow_lit (base := w.heap.size + 1) (e := 5) (size := 1) V #[.int .u8 (64 + S / 4), .int .u8 tos] 2 SZV.out (by unfold maxLen; omega) rfl)
  have HKE := Lib.hid (show (V.alloc (.cells #[.int .u8 (64 + S / 4), .int .u8 tos] 5)).drew.cell? ⟨w.heap.size, 0, none⟩ = some (.int .i64 tos) ∧ (V.alloc (.cells #[.int .u8 (64 + S / 4), .int .u8 tos] 5)).drew.cell? ⟨w.heap.size, 1, none⟩ = some (.int .i64 id) from ⟨(HBE.out.cell (p := ⟨w.heap.size, 0, none⟩) (Nat.lt_succ_self _)).trans (BOX.out.cell 0), (HBE.out.cell (p := ⟨w.heap.size, 1, none⟩) (Nat.lt_succ_self _)).trans (BOX.out.cell 1)⟩)
  go_region_held3 (fun w' => w'.cell? ⟨w.heap.size, 0, none⟩ = some (.int .i64 tos) ∧ w'.cell? ⟨w.heap.size, 1, none⟩ = some (.int .i64 id)) (first | with_reducible assumption | with_reducible exact HK3.out | with_reducible exact HK2.out | with_reducible exact HK1.out | with_reducible exact HKE.out | with_reducible exact HKV.out) (first
    | (go_at_call 65; (with_reducible refine (HTW.out v2 6 (([64 + S / 4, tos, (S + (n : Int)) / 256, (S + (n : Int)) % 256, id / 256, id % 256] : List Int).map (.int .u8)) fr u2 HO2.out HS2.out (by omega) HB2.out E3.out.1 E3.out.2).mono ?_); rintro e u3 ⟨v3, rfl, own_, bel_, siz_⟩; have HO3 := Lib.hid (show u3.ownsRow (w.heap.size + 1) 5 1 v3 8 (([64 + S / 4, tos, (S + (n : Int)) / 256, (S + (n : Int)) % 256, id / 256, id % 256, fr / 256, fr % 256] : List Int).map (.int .u8)) from own_); have HB3 := Lib.hid bel_; have HS3 := Lib.hid siz_; have HK3 := Lib.hid (show u3.cell? ⟨w.heap.size, 0, none⟩ = some (.int .i64 tos) ∧ u3.cell? ⟨w.heap.size, 1, none⟩ = some (.int .i64 id) from ⟨(bel_.cell (p := ⟨w.heap.size, 0, none⟩) (Nat.lt_succ_self _)).trans (BOX.out.cell 0), (bel_.cell (p := ⟨w.heap.size, 1, none⟩) (Nat.lt_succ_self _)).trans (BOX.out.cell 1)⟩); clear own_ bel_ siz_)
    | (go_at_call 65; (with_reducible refine (HTW.out v1 4 (([64 + S / 4, tos, (S + (n : Int)) / 256, (S + (n : Int)) % 256] : List Int).map (.int .u8)) id u1 HO1.out HS1.out (by omega) HB1.out E2.out.1 E2.out.2).mono ?_); rintro e u2 ⟨v2, rfl, own_, bel_, siz_⟩; have HO2 := Lib.hid (show u2.ownsRow (w.heap.size + 1) 5 1 v2 6 (([64 + S / 4, tos, (S + (n : Int)) / 256, (S + (n : Int)) % 256, id / 256, id % 256] : List Int).map (.int .u8)) from own_); have HB2 := Lib.hid bel_; have HS2 := Lib.hid siz_; have HK2 := Lib.hid (show u2.cell? ⟨w.heap.size, 0, none⟩ = some (.int .i64 tos) ∧ u2.cell? ⟨w.heap.size, 1, none⟩ = some (.int .i64 id) from ⟨(bel_.cell (p := ⟨w.heap.size, 0, none⟩) (Nat.lt_succ_self _)).trans (BOX.out.cell 0), (bel_.cell (p := ⟨w.heap.size, 1, none⟩) (Nat.lt_succ_self _)).trans (BOX.out.cell 1)⟩); clear own_ bel_ siz_)
    | (go_at_call 65; (with_reducible refine (HTW.out (.slice (some ⟨V.heap.size, 0, none⟩) 2 2) 2 (([64 + S / 4, tos] : List Int).map (.int .u8)) (S + (n : Int)) (V.alloc (.cells #[.int .u8 (64 + S / 4), .int .u8 tos] 5)).drew HOE.out SZE.out (by omega) HBE.out E1.out.1 E1.out.2).mono ?_); rintro e u1 ⟨v1, rfl, own_, bel_, siz_⟩; have HO1 := Lib.hid (show u1.ownsRow (w.heap.size + 1) 5 1 v1 4 (([64 + S / 4, tos, (S + (n : Int)) / 256, (S + (n : Int)) % 256] : List Int).map (.int .u8)) from own_); have HB1 := Lib.hid bel_; have HS1 := Lib.hid siz_; have HK1 := Lib.hid (show u1.cell? ⟨w.heap.size, 0, none⟩ = some (.int .i64 tos) ∧ u1.cell? ⟨w.heap.size, 1, none⟩ = some (.int .i64 id) from ⟨(bel_.cell (p := ⟨w.heap.size, 0, none⟩) (Nat.lt_succ_self _)).trans (BOX.out.cell 0), (bel_.cell (p := ⟨w.heap.size, 1, none⟩) (Nat.lt_succ_self _)).trans (BOX.out.cell 1)⟩); clear own_ bel_ siz_))
  clear HKV HKE HBE SZE HOE q1 q2 q3 q4 q5 HK1 HK2 HK3 HO1 HO2 HB1 HB2
  have o5 : u3.cell? ⟨w.heap.size, 5, none⟩ = some (.int .i64 ttl) := (HB3.out.cell (p := ⟨w.heap.size, 5, none⟩) (Nat.lt_succ_self _)).trans (BOX.out.cell 5)
  have o6 : u3.cell? ⟨w.heap.size, 6, none⟩ = some (.int .i64 pr) := (HB3.out.cell (p := ⟨w.heap.size, 6, none⟩) (Nat.lt_succ_self _)).trans (BOX.out.cell 6)
  have q6 : IntKind.u8.wrap ttl = ttl := by rw [IntKind.wrap_u8]; omega
  have q7 : IntKind.u8.wrap pr = pr := by rw [IntKind.wrap_u8]; omega
  have HOI := Lib.hid (HO3.out.alloc (.cells #[.int .u8 ttl, .int .u8 pr, .int .u8 0, .int .u8 0] 5))
  have HBI := Lib.hid (HB3.out.alloc HS3.out (.cells #[.int .u8 ttl, .int .u8 pr, .int .u8 0, .int .u8 0] 5))
  have HRI := Lib.hid (show Row (u3.alloc (.cells #[.int .u8 ttl, .int .u8 pr, .int .u8 0, .int .u8 0] 5)) (u3.heap.size + 1) (some ⟨u3.heap.size, 0, none⟩) [.int .u8 ttl, .int .u8 pr, .int .u8 0, .int .u8 0] from (Go.Proofs.Ytgikoljnmmnkkaa.sumC.row_blk (Blk.new u3 5 #[.int .u8 ttl, .int .u8 pr, .int .u8 0, .int .u8 0])).more (by simp))
  have ONI := Lib.hid (show ∀ u ∈ ([.int .u8 ttl, .int .u8 pr, .int .u8 0, .int .u8 0] : List Value), u.oneCell' = true from by intro u hu; simp at hu; rcases hu with rfl | rfl | rfl <;> rfl)
  have M1 := Lib.hid (show 8 + 4 ≤ maxLen by unfold maxLen; omega)
  have M3 := Lib.hid (show w.heap.size + 1 ≤ (u3.alloc (.cells #[.int .u8 ttl, .int .u8 pr, .int .u8 0, .int .u8 0] 5)).heap.size from Nat.le_trans HS3.out ((Below.refl 0 _).alloc (Nat.zero_le _) _).size)
  go_wp2_with (at_builtin; refine wpList_append_row rfl (.tmp 41) (.tmp 48) _ rfl (w.heap.size + 1) 5 i0 _ 1 Try.underlying22 HI0.out HZ0.out HZ1.out HZ2.out rfl v3 8 _ rfl HOI.out (some ⟨u3.heap.size, 0, none⟩) 4 4 (u3.heap.size + 1) [.int .u8 ttl, .int .u8 pr, .int .u8 0, .int .u8 0] rfl (by intro h; cases h) rfl HRI.out ONI.out M1.out (by omega) M3.out ?_; intro v4 u4 owna ga; have HO4 := Lib.hid (show u4.ownsRow (w.heap.size + 1) 5 1 v4 12 (([64 + S / 4, tos, (S + (n : Int)) / 256, (S + (n : Int)) % 256, id / 256, id % 256, fr / 256, fr % 256, ttl, pr, 0, 0] : List Int).map (.int .u8)) from owna); have HB4 := Lib.hid (below_grown HBI.out HOI.out (Nat.le_refl _) M3.out ga); have HS4 := Lib.hid (Nat.le_trans M3.out ga.size); clear owna ga)
  clear q6 q7 o5 o6 HOI HBI HRI ONI M1 M3 HO3 HB3 HS3
  obtain ⟨q1, q2, q3, q4⟩ := X4.out
  have HKV := Lib.hid (show u4.drew.cell? ⟨w.heap.size, 9, none⟩ = some (.int .u64 sl) from (HB4.out.drew.cell (p := ⟨w.heap.size, 9, none⟩) (Nat.lt_succ_self _)).trans (BOX.out.cell 9))
  have HBE := Lib.hid (show Below (w.heap.size + 1) V u4.drew from HB4.out.drew)
  have SZE := Lib.hid (show w.heap.size + 1 ≤ u4.drew.heap.size from HS4.out)
  have HOE := Lib.hid (show u4.drew.ownsRow (w.heap.size + 1) 5 1 v4 12 (([64 + S / 4, tos, (S + (n : Int)) / 256, (S + (n : Int)) % 256, id / 256, id % 256, fr / 256, fr % 256, ttl, pr, 0, 0] : List Int).map (.int .u8)) from HO4.out)
  go_region_held3 (fun w' => w'.cell? ⟨w.heap.size, 9, none⟩ = some (.int .u64 sl)) (first | with_reducible assumption | with_reducible exact HK6.out | with_reducible exact HK5.out | with_reducible exact HKV.out) (first
    | (go_at_call 65; (with_reducible refine (HTW.out vu6a 14 (([64 + S / 4, tos, (S + (n : Int)) / 256, (S + (n : Int)) % 256, id / 256, id % 256, fr / 256, fr % 256, ttl, pr, 0, 0, (sl / 65536) / 256, (sl / 65536) % 256] : List Int).map (.int .u8)) (sl % 65536) u6a HO5.out HS5.out (by omega) HB5.out E5.out.1 E5.out.2).mono ?_); rintro e u6 ⟨vu6, rfl, own_, bel_, siz_⟩; have HO6 := Lib.hid (show u6.ownsRow (w.heap.size + 1) 5 1 vu6 16 (([64 + S / 4, tos, (S + (n : Int)) / 256, (S + (n : Int)) % 256, id / 256, id % 256, fr / 256, fr % 256, ttl, pr, 0, 0, (sl / 65536) / 256, (sl / 65536) % 256, (sl % 65536) / 256, (sl % 65536) % 256] : List Int).map (.int .u8)) from own_); have HB6 := Lib.hid bel_; have HS6 := Lib.hid siz_; have HK6 := Lib.hid (show u6.cell? ⟨w.heap.size, 9, none⟩ = some (.int .u64 sl) from (bel_.cell (p := ⟨w.heap.size, 9, none⟩) (Nat.lt_succ_self _)).trans (BOX.out.cell 9)); clear own_ bel_ siz_)
    | (go_at_call 65; (with_reducible refine (HTW.out v4 12 (([64 + S / 4, tos, (S + (n : Int)) / 256, (S + (n : Int)) % 256, id / 256, id % 256, fr / 256, fr % 256, ttl, pr, 0, 0] : List Int).map (.int .u8)) (sl / 65536) u4.drew HOE.out SZE.out (by omega) HBE.out E4.out.1 E4.out.2).mono ?_); rintro e u6a ⟨vu6a, rfl, own_, bel_, siz_⟩; have HO5 := Lib.hid (show u6a.ownsRow (w.heap.size + 1) 5 1 vu6a 14 (([64 + S / 4, tos, (S + (n : Int)) / 256, (S + (n : Int)) % 256, id / 256, id % 256, fr / 256, fr % 256, ttl, pr, 0, 0, (sl / 65536) / 256, (sl / 65536) % 256] : List Int).map (.int .u8)) from own_); have HB5 := Lib.hid bel_; have HS5 := Lib.hid siz_; have HK5 := Lib.hid (show u6a.cell? ⟨w.heap.size, 9, none⟩ = some (.int .u64 sl) from (bel_.cell (p := ⟨w.heap.size, 9, none⟩) (Nat.lt_succ_self _)).trans (BOX.out.cell 9)); clear own_ bel_ siz_))
  clear HKV HBE SZE HOE q1 q2 q3 q4 HK5 HK6 HO5 HB5 HS5
  clear HO4 HB4 HS4
  go_wp2_with fail
  obtain ⟨q1, q2, q3, q4⟩ := X6.out
  have HKV := Lib.hid (show u6.drew.cell? ⟨w.heap.size, 12, none⟩ = some (.int .u64 dl) from (HB6.out.drew.cell (p := ⟨w.heap.size, 12, none⟩) (Nat.lt_succ_self _)).trans (BOX.out.cell 12))
  have HBE := Lib.hid (show Below (w.heap.size + 1) V u6.drew from HB6.out.drew)
  have SZE := Lib.hid (show w.heap.size + 1 ≤ u6.drew.heap.size from HS6.out)
  have HOE := Lib.hid (show u6.drew.ownsRow (w.heap.size + 1) 5 1 vu6 16 (([64 + S / 4, tos, (S + (n : Int)) / 256, (S + (n : Int)) % 256, id / 256, id % 256, fr / 256, fr % 256, ttl, pr, 0, 0, (sl / 65536) / 256, (sl / 65536) % 256, (sl % 65536) / 256, (sl % 65536) % 256] : List Int).map (.int .u8)) from HO6.out)
  go_region_held3 (fun w' => w'.cell? ⟨w.heap.size, 12, none⟩ = some (.int .u64 dl)) (first | with_reducible assumption | with_reducible exact HK8.out | with_reducible exact HK7.out | with_reducible exact HKV.out) (first
    | (go_at_call 65; (with_reducible refine (HTW.out vu8a 18 (([64 + S / 4, tos, (S + (n : Int)) / 256, (S + (n : Int)) % 256, id / 256, id % 256, fr / 256, fr % 256, ttl, pr, 0, 0, (sl / 65536) / 256, (sl / 65536) % 256, (sl % 65536) / 256, (sl % 65536) % 256, (dl / 65536) / 256, (dl / 65536) % 256] : List Int).map (.int .u8)) (dl % 65536) u8a HO7.out HS7.out (by omega) HB7.out E7.out.1 E7.out.2).mono ?_); rintro e u8 ⟨vu8, rfl, own_, bel_, siz_⟩; have HO8 := Lib.hid (show u8.ownsRow (w.heap.size + 1) 5 1 vu8 20 (([64 + S / 4, tos, (S + (n : Int)) / 256, (S + (n : Int)) % 256, id / 256, id % 256, fr / 256, fr % 256, ttl, pr, 0, 0, (sl / 65536) / 256, (sl / 65536) % 256, (sl % 65536) / 256, (sl % 65536) % 256, (dl / 65536) / 256, (dl / 65536) % 256, (dl % 65536) / 256, (dl % 65536) % 256] : List Int).map (.int .u8)) from own_); have HB8 := Lib.hid bel_; have HS8 := Lib.hid siz_; have HK8 := Lib.hid (show u8.cell? ⟨w.heap.size, 12, none⟩ = some (.int .u64 dl) from (bel_.cell (p := ⟨w.heap.size, 12, none⟩) (Nat.lt_succ_self _)).trans (BOX.out.cell 12)); clear own_ bel_ siz_)
    | (go_at_call 65; (with_reducible refine (HTW.out vu6 16 (([64 + S / 4, tos, (S + (n : Int)) / 256, (S + (n : Int)) % 256, id / 256, id % 256, fr / 256, fr % 256, ttl, pr, 0, 0, (sl / 65536) / 256, (sl / 65536) % 256, (sl % 65536) / 256, (sl % 65536) % 256] : List Int).map (.int .u8)) (dl / 65536) u6.drew HOE.out SZE.out (by omega) HBE.out E6.out.1 E6.out.2).mono ?_); rintro e u8a ⟨vu8a, rfl, own_, bel_, siz_⟩; have HO7 := Lib.hid (show u8a.ownsRow (w.heap.size + 1) 5 1 vu8a 18 (([64 + S / 4, tos, (S + (n : Int)) / 256, (S + (n : Int)) % 256, id / 256, id % 256, fr / 256, fr % 256, ttl, pr, 0, 0, (sl / 65536) / 256, (sl / 65536) % 256, (sl % 65536) / 256, (sl % 65536) % 256, (dl / 65536) / 256, (dl / 65536) % 256] : List Int).map (.int .u8)) from own_); have HB7 := Lib.hid bel_; have HS7 := Lib.hid siz_; have HK7 := Lib.hid (show u8a.cell? ⟨w.heap.size, 12, none⟩ = some (.int .u64 dl) from (bel_.cell (p := ⟨w.heap.size, 12, none⟩) (Nat.lt_succ_self _)).trans (BOX.out.cell 12)); clear own_ bel_ siz_))
  clear HKV HBE SZE HOE q1 q2 q3 q4 HK7 HK8 HO7 HB7 HS7
  clear HO6 HB6 HS6
  have o13 : u8.cell? ⟨w.heap.size, 13, none⟩ = some (.slice AO no co) := (HB8.out.cell (p := ⟨w.heap.size, 13, none⟩) (Nat.lt_succ_self _)).trans (BOX.out.cell 13)
  have P1 := Lib.hid (show 20 + no ≤ maxLen by unfold maxLen; omega)
  have Q1 := Lib.hid (show (20 + no) * 1 ≤ 140737488355328 by omega)
  have RO := Lib.hid (HOR.out.below (HB0.out.trans (HB8.out.mono (Nat.le_succ _))))
  have EQ := Lib.hid (show ([64 + S / 4, tos, (S + (n : Int)) / 256, (S + (n : Int)) % 256, id / 256, id % 256, fr / 256, fr % 256, ttl, pr, 0, 0, (sl / 65536) / 256, (sl / 65536) % 256, (sl % 65536) / 256, (sl % 65536) % 256, (dl / 65536) / 256, (dl / 65536) % 256, (dl % 65536) / 256, (dl % 65536) % 256] : List Int).map (.int .u8) ++ os.map (Value.int .u8) = (hk tos id (flz false false fr) ttl pr sl dl 0 (S + n) os).map (.int .u8) by rw [HQQ.out, List.map_append])
  go_wp2_with (at_builtin; refine wpList_append_row rfl (.tmp 76) (.tmp 78) _ rfl (w.heap.size + 1) 5 i0 _ 1 Try.underlying22 HI0.out HZ0.out HZ1.out HZ2.out rfl vu8 20 _ rfl HO8.out AO no co w.heap.size (os.map (.int .u8)) rfl HOZ.out (by rw [List.length_map]; exact HOL.out) RO.out (ONE.out _) P1.out Q1.out HS8.out ?_; intro v9 u9 owna ga; rw [EQ.out] at owna; have HO9 := Lib.hid owna; have HB9 := Lib.hid (below_grown HB8.out HO8.out (Nat.le_refl _) HS8.out ga); have HS9 := Lib.hid (Nat.le_trans HS8.out ga.size); clear owna ga)
  clear o13 P1 Q1 RO EQ HO8 HB8 HS8
  obtain ⟨N, hN⟩ : ∃ N, N = 20 + no := ⟨_, rfl⟩
  rw [← hN] at HO9 HRC HLEN
  have HN := Lib.hid hN
  have N20 : 20 ≤ N := by omega
  have N60 : N ≤ 60 := by omega
  clear hN
  have ho9 := HO9.out
  obtain ⟨gw, cw, rfl, hgw, gwl, hncw, _, _, _⟩ := own_form ho9 (by omega)
  have HRX := Lib.hid (HRC.out (some ⟨gw, 0, none⟩) cw u9 (own_row ho9))
  clear ho9
  refine HRX.out.mono ?_
  rintro e u10 ⟨rfl, hb10⟩
  have OW := Lib.hid (own_keep HO9.out hb10)
  have HB10 := Lib.hid (HB9.out.trans (hb10.mono HS9.out))
  have HS10 := Lib.hid (Nat.le_trans HS9.out hb10.size)
  clear hb10 HRX HRC HO9 HB9 HS9
  generalize hU0 : hk tos id (flz false false fr) ttl pr sl dl 0 (S + n) os = U0 at *
  have HU0 := Lib.hid hU0.symm
  clear hU0
  have hcw6 : ∀ j, j < N → u10.cell? ⟨gw, j, none⟩ = (U0.map (Value.int .u8))[j]? := fun j hj => OW.out.cellAt j (by omega)
  have j6 : u10.cell? ⟨gw, 10, none⟩ = some (.int .u8 (U0.getD 10 0)) := by
    rw [hcw6 10 (by omega), List.getElem?_map, List.getElem?_eq_getElem (by rw [HLEN.out]; omega), List.getD_eq_getElem?_getD, List.getElem?_eq_getElem (by rw [HLEN.out]; omega)]; rfl
  have j7 : u10.cell? ⟨gw, 11, none⟩ = some (.int .u8 (U0.getD 11 0)) := by
    rw [hcw6 11 (by omega), List.getElem?_map, List.getElem?_eq_getElem (by rw [HLEN.out]; omega), List.getD_eq_getElem?_getD, List.getElem?_eq_getElem (by rw [HLEN.out]; omega)]; rfl
  clear hcw6
  have g6 : u10.frozen? ⟨gw, 10, none⟩ = false := OW.out.frozenAt 10
  have g7 : u10.frozen? ⟨gw, 11, none⟩ = false := OW.out.frozenAt 11
  have y6 : (10 : Int) < (N : Int) := by omega
  have y7 : (11 : Int) < (N : Int) := by omega
  generalize U0.getD 10 0 = x10 at *
  generalize U0.getD 11 0 = x11 at *
  obtain ⟨d0, d1⟩ := HCK.out
  have a1 : IntKind.u8.wrap (ck / 256) = ck / 256 := by rw [IntKind.wrap_u8]; omega
  have a2 : IntKind.u8.wrap (ck % 256) = ck % 256 := by rw [IntKind.wrap_u8]; omega
  have OWZ := Lib.hid (own_stored (own_stored OW.out 10 (.int .u8 (ck / 256))) 11 (.int .u8 (ck % 256)))
  have HBZ := Lib.hid ((HB10.out.setCell (p := ⟨gw, 10, none⟩) hgw (.int .u8 (ck / 256))).setCell (p := ⟨gw, 11, none⟩) hgw (.int .u8 (ck % 256)))
  have HSZ2 := Lib.hid (show w.heap.size + 1 ≤ ((u10.setCell ⟨gw, 10, none⟩ (.int .u8 (ck / 256))).setCell ⟨gw, 11, none⟩ (.int .u8 (ck % 256))).heap.size by simpa using HS10.out)
  have P2 := Lib.hid (show N + n ≤ maxLen by unfold maxLen; omega)
  have Q2 := Lib.hid (show (N + n) * 1 ≤ 140737488355328 by omega)
  have RP := Lib.hid (HR.out.below (HB0.out.trans (HBZ.out.mono (Nat.le_succ _))))
  go_wp2_with (at_builtin; refine wpList_append_row rfl (.tmp 92) (.tmp 93) _ rfl (w.heap.size + 1) 5 i0 _ 1 Try.underlying22 HI0.out HZ0.out HZ1.out HZ2.out rfl (.slice (some ⟨gw, 0, none⟩) N cw) N _ rfl OWZ.out A n c w.heap.size (pl.map (.int .u8)) rfl HZ.out (by rw [List.length_map]; exact HL.out) RP.out (ONE.out _) P2.out Q2.out HSZ2.out ?_; intro v12 u12 owna ga; have HO12 := Lib.hid owna; have HB12 := Lib.hid (below_grown HBZ.out OWZ.out (Nat.le_refl _) HSZ2.out ga); clear owna ga)
  go_ret
  have hfin := HO12.out
  have hst : ((U0.map (Value.int .u8)).set 10 (.int .u8 (ck / 256))).set 11 (.int .u8 (ck % 256)) = (hk tos id (flz false false fr) ttl pr sl dl ck (S + n) os).map (Value.int .u8) := by
    rw [HU0.out, ← hk_set tos id (flz false false fr) ttl pr sl dl ck (S + n) os, List.map_set, List.map_set]
  rw [hst, ← List.map_append] at hfin
  have hln : (hk tos id (flz false false fr) ttl pr sl dl ck (S + n) os ++ pl).length = N + n := by rw [List.length_append, hk_len, HOL.out, HL.out, HN.out]
  rw [← hln] at hfin
  exact ⟨_, rfl, own_base hfin (Nat.le_succ _), HB0.out.trans (HB12.out.mono (Nat.le_succ _))⟩
set_option maxRecDepth 100000 in
set_option maxHeartbeats 4000000 in
theorem lawbytes_tf (tos id : Int) (fr ttl pr sl dl : Int) (AO : Option Addr) (no co : Nat) (os : List Int) (A : Option Addr) (n c : Nat) (pl : List Int) (w : World) (hok : okF tos id fr ttl pr sl dl no)
    (hol : os.length = no) (hor : Row w w.heap.size AO (os.map (.int .u8))) (hoz : AO = none → co = 0) (hox : ∀ x ∈ os, 0 ≤ x ∧ x ≤ 255)
    (hl' : pl.length = n) (hn : n ≤ 1000) (hr : Row w w.heap.size A (pl.map (.int .u8))) (hz : A = none → c = 0) (ck : Int) (hck : 65535 - fo (wsum (hk tos id (flz true false fr) ttl pr sl dl 0 (20 + no + n) os)) = ck) :
    Calls Try.prog 29 #[.agg #[.int .i64 tos, .int .i64 id, .bool true, .bool false, .int .i64 fr, .int .i64 ttl, .int .i64 pr, .bool false, .int .u64 0, .int .u64 sl, .bool false, .int .u64 0, .int .u64 dl, .slice AO no co], .slice A n c] w (LBPost w (hk tos id (flz true false fr) ttl pr sl dl ck (20 + no + n) os ++ pl)) := by
  obtain ⟨⟨h1, h2⟩, ⟨h3, h4⟩, ⟨h5, h6⟩, ⟨h7, h8⟩, ⟨h9, h10⟩, ⟨h11, h12⟩, ⟨h13, h14⟩, ho, hm⟩ := hok
  obtain ⟨i0, hi0, hz0, hz1, hz2⟩ := info_parts info_u8
  have HI0 := Lib.hid hi0
  have HZ0 := Lib.hid hz0
  have HZ1 := Lib.hid hz1
  have HZ2 := Lib.hid hz2
  have ONE := Lib.hid (show ∀ l : List Int, ∀ u ∈ l.map (Value.int .u8), u.oneCell' = true from by
    intro l u hu
    rw [List.mem_map] at hu
    obtain ⟨x, _, rfl⟩ := hu
    rfl)
  have HSZ := Lib.hid (show (w.alloc (.cells #[.int .i64 tos, .int .i64 id, .bool true, .bool false, .int .i64 fr, .int .i64 ttl, .int .i64 pr, .bool false, .int .u64 0, .int .u64 sl, .bool false, .int .u64 0, .int .u64 dl, .slice AO no co] 54)).heap.size = w.heap.size + 1 by simp)
  have BOX := Lib.hid (Blk.new w 54 #[.int .i64 tos, .int .i64 id, .bool true, .bool false, .int .i64 fr, .int .i64 ttl, .int .i64 pr, .bool false, .int .u64 0, .int .u64 sl, .bool false, .int .u64 0, .int .u64 dl, .slice AO no co])
  have HB0 := Lib.hid (show Below w.heap.size w (w.alloc (.cells #[.int .i64 tos, .int .i64 id, .bool true, .bool false, .int .i64 fr, .int .i64 ttl, .int .i64 pr, .bool false, .int .u64 0, .int .u64 sl, .bool false, .int .u64 0, .int .u64 dl, .slice AO no co] 54)) from (Below.refl _ _).alloc (Nat.le_refl _) _)
  have HF := Lib.hid (show flz true false fr = (fr + 16384) by simp [flz])
  have HFI := Lib.hid (flz_in true false fr h5 h6)
  rw [HF.out] at HFI
  have hfi := HFI.out
  have HIN := Lib.hid (hk_in tos id (flz true false fr) ttl pr sl dl 0 (20 + no + n) os ⟨h1, h2⟩ ⟨h3, h4⟩ (flz_in true false fr h5 h6) ⟨h7, h8⟩ ⟨h9, h10⟩ ⟨h11, h12⟩ ⟨h13, h14⟩ (by omega) (by omega) (by omega) hox)
  have HCB := Lib.hid (fo_bd _ (wsum_bd _ HIN.out).1)
  have HLEN := Lib.hid (show (hk tos id (flz true false fr) ttl pr sl dl 0 (20 + no + n) os).length = 20 + no by rw [hk_len, hol])
  have HRC := Lib.hid (fun (A : Option Addr) (c : Nat) (W : World) hr => refcheck_any A (20 + no) c (hk tos id (flz true false fr) ttl pr sl dl 0 (20 + no + n) os) W HLEN.out (by omega) hr HIN.out)
  rw [hck] at HRC
  have HCK := Lib.hid (show 0 ≤ ck ∧ ck ≤ 65535 by have := HCB.out; omega)
  have HOR := Lib.hid hor
  have HOZ := Lib.hid hoz
  have HOL := Lib.hid hol
  have HR := Lib.hid hr
  have HZ := Lib.hid hz
  have HL := Lib.hid hl'
  have HTW := Lib.hid (fun (v : Value) (m : Nat) (xs : List Value) (x : Int) (W : World) hown hbase hm hbel x0 x1 => two_any v m xs x (w.heap.size + 1) (w.heap.size + 1) (w.alloc (.cells #[.int .i64 tos, .int .i64 id, .bool true, .bool false, .int .i64 fr, .int .i64 ttl, .int .i64 pr, .bool false, .int .u64 0, .int .u64 sl, .bool false, .int .u64 0, .int .u64 dl, .slice AO no co] 54)) W hown hbase hm hbel (Nat.le_refl _) x0 x1)
  have HQQ := Lib.hid (show (hk tos id (flz true false fr) ttl pr sl dl 0 (20 + no + n) os) = [64 + (20 + (no : Int)) / 4, tos, (20 + (no : Int) + n) / 256, (20 + (no : Int) + n) % 256, id / 256, id % 256, (fr + 16384) / 256, (fr + 16384) % 256, ttl, pr, 0, 0, sl / 65536 / 256, sl / 65536 % 256, sl % 65536 / 256, sl % 65536 % 256, dl / 65536 / 256, dl / 65536 % 256, dl % 65536 / 256, dl % 65536 % 256] ++ os by rw [← hol, HF.out]; rfl)
  clear hi0 hz0 hz1 hz2 hor hoz hol hr hz hl' hox hck HIN HCB
  go_enter Try.func29, Try.ntmps29
  go_wp2_with fail
  have HBV := Lib.hid (Below.refl (w.heap.size + 1) (w.alloc (.cells #[.int .i64 tos, .int .i64 id, .bool true, .bool false, .int .i64 fr, .int .i64 ttl, .int .i64 pr, .bool false, .int .u64 0, .int .u64 sl, .bool false, .int .u64 0, .int .u64 dl, .slice AO no co] 54)))
  generalize w.alloc (.cells #[.int .i64 tos, .int .i64 id, .bool true, .bool false, .int .i64 fr, .int .i64 ttl, .int .i64 pr, .bool false, .int .u64 0, .int .u64 sl, .bool false, .int .u64 0, .int .u64 dl, .slice AO no co] 54) = V at *
  generalize (fr + 16384) = fl at *
  generalize hS : 20 + (no : Int) = S at *
  have HSS := Lib.hid hS
  have s1 : 20 ≤ S := by omega
  have s2 : S ≤ 60 := by omega
  obtain ⟨f1, f2⟩ := hfi
  have q1 : IntKind.i64.wrap (S.tdiv 4) = S / 4 := by rw [Int.tdiv_eq_ediv_of_nonneg (by omega), IntKind.wrap_i64]; omega
  have q2 : IntKind.i64.wrap (64 + S / 4) = 64 + S / 4 := by rw [IntKind.wrap_i64]; omega
  have q3 : IntKind.u8.wrap (64 + S / 4) = 64 + S / 4 := by rw [IntKind.wrap_u8]; omega
  have q4 : IntKind.u8.wrap tos = tos := by rw [IntKind.wrap_u8]; omega
  have q5 : IntKind.i64.wrap (S + (n : Int)) = S + (n : Int) := by rw [IntKind.wrap_i64]; omega
  have E1 := Lib.hid (show 0 ≤ S + (n : Int) ∧ S + (n : Int) ≤ 65535 by omega)
  have E2 := Lib.hid (show 0 ≤ id ∧ id ≤ 65535 by omega)
  have E3 := Lib.hid (show 0 ≤ fl ∧ fl ≤ 65535 by omega)
  have E4 := Lib.hid (show 0 ≤ sl / 65536 ∧ sl / 65536 ≤ 65535 by omega)
  have E5 := Lib.hid (show 0 ≤ sl % 65536 ∧ sl % 65536 ≤ 65535 by omega)
  have E6 := Lib.hid (show 0 ≤ dl / 65536 ∧ dl / 65536 ≤ 65535 by omega)
  have E7 := Lib.hid (show 0 ≤ dl % 65536 ∧ dl % 65536 ≤ 65535 by omega)
  have X4 := Lib.hid (show IntKind.i64.wrap (sl / 65536) = sl / 65536 ∧ IntKind.i64.wrap (sl % 65536) = sl % 65536 ∧ IntKind.u64.wrap (sl.tdiv 65536) = sl / 65536 ∧ sl.tmod 65536 = sl % 65536 from ⟨by rw [IntKind.wrap_i64]; omega, by rw [IntKind.wrap_i64]; omega, by rw [Int.tdiv_eq_ediv_of_nonneg (by omega), IntKind.wrap_u64]; omega, Int.tmod_eq_emod_of_nonneg (by omega)⟩)
  have X6 := Lib.hid (show IntKind.i64.wrap (dl / 65536) = dl / 65536 ∧ IntKind.i64.wrap (dl % 65536) = dl % 65536 ∧ IntKind.u64.wrap (dl.tdiv 65536) = dl / 65536 ∧ dl.tmod 65536 = dl % 65536 from ⟨by rw [IntKind.wrap_i64]; omega, by rw [IntKind.wrap_i64]; omega, by rw [Int.tdiv_eq_ediv_of_nonneg (by omega), IntKind.wrap_u64]; omega, Int.tmod_eq_emod_of_nonneg (by omega)⟩)
  clear hS
  have HKV := Lib.hid (show V.drew.cell? ⟨w.heap.size, 0, none⟩ = some (.int .i64 tos) ∧ V.drew.cell? ⟨w.heap.size, 1, none⟩ = some (.int .i64 id) from ⟨(HBV.out.drew.cell (p := ⟨w.heap.size, 0, none⟩) (Nat.lt_succ_self _)).trans (BOX.out.cell 0), (HBV.out.drew.cell (p := ⟨w.heap.size, 1, none⟩) (Nat.lt_succ_self _)).trans (BOX.out.cell 1)⟩)
  have SZV := Lib.hid (show w.heap.size + 1 ≤ V.heap.size from Nat.le_of_eq HSZ.out.symm)
  have HBE := Lib.hid (show Below (w.heap.size + 1) V (V.alloc (.cells #[.int .u8 (64 + S / 4), .int .u8 tos] 5)).drew from (HBV.out.alloc SZV.out _).drew)
  have SZE := Lib.hid (show w.heap.size + 1 ≤ (V.alloc (.cells #[.int .u8 (64 + S / 4), .int .u8 tos] 5)).drew.heap.size from Nat.le_trans SZV.out HBE.out.size)
  have HOE := Lib.hid (show (V.alloc (.cells #[.int .u8 (64 + S / 4), .int .u8 tos] 5)).drew.ownsRow (w.heap.size + 1) 5 1 (.slice (some ⟨V.heap.size, 0, none⟩) 2 2) 2 (([64 + S / 4, tos] : List Int).map (.int .u8)) from World.ownsRow_lit (base := w.heap.size + 1) (e := 5) (size := 1) V #[.int .u8 (64 + S / 4), .int .u8 tos] 2 SZV.out (by unfold maxLen; omega) rfl)
  have HKE := Lib.hid (show (V.alloc (.cells #[.int .u8 (64 + S / 4), .int .u8 tos] 5)).drew.cell? ⟨w.heap.size, 0, none⟩ = some (.int .i64 tos) ∧ (V.alloc (.cells #[.int .u8 (64 + S / 4), .int .u8 tos] 5)).drew.cell? ⟨w.heap.size, 1, none⟩ = some (.int .i64 id) from ⟨(HBE.out.cell (p := ⟨w.heap.size, 0, none⟩) (Nat.lt_succ_self _)).trans (BOX.out.cell 0), (HBE.out.cell (p := ⟨w.heap.size, 1, none⟩) (Nat.lt_succ_self _)).trans (BOX.out.cell 1)⟩)
  go_region_held3 (fun w' => w'.cell? ⟨w.heap.size, 0, none⟩ = some (.int .i64 tos) ∧ w'.cell? ⟨w.heap.size, 1, none⟩ = some (.int .i64 id)) (first | with_reducible assumption | with_reducible exact HK3.out | with_reducible exact HK2.out | with_reducible exact HK1.out | with_reducible exact HKE.out | with_reducible exact HKV.out) (first
    | (go_at_call 65; (with_reducible refine (HTW.out v2 6 (([64 + S / 4, tos, (S + (n : Int)) / 256, (S + (n : Int)) % 256, id / 256, id % 256] : List Int).map (.int .u8)) fl u2 HO2.out HS2.out (by omega) HB2.out E3.out.1 E3.out.2).mono ?_); rintro e u3 ⟨v3, rfl, own_, bel_, siz_⟩; have HO3 := Lib.hid (show u3.ownsRow (w.heap.size + 1) 5 1 v3 8 (([64 + S / 4, tos, (S + (n : Int)) / 256, (S + (n : Int)) % 256, id / 256, id % 256, fl / 256, fl % 256] : List Int).map (.int .u8)) from own_); have HB3 := Lib.hid bel_; have HS3 := Lib.hid siz_; have HK3 := Lib.hid (show u3.cell? ⟨w.heap.size, 0, none⟩ = some (.int .i64 tos) ∧ u3.cell? ⟨w.heap.size, 1, none⟩ = some (.int .i64 id) from ⟨(bel_.cell (p := ⟨w.heap.size, 0, none⟩) (Nat.lt_succ_self _)).trans (BOX.out.cell 0), (bel_.cell (p := ⟨w.heap.size, 1, none⟩) (Nat.lt_succ_self _)).trans (BOX.out.cell 1)⟩); clear own_ bel_ siz_)
    | (go_at_call 65; (with_reducible refine (HTW.out v1 4 (([64 + S / 4, tos, (S + (n : Int)) / 256, (S + (n : Int)) % 256] : List Int).map (.int .u8)) id u1 HO1.out HS1.out (by omega) HB1.out E2.out.1 E2.out.2).mono ?_); rintro e u2 ⟨v2, rfl, own_, bel_, siz_⟩; have HO2 := Lib.hid (show u2.ownsRow (w.heap.size + 1) 5 1 v2 6 (([64 + S / 4, tos, (S + (n : Int)) / 256, (S + (n : Int)) % 256, id / 256, id % 256] : List Int).map (.int .u8)) from own_); have HB2 := Lib.hid bel_; have HS2 := Lib.hid siz_; have HK2 := Lib.hid (show u2.cell? ⟨w.heap.size, 0, none⟩ = some (.int .i64 tos) ∧ u2.cell? ⟨w.heap.size, 1, none⟩ = some (.int .i64 id) from ⟨(bel_.cell (p := ⟨w.heap.size, 0, none⟩) (Nat.lt_succ_self _)).trans (BOX.out.cell 0), (bel_.cell (p := ⟨w.heap.size, 1, none⟩) (Nat.lt_succ_self _)).trans (BOX.out.cell 1)⟩); clear own_ bel_ siz_)
    | (go_at_call 65; (with_reducible refine (HTW.out (.slice (some ⟨V.heap.size, 0, none⟩) 2 2) 2 (([64 + S / 4, tos] : List Int).map (.int .u8)) (S + (n : Int)) (V.alloc (.cells #[.int .u8 (64 + S / 4), .int .u8 tos] 5)).drew HOE.out SZE.out (by omega) HBE.out E1.out.1 E1.out.2).mono ?_); rintro e u1 ⟨v1, rfl, own_, bel_, siz_⟩; have HO1 := Lib.hid (show u1.ownsRow (w.heap.size + 1) 5 1 v1 4 (([64 + S / 4, tos, (S + (n : Int)) / 256, (S + (n : Int)) % 256] : List Int).map (.int .u8)) from own_); have HB1 := Lib.hid bel_; have HS1 := Lib.hid siz_; have HK1 := Lib.hid (show u1.cell? ⟨w.heap.size, 0, none⟩ = some (.int .i64 tos) ∧ u1.cell? ⟨w.heap.size, 1, none⟩ = some (.int .i64 id) from ⟨(bel_.cell (p := ⟨w.heap.size, 0, none⟩) (Nat.lt_succ_self _)).trans (BOX.out.cell 0), (bel_.cell (p := ⟨w.heap.size, 1, none⟩) (Nat.lt_succ_self _)).trans (BOX.out.cell 1)⟩); clear own_ bel_ siz_))
  clear HKV HKE HBE SZE HOE q1 q2 q3 q4 q5 HK1 HK2 HK3 HO1 HO2 HB1 HB2
  have o5 : u3.cell? ⟨w.heap.size, 5, none⟩ = some (.int .i64 ttl) := (HB3.out.cell (p := ⟨w.heap.size, 5, none⟩) (Nat.lt_succ_self _)).trans (BOX.out.cell 5)
  have o6 : u3.cell? ⟨w.heap.size, 6, none⟩ = some (.int .i64 pr) := (HB3.out.cell (p := ⟨w.heap.size, 6, none⟩) (Nat.lt_succ_self _)).trans (BOX.out.cell 6)
  have q6 : IntKind.u8.wrap ttl = ttl := by rw [IntKind.wrap_u8]; omega
  have q7 : IntKind.u8.wrap pr = pr := by rw [IntKind.wrap_u8]; omega
  have HOI := Lib.hid (HO3.out.alloc (.cells #[.int .u8 ttl, .int .u8 pr, .int .u8 0, .int .u8 0] 5))
  have HBI := Lib.hid (HB3.out.alloc HS3.out (.cells #[.int .u8 ttl, .int .u8 pr, .int .u8 0, .int .u8 0] 5))
  have HRI := Lib.hid (show Row (u3.alloc (.cells #[.int .u8 ttl, .int .u8 pr, .int .u8 0, .int .u8 0] 5)) (u3.heap.size + 1) (some ⟨u3.heap.size, 0, none⟩) [.int .u8 ttl, .int .u8 pr, .int .u8 0, .int .u8 0] from (Go.Proofs.Ytgikoljnmmnkkaa.sumC.row_blk (Blk.new u3 5 #[.int .u8 ttl, .int .u8 pr, .int .u8 0, .int .u8 0])).more (by simp))
  have ONI := Lib.hid (show ∀ u ∈ ([.int .u8 ttl, .int .u8 pr, .int .u8 0, .int .u8 0] : List Value), u.oneCell' = true from by intro u hu; simp at hu; rcases hu with rfl | rfl | rfl <;> rfl)
  have M1 := Lib.hid (show 8 + 4 ≤ maxLen by unfold maxLen; omega)
  have M3 := Lib.hid (show w.heap.size + 1 ≤ (u3.alloc (.cells #[.int .u8 ttl, .int .u8 pr, .int .u8 0, .int .u8 0] 5)).heap.size from Nat.le_trans HS3.out ((Below.refl 0 _).alloc (Nat.zero_le _) _).size)
  go_wp2_with (at_builtin; refine wpList_append_row rfl (.tmp 41) (.tmp 48) _ rfl (w.heap.size + 1) 5 i0 _ 1 Try.underlying22 HI0.out HZ0.out HZ1.out HZ2.out rfl v3 8 _ rfl HOI.out (some ⟨u3.heap.size, 0, none⟩) 4 4 (u3.heap.size + 1) [.int .u8 ttl, .int .u8 pr, .int .u8 0, .int .u8 0] rfl (by intro h; cases h) rfl HRI.out ONI.out M1.out (by omega) M3.out ?_; intro v4 u4 owna ga; have HO4 := Lib.hid (show u4.ownsRow (w.heap.size + 1) 5 1 v4 12 (([64 + S / 4, tos, (S + (n : Int)) / 256, (S + (n : Int)) % 256, id / 256, id % 256, fl / 256, fl % 256, ttl, pr, 0, 0] : List Int).map (.int .u8)) from owna); have HB4 := Lib.hid (below_grown HBI.out HOI.out (Nat.le_refl _) M3.out ga); have HS4 := Lib.hid (Nat.le_trans M3.out ga.size); clear owna ga)
  clear q6 q7 o5 o6 HOI HBI HRI ONI M1 M3 HO3 HB3 HS3
  obtain ⟨q1, q2, q3, q4⟩ := X4.out
  have HKV := Lib.hid (show u4.drew.cell? ⟨w.heap.size, 9, none⟩ = some (.int .u64 sl) from (HB4.out.drew.cell (p := ⟨w.heap.size, 9, none⟩) (Nat.lt_succ_self _)).trans (BOX.out.cell 9))
  have HBE := Lib.hid (show Below (w.heap.size + 1) V u4.drew from HB4.out.drew)
  have SZE := Lib.hid (show w.heap.size + 1 ≤ u4.drew.heap.size from HS4.out)
  have HOE := Lib.hid (show u4.drew.ownsRow (w.heap.size + 1) 5 1 v4 12 (([64 + S / 4, tos, (S + (n : Int)) / 256, (S + (n : Int)) % 256, id / 256, id % 256, fl / 256, fl % 256, ttl, pr, 0, 0] : List Int).map (.int .u8)) from HO4.out)
  go_region_held3 (fun w' => w'.cell? ⟨w.heap.size, 9, none⟩ = some (.int .u64 sl)) (first | with_reducible assumption | with_reducible exact HK6.out | with_reducible exact HK5.out | with_reducible exact HKV.out) (first
    | (go_at_call 65; (with_reducible refine (HTW.out vu6a 14 (([64 + S / 4, tos, (S + (n : Int)) / 256, (S + (n : Int)) % 256, id / 256, id % 256, fl / 256, fl % 256, ttl, pr, 0, 0, (sl / 65536) / 256, (sl / 65536) % 256] : List Int).map (.int .u8)) (sl % 65536) u6a HO5.out HS5.out (by omega) HB5.out E5.out.1 E5.out.2).mono ?_); rintro e u6 ⟨vu6, rfl, own_, bel_, siz_⟩; have HO6 := Lib.hid (show u6.ownsRow (w.heap.size + 1) 5 1 vu6 16 (([64 + S / 4, tos, (S + (n : Int)) / 256, (S + (n : Int)) % 256, id / 256, id % 256, fl / 256, fl % 256, ttl, pr, 0, 0, (sl / 65536) / 256, (sl / 65536) % 256, (sl % 65536) / 256, (sl % 65536) % 256] : List Int).map (.int .u8)) from own_); have HB6 := Lib.hid bel_; have HS6 := Lib.hid siz_; have HK6 := Lib.hid (show u6.cell? ⟨w.heap.size, 9, none⟩ = some (.int .u64 sl) from (bel_.cell (p := ⟨w.heap.size, 9, none⟩) (Nat.lt_succ_self _)).trans (BOX.out.cell 9)); clear own_ bel_ siz_)
    | (go_at_call 65; (with_reducible refine (HTW.out v4 12 (([64 + S / 4, tos, (S + (n : Int)) / 256, (S + (n : Int)) % 256, id / 256, id % 256, fl / 256, fl % 256, ttl, pr, 0, 0] : List Int).map (.int .u8)) (sl / 65536) u4.drew HOE.out SZE.out (by omega) HBE.out E4.out.1 E4.out.2).mono ?_); rintro e u6a ⟨vu6a, rfl, own_, bel_, siz_⟩; have HO5 := Lib.hid (show u6a.ownsRow (w.heap.size + 1) 5 1 vu6a 14 (([64 + S / 4, tos, (S + (n : Int)) / 256, (S + (n : Int)) % 256, id / 256, id % 256, fl / 256, fl % 256, ttl, pr, 0, 0, (sl / 65536) / 256, (sl / 65536) % 256] : List Int).map (.int .u8)) from own_); have HB5 := Lib.hid bel_; have HS5 := Lib.hid siz_; have HK5 := Lib.hid (show u6a.cell? ⟨w.heap.size, 9, none⟩ = some (.int .u64 sl) from (bel_.cell (p := ⟨w.heap.size, 9, none⟩) (Nat.lt_succ_self _)).trans (BOX.out.cell 9)); clear own_ bel_ siz_))
  clear HKV HBE SZE HOE q1 q2 q3 q4 HK5 HK6 HO5 HB5 HS5
  clear HO4 HB4 HS4
  go_wp2_with fail
  obtain ⟨q1, q2, q3, q4⟩ := X6.out
  have HKV := Lib.hid (show u6.drew.cell? ⟨w.heap.size, 12, none⟩ = some (.int .u64 dl) from (HB6.out.drew.cell (p := ⟨w.heap.size, 12, none⟩) (Nat.lt_succ_self _)).trans (BOX.out.cell 12))
  have HBE := Lib.hid (show Below (w.heap.size + 1) V u6.drew from HB6.out.drew)
  have SZE := Lib.hid (show w.heap.size + 1 ≤ u6.drew.heap.size from HS6.out)
  have HOE := Lib.hid (show u6.drew.ownsRow (w.heap.size + 1) 5 1 vu6 16 (([64 + S / 4, tos, (S + (n : Int)) / 256, (S + (n : Int)) % 256, id / 256, id % 256, fl / 256, fl % 256, ttl, pr, 0, 0, (sl / 65536) / 256, (sl / 65536) % 256, (sl % 65536) / 256, (sl % 65536) % 256] : List Int).map (.int .u8)) from HO6.out)
  go_region_held3 (fun w' => w'.cell? ⟨w.heap.size, 12, none⟩ = some (.int .u64 dl)) (first | with_reducible assumption | with_reducible exact HK8.out | with_reducible exact HK7.out | with_reducible exact HKV.out) (first
    | (go_at_call 65; (with_reducible refine (HTW.out vu8a 18 (([64 + S / 4, tos, (S + (n : Int)) / 256, (S + (n : Int)) % 256, id / 256, id % 256, fl / 256, fl % 256, ttl, pr, 0, 0, (sl / 65536) / 256, (sl / 65536) % 256, (sl % 65536) / 256, (sl % 65536) % 256, (dl / 65536) / 256, (dl / 65536) % 256] : List Int).map (.int .u8)) (dl % 65536) u8a HO7.out HS7.out (by omega) HB7.out E7.out.1 E7.out.2).mono ?_); rintro e u8 ⟨vu8, rfl, own_, bel_, siz_⟩; have HO8 := Lib.hid (show u8.ownsRow (w.heap.size + 1) 5 1 vu8 20 (([64 + S / 4, tos, (S + (n : Int)) / 256, (S + (n : Int)) % 256, id / 256, id % 256, fl / 256, fl % 256, ttl, pr, 0, 0, (sl / 65536) / 256, (sl / 65536) % 256, (sl % 65536) / 256, (sl % 65536) % 256, (dl / 65536) / 256, (dl / 65536) % 256, (dl % 65536) / 256, (dl % 65536) % 256] : List Int).map (.int .u8)) from own_); have HB8 := Lib.hid bel_; have HS8 := Lib.hid siz_; have HK8 := Lib.hid (show u8.cell? ⟨w.heap.size, 12, none⟩ = some (.int .u64 dl) from (bel_.cell (p := ⟨w.heap.size, 12, none⟩) (Nat.lt_succ_self _)).trans (BOX.out.cell 12)); clear own_ bel_ siz_)
    | (go_at_call 65; (with_reducible refine (HTW.out vu6 16 (([64 + S / 4, tos, (S + (n : Int)) / 256, (S + (n : Int)) % 256, id / 256, id % 256, fl / 256, fl % 256, ttl, pr, 0, 0, (sl / 65536) / 256, (sl / 65536) % 256, (sl % 65536) / 256, (sl % 65536) % 256] : List Int).map (.int .u8)) (dl / 65536) u6.drew HOE.out SZE.out (by omega) HBE.out E6.out.1 E6.out.2).mono ?_); rintro e u8a ⟨vu8a, rfl, own_, bel_, siz_⟩; have HO7 := Lib.hid (show u8a.ownsRow (w.heap.size + 1) 5 1 vu8a 18 (([64 + S / 4, tos, (S + (n : Int)) / 256, (S + (n : Int)) % 256, id / 256, id % 256, fl / 256, fl % 256, ttl, pr, 0, 0, (sl / 65536) / 256, (sl / 65536) % 256, (sl % 65536) / 256, (sl % 65536) % 256, (dl / 65536) / 256, (dl / 65536) % 256] : List Int).map (.int .u8)) from own_); have HB7 := Lib.hid bel_; have HS7 := Lib.hid siz_; have HK7 := Lib.hid (show u8a.cell? ⟨w.heap.size, 12, none⟩ = some (.int .u64 dl) from (bel_.cell (p := ⟨w.heap.size, 12, none⟩) (Nat.lt_succ_self _)).trans (BOX.out.cell 12)); clear own_ bel_ siz_))
  clear HKV HBE SZE HOE q1 q2 q3 q4 HK7 HK8 HO7 HB7 HS7
  clear HO6 HB6 HS6
  have o13 : u8.cell? ⟨w.heap.size, 13, none⟩ = some (.slice AO no co) := (HB8.out.cell (p := ⟨w.heap.size, 13, none⟩) (Nat.lt_succ_self _)).trans (BOX.out.cell 13)
  have P1 := Lib.hid (show 20 + no ≤ maxLen by unfold maxLen; omega)
  have Q1 := Lib.hid (show (20 + no) * 1 ≤ 140737488355328 by omega)
  have RO := Lib.hid (HOR.out.below (HB0.out.trans (HB8.out.mono (Nat.le_succ _))))
  have EQ := Lib.hid (show ([64 + S / 4, tos, (S + (n : Int)) / 256, (S + (n : Int)) % 256, id / 256, id % 256, fl / 256, fl % 256, ttl, pr, 0, 0, (sl / 65536) / 256, (sl / 65536) % 256, (sl % 65536) / 256, (sl % 65536) % 256, (dl / 65536) / 256, (dl / 65536) % 256, (dl % 65536) / 256, (dl % 65536) % 256] : List Int).map (.int .u8) ++ os.map (Value.int .u8) = (hk tos id (flz true false fr) ttl pr sl dl 0 (S + n) os).map (.int .u8) by rw [HQQ.out, List.map_append])
  go_wp2_with (at_builtin; refine wpList_append_row rfl (.tmp 76) (.tmp 78) _ rfl (w.heap.size + 1) 5 i0 _ 1 Try.underlying22 HI0.out HZ0.out HZ1.out HZ2.out rfl vu8 20 _ rfl HO8.out AO no co w.heap.size (os.map (.int .u8)) rfl HOZ.out (by rw [List.length_map]; exact HOL.out) RO.out (ONE.out _) P1.out Q1.out HS8.out ?_; intro v9 u9 owna ga; rw [EQ.out] at owna; have HO9 := Lib.hid owna; have HB9 := Lib.hid (below_grown HB8.out HO8.out (Nat.le_refl _) HS8.out ga); have HS9 := Lib.hid (Nat.le_trans HS8.out ga.size); clear owna ga)
  clear o13 P1 Q1 RO EQ HO8 HB8 HS8
  obtain ⟨N, hN⟩ : ∃ N, N = 20 + no := ⟨_, rfl⟩
  rw [← hN] at HO9 HRC HLEN
  have HN := Lib.hid hN
  have N20 : 20 ≤ N := by omega
  have N60 : N ≤ 60 := by omega
  clear hN
  have ho9 := HO9.out
  obtain ⟨gw, cw, rfl, hgw, gwl, hncw, _, _, _⟩ := own_form ho9 (by omega)
  have HRX := Lib.hid (HRC.out (some ⟨gw, 0, none⟩) cw u9 (own_row ho9))
  clear ho9
  refine HRX.out.mono ?_
  rintro e u10 ⟨rfl, hb10⟩
  have OW := Lib.hid (own_keep HO9.out hb10)
  have HB10 := Lib.hid (HB9.out.trans (hb10.mono HS9.out))
  have HS10 := Lib.hid (Nat.le_trans HS9.out hb10.size)
  clear hb10 HRX HRC HO9 HB9 HS9
  generalize hU0 : hk tos id (flz true false fr) ttl pr sl dl 0 (S + n) os = U0 at *
  have HU0 := Lib.hid hU0.symm
  clear hU0
  have hcw6 : ∀ j, j < N → u10.cell? ⟨gw, j, none⟩ = (U0.map (Value.int .u8))[j]? := fun j hj => OW.out.cellAt j (by omega)
  have j6 : u10.cell? ⟨gw, 10, none⟩ = some (.int .u8 (U0.getD 10 0)) := by
    rw [hcw6 10 (by omega), List.getElem?_map, List.getElem?_eq_getElem (by rw [HLEN.out]; omega), List.getD_eq_getElem?_getD, List.getElem?_eq_getElem (by rw [HLEN.out]; omega)]; rfl
  have j7 : u10.cell? ⟨gw, 11, none⟩ = some (.int .u8 (U0.getD 11 0)) := by
    rw [hcw6 11 (by omega), List.getElem?_map, List.getElem?_eq_getElem (by rw [HLEN.out]; omega), List.getD_eq_getElem?_getD, List.getElem?_eq_getElem (by rw [HLEN.out]; omega)]; rfl
  clear hcw6
  have g6 : u10.frozen? ⟨gw, 10, none⟩ = false := OW.out.frozenAt 10
  have g7 : u10.frozen? ⟨gw, 11, none⟩ = false := OW.out.frozenAt 11
  have y6 : (10 : Int) < (N : Int) := by omega
  have y7 : (11 : Int) < (N : Int) := by omega
  generalize U0.getD 10 0 = x10 at *
  generalize U0.getD 11 0 = x11 at *
  obtain ⟨d0, d1⟩ := HCK.out
  have a1 : IntKind.u8.wrap (ck / 256) = ck / 256 := by rw [IntKind.wrap_u8]; omega
  have a2 : IntKind.u8.wrap (ck % 256) = ck % 256 := by rw [IntKind.wrap_u8]; omega
  have OWZ := Lib.hid (own_stored (own_stored OW.out 10 (.int .u8 (ck / 256))) 11 (.int .u8 (ck % 256)))
  have HBZ := Lib.hid ((HB10.out.setCell (p := ⟨gw, 10, none⟩) hgw (.int .u8 (ck / 256))).setCell (p := ⟨gw, 11, none⟩) hgw (.int .u8 (ck % 256)))
  have HSZ2 := Lib.hid (show w.heap.size + 1 ≤ ((u10.setCell ⟨gw, 10, none⟩ (.int .u8 (ck / 256))).setCell ⟨gw, 11, none⟩ (.int .u8 (ck % 256))).heap.size by simpa using HS10.out)
  have P2 := Lib.hid (show N + n ≤ maxLen by unfold maxLen; omega)
  have Q2 := Lib.hid (show (N + n) * 1 ≤ 140737488355328 by omega)
  have RP := Lib.hid (HR.out.below (HB0.out.trans (HBZ.out.mono (Nat.le_succ _))))
  go_wp2_with (at_builtin; refine wpList_append_row rfl (.tmp 92) (.tmp 93) _ rfl (w.heap.size + 1) 5 i0 _ 1 Try.underlying22 HI0.out HZ0.out HZ1.out HZ2.out rfl (.slice (some ⟨gw, 0, none⟩) N cw) N _ rfl OWZ.out A n c w.heap.size (pl.map (.int .u8)) rfl HZ.out (by rw [List.length_map]; exact HL.out) RP.out (ONE.out _) P2.out Q2.out HSZ2.out ?_; intro v12 u12 owna ga; have HO12 := Lib.hid owna; have HB12 := Lib.hid (below_grown HBZ.out OWZ.out (Nat.le_refl _) HSZ2.out ga); clear owna ga)
  go_ret
  have hfin := HO12.out
  have hst : ((U0.map (Value.int .u8)).set 10 (.int .u8 (ck / 256))).set 11 (.int .u8 (ck % 256)) = (hk tos id (flz true false fr) ttl pr sl dl ck (S + n) os).map (Value.int .u8) := by
    rw [HU0.out, ← hk_set tos id (flz true false fr) ttl pr sl dl ck (S + n) os, List.map_set, List.map_set]
  rw [hst, ← List.map_append] at hfin
  have hln : (hk tos id (flz true false fr) ttl pr sl dl ck (S + n) os ++ pl).length = N + n := by rw [List.length_append, hk_len, HOL.out, HL.out, HN.out]
  rw [← hln] at hfin
  exact ⟨_, rfl, own_base hfin (Nat.le_succ _), HB0.out.trans (HB12.out.mono (Nat.le_succ _))⟩
set_option maxRecDepth 100000 in
set_option maxHeartbeats 4000000 in
theorem lawbytes_ft (tos id : Int) (fr ttl pr sl dl : Int) (AO : Option Addr) (no co : Nat) (os : List Int) (A : Option Addr) (n c : Nat) (pl : List Int) (w : World) (hok : okF tos id fr ttl pr sl dl no)
    (hol : os.length = no) (hor : Row w w.heap.size AO (os.map (.int .u8))) (hoz : AO = none → co = 0) (hox : ∀ x ∈ os, 0 ≤ x ∧ x ≤ 255)
    (hl' : pl.length = n) (hn : n ≤ 1000) (hr : Row w w.heap.size A (pl.map (.int .u8))) (hz : A = none → c = 0) (ck : Int) (hck : 65535 - fo (wsum (hk tos id (flz false true fr) ttl pr sl dl 0 (20 + no + n) os)) = ck) :
    Calls Try.prog 29 #[.agg #[.int .i64 tos, .int .i64 id, .bool false, .bool true, .int .i64 fr, .int .i64 ttl, .int .i64 pr, .bool false, .int .u64 0, .int .u64 sl, .bool false, .int .u64 0, .int .u64 dl, .slice AO no co], .slice A n c] w (LBPost w (hk tos id (flz false true fr) ttl pr sl dl ck (20 + no + n) os ++ pl)) := by
  obtain ⟨⟨h1, h2⟩, ⟨h3, h4⟩, ⟨h5, h6⟩, ⟨h7, h8⟩, ⟨h9, h10⟩, ⟨h11, h12⟩, ⟨h13, h14⟩, ho, hm⟩ := hok
  obtain ⟨i0, hi0, hz0, hz1, hz2⟩ := info_parts info_u8
  have HI0 := Lib.hid hi0
  have HZ0 := Lib.hid hz0
  have HZ1 := Lib.hid hz1
  have HZ2 := Lib.hid hz2
  have ONE := Lib.hid (show ∀ l : List Int, ∀ u ∈ l.map (Value.int .u8), u.oneCell' = true from by
    intro l u hu
    rw [List.mem_map] at hu
    obtain ⟨x, _, rfl⟩ := hu
    rfl)
  have HSZ := Lib.hid (show (w.alloc (.cells #[.int .i64 tos, .int .i64 id, .bool false, .bool true, .int .i64 fr, .int .i64 ttl, .int .i64 pr, .bool false, .int .u64 0, .int .u64 sl, .bool false, .int .u64 0, .int .u64 dl, .slice AO no co] 54)).heap.size = w.heap.size + 1 by simp)
  have BOX := Lib.hid (Blk.new w 54 #[.int .i64 tos, .int .i64 id, .bool false, .bool true, .int .i64 fr, .int .i64 ttl, .int .i64 pr, .bool false, .int .u64 0, .int .u64 sl, .bool false, .int .u64 0, .int .u64 dl, .slice AO no co])
  have HB0 := Lib.hid (show Below w.heap.size w (w.alloc (.cells #[.int .i64 tos, .int .i64 id, .bool false, .bool true, .int .i64 fr, .int .i64 ttl, .int .i64 pr, .bool false, .int .u64 0, .int .u64 sl, .bool false, .int .u64 0, .int .u64 dl, .slice AO no co] 54)) from (Below.refl _ _).alloc (Nat.le_refl _) _)
  have HF := Lib.hid (show flz false true fr = (fr + 8192) by simp [flz])
  have HFI := Lib.hid (flz_in false true fr h5 h6)
  rw [HF.out] at HFI
  have hfi := HFI.out
  have HIN := Lib.hid (hk_in tos id (flz false true fr) ttl pr sl dl 0 (20 + no + n) os ⟨h1, h2⟩ ⟨h3, h4⟩ (flz_in false true fr h5 h6) ⟨h7, h8⟩ ⟨h9, h10⟩ ⟨h11, h12⟩ ⟨h13, h14⟩ (by omega) (by omega) (by omega) hox)
  have HCB := Lib.hid (fo_bd _ (wsum_bd _ HIN.out).1)
  have HLEN := Lib.hid (show (hk tos id (flz false true fr) ttl pr sl dl 0 (20 + no + n) os).length = 20 + no by rw [hk_len, hol])
  have HRC := Lib.hid (fun (A : Option Addr) (c : Nat) (W : World) hr => refcheck_any A (20 + no) c (hk tos id (flz false true fr) ttl pr sl dl 0 (20 + no + n) os) W HLEN.out (by omega) hr HIN.out)
  rw [hck] at HRC
  have HCK := Lib.hid (show 0 ≤ ck ∧ ck ≤ 65535 by have := HCB.out; omega)
  have HOR := Lib.hid hor
  have HOZ := Lib.hid hoz
  have HOL := Lib.hid hol
  have HR := Lib.hid hr
  have HZ := Lib.hid hz
  have HL := Lib.hid hl'
  have HTW := Lib.hid (fun (v : Value) (m : Nat) (xs : List Value) (x : Int) (W : World) hown hbase hm hbel x0 x1 => two_any v m xs x (w.heap.size + 1) (w.heap.size + 1) (w.alloc (.cells #[.int .i64 tos, .int .i64 id, .bool false, .bool true, .int .i64 fr, .int .i64 ttl, .int .i64 pr, .bool false, .int .u64 0, .int .u64 sl, .bool false, .int .u64 0, .int .u64 dl, .slice AO no co] 54)) W hown hbase hm hbel (Nat.le_refl _) x0 x1)
  have HQQ := Lib.hid (show (hk tos id (flz false true fr) ttl pr sl dl 0 (20 + no + n) os) = [64 + (20 + (no : Int)) / 4, tos, (20 + (no : Int) + n) / 256, (20 + (no : Int) + n) % 256, id / 256, id % 256, (fr + 8192) / 256, (fr + 8192) % 256, ttl, pr, 0, 0, sl / 65536 / 256, sl / 65536 % 256, sl % 65536 / 256, sl % 65536 % 256, dl / 65536 / 256, dl / 65536 % 256, dl % 65536 / 256, dl % 65536 % 256] ++ os by rw [← hol, HF.out]; rfl)
  clear hi0 hz0 hz1 hz2 hor hoz hol hr hz hl' hox hck HIN HCB
  go_enter Try.func29, Try.ntmps29
  go_wp2_with fail
  have HBV := Lib.hid (Below.refl (w.heap.size + 1) (w.alloc (.cells #[.int .i64 tos, .int .i64 id, .bool false, .bool true, .int .i64 fr, .int .i64 ttl, .int .i64 pr, .bool false, .int .u64 0, .int .u64 sl, .bool false, .int .u64 0, .int .u64 dl, .slice AO no co] 54)))
  generalize w.alloc (.cells #[.int .i64 tos, .int .i64 id, .bool false, .bool true, .int .i64 fr, .int .i64 ttl, .int .i64 pr, .bool false, .int .u64 0, .int .u64 sl, .bool false, .int .u64 0, .int .u64 dl, .slice AO no co] 54) = V at *
  generalize (fr + 8192) = fl at *
  generalize hS : 20 + (no : Int) = S at *
  have HSS := Lib.hid hS
  have s1 : 20 ≤ S := by omega
  have s2 : S ≤ 60 := by omega
  obtain ⟨f1, f2⟩ := hfi
  have q1 : IntKind.i64.wrap (S.tdiv 4) = S / 4 := by rw [Int.tdiv_eq_ediv_of_nonneg (by omega), IntKind.wrap_i64]; omega
  have q2 : IntKind.i64.wrap (64 + S / 4) = 64 + S / 4 := by rw [IntKind.wrap_i64]; omega
  have q3 : IntKind.u8.wrap (64 + S / 4) = 64 + S / 4 := by rw [IntKind.wrap_u8]; omega
  have q4 : IntKind.u8.wrap tos = tos := by rw [IntKind.wrap_u8]; omega
  have q5 : IntKind.i64.wrap (S + (n : Int)) = S + (n : Int) := by rw [IntKind.wrap_i64]; omega
  have E1 := Lib.hid (show 0 ≤ S + (n : Int) ∧ S + (n : Int) ≤ 65535 by omega)
  have E2 := Lib.hid (show 0 ≤ id ∧ id ≤ 65535 by omega)
  have E3 := Lib.hid (show 0 ≤ fl ∧ fl ≤ 65535 by omega)
  have E4 := Lib.hid (show 0 ≤ sl / 65536 ∧ sl / 65536 ≤ 65535 by omega)
  have E5 := Lib.hid (show 0 ≤ sl % 65536 ∧ sl % 65536 ≤ 65535 by omega)
  have E6 := Lib.hid (show 0 ≤ dl / 65536 ∧ dl / 65536 ≤ 65535 by omega)
  have E7 := Lib.hid (show 0 ≤ dl % 65536 ∧ dl % 65536 ≤ 65535 by omega)
  have X4 := Lib.hid (show IntKind.i64.wrap (sl / 65536) = sl / 65536 ∧ IntKind.i64.wrap (sl % 65536) = sl % 65536 ∧ IntKind.u64.wrap (sl.tdiv 65536) = sl / 65536 ∧ sl.tmod 65536 = sl % 65536 from ⟨by rw [IntKind.wrap_i64]; omega, by rw [IntKind.wrap_i64]; omega, by rw [Int.tdiv_eq_ediv_of_nonneg (by omega), IntKind.wrap_u64]; omega, Int.tmod_eq_emod_of_nonneg (by omega)⟩)
  have X6 := Lib.hid (show IntKind.i64.wrap (dl / 65536) = dl / 65536 ∧ IntKind.i64.wrap (dl % 65536) = dl % 65536 ∧ IntKind.u64.wrap (dl.tdiv 65536) = dl / 65536 ∧ dl.tmod 65536 = dl % 65536 from ⟨by rw [IntKind.wrap_i64]; omega, by rw [IntKind.wrap_i64]; omega, by rw [Int.tdiv_eq_ediv_of_nonneg (by omega), IntKind.wrap_u64]; omega, Int.tmod_eq_emod_of_nonneg (by omega)⟩)
  clear hS
  have HKV := Lib.hid (show V.drew.cell? ⟨w.heap.size, 0, none⟩ = some (.int .i64 tos) ∧ V.drew.cell? ⟨w.heap.size, 1, none⟩ = some (.int .i64 id) from ⟨(HBV.out.drew.cell (p := ⟨w.heap.size, 0, none⟩) (Nat.lt_succ_self _)).trans (BOX.out.cell 0), (HBV.out.drew.cell (p := ⟨w.heap.size, 1, none⟩) (Nat.lt_succ_self _)).trans (BOX.out.cell 1)⟩)
  have SZV := Lib.hid (show w.heap.size + 1 ≤ V.heap.size from Nat.le_of_eq HSZ.out.symm)
  have HBE := Lib.hid (show Below (w.heap.size + 1) V (V.alloc (.cells #[.int .u8 (64 + S / 4), .int .u8 tos] 5)).drew from (HBV.out.alloc SZV.out _).drew)
  have SZE := Lib.hid (show w.heap.size + 1 ≤ (V.alloc (.cells #[.int .u8 (64 + S / 4), .int .u8 tos] 5)).drew.heap.size from Nat.le_trans SZV.out HBE.out.size)
  have HOE := Lib.hid (show (V.alloc (.cells #[.int .u8 (64 + S / 4), .int .u8 tos] 5)).drew.ownsRow (w.heap.size + 1) 5 1 (.slice (some ⟨V.heap.size, 0, none⟩) 2 2) 2 (([64 + S / 4, tos] : List Int).map (.int .u8)) from World.ownsRow_lit (base := w.heap.size + 1) (e := 5) (size := 1) V #[.int .u8 (64 + S / 4), .int .u8 tos] 2 SZV.out (by unfold maxLen; omega) rfl)
  have HKE := Lib.hid (show (V.alloc (.cells #[.int .u8 (64 + S / 4), .int .u8 tos] 5)).drew.cell? ⟨w.heap.size, 0, none⟩ = some (.int .i64 tos) ∧ (V.alloc (.cells #[.int .u8 (64 + S / 4), .int .u8 tos] 5)).drew.cell? ⟨w.heap.size, 1, none⟩ = some (.int .i64 id) from ⟨(HBE.out.cell (p := ⟨w.heap.size, 0, none⟩) (Nat.lt_succ_self _)).trans (BOX.out.cell 0), (HBE.out.cell (p := ⟨w.heap.size, 1, none⟩) (Nat.lt_succ_self _)).trans (BOX.out.cell 1)⟩)
  go_region_held3 (fun w' => w'.cell? ⟨w.heap.size, 0, none⟩ = some (.int .i64 tos) ∧ w'.cell? ⟨w.heap.size, 1, none⟩ = some (.int .i64 id)) (first | with_reducible assumption | with_reducible exact HK3.out | with_reducible exact HK2.out | with_reducible exact HK1.out | with_reducible exact HKE.out | with_reducible exact HKV.out) (first
    | (go_at_call 65; (with_reducible refine (HTW.out v2 6 (([64 + S / 4, tos, (S + (n : Int)) / 256, (S + (n : Int)) % 256, id / 256, id % 256] : List Int).map (.int .u8)) fl u2 HO2.out HS2.out (by omega) HB2.out E3.out.1 E3.out.2).mono ?_); rintro e u3 ⟨v3, rfl, own_, bel_, siz_⟩; have HO3 := Lib.hid (show u3.ownsRow (w.heap.size + 1) 5 1 v3 8 (([64 + S / 4, tos, (S + (n : Int)) / 256, (S + (n : Int)) % 256, id / 256, id % 256, fl / 256, fl % 256] : List Int).map (.int .u8)) from own_); have HB3 := Lib.hid bel_; have HS3 := Lib.hid siz_; have HK3 := Lib.hid (show u3.cell? ⟨w.heap.size, 0, none⟩ = some (.int .i64 tos) ∧ u3.cell? ⟨w.heap.size, 1, none⟩ = some (.int .i64 id) from ⟨(bel_.cell (p := ⟨w.heap.size, 0, none⟩) (Nat.lt_succ_self _)).trans (BOX.out.cell 0), (bel_.cell (p := ⟨w.heap.size, 1, none⟩) (Nat.lt_succ_self _)).trans (BOX.out.cell 1)⟩); clear own_ bel_ siz_)
    | (go_at_call 65; (with_reducible refine (HTW.out v1 4 (([64 + S / 4, tos, (S + (n : Int)) / 256, (S + (n : Int)) % 256] : List Int).map (.int .u8)) id u1 HO1.out HS1.out (by omega) HB1.out E2.out.1 E2.out.2).mono ?_); rintro e u2 ⟨v2, rfl, own_, bel_, siz_⟩; have HO2 := Lib.hid (show u2.ownsRow (w.heap.size + 1) 5 1 v2 6 (([64 + S / 4, tos, (S + (n : Int)) / 256, (S + (n : Int)) % 256, id / 256, id % 256] : List Int).map (.int .u8)) from own_); have HB2 := Lib.hid bel_; have HS2 := Lib.hid siz_; have HK2 := Lib.hid (show u2.cell? ⟨w.heap.size, 0, none⟩ = some (.int .i64 tos) ∧ u2.cell? ⟨w.heap.size, 1, none⟩ = some (.int .i64 id) from ⟨(bel_.cell (p := ⟨w.heap.size, 0, none⟩) (Nat.lt_succ_self _)).trans (BOX.out.cell 0), (bel_.cell (p := ⟨w.heap.size, 1, none⟩) (Nat.lt_succ_self _)).trans (BOX.out.cell 1)⟩); clear own_ bel_ siz_)
    | (go_at_call 65; (with_reducible refine (HTW.out (.slice (some ⟨V.heap.size, 0, none⟩) 2 2) 2 (([64 + S / 4, tos] : List Int).map (.int .u8)) (S + (n : Int)) (V.alloc (.cells #[.int .u8 (64 + S / 4), .int .u8 tos] 5)).drew HOE.out SZE.out (by omega) HBE.out E1.out.1 E1.out.2).mono ?_); rintro e u1 ⟨v1, rfl, own_, bel_, siz_⟩; have HO1 := Lib.hid (show u1.ownsRow (w.heap.size + 1) 5 1 v1 4 (([64 + S / 4, tos, (S + (n : Int)) / 256, (S + (n : Int)) % 256] : List Int).map (.int .u8)) from own_); have HB1 := Lib.hid bel_; have HS1 := Lib.hid siz_; have HK1 := Lib.hid (show u1.cell? ⟨w.heap.size, 0, none⟩ = some (.int .i64 tos) ∧ u1.cell? ⟨w.heap.size, 1, none⟩ = some (.int .i64 id) from ⟨(bel_.cell (p := ⟨w.heap.size, 0, none⟩) (Nat.lt_succ_self _)).trans (BOX.out.cell 0), (bel_.cell (p := ⟨w.heap.size, 1, none⟩) (Nat.lt_succ_self _)).trans (BOX.out.cell 1)⟩); clear own_ bel_ siz_))
  clear HKV HKE HBE SZE HOE q1 q2 q3 q4 q5 HK1 HK2 HK3 HO1 HO2 HB1 HB2
  have o5 : u3.cell? ⟨w.heap.size, 5, none⟩ = some (.int .i64 ttl) := (HB3.out.cell (p := ⟨w.heap.size, 5, none⟩) (Nat.lt_succ_self _)).trans (BOX.out.cell 5)
  have o6 : u3.cell? ⟨w.heap.size, 6, none⟩ = some (.int .i64 pr) := (HB3.out.cell (p := ⟨w.heap.size, 6, none⟩) (Nat.lt_succ_self _)).trans (BOX.out.cell 6)
  have q6 : IntKind.u8.wrap ttl = ttl := by rw [IntKind.wrap_u8]; omega
  have q7 : IntKind.u8.wrap pr = pr := by rw [IntKind.wrap_u8]; omega
  have HOI := Lib.hid (HO3.out.alloc (.cells #[.int .u8 ttl, .int .u8 pr, .int .u8 0, .int .u8 0] 5))
  have HBI := Lib.hid (HB3.out.alloc HS3.out (.cells #[.int .u8 ttl, .int .u8 pr, .int .u8 0, .int .u8 0] 5))
  have HRI := Lib.hid (show Row (u3.alloc (.cells #[.int .u8 ttl, .int .u8 pr, .int .u8 0, .int .u8 0] 5)) (u3.heap.size + 1) (some ⟨u3.heap.size, 0, none⟩) [.int .u8 ttl, .int .u8 pr, .int .u8 0, .int .u8 0] from (Go.Proofs.Ytgikoljnmmnkkaa.sumC.row_blk (Blk.new u3 5 #[.int .u8 ttl, .int .u8 pr, .int .u8 0, .int .u8 0])).more (by simp))
  have ONI := Lib.hid (show ∀ u ∈ ([.int .u8 ttl, .int .u8 pr, .int .u8 0, .int .u8 0] : List Value), u.oneCell' = true from by intro u hu; simp at hu; rcases hu with rfl | rfl | rfl <;> rfl)
  have M1 := Lib.hid (show 8 + 4 ≤ maxLen by unfold maxLen; omega)
  have M3 := Lib.hid (show w.heap.size + 1 ≤ (u3.alloc (.cells #[.int .u8 ttl, .int .u8 pr, .int .u8 0, .int .u8 0] 5)).heap.size from Nat.le_trans HS3.out ((Below.refl 0 _).alloc (Nat.zero_le _) _).size)
  go_wp2_with (at_builtin; refine wpList_append_row rfl (.tmp 41) (.tmp 48) _ rfl (w.heap.size + 1) 5 i0 _ 1 Try.underlying22 HI0.out HZ0.out HZ1.out HZ2.out rfl v3 8 _ rfl HOI.out (some ⟨u3.heap.size, 0, none⟩) 4 4 (u3.heap.size + 1) [.int .u8 ttl, .int .u8 pr, .int .u8 0, .int .u8 0] rfl (by intro h; cases h) rfl HRI.out ONI.out M1.out (by omega) M3.out ?_; intro v4 u4 owna ga; have HO4 := Lib.hid (show u4.ownsRow (w.heap.size + 1) 5 1 v4 12 (([64 + S / 4, tos, (S + (n : Int)) / 256, (S + (n : Int)) % 256, id / 256, id % 256, fl / 256, fl % 256, ttl, pr, 0, 0] : List Int).map (.int .u8)) from owna); have HB4 := Lib.hid (below_grown HBI.out HOI.out (Nat.le_refl _) M3.out ga); have HS4 := Lib.hid (Nat.le_trans M3.out ga.size); clear owna ga)
  clear q6 q7 o5 o6 HOI HBI HRI ONI M1 M3 HO3 HB3 HS3
  obtain ⟨q1, q2, q3, q4⟩ := X4.out
  have HKV := Lib.hid (show u4.drew.cell? ⟨w.heap.size, 9, none⟩ = some (.int .u64 sl) from (HB4.out.drew.cell (p := ⟨w.heap.size, 9, none⟩) (Nat.lt_succ_self _)).trans (BOX.out.cell 9))
  have HBE := Lib.hid (show Below (w.heap.size + 1) V u4.drew from HB4.out.drew)
  have SZE := Lib.hid (show w.heap.size + 1 ≤ u4.drew.heap.size from HS4.out)
  have HOE := Lib.hid (show u4.drew.ownsRow (w.heap.size + 1) 5 1 v4 12 (([64 + S / 4, tos, (S + (n : Int)) / 256, (S + (n : Int)) % 256, id / 256, id % 256, fl / 256, fl % 256, ttl, pr, 0, 0] : List Int).map (.int .u8)) from HO4.out)
  go_region_held3 (fun w' => w'.cell? ⟨w.heap.size, 9, none⟩ = some (.int .u64 sl)) (first | with_reducible assumption | with_reducible exact HK6.out | with_reducible exact HK5.out | with_reducible exact HKV.out) (first
    | (go_at_call 65; (with_reducible refine (HTW.out vu6a 14 (([64 + S / 4, tos, (S + (n : Int)) / 256, (S + (n : Int)) % 256, id / 256, id % 256, fl / 256, fl % 256, ttl, pr, 0, 0, (sl / 65536) / 256, (sl / 65536) % 256] : List Int).map (.int .u8)) (sl % 65536) u6a HO5.out HS5.out (by omega) HB5.out E5.out.1 E5.out.2).mono ?_); rintro e u6 ⟨vu6, rfl, own_, bel_, siz_⟩; have HO6 := Lib.hid (show u6.ownsRow (w.heap.size + 1) 5 1 vu6 16 (([64 + S / 4, tos, (S + (n : Int)) / 256, (S + (n : Int)) % 256, id / 256, id % 256, fl / 256, fl % 256, ttl, pr, 0, 0, (sl / 65536) / 256, (sl / 65536) % 256, (sl % 65536) / 256, (sl % 65536) % 256] : List Int).map (.int .u8)) from own_); have HB6 := Lib.hid bel_; have HS6 := Lib.hid siz_; have HK6 := Lib.hid (show u6.cell? ⟨w.heap.size, 9, none⟩ = some (.int .u64 sl) from (bel_.cell (p := ⟨w.heap.size, 9, none⟩) (Nat.lt_succ_self _)).trans (BOX.out.cell 9)); clear own_ bel_ siz_)
    | (go_at_call 65; (with_reducible refine (HTW.out v4 12 (([64 + S / 4, tos, (S + (n : Int)) / 256, (S + (n : Int)) % 256, id / 256, id % 256, fl / 256, fl % 256, ttl, pr, 0, 0] : List Int).map (.int .u8)) (sl / 65536) u4.drew HOE.out SZE.out (by omega) HBE.out E4.out.1 E4.out.2).mono ?_); rintro e u6a ⟨vu6a, rfl, own_, bel_, siz_⟩; have HO5 := Lib.hid (show u6a.ownsRow (w.heap.size + 1) 5 1 vu6a 14 (([64 + S / 4, tos, (S + (n : Int)) / 256, (S + (n : Int)) % 256, id / 256, id % 256, fl / 256, fl % 256, ttl, pr, 0, 0, (sl / 65536) / 256, (sl / 65536) % 256] : List Int).map (.int .u8)) from own_); have HB5 := Lib.hid bel_; have HS5 := Lib.hid siz_; have HK5 := Lib.hid (show u6a.cell? ⟨w.heap.size, 9, none⟩ = some (.int .u64 sl) from (bel_.cell (p := ⟨w.heap.size, 9, none⟩) (Nat.lt_succ_self _)).trans (BOX.out.cell 9)); clear own_ bel_ siz_))
  clear HKV HBE SZE HOE q1 q2 q3 q4 HK5 HK6 HO5 HB5 HS5
  clear HO4 HB4 HS4
  go_wp2_with fail
  obtain ⟨q1, q2, q3, q4⟩ := X6.out
  have HKV := Lib.hid (show u6.drew.cell? ⟨w.heap.size, 12, none⟩ = some (.int .u64 dl) from (HB6.out.drew.cell (p := ⟨w.heap.size, 12, none⟩) (Nat.lt_succ_self _)).trans (BOX.out.cell 12))
  have HBE := Lib.hid (show Below (w.heap.size + 1) V u6.drew from HB6.out.drew)
  have SZE := Lib.hid (show w.heap.size + 1 ≤ u6.drew.heap.size from HS6.out)
  have HOE := Lib.hid (show u6.drew.ownsRow (w.heap.size + 1) 5 1 vu6 16 (([64 + S / 4, tos, (S + (n : Int)) / 256, (S + (n : Int)) % 256, id / 256, id % 256, fl / 256, fl % 256, ttl, pr, 0, 0, (sl / 65536) / 256, (sl / 65536) % 256, (sl % 65536) / 256, (sl % 65536) % 256] : List Int).map (.int .u8)) from HO6.out)
  go_region_held3 (fun w' => w'.cell? ⟨w.heap.size, 12, none⟩ = some (.int .u64 dl)) (first | with_reducible assumption | with_reducible exact HK8.out | with_reducible exact HK7.out | with_reducible exact HKV.out) (first
    | (go_at_call 65; (with_reducible refine (HTW.out vu8a 18 (([64 + S / 4, tos, (S + (n : Int)) / 256, (S + (n : Int)) % 256, id / 256, id % 256, fl / 256, fl % 256, ttl, pr, 0, 0, (sl / 65536) / 256, (sl / 65536) % 256, (sl % 65536) / 256, (sl % 65536) % 256, (dl / 65536) / 256, (dl / 65536) % 256] : List Int).map (.int .u8)) (dl % 65536) u8a HO7.out HS7.out (by omega) HB7.out E7.out.1 E7.out.2).mono ?_); rintro e u8 ⟨vu8, rfl, own_, bel_, siz_⟩; have HO8 := Lib.hid (show u8.ownsRow (w.heap.size + 1) 5 1 vu8 20 (([64 + S / 4, tos, (S + (n : Int)) / 256, (S + (n : Int)) % 256, id / 256, id % 256, fl / 256, fl % 256, ttl, pr, 0, 0, (sl / 65536) / 256, (sl / 65536) % 256, (sl % 65536) / 256, (sl % 65536) % 256, (dl / 65536) / 256, (dl / 65536) % 256, (dl % 65536) / 256, (dl % 65536) % 256] : List Int).map (.int .u8)) from own_); have HB8 := Lib.hid bel_; have HS8 := Lib.hid siz_; have HK8 := Lib.hid (show u8.cell? ⟨w.heap.size, 12, none⟩ = some (.int .u64 dl) from (bel_.cell (p := ⟨w.heap.size, 12, none⟩) (Nat.lt_succ_self _)).trans (BOX.out.cell 12)); clear own_ bel_ siz_)
    | (go_at_call 65; (with_reducible refine (HTW.out vu6 16 (([64 + S / 4, tos, (S + (n : Int)) / 256, (S + (n : Int)) % 256, id / 256, id % 256, fl / 256, fl % 256, ttl, pr, 0, 0, (sl / 65536) / 256, (sl / 65536) % 256, (sl % 65536) / 256, (sl % 65536) % 256] : List Int).map (.int .u8)) (dl / 65536) u6.drew HOE.out SZE.out (by omega) HBE.out E6.out.1 E6.out.2).mono ?_); rintro e u8a ⟨vu8a, rfl, own_, bel_, siz_⟩; have HO7 := Lib.hid (show u8a.ownsRow (w.heap.size + 1) 5 1 vu8a 18 (([64 + S / 4, tos, (S + (n : Int)) / 256, (S + (n : Int)) % 256, id / 256, id % 256, fl / 256, fl % 256, ttl, pr, 0, 0, (sl / 65536) / 256, (sl / 65536) % 256, (sl % 65536) / 256, (sl % 65536) % 256, (dl / 65536) / 256, (dl / 65536) % 256] : List Int).map (.int .u8)) from own_); have HB7 := Lib.hid bel_; have HS7 := Lib.hid siz_; have HK7 := Lib.hid (show u8a.cell? ⟨w.heap.size, 12, none⟩ = some (.int .u64 dl) from (bel_.cell (p := ⟨w.heap.size, 12, none⟩) (Nat.lt_succ_self _)).trans (BOX.out.cell 12)); clear own_ bel_ siz_))
  clear HKV HBE SZE HOE q1 q2 q3 q4 HK7 HK8 HO7 HB7 HS7
  clear HO6 HB6 HS6
  have o13 : u8.cell? ⟨w.heap.size, 13, none⟩ = some (.slice AO no co) := (HB8.out.cell (p := ⟨w.heap.size, 13, none⟩) (Nat.lt_succ_self _)).trans (BOX.out.cell 13)
  have P1 := Lib.hid (show 20 + no ≤ maxLen by unfold maxLen; omega)
  have Q1 := Lib.hid (show (20 + no) * 1 ≤ 140737488355328 by omega)
  have RO := Lib.hid (HOR.out.below (HB0.out.trans (HB8.out.mono (Nat.le_succ _))))
  have EQ := Lib.hid (show ([64 + S / 4, tos, (S + (n : Int)) / 256, (S + (n : Int)) % 256, id / 256, id % 256, fl / 256, fl % 256, ttl, pr, 0, 0, (sl / 65536) / 256, (sl / 65536) % 256, (sl % 65536) / 256, (sl % 65536) % 256, (dl / 65536) / 256, (dl / 65536) % 256, (dl % 65536) / 256, (dl % 65536) % 256] : List Int).map (.int .u8) ++ os.map (Value.int .u8) = (hk tos id (flz false true fr) ttl pr sl dl 0 (S + n) os).map (.int .u8) by rw [HQQ.out, List.map_append])
  go_wp2_with (at_builtin; refine wpList_append_row rfl (.tmp 76) (.tmp 78) _ rfl (w.heap.size + 1) 5 i0 _ 1 Try.underlying22 HI0.out HZ0.out HZ1.out HZ2.out rfl vu8 20 _ rfl HO8.out AO no co w.heap.size (os.map (.int .u8)) rfl HOZ.out (by rw [List.length_map]; exact HOL.out) RO.out (ONE.out _) P1.out Q1.out HS8.out ?_; intro v9 u9 owna ga; rw [EQ.out] at owna; have HO9 := Lib.hid owna; have HB9 := Lib.hid (below_grown HB8.out HO8.out (Nat.le_refl _) HS8.out ga); have HS9 := Lib.hid (Nat.le_trans HS8.out ga.size); clear owna ga)
  clear o13 P1 Q1 RO EQ HO8 HB8 HS8
  obtain ⟨N, hN⟩ : ∃ N, N = 20 + no := ⟨_, rfl⟩
  rw [← hN] at HO9 HRC HLEN
  have HN := Lib.hid hN
  have N20 : 20 ≤ N := by omega
  have N60 : N ≤ 60 := by omega
  clear hN
  have ho9 := HO9.out
  obtain ⟨gw, cw, rfl, hgw, gwl, hncw, _, _, _⟩ := own_form ho9 (by omega)
  have HRX := Lib.hid (HRC.out (some ⟨gw, 0, none⟩) cw u9 (own_row ho9))
  clear ho9
  refine HRX.out.mono ?_
  rintro e u10 ⟨rfl, hb10⟩
  have OW := Lib.hid (own_keep HO9.out hb10)
  have HB10 := Lib.hid (HB9.out.trans (hb10.mono HS9.out))
  have HS10 := Lib.hid (Nat.le_trans HS9.out hb10.size)
  clear hb10 HRX HRC HO9 HB9 HS9
  generalize hU0 : hk tos id (flz false true fr) ttl pr sl dl 0 (S + n) os = U0 at *
  have HU0 := Lib.hid hU0.symm
  clear hU0
  have hcw6 : ∀ j, j < N → u10.cell? ⟨gw, j, none⟩ = (U0.map (Value.int .u8))[j]? := fun j hj => OW.out.cellAt j (by omega)
  have j6 : u10.cell? ⟨gw, 10, none⟩ = some (.int .u8 (U0.getD 10 0)) := by
    rw [hcw6 10 (by omega), List.getElem?_map, List.getElem?_eq_getElem (by rw [HLEN.out]; omega), List.getD_eq_getElem?_getD, List.getElem?_eq_getElem (by rw [HLEN.out]; omega)]; rfl
  have j7 : u10.cell? ⟨gw, 11, none⟩ = some (.int .u8 (U0.getD 11 0)) := by
    rw [hcw6 11 (by omega), List.getElem?_map, List.getElem?_eq_getElem (by rw [HLEN.out]; omega), List.getD_eq_getElem?_getD, List.getElem?_eq_getElem (by rw [HLEN.out]; omega)]; rfl
  clear hcw6
  have g6 : u10.frozen? ⟨gw, 10, none⟩ = false := OW.out.frozenAt 10
  have g7 : u10.frozen? ⟨gw, 11, none⟩ = false := OW.out.frozenAt 11
  have y6 : (10 : Int) < (N : Int) := by omega
  have y7 : (11 : Int) < (N : Int) := by omega
  generalize U0.getD 10 0 = x10 at *
  generalize U0.getD 11 0 = x11 at *
  obtain ⟨d0, d1⟩ := HCK.out
  have a1 : IntKind.u8.wrap (ck / 256) = ck / 256 := by rw [IntKind.wrap_u8]; omega
  have a2 : IntKind.u8.wrap (ck % 256) = ck % 256 := by rw [IntKind.wrap_u8]; omega
  have OWZ := Lib.hid (own_stored (own_stored OW.out 10 (.int .u8 (ck / 256))) 11 (.int .u8 (ck % 256)))
  have HBZ := Lib.hid ((HB10.out.setCell (p := ⟨gw, 10, none⟩) hgw (.int .u8 (ck / 256))).setCell (p := ⟨gw, 11, none⟩) hgw (.int .u8 (ck % 256)))
  have HSZ2 := Lib.hid (show w.heap.size + 1 ≤ ((u10.setCell ⟨gw, 10, none⟩ (.int .u8 (ck / 256))).setCell ⟨gw, 11, none⟩ (.int .u8 (ck % 256))).heap.size by simpa using HS10.out)
  have P2 := Lib.hid (show N + n ≤ maxLen by unfold maxLen; omega)
  have Q2 := Lib.hid (show (N + n) * 1 ≤ 140737488355328 by omega)
  have RP := Lib.hid (HR.out.below (HB0.out.trans (HBZ.out.mono (Nat.le_succ _))))
  go_wp2_with (at_builtin; refine wpList_append_row rfl (.tmp 92) (.tmp 93) _ rfl (w.heap.size + 1) 5 i0 _ 1 Try.underlying22 HI0.out HZ0.out HZ1.out HZ2.out rfl (.slice (some ⟨gw, 0, none⟩) N cw) N _ rfl OWZ.out A n c w.heap.size (pl.map (.int .u8)) rfl HZ.out (by rw [List.length_map]; exact HL.out) RP.out (ONE.out _) P2.out Q2.out HSZ2.out ?_; intro v12 u12 owna ga; have HO12 := Lib.hid owna; have HB12 := Lib.hid (below_grown HBZ.out OWZ.out (Nat.le_refl _) HSZ2.out ga); clear owna ga)
  go_ret
  have hfin := HO12.out
  have hst : ((U0.map (Value.int .u8)).set 10 (.int .u8 (ck / 256))).set 11 (.int .u8 (ck % 256)) = (hk tos id (flz false true fr) ttl pr sl dl ck (S + n) os).map (Value.int .u8) := by
    rw [HU0.out, ← hk_set tos id (flz false true fr) ttl pr sl dl ck (S + n) os, List.map_set, List.map_set]
  rw [hst, ← List.map_append] at hfin
  have hln : (hk tos id (flz false true fr) ttl pr sl dl ck (S + n) os ++ pl).length = N + n := by rw [List.length_append, hk_len, HOL.out, HL.out, HN.out]
  rw [← hln] at hfin
  exact ⟨_, rfl, own_base hfin (Nat.le_succ _), HB0.out.trans (HB12.out.mono (Nat.le_succ _))⟩
set_option maxRecDepth 100000 in
set_option maxHeartbeats 4000000 in
theorem lawbytes_tt (tos id : Int) (fr ttl pr sl dl : Int) (AO : Option Addr) (no co : Nat) (os : List Int) (A : Option Addr) (n c : Nat) (pl : List Int) (w : World) (hok : okF tos id fr ttl pr sl dl no)
    (hol : os.length = no) (hor : Row w w.heap.size AO (os.map (.int .u8))) (hoz : AO = none → co = 0) (hox : ∀ x ∈ os, 0 ≤ x ∧ x ≤ 255)
    (hl' : pl.length = n) (hn : n ≤ 1000) (hr : Row w w.heap.size A (pl.map (.int .u8))) (hz : A = none → c = 0) (ck : Int) (hck : 65535 - fo (wsum (hk tos id (flz true true fr) ttl pr sl dl 0 (20 + no + n) os)) = ck) :
    Calls Try.prog 29 #[.agg #[.int .i64 tos, .int .i64 id, .bool true, .bool true, .int .i64 fr, .int .i64 ttl, .int .i64 pr, .bool false, .int .u64 0, .int .u64 sl, .bool false, .int .u64 0, .int .u64 dl, .slice AO no co], .slice A n c] w (LBPost w (hk tos id (flz true true fr) ttl pr sl dl ck (20 + no + n) os ++ pl)) := by
  obtain ⟨⟨h1, h2⟩, ⟨h3, h4⟩, ⟨h5, h6⟩, ⟨h7, h8⟩, ⟨h9, h10⟩, ⟨h11, h12⟩, ⟨h13, h14⟩, ho, hm⟩ := hok
  obtain ⟨i0, hi0, hz0, hz1, hz2⟩ := info_parts info_u8
  have HI0 := Lib.hid hi0
  have HZ0 := Lib.hid hz0
  have HZ1 := Lib.hid hz1
  have HZ2 := Lib.hid hz2
  have ONE := Lib.hid (show ∀ l : List Int, ∀ u ∈ l.map (Value.int .u8), u.oneCell' = true from by
    intro l u hu
    rw [List.mem_map] at hu
    obtain ⟨x, _, rfl⟩ := hu
    rfl)
  have HSZ := Lib.hid (show (w.alloc (.cells #[.int .i64 tos, .int .i64 id, .bool true, .bool true, .int .i64 fr, .int .i64 ttl, .int .i64 pr, .bool false, .int .u64 0, .int .u64 sl, .bool false, .int .u64 0, .int .u64 dl, .slice AO no co] 54)).heap.size = w.heap.size + 1 by simp)
  have BOX := Lib.hid (Blk.new w 54 #[.int .i64 tos, .int .i64 id, .bool true, .bool true, .int .i64 fr, .int .i64 ttl, .int .i64 pr, .bool false, .int .u64 0, .int .u64 sl, .bool false, .int .u64 0, .int .u64 dl, .slice AO no co])
  have HB0 := Lib.hid (show Below w.heap.size w (w.alloc (.cells #[.int .i64 tos, .int .i64 id, .bool true, .bool true, .int .i64 fr, .int .i64 ttl, .int .i64 pr, .bool false, .int .u64 0, .int .u64 sl, .bool false, .int .u64 0, .int .u64 dl, .slice AO no co] 54)) from (Below.refl _ _).alloc (Nat.le_refl _) _)
  have HF := Lib.hid (show flz true true fr = (fr + 16384 + 8192) by simp [flz])
  have HFI := Lib.hid (flz_in true true fr h5 h6)
  rw [HF.out] at HFI
  have hfi := HFI.out
  have HIN := Lib.hid (hk_in tos id (flz true true fr) ttl pr sl dl 0 (20 + no + n) os ⟨h1, h2⟩ ⟨h3, h4⟩ (flz_in true true fr h5 h6) ⟨h7, h8⟩ ⟨h9, h10⟩ ⟨h11, h12⟩ ⟨h13, h14⟩ (by omega) (by omega) (by omega) hox)
  have HCB := Lib.hid (fo_bd _ (wsum_bd _ HIN.out).1)
  have HLEN := Lib.hid (show (hk tos id (flz true true fr) ttl pr sl dl 0 (20 + no + n) os).length = 20 + no by rw [hk_len, hol])
  have HRC := Lib.hid (fun (A : Option Addr) (c : Nat) (W : World) hr => refcheck_any A (20 + no) c (hk tos id (flz true true fr) ttl pr sl dl 0 (20 + no + n) os) W HLEN.out (by omega) hr HIN.out)
  rw [hck] at HRC
  have HCK := Lib.hid (show 0 ≤ ck ∧ ck ≤ 65535 by have := HCB.out; omega)
  have HOR := Lib.hid hor
  have HOZ := Lib.hid hoz
  have HOL := Lib.hid hol
  have HR := Lib.hid hr
  have HZ := Lib.hid hz
  have HL := Lib.hid hl'
  have HTW := Lib.hid (fun (v : Value) (m : Nat) (xs : List Value) (x : Int) (W : World) hown hbase hm hbel x0 x1 => two_any v m xs x (w.heap.size + 1) (w.heap.size + 1) (w.alloc (.cells #[.int .i64 tos, .int .i64 id, .bool true, .bool true, .int .i64 fr, .int .i64 ttl, .int .i64 pr, .bool false, .int .u64 0, .int .u64 sl, .bool false, .int .u64 0, .int .u64 dl, .slice AO no co] 54)) W hown hbase hm hbel (Nat.le_refl _) x0 x1)
  have HQQ := Lib.hid (show (hk tos id (flz true true fr) ttl pr sl dl 0 (20 + no + n) os) = [64 + (20 + (no : Int)) / 4, tos, (20 + (no : Int) + n) / 256, (20 + (no : Int) + n) % 256, id / 256, id % 256, (fr + 16384 + 8192) / 256, (fr + 16384 + 8192) % 256, ttl, pr, 0, 0, sl / 65536 / 256, sl / 65536 % 256, sl % 65536 / 256, sl % 65536 % 256, dl / 65536 / 256, dl / 65536 % 256, dl % 65536 / 256, dl % 65536 % 256] ++ os by rw [← hol, HF.out]; rfl)
  clear hi0 hz0 hz1 hz2 hor hoz hol hr hz hl' hox hck HIN HCB
  go_enter Try.func29, Try.ntmps29
  go_wp2_with fail
  have HBV := Lib.hid (Below.refl (w.heap.size + 1) (w.alloc (.cells #[.int .i64 tos, .int .i64 id, .bool true, .bool true, .int .i64 fr, .int .i64 ttl, .int .i64 pr, .bool false, .int .u64 0, .int .u64 sl, .bool false, .int .u64 0, .int .u64 dl, .slice AO no co] 54)))
  generalize w.alloc (.cells #[.int .i64 tos, .int .i64 id, .bool true, .bool true, .int .i64 fr, .int .i64 ttl, .int .i64 pr, .bool false, .int .u64 0, .int .u64 sl, .bool false, .int .u64 0, .int .u64 dl, .slice AO no co] 54) = V at *
  generalize (fr + 16384 + 8192) = fl at *
  generalize hS : 20 + (no : Int) = S at *
  have HSS := Lib.hid hS
  have s1 : 20 ≤ S := by omega
  have s2 : S ≤ 60 := by omega
  obtain ⟨f1, f2⟩ := hfi
  have q1 : IntKind.i64.wrap (S.tdiv 4) = S / 4 := by rw [Int.tdiv_eq_ediv_of_nonneg (by omega), IntKind.wrap_i64]; omega
  have q2 : IntKind.i64.wrap (64 + S / 4) = 64 + S / 4 := by rw [IntKind.wrap_i64]; omega
  have q3 : IntKind.u8.wrap (64 + S / 4) = 64 + S / 4 := by rw [IntKind.wrap_u8]; omega
  have q4 : IntKind.u8.wrap tos = tos := by rw [IntKind.wrap_u8]; omega
  have q5 : IntKind.i64.wrap (S + (n : Int)) = S + (n : Int) := by rw [IntKind.wrap_i64]; omega
  have E1 := Lib.hid (show 0 ≤ S + (n : Int) ∧ S + (n : Int) ≤ 65535 by omega)
  have E2 := Lib.hid (show 0 ≤ id ∧ id ≤ 65535 by omega)
  have E3 := Lib.hid (show 0 ≤ fl ∧ fl ≤ 65535 by omega)
  have E4 := Lib.hid (show 0 ≤ sl / 65536 ∧ sl / 65536 ≤ 65535 by omega)
  have E5 := Lib.hid (show 0 ≤ sl % 65536 ∧ sl % 65536 ≤ 65535 by omega)
  have E6 := Lib.hid (show 0 ≤ dl / 65536 ∧ dl / 65536 ≤ 65535 by omega)
  have E7 := Lib.hid (show 0 ≤ dl % 65536 ∧ dl % 65536 ≤ 65535 by omega)
  have X4 := Lib.hid (show IntKind.i64.wrap (sl / 65536) = sl / 65536 ∧ IntKind.i64.wrap (sl % 65536) = sl % 65536 ∧ IntKind.u64.wrap (sl.tdiv 65536) = sl / 65536 ∧ sl.tmod 65536 = sl % 65536 from ⟨by rw [IntKind.wrap_i64]; omega, by rw [IntKind.wrap_i64]; omega, by rw [Int.tdiv_eq_ediv_of_nonneg (by omega), IntKind.wrap_u64]; omega, Int.tmod_eq_emod_of_nonneg (by omega)⟩)
  have X6 := Lib.hid (show IntKind.i64.wrap (dl / 65536) = dl / 65536 ∧ IntKind.i64.wrap (dl % 65536) = dl % 65536 ∧ IntKind.u64.wrap (dl.tdiv 65536) = dl / 65536 ∧ dl.tmod 65536 = dl % 65536 from ⟨by rw [IntKind.wrap_i64]; omega, by rw [IntKind.wrap_i64]; omega, by rw [Int.tdiv_eq_ediv_of_nonneg (by omega), IntKind.wrap_u64]; omega, Int.tmod_eq_emod_of_nonneg (by omega)⟩)
  clear hS
  have HKV := Lib.hid (show V.drew.cell? ⟨w.heap.size, 0, none⟩ = some (.int .i64 tos) ∧ V.drew.cell? ⟨w.heap.size, 1, none⟩ = some (.int .i64 id) from ⟨(HBV.out.drew.cell (p := ⟨w.heap.size, 0, none⟩) (Nat.lt_succ_self _)).trans (BOX.out.cell 0), (HBV.out.drew.cell (p := ⟨w.heap.size, 1, none⟩) (Nat.lt_succ_self _)).trans (BOX.out.cell 1)⟩)
  have SZV := Lib.hid (show w.heap.size + 1 ≤ V.heap.size from Nat.le_of_eq HSZ.out.symm)
  have HBE := Lib.hid (show Below (w.heap.size + 1) V (V.alloc (.cells #[.int .u8 (64 + S / 4), .int .u8 tos] 5)).drew from (HBV.out.alloc SZV.out _).drew)
  have SZE := Lib.hid (show w.heap.size + 1 ≤ (V.alloc (.cells #[.int .u8 (64 + S / 4), .int .u8 tos] 5)).drew.heap.size from Nat.le_trans SZV.out HBE.out.size)
  have HOE := Lib.hid (show (V.alloc (.cells #[.int .u8 (64 + S / 4), .int .u8 tos] 5)).drew.ownsRow (w.heap.size + 1) 5 1 (.slice (some ⟨V.heap.size, 0, none⟩) 2 2) 2 (([64 + S / 4, tos] : List Int).map (.int .u8)) from World.ownsRow_lit (base := w.heap.size + 1) (e := 5) (size := 1) V #[.int .u8 (64 + S / 4), .int .u8 tos] 2 SZV.out (by unfold maxLen; omega) rfl)
  have HKE := Lib.hid (show (V.alloc (.cells #[.int .u8 (64 + S / 4), .int .u8 tos] 5)).drew.cell? ⟨w.heap.size, 0, none⟩ = some (.int .i64 tos) ∧ (V.alloc (.cells #[.int .u8 (64 + S / 4), .int .u8 tos] 5)).drew.cell? ⟨w.heap.size, 1, none⟩ = some (.int .i64 id) from ⟨(HBE.out.cell (p := ⟨w.heap.size, 0, none⟩) (Nat.lt_succ_self _)).trans (BOX.out.cell 0), (HBE.out.cell (p := ⟨w.heap.size, 1, none⟩) (Nat.lt_succ_self _)).trans (BOX.out.cell 1)⟩)
  go_region_held3 (fun w' => w'.cell? ⟨w.heap.size, 0, none⟩ = some (.int .i64 tos) ∧ w'.cell? ⟨w.heap.size, 1, none⟩ = some (.int .i64 id)) (first | with_reducible assumption | with_reducible exact HK3.out | with_reducible exact HK2.out | with_reducible exact HK1.out | with_reducible exact HKE.out | with_reducible exact HKV.out) (first
    | (go_at_call 65; (with_reducible refine (HTW.out v2 6 (([64 + S / 4, tos, (S + (n : Int)) / 256, (S + (n : Int)) % 256, id / 256, id % 256] : List Int).map (.int .u8)) fl u2 HO2.out HS2.out (by omega) HB2.out E3.out.1 E3.out.2).mono ?_); rintro e u3 ⟨v3, rfl, own_, bel_, siz_⟩; have HO3 := Lib.hid (show u3.ownsRow (w.heap.size + 1) 5 1 v3 8 (([64 + S / 4, tos, (S + (n : Int)) / 256, (S + (n : Int)) % 256, id / 256, id % 256, fl / 256, fl % 256] : List Int).map (.int .u8)) from own_); have HB3 := Lib.hid bel_; have HS3 := Lib.hid siz_; have HK3 := Lib.hid (show u3.cell? ⟨w.heap.size, 0, none⟩ = some (.int .i64 tos) ∧ u3.cell? ⟨w.heap.size, 1, none⟩ = some (.int .i64 id) from ⟨(bel_.cell (p := ⟨w.heap.size, 0, none⟩) (Nat.lt_succ_self _)).trans (BOX.out.cell 0), (bel_.cell (p := ⟨w.heap.size, 1, none⟩) (Nat.lt_succ_self _)).trans (BOX.out.cell 1)⟩); clear own_ bel_ siz_)
    | (go_at_call 65; (with_reducible refine (HTW.out v1 4 (([64 + S / 4, tos, (S + (n : Int)) / 256, (S + (n : Int)) % 256] : List Int).map (.int .u8)) id u1 HO1.out HS1.out (by omega) HB1.out E2.out.1 E2.out.2).mono ?_); rintro e u2 ⟨v2, rfl, own_, bel_, siz_⟩; have HO2 := Lib.hid (show u2.ownsRow (w.heap.size + 1) 5 1 v2 6 (([64 + S / 4, tos, (S + (n : Int)) / 256, (S + (n : Int)) % 256, id / 256, id % 256] : List Int).map (.int .u8)) from own_); have HB2 := Lib.hid bel_; have HS2 := Lib.hid siz_; have HK2 := Lib.hid (show u2.cell? ⟨w.heap.size, 0, none⟩ = some (.int .i64 tos) ∧ u2.cell? ⟨w.heap.size, 1, none⟩ = some (.int .i64 id) from ⟨(bel_.cell (p := ⟨w.heap.size, 0, none⟩) (Nat.lt_succ_self _)).trans (BOX.out.cell 0), (bel_.cell (p := ⟨w.heap.size, 1, none⟩) (Nat.lt_succ_self _)).trans (BOX.out.cell 1)⟩); clear own_ bel_ siz_)
    | (go_at_call 65; (with_reducible refine (HTW.out (.slice (some ⟨V.heap.size, 0, none⟩) 2 2) 2 (([64 + S / 4, tos] : List Int).map (.int .u8)) (S + (n : Int)) (V.alloc (.cells #[.int .u8 (64 + S / 4), .int .u8 tos] 5)).drew HOE.out SZE.out (by omega) HBE.out E1.out.1 E1.out.2).mono ?_); rintro e u1 ⟨v1, rfl, own_, bel_, siz_⟩; have HO1 := Lib.hid (show u1.ownsRow (w.heap.size + 1) 5 1 v1 4 (([64 + S / 4, tos, (S + (n : Int)) / 256, (S + (n : Int)) % 256] : List Int).map (.int .u8)) from own_); have HB1 := Lib.hid bel_; have HS1 := Lib.hid siz_; have HK1 := Lib.hid (show u1.cell? ⟨w.heap.size, 0, none⟩ = some (.int .i64 tos) ∧ u1.cell? ⟨w.heap.size, 1, none⟩ = some (.int .i64 id) from ⟨(bel_.cell (p := ⟨w.heap.size, 0, none⟩) (Nat.lt_succ_self _)).trans (BOX.out.cell 0), (bel_.cell (p := ⟨w.heap.size, 1, none⟩) (Nat.lt_succ_self _)).trans (BOX.out.cell 1)⟩); clear own_ bel_ siz_))
  clear HKV HKE HBE SZE HOE q1 q2 q3 q4 q5 HK1 HK2 HK3 HO1 HO2 HB1 HB2
  have o5 : u3.cell? ⟨w.heap.size, 5, none⟩ = some (.int .i64 ttl) := (HB3.out.cell (p := ⟨w.heap.size, 5, none⟩) (Nat.lt_succ_self _)).trans (BOX.out.cell 5)
  have o6 : u3.cell? ⟨w.heap.size, 6, none⟩ = some (.int .i64 pr) := (HB3.out.cell (p := ⟨w.heap.size, 6, none⟩) (Nat.lt_succ_self _)).trans (BOX.out.cell 6)
  have q6 : IntKind.u8.wrap ttl = ttl := by rw [IntKind.wrap_u8]; omega
  have q7 : IntKind.u8.wrap pr = pr := by rw [IntKind.wrap_u8]; omega
  have HOI := Lib.hid (HO3.out.alloc (.cells #[.int .u8 ttl, .int .u8 pr, .int .u8 0, .int .u8 0] 5))
  have HBI := Lib.hid (HB3.out.alloc HS3.out (.cells #[.int .u8 ttl, .int .u8 pr, .int .u8 0, .int .u8 0] 5))
  have HRI := Lib.hid (show Row (u3.alloc (.cells #[.int .u8 ttl, .int .u8 pr, .int .u8 0, .int .u8 0] 5)) (u3.heap.size + 1) (some ⟨u3.heap.size, 0, none⟩) [.int .u8 ttl, .int .u8 pr, .int .u8 0, .int .u8 0] from (Go.Proofs.Ytgikoljnmmnkkaa.sumC.row_blk (Blk.new u3 5 #[.int .u8 ttl, .int .u8 pr, .int .u8 0, .int .u8 0])).more (by simp))
  have ONI := Lib.hid (show ∀ u ∈ ([.int .u8 ttl, .int .u8 pr, .int .u8 0, .int .u8 0] : List Value), u.oneCell' = true from by intro u hu; simp at hu; rcases hu with rfl | rfl | rfl <;> rfl)
  have M1 := Lib.hid (show 8 + 4 ≤ maxLen by unfold maxLen; omega)
  have M3 := Lib.hid (show w.heap.size + 1 ≤ (u3.alloc (.cells #[.int .u8 ttl, .int .u8 pr, .int .u8 0, .int .u8 0] 5)).heap.size from Nat.le_trans HS3.out ((Below.refl 0 _).alloc (Nat.zero_le _) _).size)
  go_wp2_with (at_builtin; refine wpList_append_row rfl (.tmp 41) (.tmp 48) _ rfl (w.heap.size + 1) 5 i0 _ 1 Try.underlying22 HI0.out HZ0.out HZ1.out HZ2.out rfl v3 8 _ rfl HOI.out (some ⟨u3.heap.size, 0, none⟩) 4 4 (u3.heap.size + 1) [.int .u8 ttl, .int .u8 pr, .int .u8 0, .int .u8 0] rfl (by intro h; cases h) rfl HRI.out ONI.out M1.out (by omega) M3.out ?_; intro v4 u4 owna ga; have HO4 := Lib.hid (show u4.ownsRow (w.heap.size + 1) 5 1 v4 12 (([64 + S / 4, tos, (S + (n : Int)) / 256, (S + (n : Int)) % 256, id / 256, id % 256, fl / 256, fl % 256, ttl, pr, 0, 0] : List Int).map (.int .u8)) from owna); have HB4 := Lib.hid (below_grown HBI.out HOI.out (Nat.le_refl _) M3.out ga); have HS4 := Lib.hid (Nat.le_trans M3.out ga.size); clear owna ga)
  clear q6 q7 o5 o6 HOI HBI HRI ONI M1 M3 HO3 HB3 HS3
  obtain ⟨q1, q2, q3, q4⟩ := X4.out
  have HKV := Lib.hid (show u4.drew.cell? ⟨w.heap.size, 9, none⟩ = some (.int .u64 sl) from (HB4.out.drew.cell (p := ⟨w.heap.size, 9, none⟩) (Nat.lt_succ_self _)).trans (BOX.out.cell 9))
  have HBE := Lib.hid (show Below (w.heap.size + 1) V u4.drew from HB4.out.drew)
  have SZE := Lib.hid (show w.heap.size + 1 ≤ u4.drew.heap.size from HS4.out)
  have HOE := Lib.hid (show u4.drew.ownsRow (w.heap.size + 1) 5 1 v4 12 (([64 + S / 4, tos, (S + (n : Int)) / 256, (S + (n : Int)) % 256, id / 256, id % 256, fl / 256, fl % 256, ttl, pr, 0, 0] : List Int).map (.int .u8)) from HO4.out)
  go_region_held3 (fun w' => w'.cell? ⟨w.heap.size, 9, none⟩ = some (.int .u64 sl)) (first | with_reducible assumption | with_reducible exact HK6.out | with_reducible exact HK5.out | with_reducible exact HKV.out) (first
    | (go_at_call 65; (with_reducible refine (HTW.out vu6a 14 (([64 + S / 4, tos, (S + (n : Int)) / 256, (S + (n : Int)) % 256, id / 256, id % 256, fl / 256, fl % 256, ttl, pr, 0, 0, (sl / 65536) / 256, (sl / 65536) % 256] : List Int).map (.int .u8)) (sl % 65536) u6a HO5.out HS5.out (by omega) HB5.out E5.out.1 E5.out.2).mono ?_); rintro e u6 ⟨vu6, rfl, own_, bel_, siz_⟩; have HO6 := Lib.hid (show u6.ownsRow (w.heap.size + 1) 5 1 vu6 16 (([64 + S / 4, tos, (S + (n : Int)) / 256, (S + (n : Int)) % 256, id / 256, id % 256, fl / 256, fl % 256, ttl, pr, 0, 0, (sl / 65536) / 256, (sl / 65536) % 256, (sl % 65536) / 256, (sl % 65536) % 256] : List Int).map (.int .u8)) from own_); have HB6 := Lib.hid bel_; have HS6 := Lib.hid siz_; have HK6 := Lib.hid (show u6.cell? ⟨w.heap.size, 9, none⟩ = some (.int .u64 sl) from (bel_.cell (p := ⟨w.heap.size, 9, none⟩) (Nat.lt_succ_self _)).trans (BOX.out.cell 9)); clear own_ bel_ siz_)
    | (go_at_call 65; (with_reducible refine (HTW.out v4 12 (([64 + S / 4, tos, (S + (n : Int)) / 256, (S + (n : Int)) % 256, id / 256, id % 256, fl / 256, fl % 256, ttl, pr, 0, 0] : List Int).map (.int .u8)) (sl / 65536) u4.drew HOE.out SZE.out (by omega) HBE.out E4.out.1 E4.out.2).mono ?_); rintro e u6a ⟨vu6a, rfl, own_, bel_, siz_⟩; have HO5 := Lib.hid (show u6a.ownsRow (w.heap.size + 1) 5 1 vu6a 14 (([64 + S / 4, tos, (S + (n : Int)) / 256, (S + (n : Int)) % 256, id / 256, id % 256, fl / 256, fl % 256, ttl, pr, 0, 0, (sl / 65536) / 256, (sl / 65536) % 256] : List Int).map (.int .u8)) from own_); have HB5 := Lib.hid bel_; have HS5 := Lib.hid siz_; have HK5 := Lib.hid (show u6a.cell? ⟨w.heap.size, 9, none⟩ = some (.int .u64 sl) from (bel_.cell (p := ⟨w.heap.size, 9, none⟩) (Nat.lt_succ_self _)).trans (BOX.out.cell 9)); clear own_ bel_ siz_))
  clear HKV HBE SZE HOE q1 q2 q3 q4 HK5 HK6 HO5 HB5 HS5
  clear HO4 HB4 HS4
  go_wp2_with fail
  obtain ⟨q1, q2, q3, q4⟩ := X6.out
  have HKV := Lib.hid (show u6.drew.cell? ⟨w.heap.size, 12, none⟩ = some (.int .u64 dl) from (HB6.out.drew.cell (p := ⟨w.heap.size, 12, none⟩) (Nat.lt_succ_self _)).trans (BOX.out.cell 12))
  have HBE := Lib.hid (show Below (w.heap.size + 1) V u6.drew from HB6.out.drew)
  have SZE := Lib.hid (show w.heap.size + 1 ≤ u6.drew.heap.size from HS6.out)
  have HOE := Lib.hid (show u6.drew.ownsRow (w.heap.size + 1) 5 1 vu6 16 (([64 + S / 4, tos, (S + (n : Int)) / 256, (S + (n : Int)) % 256, id / 256, id % 256, fl / 256, fl % 256, ttl, pr, 0, 0, (sl / 65536) / 256, (sl / 65536) % 256, (sl % 65536) / 256, (sl % 65536) % 256] : List Int).map (.int .u8)) from HO6.out)
  go_region_held3 (fun w' => w'.cell? ⟨w.heap.size, 12, none⟩ = some (.int .u64 dl)) (first | with_reducible assumption | with_reducible exact HK8.out | with_reducible exact HK7.out | with_reducible exact HKV.out) (first
    | (go_at_call 65; (with_reducible refine (HTW.out vu8a 18 (([64 + S / 4, tos, (S + (n : Int)) / 256, (S + (n : Int)) % 256, id / 256, id % 256, fl / 256, fl % 256, ttl, pr, 0, 0, (sl / 65536) / 256, (sl / 65536) % 256, (sl % 65536) / 256, (sl % 65536) % 256, (dl / 65536) / 256, (dl / 65536) % 256] : List Int).map (.int .u8)) (dl % 65536) u8a HO7.out HS7.out (by omega) HB7.out E7.out.1 E7.out.2).mono ?_); rintro e u8 ⟨vu8, rfl, own_, bel_, siz_⟩; have HO8 := Lib.hid (show u8.ownsRow (w.heap.size + 1) 5 1 vu8 20 (([64 + S / 4, tos, (S + (n : Int)) / 256, (S + (n : Int)) % 256, id / 256, id % 256, fl / 256, fl % 256, ttl, pr, 0, 0, (sl / 65536) / 256, (sl / 65536) % 256, (sl % 65536) / 256, (sl % 65536) % 256, (dl / 65536) / 256, (dl / 65536) % 256, (dl % 65536) / 256, (dl % 65536) % 256] : List Int).map (.int .u8)) from own_); have HB8 := Lib.hid bel_; have HS8 := Lib.hid siz_; have HK8 := Lib.hid (show u8.cell? ⟨w.heap.size, 12, none⟩ = some (.int .u64 dl) from (bel_.cell (p := ⟨w.heap.size, 12, none⟩) (Nat.lt_succ_self _)).trans (BOX.out.cell 12)); clear own_ bel_ siz_)
    | (go_at_call 65; (with_reducible refine (HTW.out vu6 16 (([64 + S / 4, tos, (S + (n : Int)) / 256, (S + (n : Int)) % 256, id / 256, id % 256, fl / 256, fl % 256, ttl, pr, 0, 0, (sl / 65536) / 256, (sl / 65536) % 256, (sl % 65536) / 256, (sl % 65536) % 256] : List Int).map (.int .u8)) (dl / 65536) u6.drew HOE.out SZE.out (by omega) HBE.out E6.out.1 E6.out.2).mono ?_); rintro e u8a ⟨vu8a, rfl, own_, bel_, siz_⟩; have HO7 := Lib.hid (show u8a.ownsRow (w.heap.size + 1) 5 1 vu8a 18 (([64 + S / 4, tos, (S + (n : Int)) / 256, (S + (n : Int)) % 256, id / 256, id % 256, fl / 256, fl % 256, ttl, pr, 0, 0, (sl / 65536) / 256, (sl / 65536) % 256, (sl % 65536) / 256, (sl % 65536) % 256, (dl / 65536) / 256, (dl / 65536) % 256] : List Int).map (.int .u8)) from own_); have HB7 := Lib.hid bel_; have HS7 := Lib.hid siz_; have HK7 := Lib.hid (show u8a.cell? ⟨w.heap.size, 12, none⟩ = some (.int .u64 dl) from (bel_.cell (p := ⟨w.heap.size, 12, none⟩) (Nat.lt_succ_self _)).trans (BOX.out.cell 12)); clear own_ bel_ siz_))
  clear HKV HBE SZE HOE q1 q2 q3 q4 HK7 HK8 HO7 HB7 HS7
  clear HO6 HB6 HS6
  have o13 : u8.cell? ⟨w.heap.size, 13, none⟩ = some (.slice AO no co) := (HB8.out.cell (p := ⟨w.heap.size, 13, none⟩) (Nat.lt_succ_self _)).trans (BOX.out.cell 13)
  have P1 := Lib.hid (show 20 + no ≤ maxLen by unfold maxLen; omega)
  have Q1 := Lib.hid (show (20 + no) * 1 ≤ 140737488355328 by omega)
  have RO := Lib.hid (HOR.out.below (HB0.out.trans (HB8.out.mono (Nat.le_succ _))))
  have EQ := Lib.hid (show ([64 + S / 4, tos, (S + (n : Int)) / 256, (S + (n : Int)) % 256, id / 256, id % 256, fl / 256, fl % 256, ttl, pr, 0, 0, (sl / 65536) / 256, (sl / 65536) % 256, (sl % 65536) / 256, (sl % 65536) % 256, (dl / 65536) / 256, (dl / 65536) % 256, (dl % 65536) / 256, (dl % 65536) % 256] : List Int).map (.int .u8) ++ os.map (Value.int .u8) = (hk tos id (flz true true fr) ttl pr sl dl 0 (S + n) os).map (.int .u8) by rw [HQQ.out, List.map_append])
  go_wp2_with (at_builtin; refine wpList_append_row rfl (.tmp 76) (.tmp 78) _ rfl (w.heap.size + 1) 5 i0 _ 1 Try.underlying22 HI0.out HZ0.out HZ1.out HZ2.out rfl vu8 20 _ rfl HO8.out AO no co w.heap.size (os.map (.int .u8)) rfl HOZ.out (by rw [List.length_map]; exact HOL.out) RO.out (ONE.out _) P1.out Q1.out HS8.out ?_; intro v9 u9 owna ga; rw [EQ.out] at owna; have HO9 := Lib.hid owna; have HB9 := Lib.hid (below_grown HB8.out HO8.out (Nat.le_refl _) HS8.out ga); have HS9 := Lib.hid (Nat.le_trans HS8.out ga.size); clear owna ga)
  clear o13 P1 Q1 RO EQ HO8 HB8 HS8
  obtain ⟨N, hN⟩ : ∃ N, N = 20 + no := ⟨_, rfl⟩
  rw [← hN] at HO9 HRC HLEN
  have HN := Lib.hid hN
  have N20 : 20 ≤ N := by omega
  have N60 : N ≤ 60 := by omega
  clear hN
  have ho9 := HO9.out
  obtain ⟨gw, cw, rfl, hgw, gwl, hncw, _, _, _⟩ := own_form ho9 (by omega)
  have HRX := Lib.hid (HRC.out (some ⟨gw, 0, none⟩) cw u9 (own_row ho9))
  clear ho9
  refine HRX.out.mono ?_
  rintro e u10 ⟨rfl, hb10⟩
  have OW := Lib.hid (own_keep HO9.out hb10)
  have HB10 := Lib.hid (HB9.out.trans (hb10.mono HS9.out))
  have HS10 := Lib.hid (Nat.le_trans HS9.out hb10.size)
  clear hb10 HRX HRC HO9 HB9 HS9
  generalize hU0 : hk tos id (flz true true fr) ttl pr sl dl 0 (S + n) os = U0 at *
  have HU0 := Lib.hid hU0.symm
  clear hU0
  have hcw6 : ∀ j, j < N → u10.cell? ⟨gw, j, none⟩ = (U0.map (Value.int .u8))[j]? := fun j hj => OW.out.cellAt j (by omega)
  have j6 : u10.cell? ⟨gw, 10, none⟩ = some (.int .u8 (U0.getD 10 0)) := by
    rw [hcw6 10 (by omega), List.getElem?_map, List.getElem?_eq_getElem (by rw [HLEN.out]; omega), List.getD_eq_getElem?_getD, List.getElem?_eq_getElem (by rw [HLEN.out]; omega)]; rfl
  have j7 : u10.cell? ⟨gw, 11, none⟩ = some (.int .u8 (U0.getD 11 0)) := by
    rw [hcw6 11 (by omega), List.getElem?_map, List.getElem?_eq_getElem (by rw [HLEN.out]; omega), List.getD_eq_getElem?_getD, List.getElem?_eq_getElem (by rw [HLEN.out]; omega)]; rfl
  clear hcw6
  have g6 : u10.frozen? ⟨gw, 10, none⟩ = false := OW.out.frozenAt 10
  have g7 : u10.frozen? ⟨gw, 11, none⟩ = false := OW.out.frozenAt 11
  have y6 : (10 : Int) < (N : Int) := by omega
  have y7 : (11 : Int) < (N : Int) := by omega
  generalize U0.getD 10 0 = x10 at *
  generalize U0.getD 11 0 = x11 at *
  obtain ⟨d0, d1⟩ := HCK.out
  have a1 : IntKind.u8.wrap (ck / 256) = ck / 256 := by rw [IntKind.wrap_u8]; omega
  have a2 : IntKind.u8.wrap (ck % 256) = ck % 256 := by rw [IntKind.wrap_u8]; omega
  have OWZ := Lib.hid (own_stored (own_stored OW.out 10 (.int .u8 (ck / 256))) 11 (.int .u8 (ck % 256)))
  have HBZ := Lib.hid ((HB10.out.setCell (p := ⟨gw, 10, none⟩) hgw (.int .u8 (ck / 256))).setCell (p := ⟨gw, 11, none⟩) hgw (.int .u8 (ck % 256)))
  have HSZ2 := Lib.hid (show w.heap.size + 1 ≤ ((u10.setCell ⟨gw, 10, none⟩ (.int .u8 (ck / 256))).setCell ⟨gw, 11, none⟩ (.int .u8 (ck % 256))).heap.size by simpa using HS10.out)
  have P2 := Lib.hid (show N + n ≤ maxLen by unfold maxLen; omega)
  have Q2 := Lib.hid (show (N + n) * 1 ≤ 140737488355328 by omega)
  have RP := Lib.hid (HR.out.below (HB0.out.trans (HBZ.out.mono (Nat.le_succ _))))
  go_wp2_with (at_builtin; refine wpList_append_row rfl (.tmp 92) (.tmp 93) _ rfl (w.heap.size + 1) 5 i0 _ 1 Try.underlying22 HI0.out HZ0.out HZ1.out HZ2.out rfl (.slice (some ⟨gw, 0, none⟩) N cw) N _ rfl OWZ.out A n c w.heap.size (pl.map (.int .u8)) rfl HZ.out (by rw [List.length_map]; exact HL.out) RP.out (ONE.out _) P2.out Q2.out HSZ2.out ?_; intro v12 u12 owna ga; have HO12 := Lib.hid owna; have HB12 := Lib.hid (below_grown HBZ.out OWZ.out (Nat.le_refl _) HSZ2.out ga); clear owna ga)
  go_ret
  have hfin := HO12.out
  have hst : ((U0.map (Value.int .u8)).set 10 (.int .u8 (ck / 256))).set 11 (.int .u8 (ck % 256)) = (hk tos id (flz true true fr) ttl pr sl dl ck (S + n) os).map (Value.int .u8) := by
    rw [HU0.out, ← hk_set tos id (flz true true fr) ttl pr sl dl ck (S + n) os, List.map_set, List.map_set]
  rw [hst, ← List.map_append] at hfin
  have hln : (hk tos id (flz true true fr) ttl pr sl dl ck (S + n) os ++ pl).length = N + n := by rw [List.length_append, hk_len, HOL.out, HL.out, HN.out]
  rw [← hln] at hfin
  exact ⟨_, rfl, own_base hfin (Nat.le_succ _), HB0.out.trans (HB12.out.mono (Nat.le_succ _))⟩
theorem lawbytes_any (tos id : Int) (df mf : Bool) (fr ttl pr sl dl : Int) (AO : Option Addr) (no co : Nat) (os : List Int) (A : Option Addr) (n c : Nat) (pl : List Int) (w : World) (hok : okF tos id fr ttl pr sl dl no)
    (hol : os.length = no) (hor : Row w w.heap.size AO (os.map (.int .u8))) (hoz : AO = none → co = 0) (hox : ∀ x ∈ os, 0 ≤ x ∧ x ≤ 255)
    (hl' : pl.length = n) (hn : n ≤ 1000) (hr : Row w w.heap.size A (pl.map (.int .u8))) (hz : A = none → c = 0) (ck : Int) (hck : 65535 - fo (wsum (hk tos id (flz df mf fr) ttl pr sl dl 0 (20 + no + n) os)) = ck) :
    Calls Try.prog 29 #[.agg #[.int .i64 tos, .int .i64 id, .bool df, .bool mf, .int .i64 fr, .int .i64 ttl, .int .i64 pr, .bool false, .int .u64 0, .int .u64 sl, .bool false, .int .u64 0, .int .u64 dl, .slice AO no co], .slice A n c] w (LBPost w (hk tos id (flz df mf fr) ttl pr sl dl ck (20 + no + n) os ++ pl)) := by
  cases df <;> cases mf
  · exact lawbytes_ff tos id fr ttl pr sl dl AO no co os A n c pl w hok hol hor hoz hox hl' hn hr hz ck hck
  · exact lawbytes_ft tos id fr ttl pr sl dl AO no co os A n c pl w hok hol hor hoz hox hl' hn hr hz ck hck
  · exact lawbytes_tf tos id fr ttl pr sl dl AO no co os A n c pl w hok hol hor hoz hox hl' hn hr hz ck hck
  · exact lawbytes_tt tos id fr ttl pr sl dl AO no co os A n c pl w hok hol hor hoz hox hl' hn hr hz ck hck
end Go.Proofs.Ytgikoljnmmnkkaa.fourD
