/- Layer 10: the law's bytes of a segment. -/
import Derived.Test.YtjgeknkfinaimaaTcpD
import Derived.Test.YtjgeknkfinaimaaApp
namespace Go.Proofs.Ytjgeknkfinaimaa.tcpE
open Go.ChangeShapes Go.WideShapes Go.ChangeAt Go.RowKit
open Go.Proofs.Ytjgeknkfinaimaa.base Go.Proofs.Ytjgeknkfinaimaa.sumA Go.Proofs.Ytjgeknkfinaimaa.sumB Go.Proofs.Ytjgeknkfinaimaa.octA Go.Proofs.Ytjgeknkfinaimaa.octB Go.Proofs.Ytjgeknkfinaimaa.octC Go.Proofs.Ytjgeknkfinaimaa.octF Go.Proofs.Ytjgeknkfinaimaa.rdrA Go.Proofs.Ytjgeknkfinaimaa.udpA Go.Proofs.Ytjgeknkfinaimaa.udpE Go.Proofs.Ytjgeknkfinaimaa.tcpC Go.Proofs.Ytjgeknkfinaimaa.tcpD
set_option linter.unusedVariables false

set_option maxRecDepth 100000 in
theorem two_any (v : Value) (m : Nat) (xs : List Value) (x : Int) (base B : Nat) (a w : World) (hown : w.ownsRow base 5 1 v m xs) (hbase : base ≤ w.heap.size) (hm : m ≤ 1000000) (hbel : Below B a w) (hB : B ≤ base) (x0 : 0 ≤ x) (x1 : x ≤ 65535) :
    Calls Try.prog 36 #[v, .int .i64 x] w (PutPost base B a m 2 xs [x / 256, x % 256]) := by
  obtain ⟨i0, hi0, hz0, hz1, hz2⟩ := info_parts info_u8
  have HI0 := Lib.hid hi0
  have HZ0 := Lib.hid hz0
  have HZ1 := Lib.hid hz1
  have HZ2 := Lib.hid hz2
  have a1 : IntKind.u8.wrap (x / 256) = x / 256 := by rw [IntKind.wrap_u8]; omega
  have a2 : IntKind.u8.wrap (x % 256) = x % 256 := by rw [IntKind.wrap_u8]; omega
  have HO := Lib.hid (hown.alloc (.cells #[.int .u8 (x / 256), .int .u8 (x % 256)] 5))
  have HBE := Lib.hid (hbel.alloc (Nat.le_trans hB hbase) (.cells #[.int .u8 (x / 256), .int .u8 (x % 256)] 5))
  have HRW := Lib.hid (show Row (w.alloc (.cells #[.int .u8 (x / 256), .int .u8 (x % 256)] 5)) (w.heap.size + 1) (some ⟨w.heap.size, 0, none⟩) [.int .u8 (x / 256), .int .u8 (x % 256)] from (Go.Proofs.Ytjgeknkfinaimaa.sumC.row_blk (Blk.new w 5 #[.int .u8 (x / 256), .int .u8 (x % 256)])).more (by simp))
  have ONE := Lib.hid (show ∀ u ∈ [Value.int .u8 (x / 256), Value.int .u8 (x % 256)], u.oneCell' = true from by intro u hu; simp at hu; rcases hu with rfl | rfl <;> rfl)
  have M1 := Lib.hid (show m + 2 ≤ maxLen by unfold maxLen; omega)
  have M2 := Lib.hid (show (m + 2) * 1 ≤ 140737488355328 by omega)
  have M3 := Lib.hid (show base ≤ (w.alloc (.cells #[.int .u8 (x / 256), .int .u8 (x % 256)] 5)).heap.size by simp; omega)
  clear hi0 hz0 hz1 hz2 hown hbel
  go_enter Try.func36, Try.ntmps36
  go_wp2_with (at_builtin; refine wpList_append_row rfl (.tmp 5) (.tmp 12) _ rfl base 5 i0 _ 1 Try.underlying23 HI0.out HZ0.out HZ1.out HZ2.out rfl v m xs rfl HO.out (some ⟨w.heap.size, 0, none⟩) 2 2 (w.heap.size + 1) [.int .u8 (x / 256), .int .u8 (x % 256)] rfl (by intro h; cases h) rfl HRW.out ONE.out M1.out M2.out M3.out ?_; intro va wa owna ga; have HOa := Lib.hid owna; have HBa := Lib.hid (below_grown HBE.out HO.out hB (Nat.le_trans hB M3.out) ga); have HSa := Lib.hid (Nat.le_trans M3.out ga.size); clear owna ga)
  go_ret
  exact ⟨_, rfl, HOa.out, HBa.out, HSa.out⟩
/-- A segment, its check 0. -/
def tb (sp dp sq ak fl wn ur : Int) (os pl : List Int) : List Int :=
  [sp / 256, sp % 256, dp / 256, dp % 256, sq / 65536 / 256, sq / 65536 % 256, sq % 65536 / 256, sq % 65536 % 256, ak / 65536 / 256, ak / 65536 % 256, ak % 65536 / 256, ak % 65536 % 256,
    (5 + (os.length : Int) / 4) * 16, fl, wn / 256, wn % 256, 0, 0, ur / 256, ur % 256] ++ os ++ pl
def LBPost (w : World) (l : List Int) (e : Ending) (w' : World) : Prop :=
  ∃ v, e = .returned v ∧ w'.ownsRow w.heap.size 5 1 v l.length (l.map (.int .u8)) ∧ Below w.heap.size w w'
theorem keep8 {w w' : World} {p0 p1 p2 p3 p4 p5 p6 p7 : Addr} {v0 v1 v2 v3 v4 v5 v6 v7 : Value} (h : w.cell? p0 = some v0 ∧ w.cell? p1 = some v1 ∧ w.cell? p2 = some v2 ∧ w.cell? p3 = some v3 ∧ w.cell? p4 = some v4 ∧ w.cell? p5 = some v5 ∧ w.cell? p6 = some v6 ∧ w.cell? p7 = some v7) (hb : Below w.heap.size w w') :
    w'.cell? p0 = some v0 ∧ w'.cell? p1 = some v1 ∧ w'.cell? p2 = some v2 ∧ w'.cell? p3 = some v3 ∧ w'.cell? p4 = some v4 ∧ w'.cell? p5 = some v5 ∧ w'.cell? p6 = some v6 ∧ w'.cell? p7 = some v7 :=
  ⟨kept h.1 hb, kept h.2.1 hb, kept h.2.2.1 hb, kept h.2.2.2.1 hb, kept h.2.2.2.2.1 hb, kept h.2.2.2.2.2.1 hb, kept h.2.2.2.2.2.2.1 hb, kept h.2.2.2.2.2.2.2 hb⟩
theorem keepB {a w' : World} {k : Nat} {v0 : Value} {v1 : Value} {v2 : Value} {v3 : Value} {v4 : Value} {v5 : Value} {v6 : Value} {v7 : Value} (h : a.cell? ⟨k, 0, none⟩ = some v0 ∧ a.cell? ⟨k, 1, none⟩ = some v1 ∧ a.cell? ⟨k, 2, none⟩ = some v2 ∧ a.cell? ⟨k, 3, none⟩ = some v3 ∧ a.cell? ⟨k, 4, none⟩ = some v4 ∧ a.cell? ⟨k, 5, none⟩ = some v5 ∧ a.cell? ⟨k, 6, none⟩ = some v6 ∧ a.cell? ⟨k, 7, none⟩ = some v7) (hb : Below (k + 1) a w') : w'.cell? ⟨k, 0, none⟩ = some v0 ∧ w'.cell? ⟨k, 1, none⟩ = some v1 ∧ w'.cell? ⟨k, 2, none⟩ = some v2 ∧ w'.cell? ⟨k, 3, none⟩ = some v3 ∧ w'.cell? ⟨k, 4, none⟩ = some v4 ∧ w'.cell? ⟨k, 5, none⟩ = some v5 ∧ w'.cell? ⟨k, 6, none⟩ = some v6 ∧ w'.cell? ⟨k, 7, none⟩ = some v7 := by
  obtain ⟨h0, h1, h2, h3, h4, h5, h6, h7⟩ := h
  exact ⟨(hb.cell (p := ⟨k, 0, none⟩) (Nat.lt_succ_self k)).trans h0, (hb.cell (p := ⟨k, 1, none⟩) (Nat.lt_succ_self k)).trans h1, (hb.cell (p := ⟨k, 2, none⟩) (Nat.lt_succ_self k)).trans h2, (hb.cell (p := ⟨k, 3, none⟩) (Nat.lt_succ_self k)).trans h3, (hb.cell (p := ⟨k, 4, none⟩) (Nat.lt_succ_self k)).trans h4, (hb.cell (p := ⟨k, 5, none⟩) (Nat.lt_succ_self k)).trans h5, (hb.cell (p := ⟨k, 6, none⟩) (Nat.lt_succ_self k)).trans h6, (hb.cell (p := ⟨k, 7, none⟩) (Nat.lt_succ_self k)).trans h7⟩
set_option maxRecDepth 100000 in
set_option maxHeartbeats 4000000 in
theorem lawbytes_any (sp dp sq ak fl wn ur : Int) (AO : Option Addr) (no co : Nat) (os : List Int) (A : Option Addr) (n c : Nat) (pl : List Int) (w : World)
    (h1 : 0 ≤ sp) (h2 : sp ≤ 65535) (h3 : 0 ≤ dp) (h4 : dp ≤ 65535) (h5 : 0 ≤ sq) (h6 : sq ≤ 4294967295) (h7 : 0 ≤ ak) (h8 : ak ≤ 4294967295) (h9 : 0 ≤ fl) (h10 : fl ≤ 255) (h11 : 0 ≤ wn) (h12 : wn ≤ 65535) (h13 : 0 ≤ ur) (h14 : ur ≤ 65535)
    (hol : os.length = no) (ho : no ≤ 40) (hor : Row w w.heap.size AO (os.map (.int .u8))) (hoz : AO = none → co = 0)
    (hl : pl.length = n) (hn : n ≤ 1000) (hr : Row w w.heap.size A (pl.map (.int .u8))) (hz : A = none → c = 0) :
    Calls Try.prog 21 #[.agg #[.int .i64 sp, .int .i64 dp, .int .u32 sq, .int .u32 ak, .int .i64 fl, .int .i64 wn, .int .i64 ur, .slice AO no co], .slice A n c] w (LBPost w (tb sp dp sq ak fl wn ur os pl)) := by
  obtain ⟨i0, hi0, hz0, hz1, hz2⟩ := info_parts info_u8
  have HI0 := Lib.hid hi0
  have HZ0 := Lib.hid hz0
  have HZ1 := Lib.hid hz1
  have HZ2 := Lib.hid hz2
  have ONE := Lib.hid (show ∀ l : List Int, ∀ u ∈ l.map (Value.int .u8), u.oneCell' = true from by
    intro l u hu
    rw [List.mem_map] at hu
    obtain ⟨x, _, rfl⟩ := hu
    rfl)
  have HSZ := Lib.hid (show (w.alloc (.cells #[.int .i64 sp, .int .i64 dp, .int .u32 sq, .int .u32 ak, .int .i64 fl, .int .i64 wn, .int .i64 ur, .slice AO no co] 40)).heap.size = w.heap.size + 1 by simp)
  have BOX := Lib.hid (Blk.new w 40 #[.int .i64 sp, .int .i64 dp, .int .u32 sq, .int .u32 ak, .int .i64 fl, .int .i64 wn, .int .i64 ur, .slice AO no co])
  have HB0 := Lib.hid (show Below w.heap.size w (w.alloc (.cells #[.int .i64 sp, .int .i64 dp, .int .u32 sq, .int .u32 ak, .int .i64 fl, .int .i64 wn, .int .i64 ur, .slice AO no co] 40)) from (Below.refl _ _).alloc (Nat.le_refl _) _)
  have HBS := Lib.hid (Below.refl (w.heap.size + 1) (w.alloc (.cells #[.int .i64 sp, .int .i64 dp, .int .u32 sq, .int .u32 ak, .int .i64 fl, .int .i64 wn, .int .i64 ur, .slice AO no co] 40)))
  have HK0 := Lib.hid (show (w.alloc (.cells #[.int .i64 sp, .int .i64 dp, .int .u32 sq, .int .u32 ak, .int .i64 fl, .int .i64 wn, .int .i64 ur, .slice AO no co] 40)).cell? ⟨w.heap.size, 0, none⟩ = some (.int .i64 sp) ∧ (w.alloc (.cells #[.int .i64 sp, .int .i64 dp, .int .u32 sq, .int .u32 ak, .int .i64 fl, .int .i64 wn, .int .i64 ur, .slice AO no co] 40)).cell? ⟨w.heap.size, 1, none⟩ = some (.int .i64 dp) ∧ (w.alloc (.cells #[.int .i64 sp, .int .i64 dp, .int .u32 sq, .int .u32 ak, .int .i64 fl, .int .i64 wn, .int .i64 ur, .slice AO no co] 40)).cell? ⟨w.heap.size, 2, none⟩ = some (.int .u32 sq) ∧ (w.alloc (.cells #[.int .i64 sp, .int .i64 dp, .int .u32 sq, .int .u32 ak, .int .i64 fl, .int .i64 wn, .int .i64 ur, .slice AO no co] 40)).cell? ⟨w.heap.size, 3, none⟩ = some (.int .u32 ak) ∧ (w.alloc (.cells #[.int .i64 sp, .int .i64 dp, .int .u32 sq, .int .u32 ak, .int .i64 fl, .int .i64 wn, .int .i64 ur, .slice AO no co] 40)).cell? ⟨w.heap.size, 4, none⟩ = some (.int .i64 fl) ∧ (w.alloc (.cells #[.int .i64 sp, .int .i64 dp, .int .u32 sq, .int .u32 ak, .int .i64 fl, .int .i64 wn, .int .i64 ur, .slice AO no co] 40)).cell? ⟨w.heap.size, 5, none⟩ = some (.int .i64 wn) ∧ (w.alloc (.cells #[.int .i64 sp, .int .i64 dp, .int .u32 sq, .int .u32 ak, .int .i64 fl, .int .i64 wn, .int .i64 ur, .slice AO no co] 40)).cell? ⟨w.heap.size, 6, none⟩ = some (.int .i64 ur) ∧ (w.alloc (.cells #[.int .i64 sp, .int .i64 dp, .int .u32 sq, .int .u32 ak, .int .i64 fl, .int .i64 wn, .int .i64 ur, .slice AO no co] 40)).cell? ⟨w.heap.size, 7, none⟩ = some (.slice AO no co) from ⟨BOX.out.cell 0, BOX.out.cell 1, BOX.out.cell 2, BOX.out.cell 3, BOX.out.cell 4, BOX.out.cell 5, BOX.out.cell 6, BOX.out.cell 7⟩)
  have HOR := Lib.hid hor
  have HR := Lib.hid hr
  have HOZ := Lib.hid hoz
  have HZ := Lib.hid hz
  have HOL := Lib.hid hol
  have HL := Lib.hid hl
  have HTW := Lib.hid (fun (v : Value) (m : Nat) (xs : List Value) (x : Int) (W : World) hown hbase hm hbel x0 x1 => two_any v m xs x (w.heap.size + 1) (w.heap.size + 1) (w.alloc (.cells #[.int .i64 sp, .int .i64 dp, .int .u32 sq, .int .u32 ak, .int .i64 fl, .int .i64 wn, .int .i64 ur, .slice AO no co] 40)) W hown hbase hm hbel (Nat.le_refl _) x0 x1)
  have N0 := Lib.hid (show (w.alloc (.cells #[.int .i64 sp, .int .i64 dp, .int .u32 sq, .int .u32 ak, .int .i64 fl, .int .i64 wn, .int .i64 ur, .slice AO no co] 40)).drew.ownsRow (w.heap.size + 1) 5 1 (.slice none 0 0) 0 [] from World.ownsRow_nil _ _ _ _)
  have e1 : IntKind.i64.wrap (sq / 65536) = sq / 65536 := IntWalk.i64_in _ (by omega)
  have e2 : IntKind.i64.wrap (sq % 65536) = sq % 65536 := IntWalk.i64_in _ (by omega)
  have e3 : IntKind.i64.wrap (ak / 65536) = ak / 65536 := IntWalk.i64_in _ (by omega)
  have e4 : IntKind.i64.wrap (ak % 65536) = ak % 65536 := IntWalk.i64_in _ (by omega)
  have E1 := Lib.hid (show 0 ≤ sq / 65536 ∧ sq / 65536 ≤ 65535 by omega)
  have E2 := Lib.hid (show 0 ≤ sq % 65536 ∧ sq % 65536 ≤ 65535 by omega)
  have E3 := Lib.hid (show 0 ≤ ak / 65536 ∧ ak / 65536 ≤ 65535 by omega)
  have E4 := Lib.hid (show 0 ≤ ak % 65536 ∧ ak % 65536 ≤ 65535 by omega)
  have X1 := Lib.hid e1
  have Y1 := Lib.hid (show IntKind.u32.wrap (sq.tdiv 65536) = sq / 65536 by rw [Int.tdiv_eq_ediv_of_nonneg (by omega), IntKind.wrap_u32]; omega)
  have X2 := Lib.hid e2
  have Y2 := Lib.hid (show sq.tmod 65536 = sq % 65536 from Int.tmod_eq_emod_of_nonneg (by omega))
  have X3 := Lib.hid e3
  have Y3 := Lib.hid (show IntKind.u32.wrap (ak.tdiv 65536) = ak / 65536 by rw [Int.tdiv_eq_ediv_of_nonneg (by omega), IntKind.wrap_u32]; omega)
  have X4 := Lib.hid e4
  have Y4 := Lib.hid (show ak.tmod 65536 = ak % 65536 from Int.tmod_eq_emod_of_nonneg (by omega))
  clear hi0 hz0 hz1 hz2 hor hr hoz hz hol hl e1 e2 e3 e4
  go_enter Try.func21, Try.ntmps21
  go_wp2_with fail
  have HKD := Lib.hid (show (w.alloc (.cells #[.int .i64 sp, .int .i64 dp, .int .u32 sq, .int .u32 ak, .int .i64 fl, .int .i64 wn, .int .i64 ur, .slice AO no co] 40)).drew.cell? ⟨w.heap.size, 0, none⟩ = some (.int .i64 sp) ∧ (w.alloc (.cells #[.int .i64 sp, .int .i64 dp, .int .u32 sq, .int .u32 ak, .int .i64 fl, .int .i64 wn, .int .i64 ur, .slice AO no co] 40)).drew.cell? ⟨w.heap.size, 1, none⟩ = some (.int .i64 dp) ∧ (w.alloc (.cells #[.int .i64 sp, .int .i64 dp, .int .u32 sq, .int .u32 ak, .int .i64 fl, .int .i64 wn, .int .i64 ur, .slice AO no co] 40)).drew.cell? ⟨w.heap.size, 2, none⟩ = some (.int .u32 sq) ∧ (w.alloc (.cells #[.int .i64 sp, .int .i64 dp, .int .u32 sq, .int .u32 ak, .int .i64 fl, .int .i64 wn, .int .i64 ur, .slice AO no co] 40)).drew.cell? ⟨w.heap.size, 3, none⟩ = some (.int .u32 ak) ∧ (w.alloc (.cells #[.int .i64 sp, .int .i64 dp, .int .u32 sq, .int .u32 ak, .int .i64 fl, .int .i64 wn, .int .i64 ur, .slice AO no co] 40)).drew.cell? ⟨w.heap.size, 4, none⟩ = some (.int .i64 fl) ∧ (w.alloc (.cells #[.int .i64 sp, .int .i64 dp, .int .u32 sq, .int .u32 ak, .int .i64 fl, .int .i64 wn, .int .i64 ur, .slice AO no co] 40)).drew.cell? ⟨w.heap.size, 5, none⟩ = some (.int .i64 wn) ∧ (w.alloc (.cells #[.int .i64 sp, .int .i64 dp, .int .u32 sq, .int .u32 ak, .int .i64 fl, .int .i64 wn, .int .i64 ur, .slice AO no co] 40)).drew.cell? ⟨w.heap.size, 6, none⟩ = some (.int .i64 ur) ∧ (w.alloc (.cells #[.int .i64 sp, .int .i64 dp, .int .u32 sq, .int .u32 ak, .int .i64 fl, .int .i64 wn, .int .i64 ur, .slice AO no co] 40)).drew.cell? ⟨w.heap.size, 7, none⟩ = some (.slice AO no co) from HK0.out)
  have HOE := Lib.hid (show (w.alloc (.cells #[.int .i64 sp, .int .i64 dp, .int .u32 sq, .int .u32 ak, .int .i64 fl, .int .i64 wn, .int .i64 ur, .slice AO no co] 40)).drew.ownsRow (w.heap.size + 1) 5 1 (.slice none 0 0) 0 [] from N0.out)
  have HBE := Lib.hid (show Below (w.heap.size + 1) (w.alloc (.cells #[.int .i64 sp, .int .i64 dp, .int .u32 sq, .int .u32 ak, .int .i64 fl, .int .i64 wn, .int .i64 ur, .slice AO no co] 40)) (w.alloc (.cells #[.int .i64 sp, .int .i64 dp, .int .u32 sq, .int .u32 ak, .int .i64 fl, .int .i64 wn, .int .i64 ur, .slice AO no co] 40)).drew from HBS.out.drew)
  have SZE := Lib.hid (show w.heap.size + 1 ≤ (w.alloc (.cells #[.int .i64 sp, .int .i64 dp, .int .u32 sq, .int .u32 ak, .int .i64 fl, .int .i64 wn, .int .i64 ur, .slice AO no co] 40)).drew.heap.size from Nat.le_trans (Nat.le_of_eq HSZ.out.symm) HBE.out.size)
  go_region_held3 (fun w' => w'.cell? ⟨w.heap.size, 0, none⟩ = some (.int .i64 sp) ∧ w'.cell? ⟨w.heap.size, 1, none⟩ = some (.int .i64 dp) ∧ w'.cell? ⟨w.heap.size, 2, none⟩ = some (.int .u32 sq) ∧ w'.cell? ⟨w.heap.size, 3, none⟩ = some (.int .u32 ak) ∧ w'.cell? ⟨w.heap.size, 4, none⟩ = some (.int .i64 fl) ∧ w'.cell? ⟨w.heap.size, 5, none⟩ = some (.int .i64 wn) ∧ w'.cell? ⟨w.heap.size, 6, none⟩ = some (.int .i64 ur) ∧ w'.cell? ⟨w.heap.size, 7, none⟩ = some (.slice AO no co)) (first | assumption | exact HK2.out | exact HK1.out | exact HKD.out) (first
    | (go_at_call 36; (with_reducible refine (HTW.out v1 (0 + 2) ([] ++ [sp / 256, sp % 256].map (Value.int .u8)) (dp) u1 HO1.out (Nat.le_trans (Nat.le_of_eq HSZ.out.symm) HB1.out.size) (by omega) (HB1.out) (h3) (h4)).mono ?_); rintro e u2 ⟨v2, rfl, own2, bel2, siz2⟩; have HO2 := Lib.hid own2; have HB2 := Lib.hid bel2; have HK2 := Lib.hid (keepB HK0.out bel2); clear own2 bel2 siz2)
    | (go_at_call 36; (with_reducible refine (HTW.out (.slice none 0 0) 0 [] (sp) (w.alloc (.cells #[.int .i64 sp, .int .i64 dp, .int .u32 sq, .int .u32 ak, .int .i64 fl, .int .i64 wn, .int .i64 ur, .slice AO no co] 40)).drew HOE.out SZE.out (by omega) (HBE.out) (h1) (h2)).mono ?_); rintro e u1 ⟨v1, rfl, own1, bel1, siz1⟩; have HO1 := Lib.hid own1; have HB1 := Lib.hid bel1; have HK1 := Lib.hid (keepB HK0.out bel1); clear own1 bel1 siz1))
  clear HKD HOE HBE SZE
  go_wp2_with fail
  have e1 := X1.out
  have e2 := X2.out
  have d1 := Y1.out
  have d2 := Y2.out
  have HKD := Lib.hid (show u2.drew.cell? ⟨w.heap.size, 0, none⟩ = some (.int .i64 sp) ∧ u2.drew.cell? ⟨w.heap.size, 1, none⟩ = some (.int .i64 dp) ∧ u2.drew.cell? ⟨w.heap.size, 2, none⟩ = some (.int .u32 sq) ∧ u2.drew.cell? ⟨w.heap.size, 3, none⟩ = some (.int .u32 ak) ∧ u2.drew.cell? ⟨w.heap.size, 4, none⟩ = some (.int .i64 fl) ∧ u2.drew.cell? ⟨w.heap.size, 5, none⟩ = some (.int .i64 wn) ∧ u2.drew.cell? ⟨w.heap.size, 6, none⟩ = some (.int .i64 ur) ∧ u2.drew.cell? ⟨w.heap.size, 7, none⟩ = some (.slice AO no co) from HK2.out)
  have HOE := Lib.hid (show u2.drew.ownsRow (w.heap.size + 1) 5 1 v2 ((0 + 2) + 2) (([] ++ [sp / 256, sp % 256].map (Value.int .u8)) ++ [dp / 256, dp % 256].map (Value.int .u8)) from HO2.out)
  have HBE := Lib.hid (show Below (w.heap.size + 1) (w.alloc (.cells #[.int .i64 sp, .int .i64 dp, .int .u32 sq, .int .u32 ak, .int .i64 fl, .int .i64 wn, .int .i64 ur, .slice AO no co] 40)) u2.drew from HB2.out.drew)
  have SZE := Lib.hid (show w.heap.size + 1 ≤ u2.drew.heap.size from Nat.le_trans (Nat.le_of_eq HSZ.out.symm) HBE.out.size)
  go_region_held3 (fun w' => w'.cell? ⟨w.heap.size, 0, none⟩ = some (.int .i64 sp) ∧ w'.cell? ⟨w.heap.size, 1, none⟩ = some (.int .i64 dp) ∧ w'.cell? ⟨w.heap.size, 2, none⟩ = some (.int .u32 sq) ∧ w'.cell? ⟨w.heap.size, 3, none⟩ = some (.int .u32 ak) ∧ w'.cell? ⟨w.heap.size, 4, none⟩ = some (.int .i64 fl) ∧ w'.cell? ⟨w.heap.size, 5, none⟩ = some (.int .i64 wn) ∧ w'.cell? ⟨w.heap.size, 6, none⟩ = some (.int .i64 ur) ∧ w'.cell? ⟨w.heap.size, 7, none⟩ = some (.slice AO no co)) (first | assumption | exact HK4.out | exact HK3.out | exact HKD.out) (first
    | (go_at_call 36; (with_reducible refine (HTW.out v3 (((0 + 2) + 2) + 2) ((([] ++ [sp / 256, sp % 256].map (Value.int .u8)) ++ [dp / 256, dp % 256].map (Value.int .u8)) ++ [sq / 65536 / 256, sq / 65536 % 256].map (Value.int .u8)) (sq % 65536) u3 HO3.out (Nat.le_trans (Nat.le_of_eq HSZ.out.symm) HB3.out.size) (by omega) (HB3.out) (E2.out.1) (E2.out.2)).mono ?_); rintro e u4 ⟨v4, rfl, own4, bel4, siz4⟩; have HO4 := Lib.hid own4; have HB4 := Lib.hid bel4; have HK4 := Lib.hid (keepB HK0.out bel4); clear own4 bel4 siz4)
    | (go_at_call 36; (with_reducible refine (HTW.out v2 ((0 + 2) + 2) (([] ++ [sp / 256, sp % 256].map (Value.int .u8)) ++ [dp / 256, dp % 256].map (Value.int .u8)) (sq / 65536) u2.drew HOE.out SZE.out (by omega) (HBE.out) (E1.out.1) (E1.out.2)).mono ?_); rintro e u3 ⟨v3, rfl, own3, bel3, siz3⟩; have HO3 := Lib.hid own3; have HB3 := Lib.hid bel3; have HK3 := Lib.hid (keepB HK0.out bel3); clear own3 bel3 siz3))
  clear HKD HOE HBE SZE
  clear e1 e2 d1 d2
  go_wp2_with fail
  have e3 := X3.out
  have e4 := X4.out
  have d3 := Y3.out
  have d4 := Y4.out
  have HKD := Lib.hid (show u4.drew.cell? ⟨w.heap.size, 0, none⟩ = some (.int .i64 sp) ∧ u4.drew.cell? ⟨w.heap.size, 1, none⟩ = some (.int .i64 dp) ∧ u4.drew.cell? ⟨w.heap.size, 2, none⟩ = some (.int .u32 sq) ∧ u4.drew.cell? ⟨w.heap.size, 3, none⟩ = some (.int .u32 ak) ∧ u4.drew.cell? ⟨w.heap.size, 4, none⟩ = some (.int .i64 fl) ∧ u4.drew.cell? ⟨w.heap.size, 5, none⟩ = some (.int .i64 wn) ∧ u4.drew.cell? ⟨w.heap.size, 6, none⟩ = some (.int .i64 ur) ∧ u4.drew.cell? ⟨w.heap.size, 7, none⟩ = some (.slice AO no co) from HK4.out)
  have HOE := Lib.hid (show u4.drew.ownsRow (w.heap.size + 1) 5 1 v4 ((((0 + 2) + 2) + 2) + 2) (((([] ++ [sp / 256, sp % 256].map (Value.int .u8)) ++ [dp / 256, dp % 256].map (Value.int .u8)) ++ [sq / 65536 / 256, sq / 65536 % 256].map (Value.int .u8)) ++ [sq % 65536 / 256, sq % 65536 % 256].map (Value.int .u8)) from HO4.out)
  have HBE := Lib.hid (show Below (w.heap.size + 1) (w.alloc (.cells #[.int .i64 sp, .int .i64 dp, .int .u32 sq, .int .u32 ak, .int .i64 fl, .int .i64 wn, .int .i64 ur, .slice AO no co] 40)) u4.drew from HB4.out.drew)
  have SZE := Lib.hid (show w.heap.size + 1 ≤ u4.drew.heap.size from Nat.le_trans (Nat.le_of_eq HSZ.out.symm) HBE.out.size)
  go_region_held3 (fun w' => w'.cell? ⟨w.heap.size, 0, none⟩ = some (.int .i64 sp) ∧ w'.cell? ⟨w.heap.size, 1, none⟩ = some (.int .i64 dp) ∧ w'.cell? ⟨w.heap.size, 2, none⟩ = some (.int .u32 sq) ∧ w'.cell? ⟨w.heap.size, 3, none⟩ = some (.int .u32 ak) ∧ w'.cell? ⟨w.heap.size, 4, none⟩ = some (.int .i64 fl) ∧ w'.cell? ⟨w.heap.size, 5, none⟩ = some (.int .i64 wn) ∧ w'.cell? ⟨w.heap.size, 6, none⟩ = some (.int .i64 ur) ∧ w'.cell? ⟨w.heap.size, 7, none⟩ = some (.slice AO no co)) (first | assumption | exact HK6.out | exact HK5.out | exact HKD.out) (first
    | (go_at_call 36; (with_reducible refine (HTW.out v5 (((((0 + 2) + 2) + 2) + 2) + 2) ((((([] ++ [sp / 256, sp % 256].map (Value.int .u8)) ++ [dp / 256, dp % 256].map (Value.int .u8)) ++ [sq / 65536 / 256, sq / 65536 % 256].map (Value.int .u8)) ++ [sq % 65536 / 256, sq % 65536 % 256].map (Value.int .u8)) ++ [ak / 65536 / 256, ak / 65536 % 256].map (Value.int .u8)) (ak % 65536) u5 HO5.out (Nat.le_trans (Nat.le_of_eq HSZ.out.symm) HB5.out.size) (by omega) (HB5.out) (E4.out.1) (E4.out.2)).mono ?_); rintro e u6 ⟨v6, rfl, own6, bel6, siz6⟩; have HO6 := Lib.hid own6; have HB6 := Lib.hid bel6; have HK6 := Lib.hid (keepB HK0.out bel6); clear own6 bel6 siz6)
    | (go_at_call 36; (with_reducible refine (HTW.out v4 ((((0 + 2) + 2) + 2) + 2) (((([] ++ [sp / 256, sp % 256].map (Value.int .u8)) ++ [dp / 256, dp % 256].map (Value.int .u8)) ++ [sq / 65536 / 256, sq / 65536 % 256].map (Value.int .u8)) ++ [sq % 65536 / 256, sq % 65536 % 256].map (Value.int .u8)) (ak / 65536) u4.drew HOE.out SZE.out (by omega) (HBE.out) (E3.out.1) (E3.out.2)).mono ?_); rintro e u5 ⟨v5, rfl, own5, bel5, siz5⟩; have HO5 := Lib.hid own5; have HB5 := Lib.hid bel5; have HK5 := Lib.hid (keepB HK0.out bel5); clear own5 bel5 siz5))
  clear HKD HOE HBE SZE
  clear e3 e4 d3 d4
  have f1 : IntKind.u8.wrap ((5 + (no : Int) / 4) * 16) = (5 + (no : Int) / 4) * 16 := by rw [IntKind.wrap_u8]; omega
  have f2 : IntKind.u8.wrap fl = fl := by rw [IntKind.wrap_u8]; omega
  have HOI := Lib.hid (HO6.out.alloc (.cells #[.int .u8 ((5 + (no : Int) / 4) * 16), .int .u8 fl] 5))
  have SZI := Lib.hid (show w.heap.size + 1 ≤ u6.heap.size from Nat.le_trans (Nat.le_of_eq HSZ.out.symm) HB6.out.size)
  have HBI := Lib.hid (HB6.out.alloc SZI.out (.cells #[.int .u8 ((5 + (no : Int) / 4) * 16), .int .u8 fl] 5))
  have HRI := Lib.hid (show Row (u6.alloc (.cells #[.int .u8 ((5 + (no : Int) / 4) * 16), .int .u8 fl] 5)) (u6.heap.size + 1) (some ⟨u6.heap.size, 0, none⟩) [.int .u8 ((5 + (no : Int) / 4) * 16), .int .u8 fl] from (Go.Proofs.Ytjgeknkfinaimaa.sumC.row_blk (Blk.new u6 5 #[.int .u8 ((5 + (no : Int) / 4) * 16), .int .u8 fl])).more (by simp))
  have ONI := Lib.hid (show ∀ u ∈ ([.int .u8 ((5 + (no : Int) / 4) * 16), .int .u8 fl] : List Value), u.oneCell' = true from by intro u hu; simp at hu; rcases hu with rfl | rfl <;> rfl)
  have M1 := Lib.hid (show ((((((0 + 2) + 2) + 2) + 2) + 2) + 2) + 2 ≤ maxLen by unfold maxLen; omega)
  have M2 := Lib.hid (show (((((((0 + 2) + 2) + 2) + 2) + 2) + 2) + 2) * 1 ≤ 140737488355328 by omega)
  have M3 := Lib.hid (show w.heap.size + 1 ≤ (u6.alloc (.cells #[.int .u8 ((5 + (no : Int) / 4) * 16), .int .u8 fl] 5)).heap.size from Nat.le_trans (Nat.le_of_eq HSZ.out.symm) HBI.out.size)
  have b0 : u6.cell? ⟨w.heap.size, 4, none⟩ = some (.int .i64 fl) := HK6.out.2.2.2.2.1
  have b1 : u6.cell? ⟨w.heap.size, 7, none⟩ = some (.slice AO no co) := HK6.out.2.2.2.2.2.2.2
  go_wp2_with (at_builtin; refine wpList_append_row rfl (.tmp 34) (.tmp 45) _ rfl (w.heap.size + 1) 5 i0 _ 1 Try.underlying23 HI0.out HZ0.out HZ1.out HZ2.out rfl v6 ((((((0 + 2) + 2) + 2) + 2) + 2) + 2) (((((([] ++ [sp / 256, sp % 256].map (Value.int .u8)) ++ [dp / 256, dp % 256].map (Value.int .u8)) ++ [sq / 65536 / 256, sq / 65536 % 256].map (Value.int .u8)) ++ [sq % 65536 / 256, sq % 65536 % 256].map (Value.int .u8)) ++ [ak / 65536 / 256, ak / 65536 % 256].map (Value.int .u8)) ++ [ak % 65536 / 256, ak % 65536 % 256].map (Value.int .u8)) rfl HOI.out (some ⟨u6.heap.size, 0, none⟩) 2 2 (u6.heap.size + 1) [.int .u8 ((5 + (no : Int) / 4) * 16), .int .u8 fl] rfl (by intro h; cases h) rfl HRI.out ONI.out M1.out M2.out M3.out ?_; intro va wa owna ga; have HOa := Lib.hid owna; have HBa := Lib.hid (below_grown HBI.out HOI.out (Nat.le_refl _) M3.out ga); clear owna ga)
  have HKa := Lib.hid (keepB HK0.out HBa.out)
  clear f1 f2 b0 b1 HOI HBI HRI ONI M1 M2 M3 SZI
  have HKD := Lib.hid (show wa.drew.cell? ⟨w.heap.size, 0, none⟩ = some (.int .i64 sp) ∧ wa.drew.cell? ⟨w.heap.size, 1, none⟩ = some (.int .i64 dp) ∧ wa.drew.cell? ⟨w.heap.size, 2, none⟩ = some (.int .u32 sq) ∧ wa.drew.cell? ⟨w.heap.size, 3, none⟩ = some (.int .u32 ak) ∧ wa.drew.cell? ⟨w.heap.size, 4, none⟩ = some (.int .i64 fl) ∧ wa.drew.cell? ⟨w.heap.size, 5, none⟩ = some (.int .i64 wn) ∧ wa.drew.cell? ⟨w.heap.size, 6, none⟩ = some (.int .i64 ur) ∧ wa.drew.cell? ⟨w.heap.size, 7, none⟩ = some (.slice AO no co) from HKa.out)
  have HOE := Lib.hid (show wa.drew.ownsRow (w.heap.size + 1) 5 1 va (((((((0 + 2) + 2) + 2) + 2) + 2) + 2) + 2) ((((((([] ++ [sp / 256, sp % 256].map (Value.int .u8)) ++ [dp / 256, dp % 256].map (Value.int .u8)) ++ [sq / 65536 / 256, sq / 65536 % 256].map (Value.int .u8)) ++ [sq % 65536 / 256, sq % 65536 % 256].map (Value.int .u8)) ++ [ak / 65536 / 256, ak / 65536 % 256].map (Value.int .u8)) ++ [ak % 65536 / 256, ak % 65536 % 256].map (Value.int .u8)) ++ [.int .u8 ((5 + (no : Int) / 4) * 16), .int .u8 fl]) from HOa.out)
  have HBE := Lib.hid (show Below (w.heap.size + 1) (w.alloc (.cells #[.int .i64 sp, .int .i64 dp, .int .u32 sq, .int .u32 ak, .int .i64 fl, .int .i64 wn, .int .i64 ur, .slice AO no co] 40)) wa.drew from HBa.out.drew)
  have SZE := Lib.hid (show w.heap.size + 1 ≤ wa.drew.heap.size from Nat.le_trans (Nat.le_of_eq HSZ.out.symm) HBE.out.size)
  go_region_held3 (fun w' => w'.cell? ⟨w.heap.size, 0, none⟩ = some (.int .i64 sp) ∧ w'.cell? ⟨w.heap.size, 1, none⟩ = some (.int .i64 dp) ∧ w'.cell? ⟨w.heap.size, 2, none⟩ = some (.int .u32 sq) ∧ w'.cell? ⟨w.heap.size, 3, none⟩ = some (.int .u32 ak) ∧ w'.cell? ⟨w.heap.size, 4, none⟩ = some (.int .i64 fl) ∧ w'.cell? ⟨w.heap.size, 5, none⟩ = some (.int .i64 wn) ∧ w'.cell? ⟨w.heap.size, 6, none⟩ = some (.int .i64 ur) ∧ w'.cell? ⟨w.heap.size, 7, none⟩ = some (.slice AO no co)) (first | assumption | exact HK9.out | exact HK8.out | exact HK7.out | exact HKD.out) (first
    | (go_at_call 36; (with_reducible refine (HTW.out v8 (((((((((0 + 2) + 2) + 2) + 2) + 2) + 2) + 2) + 2) + 2) ((((((((([] ++ [sp / 256, sp % 256].map (Value.int .u8)) ++ [dp / 256, dp % 256].map (Value.int .u8)) ++ [sq / 65536 / 256, sq / 65536 % 256].map (Value.int .u8)) ++ [sq % 65536 / 256, sq % 65536 % 256].map (Value.int .u8)) ++ [ak / 65536 / 256, ak / 65536 % 256].map (Value.int .u8)) ++ [ak % 65536 / 256, ak % 65536 % 256].map (Value.int .u8)) ++ [.int .u8 ((5 + (no : Int) / 4) * 16), .int .u8 fl]) ++ [wn / 256, wn % 256].map (Value.int .u8)) ++ [0 / 256, 0 % 256].map (Value.int .u8)) (ur) u8 HO8.out (Nat.le_trans (Nat.le_of_eq HSZ.out.symm) HB8.out.size) (by omega) (HB8.out) (h13) (h14)).mono ?_); rintro e u9 ⟨v9, rfl, own9, bel9, siz9⟩; have HO9 := Lib.hid own9; have HB9 := Lib.hid bel9; have HK9 := Lib.hid (keepB HK0.out bel9); clear own9 bel9 siz9)
    | (go_at_call 36; (with_reducible refine (HTW.out v7 ((((((((0 + 2) + 2) + 2) + 2) + 2) + 2) + 2) + 2) (((((((([] ++ [sp / 256, sp % 256].map (Value.int .u8)) ++ [dp / 256, dp % 256].map (Value.int .u8)) ++ [sq / 65536 / 256, sq / 65536 % 256].map (Value.int .u8)) ++ [sq % 65536 / 256, sq % 65536 % 256].map (Value.int .u8)) ++ [ak / 65536 / 256, ak / 65536 % 256].map (Value.int .u8)) ++ [ak % 65536 / 256, ak % 65536 % 256].map (Value.int .u8)) ++ [.int .u8 ((5 + (no : Int) / 4) * 16), .int .u8 fl]) ++ [wn / 256, wn % 256].map (Value.int .u8)) (0) u7 HO7.out (Nat.le_trans (Nat.le_of_eq HSZ.out.symm) HB7.out.size) (by omega) (HB7.out) (Int.le_refl 0) (by omega)).mono ?_); rintro e u8 ⟨v8, rfl, own8, bel8, siz8⟩; have HO8 := Lib.hid own8; have HB8 := Lib.hid bel8; have HK8 := Lib.hid (keepB HK0.out bel8); clear own8 bel8 siz8)
    | (go_at_call 36; (with_reducible refine (HTW.out va (((((((0 + 2) + 2) + 2) + 2) + 2) + 2) + 2) ((((((([] ++ [sp / 256, sp % 256].map (Value.int .u8)) ++ [dp / 256, dp % 256].map (Value.int .u8)) ++ [sq / 65536 / 256, sq / 65536 % 256].map (Value.int .u8)) ++ [sq % 65536 / 256, sq % 65536 % 256].map (Value.int .u8)) ++ [ak / 65536 / 256, ak / 65536 % 256].map (Value.int .u8)) ++ [ak % 65536 / 256, ak % 65536 % 256].map (Value.int .u8)) ++ [.int .u8 ((5 + (no : Int) / 4) * 16), .int .u8 fl]) (wn) wa.drew HOE.out SZE.out (by omega) (HBE.out) (h11) (h12)).mono ?_); rintro e u7 ⟨v7, rfl, own7, bel7, siz7⟩; have HO7 := Lib.hid own7; have HB7 := Lib.hid bel7; have HK7 := Lib.hid (keepB HK0.out bel7); clear own7 bel7 siz7))
  clear HKD HOE HBE SZE
  have S1 := Lib.hid (show w.heap.size + 1 ≤ u9.heap.size from Nat.le_trans (Nat.le_of_eq HSZ.out.symm) HB9.out.size)
  have P1 := Lib.hid (show ((((((((((0 + 2) + 2) + 2) + 2) + 2) + 2) + 2) + 2) + 2) + 2) + no ≤ maxLen by unfold maxLen; omega)
  have Q1 := Lib.hid (show (((((((((((0 + 2) + 2) + 2) + 2) + 2) + 2) + 2) + 2) + 2) + 2) + no) * 1 ≤ 140737488355328 by omega)
  have P2 := Lib.hid (show ((((((((((0 + 2) + 2) + 2) + 2) + 2) + 2) + 2) + 2) + 2) + 2) + no + n ≤ maxLen by unfold maxLen; omega)
  have Q2 := Lib.hid (show (((((((((((0 + 2) + 2) + 2) + 2) + 2) + 2) + 2) + 2) + 2) + 2) + no + n) * 1 ≤ 140737488355328 by omega)
  have R1 := Lib.hid (HOR.out.below (HB0.out.trans (HB9.out.mono (Nat.le_succ _))))
  have b7 : u9.cell? ⟨w.heap.size, 7, none⟩ = some (.slice AO no co) := HK9.out.2.2.2.2.2.2.2
  go_wp2_with (first
    | (at_builtin; refine wpList_append_row rfl (.tmp 55) (.tmp 57) _ rfl (w.heap.size + 1) 5 i0 _ 1 Try.underlying23 HI0.out HZ0.out HZ1.out HZ2.out rfl v9 ((((((((((0 + 2) + 2) + 2) + 2) + 2) + 2) + 2) + 2) + 2) + 2) (((((((((([] ++ [sp / 256, sp % 256].map (Value.int .u8)) ++ [dp / 256, dp % 256].map (Value.int .u8)) ++ [sq / 65536 / 256, sq / 65536 % 256].map (Value.int .u8)) ++ [sq % 65536 / 256, sq % 65536 % 256].map (Value.int .u8)) ++ [ak / 65536 / 256, ak / 65536 % 256].map (Value.int .u8)) ++ [ak % 65536 / 256, ak % 65536 % 256].map (Value.int .u8)) ++ [.int .u8 ((5 + (no : Int) / 4) * 16), .int .u8 fl]) ++ [wn / 256, wn % 256].map (Value.int .u8)) ++ [0 / 256, 0 % 256].map (Value.int .u8)) ++ [ur / 256, ur % 256].map (Value.int .u8)) rfl HO9.out AO no co w.heap.size (os.map (.int .u8)) rfl HOZ.out (by rw [List.length_map]; exact HOL.out) R1.out (ONE.out _) P1.out Q1.out S1.out ?_; intro vb wb ownb gb; have HOb := Lib.hid ownb; have HBb := Lib.hid (below_grown HB9.out HO9.out (Nat.le_refl _) S1.out gb); have S2 := Lib.hid (Nat.le_trans S1.out gb.size); clear ownb gb)
    | (at_builtin; refine wpList_append_row rfl (.tmp 59) (.tmp 60) _ rfl (w.heap.size + 1) 5 i0 _ 1 Try.underlying23 HI0.out HZ0.out HZ1.out HZ2.out rfl vb (((((((((((0 + 2) + 2) + 2) + 2) + 2) + 2) + 2) + 2) + 2) + 2) + no) ((((((((((([] ++ [sp / 256, sp % 256].map (Value.int .u8)) ++ [dp / 256, dp % 256].map (Value.int .u8)) ++ [sq / 65536 / 256, sq / 65536 % 256].map (Value.int .u8)) ++ [sq % 65536 / 256, sq % 65536 % 256].map (Value.int .u8)) ++ [ak / 65536 / 256, ak / 65536 % 256].map (Value.int .u8)) ++ [ak % 65536 / 256, ak % 65536 % 256].map (Value.int .u8)) ++ [.int .u8 ((5 + (no : Int) / 4) * 16), .int .u8 fl]) ++ [wn / 256, wn % 256].map (Value.int .u8)) ++ [0 / 256, 0 % 256].map (Value.int .u8)) ++ [ur / 256, ur % 256].map (Value.int .u8)) ++ os.map (.int .u8)) rfl HOb.out A n c w.heap.size (pl.map (.int .u8)) rfl HZ.out (by rw [List.length_map]; exact HL.out) (HR.out.below (HB0.out.trans (HBb.out.mono (Nat.le_succ _)))) (ONE.out _) P2.out Q2.out S2.out ?_; intro vc wc ownc gc; have HOc := Lib.hid ownc; have HBc := Lib.hid (below_grown HBb.out HOb.out (Nat.le_refl _) S2.out gc); clear ownc gc))
  go_ret
  have hfin := HOc.out
  have hx : (((((((((([] ++ [sp / 256, sp % 256].map (Value.int .u8)) ++ [dp / 256, dp % 256].map (Value.int .u8)) ++ [sq / 65536 / 256, sq / 65536 % 256].map (Value.int .u8)) ++ [sq % 65536 / 256, sq % 65536 % 256].map (Value.int .u8)) ++ [ak / 65536 / 256, ak / 65536 % 256].map (Value.int .u8)) ++ [ak % 65536 / 256, ak % 65536 % 256].map (Value.int .u8)) ++ [.int .u8 ((5 + (no : Int) / 4) * 16), .int .u8 fl]) ++ [wn / 256, wn % 256].map (Value.int .u8)) ++ [0 / 256, 0 % 256].map (Value.int .u8)) ++ [ur / 256, ur % 256].map (Value.int .u8)) ++ os.map (.int .u8) ++ pl.map (.int .u8) = (tb sp dp sq ak fl wn ur os pl).map (.int .u8) := by simp [tb, HOL.out]
  have hm : ((((((((((0 + 2) + 2) + 2) + 2) + 2) + 2) + 2) + 2) + 2) + 2) + no + n = (tb sp dp sq ak fl wn ur os pl).length := by
    have a := HOL.out
    have b := HL.out
    simp [tb]
    omega
  rw [hx, hm] at hfin
  exact ⟨_, rfl, own_base hfin (Nat.le_succ _), HB0.out.trans (HBc.out.mono (Nat.le_succ _))⟩
end Go.Proofs.Ytjgeknkfinaimaa.tcpE
