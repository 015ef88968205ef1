/- 15 texts in one. -/
import Derived.Deep.RegionHeld3
import Derived.Deep.DeepCutAuto
import Derived.Laws.Tables
import Derived.Laws.ResultCell
import Derived.Deep.WholeRow
import Derived.Laws.CopyOwn
import Derived.Test.YtodckfgfbcnkoaaTb01
import Derived.Test.YtodckfgfbcnkoaaTb02
import Derived.Test.YtodckfgfbcnkoaaTb04
import Derived.Test.YtodckfgfbcnkoaaTb06
import Derived.Test.YtodckfgfbcnkoaaTb10
import Derived.Test.YtodckfgfbcnkoaaTb11
import Derived.Test.YtodckfgfbcnkoaaTb12
/- Layer 13: what the parsers tell, each by one contract. -/
namespace Go.Proofs.Ytodckfgfbcnkoaa.pktA
open Go.ChangeShapes Go.WideShapes Go.ChangeAt Go.RowKit
open Go.Proofs.Ytodckfgfbcnkoaa.base Go.Proofs.Ytodckfgfbcnkoaa.octA Go.Proofs.Ytodckfgfbcnkoaa.net Go.Proofs.Ytodckfgfbcnkoaa.rdrA Go.Proofs.Ytodckfgfbcnkoaa.sumA Go.Proofs.Ytodckfgfbcnkoaa.sumB Go.Proofs.Ytodckfgfbcnkoaa.sixW Go.Proofs.Ytodckfgfbcnkoaa.sixM Go.Proofs.Ytodckfgfbcnkoaa.sixE
set_option linter.unusedVariables false

def fourE (l : List Int) : Int := if l.length < 20 then 2 else if l.getD 0 0 / 16 ≠ 4 then 10 else if fourA.hl l < 20 ∨ (l.length : Int) < fourA.hl l then 11 else if 32768 ≤ udpA.w16 l 6 then 11 else if udpA.w16 l 2 < fourA.hl l ∨ (l.length : Int) < udpA.w16 l 2 then 12 else if fo (wsum (l.take (fourA.hl l).toNat)) ≠ 65535 then 13 else 0
structure Sl (w : World) (A : Option Addr) (n c : Nat) (l : List Int) : Prop where
  len : l.length = n
  row : Row w w.heap.size A (l.map (.int .u8))
  nc : n ≤ c
  mx : c ≤ 9223372036854775807
  nil : A = none → c = 0
  u8 : U8 l
theorem Sl.below {w w' : World} {A : Option Addr} {n c : Nat} {l : List Int} (h : Sl w A n c l) (hb : Below w.heap.size w w') : Sl w' A n c l := ⟨h.len, (h.row.below hb).more hb.size, h.nc, h.mx, h.nil, h.u8⟩
theorem Sl.own {w : World} {B : Nat} {A : Option Addr} {n c : Nat} {l : List Int} (h : w.ownsRow B 5 1 (.slice A n c) n (l.map (.int .u8))) (hl : l.length = n) (hu : U8 l) : Sl w A n c l := by
  have hc := own_cap h
  exact ⟨hl, own_row h, hc.1, hc.2.1, hc.2.2, hu⟩
theorem Sl.none_ (w : World) : Sl w none 0 0 [] := ⟨rfl, .inl rfl, Nat.le_refl _, by omega, fun _ => rfl, fun x hx => by cases hx⟩
def fourS (l : List Int) : Nat := (fourA.hl l).toNat
def fourR (l : List Int) : List Int := (l.drop (fourS l)).take ((udpA.w16 l 2).toNat - fourS l)
def FourP (l : List Int) (w : World) (o : Ending) (w' : World) : Prop := Below w.heap.size w w' ∧ ((fourE l ≠ 0 ∧ o = .returned (fourB.err (fourE l))) ∨ (fourE l = 0 ∧ 20 ≤ fourS l ∧ fourS l ≤ 60 ∧ (fourR l).length ≤ l.length ∧ ∃ (tos id : Int) (df : Bool) (AO : Option Addr) (co : Nat) (AR : Option Addr) (cr : Nat), o = .returned (.tuple #[.agg #[.int .i64 tos, .int .i64 id, .bool df, .bool (decide (udpA.w16 l 6 / 8192 % 2 = 1)), .int .i64 (udpA.w16 l 6 % 8192), .int .i64 (l.getD 8 0), .int .i64 (l.getD 9 0), .bool false, .int .u64 0, .int .u64 (tcpC.w32 l 12), .bool false, .int .u64 0, .int .u64 (tcpC.w32 l 16), .slice AO (fourS l - 20) co], .slice AR (fourR l).length cr, .int .i64 0]) ∧ Sl w' AR (fourR l).length cr (fourR l)))
theorem four_begin (A : Option Addr) (n c : Nat) (k : Int) (hk : k ≠ 0) (w : World) (h : ∀ W, Below w.heap.size w W → Calls Try.prog 46 #[.slice A n c] W fun e w' => e = .returned (.tuple #[.int .i64 0, .int .i64 k]) ∧ W = w') :
    Calls Try.prog 21 #[.slice A n c] w fun e w' => e = .returned (fourB.err k) ∧ Below w.heap.size w w' := by
  have tk : (k != 0) = true := bneT hk
  have H := Lib.hid (h (w.alloc (.cells #[.int .i64 0, .int .i64 0, .bool false, .bool false, .int .i64 0, .int .i64 0, .int .i64 0, .bool false, .int .u64 0, .int .u64 0, .bool false, .int .u64 0, .int .u64 0, .slice none 0 0] 53)) ((Below.refl _ _).alloc (Nat.le_refl _) _))
  clear h hk
  go_enter Try.func21, Try.ntmps21
  go_wp2_with fail
  refine H.out.mono ?_
  rintro e w1 ⟨rfl, hw⟩
  subst hw
  go_wp2_with fail
  exact bodyPost_ret (v := fourB.err k) (by simp [results, Try.results21, go_sem, fourB.err]) rfl ⟨rfl, (Below.refl _ _).alloc (Nat.le_refl _) _⟩
theorem four_any (A : Option Addr) (n c : Nat) (l : List Int) (w : World) (h : Sl w A n c l) (hn : n ≤ 1000) : Calls Try.prog 21 #[.slice A n c] w (FourP l w) := by
  have hl := h.len
  have bad : ∀ k : Int, k ≠ 0 → fourE l = k → (Calls Try.prog 21 #[.slice A n c] w fun e w' => e = .returned (fourB.err k) ∧ Below w.heap.size w w') → Calls Try.prog 21 #[.slice A n c] w (FourP l w) := fun k hk he hc => hc.mono fun o w' h => ⟨h.2, .inl ⟨by omega, by rw [he]; exact h.1⟩⟩
  by_cases h20 : n < 20
  · exact bad 2 (by omega) (by unfold fourE; rw [if_pos (by omega)]) (fourB.parse_begin A n c 2 (by omega) w (fun W => fourA.begin_short A n c W h20))
  obtain ⟨b, off, rfl, hb, hs⟩ := lies_of h.row (by omega)
  have BG : ∀ k : Int, k ≠ 0 → fourE l = k → (∀ W : World, b < W.heap.size → Lies W b off l → Calls Try.prog 46 #[.slice (some ⟨b, off, none⟩) n c] W fun e w' => e = .returned (.tuple #[.int .i64 0, .int .i64 k]) ∧ W = w') → Calls Try.prog 21 #[.slice (some ⟨b, off, none⟩) n c] w (FourP l w) :=
    fun k hk he h => bad k hk he (four_begin _ n c k hk w fun W hW => h W (Nat.lt_of_lt_of_le hb hW.size) (hs.below hW hb))
  have k0 := h.u8.get 0
  by_cases hv : l.getD 0 0 / 16 = 4
  · have hsN : 0 ≤ fourA.hl l := by unfold fourA.hl; omega
    have hs60 : fourA.hl l ≤ 60 := by unfold fourA.hl; omega
    obtain ⟨s, hsz⟩ := Int.eq_ofNat_of_zero_le hsN
    by_cases h1 : s < 20
    · exact BG 11 (by omega) (by unfold fourE; rw [if_neg (by omega), if_neg (by omega), if_pos (by omega)]) fun W a b' => fourA.begin_no b off n c l W hl (by omega) a b' h.u8 11 (.inr (.inl ⟨hv, by omega, rfl⟩))
    by_cases h2 : n < s
    · exact BG 11 (by omega) (by unfold fourE; rw [if_neg (by omega), if_neg (by omega), if_pos (by omega)]) fun W a b' => fourA.begin_no b off n c l W hl (by omega) a b' h.u8 11 (.inr (.inr ⟨hv, by omega, by omega, rfl⟩))
    have h6 := udpA.w16_in l h.u8 6
    have h22 := udpA.w16_in l h.u8 2
    by_cases hq : 32768 ≤ udpA.w16 l 6
    · exact bad 11 (by omega) (by unfold fourE; rw [if_neg (by omega), if_neg (by omega), if_neg (by omega), if_pos hq]) (fourB.parse_bit b off n c s l w hl (by omega) hn h.nc h.mx hb hs h.u8 hv (by omega) (by omega) hsz hq)
    by_cases ha : udpA.w16 l 2 < s
    · exact bad 12 (by omega) (by unfold fourE; rw [if_neg (by omega), if_neg (by omega), if_neg (by omega), if_neg hq, if_pos (by omega)]) (fourB.parse_less b off n c s l w hl (by omega) hn h.nc h.mx hb hs h.u8 hv (by omega) (by omega) hsz (by omega) ha)
    by_cases ha2 : (n : Int) < udpA.w16 l 2
    · exact bad 12 (by omega) (by unfold fourE; rw [if_neg (by omega), if_neg (by omega), if_neg (by omega), if_neg hq, if_pos (by omega)]) (fourB.parse_more b off n c s l w hl (by omega) hn h.nc h.mx hb hs h.u8 hv (by omega) (by omega) hsz (by omega) (by omega) ha2)
    obtain ⟨a, haz⟩ := Int.eq_ofNat_of_zero_le h22.1
    have es : fourS l = s := by unfold fourS; omega
    have et : (fourA.hl l).toNat = s := es
    by_cases hS : fo (wsum (l.take s)) = 65535
    · have e : fourE l = 0 := by unfold fourE; rw [if_neg (by omega), if_neg (by omega), if_neg (by omega), if_neg hq, if_neg (by omega), et, if_neg (by omega)]
      have er : fourR l = (l.drop s).take (a - s) := by unfold fourR; rw [es, haz]; rfl
      have key : Calls Try.prog 21 #[.slice (some ⟨b, off, none⟩) n c] w (fourB.OkPost w l ((l.drop s).take (a - s)) s (a - s)) := by
        by_cases hcs : c = s
        · exact fourB.parse_near b off n c s l w hl (by omega) hn h.nc h.mx hb hs h.u8 hv (by omega) (by omega) hsz (by omega) a haz (by omega) (by omega) hS hcs
        · exact fourB.parse_far b off n c s l w hl (by omega) hn h.nc h.mx hb hs h.u8 hv (by omega) (by omega) hsz (by omega) a haz (by omega) (by omega) hS hcs
      refine key.mono ?_
      rintro o w' ⟨AO, co, v, h1, h2, h3, h4, h5⟩
      obtain ⟨B, d, rfl⟩ := own_slice h4
      have hln : ((l.drop s).take (a - s)).length = a - s := by rw [List.length_take, List.length_drop]; omega
      refine ⟨h5, .inr ⟨e, by omega, by omega, by rw [er, hln]; omega, l.getD 1 0, udpA.w16 l 4, decide (udpA.w16 l 6 / 16384 % 2 = 1), AO, co, B, d, ?_, ?_⟩⟩
      · rw [er, hln, es]
        exact h1
      · rw [er, hln]
        exact Sl.own h4 hln ((h.u8.drop s).take (a - s))
    · exact bad 13 (by omega) (by unfold fourE; rw [if_neg (by omega), if_neg (by omega), if_neg (by omega), if_neg hq, if_neg (by omega), et, if_pos hS]) (fourB.parse_sum b off n c s l w hl (by omega) hn h.nc h.mx hb hs h.u8 hv (by omega) (by omega) hsz (by omega) a haz (by omega) (by omega) hS)
  · exact BG 10 (by omega) (by unfold fourE; rw [if_neg (by omega), if_pos hv]) fun W a b' => fourA.begin_no b off n c l W hl (by omega) a b' h.u8 10 (.inl ⟨hv, rfl⟩)
end Go.Proofs.Ytodckfgfbcnkoaa.pktA
/- Layer 13: what goes into the checks. -/
namespace Go.Proofs.Ytodckfgfbcnkoaa.pktB
open Go.ChangeShapes Go.WideShapes Go.ChangeAt Go.RowKit
open Go.Proofs.Ytodckfgfbcnkoaa.base Go.Proofs.Ytodckfgfbcnkoaa.octA Go.Proofs.Ytodckfgfbcnkoaa.octB Go.Proofs.Ytodckfgfbcnkoaa.rdrA Go.Proofs.Ytodckfgfbcnkoaa.snK Go.Proofs.Ytodckfgfbcnkoaa.sixW Go.Proofs.Ytodckfgfbcnkoaa.sixM Go.Proofs.Ytodckfgfbcnkoaa.sixE Go.Proofs.Ytodckfgfbcnkoaa.pktA
set_option linter.unusedVariables false

structure PS (w V : World) (v : Value) (k : Nat) (xs : List Int) : Prop where
  own : V.ownsRow w.heap.size 5 1 v k (xs.map (.int .u8))
  bel : Below w.heap.size w V
theorem PS.below {w V V' : World} {v : Value} {k : Nat} {xs : List Int} (h : PS w V v k xs) (hb : Below V.heap.size V V') : PS w V' v k xs := ⟨own_below2 h.own hb, h.bel.trans (hb.mono h.bel.size)⟩
theorem PS.put {w V : World} {v : Value} {k : Nat} {xs : List Int} (h : PS w V v k xs) (n s : Int) (hk : k ≤ 1000000) (n0 : 0 ≤ n) (n1 : n < 18446744073709551616) :
    Calls Try.prog 55 #[v, .int .u64 n, .int .i64 s] V fun o w' => ∃ v', o = .returned v' ∧ PS w w' v' (k + hs s) (xs ++ pb n (hs s) (hs s)) := by
  refine (put_t v k (xs.map (.int .u8)) n s w.heap.size w.heap.size w V h.own h.bel.size hk h.bel (Nat.le_refl _) n0 n1).mono ?_
  rintro o w' ⟨v', rfl, h1, h2, h3, h4⟩
  exact ⟨v', rfl, by rw [List.map_append]; exact h1, h2⟩
theorem PS.all {w V : World} {v : Value} {k : Nat} {xs : List Int} (h : PS w V v k xs) (s : Int) (b n c : Nat) (bs : Array Value) (l : List Int) (hk : k + 8 * n ≤ 1000000) (hl : l.length = n) (hK : Blk V b 30 bs) (hcs : bs.toList = l.map (.int .u64)) (hw : ∀ x ∈ l, 0 ≤ x ∧ x < 18446744073709551616) :
    Calls Try.prog 65 #[v, .int .i64 s, .slice (some ⟨b, 0, none⟩) n c] V fun o w' => ∃ v', o = .returned v' ∧ PS w w' v' (k + hs s * n) (xs ++ allb (hs s) l) := by
  refine (all_t b bs v k (xs.map (.int .u8)) s n c l w.heap.size w.heap.size w V h.own h.bel.size hk h.bel (Nat.le_refl _) hl hK hcs hw).mono ?_
  rintro o w' ⟨v', rfl, h1, h2, h3, h4⟩
  exact ⟨v', rfl, by rw [List.map_append]; exact h1, h2⟩
theorem pb_u8 (n : Int) (k j : Nat) : U8 (pb n k j) := fun x hx => by
  simp only [pb, List.mem_map] at hx
  obtain ⟨t, _, rfl⟩ := hx
  exact byteZ_in n _
def Gives (l : List Int) (w : World) (o : Ending) (w' : World) : Prop := Below w.heap.size w w' ∧ ∃ (A : Option Addr) (n c : Nat), o = .returned (.slice A n c) ∧ Sl w' A n c l ∧ ∀ ad, A = some ad → w.heap.size ≤ ad.block
theorem own_geo {w : World} {B e : Nat} {ad : Addr} {n c m : Nat} {xs : List Value} (h : w.ownsRow B e 1 (.slice (some ad) n c) m xs) : B ≤ ad.block := by
  rcases h.2 with ⟨hv, _⟩ | ⟨g, cap, cur, hv, hb, _⟩
  · injection hv with h1; cases h1
  · injection hv with h1
    injection h1 with h1
    subst h1
    exact hb
theorem Gives.of {w w' : World} {v : Value} {k : Nat} {l : List Int} (h : PS w w' v k l) (hk : l.length = k) (hu : U8 l) : Gives l w (.returned v) w' := by
  obtain ⟨A, c, rfl⟩ := own_slice h.own
  exact ⟨h.bel, A, k, c, rfl, Sl.own h.own hk hu, fun ad hA => by subst hA; exact own_geo h.own⟩
end Go.Proofs.Ytodckfgfbcnkoaa.pktB
namespace Go.Proofs.Ytodckfgfbcnkoaa.icmpH
end Go.Proofs.Ytodckfgfbcnkoaa.icmpH
namespace Go.Proofs.Ytodckfgfbcnkoaa.icmpI
end Go.Proofs.Ytodckfgfbcnkoaa.icmpI
/- Layer 13: what a message is about. -/
namespace Go.Proofs.Ytodckfgfbcnkoaa.pktC
open Go.ChangeShapes Go.WideShapes Go.ChangeAt Go.RowKit
open Go.Proofs.Ytodckfgfbcnkoaa.rdrA Go.Proofs.Ytodckfgfbcnkoaa.rdrG Go.Proofs.Ytodckfgfbcnkoaa.udpA Go.Proofs.Ytodckfgfbcnkoaa.tcpC Go.Proofs.Ytodckfgfbcnkoaa.sixW Go.Proofs.Ytodckfgfbcnkoaa.sixM
set_option linter.unusedVariables false

structure Tp where
  pr : Int
  s6 : Bool
  sh : Int
  sl : Int
  d6 : Bool
  dh : Int
  dl : Int
  sp : Int
  dp : Int
def Tp.cells (t : Tp) : Array Value := #[.int .i64 t.pr, .bool t.s6, .int .u64 t.sh, .int .u64 t.sl, .bool t.d6, .int .u64 t.dh, .int .u64 t.dl, .int .i64 t.sp, .int .i64 t.dp]
def zeroT : Tp := ⟨0, false, 0, 0, false, 0, 0, 0, 0⟩
structure Qt where
  f : Int
  fr : Int
  t : Tp
  r : List Int
def q4 (d : List Int) : Qt := if d.length < 20 then ⟨2, 0, zeroT, []⟩ else if d.getD 0 0 / 16 ≠ 4 then ⟨10, 0, zeroT, []⟩ else if fourA.hl d < 20 ∨ (d.length : Int) < fourA.hl d then ⟨11, 0, zeroT, []⟩ else ⟨0, udpA.w16 d 6 % 8192, ⟨d.getD 9 0, false, 0, tcpC.w32 d 12, false, 0, tcpC.w32 d 16, 0, 0⟩, d.drop (fourA.hl d).toNat⟩
end Go.Proofs.Ytodckfgfbcnkoaa.pktC
/- Layer 13: a packet with what is behind its header. -/
namespace Go.Proofs.Ytodckfgfbcnkoaa.pktD
open Go.ChangeShapes Go.WideShapes Go.ChangeAt Go.RowKit
open Go.Proofs.Ytodckfgfbcnkoaa.base Go.Proofs.Ytodckfgfbcnkoaa.rdrA Go.Proofs.Ytodckfgfbcnkoaa.rdrG Go.Proofs.Ytodckfgfbcnkoaa.sixW Go.Proofs.Ytodckfgfbcnkoaa.sixM Go.Proofs.Ytodckfgfbcnkoaa.pktA
set_option linter.unusedVariables false

theorem only_cell {g : Nat} {w w' : World} (h : OnlyG g w w') {p : Addr} (hp : p.block ≠ g) : w'.cell? p = w.cell? p := by
  have := h.els p.block hp
  simp [World.cell?, this]
theorem _root_.Go.Proofs.Ytodckfgfbcnkoaa.pktA.Sl.set_ {w w' : World} {A : Option Addr} {n c g : Nat} {l : List Int} (h : Sl w A n c l) (hne : ∀ ad, A = some ad → ad.block ≠ g) (ho : OnlyG g w w') : Sl w' A n c l := by
  refine ⟨h.len, ?_, h.nc, h.mx, h.nil, h.u8⟩
  rcases h.row with h0 | ⟨b, off, hA, hb, hc⟩
  · exact .inl h0
  · refine .inr ⟨b, off, hA, by rw [ho.size]; exact hb, fun i u hu => ?_⟩
    rw [← hc i u hu]
    exact only_cell ho (p := ⟨b, off + i, none⟩) (hne ⟨b, off, none⟩ hA)
end Go.Proofs.Ytodckfgfbcnkoaa.pktD
/- Layer 13: with, parse4. -/
namespace Go.Proofs.Ytodckfgfbcnkoaa.pktE
open Go.ChangeShapes Go.WideShapes Go.ChangeAt Go.RowKit
open Go.Proofs.Ytodckfgfbcnkoaa.base Go.Proofs.Ytodckfgfbcnkoaa.rdrA Go.Proofs.Ytodckfgfbcnkoaa.rdrG Go.Proofs.Ytodckfgfbcnkoaa.sixM Go.Proofs.Ytodckfgfbcnkoaa.pktC
set_option linter.unusedVariables false

structure Pk where
  v6 : Bool
  t : Tp
  ttl : Int
  fl : Int
  er : Bool
  ab : Tp
  sz : Int
def Pk.cells (P : Pk) : Array Value := #[.bool P.v6, .int .i64 P.t.pr, .bool P.t.s6, .int .u64 P.t.sh, .int .u64 P.t.sl, .bool P.t.d6, .int .u64 P.t.dh, .int .u64 P.t.dl, .int .i64 P.t.sp, .int .i64 P.t.dp, .int .i64 P.ttl, .int .i64 P.fl, .bool P.er, .int .i64 P.ab.pr, .bool P.ab.s6, .int .u64 P.ab.sh, .int .u64 P.ab.sl, .bool P.ab.d6, .int .u64 P.ab.dh, .int .u64 P.ab.dl, .int .i64 P.ab.sp, .int .i64 P.ab.dp, .int .i64 P.sz]
theorem len4_any (tos id : Int) (df mf : Bool) (fr ttl pr sl dl : Int) (AO : Option Addr) (no co : Nat) (w : World) (hn : no ≤ 1000) :
    Calls Try.prog 32 #[.agg #[.int .i64 tos, .int .i64 id, .bool df, .bool mf, .int .i64 fr, .int .i64 ttl, .int .i64 pr, .bool false, .int .u64 0, .int .u64 sl, .bool false, .int .u64 0, .int .u64 dl, .slice AO no co]] w fun e w' => e = .returned (.int .i64 (20 + (no : Int))) ∧ Below w.heap.size w w' := by
  go_enter Try.func32, Try.ntmps32
  go_wp2
  go_ret
  exact ⟨rfl, (Below.refl _ _).alloc (Nat.le_refl _) _⟩
end Go.Proofs.Ytodckfgfbcnkoaa.pktE
namespace Go.Proofs.Ytodckfgfbcnkoaa.pktF
end Go.Proofs.Ytodckfgfbcnkoaa.pktF
/- Layer 9: the law SixParses where a header begins. -/
namespace Go.Proofs.Ytodckfgfbcnkoaa.sixU
open Go.ChangeShapes Go.WideShapes Go.ChangeAt Go.RowKit
open Go.Proofs.Ytodckfgfbcnkoaa.sixW Go.Proofs.Ytodckfgfbcnkoaa.sixB
set_option linter.unusedVariables false

theorem le2047 {l : List XP} (h : RightE l) (x : XP) (hx : x ∈ l) : x.2.length ≤ 2047 := by
  obtain ⟨i, hi, rfl⟩ := List.getElem_of_mem hx
  have := h.each i hi
  unfold rightX at this
  simp only [Bool.and_eq_true, decide_eq_true_eq] at this
  exact this.1.2.1
end Go.Proofs.Ytodckfgfbcnkoaa.sixU
namespace Go.Proofs.Ytodckfgfbcnkoaa.pktG
end Go.Proofs.Ytodckfgfbcnkoaa.pktG
/- Layer 13: a packet whose bytes behind its header a closure makes. -/
namespace Go.Proofs.Ytodckfgfbcnkoaa.pktL
open Go.ChangeShapes Go.WideShapes Go.ChangeAt Go.RowKit
open Go.Proofs.Ytodckfgfbcnkoaa.rdrA Go.Proofs.Ytodckfgfbcnkoaa.rdrG Go.Proofs.Ytodckfgfbcnkoaa.pktA Go.Proofs.Ytodckfgfbcnkoaa.pktB
set_option linter.unusedVariables false

def MkP (e : Int) (out : List Int) (w : World) (o : Ending) (w' : World) : Prop := Below w.heap.size w w' ∧ ∃ (A : Option Addr) (n c : Nat), o = .returned (.tuple #[.slice A n c, .int .i64 e]) ∧ Sl w' A n c out
theorem MkP.nil_ {e : Int} {w w' : World} (h : Below w.heap.size w w') : MkP e [] w (.returned (.tuple #[.slice none 0 0, .int .i64 e])) w' := ⟨h, none, 0, 0, rfl, Sl.none_ w'⟩
end Go.Proofs.Ytodckfgfbcnkoaa.pktL
namespace Go.Proofs.Ytodckfgfbcnkoaa.udpB
end Go.Proofs.Ytodckfgfbcnkoaa.udpB
namespace Go.Proofs.Ytodckfgfbcnkoaa.udpC
end Go.Proofs.Ytodckfgfbcnkoaa.udpC
/- Layer 8: headers that may be, flags, alike ones, why bytes are none. -/
namespace Go.Proofs.Ytodckfgfbcnkoaa.fourC
open Go.ChangeShapes Go.WideShapes Go.ChangeAt Go.RowKit
open Go.Proofs.Ytodckfgfbcnkoaa.base Go.Proofs.Ytodckfgfbcnkoaa.sumB Go.Proofs.Ytodckfgfbcnkoaa.rdrA Go.Proofs.Ytodckfgfbcnkoaa.net
set_option linter.unusedVariables false

def okF (tos id fr ttl pr sl dl : Int) (no : Nat) : Prop := (0 ≤ tos ∧ tos ≤ 255) ∧ (0 ≤ id ∧ id ≤ 65535) ∧ (0 ≤ fr ∧ fr ≤ 8191) ∧ (0 ≤ ttl ∧ ttl ≤ 255) ∧ (0 ≤ pr ∧ pr ≤ 255) ∧ (0 ≤ sl ∧ sl ≤ 4294967295) ∧ (0 ≤ dl ∧ dl ≤ 4294967295) ∧ no ≤ 40 ∧ no % 4 = 0
def flz (df mf : Bool) (fr : Int) : Int := fr + (if df then 16384 else 0) + (if mf then 8192 else 0)
theorem flz_in (df mf : Bool) (fr : Int) (h0 : 0 ≤ fr) (h1 : fr ≤ 8191) : 0 ≤ flz df mf fr ∧ flz df mf fr ≤ 65535 := by
  unfold flz
  cases df <;> cases mf <;> simp <;> omega
theorem or_pow (n k : Nat) (h : n < 2 ^ k) : n ||| 2 ^ k = n + 2 ^ k := by
  have := Nat.shiftLeft_add_eq_or_of_lt h 1
  rw [Nat.shiftLeft_eq, Nat.one_mul] at this
  rw [Nat.or_comm, ← this, Nat.add_comm]
theorem u64_or_nat (a b : Nat) (ha : a < 9223372036854775808) (hb : b < 9223372036854775808) : bits .or .u64 (a : Int) (b : Int) = ((a ||| b : Nat) : Int) := by
  have hA : (BitVec.ofInt 64 (a : Int)).toNat = a := by rw [BitVec.ofInt_natCast, BitVec.toNat_ofNat]; exact Nat.mod_eq_of_lt (by omega)
  have hB : (BitVec.ofInt 64 (b : Int)).toNat = b := by rw [BitVec.ofInt_natCast, BitVec.toNat_ofNat]; exact Nat.mod_eq_of_lt (by omega)
  show IntKind.u64.wrap ((BitVec.ofInt 64 (a : Int) ||| BitVec.ofInt 64 (b : Int)).toNat : Nat) = _
  rw [BitVec.toNat_or, hA, hB]
  have : a ||| b < 2 ^ 63 := Nat.or_lt_two_pow (by omega) (by omega)
  rw [IntKind.wrap_u64]
  omega
theorem or14 (n : Int) (h0 : 0 ≤ n) (h1 : n ≤ 8191) : bits .or .u64 n 16384 = n + 16384 := by
  obtain ⟨m, rfl⟩ := Int.eq_ofNat_of_zero_le h0
  have e : bits .or .u64 (m : Int) 16384 = ((m ||| 16384 : Nat) : Int) := u64_or_nat m 16384 (by omega) (by omega)
  rw [e, show (16384 : Nat) = 2 ^ 14 from rfl, or_pow m 14 (by omega)]
  rfl
theorem or13 (n : Int) (h0 : 0 ≤ n) (h1 : n ≤ 8191) : bits .or .u64 n 8192 = n + 8192 := by
  obtain ⟨m, rfl⟩ := Int.eq_ofNat_of_zero_le h0
  have e : bits .or .u64 (m : Int) 8192 = ((m ||| 8192 : Nat) : Int) := u64_or_nat m 8192 (by omega) (by omega)
  rw [e, show (8192 : Nat) = 2 ^ 13 from rfl, or_pow m 13 (by omega)]
  rfl
theorem or1314 (n : Int) (h0 : 0 ≤ n) (h1 : n ≤ 8191) : bits .or .u64 (n + 16384) 8192 = n + 16384 + 8192 := by
  obtain ⟨m, rfl⟩ := Int.eq_ofNat_of_zero_le h0
  have e : bits .or .u64 ((m + 16384 : Nat) : Int) 8192 = ((m + 16384 ||| 8192 : Nat) : Int) := u64_or_nat (m + 16384) 8192 (by omega) (by omega)
  have e1 := or_pow m 14 (by omega)
  have e2 := or_pow m 13 (by omega)
  have e3 := or_pow (m + 8192) 14 (by omega)
  have e4 : m + 16384 ||| 8192 = m + 8192 + 16384 := by
    have : m + 16384 = m ||| 2 ^ 14 := e1.symm
    rw [this, Nat.or_assoc, Nat.or_comm (2 ^ 14), ← Nat.or_assoc, show (8192 : Nat) = 2 ^ 13 from rfl, e2]
    exact e3
  have e5 : ((m : Int) + 16384) = ((m + 16384 : Nat) : Int) := by omega
  rw [e5, e, e4]
  omega
theorem len_any (tos id : Int) (df mf : Bool) (fr ttl pr sl dl : Int) (AO : Option Addr) (no co : Nat) (w : World) (hn : no ≤ 1000) :
    Calls Try.prog 32 #[.agg #[.int .i64 tos, .int .i64 id, .bool df, .bool mf, .int .i64 fr, .int .i64 ttl, .int .i64 pr, .bool false, .int .u64 0, .int .u64 sl, .bool false, .int .u64 0, .int .u64 dl, .slice AO no co]] w fun e w' => e = .returned (.int .i64 (20 + (no : Int))) ∧ Below w.heap.size w w' := by
  go_enter Try.func32, Try.ntmps32
  go_wp2
  go_ret
  exact ⟨rfl, (Below.refl _ _).alloc (Nat.le_refl _) _⟩
theorem part_any (tos id : Int) (df mf : Bool) (fr ttl pr sl dl : Int) (AO : Option Addr) (no co : Nat) (w : World) (h0 : 0 ≤ fr) (h1 : fr ≤ 8191) :
    Calls Try.prog 71 #[.agg #[.int .i64 tos, .int .i64 id, .bool df, .bool mf, .int .i64 fr, .int .i64 ttl, .int .i64 pr, .bool false, .int .u64 0, .int .u64 sl, .bool false, .int .u64 0, .int .u64 dl, .slice AO no co]] w fun e w' => e = .returned (.int .u64 (flz df mf fr)) ∧ Below w.heap.size w w' := by
  have v : IntKind.u64.wrap fr = fr := by rw [IntKind.wrap_u64]; omega
  have e14 := or14 fr h0 h1
  have e13 := or13 fr h0 h1
  have e15 := or1314 fr h0 h1
  unfold flz
  cases df <;> cases mf <;> simp only [if_true, if_false, Int.add_zero, Bool.false_eq_true] <;>
    (go_enter Try.func71, Try.ntmps71
     go_wp2
     go_ret
     exact ⟨rfl, (Below.refl _ _).alloc (Nat.le_refl _) _⟩)
theorem addrright_yes (x : Int) (w : World) (h0 : 0 ≤ x) (h1 : x ≤ 4294967295) :
    Calls Try.prog 16 #[.agg #[.bool false, .int .u64 0, .int .u64 x]] w fun e w' => e = .returned (.bool true) ∧ Below w.heap.size w w' := by
  have q : decide (x < 4294967296) = true := decide_eq_true (by omega)
  go_enter Try.func16, Try.ntmps16
  go_wp2
  go_ret
  exact ⟨rfl, (Below.refl _ _).alloc (Nat.le_refl _) _⟩
set_option maxRecDepth 100000 in
set_option maxHeartbeats 4000000 in
theorem right_yes (tos id : Int) (df mf : Bool) (fr ttl pr sl dl : Int) (AO : Option Addr) (no co : Nat) (w : World) (h : okF tos id fr ttl pr sl dl no) :
    Calls Try.prog 70 #[.agg #[.int .i64 tos, .int .i64 id, .bool df, .bool mf, .int .i64 fr, .int .i64 ttl, .int .i64 pr, .bool false, .int .u64 0, .int .u64 sl, .bool false, .int .u64 0, .int .u64 dl, .slice AO no co]] w fun e w' => e = .returned (.bool true) ∧ Below w.heap.size w w' := by
  obtain ⟨⟨h1, h2⟩, ⟨h3, h4⟩, ⟨h5, h6⟩, ⟨h7, h8⟩, ⟨h9, h10⟩, ⟨h11, h12⟩, ⟨h13, h14⟩, ho, hm⟩ := h
  have i0 : ∀ w, (Instr.index 134 (.agg #[.int .i64 tos, .int .i64 255, .int .i64 ttl, .int .i64 255, .int .i64 pr, .int .i64 255, .int .i64 id, .int .i64 65535, .int .i64 fr, .int .i64 8191]) (.int .i64 0)).run Try.prog w = .ok (.agg #[.int .i64 tos, .int .i64 255]) w := fun _ => by kernel_rfl
  have i1 : ∀ w, (Instr.index 134 (.agg #[.int .i64 tos, .int .i64 255, .int .i64 ttl, .int .i64 255, .int .i64 pr, .int .i64 255, .int .i64 id, .int .i64 65535, .int .i64 fr, .int .i64 8191]) (.int .i64 1)).run Try.prog w = .ok (.agg #[.int .i64 ttl, .int .i64 255]) w := fun _ => by kernel_rfl
  have i2 : ∀ w, (Instr.index 134 (.agg #[.int .i64 tos, .int .i64 255, .int .i64 ttl, .int .i64 255, .int .i64 pr, .int .i64 255, .int .i64 id, .int .i64 65535, .int .i64 fr, .int .i64 8191]) (.int .i64 2)).run Try.prog w = .ok (.agg #[.int .i64 pr, .int .i64 255]) w := fun _ => by kernel_rfl
  have i3 : ∀ w, (Instr.index 134 (.agg #[.int .i64 tos, .int .i64 255, .int .i64 ttl, .int .i64 255, .int .i64 pr, .int .i64 255, .int .i64 id, .int .i64 65535, .int .i64 fr, .int .i64 8191]) (.int .i64 3)).run Try.prog w = .ok (.agg #[.int .i64 id, .int .i64 65535]) w := fun _ => by kernel_rfl
  have i4 : ∀ w, (Instr.index 134 (.agg #[.int .i64 tos, .int .i64 255, .int .i64 ttl, .int .i64 255, .int .i64 pr, .int .i64 255, .int .i64 id, .int .i64 65535, .int .i64 fr, .int .i64 8191]) (.int .i64 4)).run Try.prog w = .ok (.agg #[.int .i64 fr, .int .i64 8191]) w := fun _ => by kernel_rfl
  have k0 : ∀ w, (Instr.index 135 (.agg #[.bool false, .int .u64 0, .int .u64 sl, .bool false, .int .u64 0, .int .u64 dl]) (.int .i64 0)).run Try.prog w = .ok (.agg #[.bool false, .int .u64 0, .int .u64 sl]) w := fun _ => by kernel_rfl
  have k1 : ∀ w, (Instr.index 135 (.agg #[.bool false, .int .u64 0, .int .u64 sl, .bool false, .int .u64 0, .int .u64 dl]) (.int .i64 1)).run Try.prog w = .ok (.agg #[.bool false, .int .u64 0, .int .u64 dl]) w := fun _ => by kernel_rfl
  have t0 : (((no : Int) % 4) == 0) = true := eqT (by omega)
  have HBX := Lib.hid ((Below.refl w.heap.size w).alloc (Nat.le_refl _) (.cells #[.int .i64 tos, .int .i64 id, .bool df, .bool mf, .int .i64 fr, .int .i64 ttl, .int .i64 pr, .bool false, .int .u64 0, .int .u64 sl, .bool false, .int .u64 0, .int .u64 dl, .slice AO no co] 53))
  have BOX := Lib.hid (Blk.new w 53 #[.int .i64 tos, .int .i64 id, .bool df, .bool mf, .int .i64 fr, .int .i64 ttl, .int .i64 pr, .bool false, .int .u64 0, .int .u64 sl, .bool false, .int .u64 0, .int .u64 dl, .slice AO no co])
  have HZ := Lib.hid (show (w.alloc (.cells #[.int .i64 tos, .int .i64 id, .bool df, .bool mf, .int .i64 fr, .int .i64 ttl, .int .i64 pr, .bool false, .int .u64 0, .int .u64 sl, .bool false, .int .u64 0, .int .u64 dl, .slice AO no co] 53)).heap.size = w.heap.size + 1 by simp)
  have HA1 := Lib.hid (fun w => addrright_yes sl w h11 h12)
  have HA2 := Lib.hid (fun w => addrright_yes dl w h13 h14)
  go_enter Try.func70, Try.ntmps70
  go_wp2_with fail
  go_loopw [23, 4] (fun i _ wr => ∃ j : Nat, j ≤ 5 ∧ i = .int .i64 j ∧ Below (w.heap.size + 1) (w.alloc (.cells #[.int .i64 tos, .int .i64 id, .bool df, .bool mf, .int .i64 fr, .int .i64 ttl, .int .i64 pr, .bool false, .int .u64 0, .int .u64 sl, .bool false, .int .u64 0, .int .u64 dl, .slice AO no co] 53)) wr) (fun i _ _ => 5 - (intOf i).toNat)
  case atStart => exact ⟨0, by omega, rfl, Below.refl _ _⟩
  case round =>
    obtain ⟨j, hj, rfl, hbel⟩ := hrel
    have HB := Lib.hid hbel
    have HS := Lib.hid (show w.heap.size + 1 ≤ wr.heap.size from Nat.le_trans (Nat.le_of_eq HZ.out.symm) hbel.size)
    have o7 : wr.cell? ⟨w.heap.size, 7, none⟩ = some (.bool false) := (hbel.cell (p := ⟨w.heap.size, 7, none⟩) (Nat.lt_succ_self _)).trans (BOX.out.cell 7)
    have o8 : wr.cell? ⟨w.heap.size, 8, none⟩ = some (.int .u64 0) := (hbel.cell (p := ⟨w.heap.size, 8, none⟩) (Nat.lt_succ_self _)).trans (BOX.out.cell 8)
    have o9 : wr.cell? ⟨w.heap.size, 9, none⟩ = some (.int .u64 sl) := (hbel.cell (p := ⟨w.heap.size, 9, none⟩) (Nat.lt_succ_self _)).trans (BOX.out.cell 9)
    have o10 : wr.cell? ⟨w.heap.size, 10, none⟩ = some (.bool false) := (hbel.cell (p := ⟨w.heap.size, 10, none⟩) (Nat.lt_succ_self _)).trans (BOX.out.cell 10)
    have o11 : wr.cell? ⟨w.heap.size, 11, none⟩ = some (.int .u64 0) := (hbel.cell (p := ⟨w.heap.size, 11, none⟩) (Nat.lt_succ_self _)).trans (BOX.out.cell 11)
    have o12 : wr.cell? ⟨w.heap.size, 12, none⟩ = some (.int .u64 dl) := (hbel.cell (p := ⟨w.heap.size, 12, none⟩) (Nat.lt_succ_self _)).trans (BOX.out.cell 12)
    have o13 : wr.cell? ⟨w.heap.size, 13, none⟩ = some (.slice AO no co) := (hbel.cell (p := ⟨w.heap.size, 13, none⟩) (Nat.lt_succ_self _)).trans (BOX.out.cell 13)
    clear hbel
    have hcase : j = 0 ∨ j = 1 ∨ j = 2 ∨ j = 3 ∨ j = 4 ∨ j = 5 := by omega
    rcases hcase with rfl | rfl | rfl | rfl | rfl | rfl
    · have q1 : decide (tos < 0) = false := decide_eq_false (by omega)
      have q2 : decide (255 < tos) = false := decide_eq_false (by omega)
      clear o7 o8 o9 o10 o11 o12 o13
      go_wp2_with fail
      go_roundw
      case rel => exact ⟨1, by omega, by go_num, HB.out.alloc HS.out _⟩
      case measure => simp [intOf]
    · have q1 : decide (ttl < 0) = false := decide_eq_false (by omega)
      have q2 : decide (255 < ttl) = false := decide_eq_false (by omega)
      clear o7 o8 o9 o10 o11 o12 o13
      go_wp2_with fail
      go_roundw
      case rel => exact ⟨2, by omega, by go_num, HB.out.alloc HS.out _⟩
      case measure => simp [intOf]
    · have q1 : decide (pr < 0) = false := decide_eq_false (by omega)
      have q2 : decide (255 < pr) = false := decide_eq_false (by omega)
      clear o7 o8 o9 o10 o11 o12 o13
      go_wp2_with fail
      go_roundw
      case rel => exact ⟨3, by omega, by go_num, HB.out.alloc HS.out _⟩
      case measure => simp [intOf]
    · have q1 : decide (id < 0) = false := decide_eq_false (by omega)
      have q2 : decide (65535 < id) = false := decide_eq_false (by omega)
      clear o7 o8 o9 o10 o11 o12 o13
      go_wp2_with fail
      go_roundw
      case rel => exact ⟨4, by omega, by go_num, HB.out.alloc HS.out _⟩
      case measure => simp [intOf]
    · have q1 : decide (fr < 0) = false := decide_eq_false (by omega)
      have q2 : decide (8191 < fr) = false := decide_eq_false (by omega)
      clear o7 o8 o9 o10 o11 o12 o13
      go_wp2_with fail
      go_roundw
      case rel => exact ⟨5, by omega, by go_num, HB.out.alloc HS.out _⟩
      case measure => simp [intOf]
    · go_wp2_with fail
      clear o7 o8 o9 o10 o11 o12 o13
      obtain ⟨wo, rfl⟩ : ∃ wo : World, wo = wr := ⟨_, rfl⟩
      go_loopw [42, 6] (fun i _ wq => ∃ j : Nat, j ≤ 2 ∧ i = .int .i64 j ∧ Below (w.heap.size + 1) (w.alloc (.cells #[.int .i64 tos, .int .i64 id, .bool df, .bool mf, .int .i64 fr, .int .i64 ttl, .int .i64 pr, .bool false, .int .u64 0, .int .u64 sl, .bool false, .int .u64 0, .int .u64 dl, .slice AO no co] 53)) wq) (fun i _ _ => 2 - (intOf i).toNat)
      case atStart => exact ⟨0, by omega, rfl, HB.out⟩
      case round =>
        obtain ⟨j, hj, rfl, hbel⟩ := hrel
        have HB2 := Lib.hid hbel
        have HS2 := Lib.hid (show w.heap.size + 1 ≤ _ from Nat.le_trans (Nat.le_of_eq HZ.out.symm) hbel.size)
        have o13 : wr.cell? ⟨w.heap.size, 13, none⟩ = some (.slice AO no co) := (hbel.cell (p := ⟨w.heap.size, 13, none⟩) (Nat.lt_succ_self _)).trans (BOX.out.cell 13)
        clear hbel
        have hcase : j = 0 ∨ j = 1 ∨ j = 2 := by omega
        rcases hcase with rfl | rfl | rfl
        · clear o13
          go_wp2_with fail
          refine (HA1.out _).mono ?_
          rintro e w5 ⟨rfl, hb5⟩
          have HB5 := Lib.hid ((HB2.out.alloc HS2.out _).trans (hb5.mono (Nat.le_trans HS2.out (Below.size ((Below.refl 0 _).alloc (Nat.zero_le _) _)))))
          clear hb5
          go_wp2_with fail
          go_roundw
          case rel => first | exact ⟨1, by omega, by go_num, HB5.out⟩ | ((repeat apply Exists.intro); exact ⟨⟨1, by omega, by go_num, HB5.out⟩, rfl⟩)
          case measure => simp [intOf]
        · clear o13
          go_wp2_with fail
          refine (HA2.out _).mono ?_
          rintro e w5 ⟨rfl, hb5⟩
          have HB5 := Lib.hid ((HB2.out.alloc HS2.out _).trans (hb5.mono (Nat.le_trans HS2.out (Below.size ((Below.refl 0 _).alloc (Nat.zero_le _) _)))))
          clear hb5
          go_wp2_with fail
          go_roundw
          case rel => first | exact ⟨2, by omega, by go_num, HB5.out⟩ | ((repeat apply Exists.intro); exact ⟨⟨2, by omega, by go_num, HB5.out⟩, rfl⟩)
          case measure => simp [intOf]
        · go_wp2_with fail
          go_ret
          exact ⟨rfl, HBX.out.trans (HB2.out.mono (Nat.le_succ _))⟩
end Go.Proofs.Ytodckfgfbcnkoaa.fourC
/- Layer 8: the law's bytes of a packet. -/
namespace Go.Proofs.Ytodckfgfbcnkoaa.fourD
open Go.ChangeShapes Go.WideShapes Go.ChangeAt Go.RowKit
set_option linter.unusedVariables false

def hk (tos id fl ttl pr sl dl ck sz : Int) (os : List Int) : List Int := [64 + (20 + (os.length : Int)) / 4, tos, sz / 256, sz % 256, id / 256, id % 256, fl / 256, fl % 256, ttl, pr, ck / 256, ck % 256, sl / 65536 / 256, sl / 65536 % 256, sl % 65536 / 256, sl % 65536 % 256, dl / 65536 / 256, dl / 65536 % 256, dl % 65536 / 256, dl % 65536 % 256] ++ os
theorem hk_len (tos id fl ttl pr sl dl ck sz : Int) (os : List Int) : (hk tos id fl ttl pr sl dl ck sz os).length = 20 + os.length := by simp [hk]; omega
theorem hk_in (tos id fl ttl pr sl dl ck sz : Int) (os : List Int) (h1 : 0 ≤ tos ∧ tos ≤ 255) (h2 : 0 ≤ id ∧ id ≤ 65535) (h3 : 0 ≤ fl ∧ fl ≤ 65535) (h4 : 0 ≤ ttl ∧ ttl ≤ 255) (h5 : 0 ≤ pr ∧ pr ≤ 255) (h6 : 0 ≤ sl ∧ sl ≤ 4294967295) (h7 : 0 ≤ dl ∧ dl ≤ 4294967295) (h8 : 0 ≤ ck ∧ ck ≤ 65535) (h9 : 0 ≤ sz ∧ sz ≤ 65535) (ho : os.length ≤ 40) (hx : ∀ x ∈ os, 0 ≤ x ∧ x ≤ 255) : ∀ x ∈ hk tos id fl ttl pr sl dl ck sz os, 0 ≤ x ∧ x ≤ 255 := by
  intro x h
  unfold hk at h
  rw [List.mem_append] at h
  rcases h with h | h
  · simp only [List.mem_cons, List.not_mem_nil, or_false] at h
    rcases h with h | h | h | h | h | h | h | h | h | h | h | h | h | h | h | h | h | h | h | h <;> (subst h; omega)
  · exact hx x h
end Go.Proofs.Ytodckfgfbcnkoaa.fourD
